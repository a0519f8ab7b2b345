/-
  crosswaylaw17.WheelDue returns true for every input, and leaves its arguments alone.
  Conditions: none of our own.
-/
import Derived.Test.YthkjfgegmbdebaaWhL
namespace Go.Proofs.Ythkjfgegmbdebaa
open Go.ChangeShapes Go.WideShapes Go.ChangeAt Go.RowKit
set_option linter.unusedVariables false
namespace WDue
theorem add_is {L : List TmI} {D : List Int} (hR : RelD L D) (hl : L.length < 1000) (t a : Nat) (after : Int) :
    (addE L (D.length : Int) after = 0 ∧ ∃ af : Nat, after = (af : Int) ∧ 1 ≤ af ∧ af ≤ 4095 ∧ addL L t a (D.length : Int) after = L ++ [((D.length : Int), t + af, a)] ∧ addA L a (D.length : Int) after = a + 1) ∨
    (addE L (D.length : Int) after = 1 ∧ addL L t a (D.length : Int) after = L ∧ addA L a (D.length : Int) after = a) := by
  have h0 := hR.fresh
  by_cases h : after < 1 ∨ 4095 < after
  · right
    have he : addE L (D.length : Int) after = 1 := by unfold addE; rw [if_pos h]
    exact ⟨he, by unfold addL; rw [he]; rfl, by unfold addA; rw [he]; rfl⟩
  · left
    have he : addE L (D.length : Int) after = 0 := by unfold addE; rw [if_neg h, if_neg (by omega), if_neg (by omega)]
    exact ⟨he, after.toNat, by omega, by omega, by omega, by unfold addL; rw [if_pos he], by unfold addA; rw [if_pos he]⟩
theorem at_d {D : List Int} {j : Nat} (h : j < D.length) : ∃ d, D[j]? = some d := ⟨_, List.getElem?_eq_getElem h⟩
set_option maxRecDepth 100000 in
set_option maxHeartbeats 16000000 in
theorem walk (w : World) (a0 : Option Addr) (l0 c0 : Nat) (z0 : List Stp) (w0 : IsStp w a0 l0 z0) :
    Calls Try.prog 4 #[.slice a0 l0 c0] w fun e w' => e = .returned (.bool true) ∧ Below w.heap.size w w' := by
  have HZ := Lib.hid w0
  clear w0
  go_enter Try.func4, Try.ntmps4
  go_wp2_with fail
  refine Calls.mono (awake_yes w) ?_
  rintro e x1 ⟨rfl, hb1⟩
  have B1 := Lib.hid hb1
  have HNw := Lib.hid (newS x1)
  clear hb1
  go_wp2_with fail
  refine Calls.mono HNw.out ?_
  rintro e x2 ⟨p, F2, rfl, hE⟩
  have E2 : Hid (Std w x2 p 0 0 [] F2) := Lib.hid ⟨hE.wh, B1.out.trans (hE.bel.mono B1.out.size), fun s h => Nat.le_trans B1.out.size (hE.abv s h)⟩
  clear hE HNw
  go_wp2
  go_loopw [5, 6] (fun dv iv wr => ∃ (j t a : Nat) (L : List TmI) (F : List Nat) (A : Option Addr) (c : Nat) (D : List Int), dv = .slice A j c ∧ iv = .int .i64 (j : Int) ∧ j ≤ l0 ∧ j ≤ 60 ∧ Hid (t ≤ 600 * j ∧ a ≤ j ∧ L.length ≤ j) ∧ Hid (RelD L D) ∧ Hid (Std w wr p t a L F) ∧ Hid (DR w wr F A j c D)) (fun _ iv _ => 60 - (intOf iv).toNat)
  case atStart => exact ⟨0, 0, 0, [], F2, none, 0, [], rfl, rfl, Nat.zero_le _, by omega, Lib.hid ⟨by omega, by omega, by simp⟩, Lib.hid RelD.nil, E2, Lib.hid ⟨⟨rfl, .inl ⟨rfl, rfl⟩⟩, by simp [obI, Value.ownBlock]⟩⟩
  case round =>
    obtain ⟨j, t, a, L, F, A, c, D, rfl, rfl, hj, hj2, hA, hRl, hE, hD⟩ := hrel
    by_cases hlt : j < l0 ∧ j < 60
    · obtain ⟨h1, h2⟩ := hlt
      obtain ⟨g, o, q1, q2, q3, rfl, hg, -, -, v2, v3, hcl⟩ := HZ.out.step h1
      have HCl := Lib.hid hcl
      have hjI : (j : Int) < l0 := by omega
      have hjI2 : (j : Int) < 60 := by omega
      have hj0 : (0 : Int) ≤ j := by omega
      have j3 : IntKind.i64.wrap ((j : Int) + 1) = (j : Int) + 1 := by rw [IntKind.wrap_i64]; omega
      have k3 := i64_and3 q1
      have hm3 : 0 ≤ q1 % 4 ∧ q1 % 4 < 4 := by omega
      obtain ⟨kd, hkd⟩ : ∃ kd, q1 % 4 = kd := ⟨_, rfl⟩
      rw [hkd] at k3 hm3
      have HJ := Lib.hid (And.intro h1 (And.intro h2 (And.intro hjI (And.intro hj0 j3))))
      have HV := Lib.hid (And.intro v2 v3)
      have hcs : (kd = 0 ∨ kd = 1) ∨ kd = 2 ∨ kd = 3 := by omega
      have HDl := Lib.hid hD.out.len
      have HT0 : Hid (Tch wr (wr.alloc (.cells #[.int .i64 (-1)] 3)) []) := Lib.hid ((Tch.refl wr []).alloc _)
      have HR0 := Lib.hid (own_tch hD.out.own HT0.out (by simp))
      have HSr := Lib.hid (src_new wr 3 [.int .i64 (-1)])
      have HN0 : Hid (j ≤ 1000000) := Lib.hid (by omega)
      clear hkd v2 v3 hcl hm3
      rcases hcs with hcs | rfl | rfl
      · have hq := add_is hRl.out (by have := hA.out; omega) t a q3
        rw [HDl.out] at hq
        rcases hcs with rfl | rfl
        all_goals
          rcases hq with ⟨he, af, rfl, haf1, haf2, hl, ha⟩ | ⟨he, hl, ha⟩
          · go_wp2_with (at_builtin; (refine wpList_apc 34 3 (.int .i64 0) 1 8 Try.underlying34 infoI rfl (by decide) (by decide) _ rfl (.tmp 31) (.tmp 32) rfl 0 (.slice A j c) j (ints D) rfl HR0.out ⟨wr.heap.size, 0, none⟩ 1 [.int .i64 (-1)] rfl rfl (fun j u hj => HSr.out j u hj) (by simp [Value.oneCell']) HN0.out (Nat.zero_le _) ?_; intro v9 w9 hown hg9 hv; obtain ⟨A9, c9, e9, -, hA9⟩ := own_sl hown; subst e9; have hTg := Tch.of_grown' (S := obI (.slice A j c)) hg9 (fun k e => by rw [obI_some e]; simp); have HT9 : Hid (Tch wr w9 (obI (.slice A j c))) := Lib.hid ((HT0.out.mono (by simp)).trans hTg); have HE9 : Hid (Std w w9 p t a L F) := Lib.hid (hE.out.tchN HT9.out hD.out.non); have HD9 : Hid (DR w w9 F A9 (j + 1) c9 (D ++ [-1])) := Lib.hid ⟨by rw [ints_app]; exact hown, fun s hs => by (rcases hv with hv | hv; (exact hD.out.non s (by unfold obI at hs ⊢; rw [hv] at hs; exact hs)); (rw [obI_some hv] at hs; have h7 : s = wr.heap.size + 1 := (List.mem_singleton.1 hs).trans (World.size_alloc _ _); exact ⟨fun h8 => (by have := hE.out.wh.lt s h8; omega), by have := hE.out.bel.size; omega⟩))⟩; obtain ⟨g9, hg9', -⟩ := hA9 (Nat.succ_pos j); subst hg9'; obtain ⟨c0, c1, c2⟩ := HCl.out w9 HE9.out.bel; clear hown hg9 hv hTg hA9))
            obtain ⟨W, hW⟩ : ∃ W, w9.alloc (.cells #[.int .i64 q1, .int .i64 q2, .int .i64 (af : Int)] 29) = W := ⟨_, rfl⟩
            obtain ⟨xb, hxb⟩ : ∃ xb, w9.heap.size = xb := ⟨_, rfl⟩
            have HTW : Hid (Tch w9 W []) := Lib.hid (hW ▸ (Tch.refl w9 []).alloc _)
            have HXb : Hid (Blk W xb 29 #[.int .i64 q1, .int .i64 q2, .int .i64 (af : Int)]) := Lib.hid (hW ▸ hxb ▸ Blk.new w9 _ _)
            have HAdd := (HE9.out.tch0 HTW.out).add (j : Int) (af : Int) (by have := hA.out; omega) (by have := hA.out; omega)
            rw [he, hl, ha] at HAdd
            have HAdd := Lib.hid HAdd
            have HW := Lib.hid (And.intro hW hxb)
            have HR1 := Lib.hid (hRl.out.some (t + af) a)
            rw [HDl.out] at HR1
            have t1 : IntKind.i64.wrap ((t : Int) + (af : Int)) = (t : Int) + (af : Int) := by have := hA.out; rw [IntKind.wrap_i64]; omega
            have HAf := Lib.hid (And.intro haf1 haf2)
            clear he hl ha c0 c1 c2 haf1 haf2 hW hxb
            rw [HW.out.1, HW.out.2]
            refine Calls.mono HAdd.out ?_
            rintro e w5 ⟨rfl, F5, hE5, hG5⟩
            have E5 := Lib.hid hE5
            have HD5 := Lib.hid ((HD9.out.tch0 HTW.out).go hG5)
            have HXb5 : Hid (xb ∉ F) := Lib.hid (fun e => by have := HE9.out.wh.lt xb e; have := HW.out.2; omega)
            have HB5 := Lib.hid (hG5.tch.blk HXb.out HXb5.out)
            obtain ⟨b0, b1, b2⟩ := HB5.out.t3
            have HGx : Hid (g9 ≠ xb) := Lib.hid (by have h1 := own_lts HD9.out.own g9 (by simp [obI, Value.ownBlock]); have h2 := HW.out.2; omega)
            obtain ⟨d0, f0⟩ := HD5.out.cell (i := j) (d := -1) (by rw [List.getElem?_append_right (by rw [HDl.out]; exact Nat.le_refl _), HDl.out, Nat.sub_self]; rfl)
            have d1 : w5.drew.cell? ⟨g9, j, none⟩ = some (.int .i64 (-1)) := d0
            have f1 : w5.drew.frozen? ⟨g9, j, none⟩ = false := f0
            have HB6 : Hid (w5.drew.cell? ⟨xb, 2, none⟩ = some (.int .i64 (af : Int)) ∧ (w5.drew.setCell ⟨g9, j, none⟩ (.int .i64 ((t : Int) + (af : Int)))).cell? ⟨xb, 2, none⟩ = some (.int .i64 (af : Int))) := Lib.hid (And.intro b2 ((((Tch.refl w5.drew [g9]).set_ (p := ⟨g9, j, none⟩) (by simp) _).cell (p := ⟨xb, 2, none⟩) HB5.out.lt (by simpa using HGx.out.symm)).trans b2))
            have jj : (j : Int) < (j : Int) + 1 := by omega
            have HN6 := Lib.hid ((E5.out.tch0 ((Tch.refl w5 []).drew)).now)
            clear hG5 hE5 d0 f0 b0 b1 b2
            go_wp2
            refine wp_region_held_drew (S := (fun W => W.cell? ⟨xb, 2, none⟩ = some (.int .i64 (af : Int)))) (by kernel_rfl) ?_ (fun hHeld => ?_)
            · (exact HB6.out.1)
            refine wpAnyH_take (i := 0) (oi := { dst := some 91, op := Go.Op.move (Go.Operand.tmp 5), type := 34, pos := "law.go:94", after := #[], guard := none }) (v := ?_) rfl (by kernel_rfl) (by kernel_rfl) (by kernel_rfl) (fun _ _ _ h => h) (Or.inl ⟨by rfl, ?_⟩) (by assumption) ?_
            rotate_left
            · intro w hSw
              (try dsimp only at hSw)
              go_simp
              try (with_reducible rfl)
            try simp only [Act.put, List.setIfInBounds_toArray, List.set_cons_zero, List.set_cons_succ]
            refine wpAnyH_take (i := 1) (oi := { dst := some 92, op := Go.Op.move (Go.Operand.tmp 6), type := 3, pos := "law.go:94", after := #[], guard := none }) (v := ?_) rfl (by kernel_rfl) (by kernel_rfl) (by kernel_rfl) (fun _ _ _ h => h) (Or.inl ⟨by rfl, ?_⟩) (by assumption) ?_
            rotate_left
            · intro w hSw
              (try dsimp only at hSw)
              go_simp
              try (with_reducible rfl)
            try simp only [Act.put, List.setIfInBounds_toArray, List.set_cons_zero, List.set_cons_succ]
            refine wpAnyH_take (i := 2) (oi := { dst := some 93, op := Go.Op.move (Go.Operand.tmp 4), type := 24, pos := "law.go:94", after := #[], guard := none }) (v := ?_) rfl (by kernel_rfl) (by kernel_rfl) (by kernel_rfl) (fun _ _ _ h => h) (Or.inl ⟨by rfl, ?_⟩) (by assumption) ?_
            rotate_left
            · intro w hSw
              (try dsimp only at hSw)
              go_simp
              try (with_reducible rfl)
            try simp only [Act.put, List.setIfInBounds_toArray, List.set_cons_zero, List.set_cons_succ]
            refine wpAnyH_take (i := 4) (oi := { dst := some 95, op := Go.Op.fieldAddr 29 (Go.Operand.tmp 7) 2, type := 0, pos := "law.go:94", after := #[], guard := none }) (v := ?_) rfl (by kernel_rfl) (by kernel_rfl) (by kernel_rfl) (fun _ _ _ h => h) (Or.inl ⟨by rfl, ?_⟩) (by assumption) ?_
            rotate_left
            · intro w hSw
              (try dsimp only at hSw)
              go_simp
              try (with_reducible rfl)
            try simp only [Act.put, List.setIfInBounds_toArray, List.set_cons_zero, List.set_cons_succ]
            refine wpAnyH_take (i := 5) (oi := { dst := some 96, op := Go.Op.load 3 (Go.Operand.tmp 95), type := 3, pos := "law.go:94", after := #[{ on := 4, ground := Go.Ground.data }], guard := none }) (v := ?_) rfl (by kernel_rfl) (by kernel_rfl) (by kernel_rfl) (fun _ _ _ h => h) (Or.inl ⟨by rfl, ?_⟩) (by assumption) ?_
            rotate_left
            · intro w hSw
              (try dsimp only at hSw)
              go_simp
              try (with_reducible rfl)
            try simp only [Act.put, List.setIfInBounds_toArray, List.set_cons_zero, List.set_cons_succ]
            refine wpAnyH_ready (rs := [3]) (by kernel_rfl) (by simp) ?_
            refine AllReadyH.cons (o := { dst := some 94, op := Go.Op.call { callee := Go.Callee.value (Go.Operand.func 21), args := #[Go.Operand.tmp 93], argTypes := #[24] }, type := 3, pos := "law.go:94", after := #[{ on := 2, ground := Go.Ground.data }], guard := none }) rfl (fun K hK => ?_) AllReadyH.nil
            go_simp
            (go_at_call 21; (with_reducible refine Calls.mono HN6.out ?_); rintro e W' ⟨rfl, rfl⟩)
            go_wp2_with fail
            refine hK.out _ _ ?_ (fun hHeld => ?_)
            · (exact HB6.out.1)
            clear hK K
            try simp only [Act.put, List.setIfInBounds_toArray, List.set_cons_zero, List.set_cons_succ]
            refine wpAnyH_take (i := 6) (oi := { dst := some 97, op := Go.Op.binOp Go.BinOp.add 3 (Go.Operand.tmp 94) (Go.Operand.tmp 96) 3, type := 3, pos := "law.go:94", after := #[{ on := 3, ground := Go.Ground.data }, { on := 5, ground := Go.Ground.data }], guard := none }) (v := ?_) rfl (by kernel_rfl) (by kernel_rfl) (by kernel_rfl) (fun _ _ _ h => h) (Or.inl ⟨by rfl, ?_⟩) (by assumption) ?_
            rotate_left
            · intro w hSw
              (try dsimp only at hSw)
              go_simp
              try (with_reducible rfl)
            try simp only [Act.put, List.setIfInBounds_toArray, List.set_cons_zero, List.set_cons_succ]
            refine wpAnyH_take (i := 7) (oi := { dst := some 98, op := Go.Op.indexAddr 34 (Go.Operand.tmp 91) (Go.Operand.tmp 92), type := 0, pos := "law.go:94", after := #[{ on := 0, ground := Go.Ground.data }, { on := 1, ground := Go.Ground.data }, { on := 0, ground := Go.Ground.phase }, { on := 1, ground := Go.Ground.phase }, { on := 2, ground := Go.Ground.phase }, { on := 3, ground := Go.Ground.phase }, { on := 4, ground := Go.Ground.phase }, { on := 5, ground := Go.Ground.phase }, { on := 6, ground := Go.Ground.phase }], guard := none }) (v := ?_) rfl (by kernel_rfl) (by kernel_rfl) (by kernel_rfl) (fun _ _ _ h => h) (Or.inl ⟨by rfl, ?_⟩) (by assumption) ?_
            rotate_left
            · intro w hSw
              (try dsimp only at hSw)
              go_simp
              try (with_reducible rfl)
            try simp only [Act.put, List.setIfInBounds_toArray, List.set_cons_zero, List.set_cons_succ]
            refine wpAnyH_ready (rs := [8]) (by kernel_rfl) (by simp) ?_
            refine AllReadyH.cons (o := { dst := none, op := Go.Op.store 3 (Go.Operand.tmp 98) (Go.Operand.tmp 97), type := 0, pos := "law.go:94", after := #[{ on := 7, ground := Go.Ground.data }, { on := 6, ground := Go.Ground.data }, { on := 3, ground := Go.Ground.chain }, { on := 0, ground := Go.Ground.phase }, { on := 1, ground := Go.Ground.phase }, { on := 2, ground := Go.Ground.phase }, { on := 3, ground := Go.Ground.phase }, { on := 4, ground := Go.Ground.phase }, { on := 5, ground := Go.Ground.phase }, { on := 6, ground := Go.Ground.phase }], guard := none }) rfl (fun K hK => ?_) AllReadyH.nil
            go_simp
            refine hK.out _ _ ?_ (fun hHeld => ?_)
            · (exact HB6.out.2)
            clear hK K
            try simp only [Act.put, List.setIfInBounds_toArray, List.set_cons_zero, List.set_cons_succ]
            refine wpAnyH_done (by kernel_rfl) ?_ _
            obtain ⟨hD6, hT6⟩ := (HD5.out.tch0 ((Tch.refl w5 []).drew)).set_ (i := j) (Nat.lt_succ_self j) ((t : Int) + (af : Int))
            have hset : (D ++ [-1]).set j ((t : Int) + (af : Int)) = D ++ [((t + af : Nat) : Int)] := by
              rw [List.set_append, if_neg (by rw [HDl.out]; exact Nat.lt_irrefl _), HDl.out, Nat.sub_self]; simp
            rw [hset] at hD6
            have HD6 := Lib.hid hD6
            have HE6 := Lib.hid ((E5.out.tch0 ((Tch.refl w5 []).drew)).tchN hT6 (fun s hs => HD5.out.non s (by rw [List.mem_singleton.1 hs]; simp [obI, Value.ownBlock])))
            clear d1 f1 t1 jj hD6 hT6
            go_wp2
            go_roundw
            case rel => exact ⟨j + 1, t, a + 1, L ++ [((j : Int), t + af, a)], F5, some ⟨g9, 0, none⟩, c9, D ++ [((t + af : Nat) : Int)], rfl, by go_num, HJ.out.1, HJ.out.2.1, Lib.hid (by have := hA.out; rw [List.length_append]; simp; omega), HR1, HE6, HD6⟩
            case measure => have := HJ.out; simp [intOf]; omega
          · go_wp2_with (at_builtin; (refine wpList_apc 34 3 (.int .i64 0) 1 8 Try.underlying34 infoI rfl (by decide) (by decide) _ rfl (.tmp 31) (.tmp 32) rfl 0 (.slice A j c) j (ints D) rfl HR0.out ⟨wr.heap.size, 0, none⟩ 1 [.int .i64 (-1)] rfl rfl (fun j u hj => HSr.out j u hj) (by simp [Value.oneCell']) HN0.out (Nat.zero_le _) ?_; intro v9 w9 hown hg9 hv; obtain ⟨A9, c9, e9, -, hA9⟩ := own_sl hown; subst e9; have hTg := Tch.of_grown' (S := obI (.slice A j c)) hg9 (fun k e => by rw [obI_some e]; simp); have HT9 : Hid (Tch wr w9 (obI (.slice A j c))) := Lib.hid ((HT0.out.mono (by simp)).trans hTg); have HE9 : Hid (Std w w9 p t a L F) := Lib.hid (hE.out.tchN HT9.out hD.out.non); have HD9 : Hid (DR w w9 F A9 (j + 1) c9 (D ++ [-1])) := Lib.hid ⟨by rw [ints_app]; exact hown, fun s hs => by (rcases hv with hv | hv; (exact hD.out.non s (by unfold obI at hs ⊢; rw [hv] at hs; exact hs)); (rw [obI_some hv] at hs; have h7 : s = wr.heap.size + 1 := (List.mem_singleton.1 hs).trans (World.size_alloc _ _); exact ⟨fun h8 => (by have := hE.out.wh.lt s h8; omega), by have := hE.out.bel.size; omega⟩))⟩; obtain ⟨g9, hg9', -⟩ := hA9 (Nat.succ_pos j); subst hg9'; obtain ⟨c0, c1, c2⟩ := HCl.out w9 HE9.out.bel; clear hown hg9 hv hTg hA9))
            obtain ⟨W, hW⟩ : ∃ W, w9.alloc (.cells #[.int .i64 q1, .int .i64 q2, .int .i64 q3] 29) = W := ⟨_, rfl⟩
            have HTW : Hid (Tch w9 W []) := Lib.hid (hW ▸ (Tch.refl w9 []).alloc _)
            have HAdd := (HE9.out.tch0 HTW.out).add (j : Int) q3 (by have := hA.out; omega) (by have := hA.out; omega)
            rw [he, hl, ha] at HAdd
            have HAdd := Lib.hid HAdd
            have HW := Lib.hid hW
            have HR1 := Lib.hid hRl.out.none
            clear he hl ha c0 c1 c2 hW
            rw [HW.out]
            refine Calls.mono HAdd.out ?_
            rintro e w5 ⟨rfl, F5, hE5, hG5⟩
            have E5 := Lib.hid hE5
            have HD5 := Lib.hid ((HD9.out.tch0 HTW.out).go hG5)
            clear hG5 hE5
            go_wp2
            go_roundw
            case rel => exact ⟨j + 1, t, a, L, F5, some ⟨g9, 0, none⟩, c9, D ++ [-1], rfl, by go_num, HJ.out.1, HJ.out.2.1, Lib.hid (by have := hA.out; omega), HR1, E5, HD5⟩
            case measure => have := HJ.out; simp [intOf]; omega
      · have hv2 := HV.out.1
        have hab := absI_le hv2
        have hn := fun h => abs_neg (c := q2) hv2 h
        have hp := fun h => abs_pos (c := q2) h
        obtain ⟨y, hy⟩ : ∃ y, absI q2 = y := ⟨_, rfl⟩
        rw [hy] at hab hn hp
        obtain ⟨kk, hkk⟩ : ∃ kk, y % (j + 1) = kk := ⟨_, rfl⟩
        have hkj : kk < j + 1 := by rw [← hkk]; exact Nat.mod_lt _ (by omega)
        have r1 : Int.tmod (y : Int) ((j : Int) + 1) = (kk : Int) := by rw [show (j : Int) + 1 = ((j + 1 : Nat) : Int) by omega, rem_nat, hkk]
        have r2 : IntKind.i64.wrap (kk : Int) = (kk : Int) := by rw [IntKind.wrap_i64]; omega
        have r0 : ¬ ((j : Int) + 1) = 0 := by omega
        have k0 : (0 : Int) ≤ (kk : Int) := by omega
        have kI : (kk : Int) < (j : Int) + 1 := by omega
        obtain ⟨d, hd⟩ := at_d (D := D ++ [-1]) (j := kk) (by rw [List.length_append, HDl.out]; simp; omega)
        have hhas := hRl.out.none.has (k := kk)
        obtain ⟨b, hb⟩ : ∃ b, decide (wAt L (kk : Int) ≠ 0) = b := ⟨_, rfl⟩
        have hdb : decide ((0 : Int) ≤ d) = b := by
          rw [← hb, decide_eq_decide, hhas]
          constructor
          · intro h; exact ⟨d, hd, h⟩
          · rintro ⟨d', h1, h2⟩
            rw [hd] at h1; injection h1 with h1; rw [h1]; exact h2
        have HB := Lib.hid (And.intro hb hdb)
        have HDd := Lib.hid hd
        have HR1 := Lib.hid (hRl.out.none.can kk)
        have HK := Lib.hid (And.intro r1 (And.intro r2 (And.intro r0 (And.intro k0 (And.intro kI hkj)))))
        clear hv2 hab hy hkk hkj hd hhas hb hdb
        by_cases hc : q2 < 0
        · obtain ⟨u1, u2⟩ := hn hc
          clear hn hp
          go_wp2_with (at_builtin; (refine wpList_apc 34 3 (.int .i64 0) 1 8 Try.underlying34 infoI rfl (by decide) (by decide) _ rfl (.tmp 31) (.tmp 32) rfl 0 (.slice A j c) j (ints D) rfl HR0.out ⟨wr.heap.size, 0, none⟩ 1 [.int .i64 (-1)] rfl rfl (fun j u hj => HSr.out j u hj) (by simp [Value.oneCell']) HN0.out (Nat.zero_le _) ?_; intro v9 w9 hown hg9 hv; obtain ⟨A9, c9, e9, -, hA9⟩ := own_sl hown; subst e9; have hTg := Tch.of_grown' (S := obI (.slice A j c)) hg9 (fun k e => by rw [obI_some e]; simp); have HT9 : Hid (Tch wr w9 (obI (.slice A j c))) := Lib.hid ((HT0.out.mono (by simp)).trans hTg); have HE9 : Hid (Std w w9 p t a L F) := Lib.hid (hE.out.tchN HT9.out hD.out.non); have HD9 : Hid (DR w w9 F A9 (j + 1) c9 (D ++ [-1])) := Lib.hid ⟨by rw [ints_app]; exact hown, fun s hs => by (rcases hv with hv | hv; (exact hD.out.non s (by unfold obI at hs ⊢; rw [hv] at hs; exact hs)); (rw [obI_some hv] at hs; have h7 : s = wr.heap.size + 1 := (List.mem_singleton.1 hs).trans (World.size_alloc _ _); exact ⟨fun h8 => (by have := hE.out.wh.lt s h8; omega), by have := hE.out.bel.size; omega⟩))⟩; obtain ⟨g9, hg9', -⟩ := hA9 (Nat.succ_pos j); subst hg9'; obtain ⟨c0, c1, c2⟩ := HCl.out w9 HE9.out.bel; clear hown hg9 hv hTg hA9))
          obtain ⟨W, hW⟩ : ∃ W, w9.alloc (.cells #[.int .i64 q1, .int .i64 q2, .int .i64 q3] 29) = W := ⟨_, rfl⟩
          obtain ⟨xb, hxb⟩ : ∃ xb, w9.heap.size = xb := ⟨_, rfl⟩
          have HTW : Hid (Tch w9 W []) := Lib.hid (hW ▸ (Tch.refl w9 []).alloc _)
          have HW := Lib.hid (And.intro hW hxb)
          have HEW := Lib.hid (HE9.out.tch0 HTW.out)
          have HDW := Lib.hid (HD9.out.tch0 HTW.out)
          clear hW hxb c0 c1 c2
          rw [HW.out.1, HW.out.2]
          have HCa := (HEW.out.tch0 ((Tch.refl W []).drew)).cancel (kk : Int) (by have := hA.out; omega)
          rw [HB.out.1] at HCa
          have HCa := Lib.hid HCa
          obtain ⟨d0, f0⟩ := HDW.out.cell HDd.out
          have HS : Hid (W.drew.cell? ⟨g9, kk, none⟩ = some (.int .i64 d)) := Lib.hid d0
          have hdb := HB.out.2
          clear d0 f0
          refine wp_region_held_drew (S := (fun W => W.cell? ⟨g9, kk, none⟩ = some (.int .i64 d))) (by kernel_rfl) ?_ (fun hHeld => ?_)
          · (first | exact HS.out | exact HS4.out)
          refine wpAnyH_take (i := 0) (oi := { dst := some 112, op := Go.Op.move (Go.Operand.tmp 4), type := 24, pos := "law.go:102", after := #[], guard := none }) (v := ?_) rfl (by kernel_rfl) (by kernel_rfl) (by kernel_rfl) (fun _ _ _ h => h) (Or.inl ⟨by rfl, ?_⟩) (by assumption) ?_
          rotate_left
          · intro w hSw
            (try dsimp only at hSw)
            go_simp
            try (with_reducible rfl)
          try simp only [Act.put, List.setIfInBounds_toArray, List.set_cons_zero, List.set_cons_succ]
          refine wpAnyH_take (i := 1) (oi := { dst := some 113, op := Go.Op.move (Go.Operand.tmp 8), type := 3, pos := "law.go:102", after := #[], guard := none }) (v := ?_) rfl (by kernel_rfl) (by kernel_rfl) (by kernel_rfl) (fun _ _ _ h => h) (Or.inl ⟨by rfl, ?_⟩) (by assumption) ?_
          rotate_left
          · intro w hSw
            (try dsimp only at hSw)
            go_simp
            try (with_reducible rfl)
          try simp only [Act.put, List.setIfInBounds_toArray, List.set_cons_zero, List.set_cons_succ]
          refine wpAnyH_take (i := 3) (oi := { dst := some 115, op := Go.Op.move (Go.Operand.tmp 5), type := 34, pos := "law.go:102", after := #[], guard := none }) (v := ?_) rfl (by kernel_rfl) (by kernel_rfl) (by kernel_rfl) (fun _ _ _ h => h) (Or.inl ⟨by rfl, ?_⟩) (by assumption) ?_
          rotate_left
          · intro w hSw
            (try dsimp only at hSw)
            go_simp
            try (with_reducible rfl)
          try simp only [Act.put, List.setIfInBounds_toArray, List.set_cons_zero, List.set_cons_succ]
          refine wpAnyH_take (i := 4) (oi := { dst := some 116, op := Go.Op.move (Go.Operand.tmp 8), type := 3, pos := "law.go:102", after := #[], guard := none }) (v := ?_) rfl (by kernel_rfl) (by kernel_rfl) (by kernel_rfl) (fun _ _ _ h => h) (Or.inl ⟨by rfl, ?_⟩) (by assumption) ?_
          rotate_left
          · intro w hSw
            (try dsimp only at hSw)
            go_simp
            try (with_reducible rfl)
          try simp only [Act.put, List.setIfInBounds_toArray, List.set_cons_zero, List.set_cons_succ]
          refine wpAnyH_take (i := 5) (oi := { dst := some 117, op := Go.Op.indexAddr 34 (Go.Operand.tmp 115) (Go.Operand.tmp 116), type := 0, pos := "law.go:102", after := #[{ on := 3, ground := Go.Ground.data }, { on := 4, ground := Go.Ground.data }], guard := none }) (v := ?_) rfl (by kernel_rfl) (by kernel_rfl) (by kernel_rfl) (fun _ _ _ h => h) (Or.inl ⟨by rfl, ?_⟩) (by assumption) ?_
          rotate_left
          · intro w hSw
            (try dsimp only at hSw)
            go_simp
            try (with_reducible rfl)
          try simp only [Act.put, List.setIfInBounds_toArray, List.set_cons_zero, List.set_cons_succ]
          refine wpAnyH_take (i := 6) (oi := { dst := some 118, op := Go.Op.load 3 (Go.Operand.tmp 117), type := 3, pos := "law.go:102", after := #[{ on := 5, ground := Go.Ground.data }], guard := none }) (v := ?_) rfl (by kernel_rfl) (by kernel_rfl) (by kernel_rfl) (fun _ _ _ h => h) (Or.inl ⟨by rfl, ?_⟩) (by assumption) ?_
          rotate_left
          · intro w hSw
            (try dsimp only at hSw)
            go_simp
            try (with_reducible rfl)
          try simp only [Act.put, List.setIfInBounds_toArray, List.set_cons_zero, List.set_cons_succ]
          refine wpAnyH_take (i := 7) (oi := { dst := some 119, op := Go.Op.binOp Go.BinOp.geq 3 (Go.Operand.tmp 118) (Go.Operand.const (Go.Value.int Go.IntKind.i64 0)) 3, type := 4, pos := "law.go:102", after := #[{ on := 6, ground := Go.Ground.data }], guard := none }) (v := ?_) rfl (by kernel_rfl) (by kernel_rfl) (by kernel_rfl) (fun _ _ _ h => h) (Or.inl ⟨by rfl, ?_⟩) (by assumption) ?_
          rotate_left
          · intro w hSw
            (try dsimp only at hSw)
            go_simp
            try (with_reducible rfl)
          try simp only [Act.put, List.setIfInBounds_toArray, List.set_cons_zero, List.set_cons_succ]
          refine wpAnyH_ready (rs := [2]) (by kernel_rfl) (by simp) ?_
          refine AllReadyH.cons (o := { dst := some 114, op := Go.Op.call { callee := Go.Callee.value (Go.Operand.func 13), args := #[Go.Operand.tmp 112, Go.Operand.tmp 113], argTypes := #[24, 3] }, type := 4, pos := "law.go:102", after := #[{ on := 0, ground := Go.Ground.data }, { on := 1, ground := Go.Ground.data }], guard := none }) rfl (fun K hK => ?_) AllReadyH.nil
          go_simp
          (go_at_call 13; (with_reducible refine Calls.mono HCa.out ?_); rintro e w4 ⟨rfl, F4, hE4, hG4⟩; have E4 := Lib.hid hE4; have HG4 := Lib.hid hG4; have HS4 : Hid (w4.cell? ⟨g9, kk, none⟩ = some (.int .i64 d)) := Lib.hid (((HDW.out.tch0 ((Tch.refl W []).drew)).go hG4).cell HDd.out).1; clear hE4 hG4)
          go_wp2_with fail
          refine hK.out _ _ ?_ (fun hHeld => ?_)
          · (first | exact HS.out | exact HS4.out)
          clear hK K
          try simp only [Act.put, List.setIfInBounds_toArray, List.set_cons_zero, List.set_cons_succ]
          refine wpAnyH_take (i := 8) (oi := { dst := some 120, op := Go.Op.binOp Go.BinOp.neq 4 (Go.Operand.tmp 114) (Go.Operand.tmp 119) 4, type := 4, pos := "law.go:102", after := #[{ on := 2, ground := Go.Ground.data }, { on := 7, ground := Go.Ground.data }], guard := none }) (v := ?_) rfl (by kernel_rfl) (by kernel_rfl) (by kernel_rfl) (fun _ _ _ h => h) (Or.inl ⟨by rfl, ?_⟩) (by assumption) ?_
          rotate_left
          · intro w hSw
            (try dsimp only at hSw)
            go_simp
            try (with_reducible rfl)
          try simp only [Act.put, List.setIfInBounds_toArray, List.set_cons_zero, List.set_cons_succ]
          refine wpAnyH_done (by kernel_rfl) ?_ _
          have HD4 := Lib.hid ((HDW.out.tch0 ((Tch.refl W []).drew)).go HG4.out)
          have HBB : (b != b) = false := by cases b <;> rfl
          have kI := HK.out.2.2.2.2.1
          have k0 := HK.out.2.2.2.1
          obtain ⟨d0, f0⟩ := HD4.out.cell HDd.out
          cases b
          all_goals
            go_wp2
            obtain ⟨hD6, hT6⟩ := HD4.out.set_ (i := kk) HK.out.2.2.2.2.2 (-1)
            have HD6 := Lib.hid hD6
            have HE6 := Lib.hid (E4.out.tchN hT6 (fun s hs => HD4.out.non s (by rw [List.mem_singleton.1 hs]; simp [obI, Value.ownBlock])))
            clear hD6 hT6
            go_roundw
            case rel => exact ⟨j + 1, t, a, canL L (kk : Int), F4, some ⟨g9, 0, none⟩, c9, (D ++ [-1]).set kk (-1), rfl, by go_num, HJ.out.1, HJ.out.2.1, Lib.hid (by have := hA.out; have h2 : (canL L (kk : Int)).length ≤ L.length := List.length_filter_le _ _; omega), HR1, HE6, HD6⟩
            case measure => have := HJ.out; simp [intOf]; omega
        · have u5 := hp hc
          subst u5
          clear hn hp
          go_wp2_with (at_builtin; (refine wpList_apc 34 3 (.int .i64 0) 1 8 Try.underlying34 infoI rfl (by decide) (by decide) _ rfl (.tmp 31) (.tmp 32) rfl 0 (.slice A j c) j (ints D) rfl HR0.out ⟨wr.heap.size, 0, none⟩ 1 [.int .i64 (-1)] rfl rfl (fun j u hj => HSr.out j u hj) (by simp [Value.oneCell']) HN0.out (Nat.zero_le _) ?_; intro v9 w9 hown hg9 hv; obtain ⟨A9, c9, e9, -, hA9⟩ := own_sl hown; subst e9; have hTg := Tch.of_grown' (S := obI (.slice A j c)) hg9 (fun k e => by rw [obI_some e]; simp); have HT9 : Hid (Tch wr w9 (obI (.slice A j c))) := Lib.hid ((HT0.out.mono (by simp)).trans hTg); have HE9 : Hid (Std w w9 p t a L F) := Lib.hid (hE.out.tchN HT9.out hD.out.non); have HD9 : Hid (DR w w9 F A9 (j + 1) c9 (D ++ [-1])) := Lib.hid ⟨by rw [ints_app]; exact hown, fun s hs => by (rcases hv with hv | hv; (exact hD.out.non s (by unfold obI at hs ⊢; rw [hv] at hs; exact hs)); (rw [obI_some hv] at hs; have h7 : s = wr.heap.size + 1 := (List.mem_singleton.1 hs).trans (World.size_alloc _ _); exact ⟨fun h8 => (by have := hE.out.wh.lt s h8; omega), by have := hE.out.bel.size; omega⟩))⟩; obtain ⟨g9, hg9', -⟩ := hA9 (Nat.succ_pos j); subst hg9'; obtain ⟨c0, c1, c2⟩ := HCl.out w9 HE9.out.bel; clear hown hg9 hv hTg hA9))
          obtain ⟨W, hW⟩ : ∃ W, w9.alloc (.cells #[.int .i64 q1, .int .i64 (y : Int), .int .i64 q3] 29) = W := ⟨_, rfl⟩
          obtain ⟨xb, hxb⟩ : ∃ xb, w9.heap.size = xb := ⟨_, rfl⟩
          have HTW : Hid (Tch w9 W []) := Lib.hid (hW ▸ (Tch.refl w9 []).alloc _)
          have HW := Lib.hid (And.intro hW hxb)
          have HEW := Lib.hid (HE9.out.tch0 HTW.out)
          have HDW := Lib.hid (HD9.out.tch0 HTW.out)
          clear hW hxb c0 c1 c2
          rw [HW.out.1, HW.out.2]
          have HCa := (HEW.out.tch0 ((Tch.refl W []).drew)).cancel (kk : Int) (by have := hA.out; omega)
          rw [HB.out.1] at HCa
          have HCa := Lib.hid HCa
          obtain ⟨d0, f0⟩ := HDW.out.cell HDd.out
          have HS : Hid (W.drew.cell? ⟨g9, kk, none⟩ = some (.int .i64 d)) := Lib.hid d0
          have hdb := HB.out.2
          clear d0 f0
          refine wp_region_held_drew (S := (fun W => W.cell? ⟨g9, kk, none⟩ = some (.int .i64 d))) (by kernel_rfl) ?_ (fun hHeld => ?_)
          · (first | exact HS.out | exact HS4.out)
          refine wpAnyH_take (i := 0) (oi := { dst := some 112, op := Go.Op.move (Go.Operand.tmp 4), type := 24, pos := "law.go:102", after := #[], guard := none }) (v := ?_) rfl (by kernel_rfl) (by kernel_rfl) (by kernel_rfl) (fun _ _ _ h => h) (Or.inl ⟨by rfl, ?_⟩) (by assumption) ?_
          rotate_left
          · intro w hSw
            (try dsimp only at hSw)
            go_simp
            try (with_reducible rfl)
          try simp only [Act.put, List.setIfInBounds_toArray, List.set_cons_zero, List.set_cons_succ]
          refine wpAnyH_take (i := 1) (oi := { dst := some 113, op := Go.Op.move (Go.Operand.tmp 8), type := 3, pos := "law.go:102", after := #[], guard := none }) (v := ?_) rfl (by kernel_rfl) (by kernel_rfl) (by kernel_rfl) (fun _ _ _ h => h) (Or.inl ⟨by rfl, ?_⟩) (by assumption) ?_
          rotate_left
          · intro w hSw
            (try dsimp only at hSw)
            go_simp
            try (with_reducible rfl)
          try simp only [Act.put, List.setIfInBounds_toArray, List.set_cons_zero, List.set_cons_succ]
          refine wpAnyH_take (i := 3) (oi := { dst := some 115, op := Go.Op.move (Go.Operand.tmp 5), type := 34, pos := "law.go:102", after := #[], guard := none }) (v := ?_) rfl (by kernel_rfl) (by kernel_rfl) (by kernel_rfl) (fun _ _ _ h => h) (Or.inl ⟨by rfl, ?_⟩) (by assumption) ?_
          rotate_left
          · intro w hSw
            (try dsimp only at hSw)
            go_simp
            try (with_reducible rfl)
          try simp only [Act.put, List.setIfInBounds_toArray, List.set_cons_zero, List.set_cons_succ]
          refine wpAnyH_take (i := 4) (oi := { dst := some 116, op := Go.Op.move (Go.Operand.tmp 8), type := 3, pos := "law.go:102", after := #[], guard := none }) (v := ?_) rfl (by kernel_rfl) (by kernel_rfl) (by kernel_rfl) (fun _ _ _ h => h) (Or.inl ⟨by rfl, ?_⟩) (by assumption) ?_
          rotate_left
          · intro w hSw
            (try dsimp only at hSw)
            go_simp
            try (with_reducible rfl)
          try simp only [Act.put, List.setIfInBounds_toArray, List.set_cons_zero, List.set_cons_succ]
          refine wpAnyH_take (i := 5) (oi := { dst := some 117, op := Go.Op.indexAddr 34 (Go.Operand.tmp 115) (Go.Operand.tmp 116), type := 0, pos := "law.go:102", after := #[{ on := 3, ground := Go.Ground.data }, { on := 4, ground := Go.Ground.data }], guard := none }) (v := ?_) rfl (by kernel_rfl) (by kernel_rfl) (by kernel_rfl) (fun _ _ _ h => h) (Or.inl ⟨by rfl, ?_⟩) (by assumption) ?_
          rotate_left
          · intro w hSw
            (try dsimp only at hSw)
            go_simp
            try (with_reducible rfl)
          try simp only [Act.put, List.setIfInBounds_toArray, List.set_cons_zero, List.set_cons_succ]
          refine wpAnyH_take (i := 6) (oi := { dst := some 118, op := Go.Op.load 3 (Go.Operand.tmp 117), type := 3, pos := "law.go:102", after := #[{ on := 5, ground := Go.Ground.data }], guard := none }) (v := ?_) rfl (by kernel_rfl) (by kernel_rfl) (by kernel_rfl) (fun _ _ _ h => h) (Or.inl ⟨by rfl, ?_⟩) (by assumption) ?_
          rotate_left
          · intro w hSw
            (try dsimp only at hSw)
            go_simp
            try (with_reducible rfl)
          try simp only [Act.put, List.setIfInBounds_toArray, List.set_cons_zero, List.set_cons_succ]
          refine wpAnyH_take (i := 7) (oi := { dst := some 119, op := Go.Op.binOp Go.BinOp.geq 3 (Go.Operand.tmp 118) (Go.Operand.const (Go.Value.int Go.IntKind.i64 0)) 3, type := 4, pos := "law.go:102", after := #[{ on := 6, ground := Go.Ground.data }], guard := none }) (v := ?_) rfl (by kernel_rfl) (by kernel_rfl) (by kernel_rfl) (fun _ _ _ h => h) (Or.inl ⟨by rfl, ?_⟩) (by assumption) ?_
          rotate_left
          · intro w hSw
            (try dsimp only at hSw)
            go_simp
            try (with_reducible rfl)
          try simp only [Act.put, List.setIfInBounds_toArray, List.set_cons_zero, List.set_cons_succ]
          refine wpAnyH_ready (rs := [2]) (by kernel_rfl) (by simp) ?_
          refine AllReadyH.cons (o := { dst := some 114, op := Go.Op.call { callee := Go.Callee.value (Go.Operand.func 13), args := #[Go.Operand.tmp 112, Go.Operand.tmp 113], argTypes := #[24, 3] }, type := 4, pos := "law.go:102", after := #[{ on := 0, ground := Go.Ground.data }, { on := 1, ground := Go.Ground.data }], guard := none }) rfl (fun K hK => ?_) AllReadyH.nil
          go_simp
          (go_at_call 13; (with_reducible refine Calls.mono HCa.out ?_); rintro e w4 ⟨rfl, F4, hE4, hG4⟩; have E4 := Lib.hid hE4; have HG4 := Lib.hid hG4; have HS4 : Hid (w4.cell? ⟨g9, kk, none⟩ = some (.int .i64 d)) := Lib.hid (((HDW.out.tch0 ((Tch.refl W []).drew)).go hG4).cell HDd.out).1; clear hE4 hG4)
          go_wp2_with fail
          refine hK.out _ _ ?_ (fun hHeld => ?_)
          · (first | exact HS.out | exact HS4.out)
          clear hK K
          try simp only [Act.put, List.setIfInBounds_toArray, List.set_cons_zero, List.set_cons_succ]
          refine wpAnyH_take (i := 8) (oi := { dst := some 120, op := Go.Op.binOp Go.BinOp.neq 4 (Go.Operand.tmp 114) (Go.Operand.tmp 119) 4, type := 4, pos := "law.go:102", after := #[{ on := 2, ground := Go.Ground.data }, { on := 7, ground := Go.Ground.data }], guard := none }) (v := ?_) rfl (by kernel_rfl) (by kernel_rfl) (by kernel_rfl) (fun _ _ _ h => h) (Or.inl ⟨by rfl, ?_⟩) (by assumption) ?_
          rotate_left
          · intro w hSw
            (try dsimp only at hSw)
            go_simp
            try (with_reducible rfl)
          try simp only [Act.put, List.setIfInBounds_toArray, List.set_cons_zero, List.set_cons_succ]
          refine wpAnyH_done (by kernel_rfl) ?_ _
          have HD4 := Lib.hid ((HDW.out.tch0 ((Tch.refl W []).drew)).go HG4.out)
          have HBB : (b != b) = false := by cases b <;> rfl
          have kI := HK.out.2.2.2.2.1
          have k0 := HK.out.2.2.2.1
          obtain ⟨d0, f0⟩ := HD4.out.cell HDd.out
          cases b
          all_goals
            go_wp2
            obtain ⟨hD6, hT6⟩ := HD4.out.set_ (i := kk) HK.out.2.2.2.2.2 (-1)
            have HD6 := Lib.hid hD6
            have HE6 := Lib.hid (E4.out.tchN hT6 (fun s hs => HD4.out.non s (by rw [List.mem_singleton.1 hs]; simp [obI, Value.ownBlock])))
            clear hD6 hT6
            go_roundw
            case rel => exact ⟨j + 1, t, a, canL L (kk : Int), F4, some ⟨g9, 0, none⟩, c9, (D ++ [-1]).set kk (-1), rfl, by go_num, HJ.out.1, HJ.out.2.1, Lib.hid (by have := hA.out; have h2 : (canL L (kk : Int)).length ≤ L.length := List.length_filter_le _ _; omega), HR1, HE6, HD6⟩
            case measure => have := HJ.out; simp [intOf]; omega
      · obtain ⟨T, hT⟩ : ∃ T, tkI q3 = T := ⟨_, rfl⟩
        have hT6 : T < 600 := by rw [← hT]; exact tkI_lt q3
        have HTk := Lib.hid (fun W => ticks_any q1 q2 q3 HV.out.2 W)
        rw [hT] at HTk
        have HTT := Lib.hid hT6
        have HRn := Lib.hid hRl.out.none
        obtain ⟨n0, hn0⟩ : ∃ n, L.length = n := ⟨_, rfl⟩
        have HN9 := Lib.hid hn0
        have HJ2 : Hid (j < 60) := Lib.hid h2
        clear hT hT6 hn0
        go_wp2_with (at_builtin; (refine wpList_apc 34 3 (.int .i64 0) 1 8 Try.underlying34 infoI rfl (by decide) (by decide) _ rfl (.tmp 31) (.tmp 32) rfl 0 (.slice A j c) j (ints D) rfl HR0.out ⟨wr.heap.size, 0, none⟩ 1 [.int .i64 (-1)] rfl rfl (fun j u hj => HSr.out j u hj) (by simp [Value.oneCell']) HN0.out (Nat.zero_le _) ?_; intro v9 w9 hown hg9 hv; obtain ⟨A9, c9, e9, -, hA9⟩ := own_sl hown; subst e9; have hTg := Tch.of_grown' (S := obI (.slice A j c)) hg9 (fun k e => by rw [obI_some e]; simp); have HT9 : Hid (Tch wr w9 (obI (.slice A j c))) := Lib.hid ((HT0.out.mono (by simp)).trans hTg); have HE9 : Hid (Std w w9 p t a L F) := Lib.hid (hE.out.tchN HT9.out hD.out.non); have HD9 : Hid (DR w w9 F A9 (j + 1) c9 (D ++ [-1])) := Lib.hid ⟨by rw [ints_app]; exact hown, fun s hs => by (rcases hv with hv | hv; (exact hD.out.non s (by unfold obI at hs ⊢; rw [hv] at hs; exact hs)); (rw [obI_some hv] at hs; have h7 : s = wr.heap.size + 1 := (List.mem_singleton.1 hs).trans (World.size_alloc _ _); exact ⟨fun h8 => (by have := hE.out.wh.lt s h8; omega), by have := hE.out.bel.size; omega⟩))⟩; obtain ⟨g9, hg9', -⟩ := hA9 (Nat.succ_pos j); subst hg9'; obtain ⟨c0, c1, c2⟩ := HCl.out w9 HE9.out.bel; clear hown hg9 hv hTg hA9))
        obtain ⟨W, hW⟩ : ∃ W, w9.alloc (.cells #[.int .i64 q1, .int .i64 q2, .int .i64 q3] 29) = W := ⟨_, rfl⟩
        obtain ⟨xb, hxb⟩ : ∃ xb, w9.heap.size = xb := ⟨_, rfl⟩
        have HTW : Hid (Tch w9 W []) := Lib.hid (hW ▸ (Tch.refl w9 []).alloc _)
        have HBW : Hid (Blk W xb 29 #[.int .i64 q1, .int .i64 q2, .int .i64 q3]) := Lib.hid (hW ▸ hxb ▸ Blk.new w9 _ _)
        have HW := Lib.hid (And.intro hW hxb)
        have HEW := Lib.hid (HE9.out.tch0 HTW.out)
        have HDW := Lib.hid (HD9.out.tch0 HTW.out)
        have HXF : Hid (xb ∉ F) := Lib.hid (fun e => by have := HE9.out.wh.lt xb e; omega)
        have HGx : Hid (g9 ≠ xb) := Lib.hid (by have h1 := own_lts HD9.out.own g9 (by simp [obI, Value.ownBlock]); omega)
        clear hW hxb c0 c1 c2
        rw [HW.out.1, HW.out.2]
        go_loopw [9] (fun nv w2 => ∃ (n t' : Nat) (L' : List TmI) (F' : List Nat) (D' : List Int), nv = .int .i64 (n : Int) ∧ n ≤ T ∧ Hid (t' = t + n ∧ L'.length ≤ n0) ∧ Hid (RelD L' D') ∧ Hid (Std w w2 p t' a L' F') ∧ Hid (DR w w2 F' (some ⟨g9, 0, none⟩) (j + 1) c9 D') ∧ Hid (Blk w2 xb 29 #[.int .i64 q1, .int .i64 q2, .int .i64 q3]) ∧ Hid (xb ∉ F')) (fun nv _ => T - (intOf nv).toNat)
        case atStart => exact ⟨0, t, L, F, D ++ [-1], rfl, Nat.zero_le _, Lib.hid ⟨rfl, Nat.le_of_eq HN9.out⟩, HRn, HEW, HDW, HBW, HXF⟩
        case round =>
          obtain ⟨n, t', L', F', D', rfl, hn, hA', hR', hE', hD', hB', hX'⟩ := hrel
          obtain ⟨b0, b1, b2⟩ := hB'.out.t3
          have HTw := Lib.hid (HTk.out wr)
          by_cases hnT : n < T
          · have nI : (n : Int) < (T : Int) := by omega
            have n1 : IntKind.i64.wrap ((n : Int) + 1) = (n : Int) + 1 := by have := HTT.out; rw [IntKind.wrap_i64]; omega
            go_wp2_with fail
            refine Calls.mono HTw.out ?_
            rintro e w3 ⟨rfl, hT3⟩
            have E3 := Lib.hid (hE'.out.tch0 hT3)
            have D3 := Lib.hid (hD'.out.tch0 hT3)
            have HB3 := Lib.hid (hT3.blk hB'.out (by simp))
            have hti := E3.out.tickB (by have h1 := hA.out; have h2 := hA'.out; have h3 := HTT.out; have h4 := HJ2.out; omega)
            have hdu := hR'.out.due (t' + 1)
            obtain ⟨V, hV⟩ : ∃ V, t' + 1 = V := ⟨_, rfl⟩
            rw [hV] at hti hdu
            rw [hdu] at hti
            have HR2 := Lib.hid (hR'.out.tik V)
            have HVt := Lib.hid hV
            obtain ⟨nl, hnl⟩ : ∃ nl, (dueL L' V).length = nl := ⟨_, rfl⟩
            rw [hnl] at hti
            have HNl : Hid ((idsK V D' 0).length = nl ∧ nl ≤ n0) := Lib.hid ⟨by rw [← hdu, List.length_map, hnl], by have h1 := hA'.out; have h2 : (dueL L' V).length ≤ L'.length := List.length_filter_le _ _; omega⟩
            have HTi := Lib.hid hti
            have HD1 := Lib.hid hD'.out.len
            clear hT3 HTw b0 b1 b2 hti hdu hnl hV
            go_wp2_with fail
            refine Calls.mono HTi.out ?_
            rintro e w4 ⟨A4, c4, F4, rfl, hE4, hG4, hS4, hA4⟩
            have E4 := Lib.hid hE4
            have D4 := Lib.hid (D3.out.go hG4)
            have HX3 : Hid (xb ∉ F') := hX'
            have HB4 := Lib.hid (hG4.tch.blk HB3.out HX3.out)
            have HX4 : Hid (xb ∉ F4) := Lib.hid (fun e => by
              rcases hG4.fre xb e with h | h
              · exact hX'.out h
              · have := HB3.out.lt; omega)
            have HS4 := Lib.hid hS4
            have HNg : Hid (∀ gl, A4 = some ⟨gl, 0, none⟩ → gl ≠ g9) := Lib.hid (fun gl e h => by
              have h1 := hA4 gl e
              have h2 := own_lts D3.out.own g9 (by simp [obI, Value.ownBlock])
              omega)
            clear hE4 hG4 hS4 hA4 HTi
            go_wp2
            go_loopw [11, 12] (fun cv iv w5 => ∃ (i : Nat), cv = .int .i64 ((cntK V D' i : Nat) : Int) ∧ iv = .int .i64 (i : Int) ∧ i ≤ j + 1 ∧ Hid (Std w w5 p V a (tikL L' V) F4) ∧ Hid (DR w w5 F4 (some ⟨g9, 0, none⟩) (j + 1) c9 (parK V D' i)) ∧ Hid (Blk w5 xb 29 #[.int .i64 q1, .int .i64 q2, .int .i64 q3]) ∧ Hid (SlI w5 A4 nl (idsK V D' 0))) (fun _ iv _ => j + 1 - (intOf iv).toNat)
            case atStart => exact ⟨0, rfl, rfl, Nat.zero_le _, E4, Lib.hid (by rw [parK_zero]; exact D4.out), HB4, HS4⟩
            case round =>
              obtain ⟨i, rfl, rfl, hi, hE5, hD5, hB5, hS5⟩ := hrel
              have i0 : (0 : Int) ≤ (i : Int) := by omega
              obtain ⟨ct, hct⟩ : ∃ ct, cntK V D' i = ct := ⟨_, rfl⟩
              rw [hct]
              by_cases hij : i < j + 1
              · have iI : (i : Int) ≤ (j : Int) := by omega
                have iJ : (i : Int) < (j : Int) + 1 := by omega
                have i1 : IntKind.i64.wrap ((i : Int) + 1) = (i : Int) + 1 := by have := HJ2.out; rw [IntKind.wrap_i64]; omega
                obtain ⟨d, hd⟩ := at_d (D := D') (j := i) (by rw [HD1.out]; exact hij)
                obtain ⟨d0, f0⟩ := hD5.out.cell (parK_at (v := V) hd)
                have HNw := Lib.hid (fun n => (hE5.out.tch0 ((Tch.refl wr []).drewN n)).now)
                by_cases hdv : d = (V : Int)
                · subst hdv
                  have hcs := cntK_succ (v := V) hd
                  rw [if_pos rfl, hct] at hcs
                  have hca := cntK_at hd
                  rw [hct] at hca
                  have hcl := (List.getElem?_eq_some_iff.1 hca).1
                  rw [HNl.out.1] at hcl
                  obtain ⟨gl, rfl, cl⟩ := hS5.out.2 ct _ hca
                  have q0 : ¬ (nl : Int) ≤ (ct : Int) := by omega
                  have q1' : (0 : Int) ≤ (ct : Int) := by omega
                  have q2' : (ct : Int) < (nl : Int) := by omega
                  have q3' : ((i : Int) != (i : Int)) = false := by simp
                  have q4 : IntKind.i64.wrap ((ct : Int) + 1) = (ct : Int) + 1 := by have h1 := HNl.out; have h2 := HN9.out; have h3 := hA.out; have h4 := HJ2.out; rw [IntKind.wrap_i64]; omega
                  have q5 : ((V : Int) == (V : Int)) = true := by simp
                  have HCt := Lib.hid hcs
                  have HDi := Lib.hid hd
                  have HI := Lib.hid (And.intro hij (And.intro i0 (And.intro iJ i1)))
                  have HCl2 : Hid (∀ n, (wr.drewN n).cell? ⟨gl, ct, none⟩ = some (.int .i64 (i : Int)) ∧ (wr.drewN n).cell? ⟨g9, i, none⟩ = some (.int .i64 (V : Int)) ∧ (wr.drewN n).frozen? ⟨g9, i, none⟩ = false) := Lib.hid (fun n => ⟨cl, d0, f0⟩)
                  clear hd hcs hca hcl hct cl
                  go_wp2
                  go_quiet ((go_at_call 21; exact Calls.quiet_of_same (HNw.out _)))
                  obtain ⟨W6, hW6⟩ : ∃ W, wr.drewN nq = W := ⟨_, rfl⟩
                  have HT6 : Hid (Tch wr W6 []) := Lib.hid (hW6 ▸ (Tch.refl wr []).drewN nq)
                  obtain ⟨z0, z1, z2⟩ := HCl2.out nq
                  rw [hW6] at z0 z1 z2 ⊢
                  clear hW6 d0 f0
                  go_wp2
                  obtain ⟨hD7, hT7⟩ := (hD5.out.tch0 HT6.out).set_ (i := i) HI.out.1 (-1)
                  rw [← parK_on HDi.out] at hD7
                  have HD7 := Lib.hid hD7
                  have HE7 := Lib.hid ((hE5.out.tch0 HT6.out).tchN hT7 (fun s hs => hD5.out.non s (by rw [List.mem_singleton.1 hs]; simp [obI, Value.ownBlock])))
                  have HB7 := Lib.hid (hT7.blk (HT6.out.blk hB5.out (by simp)) (by simpa using HGx.out.symm))
                  have HS7 := Lib.hid ((hS5.out.tch HT6.out (by simp)).tch hT7 (fun gl e => by have := HNg.out gl e; simpa using this))
                  clear hD7 hT7
                  go_roundw
                  case rel => exact ⟨i + 1, by rw [HCt.out]; go_num, by go_num, HI.out.1, HE7, HD7, HB7, HS7⟩
                  case measure => have := HI.out; simp [intOf]; omega
                · have hcs := cntK_succ (v := V) hd
                  rw [if_neg hdv, hct, Nat.add_zero] at hcs
                  have q5 : (d == (V : Int)) = false := by simpa using hdv
                  have HCt := Lib.hid hcs
                  have HPr := Lib.hid (parK_off hd hdv)
                  have HI := Lib.hid (And.intro hij (And.intro i0 (And.intro iJ i1)))
                  clear hd hcs hct hdv
                  go_wp2
                  go_quiet ((go_at_call 21; exact Calls.quiet_of_same (HNw.out _)))
                  obtain ⟨W6, hW6⟩ : ∃ W, wr.drewN nq = W := ⟨_, rfl⟩
                  have HT6 : Hid (Tch wr W6 []) := Lib.hid (hW6 ▸ (Tch.refl wr []).drewN nq)
                  rw [hW6]
                  clear hW6 d0 f0
                  go_wp2
                  go_roundw
                  case rel => exact ⟨i + 1, by rw [HCt.out]; rfl, by go_num, HI.out.1, Lib.hid (hE5.out.tch0 HT6.out), Lib.hid (by rw [HPr.out]; exact hD5.out.tch0 HT6.out), Lib.hid (HT6.out.blk hB5.out (by simp)), Lib.hid (hS5.out.tch HT6.out (by simp))⟩
                  case measure => have := HI.out; simp [intOf]; omega
              · have iI : ¬ (i : Int) ≤ (j : Int) := by omega
                have hall := cntK_all (v := V) (D := D') (n := i) (by rw [HD1.out]; omega)
                rw [hct, HNl.out.1] at hall
                subst hall
                have q0 : ((ct : Int) != (ct : Int)) = false := by simp
                have HPa := Lib.hid (parK_all (v := V) (D := D') (n := i) (by rw [HD1.out]; omega))
                clear hct
                go_wp2
                go_roundw
                case rel => exact ⟨n + 1, V, tikL L' V, F4, D'.map (gone V), by go_num, hnT, Lib.hid (by have h1 := hA'.out; have h2 := HVt.out; have h3 : (tikL L' V).length ≤ L'.length := List.length_filter_le _ _; omega), HR2, hE5, Lib.hid (by rw [← HPa.out]; exact hD5.out), hB5, HX4⟩
                case measure => simp [intOf]; omega
          · have nI : ¬ (n : Int) < (T : Int) := by omega
            go_wp2_with fail
            refine Calls.mono HTw.out ?_
            rintro e w3 ⟨rfl, hT3⟩
            have E3 := Lib.hid (hE'.out.tch0 hT3)
            have D3 := Lib.hid (hD'.out.tch0 hT3)
            clear hT3 HTw b0 b1 b2
            have j3 := HJ.out.2.2.2.2
            go_wp2
            go_roundw
            case rel => exact ⟨j + 1, t', a, L', F', some ⟨g9, 0, none⟩, c9, D', rfl, by go_num, HJ.out.1, HJ.out.2.1, Lib.hid (by have h1 := hA.out; have h2 := hA'.out; have h3 := HN9.out; have h4 := HTT.out; omega), hR', E3, D3⟩
            case measure => have := HJ.out; simp [intOf]; omega
    · have hE3 := hE
      by_cases hjl : (j : Int) < l0
      · have hj60 : ¬ (j : Int) < 60 := by omega
        go_wp2
        go_ret
        exact ⟨rfl, hE3.out.bel⟩
      · go_wp2
        go_ret
        exact ⟨rfl, hE3.out.bel⟩
set_option maxRecDepth 100000 in
theorem contract (H : Type) (enc : TypeId × Value → H) (W : World) (base : Nat) (args : Array Value) (ds gs : List (DataW H)) (before : List MemPlace)
    (hval0 : ∀ (j : Nat) t v, Try.f4.params[j]? = some t → args[j]? = some v → Value.okWide Try.prog W .any base t v)
    (hW : DataW.Whole enc Try.prog Try.f4.params.toList Rows.wheelDueSpec.vars false W args.toList ds gs before)
    (hsz0 : (DataW.weightsEach Try.prog (Try.f4.params.toList ++ Rows.wheelDueSpec.plain.varTypes Try.prog) (ds ++ gs)).all (· ≤ reachBytes) = true) :
    Calls Try.prog 4 args W fun e W' => ∃ v, e = .returned v ∧ Rows.wheelDueSpec.post enc Try.prog Try.f4 false true false false W args v W' := by
  have hsz := hsz0
  clear hsz0
  have hval := hval0
  clear hval0
  have hW' := hW
  obtain ⟨p, q, hA0, hV, rfl, hfz, hnd⟩ := hW
  have hA : DataW.TrodAll enc Try.prog W 0 (fun _ => true) true Try.f4.params.toList args.toList ds p := hA0
  rw [Try.params4] at hA hval hsz
  obtain ⟨v0, vs0, d0, ds0, p0, q0, hargs, rfl, rfl, h0, r0⟩ := trodAll_cons hA
  obtain ⟨rfl, rfl, rfl⟩ := trodAll_nil r0
  obtain rfl : args = #[v0] := by cases args; simp_all
  obtain ⟨rfl, rfl⟩ := trodVars_none hV
  obtain ⟨a0, l0, c0, rfl⟩ := okWide_slice Try.underlying22 (hval 0 22 v0 rfl rfl)
  have k0 := h0
  have lt0 : ∀ x ∈ p0, x.block < W.heap.size := by obtain ⟨m, hm⟩ := k0; exact DataW.trod_lt m _ _ _ hm
  obtain ⟨z0, w0⟩ := isStp_of h0
  clear hA0
  refine (walk W a0 l0 c0 z0 w0).mono fun e W' ⟨he, bel⟩ => ?_
  subst he
  exact ⟨_, rfl, _, _, _, [], _, [], hW', trodAll_mk1 (shut_bool Try.underlying4 _), (trodAll_cons_mk (Below.trod laidOut (by kernel_rfl) (of_decide_eq_true (by kernel_rfl)) k0 bel lt0) trodAll_mk0), rfl, bel.frame _, fun h => by cases h⟩

set_option maxRecDepth 100000 in
theorem lifted (os : Os) (started : os.Started) (H : Type) (enc : TypeId × Value → H) :
    ReturnsInHanded {} Try.checked os 4 .any (Rows.wheelDueSpec.pre6 enc Try.prog Try.f4 Rows.wheelDueRow.domain false) (Rows.wheelDueSpec.post enc Try.prog Try.f4 false true false false) := by
  refine returnsInHanded_of_change_sized (C := Try.checked) own started (by kernel_rfl) Try.func4
    (ChangeSpec.witness6 (enc := enc) (C := Try.checked) false ⟨#[], #[.slice none 0 0], []⟩ 8 (by kernel_rfl) (by kernel_rfl) (by kernel_rfl) (by kernel_rfl)) ?_
  intro W base args ds gs before hval hW _ hsz _
  exact contract H enc W base args ds gs before hval hW hsz

theorem over : Rows.wheelDueRow.holds Try.pinned (OpenSpec.ofChange Rows.wheelDueSpec) :=
  OpenClaim.holds_of_wide 4 Try.f4 rfl rfl rfl rfl rfl rfl rfl ⟨rfl, rfl, rfl, rfl, rfl⟩ rfl rfl rfl rfl rfl (by kernel_rfl) Try.func4 (by kernel_rfl)
    (of_decide_eq_true (by kernel_rfl)) (by unfold Func.isWrapper; first | (rw [if_pos (by decide +kernel)]; kernel_rfl) | (rw [if_neg (by decide +kernel)]; exact ⟨rfl, rfl⟩))
    (fun os started H enc _ => lifted os started H enc)

theorem proved : Rows.WheelDueSaid := over
#print axioms proved
end WDue
end Go.Proofs.Ythkjfgegmbdebaa
