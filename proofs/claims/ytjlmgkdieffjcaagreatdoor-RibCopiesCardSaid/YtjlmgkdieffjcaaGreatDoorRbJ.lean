/-
  The document's own rib (layer 15): Over, Copy; two rows the same.
-/
import Derived.Test.YtjlmgkdieffjcaaGreatDoorRbI
import Derived.Test.YtjlmgkdieffjcaaGreatDoorPRHo
namespace Go.Proofs.YtjlmgkdieffjcaaGreatDoor
open Go.RowKit
set_option linter.unusedVariables false

def overK (l : List PfI) (a : AdR) (k : Nat) : List PfI := ((l.take k).filter fun p => hldP p a).reverse
theorem overK_yes {l : List PfI} {a : AdR} {k : Nat} {q : PfI} (hq : l[k]? = some q) (h : hldP q a = true) : overK l a (k + 1) = [q] ++ overK l a k := by
  unfold overK
  rw [List.take_add_one, hq, List.filter_append]
  simp [h]
theorem overK_no {l : List PfI} {a : AdR} {k : Nat} {q : PfI} (hq : l[k]? = some q) (h : hldP q a = false) : overK l a (k + 1) = overK l a k := by
  unfold overK
  rw [List.take_add_one, hq, List.filter_append]
  simp [h]
theorem overK_le (l : List PfI) (a : AdR) (k : Nat) : (overK l a k).length ≤ l.length := by
  unfold overK
  rw [List.length_reverse]
  exact Nat.le_trans (List.length_filter_le _ _) (by simp; omega)
theorem overK_all (l : List PfI) (a : AdR) : overK l a l.length = overL l a := by unfold overK overL; rw [List.take_length]
set_option maxRecDepth 100000 in
set_option maxHeartbeats 4000000 in
theorem overD (t : Nat) (S : List Nat) (L : List TdI) (hL : L.length ≤ 1000) (a : AdR) (ha : N64 a.2.1 ∧ N64 a.2.2) (w : World) (h : RbD w t S L) :
    Calls Tryz.prog 33 #[.pointer (some ⟨t, 0, none⟩), adR a] w fun e w' => ∃ A c, e = .returned (.slice A (overI L a).length c) ∧ w'.ownsRow w.heap.size 32 4 (.slice A (overI L a).length c) (overI L a).length ((overI L a).flatMap pfC) ∧ Tch w w' [] := by
  have hnum : ∀ q ∈ prefsI L, N64 q.1.2.1 ∧ N64 q.1.2.2 := fun q hq => by
    obtain ⟨u, hu, e⟩ := prefK_sub _ hq
    rw [← e]; exact (h.num u hu).1
  have HPr := Lib.hid (fun W (hT : Tch w W []) => prefsD t S L hL W (h.tch hT (by simp)))
  have hle : (prefsI L).length ≤ L.length := prefK_le L L.length
  obtain ⟨l, hl⟩ : ∃ l, prefsI L = l := ⟨_, rfl⟩
  have HOv : Hid (overI L a = overL l a) := Lib.hid (by unfold overI; rw [hl])
  rw [hl] at HPr hnum hle
  obtain ⟨n, hn⟩ : ∃ n, l.length = n := ⟨_, rfl⟩
  rw [hn] at HPr hle
  have HN := Lib.hid hn
  have HNum := Lib.hid hnum
  have hn1 : n ≤ 1000 := by omega
  obtain ⟨s9, ah, al⟩ := a
  have HAl : Hid (N64 ah ∧ N64 al) := Lib.hid ha
  obtain ⟨xb, hxb⟩ : ∃ xb, w.heap.size = xb := ⟨_, rfl⟩
  obtain ⟨W0, hW0⟩ : ∃ W, w.alloc (.cells #[.bool s9, .int .u64 (ah : Int), .int .u64 (al : Int)] 30) = W := ⟨_, rfl⟩
  have HB0 : Hid (Blk W0 xb 30 #[.bool s9, .int .u64 (ah : Int), .int .u64 (al : Int)]) := Lib.hid (hW0 ▸ hxb ▸ Blk.new w _ _)
  have HT0 : Hid (Tch w W0 []) := Lib.hid (hW0 ▸ (Tch.refl w []).alloc _)
  have HW0 := Lib.hid (And.intro hW0 hxb)
  clear h hl hn hnum ha hxb hW0 hle
  go_enter Tryz.func33, Tryz.ntmps33
  go_wp2_with fail
  rw [HW0.out.1, HW0.out.2]
  refine Calls.mono (HPr.out _ HT0.out) ?_
  rintro e W1 ⟨Al, cl, rfl, hol, hT1⟩
  have HOl := Lib.hid (own_mono hol (Nat.zero_le _))
  have HB1 := Lib.hid (hT1.blk HB0.out (by simp))
  have HT1 := Lib.hid (HT0.out.trans hT1)
  obtain ⟨yb, hyb⟩ : ∃ yb, W1.heap.size = yb := ⟨_, rfl⟩
  have HYb := Lib.hid hyb
  clear hol hT1 hyb
  go_wp2
  go_loopw [5, 7] (fun ov kv wr => ∃ (k f : Nat) (A1 : Option Addr) (cc : Nat), ov = .slice A1 f cc ∧ kv = .int .i64 (k : Int) ∧ k ≤ n ∧ f ≤ n ∧ Hid ((overK l (s9, ah, al) k).length = f) ∧ Hid (wr.ownsRow yb 32 4 (.slice A1 f cc) f ((overK l (s9, ah, al) k).flatMap pfC)) ∧ Hid (Tch W1 wr [])) (fun _ kv _ => n - (intOf kv).toNat)
  case atStart => exact ⟨0, 0, none, 0, rfl, rfl, Nat.zero_le _, Nat.zero_le _, Lib.hid rfl, Lib.hid ⟨rfl, .inl ⟨rfl, rfl⟩⟩, Lib.hid (Tch.refl W1 [])⟩
  case round =>
    obtain ⟨k, f, A1, cc, rfl, rfl, hk, hf, hF, hO, hT⟩ := hrel
    have k1 : IntKind.i64.wrap ((k : Int) + 1) = (k : Int) + 1 := by rw [IntKind.wrap_i64]; omega
    by_cases hkn : k < n
    · have kI : (k : Int) < (n : Int) := by omega
      have k0 : (0 : Int) ≤ (k : Int) := by omega
      obtain ⟨q, hq⟩ : ∃ q, l[k]? = some q := ⟨_, List.getElem?_eq_getElem (by rw [HN.out]; exact hkn)⟩
      have d3 := own_tch HOl.out hT.out (by simp)
      obtain ⟨g, rfl⟩ := slice_some d3 (by omega)
      have HQn := Lib.hid (HNum.out q (List.mem_of_getElem? hq))
      obtain ⟨b, hb⟩ : ∃ b, hldP q (s9, ah, al) = b := ⟨_, rfl⟩
      have HBb := Lib.hid hb
      have HRdl : Hid (∀ W, Tch W1 W [] → (W.cell? ⟨g, k * 4, none⟩ = some (.bool q.1.1) ∧ W.cell? ⟨g, k * 4 + 1, none⟩ = some (.int .u64 (q.1.2.1 : Int)) ∧ W.cell? ⟨g, k * 4 + 2, none⟩ = some (.int .u64 (q.1.2.2 : Int)) ∧ W.cell? ⟨g, k * 4 + 3, none⟩ = some (.int .i64 q.2)) ∧ (W.cell? ⟨xb, 0, none⟩ = some (.bool s9) ∧ W.cell? ⟨xb, 1, none⟩ = some (.int .u64 (ah : Int)) ∧ W.cell? ⟨xb, 2, none⟩ = some (.int .u64 (al : Int)))) := Lib.hid (fun W hW => ⟨pf_cells (own_tch HOl.out hW (by simp)) hq, (hW.blk HB1.out (by simp)).c3⟩)
      have Hq := Lib.hid hq
      obtain ⟨⟨us, uh, ul⟩, ub⟩ := q
      have HHo := Lib.hid (fun W => rholds_at us uh ul ub s9 ah al HQn.out.1 HQn.out.2 HAl.out.1 HAl.out.2 hb W)
      have HCl := Lib.hid (HRdl.out wr hT.out)
      have HTd : Hid (Tch W1 wr.drew []) := Lib.hid hT.out.drew
      clear d3 hq hb
      go_wp2
      refine wp_region_held_drew (S := (fun W => (W.cell? ⟨g, k * 4, none⟩ = some (Value.bool us) ∧ W.cell? ⟨g, k * 4 + 1, none⟩ = some (Value.int .u64 (uh : Int)) ∧ W.cell? ⟨g, k * 4 + 2, none⟩ = some (Value.int .u64 (ul : Int)) ∧ W.cell? ⟨g, k * 4 + 3, none⟩ = some (Value.int .i64 ub)) ∧ (W.cell? ⟨xb, 0, none⟩ = some (Value.bool s9) ∧ W.cell? ⟨xb, 1, none⟩ = some (Value.int .u64 (ah : Int)) ∧ W.cell? ⟨xb, 2, none⟩ = some (Value.int .u64 (al : Int))))) (by kernel_rfl) ?_ (fun hHeld => ?_)
      · (first | exact HCl.out | exact HRdl.out _ HT5.out)
      refine wpAnyH_take (i := 0) (oi := { dst := some 17, op := Go.Op.move (Go.Operand.tmp 6), type := 44, pos := "ref.go:190", after := #[], guard := none }) (v := ?_) rfl (by kernel_rfl) (by kernel_rfl) (by kernel_rfl) (fun _ _ _ h => h) (Or.inl ⟨by rfl, ?_⟩) (by assumption) ?_
      rotate_left
      · intro w hSw
        (try dsimp only at hSw)
        go_simp
        try (with_reducible rfl)
      try simp only [Act.put, List.setIfInBounds_toArray, List.set_cons_zero, List.set_cons_succ]
      refine wpAnyH_take (i := 1) (oi := { dst := some 18, op := Go.Op.move (Go.Operand.tmp 7), type := 3, pos := "ref.go:190", after := #[], guard := none }) (v := ?_) rfl (by kernel_rfl) (by kernel_rfl) (by kernel_rfl) (fun _ _ _ h => h) (Or.inl ⟨by rfl, ?_⟩) (by assumption) ?_
      rotate_left
      · intro w hSw
        (try dsimp only at hSw)
        go_simp
        try (with_reducible rfl)
      try simp only [Act.put, List.setIfInBounds_toArray, List.set_cons_zero, List.set_cons_succ]
      refine wpAnyH_take (i := 2) (oi := { dst := some 19, op := Go.Op.indexAddr 44 (Go.Operand.tmp 17) (Go.Operand.tmp 18), type := 0, pos := "ref.go:190", after := #[{ on := 0, ground := Go.Ground.data }, { on := 1, ground := Go.Ground.data }], guard := none }) (v := ?_) rfl (by kernel_rfl) (by kernel_rfl) (by kernel_rfl) (fun _ _ _ h => h) (Or.inl ⟨by rfl, ?_⟩) (by assumption) ?_
      rotate_left
      · intro w hSw
        (try dsimp only at hSw)
        go_simp
        try (with_reducible rfl)
      try simp only [Act.put, List.setIfInBounds_toArray, List.set_cons_zero, List.set_cons_succ]
      refine wpAnyH_take (i := 3) (oi := { dst := some 20, op := Go.Op.load 32 (Go.Operand.tmp 19), type := 32, pos := "ref.go:190", after := #[{ on := 2, ground := Go.Ground.data }], guard := none }) (v := ?_) rfl (by kernel_rfl) (by kernel_rfl) (by kernel_rfl) (fun _ _ _ h => h) (Or.inl ⟨by rfl, ?_⟩) (by assumption) ?_
      rotate_left
      · intro w hSw
        (try dsimp only at hSw)
        go_simp
        try (with_reducible rfl)
      try simp only [Act.put, List.setIfInBounds_toArray, List.set_cons_zero, List.set_cons_succ]
      refine wpAnyH_take (i := 4) (oi := { dst := some 21, op := Go.Op.load 30 (Go.Operand.tmp 3), type := 30, pos := "ref.go:190", after := #[], guard := none }) (v := ?_) rfl (by kernel_rfl) (by kernel_rfl) (by kernel_rfl) (fun _ _ _ h => h) (Or.inl ⟨by rfl, ?_⟩) (by assumption) ?_
      rotate_left
      · intro w hSw
        (try dsimp only at hSw)
        go_simp
        try (with_reducible rfl)
      try simp only [Act.put, List.setIfInBounds_toArray, List.set_cons_zero, List.set_cons_succ]
      refine wpAnyH_ready (rs := [5]) (by kernel_rfl) (by simp) ?_
      refine AllReadyH.cons (o := { dst := some 22, op := Go.Op.call { callee := Go.Callee.value (Go.Operand.func 55), args := #[Go.Operand.tmp 20, Go.Operand.tmp 21], argTypes := #[32, 30] }, type := 4, pos := "ref.go:190", after := #[{ on := 3, ground := Go.Ground.data }, { on := 4, ground := Go.Ground.data }], guard := none }) rfl (fun K hK => ?_) AllReadyH.nil
      go_simp
      (go_at_call 55; (with_reducible refine Calls.mono (HHo.out _) ?_); rintro e w5 ⟨rfl, hb5⟩; have HT5 := Lib.hid (HTd.out.trans (Tch.of_below [] hb5)); have HO5 := Lib.hid (own_tch hO.out.drew (Tch.of_below [] hb5) (by simp)); clear hb5)
      go_wp2_with fail
      refine hK.out _ _ ?_ (fun hHeld => ?_)
      · (first | exact HCl.out | exact HRdl.out _ HT5.out)
      clear hK K
      try simp only [Act.put, List.setIfInBounds_toArray, List.set_cons_zero, List.set_cons_succ]
      refine wpAnyH_done (by kernel_rfl) ?_ _
      obtain ⟨⟨z0, z1, z2, z3⟩, -⟩ := HRdl.out w5 HT5.out
      cases b with
      | false =>
        have HFl : Hid (overK l (s9, ah, al) (k + 1) = overK l (s9, ah, al) k) := Lib.hid (overK_no Hq.out HBb.out)
        go_wp2
        go_roundw
        case rel => exact ⟨k + 1, f, A1, cc, rfl, by go_num, hkn, hf, by rw [HFl.out]; exact hF, by rw [HFl.out]; exact HO5, HT5⟩
        case measure => simp [intOf]; omega
      | true =>
        have HFl : Hid (overK l (s9, ah, al) (k + 1) = [((us, uh, ul), ub)] ++ overK l (s9, ah, al) k) := Lib.hid (overK_yes Hq.out HBb.out)
        have hfm : 1 + f ≤ n := by have h1 := overK_le l (s9, ah, al) (k + 1); rw [HFl.out, List.length_append, List.length_singleton, hF.out, HN.out] at h1; exact h1
        have HNil : Hid ((w5.alloc (.cells #[.bool us, .int .u64 (uh : Int), .int .u64 (ul : Int), .int .i64 ub] 32)).ownsRow yb 32 4 (.slice none 0 0) 0 []) := Lib.hid ⟨rfl, .inl ⟨rfl, rfl⟩⟩
        have HSr := Lib.hid (src_new w5 32 [.bool us, .int .u64 (uh : Int), .int .u64 (ul : Int), .int .i64 ub])
        have HSz5 : Hid (yb ≤ (w5.alloc (.cells #[.bool us, .int .u64 (uh : Int), .int .u64 (ul : Int), .int .i64 ub] 32)).heap.size) := Lib.hid (by have h1 := HT5.out.size; have h2 := HYb.out; rw [World.size_alloc]; omega)
        have HT6 := Lib.hid (HT5.out.alloc (.cells #[.bool us, .int .u64 (uh : Int), .int .u64 (ul : Int), .int .i64 ub] 32))
        have HO6 := Lib.hid (HO5.out.alloc (.cells #[.bool us, .int .u64 (uh : Int), .int .u64 (ul : Int), .int .i64 ub] 32))
        have HSzf : Hid (0 ≤ 1000000 ∧ 0 + 1 + f ≤ 1000000) := Lib.hid ⟨by omega, by omega⟩
        go_wp2_with (first
          | (at_builtin; (refine wpList_apc 44 32 (.agg #[.bool false, .int .u64 0, .int .u64 0, .int .i64 0]) 4 32 Tryz.underlying44 infoPf rfl (by decide) (by decide) _ rfl (.tmp 23) (.tmp 28) rfl yb (.slice none 0 0) 0 [] rfl HNil.out ⟨w5.heap.size, 0, none⟩ 1 [.bool us, .int .u64 (uh : Int), .int .u64 (ul : Int), .int .i64 ub] rfl rfl (fun j u hj => HSr.out j u hj) (by simp [Value.oneCell']) HSzf.out.1 HSz5.out ?_; intro v7 w7 hown hg hv; have hT67 : Tch (w5.alloc (.cells #[.bool us, .int .u64 (uh : Int), .int .u64 (ul : Int), .int .i64 ub] 32)) w7 [] := Tch.of_grown' hg (fun k e => by cases e); have HO7 := Lib.hid hown; have HT7 := Lib.hid (HT6.out.trans hT67); have HOo := Lib.hid (own_tch HO6.out hT67 (by simp)); clear hown hg hv hT67))
          | (at_builtin; (refine wpList_apm 44 32 (.agg #[.bool false, .int .u64 0, .int .u64 0, .int .i64 0]) 4 32 Tryz.underlying44 infoPf rfl (by decide) (by decide) _ rfl (.tmp 30) (.tmp 31) rfl yb v7 (0 + 1) _ rfl HO7.out yb (.slice A1 f cc) f ((overK l (s9, ah, al) k).flatMap pfC) rfl HOo.out (flat_one pf_one _) HSzf.out.2 (by have h1 := HT7.out.size; have h2 := HYb.out; omega) ?_; intro v9 w9 hown hg hv; obtain ⟨A9, c9, e9, -, -⟩ := own_sl hown; subst e9; have HO9 := Lib.hid hown; have HT9 := Lib.hid (HT7.out.trans_fre (Tch.of_grown' (S := obI v7) hg (fun k e => by rw [obI_some e]; simp)) (fun s hs => .inr (by have h1 := (own_geI HO7.out s hs).1; have h2 := HYb.out; omega))); clear hown hg hv)))
        go_roundw
        case rel => exact ⟨k + 1, 0 + 1 + f, A9, c9, rfl, by go_num, hkn, by omega, Lib.hid (by rw [HFl.out, List.length_append, hF.out]; rfl), Lib.hid (by rw [HFl.out, List.flatMap_append]; exact HO9.out), HT9⟩
        case measure => simp [intOf]; omega
    · obtain rfl : k = n := by omega
      have kI : ¬ (k : Int) < (k : Int) := by omega
      have HAll : Hid (overK l (s9, ah, al) k = overI L (s9, ah, al)) := Lib.hid (by rw [← HN.out, overK_all, HOv.out])
      have HO9 := Lib.hid hO.out
      rw [HAll.out] at hF HO9
      have HF9 := Lib.hid hF.out
      have HT9 := Lib.hid (HT1.out.trans hT.out)
      clear hkn hk hF hO hT
      go_wp2
      go_ret
      exact ⟨A1, cc, by rw [HF9.out]; rfl, by rw [HF9.out]; exact own_mono HO9.out (by have h1 := HT1.out.size; have h2 := HYb.out; omega), HT9.out⟩
set_option maxRecDepth 100000 in
set_option maxHeartbeats 4000000 in
theorem copyRD (t : Nat) (S : List Nat) (L : List TdI) (hL : L.length ≤ 1000) (w : World) (h : RbD w t S L) :
    Calls Tryz.prog 15 #[.pointer (some ⟨t, 0, none⟩)] w fun e w' => ∃ d S', e = .returned (.pointer (some ⟨d, 0, none⟩)) ∧ RbD w' d S' L ∧ Tch w w' [] ∧ ∀ s ∈ S', w.heap.size ≤ s := by
  have HNum := Lib.hid h.num
  obtain ⟨A, cA, c0, hrow, htl, -⟩ := h.head
  obtain ⟨n, hn⟩ : ∃ n, L.length = n := ⟨_, rfl⟩
  rw [hn] at c0 hrow hL
  have HN := Lib.hid hn
  obtain ⟨xb, hxb⟩ : ∃ xb, w.heap.size = xb := ⟨_, rfl⟩
  obtain ⟨W0, hW0⟩ : ∃ W, w.alloc (.cells #[.slice none 0 0] 64) = W := ⟨_, rfl⟩
  have hB0 : Blk W0 xb 64 #[.slice none 0 0] := hW0 ▸ hxb ▸ Blk.new w _ _
  have hT0 : Tch w W0 [] := hW0 ▸ (Tch.refl w []).alloc _
  have x0 := (hB0.cell 0).trans (show _ = some (Value.slice none 0 0) by rfl)
  have f0 := hB0.frozen 0
  have d0 := (hT0.cell (p := ⟨t, 0, none⟩) htl (by simp)).trans c0
  have HB0 := Lib.hid hB0
  have HT0 := Lib.hid hT0
  have HW0 := Lib.hid (And.intro hW0 hxb)
  have HRow : Hid (W0.drew.ownsRow 0 86 11 (.slice A n cA) n (L.flatMap tdC)) := Lib.hid (own_tch hrow hT0 (by simp)).drew
  have HNil : Hid (W0.drew.ownsRow W0.heap.size 86 11 (.slice none 0 0) 0 []) := Lib.hid ⟨rfl, .inl ⟨rfl, rfl⟩⟩
  have HSz : Hid (0 + n ≤ 1000000) := Lib.hid (by omega)
  have hne : t ≠ xb := by omega
  clear h c0 hrow hn hxb hW0 hB0 hT0 htl hne
  go_enter Tryz.func15, Tryz.ntmps15
  go_wp2
  rw [HW0.out.1, HW0.out.2]
  go_region_law (refine step_apm 62 86 (.agg #[.bool false, .int .u64 0, .int .u64 0, .int .i64 0, .int .i64 0, .int .i64 0, .bool false, .int .u64 0, .int .u64 0, .int .i64 0, .bool false]) 11 88 Tryz.underlying62 infoTd rfl (by decide) (by decide) rfl (.tmp 10) (.tmp 14) rfl W0.heap.size (.slice none 0 0) 0 [] (by simp [Act.eval]) HNil.out 0 (.slice A n cA) n (L.flatMap tdC) (by simp [Act.eval]) HRow.out (flat_one td_one _) HSz.out (Nat.le_refl _) ?_; intro v1 w1 hown hg hv; have hT1 : Tch W0 w1 [] := (Tch.refl W0 []).drew.trans (Tch.of_grown' hg (fun g e => by cases e)); have g0 := hT1.blk HB0.out (by simp); have g1 := (g0.cell 0).trans (show _ = some (Value.slice none 0 0) by rfl); have g2 := g0.frozen 0; obtain ⟨A1, c1, e1, -, -⟩ := own_sl hown; subst e1; have HO1 := Lib.hid hown; have HT1 := Lib.hid hT1; have HG0 := Lib.hid g0; clear hown hg hv hT1 g0)
  all_goals
    have hge := own_geI HO1.out
    have hlx : xb < W0.heap.size := HB0.out.lt
    have hTs : Tch w1 (w1.setCell ⟨xb, 0, none⟩ (.slice A1 (0 + n) c1)) [xb] := (Tch.refl w1 [xb]).set_ (p := ⟨xb, 0, none⟩) (by simp) _
    have HFin : Hid (RbD (w1.setCell ⟨xb, 0, none⟩ (.slice A1 n c1)) xb (xb :: obI (.slice A1 n c1)) L ∧ Tch w (w1.setCell ⟨xb, 0, none⟩ (.slice A1 n c1)) [] ∧ ∀ s ∈ xb :: obI (.slice A1 n c1), w.heap.size ≤ s) := Lib.hid (by
      have hO := HO1.out
      rw [Nat.zero_add] at hO hge hTs
      have hn := HN.out
      refine ⟨⟨A1, c1, by rw [hn], ?_, by rw [hn]; exact HG0.out.set_ 0 _, by rw [hn]; exact own_mono (own_tch (by simpa using hO) hTs (fun s hs hm => by have h1 := (hge s hs).1; have h2 := List.mem_singleton.1 hm; omega)) (Nat.zero_le _), HNum.out⟩, (HT0.out.trans HT1.out).trans_fre hTs (by have := HW0.out.2; simp; omega), fun s hs => ?_⟩
      · rw [List.nodup_cons]
        refine ⟨fun hm => by have := (hge xb hm).1; omega, ?_⟩
        unfold obI; cases (Value.slice A1 n c1).ownBlock <;> simp
      · have h0 := HT0.out.size
        have h9 := HW0.out.2
        rcases List.mem_cons.1 hs with h1 | h1
        · omega
        · have := (hge s h1).1; omega)
    clear hge hlx hTs x0 f0 d0
    go_wp2
    go_ret
    exact ⟨xb, _, rfl, HFin.out.1, HFin.out.2.1, HFin.out.2.2⟩
end Go.Proofs.YtjlmgkdieffjcaaGreatDoor
