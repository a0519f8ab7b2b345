/-
  B1: every way of spelling an address of eight groups is read as that address: for every address and every choice of the spelling.
-/
import Derived.Test.YtnhlgonldffgoaaDoorSpl
import Derived.Test.YtnhlgonldffgoaaDoorRGroups
import Derived.Test.YtnhlgonldffgoaaDoorAwaken
import Derived.OrdersHeld
import Derived.Deep.RegionHeld3
namespace Go.Proofs.YtnhlgonldffgoaaDoor.Spelt
open Go.ChangeShapes Go.WideShapes Go.ChangeAt Go.RowKit
set_option linter.unusedVariables false

theorem u6_of {n : Int} (h : (Lit.int .u64 n).wf = true) : U6 n := by
  simp [Lit.wf, IntKind.min, IntKind.max, IntKind.bits, IntKind.signed] at h
  exact ⟨by omega, by omega⟩
theorem app_dat (a b : ByteArray) : (a ++ b).data.toList = a.data.toList ++ b.data.toList := by simp
theorem last_at (T : ByteArray) (c : UInt8) (h : T.data.toList.getLast? = some c) (hl : T.size - 1 < T.size) : T[T.size - 1]'hl = c := by
  rw [List.getLast?_eq_getElem?, Array.length_toList] at h
  have h2 : T.data.toList[T.data.size - 1]? = some (T[T.size - 1]'hl) := by
    rw [Array.getElem?_toList]
    exact Array.getElem?_eq_getElem hl
  rw [h2] at h
  injection h
theorem shr_at (x m : Int) (h : 0 ≤ m) : ∃ s : Int, ∀ W : World, (Op.shift BinOp.shr IntKind.i64 x IntKind.i64 m).run Tryd.prog W = .ok (.int .i64 s) W := by
  refine ⟨x.fdiv (2 ^ (min m.toNat IntKind.i64.bits)), fun W => ?_⟩
  unfold Op.shift
  rw [if_neg (by omega)]
  rfl
theorem and3 (k : Nat) (hk : k < 8) : ∃ m : Int, bits BinOp.and IntKind.i64 (k : Int) 3 = m ∧ 0 ≤ m ∧ m ≤ 3 := by
  have e : ∀ j : Fin 8, 0 ≤ bits BinOp.and IntKind.i64 ((j.val : Nat) : Int) 3 ∧ bits BinOp.and IntKind.i64 ((j.val : Nat) : Int) 3 ≤ 3 := by decide +kernel
  exact ⟨_, rfl, e ⟨k, hk⟩⟩

set_option maxRecDepth 100000 in
set_option maxHeartbeats 3000000 in
theorem walk (w : World) (hE : Env w) (a0 : Int) (w0 : (Lit.int .u64 a0).wf = true) (a1 : Int) (w1 : (Lit.int .u64 a1).wf = true) (a2 : Int) (w2 : (Lit.int .i64 a2).wf = true) (a3 : Int) (w3 : (Lit.int .i64 a3).wf = true) :
    Calls Tryd.prog 5 #[.int .u64 a0, .int .u64 a1, .int .i64 a2, .int .i64 a3] w fun e w' => e = .returned (.bool true) ∧ Below w.heap.size w w' := by
  have hh := u6_of w0
  have hl := u6_of w1
  obtain ⟨q, hq⟩ : ∃ q, bits BinOp.and IntKind.i64 a3 7 = q := ⟨_, rfl⟩
  have HPA := Lib.hid (fun T (p : PA (gsOf a0 a1) 8 T) => p.prs hh hl)
  have HPB := Lib.hid (fun T (p : PB (gsOf a0 a1) 8 T) => p.prs hh hl)
  have HG := Lib.hid (fun W => rgroups_any a0 a1 hh hl W)
  have hgb : ∀ z ∈ gsOf a0 a1, 0 ≤ z ∧ z ≤ 65535 := by
    intro z hz
    simp only [gsOf, List.mem_cons, List.not_mem_nil, or_false] at hz
    rcases hz with rfl | rfl | rfl | rfl | rfl | rfl | rfl | rfl <;> exact gr_bd _ _
  have h8 : (gsOf a0 a1).length = 8 := rfl
  obtain ⟨G, hG⟩ : ∃ G, gsOf a0 a1 = G := ⟨_, rfl⟩
  rw [hG] at HPA HPB HG hgb h8
  have HGB := Lib.hid hgb
  have H8 := Lib.hid h8
  have HE := Lib.hid hE
  clear hG hgb h8 hE hh hl w0 w1 w2 w3
  go_enter Tryd.func5, Tryd.ntmps5
  go_wp2_with fail
  refine Calls.mono (awake_yes _ HE.out) ?_
  rintro e w1 ⟨rfl, hb⟩
  have E1 := Lib.hid (HE.out.below hb)
  have L1 := Lib.hid hb
  obtain ⟨f1, f2, f3⟩ := (Blk.new w1 25 #[.bool true, .int .u64 a0, .int .u64 a1]).c3
  clear hb
  go_wp2_with fail
  refine Calls.mono (HG.out _) ?_
  rintro e w2 ⟨A, cp, rfl, hri, hge, hb⟩
  have K2 := Lib.hid ((Blk.new w1 25 #[.bool true, .int .u64 a0, .int .u64 a1]).below hb (by simp only [World.size_alloc]; omega))
  have E2 := Lib.hid ((E1.out.alloc (.cells #[.bool true, .int .u64 a0, .int .u64 a1] 25)).below hb)
  have L2 := Lib.hid (((L1.out).alloc L1.out.size (.cells #[.bool true, .int .u64 a0, .int .u64 a1] 25)).trans (hb.mono (by have := L1.out.size; simp only [World.size_alloc]; omega)))
  have HRI := Lib.hid hri
  obtain ⟨b, o, rfl, -, -⟩ := hri.2.1 (by decide)
  clear hri hge hb f1 f2 f3
  go_wp2
  go_loopw [13, 14] (fun t i wr => ∃ (T : ByteArray) (k : Nat), k ≤ 8 ∧ i = .int .i64 (k : Int) ∧ t = .string T ∧ Hid (T.size ≤ 5 * k) ∧ Hid (PA G k T.data.toList ∨ (PB G k T.data.toList ∧ q < (k : Int))) ∧ Hid (Below w2.heap.size w2 wr)) (fun _ i _ => 8 - (intOf i).toNat)
  case atStart => exact ⟨_, 0, by decide, rfl, rfl, Lib.hid (Nat.zero_le _), Lib.hid (.inl (PA.start G)), Lib.hid (Below.refl _ _)⟩
  case round =>
    obtain ⟨T, k, hk, rfl, rfl, HTs, HT, HBl⟩ := hrel
    have hts : T.size ≤ 40 := by have := HTs.out; omega
    have HCA : Hid (∀ W', Below w2.heap.size w2 W' → ∀ (j : Nat) z, G[j]? = some z → W'.cell? ⟨b, o + j, none⟩ = some (.int .u64 z)) := Lib.hid fun W' hb j z hz => by
      obtain ⟨b', o', e, -, hc⟩ := (HRI.out.below hb).2.1 (by decide)
      injection e with e; injection e with e1 e2; subst e1 e2
      exact hc j z hz
    by_cases hlt : k < 8
    · obtain ⟨z, hz⟩ : ∃ z, G[k]? = some z := ⟨_, List.getElem?_eq_getElem (by rw [H8.out]; exact hlt)⟩
      have hzb := HGB.out z (List.mem_of_getElem? hz)
      obtain ⟨n, rfl⟩ : ∃ n : Nat, z = (n : Int) := ⟨z.toNat, by omega⟩
      have HZ := Lib.hid hz
      have hn : n ≤ 65535 := by omega
      have hcell := HCA.out _ HBl.out k _ hz
      have hki : (k : Int) < 8 := by omega
      clear hz hzb
      by_cases hgap : (k : Int) = q ∧ n = 0
      · obtain ⟨hkq, rfl⟩ := hgap
        have hpa : PA G k T.data.toList := by
          rcases HT.out with h | ⟨_, h⟩
          · exact h
          · exfalso; omega
        have HPA1 := Lib.hid hpa
        clear hpa HT hn hq
        subst hkq
        go_wp2
        go_loop [14] (fun i => ∃ j : Nat, k ≤ j ∧ j ≤ 8 ∧ i = .int .i64 (j : Int) ∧ Hid (∀ x, k ≤ x → x < j → G[x]? = some 0)) (fun i => 8 - (intOf i).toNat)
        case atStart => exact ⟨k, Nat.le_refl _, hk, rfl, Lib.hid fun x h1 h2 => by omega⟩
        case round =>
          obtain ⟨j, hj1, hj2, rfl, hall⟩ := hrel
          by_cases hj : j < 8
          · obtain ⟨y, hy⟩ : ∃ y, G[j]? = some y := ⟨_, List.getElem?_eq_getElem (by rw [H8.out]; exact hj)⟩
            have hyc := HCA.out _ HBl.out j _ hy
            have hji : (j : Int) < 8 := by omega
            by_cases hy0 : y = 0
            · subst hy0
              have HA2 : Hid (∀ x, k ≤ x → x < j + 1 → G[x]? = some 0) := Lib.hid fun x h1 h2 => by
                by_cases hx : x < j
                · exact hall.out x h1 hx
                · obtain rfl : x = j := by omega
                  exact hy
              clear hy
              go_wp2
              go_round
              case rel => exact ⟨j + 1, by omega, by omega, by go_num, HA2⟩
              case measure => simp [intOf]; omega
            · have hne : k < j := by
                rcases Nat.lt_or_ge k j with h | h
                · exact h
                · obtain rfl : j = k := by omega
                  rw [HZ.out] at hy; injection hy with hy; exact absurd hy.symm (by simpa using hy0)
              have HPB1 := Lib.hid (HPA1.out.gap hne hall.out)
              clear hy
              go_wp2
              go_roundw
              case rel => exact ⟨_, j, by omega, by go_num, rfl, Lib.hid (by rw [ByteArray.size_append]; have e1 : (⟨#[58, 58]⟩ : ByteArray).size = 2 := rfl; have := HTs.out; omega), Lib.hid (.inr ⟨by rw [app_dat]; exact HPB1.out, by omega⟩), HBl⟩
              case measure => simp [intOf]; omega
          · have hji : ¬ (j : Int) < 8 := by omega
            have hne : k < j := by omega
            have HPB1 := Lib.hid (HPA1.out.gap hne hall.out)
            go_wp2
            go_roundw
            case rel => exact ⟨_, j, by omega, by go_num, rfl, Lib.hid (by rw [ByteArray.size_append]; have e1 : (⟨#[58, 58]⟩ : ByteArray).size = 2 := rfl; have := HTs.out; omega), Lib.hid (.inr ⟨by rw [app_dat]; exact HPB1.out, by omega⟩), HBl⟩
            case measure => simp [intOf]; omega
      · have HCC : Hid (∀ W', Below wr.heap.size wr W' → W'.cell? ⟨b, o + k, none⟩ = some (.int .u64 (n : Int))) := Lib.hid fun W' hb => HCA.out _ (HBl.out.trans (hb.mono HBl.out.size)) k _ HZ.out
        have HSP := Lib.hid (fun (how : Int) (W : World) => spelt_any n how hn W)
        obtain ⟨m, hm, m0, m3⟩ := and3 k hlt
        have hg : ¬ (k : Int) = q ∨ ((k : Int) = q ∧ ¬ (n : Int) = 0) := by
          by_cases h : (k : Int) = q
          · exact .inr ⟨h, fun e => hgap ⟨h, by omega⟩⟩
          · exact .inl h
        obtain ⟨sh, hsh⟩ : ∃ s : Int, ∀ W : World, (Op.shift BinOp.shr IntKind.i64 a2 IntKind.i64 m).run Tryd.prog W = .ok (.int .i64 s) W := shr_at a2 m m0
        clear hgap hlt m3
        rcases hg with hg | ⟨hg, hg2⟩
        rotate_left
        · subst hg
          by_cases hk0 : k = 0
          · have HK0 := Lib.hid hk0
            have g1 : ¬ (0 : Int) < (k : Int) := by omega
            have g2 : ¬ 0 < k := by omega
            clear hk0
            go_wp2
            refine wp_region_held_drew (S := (fun w' => w'.cell? ⟨b, o + k, none⟩ = some (.int .u64 (n : Int)))) (by kernel_rfl) ?_ (fun hHeld => ?_)
            · exact HCC.out _ ((Below.refl _ wr).drew)
            refine wpAnyH_take (i := 0) (oi := { dst := some 66, op := Go.Op.move (Go.Operand.tmp 13), type := 9, pos := "law.go:133", after := #[], guard := none }) (v := ?_) rfl (by kernel_rfl) (by kernel_rfl) (by kernel_rfl) (fun _ _ _ h => h) (Or.inl ⟨by rfl, ?_⟩) (by assumption) ?_
            rotate_left
            · intro w hSw
              (try dsimp only at hSw)
              go_simp
              try (with_reducible rfl)
            try simp only [Act.put, List.setIfInBounds_toArray, List.set_cons_zero, List.set_cons_succ]
            refine wpAnyH_take (i := 1) (oi := { dst := some 67, op := Go.Op.move (Go.Operand.tmp 11), type := 37, pos := "law.go:133", after := #[], guard := none }) (v := ?_) rfl (by kernel_rfl) (by kernel_rfl) (by kernel_rfl) (fun _ _ _ h => h) (Or.inl ⟨by rfl, ?_⟩) (by assumption) ?_
            rotate_left
            · intro w hSw
              (try dsimp only at hSw)
              go_simp
              try (with_reducible rfl)
            try simp only [Act.put, List.setIfInBounds_toArray, List.set_cons_zero, List.set_cons_succ]
            refine wpAnyH_take (i := 2) (oi := { dst := some 68, op := Go.Op.move (Go.Operand.tmp 14), type := 3, pos := "law.go:133", after := #[], guard := none }) (v := ?_) rfl (by kernel_rfl) (by kernel_rfl) (by kernel_rfl) (fun _ _ _ h => h) (Or.inl ⟨by rfl, ?_⟩) (by assumption) ?_
            rotate_left
            · intro w hSw
              (try dsimp only at hSw)
              go_simp
              try (with_reducible rfl)
            try simp only [Act.put, List.setIfInBounds_toArray, List.set_cons_zero, List.set_cons_succ]
            refine wpAnyH_take (i := 3) (oi := { dst := some 69, op := Go.Op.indexAddr 37 (Go.Operand.tmp 67) (Go.Operand.tmp 68), type := 0, pos := "law.go:133", after := #[{ on := 1, ground := Go.Ground.data }, { on := 2, ground := Go.Ground.data }], guard := none }) (v := ?_) rfl (by kernel_rfl) (by kernel_rfl) (by kernel_rfl) (fun _ _ _ h => h) (Or.inl ⟨by rfl, ?_⟩) (by assumption) ?_
            rotate_left
            · intro w hSw
              (try dsimp only at hSw)
              go_simp
              try (with_reducible rfl)
            try simp only [Act.put, List.setIfInBounds_toArray, List.set_cons_zero, List.set_cons_succ]
            refine wpAnyH_take (i := 4) (oi := { dst := some 70, op := Go.Op.load 23 (Go.Operand.tmp 69), type := 23, pos := "law.go:133", after := #[{ on := 3, ground := Go.Ground.data }], guard := none }) (v := ?_) rfl (by kernel_rfl) (by kernel_rfl) (by kernel_rfl) (fun _ _ _ h => h) (Or.inl ⟨by rfl, ?_⟩) (by assumption) ?_
            rotate_left
            · intro w hSw
              (try dsimp only at hSw)
              go_simp
              try (with_reducible rfl)
            try simp only [Act.put, List.setIfInBounds_toArray, List.set_cons_zero, List.set_cons_succ]
            refine wpAnyH_take (i := 5) (oi := { dst := some 71, op := Go.Op.move (Go.Operand.tmp 2), type := 3, pos := "law.go:133", after := #[], guard := none }) (v := ?_) rfl (by kernel_rfl) (by kernel_rfl) (by kernel_rfl) (fun _ _ _ h => h) (Or.inl ⟨by rfl, ?_⟩) (by assumption) ?_
            rotate_left
            · intro w hSw
              (try dsimp only at hSw)
              go_simp
              try (with_reducible rfl)
            try simp only [Act.put, List.setIfInBounds_toArray, List.set_cons_zero, List.set_cons_succ]
            refine wpAnyH_take (i := 6) (oi := { dst := some 72, op := Go.Op.move (Go.Operand.tmp 14), type := 3, pos := "law.go:133", after := #[], guard := none }) (v := ?_) rfl (by kernel_rfl) (by kernel_rfl) (by kernel_rfl) (fun _ _ _ h => h) (Or.inl ⟨by rfl, ?_⟩) (by assumption) ?_
            rotate_left
            · intro w hSw
              (try dsimp only at hSw)
              go_simp
              try (with_reducible rfl)
            try simp only [Act.put, List.setIfInBounds_toArray, List.set_cons_zero, List.set_cons_succ]
            refine wpAnyH_take (i := 7) (oi := { dst := some 73, op := Go.Op.binOp Go.BinOp.and 3 (Go.Operand.tmp 72) (Go.Operand.const (Go.Value.int Go.IntKind.i64 3)) 3, type := 3, pos := "law.go:133", after := #[{ on := 6, ground := Go.Ground.data }], guard := none }) (v := ?_) rfl (by kernel_rfl) (by kernel_rfl) (by kernel_rfl) (fun _ _ _ h => h) (Or.inl ⟨by rfl, ?_⟩) (by assumption) ?_
            rotate_left
            · intro w hSw
              (try dsimp only at hSw)
              go_simp
              try (with_reducible rfl)
            try simp only [Act.put, List.setIfInBounds_toArray, List.set_cons_zero, List.set_cons_succ]
            refine wpAnyH_take (i := 8) (oi := { dst := some 74, op := Go.Op.binOp Go.BinOp.shr 3 (Go.Operand.tmp 71) (Go.Operand.tmp 73) 3, type := 3, pos := "law.go:133", after := #[{ on := 5, ground := Go.Ground.data }, { on := 7, ground := Go.Ground.data }], guard := none }) (v := ?_) rfl (by kernel_rfl) (by kernel_rfl) (by kernel_rfl) (fun _ _ _ h => h) (Or.inl ⟨by rfl, ?_⟩) (by assumption) ?_
            rotate_left
            · intro w hSw
              (try dsimp only at hSw)
              go_simp
              try (with_reducible rfl)
            try simp only [Act.put, List.setIfInBounds_toArray, List.set_cons_zero, List.set_cons_succ]
            refine wpAnyH_take (i := 9) (oi := { dst := some 75, op := Go.Op.binOp Go.BinOp.and 3 (Go.Operand.tmp 74) (Go.Operand.const (Go.Value.int Go.IntKind.i64 7)) 3, type := 3, pos := "law.go:133", after := #[{ on := 8, ground := Go.Ground.data }], guard := none }) (v := ?_) rfl (by kernel_rfl) (by kernel_rfl) (by kernel_rfl) (fun _ _ _ h => h) (Or.inl ⟨by rfl, ?_⟩) (by assumption) ?_
            rotate_left
            · intro w hSw
              (try dsimp only at hSw)
              go_simp
              try (with_reducible rfl)
            try simp only [Act.put, List.setIfInBounds_toArray, List.set_cons_zero, List.set_cons_succ]
            refine wpAnyH_ready (rs := [10]) (by kernel_rfl) (by simp) ?_
            refine AllReadyH.cons (o := { dst := some 76, op := Go.Op.call { callee := Go.Callee.value (Go.Operand.func 28), args := #[Go.Operand.tmp 70, Go.Operand.tmp 75], argTypes := #[23, 3] }, type := 9, pos := "law.go:133", after := #[{ on := 4, ground := Go.Ground.data }, { on := 9, ground := Go.Ground.data }], guard := none }) rfl (fun K hK => ?_) AllReadyH.nil
            go_simp
            refine Calls.mono (HSP.out _ _) ?_
            rintro e w3 ⟨X, rfl, hsp, hb⟩
            have hR : Below wr.heap.size wr w3 := ((Below.refl _ wr).drew).trans hb
            have hXs : X.size ≤ 4 := by rw [Lib.size_eq]; exact hsp.len.2
            have hadd : ∀ W : World, (Op.stringOp .add (T) X).run Tryd.prog W = .ok (.string (T ++ X)) W := fun W => run_string_add_sum _ _ _ (by first | omega | (rw [ByteArray.size_append]; have e1 : (⟨#[58]⟩ : ByteArray).size = 1 := rfl; omega))
            have HSX := Lib.hid hsp
            have HRX := Lib.hid hR
            clear hsp hb
            go_wp2_with fail
            refine hK.out _ _ ?_ (fun hHeld => ?_)
            · first | exact HCC.out _ hR | exact HCC.out _ ((Below.refl _ wr).drew)
            clear hK K
            try simp only [Act.put, List.setIfInBounds_toArray, List.set_cons_zero, List.set_cons_succ]
            refine wpAnyH_take (i := 11) (oi := { dst := some 77, op := Go.Op.binOp Go.BinOp.add 9 (Go.Operand.tmp 66) (Go.Operand.tmp 76) 9, type := 9, pos := "law.go:133", after := #[{ on := 0, ground := Go.Ground.data }, { on := 10, ground := Go.Ground.data }], guard := none }) (v := ?_) rfl (by kernel_rfl) (by kernel_rfl) (by kernel_rfl) (fun _ _ _ h => h) (Or.inl ⟨by rfl, ?_⟩) (by assumption) ?_
            rotate_left
            · intro w hSw
              (try dsimp only at hSw)
              go_simp
              try (with_reducible rfl)
            try simp only [Act.put, List.setIfInBounds_toArray, List.set_cons_zero, List.set_cons_succ]
            refine wpAnyH_take (i := 12) (oi := { dst := some 13, op := Go.Op.assign (Go.Operand.tmp 77), type := 9, pos := "law.go:133", after := #[{ on := 11, ground := Go.Ground.data }, { on := 10, ground := Go.Ground.chain }, { on := 0, ground := Go.Ground.phase }, { on := 1, ground := Go.Ground.phase }, { on := 2, ground := Go.Ground.phase }, { on := 3, ground := Go.Ground.phase }, { on := 4, ground := Go.Ground.phase }, { on := 5, ground := Go.Ground.phase }, { on := 6, ground := Go.Ground.phase }, { on := 7, ground := Go.Ground.phase }, { on := 8, ground := Go.Ground.phase }, { on := 9, ground := Go.Ground.phase }, { on := 10, ground := Go.Ground.phase }, { on := 11, ground := Go.Ground.phase }], guard := none }) (v := ?_) rfl (by kernel_rfl) (by kernel_rfl) (by kernel_rfl) (fun _ _ _ h => h) (Or.inl ⟨by rfl, ?_⟩) (by assumption) ?_
            rotate_left
            · intro w hSw
              (try dsimp only at hSw)
              go_simp
              try (with_reducible rfl)
            try simp only [Act.put, List.setIfInBounds_toArray, List.set_cons_zero, List.set_cons_succ]
            refine wpAnyH_done (by kernel_rfl) ?_ _
            go_wp2
            go_roundw
            case rel => exact ⟨_, k + 1, by omega, by go_num, rfl, Lib.hid (by rw [ByteArray.size_append]; have := HTs.out; have := hXs; omega), Lib.hid (by
                have hs := HSX.out
                have hz := HZ.out
                have hk0 := HK0.out
                subst hk0
                rcases HT.out with h | ⟨h, hq⟩
                · rw [app_dat]; exact .inl (h.first hz hs)
                · exfalso; obtain ⟨_, _, _, _, p1, p2, _⟩ := h; omega), Lib.hid (HBl.out.trans (HRX.out.mono HBl.out.size))⟩
            case measure => simp [intOf]; omega

          · have hlast : ∃ c, T.data.toList.getLast? = some c ∧ ((c = 58 ∧ ∀ w, Sp n w → PA G (k + 1) (T.data.toList ++ w) ∨ (PB G (k + 1) (T.data.toList ++ w) ∧ (k : Int) < ((k + 1 : Nat) : Int))) ∨ (c ≠ 58 ∧ ∀ w, Sp n w → PA G (k + 1) (T.data.toList ++ [58] ++ w) ∨ (PB G (k + 1) (T.data.toList ++ [58] ++ w) ∧ (k : Int) < ((k + 1 : Nat) : Int)))) := by
              rcases HT.out with h | ⟨h, hqk⟩
              · obtain ⟨c, h1, h2⟩ := h.last (by omega) (by rw [H8.out]; exact hk)
                exact ⟨c, h1, .inr ⟨h2, fun w hw => .inl (h.step (by omega) HZ.out hw)⟩⟩
              · obtain ⟨c, h1, h2 | h2⟩ := h.last (by rw [H8.out]; exact hk)
                · exact ⟨c, h1, .inl ⟨h2.1, fun w hw => .inr ⟨h2.2 _ w HZ.out hw, by omega⟩⟩⟩
                · exact ⟨c, h1, .inr ⟨h2.1, fun w hw => .inr ⟨h2.2 _ w HZ.out hw, by omega⟩⟩⟩
            have hT0 : 0 < T.size := by
              obtain ⟨c, h1, _⟩ := hlast
              rw [Lib.size_eq]
              cases hd : T.data.toList with
              | nil => rw [hd] at h1; cases h1
              | cons _ _ => simp
            obtain ⟨c, hlast, ⟨hc, hstep⟩ | ⟨hc, hstep⟩⟩ := hlast
            · have HST := Lib.hid hstep
              have hlt0 : T.size - 1 < T.size := by omega
              have hx0 : ((T.size : Int) - 1).toNat = T.size - 1 := by omega
              have hx1 : (0 : Int) ≤ (T.size : Int) - 1 := by omega
              have hx2 : (T.size : Int) - 1 < (T.size : Int) := by omega
              have g1 : (0 : Int) < (k : Int) := by omega
              have g2 : 0 < k := by omega
              have hcc : ((T[T.size - 1]'hlt0).toNat : Int) = 58 := by rw [last_at T c hlast hlt0, hc]; rfl
              clear hlast hstep
              go_wp2
              refine wp_region_held_drew (S := (fun w' => w'.cell? ⟨b, o + k, none⟩ = some (.int .u64 (n : Int)))) (by kernel_rfl) ?_ (fun hHeld => ?_)
              · exact HCC.out _ ((Below.refl _ wr).drew)
              refine wpAnyH_take (i := 0) (oi := { dst := some 66, op := Go.Op.move (Go.Operand.tmp 13), type := 9, pos := "law.go:133", after := #[], guard := none }) (v := ?_) rfl (by kernel_rfl) (by kernel_rfl) (by kernel_rfl) (fun _ _ _ h => h) (Or.inl ⟨by rfl, ?_⟩) (by assumption) ?_
              rotate_left
              · intro w hSw
                (try dsimp only at hSw)
                go_simp
                try (with_reducible rfl)
              try simp only [Act.put, List.setIfInBounds_toArray, List.set_cons_zero, List.set_cons_succ]
              refine wpAnyH_take (i := 1) (oi := { dst := some 67, op := Go.Op.move (Go.Operand.tmp 11), type := 37, pos := "law.go:133", after := #[], guard := none }) (v := ?_) rfl (by kernel_rfl) (by kernel_rfl) (by kernel_rfl) (fun _ _ _ h => h) (Or.inl ⟨by rfl, ?_⟩) (by assumption) ?_
              rotate_left
              · intro w hSw
                (try dsimp only at hSw)
                go_simp
                try (with_reducible rfl)
              try simp only [Act.put, List.setIfInBounds_toArray, List.set_cons_zero, List.set_cons_succ]
              refine wpAnyH_take (i := 2) (oi := { dst := some 68, op := Go.Op.move (Go.Operand.tmp 14), type := 3, pos := "law.go:133", after := #[], guard := none }) (v := ?_) rfl (by kernel_rfl) (by kernel_rfl) (by kernel_rfl) (fun _ _ _ h => h) (Or.inl ⟨by rfl, ?_⟩) (by assumption) ?_
              rotate_left
              · intro w hSw
                (try dsimp only at hSw)
                go_simp
                try (with_reducible rfl)
              try simp only [Act.put, List.setIfInBounds_toArray, List.set_cons_zero, List.set_cons_succ]
              refine wpAnyH_take (i := 3) (oi := { dst := some 69, op := Go.Op.indexAddr 37 (Go.Operand.tmp 67) (Go.Operand.tmp 68), type := 0, pos := "law.go:133", after := #[{ on := 1, ground := Go.Ground.data }, { on := 2, ground := Go.Ground.data }], guard := none }) (v := ?_) rfl (by kernel_rfl) (by kernel_rfl) (by kernel_rfl) (fun _ _ _ h => h) (Or.inl ⟨by rfl, ?_⟩) (by assumption) ?_
              rotate_left
              · intro w hSw
                (try dsimp only at hSw)
                go_simp
                try (with_reducible rfl)
              try simp only [Act.put, List.setIfInBounds_toArray, List.set_cons_zero, List.set_cons_succ]
              refine wpAnyH_take (i := 4) (oi := { dst := some 70, op := Go.Op.load 23 (Go.Operand.tmp 69), type := 23, pos := "law.go:133", after := #[{ on := 3, ground := Go.Ground.data }], guard := none }) (v := ?_) rfl (by kernel_rfl) (by kernel_rfl) (by kernel_rfl) (fun _ _ _ h => h) (Or.inl ⟨by rfl, ?_⟩) (by assumption) ?_
              rotate_left
              · intro w hSw
                (try dsimp only at hSw)
                go_simp
                try (with_reducible rfl)
              try simp only [Act.put, List.setIfInBounds_toArray, List.set_cons_zero, List.set_cons_succ]
              refine wpAnyH_take (i := 5) (oi := { dst := some 71, op := Go.Op.move (Go.Operand.tmp 2), type := 3, pos := "law.go:133", after := #[], guard := none }) (v := ?_) rfl (by kernel_rfl) (by kernel_rfl) (by kernel_rfl) (fun _ _ _ h => h) (Or.inl ⟨by rfl, ?_⟩) (by assumption) ?_
              rotate_left
              · intro w hSw
                (try dsimp only at hSw)
                go_simp
                try (with_reducible rfl)
              try simp only [Act.put, List.setIfInBounds_toArray, List.set_cons_zero, List.set_cons_succ]
              refine wpAnyH_take (i := 6) (oi := { dst := some 72, op := Go.Op.move (Go.Operand.tmp 14), type := 3, pos := "law.go:133", after := #[], guard := none }) (v := ?_) rfl (by kernel_rfl) (by kernel_rfl) (by kernel_rfl) (fun _ _ _ h => h) (Or.inl ⟨by rfl, ?_⟩) (by assumption) ?_
              rotate_left
              · intro w hSw
                (try dsimp only at hSw)
                go_simp
                try (with_reducible rfl)
              try simp only [Act.put, List.setIfInBounds_toArray, List.set_cons_zero, List.set_cons_succ]
              refine wpAnyH_take (i := 7) (oi := { dst := some 73, op := Go.Op.binOp Go.BinOp.and 3 (Go.Operand.tmp 72) (Go.Operand.const (Go.Value.int Go.IntKind.i64 3)) 3, type := 3, pos := "law.go:133", after := #[{ on := 6, ground := Go.Ground.data }], guard := none }) (v := ?_) rfl (by kernel_rfl) (by kernel_rfl) (by kernel_rfl) (fun _ _ _ h => h) (Or.inl ⟨by rfl, ?_⟩) (by assumption) ?_
              rotate_left
              · intro w hSw
                (try dsimp only at hSw)
                go_simp
                try (with_reducible rfl)
              try simp only [Act.put, List.setIfInBounds_toArray, List.set_cons_zero, List.set_cons_succ]
              refine wpAnyH_take (i := 8) (oi := { dst := some 74, op := Go.Op.binOp Go.BinOp.shr 3 (Go.Operand.tmp 71) (Go.Operand.tmp 73) 3, type := 3, pos := "law.go:133", after := #[{ on := 5, ground := Go.Ground.data }, { on := 7, ground := Go.Ground.data }], guard := none }) (v := ?_) rfl (by kernel_rfl) (by kernel_rfl) (by kernel_rfl) (fun _ _ _ h => h) (Or.inl ⟨by rfl, ?_⟩) (by assumption) ?_
              rotate_left
              · intro w hSw
                (try dsimp only at hSw)
                go_simp
                try (with_reducible rfl)
              try simp only [Act.put, List.setIfInBounds_toArray, List.set_cons_zero, List.set_cons_succ]
              refine wpAnyH_take (i := 9) (oi := { dst := some 75, op := Go.Op.binOp Go.BinOp.and 3 (Go.Operand.tmp 74) (Go.Operand.const (Go.Value.int Go.IntKind.i64 7)) 3, type := 3, pos := "law.go:133", after := #[{ on := 8, ground := Go.Ground.data }], guard := none }) (v := ?_) rfl (by kernel_rfl) (by kernel_rfl) (by kernel_rfl) (fun _ _ _ h => h) (Or.inl ⟨by rfl, ?_⟩) (by assumption) ?_
              rotate_left
              · intro w hSw
                (try dsimp only at hSw)
                go_simp
                try (with_reducible rfl)
              try simp only [Act.put, List.setIfInBounds_toArray, List.set_cons_zero, List.set_cons_succ]
              refine wpAnyH_ready (rs := [10]) (by kernel_rfl) (by simp) ?_
              refine AllReadyH.cons (o := { dst := some 76, op := Go.Op.call { callee := Go.Callee.value (Go.Operand.func 28), args := #[Go.Operand.tmp 70, Go.Operand.tmp 75], argTypes := #[23, 3] }, type := 9, pos := "law.go:133", after := #[{ on := 4, ground := Go.Ground.data }, { on := 9, ground := Go.Ground.data }], guard := none }) rfl (fun K hK => ?_) AllReadyH.nil
              go_simp
              refine Calls.mono (HSP.out _ _) ?_
              rintro e w3 ⟨X, rfl, hsp, hb⟩
              have hR : Below wr.heap.size wr w3 := ((Below.refl _ wr).drew).trans hb
              have hXs : X.size ≤ 4 := by rw [Lib.size_eq]; exact hsp.len.2
              have hadd : ∀ W : World, (Op.stringOp .add (T) X).run Tryd.prog W = .ok (.string (T ++ X)) W := fun W => run_string_add_sum _ _ _ (by first | omega | (rw [ByteArray.size_append]; have e1 : (⟨#[58]⟩ : ByteArray).size = 1 := rfl; omega))
              have HSX := Lib.hid hsp
              have HRX := Lib.hid hR
              clear hsp hb
              go_wp2_with fail
              refine hK.out _ _ ?_ (fun hHeld => ?_)
              · first | exact HCC.out _ hR | exact HCC.out _ ((Below.refl _ wr).drew)
              clear hK K
              try simp only [Act.put, List.setIfInBounds_toArray, List.set_cons_zero, List.set_cons_succ]
              refine wpAnyH_take (i := 11) (oi := { dst := some 77, op := Go.Op.binOp Go.BinOp.add 9 (Go.Operand.tmp 66) (Go.Operand.tmp 76) 9, type := 9, pos := "law.go:133", after := #[{ on := 0, ground := Go.Ground.data }, { on := 10, ground := Go.Ground.data }], guard := none }) (v := ?_) rfl (by kernel_rfl) (by kernel_rfl) (by kernel_rfl) (fun _ _ _ h => h) (Or.inl ⟨by rfl, ?_⟩) (by assumption) ?_
              rotate_left
              · intro w hSw
                (try dsimp only at hSw)
                go_simp
                try (with_reducible rfl)
              try simp only [Act.put, List.setIfInBounds_toArray, List.set_cons_zero, List.set_cons_succ]
              refine wpAnyH_take (i := 12) (oi := { dst := some 13, op := Go.Op.assign (Go.Operand.tmp 77), type := 9, pos := "law.go:133", after := #[{ on := 11, ground := Go.Ground.data }, { on := 10, ground := Go.Ground.chain }, { on := 0, ground := Go.Ground.phase }, { on := 1, ground := Go.Ground.phase }, { on := 2, ground := Go.Ground.phase }, { on := 3, ground := Go.Ground.phase }, { on := 4, ground := Go.Ground.phase }, { on := 5, ground := Go.Ground.phase }, { on := 6, ground := Go.Ground.phase }, { on := 7, ground := Go.Ground.phase }, { on := 8, ground := Go.Ground.phase }, { on := 9, ground := Go.Ground.phase }, { on := 10, ground := Go.Ground.phase }, { on := 11, ground := Go.Ground.phase }], guard := none }) (v := ?_) rfl (by kernel_rfl) (by kernel_rfl) (by kernel_rfl) (fun _ _ _ h => h) (Or.inl ⟨by rfl, ?_⟩) (by assumption) ?_
              rotate_left
              · intro w hSw
                (try dsimp only at hSw)
                go_simp
                try (with_reducible rfl)
              try simp only [Act.put, List.setIfInBounds_toArray, List.set_cons_zero, List.set_cons_succ]
              refine wpAnyH_done (by kernel_rfl) ?_ _
              go_wp2
              go_roundw
              case rel => exact ⟨_, k + 1, by omega, by go_num, rfl, Lib.hid (by rw [ByteArray.size_append]; have := HTs.out; have := hXs; omega), Lib.hid (by rw [app_dat]; exact HST.out _ HSX.out), Lib.hid (HBl.out.trans (HRX.out.mono HBl.out.size))⟩
              case measure => simp [intOf]; omega

            · have HST := Lib.hid hstep
              have hlt0 : T.size - 1 < T.size := by omega
              have hx0 : ((T.size : Int) - 1).toNat = T.size - 1 := by omega
              have hx1 : (0 : Int) ≤ (T.size : Int) - 1 := by omega
              have hx2 : (T.size : Int) - 1 < (T.size : Int) := by omega
              have g1 : (0 : Int) < (k : Int) := by omega
              have g2 : 0 < k := by omega
              have hcc : ¬ ((T[T.size - 1]'hlt0).toNat : Int) = 58 := by rw [last_at T c hlast hlt0]; exact fun e => hc (by apply UInt8.toNat_inj.1; have e2 : (58 : UInt8).toNat = 58 := rfl; omega)
              clear hlast hstep
              go_wp2
              refine wp_region_held_drew (S := (fun w' => w'.cell? ⟨b, o + k, none⟩ = some (.int .u64 (n : Int)))) (by kernel_rfl) ?_ (fun hHeld => ?_)
              · exact HCC.out _ ((Below.refl _ wr).drew)
              refine wpAnyH_take (i := 0) (oi := { dst := some 66, op := Go.Op.move (Go.Operand.tmp 13), type := 9, pos := "law.go:133", after := #[], guard := none }) (v := ?_) rfl (by kernel_rfl) (by kernel_rfl) (by kernel_rfl) (fun _ _ _ h => h) (Or.inl ⟨by rfl, ?_⟩) (by assumption) ?_
              rotate_left
              · intro w hSw
                (try dsimp only at hSw)
                go_simp
                try (with_reducible rfl)
              try simp only [Act.put, List.setIfInBounds_toArray, List.set_cons_zero, List.set_cons_succ]
              refine wpAnyH_take (i := 1) (oi := { dst := some 67, op := Go.Op.move (Go.Operand.tmp 11), type := 37, pos := "law.go:133", after := #[], guard := none }) (v := ?_) rfl (by kernel_rfl) (by kernel_rfl) (by kernel_rfl) (fun _ _ _ h => h) (Or.inl ⟨by rfl, ?_⟩) (by assumption) ?_
              rotate_left
              · intro w hSw
                (try dsimp only at hSw)
                go_simp
                try (with_reducible rfl)
              try simp only [Act.put, List.setIfInBounds_toArray, List.set_cons_zero, List.set_cons_succ]
              refine wpAnyH_take (i := 2) (oi := { dst := some 68, op := Go.Op.move (Go.Operand.tmp 14), type := 3, pos := "law.go:133", after := #[], guard := none }) (v := ?_) rfl (by kernel_rfl) (by kernel_rfl) (by kernel_rfl) (fun _ _ _ h => h) (Or.inl ⟨by rfl, ?_⟩) (by assumption) ?_
              rotate_left
              · intro w hSw
                (try dsimp only at hSw)
                go_simp
                try (with_reducible rfl)
              try simp only [Act.put, List.setIfInBounds_toArray, List.set_cons_zero, List.set_cons_succ]
              refine wpAnyH_take (i := 3) (oi := { dst := some 69, op := Go.Op.indexAddr 37 (Go.Operand.tmp 67) (Go.Operand.tmp 68), type := 0, pos := "law.go:133", after := #[{ on := 1, ground := Go.Ground.data }, { on := 2, ground := Go.Ground.data }], guard := none }) (v := ?_) rfl (by kernel_rfl) (by kernel_rfl) (by kernel_rfl) (fun _ _ _ h => h) (Or.inl ⟨by rfl, ?_⟩) (by assumption) ?_
              rotate_left
              · intro w hSw
                (try dsimp only at hSw)
                go_simp
                try (with_reducible rfl)
              try simp only [Act.put, List.setIfInBounds_toArray, List.set_cons_zero, List.set_cons_succ]
              refine wpAnyH_take (i := 4) (oi := { dst := some 70, op := Go.Op.load 23 (Go.Operand.tmp 69), type := 23, pos := "law.go:133", after := #[{ on := 3, ground := Go.Ground.data }], guard := none }) (v := ?_) rfl (by kernel_rfl) (by kernel_rfl) (by kernel_rfl) (fun _ _ _ h => h) (Or.inl ⟨by rfl, ?_⟩) (by assumption) ?_
              rotate_left
              · intro w hSw
                (try dsimp only at hSw)
                go_simp
                try (with_reducible rfl)
              try simp only [Act.put, List.setIfInBounds_toArray, List.set_cons_zero, List.set_cons_succ]
              refine wpAnyH_take (i := 5) (oi := { dst := some 71, op := Go.Op.move (Go.Operand.tmp 2), type := 3, pos := "law.go:133", after := #[], guard := none }) (v := ?_) rfl (by kernel_rfl) (by kernel_rfl) (by kernel_rfl) (fun _ _ _ h => h) (Or.inl ⟨by rfl, ?_⟩) (by assumption) ?_
              rotate_left
              · intro w hSw
                (try dsimp only at hSw)
                go_simp
                try (with_reducible rfl)
              try simp only [Act.put, List.setIfInBounds_toArray, List.set_cons_zero, List.set_cons_succ]
              refine wpAnyH_take (i := 6) (oi := { dst := some 72, op := Go.Op.move (Go.Operand.tmp 14), type := 3, pos := "law.go:133", after := #[], guard := none }) (v := ?_) rfl (by kernel_rfl) (by kernel_rfl) (by kernel_rfl) (fun _ _ _ h => h) (Or.inl ⟨by rfl, ?_⟩) (by assumption) ?_
              rotate_left
              · intro w hSw
                (try dsimp only at hSw)
                go_simp
                try (with_reducible rfl)
              try simp only [Act.put, List.setIfInBounds_toArray, List.set_cons_zero, List.set_cons_succ]
              refine wpAnyH_take (i := 7) (oi := { dst := some 73, op := Go.Op.binOp Go.BinOp.and 3 (Go.Operand.tmp 72) (Go.Operand.const (Go.Value.int Go.IntKind.i64 3)) 3, type := 3, pos := "law.go:133", after := #[{ on := 6, ground := Go.Ground.data }], guard := none }) (v := ?_) rfl (by kernel_rfl) (by kernel_rfl) (by kernel_rfl) (fun _ _ _ h => h) (Or.inl ⟨by rfl, ?_⟩) (by assumption) ?_
              rotate_left
              · intro w hSw
                (try dsimp only at hSw)
                go_simp
                try (with_reducible rfl)
              try simp only [Act.put, List.setIfInBounds_toArray, List.set_cons_zero, List.set_cons_succ]
              refine wpAnyH_take (i := 8) (oi := { dst := some 74, op := Go.Op.binOp Go.BinOp.shr 3 (Go.Operand.tmp 71) (Go.Operand.tmp 73) 3, type := 3, pos := "law.go:133", after := #[{ on := 5, ground := Go.Ground.data }, { on := 7, ground := Go.Ground.data }], guard := none }) (v := ?_) rfl (by kernel_rfl) (by kernel_rfl) (by kernel_rfl) (fun _ _ _ h => h) (Or.inl ⟨by rfl, ?_⟩) (by assumption) ?_
              rotate_left
              · intro w hSw
                (try dsimp only at hSw)
                go_simp
                try (with_reducible rfl)
              try simp only [Act.put, List.setIfInBounds_toArray, List.set_cons_zero, List.set_cons_succ]
              refine wpAnyH_take (i := 9) (oi := { dst := some 75, op := Go.Op.binOp Go.BinOp.and 3 (Go.Operand.tmp 74) (Go.Operand.const (Go.Value.int Go.IntKind.i64 7)) 3, type := 3, pos := "law.go:133", after := #[{ on := 8, ground := Go.Ground.data }], guard := none }) (v := ?_) rfl (by kernel_rfl) (by kernel_rfl) (by kernel_rfl) (fun _ _ _ h => h) (Or.inl ⟨by rfl, ?_⟩) (by assumption) ?_
              rotate_left
              · intro w hSw
                (try dsimp only at hSw)
                go_simp
                try (with_reducible rfl)
              try simp only [Act.put, List.setIfInBounds_toArray, List.set_cons_zero, List.set_cons_succ]
              refine wpAnyH_ready (rs := [10]) (by kernel_rfl) (by simp) ?_
              refine AllReadyH.cons (o := { dst := some 76, op := Go.Op.call { callee := Go.Callee.value (Go.Operand.func 28), args := #[Go.Operand.tmp 70, Go.Operand.tmp 75], argTypes := #[23, 3] }, type := 9, pos := "law.go:133", after := #[{ on := 4, ground := Go.Ground.data }, { on := 9, ground := Go.Ground.data }], guard := none }) rfl (fun K hK => ?_) AllReadyH.nil
              go_simp
              refine Calls.mono (HSP.out _ _) ?_
              rintro e w3 ⟨X, rfl, hsp, hb⟩
              have hR : Below wr.heap.size wr w3 := ((Below.refl _ wr).drew).trans hb
              have hXs : X.size ≤ 4 := by rw [Lib.size_eq]; exact hsp.len.2
              have hadd : ∀ W : World, (Op.stringOp .add (T ++ (⟨#[58]⟩ : ByteArray)) X).run Tryd.prog W = .ok (.string (T ++ (⟨#[58]⟩ : ByteArray) ++ X)) W := fun W => run_string_add_sum _ _ _ (by first | omega | (rw [ByteArray.size_append]; have e1 : (⟨#[58]⟩ : ByteArray).size = 1 := rfl; omega))
              have HSX := Lib.hid hsp
              have HRX := Lib.hid hR
              clear hsp hb
              go_wp2_with fail
              refine hK.out _ _ ?_ (fun hHeld => ?_)
              · first | exact HCC.out _ hR | exact HCC.out _ ((Below.refl _ wr).drew)
              clear hK K
              try simp only [Act.put, List.setIfInBounds_toArray, List.set_cons_zero, List.set_cons_succ]
              refine wpAnyH_take (i := 11) (oi := { dst := some 77, op := Go.Op.binOp Go.BinOp.add 9 (Go.Operand.tmp 66) (Go.Operand.tmp 76) 9, type := 9, pos := "law.go:133", after := #[{ on := 0, ground := Go.Ground.data }, { on := 10, ground := Go.Ground.data }], guard := none }) (v := ?_) rfl (by kernel_rfl) (by kernel_rfl) (by kernel_rfl) (fun _ _ _ h => h) (Or.inl ⟨by rfl, ?_⟩) (by assumption) ?_
              rotate_left
              · intro w hSw
                (try dsimp only at hSw)
                go_simp
                try (with_reducible rfl)
              try simp only [Act.put, List.setIfInBounds_toArray, List.set_cons_zero, List.set_cons_succ]
              refine wpAnyH_take (i := 12) (oi := { dst := some 13, op := Go.Op.assign (Go.Operand.tmp 77), type := 9, pos := "law.go:133", after := #[{ on := 11, ground := Go.Ground.data }, { on := 10, ground := Go.Ground.chain }, { on := 0, ground := Go.Ground.phase }, { on := 1, ground := Go.Ground.phase }, { on := 2, ground := Go.Ground.phase }, { on := 3, ground := Go.Ground.phase }, { on := 4, ground := Go.Ground.phase }, { on := 5, ground := Go.Ground.phase }, { on := 6, ground := Go.Ground.phase }, { on := 7, ground := Go.Ground.phase }, { on := 8, ground := Go.Ground.phase }, { on := 9, ground := Go.Ground.phase }, { on := 10, ground := Go.Ground.phase }, { on := 11, ground := Go.Ground.phase }], guard := none }) (v := ?_) rfl (by kernel_rfl) (by kernel_rfl) (by kernel_rfl) (fun _ _ _ h => h) (Or.inl ⟨by rfl, ?_⟩) (by assumption) ?_
              rotate_left
              · intro w hSw
                (try dsimp only at hSw)
                go_simp
                try (with_reducible rfl)
              try simp only [Act.put, List.setIfInBounds_toArray, List.set_cons_zero, List.set_cons_succ]
              refine wpAnyH_done (by kernel_rfl) ?_ _
              go_wp2
              go_roundw
              case rel => exact ⟨_, k + 1, by omega, by go_num, rfl, Lib.hid (by rw [ByteArray.size_append, ByteArray.size_append]; have e1 : (⟨#[58]⟩ : ByteArray).size = 1 := rfl; have := HTs.out; have := hXs; omega), Lib.hid (by rw [app_dat, app_dat]; exact HST.out _ HSX.out), Lib.hid (HBl.out.trans (HRX.out.mono HBl.out.size))⟩
              case measure => simp [intOf]; omega

        · by_cases hk0 : k = 0
          · have HK0 := Lib.hid hk0
            have g1 : ¬ (0 : Int) < (k : Int) := by omega
            have g2 : ¬ 0 < k := by omega
            clear hk0
            go_wp2
            refine wp_region_held_drew (S := (fun w' => w'.cell? ⟨b, o + k, none⟩ = some (.int .u64 (n : Int)))) (by kernel_rfl) ?_ (fun hHeld => ?_)
            · exact HCC.out _ ((Below.refl _ wr).drew)
            refine wpAnyH_take (i := 0) (oi := { dst := some 66, op := Go.Op.move (Go.Operand.tmp 13), type := 9, pos := "law.go:133", after := #[], guard := none }) (v := ?_) rfl (by kernel_rfl) (by kernel_rfl) (by kernel_rfl) (fun _ _ _ h => h) (Or.inl ⟨by rfl, ?_⟩) (by assumption) ?_
            rotate_left
            · intro w hSw
              (try dsimp only at hSw)
              go_simp
              try (with_reducible rfl)
            try simp only [Act.put, List.setIfInBounds_toArray, List.set_cons_zero, List.set_cons_succ]
            refine wpAnyH_take (i := 1) (oi := { dst := some 67, op := Go.Op.move (Go.Operand.tmp 11), type := 37, pos := "law.go:133", after := #[], guard := none }) (v := ?_) rfl (by kernel_rfl) (by kernel_rfl) (by kernel_rfl) (fun _ _ _ h => h) (Or.inl ⟨by rfl, ?_⟩) (by assumption) ?_
            rotate_left
            · intro w hSw
              (try dsimp only at hSw)
              go_simp
              try (with_reducible rfl)
            try simp only [Act.put, List.setIfInBounds_toArray, List.set_cons_zero, List.set_cons_succ]
            refine wpAnyH_take (i := 2) (oi := { dst := some 68, op := Go.Op.move (Go.Operand.tmp 14), type := 3, pos := "law.go:133", after := #[], guard := none }) (v := ?_) rfl (by kernel_rfl) (by kernel_rfl) (by kernel_rfl) (fun _ _ _ h => h) (Or.inl ⟨by rfl, ?_⟩) (by assumption) ?_
            rotate_left
            · intro w hSw
              (try dsimp only at hSw)
              go_simp
              try (with_reducible rfl)
            try simp only [Act.put, List.setIfInBounds_toArray, List.set_cons_zero, List.set_cons_succ]
            refine wpAnyH_take (i := 3) (oi := { dst := some 69, op := Go.Op.indexAddr 37 (Go.Operand.tmp 67) (Go.Operand.tmp 68), type := 0, pos := "law.go:133", after := #[{ on := 1, ground := Go.Ground.data }, { on := 2, ground := Go.Ground.data }], guard := none }) (v := ?_) rfl (by kernel_rfl) (by kernel_rfl) (by kernel_rfl) (fun _ _ _ h => h) (Or.inl ⟨by rfl, ?_⟩) (by assumption) ?_
            rotate_left
            · intro w hSw
              (try dsimp only at hSw)
              go_simp
              try (with_reducible rfl)
            try simp only [Act.put, List.setIfInBounds_toArray, List.set_cons_zero, List.set_cons_succ]
            refine wpAnyH_take (i := 4) (oi := { dst := some 70, op := Go.Op.load 23 (Go.Operand.tmp 69), type := 23, pos := "law.go:133", after := #[{ on := 3, ground := Go.Ground.data }], guard := none }) (v := ?_) rfl (by kernel_rfl) (by kernel_rfl) (by kernel_rfl) (fun _ _ _ h => h) (Or.inl ⟨by rfl, ?_⟩) (by assumption) ?_
            rotate_left
            · intro w hSw
              (try dsimp only at hSw)
              go_simp
              try (with_reducible rfl)
            try simp only [Act.put, List.setIfInBounds_toArray, List.set_cons_zero, List.set_cons_succ]
            refine wpAnyH_take (i := 5) (oi := { dst := some 71, op := Go.Op.move (Go.Operand.tmp 2), type := 3, pos := "law.go:133", after := #[], guard := none }) (v := ?_) rfl (by kernel_rfl) (by kernel_rfl) (by kernel_rfl) (fun _ _ _ h => h) (Or.inl ⟨by rfl, ?_⟩) (by assumption) ?_
            rotate_left
            · intro w hSw
              (try dsimp only at hSw)
              go_simp
              try (with_reducible rfl)
            try simp only [Act.put, List.setIfInBounds_toArray, List.set_cons_zero, List.set_cons_succ]
            refine wpAnyH_take (i := 6) (oi := { dst := some 72, op := Go.Op.move (Go.Operand.tmp 14), type := 3, pos := "law.go:133", after := #[], guard := none }) (v := ?_) rfl (by kernel_rfl) (by kernel_rfl) (by kernel_rfl) (fun _ _ _ h => h) (Or.inl ⟨by rfl, ?_⟩) (by assumption) ?_
            rotate_left
            · intro w hSw
              (try dsimp only at hSw)
              go_simp
              try (with_reducible rfl)
            try simp only [Act.put, List.setIfInBounds_toArray, List.set_cons_zero, List.set_cons_succ]
            refine wpAnyH_take (i := 7) (oi := { dst := some 73, op := Go.Op.binOp Go.BinOp.and 3 (Go.Operand.tmp 72) (Go.Operand.const (Go.Value.int Go.IntKind.i64 3)) 3, type := 3, pos := "law.go:133", after := #[{ on := 6, ground := Go.Ground.data }], guard := none }) (v := ?_) rfl (by kernel_rfl) (by kernel_rfl) (by kernel_rfl) (fun _ _ _ h => h) (Or.inl ⟨by rfl, ?_⟩) (by assumption) ?_
            rotate_left
            · intro w hSw
              (try dsimp only at hSw)
              go_simp
              try (with_reducible rfl)
            try simp only [Act.put, List.setIfInBounds_toArray, List.set_cons_zero, List.set_cons_succ]
            refine wpAnyH_take (i := 8) (oi := { dst := some 74, op := Go.Op.binOp Go.BinOp.shr 3 (Go.Operand.tmp 71) (Go.Operand.tmp 73) 3, type := 3, pos := "law.go:133", after := #[{ on := 5, ground := Go.Ground.data }, { on := 7, ground := Go.Ground.data }], guard := none }) (v := ?_) rfl (by kernel_rfl) (by kernel_rfl) (by kernel_rfl) (fun _ _ _ h => h) (Or.inl ⟨by rfl, ?_⟩) (by assumption) ?_
            rotate_left
            · intro w hSw
              (try dsimp only at hSw)
              go_simp
              try (with_reducible rfl)
            try simp only [Act.put, List.setIfInBounds_toArray, List.set_cons_zero, List.set_cons_succ]
            refine wpAnyH_take (i := 9) (oi := { dst := some 75, op := Go.Op.binOp Go.BinOp.and 3 (Go.Operand.tmp 74) (Go.Operand.const (Go.Value.int Go.IntKind.i64 7)) 3, type := 3, pos := "law.go:133", after := #[{ on := 8, ground := Go.Ground.data }], guard := none }) (v := ?_) rfl (by kernel_rfl) (by kernel_rfl) (by kernel_rfl) (fun _ _ _ h => h) (Or.inl ⟨by rfl, ?_⟩) (by assumption) ?_
            rotate_left
            · intro w hSw
              (try dsimp only at hSw)
              go_simp
              try (with_reducible rfl)
            try simp only [Act.put, List.setIfInBounds_toArray, List.set_cons_zero, List.set_cons_succ]
            refine wpAnyH_ready (rs := [10]) (by kernel_rfl) (by simp) ?_
            refine AllReadyH.cons (o := { dst := some 76, op := Go.Op.call { callee := Go.Callee.value (Go.Operand.func 28), args := #[Go.Operand.tmp 70, Go.Operand.tmp 75], argTypes := #[23, 3] }, type := 9, pos := "law.go:133", after := #[{ on := 4, ground := Go.Ground.data }, { on := 9, ground := Go.Ground.data }], guard := none }) rfl (fun K hK => ?_) AllReadyH.nil
            go_simp
            refine Calls.mono (HSP.out _ _) ?_
            rintro e w3 ⟨X, rfl, hsp, hb⟩
            have hR : Below wr.heap.size wr w3 := ((Below.refl _ wr).drew).trans hb
            have hXs : X.size ≤ 4 := by rw [Lib.size_eq]; exact hsp.len.2
            have hadd : ∀ W : World, (Op.stringOp .add (T) X).run Tryd.prog W = .ok (.string (T ++ X)) W := fun W => run_string_add_sum _ _ _ (by first | omega | (rw [ByteArray.size_append]; have e1 : (⟨#[58]⟩ : ByteArray).size = 1 := rfl; omega))
            have HSX := Lib.hid hsp
            have HRX := Lib.hid hR
            clear hsp hb
            go_wp2_with fail
            refine hK.out _ _ ?_ (fun hHeld => ?_)
            · first | exact HCC.out _ hR | exact HCC.out _ ((Below.refl _ wr).drew)
            clear hK K
            try simp only [Act.put, List.setIfInBounds_toArray, List.set_cons_zero, List.set_cons_succ]
            refine wpAnyH_take (i := 11) (oi := { dst := some 77, op := Go.Op.binOp Go.BinOp.add 9 (Go.Operand.tmp 66) (Go.Operand.tmp 76) 9, type := 9, pos := "law.go:133", after := #[{ on := 0, ground := Go.Ground.data }, { on := 10, ground := Go.Ground.data }], guard := none }) (v := ?_) rfl (by kernel_rfl) (by kernel_rfl) (by kernel_rfl) (fun _ _ _ h => h) (Or.inl ⟨by rfl, ?_⟩) (by assumption) ?_
            rotate_left
            · intro w hSw
              (try dsimp only at hSw)
              go_simp
              try (with_reducible rfl)
            try simp only [Act.put, List.setIfInBounds_toArray, List.set_cons_zero, List.set_cons_succ]
            refine wpAnyH_take (i := 12) (oi := { dst := some 13, op := Go.Op.assign (Go.Operand.tmp 77), type := 9, pos := "law.go:133", after := #[{ on := 11, ground := Go.Ground.data }, { on := 10, ground := Go.Ground.chain }, { on := 0, ground := Go.Ground.phase }, { on := 1, ground := Go.Ground.phase }, { on := 2, ground := Go.Ground.phase }, { on := 3, ground := Go.Ground.phase }, { on := 4, ground := Go.Ground.phase }, { on := 5, ground := Go.Ground.phase }, { on := 6, ground := Go.Ground.phase }, { on := 7, ground := Go.Ground.phase }, { on := 8, ground := Go.Ground.phase }, { on := 9, ground := Go.Ground.phase }, { on := 10, ground := Go.Ground.phase }, { on := 11, ground := Go.Ground.phase }], guard := none }) (v := ?_) rfl (by kernel_rfl) (by kernel_rfl) (by kernel_rfl) (fun _ _ _ h => h) (Or.inl ⟨by rfl, ?_⟩) (by assumption) ?_
            rotate_left
            · intro w hSw
              (try dsimp only at hSw)
              go_simp
              try (with_reducible rfl)
            try simp only [Act.put, List.setIfInBounds_toArray, List.set_cons_zero, List.set_cons_succ]
            refine wpAnyH_done (by kernel_rfl) ?_ _
            go_wp2
            go_roundw
            case rel => exact ⟨_, k + 1, by omega, by go_num, rfl, Lib.hid (by rw [ByteArray.size_append]; have := HTs.out; have := hXs; omega), Lib.hid (by
                have hs := HSX.out
                have hz := HZ.out
                have hk0 := HK0.out
                subst hk0
                rcases HT.out with h | ⟨h, hq⟩
                · rw [app_dat]; exact .inl (h.first hz hs)
                · exfalso; obtain ⟨_, _, _, _, p1, p2, _⟩ := h; omega), Lib.hid (HBl.out.trans (HRX.out.mono HBl.out.size))⟩
            case measure => simp [intOf]; omega

          · have hlast : ∃ c, T.data.toList.getLast? = some c ∧ ((c = 58 ∧ ∀ w, Sp n w → PA G (k + 1) (T.data.toList ++ w) ∨ (PB G (k + 1) (T.data.toList ++ w) ∧ q < ((k + 1 : Nat) : Int))) ∨ (c ≠ 58 ∧ ∀ w, Sp n w → PA G (k + 1) (T.data.toList ++ [58] ++ w) ∨ (PB G (k + 1) (T.data.toList ++ [58] ++ w) ∧ q < ((k + 1 : Nat) : Int)))) := by
              rcases HT.out with h | ⟨h, hqk⟩
              · obtain ⟨c, h1, h2⟩ := h.last (by omega) (by rw [H8.out]; exact hk)
                exact ⟨c, h1, .inr ⟨h2, fun w hw => .inl (h.step (by omega) HZ.out hw)⟩⟩
              · obtain ⟨c, h1, h2 | h2⟩ := h.last (by rw [H8.out]; exact hk)
                · exact ⟨c, h1, .inl ⟨h2.1, fun w hw => .inr ⟨h2.2 _ w HZ.out hw, by omega⟩⟩⟩
                · exact ⟨c, h1, .inr ⟨h2.1, fun w hw => .inr ⟨h2.2 _ w HZ.out hw, by omega⟩⟩⟩
            have hT0 : 0 < T.size := by
              obtain ⟨c, h1, _⟩ := hlast
              rw [Lib.size_eq]
              cases hd : T.data.toList with
              | nil => rw [hd] at h1; cases h1
              | cons _ _ => simp
            obtain ⟨c, hlast, ⟨hc, hstep⟩ | ⟨hc, hstep⟩⟩ := hlast
            · have HST := Lib.hid hstep
              have hlt0 : T.size - 1 < T.size := by omega
              have hx0 : ((T.size : Int) - 1).toNat = T.size - 1 := by omega
              have hx1 : (0 : Int) ≤ (T.size : Int) - 1 := by omega
              have hx2 : (T.size : Int) - 1 < (T.size : Int) := by omega
              have g1 : (0 : Int) < (k : Int) := by omega
              have g2 : 0 < k := by omega
              have hcc : ((T[T.size - 1]'hlt0).toNat : Int) = 58 := by rw [last_at T c hlast hlt0, hc]; rfl
              clear hlast hstep
              go_wp2
              refine wp_region_held_drew (S := (fun w' => w'.cell? ⟨b, o + k, none⟩ = some (.int .u64 (n : Int)))) (by kernel_rfl) ?_ (fun hHeld => ?_)
              · exact HCC.out _ ((Below.refl _ wr).drew)
              refine wpAnyH_take (i := 0) (oi := { dst := some 66, op := Go.Op.move (Go.Operand.tmp 13), type := 9, pos := "law.go:133", after := #[], guard := none }) (v := ?_) rfl (by kernel_rfl) (by kernel_rfl) (by kernel_rfl) (fun _ _ _ h => h) (Or.inl ⟨by rfl, ?_⟩) (by assumption) ?_
              rotate_left
              · intro w hSw
                (try dsimp only at hSw)
                go_simp
                try (with_reducible rfl)
              try simp only [Act.put, List.setIfInBounds_toArray, List.set_cons_zero, List.set_cons_succ]
              refine wpAnyH_take (i := 1) (oi := { dst := some 67, op := Go.Op.move (Go.Operand.tmp 11), type := 37, pos := "law.go:133", after := #[], guard := none }) (v := ?_) rfl (by kernel_rfl) (by kernel_rfl) (by kernel_rfl) (fun _ _ _ h => h) (Or.inl ⟨by rfl, ?_⟩) (by assumption) ?_
              rotate_left
              · intro w hSw
                (try dsimp only at hSw)
                go_simp
                try (with_reducible rfl)
              try simp only [Act.put, List.setIfInBounds_toArray, List.set_cons_zero, List.set_cons_succ]
              refine wpAnyH_take (i := 2) (oi := { dst := some 68, op := Go.Op.move (Go.Operand.tmp 14), type := 3, pos := "law.go:133", after := #[], guard := none }) (v := ?_) rfl (by kernel_rfl) (by kernel_rfl) (by kernel_rfl) (fun _ _ _ h => h) (Or.inl ⟨by rfl, ?_⟩) (by assumption) ?_
              rotate_left
              · intro w hSw
                (try dsimp only at hSw)
                go_simp
                try (with_reducible rfl)
              try simp only [Act.put, List.setIfInBounds_toArray, List.set_cons_zero, List.set_cons_succ]
              refine wpAnyH_take (i := 3) (oi := { dst := some 69, op := Go.Op.indexAddr 37 (Go.Operand.tmp 67) (Go.Operand.tmp 68), type := 0, pos := "law.go:133", after := #[{ on := 1, ground := Go.Ground.data }, { on := 2, ground := Go.Ground.data }], guard := none }) (v := ?_) rfl (by kernel_rfl) (by kernel_rfl) (by kernel_rfl) (fun _ _ _ h => h) (Or.inl ⟨by rfl, ?_⟩) (by assumption) ?_
              rotate_left
              · intro w hSw
                (try dsimp only at hSw)
                go_simp
                try (with_reducible rfl)
              try simp only [Act.put, List.setIfInBounds_toArray, List.set_cons_zero, List.set_cons_succ]
              refine wpAnyH_take (i := 4) (oi := { dst := some 70, op := Go.Op.load 23 (Go.Operand.tmp 69), type := 23, pos := "law.go:133", after := #[{ on := 3, ground := Go.Ground.data }], guard := none }) (v := ?_) rfl (by kernel_rfl) (by kernel_rfl) (by kernel_rfl) (fun _ _ _ h => h) (Or.inl ⟨by rfl, ?_⟩) (by assumption) ?_
              rotate_left
              · intro w hSw
                (try dsimp only at hSw)
                go_simp
                try (with_reducible rfl)
              try simp only [Act.put, List.setIfInBounds_toArray, List.set_cons_zero, List.set_cons_succ]
              refine wpAnyH_take (i := 5) (oi := { dst := some 71, op := Go.Op.move (Go.Operand.tmp 2), type := 3, pos := "law.go:133", after := #[], guard := none }) (v := ?_) rfl (by kernel_rfl) (by kernel_rfl) (by kernel_rfl) (fun _ _ _ h => h) (Or.inl ⟨by rfl, ?_⟩) (by assumption) ?_
              rotate_left
              · intro w hSw
                (try dsimp only at hSw)
                go_simp
                try (with_reducible rfl)
              try simp only [Act.put, List.setIfInBounds_toArray, List.set_cons_zero, List.set_cons_succ]
              refine wpAnyH_take (i := 6) (oi := { dst := some 72, op := Go.Op.move (Go.Operand.tmp 14), type := 3, pos := "law.go:133", after := #[], guard := none }) (v := ?_) rfl (by kernel_rfl) (by kernel_rfl) (by kernel_rfl) (fun _ _ _ h => h) (Or.inl ⟨by rfl, ?_⟩) (by assumption) ?_
              rotate_left
              · intro w hSw
                (try dsimp only at hSw)
                go_simp
                try (with_reducible rfl)
              try simp only [Act.put, List.setIfInBounds_toArray, List.set_cons_zero, List.set_cons_succ]
              refine wpAnyH_take (i := 7) (oi := { dst := some 73, op := Go.Op.binOp Go.BinOp.and 3 (Go.Operand.tmp 72) (Go.Operand.const (Go.Value.int Go.IntKind.i64 3)) 3, type := 3, pos := "law.go:133", after := #[{ on := 6, ground := Go.Ground.data }], guard := none }) (v := ?_) rfl (by kernel_rfl) (by kernel_rfl) (by kernel_rfl) (fun _ _ _ h => h) (Or.inl ⟨by rfl, ?_⟩) (by assumption) ?_
              rotate_left
              · intro w hSw
                (try dsimp only at hSw)
                go_simp
                try (with_reducible rfl)
              try simp only [Act.put, List.setIfInBounds_toArray, List.set_cons_zero, List.set_cons_succ]
              refine wpAnyH_take (i := 8) (oi := { dst := some 74, op := Go.Op.binOp Go.BinOp.shr 3 (Go.Operand.tmp 71) (Go.Operand.tmp 73) 3, type := 3, pos := "law.go:133", after := #[{ on := 5, ground := Go.Ground.data }, { on := 7, ground := Go.Ground.data }], guard := none }) (v := ?_) rfl (by kernel_rfl) (by kernel_rfl) (by kernel_rfl) (fun _ _ _ h => h) (Or.inl ⟨by rfl, ?_⟩) (by assumption) ?_
              rotate_left
              · intro w hSw
                (try dsimp only at hSw)
                go_simp
                try (with_reducible rfl)
              try simp only [Act.put, List.setIfInBounds_toArray, List.set_cons_zero, List.set_cons_succ]
              refine wpAnyH_take (i := 9) (oi := { dst := some 75, op := Go.Op.binOp Go.BinOp.and 3 (Go.Operand.tmp 74) (Go.Operand.const (Go.Value.int Go.IntKind.i64 7)) 3, type := 3, pos := "law.go:133", after := #[{ on := 8, ground := Go.Ground.data }], guard := none }) (v := ?_) rfl (by kernel_rfl) (by kernel_rfl) (by kernel_rfl) (fun _ _ _ h => h) (Or.inl ⟨by rfl, ?_⟩) (by assumption) ?_
              rotate_left
              · intro w hSw
                (try dsimp only at hSw)
                go_simp
                try (with_reducible rfl)
              try simp only [Act.put, List.setIfInBounds_toArray, List.set_cons_zero, List.set_cons_succ]
              refine wpAnyH_ready (rs := [10]) (by kernel_rfl) (by simp) ?_
              refine AllReadyH.cons (o := { dst := some 76, op := Go.Op.call { callee := Go.Callee.value (Go.Operand.func 28), args := #[Go.Operand.tmp 70, Go.Operand.tmp 75], argTypes := #[23, 3] }, type := 9, pos := "law.go:133", after := #[{ on := 4, ground := Go.Ground.data }, { on := 9, ground := Go.Ground.data }], guard := none }) rfl (fun K hK => ?_) AllReadyH.nil
              go_simp
              refine Calls.mono (HSP.out _ _) ?_
              rintro e w3 ⟨X, rfl, hsp, hb⟩
              have hR : Below wr.heap.size wr w3 := ((Below.refl _ wr).drew).trans hb
              have hXs : X.size ≤ 4 := by rw [Lib.size_eq]; exact hsp.len.2
              have hadd : ∀ W : World, (Op.stringOp .add (T) X).run Tryd.prog W = .ok (.string (T ++ X)) W := fun W => run_string_add_sum _ _ _ (by first | omega | (rw [ByteArray.size_append]; have e1 : (⟨#[58]⟩ : ByteArray).size = 1 := rfl; omega))
              have HSX := Lib.hid hsp
              have HRX := Lib.hid hR
              clear hsp hb
              go_wp2_with fail
              refine hK.out _ _ ?_ (fun hHeld => ?_)
              · first | exact HCC.out _ hR | exact HCC.out _ ((Below.refl _ wr).drew)
              clear hK K
              try simp only [Act.put, List.setIfInBounds_toArray, List.set_cons_zero, List.set_cons_succ]
              refine wpAnyH_take (i := 11) (oi := { dst := some 77, op := Go.Op.binOp Go.BinOp.add 9 (Go.Operand.tmp 66) (Go.Operand.tmp 76) 9, type := 9, pos := "law.go:133", after := #[{ on := 0, ground := Go.Ground.data }, { on := 10, ground := Go.Ground.data }], guard := none }) (v := ?_) rfl (by kernel_rfl) (by kernel_rfl) (by kernel_rfl) (fun _ _ _ h => h) (Or.inl ⟨by rfl, ?_⟩) (by assumption) ?_
              rotate_left
              · intro w hSw
                (try dsimp only at hSw)
                go_simp
                try (with_reducible rfl)
              try simp only [Act.put, List.setIfInBounds_toArray, List.set_cons_zero, List.set_cons_succ]
              refine wpAnyH_take (i := 12) (oi := { dst := some 13, op := Go.Op.assign (Go.Operand.tmp 77), type := 9, pos := "law.go:133", after := #[{ on := 11, ground := Go.Ground.data }, { on := 10, ground := Go.Ground.chain }, { on := 0, ground := Go.Ground.phase }, { on := 1, ground := Go.Ground.phase }, { on := 2, ground := Go.Ground.phase }, { on := 3, ground := Go.Ground.phase }, { on := 4, ground := Go.Ground.phase }, { on := 5, ground := Go.Ground.phase }, { on := 6, ground := Go.Ground.phase }, { on := 7, ground := Go.Ground.phase }, { on := 8, ground := Go.Ground.phase }, { on := 9, ground := Go.Ground.phase }, { on := 10, ground := Go.Ground.phase }, { on := 11, ground := Go.Ground.phase }], guard := none }) (v := ?_) rfl (by kernel_rfl) (by kernel_rfl) (by kernel_rfl) (fun _ _ _ h => h) (Or.inl ⟨by rfl, ?_⟩) (by assumption) ?_
              rotate_left
              · intro w hSw
                (try dsimp only at hSw)
                go_simp
                try (with_reducible rfl)
              try simp only [Act.put, List.setIfInBounds_toArray, List.set_cons_zero, List.set_cons_succ]
              refine wpAnyH_done (by kernel_rfl) ?_ _
              go_wp2
              go_roundw
              case rel => exact ⟨_, k + 1, by omega, by go_num, rfl, Lib.hid (by rw [ByteArray.size_append]; have := HTs.out; have := hXs; omega), Lib.hid (by rw [app_dat]; exact HST.out _ HSX.out), Lib.hid (HBl.out.trans (HRX.out.mono HBl.out.size))⟩
              case measure => simp [intOf]; omega

            · have HST := Lib.hid hstep
              have hlt0 : T.size - 1 < T.size := by omega
              have hx0 : ((T.size : Int) - 1).toNat = T.size - 1 := by omega
              have hx1 : (0 : Int) ≤ (T.size : Int) - 1 := by omega
              have hx2 : (T.size : Int) - 1 < (T.size : Int) := by omega
              have g1 : (0 : Int) < (k : Int) := by omega
              have g2 : 0 < k := by omega
              have hcc : ¬ ((T[T.size - 1]'hlt0).toNat : Int) = 58 := by rw [last_at T c hlast hlt0]; exact fun e => hc (by apply UInt8.toNat_inj.1; have e2 : (58 : UInt8).toNat = 58 := rfl; omega)
              clear hlast hstep
              go_wp2
              refine wp_region_held_drew (S := (fun w' => w'.cell? ⟨b, o + k, none⟩ = some (.int .u64 (n : Int)))) (by kernel_rfl) ?_ (fun hHeld => ?_)
              · exact HCC.out _ ((Below.refl _ wr).drew)
              refine wpAnyH_take (i := 0) (oi := { dst := some 66, op := Go.Op.move (Go.Operand.tmp 13), type := 9, pos := "law.go:133", after := #[], guard := none }) (v := ?_) rfl (by kernel_rfl) (by kernel_rfl) (by kernel_rfl) (fun _ _ _ h => h) (Or.inl ⟨by rfl, ?_⟩) (by assumption) ?_
              rotate_left
              · intro w hSw
                (try dsimp only at hSw)
                go_simp
                try (with_reducible rfl)
              try simp only [Act.put, List.setIfInBounds_toArray, List.set_cons_zero, List.set_cons_succ]
              refine wpAnyH_take (i := 1) (oi := { dst := some 67, op := Go.Op.move (Go.Operand.tmp 11), type := 37, pos := "law.go:133", after := #[], guard := none }) (v := ?_) rfl (by kernel_rfl) (by kernel_rfl) (by kernel_rfl) (fun _ _ _ h => h) (Or.inl ⟨by rfl, ?_⟩) (by assumption) ?_
              rotate_left
              · intro w hSw
                (try dsimp only at hSw)
                go_simp
                try (with_reducible rfl)
              try simp only [Act.put, List.setIfInBounds_toArray, List.set_cons_zero, List.set_cons_succ]
              refine wpAnyH_take (i := 2) (oi := { dst := some 68, op := Go.Op.move (Go.Operand.tmp 14), type := 3, pos := "law.go:133", after := #[], guard := none }) (v := ?_) rfl (by kernel_rfl) (by kernel_rfl) (by kernel_rfl) (fun _ _ _ h => h) (Or.inl ⟨by rfl, ?_⟩) (by assumption) ?_
              rotate_left
              · intro w hSw
                (try dsimp only at hSw)
                go_simp
                try (with_reducible rfl)
              try simp only [Act.put, List.setIfInBounds_toArray, List.set_cons_zero, List.set_cons_succ]
              refine wpAnyH_take (i := 3) (oi := { dst := some 69, op := Go.Op.indexAddr 37 (Go.Operand.tmp 67) (Go.Operand.tmp 68), type := 0, pos := "law.go:133", after := #[{ on := 1, ground := Go.Ground.data }, { on := 2, ground := Go.Ground.data }], guard := none }) (v := ?_) rfl (by kernel_rfl) (by kernel_rfl) (by kernel_rfl) (fun _ _ _ h => h) (Or.inl ⟨by rfl, ?_⟩) (by assumption) ?_
              rotate_left
              · intro w hSw
                (try dsimp only at hSw)
                go_simp
                try (with_reducible rfl)
              try simp only [Act.put, List.setIfInBounds_toArray, List.set_cons_zero, List.set_cons_succ]
              refine wpAnyH_take (i := 4) (oi := { dst := some 70, op := Go.Op.load 23 (Go.Operand.tmp 69), type := 23, pos := "law.go:133", after := #[{ on := 3, ground := Go.Ground.data }], guard := none }) (v := ?_) rfl (by kernel_rfl) (by kernel_rfl) (by kernel_rfl) (fun _ _ _ h => h) (Or.inl ⟨by rfl, ?_⟩) (by assumption) ?_
              rotate_left
              · intro w hSw
                (try dsimp only at hSw)
                go_simp
                try (with_reducible rfl)
              try simp only [Act.put, List.setIfInBounds_toArray, List.set_cons_zero, List.set_cons_succ]
              refine wpAnyH_take (i := 5) (oi := { dst := some 71, op := Go.Op.move (Go.Operand.tmp 2), type := 3, pos := "law.go:133", after := #[], guard := none }) (v := ?_) rfl (by kernel_rfl) (by kernel_rfl) (by kernel_rfl) (fun _ _ _ h => h) (Or.inl ⟨by rfl, ?_⟩) (by assumption) ?_
              rotate_left
              · intro w hSw
                (try dsimp only at hSw)
                go_simp
                try (with_reducible rfl)
              try simp only [Act.put, List.setIfInBounds_toArray, List.set_cons_zero, List.set_cons_succ]
              refine wpAnyH_take (i := 6) (oi := { dst := some 72, op := Go.Op.move (Go.Operand.tmp 14), type := 3, pos := "law.go:133", after := #[], guard := none }) (v := ?_) rfl (by kernel_rfl) (by kernel_rfl) (by kernel_rfl) (fun _ _ _ h => h) (Or.inl ⟨by rfl, ?_⟩) (by assumption) ?_
              rotate_left
              · intro w hSw
                (try dsimp only at hSw)
                go_simp
                try (with_reducible rfl)
              try simp only [Act.put, List.setIfInBounds_toArray, List.set_cons_zero, List.set_cons_succ]
              refine wpAnyH_take (i := 7) (oi := { dst := some 73, op := Go.Op.binOp Go.BinOp.and 3 (Go.Operand.tmp 72) (Go.Operand.const (Go.Value.int Go.IntKind.i64 3)) 3, type := 3, pos := "law.go:133", after := #[{ on := 6, ground := Go.Ground.data }], guard := none }) (v := ?_) rfl (by kernel_rfl) (by kernel_rfl) (by kernel_rfl) (fun _ _ _ h => h) (Or.inl ⟨by rfl, ?_⟩) (by assumption) ?_
              rotate_left
              · intro w hSw
                (try dsimp only at hSw)
                go_simp
                try (with_reducible rfl)
              try simp only [Act.put, List.setIfInBounds_toArray, List.set_cons_zero, List.set_cons_succ]
              refine wpAnyH_take (i := 8) (oi := { dst := some 74, op := Go.Op.binOp Go.BinOp.shr 3 (Go.Operand.tmp 71) (Go.Operand.tmp 73) 3, type := 3, pos := "law.go:133", after := #[{ on := 5, ground := Go.Ground.data }, { on := 7, ground := Go.Ground.data }], guard := none }) (v := ?_) rfl (by kernel_rfl) (by kernel_rfl) (by kernel_rfl) (fun _ _ _ h => h) (Or.inl ⟨by rfl, ?_⟩) (by assumption) ?_
              rotate_left
              · intro w hSw
                (try dsimp only at hSw)
                go_simp
                try (with_reducible rfl)
              try simp only [Act.put, List.setIfInBounds_toArray, List.set_cons_zero, List.set_cons_succ]
              refine wpAnyH_take (i := 9) (oi := { dst := some 75, op := Go.Op.binOp Go.BinOp.and 3 (Go.Operand.tmp 74) (Go.Operand.const (Go.Value.int Go.IntKind.i64 7)) 3, type := 3, pos := "law.go:133", after := #[{ on := 8, ground := Go.Ground.data }], guard := none }) (v := ?_) rfl (by kernel_rfl) (by kernel_rfl) (by kernel_rfl) (fun _ _ _ h => h) (Or.inl ⟨by rfl, ?_⟩) (by assumption) ?_
              rotate_left
              · intro w hSw
                (try dsimp only at hSw)
                go_simp
                try (with_reducible rfl)
              try simp only [Act.put, List.setIfInBounds_toArray, List.set_cons_zero, List.set_cons_succ]
              refine wpAnyH_ready (rs := [10]) (by kernel_rfl) (by simp) ?_
              refine AllReadyH.cons (o := { dst := some 76, op := Go.Op.call { callee := Go.Callee.value (Go.Operand.func 28), args := #[Go.Operand.tmp 70, Go.Operand.tmp 75], argTypes := #[23, 3] }, type := 9, pos := "law.go:133", after := #[{ on := 4, ground := Go.Ground.data }, { on := 9, ground := Go.Ground.data }], guard := none }) rfl (fun K hK => ?_) AllReadyH.nil
              go_simp
              refine Calls.mono (HSP.out _ _) ?_
              rintro e w3 ⟨X, rfl, hsp, hb⟩
              have hR : Below wr.heap.size wr w3 := ((Below.refl _ wr).drew).trans hb
              have hXs : X.size ≤ 4 := by rw [Lib.size_eq]; exact hsp.len.2
              have hadd : ∀ W : World, (Op.stringOp .add (T ++ (⟨#[58]⟩ : ByteArray)) X).run Tryd.prog W = .ok (.string (T ++ (⟨#[58]⟩ : ByteArray) ++ X)) W := fun W => run_string_add_sum _ _ _ (by first | omega | (rw [ByteArray.size_append]; have e1 : (⟨#[58]⟩ : ByteArray).size = 1 := rfl; omega))
              have HSX := Lib.hid hsp
              have HRX := Lib.hid hR
              clear hsp hb
              go_wp2_with fail
              refine hK.out _ _ ?_ (fun hHeld => ?_)
              · first | exact HCC.out _ hR | exact HCC.out _ ((Below.refl _ wr).drew)
              clear hK K
              try simp only [Act.put, List.setIfInBounds_toArray, List.set_cons_zero, List.set_cons_succ]
              refine wpAnyH_take (i := 11) (oi := { dst := some 77, op := Go.Op.binOp Go.BinOp.add 9 (Go.Operand.tmp 66) (Go.Operand.tmp 76) 9, type := 9, pos := "law.go:133", after := #[{ on := 0, ground := Go.Ground.data }, { on := 10, ground := Go.Ground.data }], guard := none }) (v := ?_) rfl (by kernel_rfl) (by kernel_rfl) (by kernel_rfl) (fun _ _ _ h => h) (Or.inl ⟨by rfl, ?_⟩) (by assumption) ?_
              rotate_left
              · intro w hSw
                (try dsimp only at hSw)
                go_simp
                try (with_reducible rfl)
              try simp only [Act.put, List.setIfInBounds_toArray, List.set_cons_zero, List.set_cons_succ]
              refine wpAnyH_take (i := 12) (oi := { dst := some 13, op := Go.Op.assign (Go.Operand.tmp 77), type := 9, pos := "law.go:133", after := #[{ on := 11, ground := Go.Ground.data }, { on := 10, ground := Go.Ground.chain }, { on := 0, ground := Go.Ground.phase }, { on := 1, ground := Go.Ground.phase }, { on := 2, ground := Go.Ground.phase }, { on := 3, ground := Go.Ground.phase }, { on := 4, ground := Go.Ground.phase }, { on := 5, ground := Go.Ground.phase }, { on := 6, ground := Go.Ground.phase }, { on := 7, ground := Go.Ground.phase }, { on := 8, ground := Go.Ground.phase }, { on := 9, ground := Go.Ground.phase }, { on := 10, ground := Go.Ground.phase }, { on := 11, ground := Go.Ground.phase }], guard := none }) (v := ?_) rfl (by kernel_rfl) (by kernel_rfl) (by kernel_rfl) (fun _ _ _ h => h) (Or.inl ⟨by rfl, ?_⟩) (by assumption) ?_
              rotate_left
              · intro w hSw
                (try dsimp only at hSw)
                go_simp
                try (with_reducible rfl)
              try simp only [Act.put, List.setIfInBounds_toArray, List.set_cons_zero, List.set_cons_succ]
              refine wpAnyH_done (by kernel_rfl) ?_ _
              go_wp2
              go_roundw
              case rel => exact ⟨_, k + 1, by omega, by go_num, rfl, Lib.hid (by rw [ByteArray.size_append, ByteArray.size_append]; have e1 : (⟨#[58]⟩ : ByteArray).size = 1 := rfl; have := HTs.out; have := hXs; omega), Lib.hid (by rw [app_dat, app_dat]; exact HST.out _ HSX.out), Lib.hid (HBl.out.trans (HRX.out.mono HBl.out.size))⟩
              case measure => simp [intOf]; omega

    · have hk8 : k = 8 := by omega
      subst hk8
      have hki : ¬ ((8 : Nat) : Int) < 8 := by decide
      have hprs : prsV T.data.toList = .tuple #[adr true a0 a1, .int .i64 0] := by
        rcases HT.out with h | ⟨h, _⟩
        · exact HPA.out _ h
        · exact HPB.out _ h
      have HPR := Lib.hid (fun W hW => parse_at T (by omega) hprs W hW)
      have E3 := E2.out.below HBl.out
      have K3 := Lib.hid (K2.out.below HBl.out K2.out.lt)
      have L3 := Lib.hid (L2.out.trans (HBl.out.mono L2.out.size))
      clear hprs
      go_wp2_with fail
      refine Calls.mono (HPR.out _ E3) ?_
      rintro e w4 ⟨rfl, hb⟩
      have K4 := (K3.out.below hb K3.out.lt).alloc (.cells #[.bool true, .int .u64 a0, .int .u64 a1] 25)
      have L4 := Lib.hid ((L3.out.trans (hb.mono L3.out.size)).alloc (L3.out.trans (hb.mono L3.out.size)).size (.cells #[.bool true, .int .u64 a0, .int .u64 a1] 25))
      obtain ⟨f1, f2, f3⟩ := K4.c3
      obtain ⟨g1, g2, g3⟩ := (Blk.new w4 25 #[.bool true, .int .u64 a0, .int .u64 a1]).c3
      clear hb E3 K4
      go_wp2
      go_ret
      exact ⟨rfl, L4.out⟩

set_option maxRecDepth 100000 in
theorem contract (H : Type) (enc : TypeId × Value → H) (W : World) (base : Nat) (args : Array Value) (ds gs : List (DataW H)) (before : List MemPlace)
    (hval0 : ∀ (j : Nat) t v, Tryd.f5.params[j]? = some t → args[j]? = some v → Value.okWide Tryd.prog W .any base t v)
    (hW : DataW.Whole enc Tryd.prog Tryd.f5.params.toList Rows.addrSpeltSpec.vars false W args.toList ds gs before)
    (hsz0 : (DataW.weightsEach Tryd.prog (Tryd.f5.params.toList ++ Rows.addrSpeltSpec.plain.varTypes Tryd.prog) (ds ++ gs)).all (· ≤ reachBytes) = true) (hE : Env W) :
    Calls Tryd.prog 5 args W fun e W' => ∃ v, e = .returned v ∧ Rows.addrSpeltSpec.post enc Tryd.prog Tryd.f5 false true false false W args v W' := by
  have hsz := hsz0
  clear hsz0
  have hval := hval0
  clear hval0
  have hW' := hW
  obtain ⟨p, q, hA0, hV, rfl, hfz, hnd⟩ := hW
  have hA : DataW.TrodAll enc Tryd.prog W 0 (fun _ => true) true Tryd.f5.params.toList args.toList ds p := hA0
  rw [Tryd.params5] at hA hval hsz
  obtain ⟨v0, vs0, d0, ds0, p0, q0, hargs, rfl, rfl, h0, r0⟩ := trodAll_cons hA
  obtain ⟨v1, vs1, d1, ds1, p1, q1, rfl, rfl, rfl, h1, r1⟩ := trodAll_cons r0
  obtain ⟨v2, vs2, d2, ds2, p2, q2, rfl, rfl, rfl, h2, r2⟩ := trodAll_cons r1
  obtain ⟨v3, vs3, d3, ds3, p3, q3, rfl, rfl, rfl, h3, r3⟩ := trodAll_cons r2
  obtain ⟨rfl, rfl, rfl⟩ := trodAll_nil r3
  obtain rfl : args = #[v0, v1, v2, v3] := by cases args; simp_all
  obtain ⟨rfl, rfl⟩ := trodVars_none hV
  obtain ⟨a0, rfl, rfl, rfl, w0⟩ := open_int Tryd.underlying23 (hval 0 23 v0 rfl rfl) h0
  obtain ⟨a1, rfl, rfl, rfl, w1⟩ := open_int Tryd.underlying23 (hval 1 23 v1 rfl rfl) h1
  obtain ⟨a2, rfl, rfl, rfl, w2⟩ := open_int Tryd.underlying3 (hval 2 3 v2 rfl rfl) h2
  obtain ⟨a3, rfl, rfl, rfl, w3⟩ := open_int Tryd.underlying3 (hval 3 3 v3 rfl rfl) h3
  clear hA0
  refine (walk W hE a0 w0 a1 w1 a2 w2 a3 w3).mono fun e W' ⟨he, bel⟩ => ?_
  subst he
  exact ⟨_, rfl, _, _, _, [], _, [], hW', trodAll_mk1 (shut_bool Tryd.underlying4 _), (trodAll_cons_mk (shut_int Tryd.underlying23 w0) (trodAll_cons_mk (shut_int Tryd.underlying23 w1) (trodAll_cons_mk (shut_int Tryd.underlying3 w2) (trodAll_cons_mk (shut_int Tryd.underlying3 w3) trodAll_mk0)))), rfl, bel.frame _, fun h => by cases h⟩

theorem laid_met (os : Os) (args : Array Value) : laidMet Tryd.prog Rows.addrSpeltRow.laid ((World.laidAll Tryd.prog os Rows.addrSpeltRow.laid).forCall (fun _ _ => 0) ⟨#[], args, []⟩).memory :=
  laidMet_laidAll _ (by kernel_rfl) (by kernel_rfl)
set_option maxRecDepth 100000 in
theorem pre_row (os : Os) {H : Type} (enc : TypeId × Value → H) :
    (OpenSpec.ofChange Rows.addrSpeltSpec).preRow enc Tryd.prog Tryd.f5 Rows.addrSpeltRow.domain false Rows.addrSpeltRow.laid ((World.laidAll Tryd.prog os Rows.addrSpeltRow.laid).forCall (fun _ _ => 0) ⟨#[], #[.int .u64 0, .int .u64 0, .int .i64 0, .int .i64 0], []⟩).memory #[.int .u64 0, .int .u64 0, .int .i64 0, .int .i64 0] := by
  exact ⟨⟨ChangeSpec.pre_of_preB (fuel := 8) (by kernel_rfl), by rw [MakeChecks.laidMetH_plain _ _ _ (by kernel_rfl)]; exact laid_met os _⟩, sizedMet_of_sizedB (fuel := 8) (by kernel_rfl)⟩
set_option maxRecDepth 100000 in
theorem lifted (os : Os) (started : os.Started) (H : Type) (enc : TypeId × Value → H) (F : Stop.Interp) :
    ReturnsInHanded {} Tryd.checked os 5 .any ((OpenSpec.ofChange Rows.addrSpeltSpec).preRow enc Tryd.prog Tryd.f5 Rows.addrSpeltRow.domain false Rows.addrSpeltRow.laid) (((OpenSpec.ofChange Rows.addrSpeltSpec).at F).post enc Tryd.prog Tryd.f5 false true false false) := by
  refine returnsInHanded_of_row (C := Tryd.checked) (s := (OpenSpec.ofChange Rows.addrSpeltSpec)) own started (by kernel_rfl) Tryd.func5
    ⟨World.laidAll Tryd.prog os Rows.addrSpeltRow.laid, fun _ _ => 0, ⟨#[], #[.int .u64 0, .int .u64 0, .int .i64 0, .int .i64 0], []⟩, World.laidAll_os _ _ _, World.shaped_of_ZipB (by kernel_rfl) (by kernel_rfl), rfl, (Input.okWide_of_okWideB (by kernel_rfl)).2, pre_row os enc, (by simp only [Assume.holds]; exact ⟨by simp, by simp, fun _ => Modest.zero, by simp, by simp⟩)⟩ ?_
  intro W base args ds gs before hval hW _ hcond hsz hL hsh _
  rw [MakeChecks.laidMetH_plain _ _ _ (by kernel_rfl)] at hL
  exact contract H enc W base args ds gs before hval hW hsz (env_of hL hsh)

theorem over : Rows.addrSpeltRow.holds Tryd.pinned (OpenSpec.ofChange Rows.addrSpeltSpec) :=
  OpenClaim.holds_of_cond 5 Tryd.f5 rfl rfl rfl rfl rfl rfl rfl ⟨rfl, rfl, rfl, rfl, rfl⟩ rfl rfl rfl rfl rfl (by kernel_rfl) Tryd.func5 (by kernel_rfl)
    (of_decide_eq_true (by kernel_rfl)) (by unfold Func.isWrapper; first | (rw [if_pos (by decide +kernel)]; kernel_rfl) | (rw [if_neg (by decide +kernel)]; exact ⟨rfl, rfl⟩))
    (fun os started H enc _ F => by rw [OpenClaim.pre_eq_preRow]; exact lifted os started H enc F)

theorem proved : Rows.AddrSpeltCardSaid :=
  Claim7.holds_tied_plain_at .later [] Rows.addrSpeltCard.laidKinds true Rows.addrSpeltCard.stood.harness true over (fun _ h => by cases h) (by kernel_rfl) (fun _ h => by cases h) addrSpelt_row_tie rfl ⟨rfl, rfl⟩ (by kernel_rfl) rfl
    (fun f fn hf hfn => by
      obtain rfl : f = 5 := Option.some.inj ((show Tryd.prog.funcNamed Rows.addrSpeltRow.func = some 5 by kernel_rfl).symm.trans hf) |>.symm
      obtain rfl : fn = Tryd.f5 := (Option.some.inj (Tryd.func5.symm.trans hfn)).symm
      exact ⟨by kernel_rfl, fun j t ht => by
        rw [Tryd.params5] at ht
        have hm : t ∈ [23, 3] := by simpa using Array.mem_of_getElem? ht
        have hall : ([23, 3].all fun u => !Tryd.prog.wantsStandIn u) = true := by kernel_rfl
        exact (show Tryd.prog.wantsStandIn t = false by simpa using List.all_eq_true.1 hall t hm)⟩)
    (by kernel_rfl)
#print axioms proved
end Go.Proofs.YtnhlgonldffgoaaDoor.Spelt
