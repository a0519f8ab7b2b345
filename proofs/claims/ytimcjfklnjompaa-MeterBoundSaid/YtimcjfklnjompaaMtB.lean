/-
  Meters and shares (layer 18): what the program's calls answer, over numbers below 2^53.
-/
import Derived.Test.YtimcjfklnjompaaMtA
import Derived.Test.YtimcjfklnjompaaMtN
import Derived.WalkLawsBesides
import Derived.Laws.ComplexArith
namespace Go.Proofs.Ytimcjfklnjompaa
open Go.RowKit
set_option linter.unusedVariables false

theorem floatN (n : Nat) : floatOfInt .f64 (n : Int) = fN n := by
  have : ¬ (n : Int) < 0 := by omega
  unfold floatOfInt FloatKind.nearest FloatKind.encode fN
  simp [this, FloatKind.format, Ieee.Format.write]
/-- A part of a whole, as a word. -/
def qN (x z : Nat) : Nat := if z = 0 then 0 else (floatBits .quo .f64 (fN x) (fN z)).getD 0
theorem qN_quo {x z : Nat} (hx : x ≤ z) (hz : z ≠ 0) (h : z < 9007199254740992) : floatBits .quo .f64 (fN x) (fN z) = some (qN x z) := by
  obtain ⟨r, e, -⟩ := div_le hx (by omega) h
  unfold qN
  rw [if_neg hz, e]; rfl
theorem qN_le {x z : Nat} (hx : x ≤ z) (h : z < 9007199254740992) : qN x z ≤ 4607182418800017408 := by
  by_cases hz : z = 0
  · subst hz; simp [qN]
  · obtain ⟨r, e, h1, -⟩ := div_le hx (by omega) h
    unfold qN
    rw [if_neg hz, e]; exact h1
theorem qN_zero (x : Nat) : qN x 0 = 0 := rfl
theorem qN_one {x : Nat} (hx : x ≠ 0) (h : x < 9007199254740992) : qN x x = 4607182418800017408 := by
  obtain ⟨r, e, -, h1⟩ := div_le (Nat.le_refl x) (by omega) h
  unfold qN
  rw [if_neg hx, e]; exact h1 rfl
theorem run_store_complex (P : Program) (w : World) (a : Addr) (m : Mode) (k : FloatKind) (x y : Nat) : (store a (.complex k x y) m).run P w = stored P w a (.complex k x y) m := run_store P w a _ m rfl
attribute [local go_sem] run_store_complex
theorem ord_z {n : Nat} (h : n < 9007199254740992) : (FloatKind.f64.format.order (fN n) 0 == some .eq) = decide (n = 0) := by
  show (Ieee.double.order (fN n) 0 == some .eq) = _
  rw [ord_zero h]
  by_cases h0 : n = 0 <;> simp [h0]
set_option maxRecDepth 100000 in
theorem quotient_any (w : World) {x z : Nat} (hx : x ≤ z) (h : z < 9007199254740992) : Calls Try.prog 20 #[.float .f64 (fN x), .float .f64 (fN z)] w fun e w' => e = .returned (.float .f64 (qN x z)) ∧ w' = w := by
  have ho := ord_z h
  by_cases hz : z = 0
  · subst hz
    simp only [decide_true] at ho
    clear h
    go_enter Try.func20, Try.ntmps20
    go_wp2
    go_ret
    exact ⟨rfl, rfl⟩
  · rw [decide_eq_false hz] at ho
    have hq : ∀ W : World, (binOp .quo 23 (.float .f64 (fN x)) (.float .f64 (fN z))).run Try.prog W = .ok (.float .f64 (qN x z)) W := fun W => run_float_arith W .quo _ .f64 _ _ _ (qN_quo hx hz h)
    clear h hx hz
    go_enter Try.func20, Try.ntmps20
    go_wp2
    go_ret
    exact ⟨rfl, rfl⟩
abbrev cxV (a b : Nat) : Value := .complex .f64 a b
set_option maxRecDepth 100000 in
theorem share_any (w : World) {x z u v : Nat} (hx : x ≤ z) (h : z < 9007199254740992) (hu : u ≤ v) (h' : v < 9007199254740992) : Calls Try.prog 9 #[cxV (fN x) (fN u), cxV (fN z) (fN v)] w fun e w' => e = .returned (cxV (qN x z) (qN u v)) ∧ w' = w := by
  have H1 := Lib.hid (quotient_any w hx h)
  have H2 := Lib.hid (quotient_any w hu h')
  clear hx h hu h'
  go_enter Try.func9, Try.ntmps9
  go_wp2_with fail
  refine Calls.mono H1.out ?_
  rintro e w' ⟨rfl, rfl⟩
  go_wp2_with fail
  refine Calls.mono H2.out ?_
  rintro e w' ⟨rfl, rfl⟩
  go_wp2
  go_ret
  exact ⟨rfl, rfl⟩
/-! ## meters -/
/-- What was counted of a kind: how many, and how many bytes. -/
abbrev CtI := Nat × Nat
def ctV (c : CtI) : Value := cxV (fN c.1) (fN c.2)
/-- A meter in memory. -/
structure MeI (w : World) (p : Nat) (C : List CtI) : Prop where
  blk : Blk w p 52 (C.map ctV).toArray
  len : C.length = 16
theorem MeI.at_ {w : World} {p : Nat} {C : List CtI} (h : MeI w p C) {k : Nat} {c : CtI} (hk : C[k]? = some c) : w.cell? ⟨p, k, none⟩ = some (cxV (fN c.1) (fN c.2)) := by
  rw [h.blk.cell]; simp [hk, ctV]
set_option maxRecDepth 100000 in
theorem new_any (w : World) : Calls Try.prog 16 #[] w fun e w' => ∃ p, e = .returned (ptrV p) ∧ MeI w' p (List.replicate 16 (0, 0)) ∧ w.heap.size ≤ p ∧ Tch w w' [] := by
  go_enter Try.func16, Try.ntmps16
  go_wp2
  go_ret
  refine ⟨_, rfl, ⟨?_, rfl⟩, Nat.le_refl _, (Tch.refl _ []).alloc _⟩
  have : ((List.replicate 16 ((0, 0) : CtI)).map ctV).toArray = (Array.replicate 16 (Value.complex .f64 0 0)) := by simp [ctV, fN_zero]; rfl
  rw [this]
  exact Blk.new _ _ _
set_option maxRecDepth 100000 in
theorem isKind_yes (w : World) (k : Int) (h : 0 ≤ k ∧ k < 16) : Calls Try.prog 22 #[.int .i64 k] w fun e w' => e = .returned (.bool true) ∧ w' = w := by
  obtain ⟨h0, h1⟩ := h
  go_enter Try.func22, Try.ntmps22
  go_wp2
  go_ret
  exact ⟨rfl, rfl⟩
set_option maxRecDepth 100000 in
theorem isKind_no (w : World) : Calls Try.prog 22 #[.int .i64 16] w fun e w' => e = .returned (.bool false) ∧ w' = w := by
  go_enter Try.func22, Try.ntmps22
  go_wp2
  go_ret
  exact ⟨rfl, rfl⟩
set_option maxRecDepth 100000 in
theorem told_any {w : World} {p : Nat} {C : List CtI} (h : MeI w p C) {k : Nat} {c : CtI} (hk : C[k]? = some c) : Calls Try.prog 18 #[ptrV p, .int .i64 (k : Int)] w fun e w' => e = .returned (cxV (fN c.1) (fN c.2)) ∧ w' = w := by
  have hk16 : k < 16 := by rw [← h.len]; exact (List.getElem?_eq_some_iff.1 hk).1
  have hc := h.at_ hk
  have H1 := Lib.hid (isKind_yes w (k : Int) (by omega))
  have h0 : (0 : Int) ≤ k := by omega
  have h1 : (k : Int) < 16 := by omega
  clear h hk
  go_enter Try.func18, Try.ntmps18
  go_wp2_with fail
  refine Calls.mono H1.out ?_
  rintro e w' ⟨rfl, rfl⟩
  go_wp2
  go_ret
  exact ⟨rfl, rfl⟩
set_option maxRecDepth 100000 in
theorem count_no {w : World} (p : Nat) : Calls Try.prog 17 #[ptrV p, .int .i64 16, .int .i64 0] w fun e w' => e = .returned (.int .i64 1) ∧ w' = w := by
  have H1 := Lib.hid (isKind_no w)
  go_enter Try.func17, Try.ntmps17
  go_wp2_with fail
  refine Calls.mono H1.out ?_
  rintro e w' ⟨rfl, rfl⟩
  go_wp2
  go_ret
  exact ⟨rfl, rfl⟩
set_option maxRecDepth 100000 in
theorem count_any {w : World} {p : Nat} {C : List CtI} (h : MeI w p C) {k b : Nat} {c : CtI} (hk : C[k]? = some c) (hb : b ≤ 1000) (hc1 : c.1 ≤ 1000) (hc2 : c.2 ≤ 1000) : Calls Try.prog 17 #[ptrV p, .int .i64 (k : Int), .int .i64 (b : Int)] w fun e w' => e = .returned (.int .i64 0) ∧ MeI w' p (C.set k (c.1 + 1, c.2 + b)) ∧ Tch w w' [p] := by
  have hk16 : k < 16 := by rw [← h.len]; exact (List.getElem?_eq_some_iff.1 hk).1
  have hc := h.at_ hk
  have hf := h.blk.frozen k
  have H1 := Lib.hid (isKind_yes w (k : Int) (by omega))
  have h0 : (0 : Int) ≤ k := by omega
  have h1 : (k : Int) < 16 := by omega
  have hb0 : (0 : Int) ≤ b := by omega
  have hb1 : (b : Int) ≤ 1000 := by omega
  have hfl := floatN b
  have hadd : ∀ W : World, (binOp .add 25 (cxV (fN c.1) (fN c.2)) (cxV 4607182418800017408 (fN b))).run Try.prog W = .ok (cxV (fN (c.1 + 1)) (fN (c.2 + b))) W := fun W => by
    refine run_complex_sum W .add (.inl rfl) _ .f64 _ _ _ _ _ _ ?_
    have e1 : (4607182418800017408 : Nat) = fN 1 := by decide
    unfold cSumBits
    rw [e1, fN_add (by omega), fN_add (by omega)]; rfl
  have HS := Lib.hid (And.intro h (And.intro (h.blk.set_ k (cxV (fN (c.1 + 1)) (fN (c.2 + b)))) hk))
  clear h hk hc1 hc2 hb
  go_enter Try.func17, Try.ntmps17
  go_wp2_with fail
  refine Calls.mono H1.out ?_
  rintro e w' ⟨rfl, rfl⟩
  go_wp2_with fail
  go_still_tail 13, (by kernel_rfl)
  change wpList _ _ _ _ _ w'.drew
  go_wp2
  go_ret
  refine ⟨rfl, ⟨?_, by simpa using HS.out.1.len⟩, ((Tch.refl _ _).set_ (by simp) _).drew⟩
  have e : ((C.set k (c.1 + 1, c.2 + b)).map ctV).toArray = (C.map ctV).toArray.setIfInBounds k (cxV (fN (c.1 + 1)) (fN (c.2 + b))) := by simp [ctV]
  rw [e]
  exact HS.out.2.1.drew
theorem index_me {cs : Array Value} {j : Nat} {a b : Nat} (hj : j < 16) (h : cs[j]? = some (cxV a b)) (w : World) : (Instr.index 50 (.agg cs) (.int .i64 (j : Int))).run Try.prog w = .ok (cxV a b) w := by
  have hsz : (sizeOf 25).run Try.prog w = .ok 1 w := by kernel_rfl
  have h0 : (0 : Int) ≤ j ∧ (j : Int) < ((16 : Nat) : Int) := by omega
  simp [Instr.index, run_underlying Try.underlying50, asIntOf, h0, go_sem, hsz]
  rw [if_pos hj, h]; rfl
def sm1 (C : List CtI) : Nat := (C.map Prod.fst).sum
def sm2 (C : List CtI) : Nat := (C.map Prod.snd).sum
theorem sm_step {C : List CtI} {j : Nat} {c : CtI} (h : C[j]? = some c) : sm1 (C.take (j + 1)) = sm1 (C.take j) + c.1 ∧ sm2 (C.take (j + 1)) = sm2 (C.take j) + c.2 := by
  rw [List.take_add_one, h]
  simp [sm1, sm2]
theorem sm_le {C : List CtI} (h : ∀ c ∈ C, c.1 ≤ 1000 ∧ c.2 ≤ 1000) : sm1 C ≤ 1000 * C.length ∧ sm2 C ≤ 1000 * C.length := by
  induction C with
  | nil => simp [sm1, sm2]
  | cons c l ih =>
    have h1 := h c (by simp)
    have h2 := ih fun x hx => h x (by simp [hx])
    simp only [sm1, sm2, List.map_cons, List.sum_cons, List.length_cons] at h2 ⊢
    omega
set_option maxRecDepth 100000 in
theorem all_any {w : World} {p : Nat} {C : List CtI} (h : MeI w p C) (hb : ∀ c ∈ C, c.1 ≤ 1000 ∧ c.2 ≤ 1000) : Calls Try.prog 19 #[ptrV p] w fun e w' => e = .returned (cxV (fN (sm1 C)) (fN (sm2 C))) ∧ w' = w := by
  have HB := Lib.hid h.blk
  have hsz : (C.map ctV).toArray.size = 16 := by simp [h.len]
  have HSz : Hid ((Try.prog.info? 50).map (·.size) = some (C.map ctV).toArray.size) := Lib.hid (by rw [hsz]; kernel_rfl)
  clear hsz
  have HL := Lib.hid h.len
  have HC := Lib.hid hb
  clear h hb
  go_enter Try.func19, Try.ntmps19
  go_wp2_with (refine wpList_load_row rfl 50 (.tmp 8) rfl p rfl 52 (C.map ctV).toArray (0, 0) _ HB.out Try.underlying50 rfl HSz.out ?_)
  go_loopw [10, 3] (fun jv sv wr => ∃ j : Nat, jv = .int .i64 (j : Int) ∧ j ≤ 16 ∧ wr = w ∧ ∃ a b : Nat, sv = cxV a b ∧ Hid (a = fN (sm1 (C.take j)) ∧ b = fN (sm2 (C.take j)))) (fun jv _ _ => 16 - (intOf jv).toNat)
  case atStart => exact ⟨0, rfl, by omega, rfl, 0, 0, rfl, Lib.hid ⟨fN_zero.symm, fN_zero.symm⟩⟩
  case round =>
    obtain ⟨j, rfl, hj, rfl, a, b, rfl, hab⟩ := hrel
    by_cases hlt : j < 16
    · have hjI : (j : Int) < 16 := by omega
      have hj0 : (0 : Int) ≤ j := by omega
      have j1 : IntKind.i64.wrap ((j : Int) + 1) = (j : Int) + 1 := by rw [IntKind.wrap_i64]; omega
      obtain ⟨c, hc⟩ : ∃ c, C[j]? = some c := ⟨_, List.getElem?_eq_getElem (by rw [HL.out]; exact hlt)⟩
      have hix := index_me (cs := (C.map ctV).toArray) (a := fN c.1) (b := fN c.2) hlt (by simp [hc, ctV])
      have hst := sm_step hc
      have hle := sm_le (C := C.take (j + 1)) (fun x hx => HC.out x (List.mem_of_mem_take hx))
      have hl16 : (C.take (j + 1)).length ≤ 16 := by rw [List.length_take]; have := HL.out; omega
      obtain ⟨a', ha'⟩ : ∃ a', fN (sm1 (C.take (j + 1))) = a' := ⟨_, rfl⟩
      obtain ⟨b', hb'⟩ : ∃ b', fN (sm2 (C.take (j + 1))) = b' := ⟨_, rfl⟩
      have hadd : ∀ W : World, (binOp .add 25 (cxV a b) (cxV (fN c.1) (fN c.2))).run Try.prog W = .ok (cxV a' b') W := fun W => by
        refine run_complex_sum W .add (.inl rfl) _ .f64 _ _ _ _ _ _ ?_
        unfold cSumBits
        rw [hab.out.1, hab.out.2, fN_add (by omega), fN_add (by omega), ← hst.1, ← hst.2, ha', hb']; rfl
      have HN := Lib.hid (And.intro ha'.symm hb'.symm)
      clear hst hle hl16 ha' hb' hc
      go_wp2
      go_roundw
      case rel => exact ⟨j + 1, by go_num, by omega, by trivial, a', b', rfl, HN⟩
      all_goals (simp only [intOf]; omega)
    · obtain rfl : 16 = j := by omega
      have HE : Hid (a = fN (sm1 C) ∧ b = fN (sm2 C)) := Lib.hid (by have h1 := hab.out; rw [List.take_of_length_le (by rw [HL.out]; omega)] at h1; exact h1)
      clear hab hj hlt
      go_wp2
      go_ret
      exact ⟨by rw [HE.out.1, HE.out.2]; rfl, rfl⟩
end Go.Proofs.Ytimcjfklnjompaa
