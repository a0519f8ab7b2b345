/-
  Tokens (layer 18): what the program's calls and the document's answer, and what they leave.
-/
import Derived.Test.YtimcjfklnjompaaRows
import Derived.Test.YtimcjfklnjompaaTch
import Derived.BigRegion
import Derived.BigQuiet
import Derived.WalkKit
import Derived.Lib.Hide
import Derived.StillTailTactics
namespace Go.Proofs.Ytimcjfklnjompaa
open Go.RowKit
set_option linter.unusedVariables false

abbrev ptrV (b : Nat) : Value := .pointer (some ⟨b, 0, none⟩)
/-- A bucket in memory. -/
def BkI (w : World) (p : Nat) (r b l : Int) : Prop := Blk w p 49 #[.int .i64 r, .int .i64 b, .int .i64 l]
/-- The document's. -/
def BkD (w : World) (p : Nat) (r b l : Int) : Prop := Blk w p 35 #[.int .i64 r, .int .i64 b, .int .i64 l]
/-- Is it from 0 to 2^20? -/
def rtB (n : Int) : Bool := decide (0 ≤ n) && decide (n ≤ 1048576)
theorem rt_iff {n : Int} : rtB n = true ↔ 0 ≤ n ∧ n ≤ 1048576 := by simp [rtB]
set_option maxRecDepth 100000 in
theorem isRate_any (w : World) (n : Int) (x : Bool) (hx : rtB n = x) : Calls Try.prog 21 #[.int .i64 n] w fun e w' => e = .returned (.bool x) ∧ w' = w := by
  subst hx
  unfold rtB
  by_cases h0 : 0 ≤ n
  · go_enter Try.func21, Try.ntmps21
    go_wp2
    go_ret
    simp [h0]
  · go_enter Try.func21, Try.ntmps21
    go_wp2
    go_ret
    simp; omega
set_option maxRecDepth 100000 in
theorem bucket_bad (w : World) (r b : Int) (h : (rtB r && rtB b) = false) : Calls Try.prog 10 #[.int .i64 r, .int .i64 b] w fun e w' => e = .returned (.tuple #[.pointer none, .int .i64 1]) ∧ w' = w := by
  cases hr : rtB r with
  | false =>
    have H1 := Lib.hid (isRate_any w r _ hr)
    clear h hr
    go_enter Try.func10, Try.ntmps10
    go_wp2_with fail
    refine Calls.mono H1.out ?_
    rintro e w' ⟨rfl, rfl⟩
    go_wp2
    go_ret2
    exact ⟨rfl, rfl⟩
  | true =>
    have hb : rtB b = false := by rw [hr] at h; simpa using h
    have H1 := Lib.hid (isRate_any w r _ hr)
    have H2 := Lib.hid (isRate_any w b _ hb)
    clear h hr hb
    go_enter Try.func10, Try.ntmps10
    go_wp2_with fail
    refine Calls.mono H1.out ?_
    rintro e w' ⟨rfl, rfl⟩
    go_wp2_with fail
    refine Calls.mono H2.out ?_
    rintro e w' ⟨rfl, rfl⟩
    go_wp2
    go_ret2
    exact ⟨rfl, rfl⟩
set_option maxRecDepth 100000 in
theorem bucket_ok (w : World) (r b : Int) (h : (rtB r && rtB b) = true) : Calls Try.prog 10 #[.int .i64 r, .int .i64 b] w fun e w' => ∃ p, e = .returned (.tuple #[ptrV p, .int .i64 0]) ∧ BkI w' p r b b ∧ w.heap.size ≤ p ∧ Tch w w' [] := by
  obtain ⟨hr, hb⟩ : rtB r = true ∧ rtB b = true := by simpa using h
  have H1 := Lib.hid (isRate_any w r _ hr)
  have H2 := Lib.hid (isRate_any w b _ hb)
  clear h hr hb
  go_enter Try.func10, Try.ntmps10
  go_wp2_with fail
  refine Calls.mono H1.out ?_
  rintro e w' ⟨rfl, rfl⟩
  go_wp2_with fail
  refine Calls.mono H2.out ?_
  rintro e w' ⟨rfl, rfl⟩
  go_wp2
  go_ret2
  exact ⟨_, rfl, Blk.new _ _ _, Nat.le_refl _, (Tch.refl _ []).alloc _⟩
section
variable {w : World} {p : Nat} {r b l : Int}
set_option maxRecDepth 100000 in
theorem level_any (h : BkI w p r b l) : Calls Try.prog 15 #[ptrV p] w fun e w' => e = .returned (.int .i64 l) ∧ w' = w := by
  have h2 : w.cell? ⟨p, 2, none⟩ = some (.int .i64 l) := (h.cell 2).trans rfl
  clear h
  go_enter Try.func15, Try.ntmps15
  go_wp2
  go_ret
  exact ⟨rfl, rfl⟩
def tkB (l n : Int) : Bool := decide (0 ≤ n ∧ n ≤ l)
def tkL (l n : Int) : Int := if 0 ≤ n ∧ n ≤ l then l - n else l
set_option maxRecDepth 100000 in
theorem take_any (h : BkI w p r b l) (hl : 0 ≤ l ∧ l ≤ 2000000) (n : Int) : Calls Try.prog 13 #[ptrV p, .int .i64 n] w fun e w' => e = .returned (.bool (tkB l n)) ∧ BkI w' p r b (tkL l n) ∧ Tch w w' [p] := by
  have h2 : w.cell? ⟨p, 2, none⟩ = some (.int .i64 l) := (h.cell 2).trans rfl
  have f2 := h.frozen 2
  have H := Lib.hid h
  unfold tkB tkL
  by_cases h0 : n < 0
  · rw [decide_eq_false (by omega), if_neg (by omega)]
    clear h hl
    go_enter Try.func13, Try.ntmps13
    go_wp2
    go_ret
    exact ⟨rfl, H.out, Tch.refl _ _⟩
  · by_cases h1 : l < n
    · rw [decide_eq_false (by omega), if_neg (by omega)]
      clear h hl
      go_enter Try.func13, Try.ntmps13
      go_wp2
      go_ret
      exact ⟨rfl, H.out, Tch.refl _ _⟩
    · rw [decide_eq_true (by omega), if_pos (by omega)]
      have hw : IntKind.i64.wrap (l - n) = l - n := by rw [IntKind.wrap_i64]; omega
      clear h hl
      go_enter Try.func13, Try.ntmps13
      go_wp2
      go_ret
      exact ⟨rfl, H.out.set_ 2 _, (Tch.refl _ _).set_ (by simp) _⟩
def tiL (r b l : Int) : Int := if b < l + r then b else l + r
set_option maxRecDepth 100000 in
theorem tick_any (h : BkI w p r b l) (hl : 0 ≤ l ∧ l ≤ 2000000) (hr : 0 ≤ r ∧ r ≤ 2000000) : Calls Try.prog 11 #[ptrV p] w fun e w' => e = .returned (.tuple #[]) ∧ BkI w' p r b (tiL r b l) ∧ Tch w w' [p] := by
  have h2 : w.cell? ⟨p, 2, none⟩ = some (.int .i64 l) := (h.cell 2).trans rfl
  have h1 : w.cell? ⟨p, 1, none⟩ = some (.int .i64 b) := (h.cell 1).trans rfl
  have h0 : w.cell? ⟨p, 0, none⟩ = some (.int .i64 r) := (h.cell 0).trans rfl
  have f2 := h.frozen 2
  have hw : IntKind.i64.wrap (l + r) = l + r := by rw [IntKind.wrap_i64]; omega
  have hm : (if b < l + r then b else l + r) = tiL r b l := rfl
  have H := Lib.hid h
  clear h hl hr
  go_enter Try.func11, Try.ntmps11
  go_still_tail 17, (by kernel_rfl)
  change wpList _ _ _ _ _ w.drew
  go_wp2
  exact bodyPost_end (v := .tuple #[]) (by simp [results, Try.results11, go_sem]) rfl ⟨rfl, (H.out.set_ 2 _).drew, ((Tch.refl _ _).set_ (by simp) _).drew⟩
set_option maxRecDepth 100000 in
theorem dtake_any (h : BkD w p r b l) (hl : 0 ≤ l ∧ l ≤ 2000000) (n : Int) : Calls Try.prog 14 #[ptrV p, .int .i64 n] w fun e w' => e = .returned (.bool (tkB l n)) ∧ BkD w' p r b (tkL l n) ∧ Tch w w' [p] := by
  have h2 : w.cell? ⟨p, 2, none⟩ = some (.int .i64 l) := (h.cell 2).trans rfl
  have f2 := h.frozen 2
  have H := Lib.hid h
  unfold tkB tkL
  by_cases h0 : n < 0
  · rw [decide_eq_false (by omega), if_neg (by omega)]
    clear h hl
    go_enter Try.func14, Try.ntmps14
    go_wp2
    go_ret
    exact ⟨rfl, H.out, Tch.refl _ _⟩
  · by_cases h1 : l < n
    · rw [decide_eq_false (by omega), if_neg (by omega)]
      clear h hl
      go_enter Try.func14, Try.ntmps14
      go_wp2
      go_ret
      exact ⟨rfl, H.out, Tch.refl _ _⟩
    · rw [decide_eq_true (by omega), if_pos (by omega)]
      have hw : IntKind.i64.wrap (l - n) = l - n := by rw [IntKind.wrap_i64]; omega
      clear h hl
      go_enter Try.func14, Try.ntmps14
      go_wp2
      go_ret
      exact ⟨rfl, H.out.set_ 2 _, (Tch.refl _ _).set_ (by simp) _⟩
set_option maxRecDepth 100000 in
theorem dtick_any (h : BkD w p r b l) (hl : 0 ≤ l ∧ l ≤ 2000000) (hr : 0 ≤ r ∧ r ≤ 2000000) : Calls Try.prog 12 #[ptrV p] w fun e w' => e = .returned (.tuple #[]) ∧ BkD w' p r b (tiL r b l) ∧ Tch w w' [p] := by
  have h2 : w.cell? ⟨p, 2, none⟩ = some (.int .i64 l) := (h.cell 2).trans rfl
  have h1 : w.cell? ⟨p, 1, none⟩ = some (.int .i64 b) := (h.cell 1).trans rfl
  have h0 : w.cell? ⟨p, 0, none⟩ = some (.int .i64 r) := (h.cell 0).trans rfl
  have f2 := h.frozen 2
  have hw : IntKind.i64.wrap (l + r) = l + r := by rw [IntKind.wrap_i64]; omega
  have H := Lib.hid h
  have HS := Lib.hid (h.set_ 2 (.int .i64 (l + r)))
  have HT : Hid (Tch w (w.setCell ⟨p, 2, none⟩ (.int .i64 (l + r))) [p]) := Lib.hid ((Tch.refl _ _).set_ (by simp) _)
  by_cases hb : b < l + r
  · have HF := Lib.hid (show tiL r b l = b from if_pos hb)
    have hd : decide (b < l + r) = true := decide_eq_true hb
    clear h hl hr
    go_enter Try.func12, Try.ntmps12
    go_wp2_with fail
    go_still_tail 12, (by kernel_rfl)
    change wpList _ _ _ _ _ w.drew
    go_wp2_with fail
    go_quiet (fail)
    go_wp2
    refine bodyPost_end (v := .tuple #[]) (by simp [results, Try.results12, go_sem]) rfl ⟨rfl, ?_, (HT.out.drewN _).set_ (by simp) _⟩
    rw [HF.out]
    exact (HS.out.drewN _).set_ 2 _
  · have HF := Lib.hid (show tiL r b l = l + r from if_neg hb)
    have hd : decide (b < l + r) = false := decide_eq_false hb
    clear h hl hr
    go_enter Try.func12, Try.ntmps12
    go_wp2_with fail
    go_still_tail 12, (by kernel_rfl)
    change wpList _ _ _ _ _ w.drew
    go_wp2_with fail
    go_quiet (fail)
    go_wp2
    refine bodyPost_end (v := .tuple #[]) (by simp [results, Try.results12, go_sem]) rfl ⟨rfl, ?_, (HT.out.drew.drewN _)⟩
    rw [HF.out]
    exact (HS.out.drew.drewN _)
end
end Go.Proofs.Ytimcjfklnjompaa
