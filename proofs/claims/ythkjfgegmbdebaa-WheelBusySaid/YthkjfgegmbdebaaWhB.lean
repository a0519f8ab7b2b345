/-
  The program's own wheel (layer 17): Now, Len, Left.
-/
import Derived.Test.YthkjfgegmbdebaaWhA
namespace Go.Proofs.Ythkjfgegmbdebaa
open Go.RowKit
set_option linter.unusedVariables false

theorem keyI : KeyF (κ := Int) 3 intK mpG := keyInt Try.underlying3
theorem zeroPl (w : World) : (zeroValue 53).run Try.prog w = .ok (.agg #[.int .i64 0, .int .i64 0, .int .i64 0]) w := by kernel_rfl
theorem pl_is {p : Int} {M : List (Int × Value)} {z v : Value} (h : valG p M = some v) : mpV M p z = v ∧ (mpG p M 0).isSome = true := by
  unfold valG at h
  unfold mpV
  cases hg : mpG p M 0 with
  | none => rw [hg] at h; cases h
  | some a => rw [hg] at h; injection h with h; exact ⟨h, rfl⟩
theorem pl_no {p : Int} {M : List (Int × Value)} {z : Value} (h : valG p M = none) : mpV M p z = z ∧ (mpG p M 0).isSome = false := by
  have := valG_none.1 h
  unfold mpV
  rw [this]
  exact ⟨rfl, rfl⟩
section
variable {w : World} {p m t a : Nat} {lv : List Value} {ll : List (List TmI)} {M : List (Int × Value)} {L : List TmI}
set_option maxRecDepth 100000 in
theorem now_any (h : WhM w p m t a lv ll M) : Calls Try.prog 21 #[ptrV p] w fun e w' => e = .returned (.int .i64 (t : Int)) ∧ w' = w := by
  have h0 := h.now
  clear h
  go_enter Try.func21, Try.ntmps21
  go_wp2
  go_ret
  exact ⟨rfl, rfl⟩
set_option maxRecDepth 100000 in
theorem len_any (h : WhM w p m t a lv ll M) : Calls Try.prog 22 #[ptrV p] w fun e w' => e = .returned (.int .i64 (M.length : Int)) ∧ w' = w := by
  have h0 := h.places
  have h1 := h.map.len Try.underlying46 3
  clear h
  go_enter Try.func22, Try.ntmps22
  go_wp2
  go_ret
  exact ⟨rfl, rfl⟩
set_option maxRecDepth 100000 in
set_option maxHeartbeats 1000000 in
theorem left_any (h : WhM w p m t a lv ll M) (hI : InvC 3 t ll [] M L) (hM : InvM M L) (id : Int) (ht : t ≤ 1000000000) : Calls Try.prog 19 #[ptrV p, .int .i64 id] w fun e w' => e = .returned (.tuple #[.int .i64 (lftV L t id), .bool (decide (wAt L id ≠ 0))]) ∧ Tch w w' [] := by
  have hp := h.places
  have hlk := h.map.lookup2 keyI Try.underlying46 (zeroPl w) id
  cases hv : valG id M with
  | none =>
    obtain ⟨e1, e2⟩ := pl_no (z := .agg #[.int .i64 0, .int .i64 0, .int .i64 0]) hv
    rw [e1, e2] at hlk
    have h0 : wAt L id = 0 := wAt_zero.2 ((hM.keys id).1 hv)
    have HR := Lib.hid (And.intro (lft_no (t := t) h0) h0)
    clear h hI hM ht hv e1 e2 h0
    go_enter Try.func19, Try.ntmps19
    go_wp2
    go_ret2
    exact ⟨by rw [HR.out.1, HR.out.2]; rfl, (Tch.refl w []).alloc _⟩
  | some v =>
    obtain ⟨e1, e2⟩ := pl_is (z := .agg #[.int .i64 0, .int .i64 0, .int .i64 0]) hv
    rw [e1, e2] at hlk
    obtain ⟨k, l, i, x, hl, hi, hx, rfl, hxL⟩ := hI.find hM hv
    have hk := hI.lt hl
    have hd := hI.due x hxL
    have HR := Lib.hid (lft_is (t := t) hI.nd hxL)
    rw [hx] at HR
    obtain ⟨v, hvk⟩ : ∃ v, lv[k]? = some v := ⟨_, List.getElem?_eq_getElem (by rw [h.n48]; exact hk)⟩
    have hro := h.rows k v l hvk hl
    obtain ⟨A, c, rfl, hc, -⟩ := own_sl hro
    have hi2 := (List.getElem?_eq_some_iff.1 hi).1
    obtain ⟨g, rfl⟩ := slice_some hro (by omega)
    have hc1 : w.cell? ⟨g, i * 3 + 1, none⟩ = some (.int .i64 (x.2.1 : Int)) := own_cellN hro (by rw [flatk_at tm_three hi (by decide)]; rfl)
    have hs := h.slot hvk
    have hnow := h.now
    have hlt := h.lt p (by simp)
    have hgl := own_lts hro g (by simp [obI, Value.ownBlock])
    obtain ⟨W, hW⟩ : ∃ W, w.alloc (.cells #[.int .i64 ((k / 16 : Nat) : Int), .int .i64 ((k % 16 : Nat) : Int), .int .i64 (i : Int)] 53) = W := ⟨_, rfl⟩
    have hT : Tch w W [] := hW ▸ (Tch.refl w []).alloc _
    have HB := (Blk.new w 53 #[.int .i64 ((k / 16 : Nat) : Int), .int .i64 ((k % 16 : Nat) : Int), .int .i64 (i : Int)])
    rw [hW] at HB
    have b0 := (HB.cell 0).trans (show _ = some (Value.int .i64 ((k / 16 : Nat) : Int)) by rfl)
    have b1 := (HB.cell 1).trans (show _ = some (Value.int .i64 ((k % 16 : Nat) : Int)) by rfl)
    have b2 := (HB.cell 2).trans (show _ = some (Value.int .i64 (i : Int)) by rfl)
    have hs := (hT.cell (p := ⟨p, k + 2, none⟩) hlt (by simp)).trans hs
    have hnow := (hT.cell (p := ⟨p, 0, none⟩) hlt (by simp)).trans hnow
    have hc1 := (hT.cell (p := ⟨g, i * 3 + 1, none⟩) hgl (by simp)).trans hc1
    obtain ⟨B, hB⟩ : ∃ B, w.heap.size = B := ⟨_, rfl⟩
    rw [hB] at b0 b1 b2
    obtain ⟨lo, hlo⟩ : ∃ lo, k / 16 = lo := ⟨_, rfl⟩
    obtain ⟨so, hso⟩ : ∃ so, k % 16 = so := ⟨_, rfl⟩
    have hka : k + 2 = 2 + lo * 16 + so := by omega
    rw [hka] at hs
    have i0 : (0 : Int) ≤ (lo : Int) := by omega
    have i1 : (lo : Int) < 3 := by omega
    have i2 : (0 : Int) ≤ (so : Int) := by omega
    have i3 : (so : Int) < 16 := by omega
    have i4 : (0 : Int) ≤ (i : Int) := by omega
    have i5 : (i : Int) < (l.length : Int) := by omega
    obtain ⟨n, hn⟩ : ∃ n, l.length = n := ⟨_, rfl⟩
    obtain ⟨d, hd'⟩ : ∃ d, x.2.1 = d := ⟨_, rfl⟩
    rw [hd'] at HR hd hc1
    rw [hn] at hs i5
    have w1 : IntKind.i64.wrap ((d : Int) - (t : Int)) = (d : Int) - (t : Int) := by rw [IntKind.wrap_i64]; omega
    have HW := Lib.hid (And.intro hW hB)
    have HT := Lib.hid hT
    unfold plV at hlk
    rw [hlo, hso] at hlk
    rw [hlo] at b0
    rw [hso] at b1
    rw [hlo, hso] at HW
    clear h hI hM ht hv e1 e2 hl hi hx hk hvk hro hlt hgl hW hB hT HB hlo hso hka hd hd' hn hc hi2 hxL
    go_enter Try.func19, Try.ntmps19
    go_wp2_with fail
    rw [HW.out.1, HW.out.2]
    go_quiet (fail)
    go_wp2
    go_ret2
    exact ⟨by rw [HR.out.1]; simp [HR.out.2], HT.out.drewN _⟩
end
end Go.Proofs.Ythkjfgegmbdebaa
