/-
  The document's own Width and Bit of any address.
-/
import Derived.Test.YtabbclocgkhnhaaRBytes
import Derived.Test.YtabbclocgkhnhaaPBt
namespace Go.Proofs.Ytabbclocgkhnhaa
open Go.RowKit
set_option linter.unusedVariables false

theorem rwidth_at (s : Bool) (h l W : Int) (hW : (wd s : Int) = W) (w : World) :
    Calls Try.prog 56 #[adr s h l] w fun e w' => e = .returned (.int .i64 W) ∧ Below w.heap.size w w' := by
  subst hW
  cases s
  all_goals
    go_enter Try.func56, Try.ntmps56
    go_wp2
    go_ret
    exact ⟨rfl, (Below.refl _ _).alloc (Nat.le_refl _) _⟩
/-- A byte of a number, and a bit of that byte. -/
theorem bit_of_byte (x m r : Nat) (hr : r < 8) : x / 256 ^ m % 256 / 2 ^ r % 2 = x / 2 ^ (8 * m + r) % 2 := by
  have e : (256 : Nat) ^ m = 2 ^ (8 * m) := by rw [show (256 : Nat) = 2 ^ 8 from rfl, ← Nat.pow_mul]
  rw [div_pow_add, e]
  generalize x / 2 ^ (8 * m) = y
  have h : r = 0 ∨ r = 1 ∨ r = 2 ∨ r = 3 ∨ r = 4 ∨ r = 5 ∨ r = 6 ∨ r = 7 := by omega
  rcases h with rfl | rfl | rfl | rfl | rfl | rfl | rfl | rfl <;> simp <;> omega
theorem putOf_at (k : Nat) (v j : Nat) (hj : j < k) : (putOf k (v : Int))[j]? = some (((v / 256 ^ (k - 1 - j) % 256 : Nat)) : Int) := by
  have h := putOf_get k (v : Int) (k - 1 - j) (by omega)
  rw [show k - 1 - (k - 1 - j) = j by omega] at h
  rw [h]
  congr 1
/-- The byte in which a bit stands. -/
theorem byts_at {s : Bool} {h l : Nat} (hh : N64 h) (hl : N64 l) (v : vld s h l = true) (i : Nat) (hi : i < wd s) :
    ∃ c : Nat, c < 256 ∧ (byts s h l)[i / 8]? = some (c : Int) ∧ c / 2 ^ (7 - i % 8) % 2 = bt (nm h l) (wd s) i := by
  unfold byts
  rw [if_pos v]
  cases s
  · have w32 : wd false = 32 := rfl
    rw [w32] at hi ⊢
    rw [if_neg (by decide)]
    refine ⟨l / 256 ^ (4 - 1 - i / 8) % 256, Nat.mod_lt _ (by decide), putOf_at 4 l (i / 8) (by omega), ?_⟩
    rw [bit_of_byte _ _ _ (by omega)]
    unfold bt
    rw [show 8 * (4 - 1 - i / 8) + (7 - i % 8) = 32 - 1 - i by omega, nm_bit_lo h l _ (by omega)]
  · have w128 : wd true = 128 := rfl
    rw [w128] at hi ⊢
    rw [if_pos rfl]
    by_cases h64 : i < 64
    · refine ⟨h / 256 ^ (8 - 1 - i / 8) % 256, Nat.mod_lt _ (by decide), ?_, ?_⟩
      · rw [List.getElem?_append_left (by rw [putOf_len]; omega)]
        exact putOf_at 8 h (i / 8) (by omega)
      · rw [bit_of_byte _ _ _ (by omega)]
        unfold bt
        rw [show 8 * (8 - 1 - i / 8) + (7 - i % 8) = 63 - i by omega, show 128 - 1 - i = 64 + (63 - i) by omega, nm_bit_hi h l _ hl.lt]
    · refine ⟨l / 256 ^ (8 - 1 - (i / 8 - 8)) % 256, Nat.mod_lt _ (by decide), ?_, ?_⟩
      · rw [List.getElem?_append_right (by rw [putOf_len]; omega), putOf_len]
        exact putOf_at 8 l (i / 8 - 8) (by omega)
      · rw [bit_of_byte _ _ _ (by omega)]
        unfold bt
        rw [show 8 * (8 - 1 - (i / 8 - 8)) + (7 - i % 8) = 128 - 1 - i by omega, nm_bit_lo h l _ (by omega)]

set_option maxRecDepth 100000 in
set_option maxHeartbeats 4000000 in
theorem rbit_in (s : Bool) (h l i : Nat) (hh : N64 h) (hl : N64 l) (v : vld s h l = true) (hi : i < wd s) (w : World) :
    Calls Try.prog 77 #[adr s h l, .int .i64 i] w fun e w' => e = .returned (.int .i64 ((bt (nm h l) (wd s) i : Nat) : Int)) ∧ Below w.heap.size w w' := by
  obtain ⟨c, hc, hcb, hct⟩ := byts_at hh hl v i hi
  obtain ⟨W, hW⟩ : ∃ W, (wd s : Int) = W := ⟨_, rfl⟩
  have iW : (i : Int) < W := by rw [← hW]; omega
  have i0 : (0 : Int) ≤ i := by omega
  have W1 : W ≤ 128 := by rw [← hW]; unfold wd; split <;> omega
  have HV := Lib.hid (fun w => rvalid_at s h l w v)
  have HW := Lib.hid (fun w => rwidth_at s h l W hW w)
  have HB := Lib.hid (fun w => rbytes_any s h l (show U6 h by unfold N64 at hh; unfold U6; omega) (show U6 l by unfold N64 at hl; unfold U6; omega) w)
  obtain ⟨q, hq⟩ : ∃ q, q = i / 8 := ⟨_, rfl⟩
  obtain ⟨r, hr⟩ : ∃ r, r = i % 8 := ⟨_, rfl⟩
  have eq1 : (i : Int) / 8 = (q : Int) := by omega
  have er1 : (i : Int) % 8 = (r : Int) := by omega
  have r8 : r < 8 := by omega
  rw [← hq] at hcb
  rw [← hr] at hct
  obtain ⟨n, hn⟩ : ∃ n, n = (byts s h l).length := ⟨_, rfl⟩
  have qn : q < n := by rw [hn]; exact (List.getElem?_eq_some_iff.1 hcb).1
  have HCB := Lib.hid hcb
  have HCT := Lib.hid hct
  have HN := Lib.hid hn
  have EQ := Lib.hid eq1
  have ER := Lib.hid er1
  clear hW v hcb hct hi hn hq hr eq1 er1
  go_enter Try.func77, Try.ntmps77
  go_wp2_with fail
  refine Calls.mono (HV.out _) ?_
  rintro e w1 ⟨rfl, hb⟩
  have K1 := Lib.hid ((Blk.new w 34 #[.bool s, .int .u64 h, .int .u64 l]).below hb (by simp only [World.size_alloc]; omega))
  have L1 := Lib.hid (((Below.refl _ w).alloc (Nat.le_refl _) _).trans (hb.mono (by simp only [World.size_alloc]; omega)))
  have s1 : w.heap.size < w1.heap.size := by have := hb.size; simp only [World.size_alloc] at this; omega
  clear hb
  obtain ⟨f0, f1, f2⟩ := K1.out.c3
  go_wp2_with fail
  refine Calls.mono (HW.out _) ?_
  rintro e w2 ⟨rfl, hb⟩
  clear f0 f1 f2
  have K2 := Lib.hid (K1.out.below hb s1)
  have L2 := Lib.hid (L1.out.trans (hb.mono L1.out.size))
  have s2 : w.heap.size < w2.heap.size := by have := hb.size; omega
  clear hb
  obtain ⟨f0, f1, f2⟩ := K2.out.c3
  go_wp2_with fail
  refine Calls.mono (HB.out _) ?_
  rintro e w3 ⟨A, cp, rfl, hri, -, -, hb⟩
  clear f0 f1 f2
  have L3 := Lib.hid (L2.out.trans (hb.mono L2.out.size))
  rw [← HN.out] at hri
  obtain ⟨b, o, rfl, hbk, hcell⟩ := hri.2.1 (by omega)
  have d0 := hcell _ _ HCB.out
  have qn' : (q : Int) < n := by omega
  have q0 : (0 : Int) ≤ q := by omega
  have eq1 := EQ.out
  have er1 := ER.out
  rw [← HN.out]
  clear hb hri hcell hbk
  go_wp2
  clear eq1 er1 d0
  go_loop [7, 8] (fun x k => ∃ t y : Nat, r + t ≤ 7 ∧ y < 256 ∧ x = .int .i64 y ∧ k = .int .i64 ((r + t : Nat) : Int) ∧ Hid (y = c / 2 ^ t)) (fun _ k => (7 - intOf k).toNat)
  case atStart => exact ⟨0, c, by omega, hc, rfl, by rw [ER.out]; rfl, Lib.hid (by simp)⟩
  case round =>
    obtain ⟨t, y, ht, hy, rfl, rfl, he⟩ := hrel
    obtain ⟨k, hk⟩ : ∃ k : Nat, k = r + t := ⟨_, rfl⟩
    rw [← hk]
    have HK := Lib.hid hk
    have k7 : k ≤ 7 := by omega
    clear hk ht
    by_cases hlt : k < 7
    · go_wp2
      go_round
      case rel => exact ⟨t + 1, y / 2, by have := HK.out; omega, by omega, by go_num, by have := HK.out; rw [show r + (t + 1) = k + 1 by omega]; go_num, Lib.hid (by rw [he.out, Nat.pow_succ, Nat.div_div_eq_div_mul])⟩
      case measure => simp [intOf]; omega
    · go_wp2
      go_ret
      refine ⟨ret_i64 ?_, L3.out⟩
      rw [← HCT.out, show 7 - r = t by have := HK.out; omega, ← he.out]
      omega

theorem rbit_any (s : Bool) (h l i : Nat) (hh : N64 h) (hl : N64 l) (v : vld s h l = true) (hi : i < wd s) {b : Nat} (e : bt (nm h l) (wd s) i = b) (w : World) :
    Calls Try.prog 77 #[adr s h l, .int .i64 i] w fun e w' => e = .returned (.int .i64 b) ∧ Below w.heap.size w w' := by
  subst e; exact rbit_in s h l i hh hl v hi w
end Go.Proofs.Ytabbclocgkhnhaa
