/-
  The document's Digits of any number in base 10 or 16.
-/
import Derived.Test.YtnhlgonldffgoaaDoorTrip
namespace Go.Proofs.YtnhlgonldffgoaaDoor
open Go.RowKit
set_option linter.unusedVariables false

/-- A number's digits in a base, the greatest first. -/
def dg (b : Nat) (n : Nat) : List UInt8 := if h : n < b ∨ b < 2 then [UInt8.ofNat (hx n).toNat] else dg b (n / b) ++ [UInt8.ofNat (hx (n % b : Nat)).toNat]
termination_by n
decreasing_by exact Nat.div_lt_self (by omega) (by omega)
theorem dg_lt {b n : Nat} (h : n < b) : dg b n = [UInt8.ofNat (hx n).toNat] := by rw [dg, dif_pos (.inl h)]
theorem dg_ge {b n : Nat} (h : b ≤ n) (hb : 2 ≤ b) : dg b n = dg b (n / b) ++ [UInt8.ofNat (hx (n % b : Nat)).toNat] := by
  rw [dg, dif_neg (by omega)]
theorem dg_ne (b n : Nat) : dg b n ≠ [] := by rw [dg]; split <;> simp

abbrev dgs : ByteArray := ⟨#[48, 49, 50, 51, 52, 53, 54, 55, 56, 57, 97, 98, 99, 100, 101, 102]⟩
theorem dgs_at (d : Int) (h0 : 0 ≤ d) (h1 : d < 16) : dgs.extract d.toNat (d + 1).toNat = ⟨[UInt8.ofNat (hx d).toNat].toArray⟩ := by
  rcases (show d = 0 ∨ d = 1 ∨ d = 2 ∨ d = 3 ∨ d = 4 ∨ d = 5 ∨ d = 6 ∨ d = 7 ∨ d = 8 ∨ d = 9 ∨ d = 10 ∨ d = 11 ∨ d = 12 ∨ d = 13 ∨ d = 14 ∨ d = 15 by omega) with rfl | rfl | rfl | rfl | rfl | rfl | rfl | rfl | rfl | rfl | rfl | rfl | rfl | rfl | rfl | rfl
  all_goals kernel_rfl
theorem str_cons (d : Int) (h0 : 0 ≤ d) (h1 : d < 16) (t : ByteArray) : (dgs.extract d.toNat (d + 1).toNat ++ t).data.toList = UInt8.ofNat (hx d).toNat :: t.data.toList := by
  rw [dgs_at d h0 h1]; simp
theorem dg_len (b : Nat) (hb : 2 ≤ b) : ∀ (k n : Nat), n < 2 ^ k → (dg b n).length ≤ k + 1 := by
  intro k
  induction k with
  | zero => intro n h; have : n = 0 := by simpa using h
            rw [dg_lt (by omega)]; simp
  | succ k ih =>
    intro n h
    by_cases hn : n < b
    · rw [dg_lt hn]; simp
    · rw [dg_ge (by omega) hb, List.length_append]
      have h1 : n / b ≤ n / 2 := Nat.div_le_div_left hb (by decide)
      have := ih (n / b) (by rw [Nat.pow_succ] at h; omega)
      simp; omega
theorem str_app (a b : List UInt8) : (⟨a.toArray⟩ : ByteArray) ++ (⟨b.toArray⟩ : ByteArray) = ⟨(a ++ b).toArray⟩ := by
  apply ByteArray.ext
  simp

/-- One step. -/
theorem dg_round {b n : Nat} {m bI : Int} {l : List UInt8} (hb : 2 ≤ b) (hbI : bI = (b : Int)) (h0 : 0 ≤ m) (hg : 0 < m ∨ l = []) (h : (m = 0 ∧ l ≠ [] ∧ l = dg b n) ∨ ((0 < m ∨ l = []) ∧ dg b m.toNat ++ l = dg b n)) :
    (m / bI = 0 ∧ UInt8.ofNat (hx (m % bI)).toNat :: l ≠ [] ∧ UInt8.ofNat (hx (m % bI)).toNat :: l = dg b n) ∨ ((0 < m / bI ∨ UInt8.ofNat (hx (m % bI)).toNat :: l = []) ∧ dg b (m / bI).toNat ++ UInt8.ofNat (hx (m % bI)).toNat :: l = dg b n) := by
  obtain ⟨k, rfl⟩ : ∃ k : Nat, m = (k : Int) := ⟨m.toNat, by omega⟩
  subst hbI
  have h1 : dg b k ++ l = dg b n := by
    rcases h with ⟨a1, a2, a3⟩ | ⟨a1, a2⟩
    · rcases hg with h | h
      · omega
      · exact absurd h a2
    · simpa using a2
  have e1 : ((k : Int) / (b : Int)) = ((k / b : Nat) : Int) := by simp
  have e2 : ((k : Int) % (b : Int)) = ((k % b : Nat) : Int) := by simp
  rw [e1, e2]
  by_cases hkb : k < b
  · left
    rw [dg_lt hkb] at h1
    rw [Nat.mod_eq_of_lt hkb, Nat.div_eq_of_lt hkb]
    exact ⟨rfl, by simp, h1⟩
  · right
    rw [dg_ge (by omega) hb] at h1
    have := Nat.div_pos (show b ≤ k by omega) (by omega : 0 < b)
    refine ⟨.inl (by omega), ?_⟩
    rw [show ((k / b : Nat) : Int).toNat = k / b from rfl, ← h1, List.append_assoc]
    rfl
theorem dg_part {b n : Nat} {m : Int} {l : List UInt8} (hb : 2 ≤ b) (hn : n < 18446744073709551616) (h : (m = 0 ∧ l ≠ [] ∧ l = dg b n) ∨ ((0 < m ∨ l = []) ∧ dg b m.toNat ++ l = dg b n)) : l.length ≤ 65 := by
  have hl := dg_len b hb 64 n hn
  rcases h with ⟨-, -, a⟩ | ⟨-, a⟩
  · rw [a]; exact hl
  · rw [← a, List.length_append] at hl; omega
def emptyS : Value → Nat
  | .string t => if t.size = 0 then 1 else 0
  | _ => 0
theorem emptyS_ne {X : ByteArray} {c : UInt8} {l : List UInt8} (e : X.data.toList = c :: l) : emptyS (.string X) = 0 := by
  unfold emptyS
  simp only
  rw [if_neg (by rw [Lib.size_eq, e]; simp)]

set_option maxRecDepth 100000 in
set_option maxHeartbeats 1000000 in
theorem rdig_any (n b : Nat) (bI : Int) (hbI : bI = (b : Int)) (hb : 2 ≤ b) (hb2 : b ≤ 16) (hn : n < 18446744073709551616) (w : World) :
    Calls Tryd.prog 58 #[.int .u64 n, .int .u64 bI] w fun e w' => e = .returned (.string ⟨(dg b n).toArray⟩) ∧ w = w' := by
  have HB := Lib.hid (And.intro hb (And.intro hb2 hbI))
  obtain ⟨nI, hnI⟩ : ∃ nI : Int, (n : Int) = nI := ⟨_, rfl⟩
  rw [hnI]
  have HNI := Lib.hid (And.intro hn hnI)
  have hbz : ¬ bI = 0 := by omega
  have hb0 : 0 < bI := by omega
  have hb16 : bI ≤ 16 := by omega
  clear hb hb2 hbI hn hnI
  go_enter Tryd.func58, Tryd.ntmps58
  go_wp2
  go_loop [0, 5] (fun x s => ∃ (m : Int) (t : ByteArray), x = .int .u64 m ∧ s = .string t ∧ Hid (0 ≤ m ∧ m < 18446744073709551616 ∧ ((m = 0 ∧ t.data.toList ≠ [] ∧ t.data.toList = dg b n) ∨ ((0 < m ∨ t.data.toList = []) ∧ dg b m.toNat ++ t.data.toList = dg b n)))) (fun x s => (intOf x).toNat + emptyS s)
  case atStart =>
    refine ⟨nI, ⟨#[]⟩, rfl, rfl, ?_, ?_, .inr ⟨.inr rfl, ?_⟩⟩
    · have := HNI.out.2; omega
    · have := HNI.out; omega
    · have := HNI.out.2; rw [← this]; simp
  case round =>
    obtain ⟨m, t, rfl, rfl, hh⟩ := hrel
    obtain ⟨h0, h1, h2⟩ := hh.out
    have HH := Lib.hid h2
    by_cases hgo : 0 < m ∨ t.data.toList = []
    · have HG := Lib.hid hgo
      have hr0 : 0 ≤ m % bI := Int.emod_nonneg _ hbz
      have hr1 : m % bI < 16 := by have := Int.emod_lt_of_pos m hb0; omega
      have hw1 : IntKind.u64.wrap (m % bI + 1) = m % bI + 1 := by rw [IntKind.wrap_u64]; omega
      have HR := Lib.hid (dg_round (n := n) (l := t.data.toList) HB.out.1 HB.out.2.2 h0 hgo h2)
      have hts : t.size ≤ 65 := by rw [Lib.size_eq]; exact dg_part HB.out.1 HNI.out.1 h2
      have hcat : ¬ 9223372036854775807 < min (m % bI + 1).toNat 16 - (m % bI).toNat + t.size := by omega
      have HD : Hid (m / bI < 18446744073709551616 ∧ 0 ≤ m / bI ∧ m / bI ≤ m ∧ (0 < m → m / bI < m)) := Lib.hid ⟨by have := Int.ediv_le_self bI h0; omega, Int.ediv_nonneg h0 (by omega), Int.ediv_le_self bI h0, fun hm => Int.ediv_lt_self_of_pos_of_ne_one hm (by have := HB.out; omega)⟩
      have HC := Lib.hid (str_cons (m % bI) hr0 hr1 t)
      clear h2 hgo hh
      by_cases ht : t.data.toList = []
      · obtain rfl : t = ⟨#[]⟩ := by cases t; simp at ht; rw [ht]
        clear ht
        go_wp2
        go_round
        case rel => exact ⟨m / bI, _, rfl, rfl, HD.out.2.1, HD.out.1, by rw [HC.out]; exact HR.out⟩
        case measure =>
          rw [emptyS_ne HC.out]
          have := HD.out
          rw [show emptyS (.string ⟨#[]⟩) = 1 from rfl]
          simp only [intOf]; omega
      · have hne : t.toList.isEmpty = false := hemp_of (by rw [Lib.size_eq]; intro e; exact ht (List.eq_nil_of_length_eq_zero e))
        have hmp : 0 < m := by rcases HG.out with h | h; exact h; exact absurd h ht
        clear ht
        go_wp2
        go_round
        case rel => exact ⟨m / bI, _, rfl, rfl, HD.out.2.1, HD.out.1, by rw [HC.out]; exact HR.out⟩
        case measure =>
          rw [emptyS_ne HC.out]
          have := HD.out
          simp only [intOf]; omega
    · have hm0 : m = 0 := by omega
      subst hm0
      have htn : t.data.toList ≠ [] := fun e => hgo (.inr e)
      have HE : Hid (t.data.toList = dg b n) := by
        rcases h2 with ⟨a1, a2, a3⟩ | ⟨a1, a2⟩
        · exact a3
        · exact absurd a1 hgo
      have hne : t.toList.isEmpty = false := hemp_of (by rw [Lib.size_eq]; intro e; exact htn (List.eq_nil_of_length_eq_zero e))
      have HT : Hid (t = ⟨(dg b n).toArray⟩) := Lib.hid (by rw [← HE.out])
      clear hh hgo h2 htn h0 h1
      go_wp2
      go_ret
      rw [HT.out]
      exact ⟨rfl, rfl⟩

/-- In base 10, in base 16. -/
theorem hx_dec (d : Nat) (h : d < 10) : (hx (d : Int)).toNat = 48 + d := by
  unfold hx
  rw [if_pos (by omega)]
  omega
theorem dg_ten (n : Nat) : dg 10 n = d10 (n : Int) := by
  show dg 10 n = Lib.decDigits n
  induction n using Nat.strongRecOn with
  | ind n ih =>
    rw [Lib.decDigits]
    by_cases h : n < 10
    · rw [dif_pos h, dg_lt h, hx_dec n h]
    · rw [dif_neg h, dg_ge (by omega) (by decide), ih (n / 10) (by omega), hx_dec (n % 10) (by omega)]
theorem nhx_step (n : Int) (h : 16 ≤ n) (h1 : n ≤ 65535) : nhx n = nhx (n / 16) + 1 := by
  unfold nhx
  repeat (first | omega | split)
theorem d16_step (n : Int) (h : 16 ≤ n) (h1 : n ≤ 65535) : d16 n = d16 (n / 16) ++ [UInt8.ofNat (hx (n % 16)).toNat] := by
  unfold d16 dhx
  rw [nhx_step n h h1, lowd, List.map_append]
  rfl
theorem dg_sixteen (n : Nat) (hn : n ≤ 65535) : dg 16 n = d16 (n : Int) := by
  induction n using Nat.strongRecOn with
  | ind n ih =>
    by_cases h : n < 16
    · rw [dg_lt h]
      unfold d16 dhx nhx
      rw [if_pos (by omega)]
      simp only [lowd, List.nil_append, List.map_cons, List.map_nil]
      rw [Int.emod_eq_of_lt (by omega) (by omega)]
    · rw [dg_ge (by omega) (by decide), ih (n / 16) (by omega) (by omega), d16_step (n : Int) (by omega) (by omega)]
      rfl
end Go.Proofs.YtnhlgonldffgoaaDoor
