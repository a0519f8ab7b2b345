/-
  ip4.Kept of any text of at most 2^42 bytes.
-/
import Derived.Test.YtbhddodghbhjiaaFAre
import Derived.Test.YtbhddodghbhjiaaFCl
namespace Go.Proofs.Ytbhddodghbhjiaa
open Go.RowKit
set_option linter.unusedVariables false

/-- Bytes as numbers. -/
def nums (l : List UInt8) : List Int := l.map fun b => (b.toNat : Int)
theorem keptOf_snoc (os : List (List UInt8)) (x : List UInt8) : keptOf (os ++ [x]) = keptOf os ++ (if isKept x = true then x else []) := by
  unfold keptOf
  rw [List.filter_append, List.flatten_append]
  by_cases h : isKept x = true
  · rw [if_pos h]; simp [h]
  · rw [if_neg h]; simp [h]
theorem keptOf_len : ∀ os : List (List UInt8), (keptOf os).length ≤ os.flatten.length
  | [] => Nat.le_refl _
  | x :: r => by
    have := keptOf_len r
    unfold keptOf at this ⊢
    by_cases h : isKept x = true
    · rw [List.filter_cons_of_pos h]; simp only [List.flatten_cons, List.length_append]; omega
    · rw [List.filter_cons_of_neg h]; simp only [List.flatten_cons, List.length_append]; omega
/-- What is kept so far, in a builder. -/
def KI (B : Nat) (w1 : World) (os : List (List UInt8)) (W : World) : Prop :=
  ∃ p, (p = none ∨ p = some ⟨B, 0, none⟩) ∧ Wr W B (B + 1) p (nums (keptOf os)) ∧ Kp w1 W B (B + 1)
set_option maxRecDepth 100000 in
set_option maxHeartbeats 2000000 in
theorem kept_clo (B : Nat) (w1 : World) (hB1 : B < w1.heap.size) (os : List (List UInt8)) (t : ByteArray) (W : World) (hg : Gd t.data.toList) (hl : os.flatten.length + t.size ≤ 4398046511104) (hI : KI B w1 os W) :
    Calls Try.prog 55 (#[.string t] ++ #[.pointer (some ⟨B, 0, none⟩)]) W fun e W' => e = .returned (.tuple #[]) ∧ KI B w1 (os ++ [t.data.toList]) W' := by
  show Calls Try.prog 55 #[.string t, .pointer (some ⟨B, 0, none⟩)] W _
  obtain ⟨p, hp, hw, hk⟩ := hI
  have hts : t.size = t.data.toList.length := Lib.size_eq t
  have hpos : 0 < t.size := by rw [hts]; exact hg.pos
  have hh : t.data.toList[0]? = some t[0] := by rw [List.getElem?_eq_getElem (by rw [← hts]; exact hpos)]; rfl
  have hkl := keptOf_len os
  have hks : isKept t.data.toList = decide (128 ≤ t[0].toNat) := by
    cases hq : t.data.toList with
    | nil => rw [hq] at hh; cases hh
    | cons x r => rw [hq] at hh; simp at hh; rw [← hh]; rfl
  have hsn := keptOf_snoc os t.data.toList
  obtain ⟨Y, hY⟩ : ∃ Y, Y = keptOf (os ++ [t.data.toList]) := ⟨_, rfl⟩
  unfold KI
  rw [← hY]
  rw [← hY, hks] at hsn
  have hW1 := hk.2.2.2.1
  by_cases h128 : 128 ≤ t[0].toNat
  · have hy : nums Y = nums (keptOf os) ++ byt t := by rw [hsn, if_pos (by simpa using h128)]; simp [nums, byt]
    have HS := Lib.hid (writeString_any hw hp t (by simp only [nums, List.length_map]; omega) (by omega))
    have HK := Lib.hid hk
    rw [← hy] at HS
    have h1 : (128 : Int) ≤ t[0].toNat := by omega
    clear hp hw hk hg hts hh hks hsn hY hy
    go_enter Try.func55, Try.ntmps55
    go_wp2_with fail
    refine Calls.mono HS.out ?_
    rintro e w2 ⟨⟨v, rfl⟩, hw2, hk2⟩
    have HW2 := Lib.hid hw2
    have HK2 := Lib.hid hk2
    clear hw2 hk2
    go_wp2
    go_end0
    exact ⟨rfl, _, .inr rfl, HW2.out, HK.out.trans HK2.out⟩
  · have hy : nums Y = nums (keptOf os) := by rw [hsn, if_neg (by simpa using h128), List.append_nil]
    have h1 : ¬ (128 : Int) ≤ t[0].toNat := by omega
    have HX := Lib.hid (show ∃ p, (p = none ∨ p = some ⟨B, 0, none⟩) ∧ Wr W B (B + 1) p (nums Y) ∧ Kp w1 W B (B + 1) from ⟨p, hp, by rw [hy]; exact hw, hk⟩)
    clear hp hw hk hg hts hh hks hsn hY hy
    go_enter Try.func55, Try.ntmps55
    go_wp2
    go_end0
    obtain ⟨p, hp, h⟩ := HX.out
    rcases hp with rfl | rfl
    · exact ⟨rfl, .inl h⟩
    · exact ⟨rfl, .inr h⟩

def kpR (r : Option (List (List UInt8))) : List UInt8 := match r with
  | none => []
  | some os => pad4 (keptOf os)
theorem kpL_R (l : List UInt8) : kpL l = kpR (opn l) := rfl
/-- The length of what a builder in block B holds. -/
def bLen (B : Nat) (w : World) : Nat := match w.cell? ⟨B, 1, none⟩ with
  | some (.slice _ n _) => n
  | _ => 0
theorem bLen_of {w : World} {B R : Nat} {p : Option Addr} {xs : List Int} (h : Wr w B R p xs) : bLen B w = xs.length := by
  obtain ⟨_, v, hb, hown⟩ := h
  obtain ⟨a, c, rfl⟩ := own_form hown
  unfold bLen
  rw [hb.cell]; rfl
theorem nums_pad (l : List UInt8) (j : Nat) : nums l ++ List.replicate j (0 : Int) = nums (l ++ List.replicate j 0) := by
  unfold nums
  rw [List.map_append, List.map_replicate]; rfl
set_option maxRecDepth 100000 in
set_option maxHeartbeats 4000000 in
theorem kept_any (s : ByteArray) (hs : s.size ≤ 4398046511104) (w : World) :
    Calls Try.prog 31 #[.string s] w fun e w' => e = .returned (.string ⟨(kpL s.data.toList).toArray⟩) ∧ Below w.heap.size w w' := by
  obtain ⟨R, hR⟩ : ∃ R, opn s.data.toList = R := ⟨_, rfl⟩
  obtain ⟨w1, hw1⟩ : ∃ w1, w1 = w.alloc (.cells #[.pointer none, .slice none 0 0] 85) := ⟨_, rfl⟩
  have k0 : Blk w1 w.heap.size 85 #[.pointer none, .slice none 0 0] := by rw [hw1]; exact Blk.new _ _ _
  have L1 : Below w.heap.size w w1 := by rw [hw1]; exact (Below.refl _ w).alloc (Nat.le_refl _) _
  have hB1 : w.heap.size < w1.heap.size := k0.lt
  have H0 := walk_any 55 (enter_of Try.func55 (by kernel_rfl) (by kernel_rfl)) #[.pointer (some ⟨w.heap.size, 0, none⟩)] (KI w.heap.size w1) s (by omega)
    (fun os t W hg hl hI => kept_clo w.heap.size w1 hB1 os t W hg (by omega) hI) w1 ⟨none, .inl rfl, ⟨Nat.lt_succ_self _, _, k0, ⟨rfl, .inl ⟨rfl, rfl⟩⟩⟩, Kp.refl _ _ _⟩
  have hkp : kpL s.data.toList = kpR R := by rw [kpL_R, hR]
  have htot : ∀ os, R = some os → (keptOf os).length ≤ s.size := fun os h => by
    have := opn_total s.data.toList (hR.trans h)
    have := keptOf_len os
    have := Lib.size_eq s
    omega
  rw [hR] at H0
  rw [hkp]
  have H := Lib.hid H0
  have HL1 := Lib.hid L1
  have HT := Lib.hid htot
  clear H0 hR k0 hkp L1 htot
  have HW1 := Lib.hid hw1
  clear hw1
  go_enter Try.func31, Try.ntmps31
  go_wp2_with fail
  rw [← HW1.out]
  refine Calls.mono H.out ?_
  intro e w2 hp
  unfold WkPost at hp
  cases R with
  | none =>
    obtain ⟨rfl, os, p, _, hw, hk⟩ := hp
    have HX := Lib.hid (HL1.out.trans (hk.below (Nat.lt_succ_self _)))
    clear hw hk
    go_wp2
    go_ret
    exact ⟨rfl, HX.out⟩
  | some os =>
    obtain ⟨rfl, p, hpp, hw, hk⟩ := hp
    have HX := Lib.hid (HL1.out.trans (hk.below (Nat.lt_succ_self _)))
    have hs2 : w.heap.size + 1 ≤ w2.heap.size := by have := hk.2.2.2.1; omega
    have HWr := Lib.hid hw
    have HPP := Lib.hid hpp
    have hlen := HT.out os rfl
    obtain ⟨m, hm⟩ : ∃ m, (keptOf os).length = m := ⟨_, rfl⟩
    have HM := Lib.hid hm
    rw [hm] at hlen
    clear hw hk hpp hm
    go_wp2
    go_loopw [10] (fun _ wr => ∃ j : Nat, j ≤ (4 - m % 4) % 4 ∧ Hid ((∃ p, (p = none ∨ p = some ⟨w.heap.size, 0, none⟩) ∧ Wr wr w.heap.size (w.heap.size + 1) p (nums (keptOf os) ++ List.replicate j 0)) ∧ Kp w2 wr w.heap.size (w.heap.size + 1))) (fun _ wr => (4 - bLen w.heap.size wr % 4) % 4)
    case atStart => exact ⟨0, Nat.zero_le _, Lib.hid ⟨⟨p, HPP.out, by simpa using HWr.out⟩, Kp.refl _ _ _⟩⟩
    case round =>
      obtain ⟨j, hj, hH⟩ := hrel
      obtain ⟨⟨p', hp', hw'⟩, hk'⟩ := hH.out
      have hx : (nums (keptOf os) ++ List.replicate j (0 : Int)).length = m + j := by rw [List.length_append, List.length_replicate]; unfold nums; rw [List.length_map, HM.out]
      have HLn := Lib.hid (blen_any hw')
      rw [hx] at HLn
      have hbl := bLen_of hw'
      rw [hx] at hbl
      have hsr : w.heap.size + 1 ≤ wr.heap.size := by have := hk'.2.2.2.1; omega
      by_cases hlt : j < (4 - m % 4) % 4
      · have HWb := Lib.hid (writeByte_any hw' hp' 0 (by decide) (by rw [hx]; omega) hsr)
        have hne : ((((m + j : Nat) : Int) % 4) == 0) = false := by simp; omega
        have HBL := Lib.hid hbl
        have HK' := Lib.hid hk'
        clear hw' hp' hk' hx hbl
        go_wp2_with fail
        refine Calls.mono HLn.out ?_
        rintro e w3 ⟨rfl, rfl⟩
        go_wp2_with fail
        refine Calls.mono HWb.out ?_
        rintro e w3 ⟨⟨v, rfl⟩, hw3, hk3⟩
        have HW3 := Lib.hid hw3
        have HK3 := Lib.hid hk3
        have HB3 := Lib.hid (bLen_of hw3)
        clear hw3 hk3
        go_wp2
        go_roundw
        case rel => exact ⟨j + 1, by omega, Lib.hid ⟨⟨_, .inr rfl, by have := HW3.out; rwa [List.append_assoc, ← List.replicate_succ'] at this⟩, HK'.out.trans HK3.out⟩⟩
        case measure =>
          have e1 := HB3.out
          have e2 := HBL.out
          have e3 := HM.out
          rw [e1, e2]
          simp only [List.length_append, List.length_replicate, List.length_cons, List.length_nil, nums, List.length_map, e3]
          omega
      · have hje : j = (4 - m % 4) % 4 := by omega
        have heq : ((((m + j : Nat) : Int) % 4) == 0) = true := by simp; omega
        have hst : nums (keptOf os) ++ List.replicate j (0 : Int) = nums (pad4 (keptOf os)) := by rw [nums_pad, hje]; unfold pad4; rw [HM.out]
        rw [hst] at hw'
        have HS := Lib.hid (string_any (l := pad4 (keptOf os)) hw' hp' hsr)
        have HK' := Lib.hid hk'
        clear hw' hp' hk' hx hbl hst
        go_wp2_with fail
        refine Calls.mono HLn.out ?_
        rintro e w3 ⟨rfl, rfl⟩
        go_wp2_with fail
        refine Calls.mono HS.out ?_
        rintro e w3 ⟨rfl, hb3⟩
        have HB3 := Lib.hid hb3
        clear hb3
        go_wp2
        go_ret
        exact ⟨rfl, HX.out.trans ((HK'.out.below (Nat.lt_succ_self _)).trans HB3.out)⟩
end Go.Proofs.Ytbhddodghbhjiaa
