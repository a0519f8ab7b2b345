/-
  Texts of ranges of first bits, plainly: an address, a stroke, a number.
-/
import Derived.Test.YtecgmejfkfoceaaDoorBrief
import Derived.Test.YtecgmejfkfoceaaDoorPNb
import Derived.Test.YtecgmejfkfoceaaDoorPNum
namespace Go.Proofs.YtecgmejfkfoceaaDoor
set_option linter.unusedVariables false

theorem d10_47 : ∀ m : Fin 256, (47 : UInt8) ∉ Lib.decDigits m.val := by decide +kernel
theorem numw_dig : ∀ m : Fin 129, numw (Lib.decDigits m.val) = some m.val := by decide +kernel
theorem dig_len : ∀ m : Fin 129, (Lib.decDigits m.val).length ≤ 3 := by decide +kernel
theorem d16_47 (z : Int) : (47 : UInt8) ∉ d16 z := by
  unfold d16
  intro h
  obtain ⟨n, hn, e⟩ := List.mem_map.1 h
  rcases lowd_mem _ _ _ hn with h1 | h1 <;>
  · have : (UInt8.ofNat n.toNat).toNat = 47 := by rw [e]; rfl
    rw [UInt8.toNat_ofNat'] at this
    omega
theorem join_47 {c : UInt8} {ws : List (List UInt8)} (hc : c ≠ 47) (h : ∀ x ∈ ws, (47 : UInt8) ∉ x) : (47 : UInt8) ∉ Lib.join ws [c] := by
  intro hm
  rcases mem_join hm with e | ⟨x, hx, hd⟩
  · exact hc e.symm
  · exact h x hx hd
theorem prn_47 (s : Bool) (h l : Int) : (47 : UInt8) ∉ prn s h l := by
  unfold prn
  split
  · split
    · have H : ∀ ys : List Int, ∀ x ∈ ys.map d16, (47 : UInt8) ∉ x := by
        intro ys x hx
        obtain ⟨z, _, rfl⟩ := List.mem_map.1 hx
        exact d16_47 z
      unfold prn6
      split
      · exact join_47 (by decide) (H _)
      · intro hm
        rcases List.mem_append.1 hm with hm | hm
        · rcases List.mem_append.1 hm with hm | hm
          · exact join_47 (by decide) (H _) hm
          · simp at hm
        · exact join_47 (by decide) (H _) hm
    · refine join_47 (by decide) ?_
      intro x hx
      obtain ⟨z, hz, rfl⟩ := List.mem_map.1 hx
      have hb := putOf_by 4 l z hz
      exact d10_47 ⟨z.toNat, by omega⟩
  · simp
theorem prn_len (s : Bool) (h l : Int) : (prn s h l).length ≤ 200 := by
  unfold prn
  split
  · split
    · have H : ∀ ys : List Int, ∀ x ∈ ys.map d16, x.length ≤ 4 := by
        intro ys x hx
        obtain ⟨z, _, rfl⟩ := List.mem_map.1 hx
        exact d16_len z
      have e8 : (gsOf h l).length = 8 := rfl
      unfold prn6
      split
      · have := join_len ((gsOf h l).map d16) 58 4 (H _)
        rw [List.length_map, e8] at this
        omega
      · have h1 := join_len (((gsOf h l).take (lng (gsOf h l)).1).map d16) 58 4 (H _)
        have h2 := join_len (((gsOf h l).drop ((lng (gsOf h l)).1 + (lng (gsOf h l)).2)).map d16) 58 4 (H _)
        rw [List.length_map, List.length_take, e8] at h1
        rw [List.length_map, List.length_drop, e8] at h2
        rw [List.length_append, List.length_append]
        simp only [List.length_cons, List.length_nil]
        omega
    · have := join_len ((putOf 4 l).map d10) 46 3 (by
        intro x hx
        obtain ⟨z, hz, rfl⟩ := List.mem_map.1 hx
        have hb := putOf_by 4 l z hz
        exact d10_len z (by omega) (by omega))
      rw [List.length_map, putOf_len] at this
      omega
  · simp

/-- What a range is told as. -/
def pprn (s : Bool) (h l : Nat) (b : Int) : List UInt8 := if pvl s h l b then prn s h l ++ 47 :: Lib.decDigits b.toNat else []
/-- What a text is read as. -/
def Ppr (t : List UInt8) (v : Value) : Prop :=
  ((47 : UInt8) ∉ t ∧ v = .tuple #[.agg #[.bool false, .int .u64 0, .int .u64 0, .int .i64 0], .int .i64 30]) ∨
  ∃ a b, t = a ++ 47 :: b ∧ (47 : UInt8) ∉ a ∧
    ((prsV a = .tuple #[adr false 0 0, .int .i64 20] ∧ v = .tuple #[.agg #[.bool false, .int .u64 0, .int .u64 0, .int .i64 0], .int .i64 20]) ∨
     ∃ (x : Bool) (h l : Nat), N64 h ∧ N64 l ∧ prsV a = .tuple #[adr x h l, .int .i64 0] ∧
      ((∃ n : Nat, numw b = some n ∧ pvl x h l n = true ∧ v = .tuple #[.agg #[.bool x, .int .u64 h, .int .u64 l, .int .i64 n], .int .i64 0]) ∨
       ((∀ n : Nat, numw b = some n → pvl x h l n = false) ∧ v = .tuple #[.agg #[.bool false, .int .u64 0, .int .u64 0, .int .i64 0], .int .i64 30])))
theorem ppr_any (t : List UInt8) : ∃ v, Ppr t v := by
  by_cases hm : (47 : UInt8) ∈ t
  · obtain ⟨a, b, rfl, ha⟩ := mem_cut hm
    rcases prs_short a with e | ⟨x, h, l, e, ⟨h0, h1⟩, ⟨l0, l1⟩, hv, _⟩
    · exact ⟨_, .inr ⟨a, b, rfl, ha, .inl ⟨e, rfl⟩⟩⟩
    · obtain ⟨hn, rfl⟩ := Int.eq_ofNat_of_zero_le h0
      obtain ⟨ln, rfl⟩ := Int.eq_ofNat_of_zero_le l0
      have h2 : N64 hn := by unfold N64; omega
      have l2 : N64 ln := by unfold N64; omega
      by_cases hk : ∃ n : Nat, numw b = some n ∧ pvl x hn ln n = true
      · obtain ⟨n, k1, k2⟩ := hk
        exact ⟨_, .inr ⟨a, b, rfl, ha, .inr ⟨x, hn, ln, h2, l2, e, .inl ⟨n, k1, k2, rfl⟩⟩⟩⟩
      · refine ⟨_, .inr ⟨a, b, rfl, ha, .inr ⟨x, hn, ln, h2, l2, e, .inr ⟨fun n k1 => ?_, rfl⟩⟩⟩⟩
        rw [Bool.eq_false_iff]
        intro k2
        exact hk ⟨n, k1, k2⟩
  · exact ⟨_, .inl ⟨hm, rfl⟩⟩
theorem n64_u6 {n : Nat} (h : N64 n) : U6 (n : Int) := by unfold N64 at h; unfold U6; omega
/-- What a valid range is told as is read as that range. -/
theorem ppr_prn {s : Bool} {h l : Nat} {b : Int} (hh : N64 h) (hl : N64 l) (p : pvl s h l b = true) : Ppr (pprn s h l b) (.tuple #[.agg #[.bool s, .int .u64 h, .int .u64 l, .int .i64 b], .int .i64 0]) := by
  obtain ⟨v, o, e⟩ := (pvl_iff hl).1 p
  obtain ⟨o1, o2⟩ := okn_iff.1 o
  have w128 : wd s ≤ 128 := by unfold wd; split <;> omega
  obtain ⟨n, rfl⟩ := Int.eq_ofNat_of_zero_le o1
  refine .inr ⟨prn s h l, Lib.decDigits n, ?_, prn_47 _ _ _, .inr ⟨s, h, l, hh, hl, prs_prn s h l (n64_u6 hh) (n64_u6 hl) v, .inl ⟨n, numw_dig ⟨n, by omega⟩, p, rfl⟩⟩⟩
  unfold pprn
  rw [if_pos p]
  rfl
theorem pprn_no {s : Bool} {h l : Nat} {b : Int} (p : pvl s h l b = false) : pprn s h l b = [] := by unfold pprn; rw [p]; rfl
theorem pprn_yes {s : Bool} {h l : Nat} {b : Int} (p : pvl s h l b = true) : pprn s h l b = prn s h l ++ 47 :: Lib.decDigits b.toNat := by unfold pprn; rw [p]; rfl
theorem pprn_ne {s : Bool} {h l : Nat} {b : Int} (p : pvl s h l b = true) : pprn s h l b ≠ [] := by rw [pprn_yes p]; simp
theorem pprn_len {s : Bool} {h l : Nat} {b : Int} (hl : N64 l) : (pprn s h l b).length ≤ 204 := by
  by_cases p : pvl s h l b = true
  · rw [pprn_yes p, List.length_append, List.length_cons]
    have h1 := prn_len s h l
    obtain ⟨o1, o2⟩ := okn_iff.1 ((pvl_iff hl).1 p).2.1
    have w128 : wd s ≤ 128 := by unfold wd; split <;> omega
    have h2 : (Lib.decDigits b.toNat).length ≤ 3 := dig_len ⟨b.toNat, by omega⟩
    omega
  · rw [pprn_no (by simpa using p)]; simp
end Go.Proofs.YtecgmejfkfoceaaDoor
