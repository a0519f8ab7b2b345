/-
  The two readers side by side: octet's and the document's own answer alike, whatever is asked of them.
-/
import Derived.Test.YtigkikoogolkkaaRefReader
import Derived.Test.YtigkikoogolkkaaTakes
namespace Go.Proofs.Ytigkikoogolkkaa
open Go.RowKit
set_option linter.unusedVariables false

/-- What is before octet's reader, and where the document's stands. -/
def St (zs rest : List Int) (sh : Bool) (at_ : Nat) : Prop := at_ ≤ zs.length ∧ rest = (if sh then [] else zs.drop at_)

/-- What octet's Bytes leaves. -/
def OBytes (w : World) (L B r : Nat) (out rest : List Int) (sh : Bool) (e : Ending) (w' : World) : Prop :=
  ∃ Ax cx, e = .returned (.slice Ax out.length cx) ∧ w'.ownsRow w.heap.size 5 1 (.slice Ax out.length cx) out.length (out.map (Value.int .u8)) ∧ Rd w' L B r rest sh ∧ w.grownBy w' (some r)
/-- What octet's Num leaves. -/
def ONum (w : World) (L B r : Nat) (V : Int) (rest : List Int) (sh : Bool) (e : Ending) (w' : World) : Prop := e = .returned (.int .u64 V) ∧ Rd w' L B r rest sh ∧ w.grownBy w' (some r)

theorem obytes_no {w : World} {L B r : Nat} {k : Int} {zs : List Int} {sh : Bool} (h : Rd w L B r zs sh) (hk : k < 0 ∨ (zs.length : Int) < k) :
    Calls Try.prog 19 #[.pointer (some ⟨r, 0, none⟩), .int .i64 k] w (OBytes w L B r [] [] true) :=
  (bytes_no h hk).mono fun e w' ⟨h1, h2, h3⟩ => ⟨none, 0, h1, ⟨rfl, .inl ⟨rfl, rfl⟩⟩, h2, h3⟩
theorem obytes_yes {w : World} {L B r k : Nat} {zs : List Int} {sh : Bool} (h : Rd w L B r zs sh) (hB : B ≤ w.heap.size) (hk : k ≤ zs.length) (hl : zs.length ≤ 9223372036854775807) :
    Calls Try.prog 19 #[.pointer (some ⟨r, 0, none⟩), .int .i64 (k : Int)] w (OBytes w L B r (zs.take k) (zs.drop k) sh) :=
  (bytes_yes h hB hk).mono fun e w' ⟨h1, h2, h3, h4⟩ => by
    have hlen : (zs.take k).length = k := by rw [List.length_take]; omega
    refine ⟨some ⟨w.heap.size, 0, none⟩, k, by rw [hlen]; exact h1, ?_, h3, h4⟩
    rw [hlen]
    exact ⟨by simp; omega, .inr ⟨w.heap.size, k, _, rfl, Nat.le_refl _, h2, Nat.le_refl _, by unfold maxLen; omega, by simp; omega, by rw [List.take_of_length_le (by simp; omega)]⟩⟩

/-- Whatever number of bytes is asked for, both hand out the same, and stand alike. -/
theorem both_bytes {L B r L2 B2 s : Nat} {zs rest : List Int} {sh : Bool} {at_ : Nat} (hst : St zs rest sh at_) (hl : zs.length ≤ 9223372036854775807) (k : Int) :
    ∃ out rest' sh' at', (∀ z ∈ out, z ∈ zs) ∧ out.length ≤ zs.length ∧ St zs rest' sh' at' ∧
      (∀ W, Rd W L B r rest sh → B ≤ W.heap.size → Calls Try.prog 19 #[.pointer (some ⟨r, 0, none⟩), .int .i64 k] W (OBytes W L B r out rest' sh')) ∧
      (∀ W, RR W L2 B2 s zs at_ sh → B2 ≤ W.heap.size → Calls Try.prog 20 #[.pointer (some ⟨s, 0, none⟩), .int .i64 k] W (RBytes W L2 B2 s zs out at' sh')) := by
  obtain ⟨hat, hrest⟩ := hst
  cases sh
  · simp at hrest
    by_cases hk : 0 ≤ k ∧ k ≤ (zs.length : Int) - at_
    · obtain ⟨k', rfl⟩ : ∃ k' : Nat, k = k' := ⟨k.toNat, by omega⟩
      refine ⟨(zs.drop at_).take k', zs.drop (at_ + k'), false, at_ + k', fun z hz => List.mem_of_mem_drop (List.mem_of_mem_take hz), by simp; omega, ⟨by omega, by simp⟩, fun W h hB => ?_, fun W h hB => ?_⟩
      · have := obytes_yes (k := k') h hB (by rw [hrest]; simp; omega) (by rw [hrest]; simp; omega)
        rw [hrest, List.drop_drop] at this
        exact this
      · exact rbytes_yes h hB (by omega)
    · refine ⟨[], [], true, at_, (fun _ h => by cases h), Nat.zero_le _, ⟨hat, rfl⟩, fun W h hB => ?_, fun W h hB => ?_⟩
      · exact obytes_no h (by rw [hrest]; simp; omega)
      · exact rbytes_no h (by right; omega)
  · simp at hrest
    subst hrest
    refine ⟨[], [], true, at_, (fun _ h => by cases h), Nat.zero_le _, ⟨hat, rfl⟩, fun W h hB => ?_, fun W h hB => rbytes_no h (.inl rfl)⟩
    by_cases hk : k < 0 ∨ (([] : List Int).length : Int) < k
    · exact obytes_no h hk
    · simp at hk
      obtain rfl : k = ((0 : Nat) : Int) := by omega
      exact obytes_yes (k := 0) h hB (Nat.zero_le _) (by simp)

/-- Whatever number is asked for, both tell the same, and stand alike. -/
theorem both_num {L B r L2 B2 s : Nat} {zs rest : List Int} {sh : Bool} {at_ : Nat} (hst : St zs rest sh at_) (hl : zs.length ≤ 9223372036854775807) (k : Int) :
    ∃ V rest' sh' at', St zs rest' sh' at' ∧
      (∀ W, Rd W L B r rest sh → Calls Try.prog 21 #[.pointer (some ⟨r, 0, none⟩), .int .i64 k] W (ONum W L B r V rest' sh')) ∧
      (∀ W, RR W L2 B2 s zs at_ sh → Calls Try.prog 22 #[.pointer (some ⟨s, 0, none⟩), .int .i64 k] W (RNum W L2 B2 s zs V at' sh')) := by
  obtain ⟨hat, hrest⟩ := hst
  cases sh
  · simp at hrest
    by_cases hk : NoNum zs.length at_ k
    · refine ⟨0, [], true, at_, ⟨hat, rfl⟩, fun W h => ?_, fun W h => rnum_no h hk⟩
      unfold NoNum at hk
      exact (num_no h (by rw [hrest]; unfold NoNum; simp; omega)).mono fun e w' ⟨h1, h2, h3⟩ => ⟨h1, h2, h3.grown⟩
    · unfold NoNum at hk
      obtain ⟨k', rfl⟩ : ∃ k' : Nat, k = k' := ⟨k.toNat, by omega⟩
      refine ⟨numOf ((zs.drop at_).take k'), zs.drop (at_ + k'), false, at_ + k', ⟨by omega, by simp⟩, fun W h => ?_, fun W h => rnum_yes h (by omega) (by omega)⟩
      have := num_yes (k := k') h (by omega) (by rw [hrest]; simp; omega)
      rw [hrest, List.drop_drop] at this
      exact this.mono fun e w' ⟨h1, h2, h3⟩ => ⟨h1, h2, h3.grown⟩
  · simp at hrest
    subst hrest
    refine ⟨0, [], true, at_, ⟨hat, rfl⟩, fun W h => ?_, fun W h => ?_⟩
    · by_cases hk : NoNum ([] : List Int).length 0 k
      · exact (num_no h hk).mono fun e w' ⟨h1, h2, h3⟩ => ⟨h1, h2, h3.grown⟩
      · unfold NoNum at hk
        simp at hk
        obtain rfl : k = ((0 : Nat) : Int) := by omega
        exact (num_yes (k := 0) h (by omega) (Nat.zero_le _)).mono fun e w' ⟨h1, h2, h3⟩ => ⟨h1, h2, h3.grown⟩
    · by_cases hk : NoNum zs.length at_ k
      · exact rnum_no h hk
      · unfold NoNum at hk
        obtain ⟨k', rfl⟩ : ∃ k' : Nat, k = k' := ⟨k.toNat, by omega⟩
        exact rnum_bad h (by omega) (by omega)

/-- Both readers in one world; what was there before is as it was. -/
def J (w W : World) (L B r L2 B2 s : Nat) (zs rest : List Int) (sh : Bool) (at_ : Nat) (bad : Bool) : Prop :=
  Rd W L B r rest sh ∧ RR W L2 B2 s zs at_ bad ∧ Below w.heap.size w W ∧ B2 ≤ W.heap.size ∧ w.heap.size ≤ L ∧ B ≤ L2

section
variable {w W W' : World} {L B r L2 B2 s at_ at' : Nat} {zs rest rest' : List Int} {sh sh' bad bad' : Bool}
theorem J.first (h : J w W L B r L2 B2 s zs rest sh at_ bad) (hr : Rd W' L B r rest' sh') (hg : W.grownBy W' (some r)) : J w W' L B r L2 B2 s zs rest' sh' at_ bad := by
  obtain ⟨h1, h2, h3, h4, h5, h6⟩ := h
  have hb := hr.bounds
  exact ⟨hr, h2.keep (fun b h7 h8 => hg.block b (by omega) (fun e => by injection e with e; omega)), h3.trans (grown_below hg (by omega) h3.size), Nat.le_trans h4 hg.size, h5, h6⟩
theorem J.second (h : J w W L B r L2 B2 s zs rest sh at_ bad) (hr : RR W' L2 B2 s zs at' bad') (hg : W.grownBy W' (some s)) : J w W' L B r L2 B2 s zs rest sh at' bad' := by
  obtain ⟨h1, h2, h3, h4, h5, h6⟩ := h
  have hb := hr.bounds
  have hb1 := h1.bounds
  exact ⟨h1.keep (fun b h7 h8 => hg.block b (by omega) (fun e => by injection e with e; omega)), hr, h3.trans (grown_below hg (by omega) h3.size), Nat.le_trans h4 hg.size, h5, h6⟩
theorem J.later (h : J w W L B r L2 B2 s zs rest sh at_ bad) (hb : Below B2 W W') : J w W' L B r L2 B2 s zs rest sh at_ bad := by
  obtain ⟨h1, h2, h3, h4, h5, h6⟩ := h
  have hb2 := h2.bounds
  have hb1 := h1.bounds
  exact ⟨h1.keep (fun b h7 h8 => hb.block b (by omega)), h2.keep (fun b h7 h8 => hb.block b h8), h3.trans (hb.mono (by omega)), Nat.le_trans h4 hb.size, h5, h6⟩
theorem J.draw (h : J w W L B r L2 B2 s zs rest sh at_ bad) (m : Nat) : J w (W.drewN m) L B r L2 B2 s zs rest sh at_ bad := h.later ⟨rfl, rfl, rfl, Nat.le_refl _, fun _ _ => rfl⟩
end
end Go.Proofs.Ytigkikoogolkkaa
