/-
  What octet's Reader answers to Bytes to Left and to Short.
-/
import Derived.Test.YtnligeelbajnpaaReader
namespace Go.Proofs.Ytnligeelbajnpaa
open Go.RowKit
set_option linter.unusedVariables false

set_option maxHeartbeats 400000 in
theorem left_any {w : World} {L B r : Nat} {zs : List Int} {sh : Bool} (h : Rd w L B r zs sh) :
    Calls Try.prog 23 #[.pointer (some ⟨r, 0, none⟩)] w fun e w' => e = .returned (.int .i64 (zs.length : Int)) ∧ w = w' := by
  obtain ⟨A, n, c, hb, hr, hL, h1, h2, h3, h4⟩ := h
  have c0 : w.cell? ⟨r, 0, none⟩ = some (.slice A n c) := (hb.cell 0).trans (by simp)
  rw [hr.1]
  clear hb hr hL
  go_enter Try.func23, Try.ntmps23
  go_wp2
  go_ret
  exact ⟨rfl, rfl⟩

set_option maxHeartbeats 400000 in
theorem short_any {w : World} {L B r : Nat} {zs : List Int} {sh : Bool} (h : Rd w L B r zs sh) :
    Calls Try.prog 25 #[.pointer (some ⟨r, 0, none⟩)] w fun e w' => e = .returned (.bool sh) ∧ w = w' := by
  obtain ⟨A, n, c, hb, hr, hL, h1, h2, h3, h4⟩ := h
  have c0 : w.cell? ⟨r, 1, none⟩ = some (.bool sh) := (hb.cell 1).trans (by simp)
  clear hb hr hL
  go_enter Try.func25, Try.ntmps25
  go_wp2
  go_ret
  exact ⟨rfl, rfl⟩

set_option maxHeartbeats 1000000 in
theorem bytes_yes {w : World} {L B r k : Nat} {zs : List Int} {sh : Bool} (h : Rd w L B r zs sh) (hB : B ≤ w.heap.size) (hk : k ≤ zs.length) :
    Calls Try.prog 26 #[.pointer (some ⟨r, 0, none⟩), .int .i64 k] w fun e w' => e = .returned (.slice (some ⟨w.heap.size, 0, none⟩) k k) ∧ Blk w' w.heap.size 5 (((zs.take k).map (Value.int .u8)).toArray) ∧ Rd w' L B r (zs.drop k) sh ∧ w.grownBy w' (some r) := by
  obtain ⟨A, n, c, hb, hr, hL, h1, h2, h3, h4⟩ := h
  have c0 : w.cell? ⟨r, 0, none⟩ = some (.slice A n c) := (hb.cell 0).trans (by simp)
  have hn := hr.1
  have hkn : k ≤ n := by omega
  have hmk := make_nat k (by omega) w
  obtain ⟨A', hA'⟩ : ∃ A', A' = (if c = k then A else A.map (·.add k)) := ⟨_, rfl⟩
  have hsl := fun w => slice_from w A n c k hkn h1
  simp only [← hA'] at hsl
  obtain ⟨w1, hw1⟩ : ∃ w1, w1 = w.alloc (.cells (madeCells #[.int .u8 0] k) 5) := ⟨_, rfl⟩
  have HG : Hid (w1.heap[w.heap.size]? = some (.cells (List.replicate k (Value.int .u8 0)).toArray 5 (0, 0))) := by
    show _ = _
    rw [hw1, heap_alloc_new, made_list]
  have HB : Below w.heap.size w w1 := by rw [hw1]; exact (Below.refl _ _).alloc (Nat.le_refl _) _
  have C1 : Hid (((zs.take k).map (Value.int .u8)).length = Nat.min n k) := by
    show _ = _
    simp only [List.length_map, List.length_take]; rw [← hn, Nat.min_comm]; try rfl
  have C2 : Hid (0 < ((zs.take k).map (Value.int .u8)).length → (some (⟨w.heap.size, 0, none⟩ : Addr) = some ⟨w.heap.size, 0, none⟩) ∧ ∃ ad, A = some ad ∧ ∀ j v, ((zs.take k).map (Value.int .u8))[j]? = some v → w1.cell? (ad.add j) = some v) := by
    intro hl
    obtain ⟨e, ad, ea, hc⟩ := cs_at (hr.below (HB.mono hB)) w.heap.size (by simp at hl ⊢; try omega)
    refine ⟨e, ad, ea, fun j v hv => hc j v ?_⟩
    rw [List.getElem?_map, Option.map_eq_some_iff] at hv ⊢
    obtain ⟨z, hz, rfl⟩ := hv
    rw [List.getElem?_take] at hz
    split at hz
    · exact ⟨z, hz, rfl⟩
    · cases hz
  have C3 : Hid (0 + ((zs.take k).map (Value.int .u8)).length ≤ (List.replicate k (Value.int .u8 0)).length) := by
    show _ ≤ _
    simp; omega
  obtain ⟨cs, hcs⟩ : ∃ cs, cs = (zs.take k).map (Value.int .u8) := ⟨_, rfl⟩
  have C4 : Hid (∀ u ∈ cs, u.oneCell' = true) := by rw [hcs]; exact bytes_oneCell
  have HS : Hid (splice (List.replicate k (Value.int .u8 0)) 0 cs = cs) := by
    rw [hcs]; exact splice_all k (zs.take k) (by simp; omega)
  have hrl := hb.lt
  have R : Hid (∀ w2 : World, Below w.heap.size w w2 → Rd (w2.setCell ⟨r, 0, none⟩ (.slice A' (n - k) (c - k))) L B r (zs.drop k) sh) := fun w2 hb2 => by
    have hb' := hb.below hb2 hrl
    exact ⟨A', n - k, c - k, by simpa using hb'.set_ 0 (.slice A' (n - k) (c - k)), by rw [hA']; exact ((hr.below (hb2.mono hB)).own_store hb' (fun _ _ h => by cases h)).cut hkn h1,
      (fun x hx => by
        rw [hA'] at hx
        split at hx
        · exact hL x hx
        · obtain ⟨y, hy, rfl⟩ := Option.map_eq_some_iff.1 hx
          rw [block_of_add]; exact hL y hy), by omega, by omega, h3, h4⟩
  have F : Hid (∀ w2 : World, Below w.heap.size w w2 → w2.frozen? ⟨r, 0, none⟩ = false ∧ w2.cell? ⟨r, 0, none⟩ = some (.slice A n c)) := fun w2 hb2 => by
    have hb' := hb.below hb2 hrl
    exact ⟨hb'.frozen 0, (hb'.cell 0).trans (by simp)⟩
  have c01 := (F.out w1 HB).2
  have hne : Hid (r ≠ w.heap.size) := by show _ ≠ _; omega
  rw [← hcs] at C1 C2 C3
  have HC := Lib.hid hcs
  rw [← hw1] at hmk
  clear hw1 hb hr hL hn hA' hcs hk
  go_enter Try.func26, Try.ntmps26
  go_wp2_with (with_reducible refine wpList_copy_splice rfl (.tmp 21) (.tmp 25) 49 49 rfl 5 Try.underlying49 (by kernel_rfl) _ _ _ _ _ _ rfl rfl w.heap.size 0 (List.replicate k (Value.int .u8 0)) 5 HG.out cs C1.out C2.out C3.out C4.out w.heap.size w HB (Nat.le_refl _) ?_; intro w2 HG2 HB2; obtain ⟨f2, c2⟩ := F.out w2 HB2)
  go_ret
  refine ⟨rfl, ?_, R.out _ HB2, grown_set (below_grown HB2 _) _ _⟩
  have h5 : Blk w2 w.heap.size 5 cs.toArray := by have := HG2.out; rwa [HS.out] at this
  rw [← List.map_take, ← HC.out]
  exact h5.far (p := ⟨r, 0, none⟩) (fun e => hne.out e.symm) _

set_option maxHeartbeats 400000 in
theorem bytes_no {w : World} {L B r : Nat} {k : Int} {zs : List Int} {sh : Bool} (h : Rd w L B r zs sh) (hk : k < 0 ∨ (zs.length : Int) < k) :
    Calls Try.prog 26 #[.pointer (some ⟨r, 0, none⟩), .int .i64 k] w fun e w' => e = .returned (.slice none 0 0) ∧ Rd w' L B r [] true ∧ w.grownBy w' (some r) := by
  have hcut := cut_any h
  have R := Lib.hid h.cut
  obtain ⟨A, n, c, hb, hr, hL, h1, h2, h3, h4⟩ := h
  have c0 : w.cell? ⟨r, 0, none⟩ = some (.slice A n c) := (hb.cell 0).trans (by simp)
  rw [hr.1] at hk
  have hC := Lib.hid hcut
  clear hb hr hL hcut
  by_cases h0 : k < 0
  · clear hk
    go_enter Try.func26, Try.ntmps26
    go_wp2_with (first | (go_at_call 36; refine (Calls.mono hC.out ?_); rintro e w' ⟨rfl, rfl⟩))
    go_ret
    exact ⟨rfl, R.out, (Only.cut _ _).grown⟩
  · have hk' : (n : Int) < k := by omega
    clear hk
    go_enter Try.func26, Try.ntmps26
    go_wp2_with (first | (go_at_call 36; refine (Calls.mono hC.out ?_); rintro e w' ⟨rfl, rfl⟩))
    go_ret
    exact ⟨rfl, R.out, (Only.cut _ _).grown⟩

end Go.Proofs.Ytnligeelbajnpaa
