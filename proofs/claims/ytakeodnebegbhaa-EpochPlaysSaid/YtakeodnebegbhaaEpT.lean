/-
  The program's epoch and the document's side by side (layer 13).
-/
import Derived.Test.YtakeodnebegbhaaEpW
namespace Go.Proofs.Ytakeodnebegbhaa
open Go.RowKit
set_option linter.unusedVariables false

/-- Both epochs in a law that began at w: the program's r with its blocks S1, the document's d with S2. -/
structure Two (w wr : World) (r : Nat) (S1 : List Nat) (d : Nat) (S2 : List Nat) (al1 in1 al2 in2 : List Int) : Prop where
  ep : EpP wr r S1 al1 in1
  ed : EpD wr d S2 al2 in2
  bel : Below w.heap.size w wr
  ab1 : ∀ s ∈ S1, w.heap.size ≤ s
  ab2 : ∀ s ∈ S2, w.heap.size ≤ s
  dis : ∀ s ∈ S1, s ∉ S2
section
variable {w wr w' : World} {r d : Nat} {S1 S2 S' T : List Nat} {al1 in1 al2 in2 a' i' : List Int}
theorem Two.goP (h : Two w wr r S1 d S2 al1 in1 al2 in2) (hE : EpP w' r S' a' i') (hg : Goes wr w' S1 S') : Two w w' r S' d S2 a' i' al2 in2 := by
  have k := hg.below h.bel.size h.ab1
  refine ⟨hE, h.ed.tch hg.tch (fun s hs hm => h.dis s hm hs), h.bel.trans k.1, k.2, h.ab2, fun s hs hm => ?_⟩
  rcases hg.fre s hs with h1 | h1
  · exact h.dis s h1 hm
  · have := h.ed.lt s hm; omega
theorem Two.goD (h : Two w wr r S1 d S2 al1 in1 al2 in2) (hE : EpD w' d S' a' i') (hg : Goes wr w' S2 S') : Two w w' r S1 d S' al1 in1 a' i' := by
  have k := hg.below h.bel.size h.ab2
  refine ⟨h.ep.tch hg.tch h.dis, hE, h.bel.trans k.1, h.ab1, k.2, fun s hs hm => ?_⟩
  rcases hg.fre s hm with h1 | h1
  · exact h.dis s hs h1
  · have := h.ep.lt s hs; omega
theorem Two.far (h : Two w wr r S1 d S2 al1 in1 al2 in2) (ht : Tch wr w' T) (h1 : ∀ s ∈ T, s ∉ S1 ∧ s ∉ S2 ∧ w.heap.size ≤ s) : Two w w' r S1 d S2 al1 in1 al2 in2 :=
  ⟨h.ep.tch ht (fun s hs hm => (h1 s hm).1 hs), h.ed.tch ht (fun s hs hm => (h1 s hm).2.1 hs), h.bel.trans (ht.below h.bel.size (fun s hs => (h1 s hs).2.2)), h.ab1, h.ab2, h.dis⟩
theorem Goes.inl (h : Goes wr w' S1 S') : Goes wr w' (S1 ++ S2) (S' ++ S2) := ⟨h.tch.mono (fun s hs => by simp [hs]), fun s hs => by
  rcases List.mem_append.1 hs with h1 | h1
  · rcases h.fre s h1 with h2 | h2
    · exact .inl (by simp [h2])
    · exact .inr h2
  · exact .inl (by simp [h1])⟩
theorem Goes.inr (h : Goes wr w' S2 S') : Goes wr w' (S1 ++ S2) (S1 ++ S') := ⟨h.tch.mono (fun s hs => by simp [hs]), fun s hs => by
  rcases List.mem_append.1 hs with h1 | h1
  · exact .inl (by simp [h1])
  · rcases h.fre s h1 with h2 | h2
    · exact .inl (by simp [h2])
    · exact .inr h2⟩
end
/-- A row of the law's own, none of S, made behind B. -/
structure Kp (w : World) (B : Nat) (S : List Nat) (A : Option Addr) (c n : Nat) (xs : List Int) : Prop where
  own : w.ownsRow B 3 1 (.slice A n c) n (ints xs)
  non : ∀ g, A = some ⟨g, 0, none⟩ → g ∉ S
section
variable {w w' : World} {B c n : Nat} {S S' T : List Nat} {A : Option Addr} {xs : List Int}
theorem Kp.len (h : Kp w B S A c n xs) : xs.length = n := by have := h.own.1; rw [ints_len] at this; omega
theorem Kp.sl (h : Kp w B S A c n xs) : SlI w A n xs := SlI.of_own h.own
theorem Kp.blk (h : Kp w B S A c n xs) (hn : 0 < n) : ∃ g, A = some ⟨g, 0, none⟩ ∧ B ≤ g ∧ g < w.heap.size := by
  obtain ⟨A', c', e, -, h1⟩ := own_sl h.own
  injection e with e1 e2 e3
  subst e1
  obtain ⟨g, e, h2, h3, -⟩ := h1 hn
  exact ⟨g, e, h2, h3⟩
theorem Kp.go (h : Kp w B S A c n xs) (hg : Goes w w' S S') : Kp w' B S' A c n xs :=
  ⟨hg.tch.own h.own (fun k hk => by
    obtain ⟨A', c', e, -, -⟩ := own_sl h.own
    rcases A with _ | ad
    · simp [Value.ownBlock] at hk
    · rcases h.own.2 with ⟨e2, -⟩ | ⟨g, cap, cur, e2, -⟩
      · cases e2
      · injection e2 with e3
        injection e3 with e3
        subst e3
        simp [Value.ownBlock] at hk
        subst hk
        exact h.non _ rfl), fun g hg' hm => by
    have hl : g < w.heap.size := (h.own.lt g (by rw [hg']; rfl)).2
    rcases hg.fre g hm with h1 | h1
    · exact h.non g hg' h1
    · omega⟩
theorem Kp.tch0 (h : Kp w B S A c n xs) (ht : Tch w w' []) : Kp w' B S A c n xs := h.go ⟨ht.mono (by simp), fun s hs => .inl hs⟩
theorem Kp.set_ {g k : Nat} (h : Kp w B S A c n xs) (hA : A = some ⟨g, 0, none⟩) (hk : k < n) (z : Int) : Kp (w.setCell ⟨g, k, none⟩ (.int .i64 z)) B S A c n (xs.set k z) := by
  subst hA
  refine ⟨?_, h.non⟩
  rw [show ints (xs.set k z) = (ints xs).set k (.int .i64 z) by simp [ints, List.map_set]]
  exact own_set1 h.own hk _
end
theorem NewR.kp {w wr w4 : World} {S1 S2 : List Nat} {A : Option Addr} {c n : Nat} {xs : List Int} (h : NewR wr w4 S1 A c xs) (hn : xs.length = n) (h2 : ∀ s ∈ S2, s < wr.heap.size) (hw : w.heap.size ≤ wr.heap.size) : Kp w4 w.heap.size (S1 ++ S2) A c n xs := by
  subst hn
  exact ⟨own_mono h.own hw, fun g hg hm => by
    rcases List.mem_append.1 hm with h1 | h1
    · exact h.non g hg h1
    · have h3 := own_basek h.own g (by rw [hg]; rfl)
      have := h2 g h1
      omega⟩
theorem NewR.kpD {w wr w4 : World} {S1 S2 : List Nat} {A : Option Addr} {c n : Nat} {xs : List Int} (h : NewR wr w4 S2 A c xs) (hn : xs.length = n) (h2 : ∀ s ∈ S1, s < wr.heap.size) (hw : w.heap.size ≤ wr.heap.size) : Kp w4 w.heap.size (S1 ++ S2) A c n xs := by
  subst hn
  exact ⟨own_mono h.own hw, fun g hg hm => by
    rcases List.mem_append.1 hm with h1 | h1
    · have h3 := own_basek h.own g (by rw [hg]; rfl)
      have := h2 g h1
      omega
    · exact h.non g hg h1⟩
end Go.Proofs.Ytakeodnebegbhaa
