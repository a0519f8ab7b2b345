/-
  What a call may have touched: some blocks of memory, and what it made anew.
-/
import Derived.Test.YtlbkphnbpenbcaaWords
namespace Go.Proofs.Ytlbkphnbpenbcaa
open Go.RowKit
set_option linter.unusedVariables false

/-- Nothing else than the blocks S has turned. -/
structure Tch (w w' : World) (S : List Nat) : Prop where
  os : w'.os = w.os
  tape : w'.tape = w.tape
  output : w'.output = w.output
  size : w.heap.size ≤ w'.heap.size
  block : ∀ k, k < w.heap.size → k ∉ S → w'.heap[k]? = w.heap[k]?
section
variable {w w' w'' : World} {S T : List Nat} {B : Nat}
theorem Tch.below (h : Tch w w' S) (hB : B ≤ w.heap.size) (hS : ∀ s ∈ S, B ≤ s) : Below B w w' :=
  ⟨h.os, h.tape, h.output, h.size, fun k hk => h.block k (by omega) (fun hm => by have := hS k hm; omega)⟩
theorem Tch.of_below (S : List Nat) (h : Below w.heap.size w w') : Tch w w' S := ⟨h.os, h.tape, h.output, h.size, fun k hk _ => h.block k hk⟩
theorem Tch.refl (w : World) (S : List Nat) : Tch w w S := .of_below S (Below.refl _ _)
theorem Tch.trans (h : Tch w w' S) (k : Tch w' w'' S) : Tch w w'' S :=
  ⟨k.os.trans h.os, k.tape.trans h.tape, k.output.trans h.output, Nat.le_trans h.size k.size, fun i hi hn => (k.block i (Nat.lt_of_lt_of_le hi h.size) hn).trans (h.block i hi hn)⟩
theorem Tch.mono (h : Tch w w' S) (hs : ∀ s ∈ S, s ∈ T) : Tch w w' T := ⟨h.os, h.tape, h.output, h.size, fun k hk hn => h.block k hk (fun hm => hn (hs k hm))⟩
theorem Tch.of_grown {g : Nat} (h : w.grownBy w' (some g)) (hg : g ∈ S) : Tch w w' S :=
  ⟨h.os, h.tape, h.output, h.size, fun k hk hn => h.block k hk (fun e => by injection e with e; subst e; exact hn hg)⟩
theorem Tch.set_ (h : Tch w w' S) {p : Addr} (hp : p.block ∈ S) (u : Value) : Tch w (w'.setCell p u) S :=
  ⟨h.os, h.tape, h.output, by rw [World.size_setCell]; exact h.size, fun k hk hn => (Below.heap_setCell w' p u k (fun e => by subst e; exact hn hp)).trans (h.block k hk hn)⟩
theorem Tch.alloc (h : Tch w w' S) (o : Obj) : Tch w (w'.alloc o) S :=
  ⟨h.os, h.tape, h.output, by rw [World.size_alloc]; have := h.size; omega, fun k hk hn => (Below.heap_alloc w' o k (by have := h.size; omega)).trans (h.block k hk hn)⟩
theorem Tch.drew (h : Tch w w' S) : Tch w w'.drew S := ⟨h.os, h.tape, h.output, h.size, h.block⟩
theorem Tch.drewN (h : Tch w w' S) (n : Nat) : Tch w (w'.drewN n) S := ⟨h.os, h.tape, h.output, h.size, h.block⟩
theorem Tch.of_drew {a b : World} {S : List Nat} (h : Tch a.drew b S) : Tch a b S := ⟨h.os, h.tape, h.output, h.size, h.block⟩
theorem Tch.of_drews {a b : World} {S : List Nat} (h : Tch a.drew.drew b S) : Tch a b S := ⟨h.os, h.tape, h.output, h.size, h.block⟩
theorem Tch.cell (h : Tch w w' S) {p : Addr} (hp : p.block < w.heap.size) (hn : p.block ∉ S) : w'.cell? p = w.cell? p := by
  unfold World.cell?
  rw [h.block _ hp hn]
theorem Tch.blk {g : Nat} {t : TypeId} {cs : Array Value} (h : Tch w w' S) (hb : Blk w g t cs) (hn : g ∉ S) : Blk w' g t cs := (h.block g hb.lt hn).trans hb
theorem Tch.own {base e size n : Nat} {v : Value} {xs : List Value} (h : Tch w w' S) (ho : w.ownsRow base e size v n xs) (hn : ∀ g, v.ownBlock = some g → g ∉ S) : w'.ownsRow base e size v n xs := by
  refine ⟨ho.1, ?_⟩
  rcases ho.2 with hv | ⟨g, cap, cur, rfl, hb, hgg, rest⟩
  · exact .inl hv
  · exact .inr ⟨g, cap, cur, rfl, hb, (h.block g (Array.getElem?_eq_some_iff.1 hgg).1 (hn g rfl)).trans hgg, rest⟩
end
/-- The same, where what is touched behind lies in S or was made since. -/
theorem Tch.trans_fre {w w' w'' : World} {S T : List Nat} (h : Tch w w' S) (ht : Tch w' w'' T) (hs : ∀ t ∈ T, t ∈ S ∨ w.heap.size ≤ t) : Tch w w'' S :=
  ⟨ht.os.trans h.os, ht.tape.trans h.tape, ht.output.trans h.output, Nat.le_trans h.size ht.size, fun k hk hn => (ht.block k (Nat.lt_of_lt_of_le hk h.size) (fun hm => by
    rcases hs k hm with h1 | h1
    · exact hn h1
    · omega)).trans (h.block k hk hn)⟩
theorem nin2 {a b c : Nat} (h1 : a ≠ b) (h2 : a ≠ c) : a ∉ [b, c] := by simp; exact ⟨h1, h2⟩
/-- What a call leaves of the blocks S: they become S', the others are as they were. -/
structure Goes (w w' : World) (S S' : List Nat) : Prop where
  tch : Tch w w' S
  fre : ∀ s ∈ S', s ∈ S ∨ w.heap.size ≤ s
theorem Goes.of_tch {w w' : World} {S : List Nat} (h : Tch w w' S) : Goes w w' S S := ⟨h, fun s hs => .inl hs⟩
theorem Goes.below {w w' : World} {S S' : List Nat} {B : Nat} (h : Goes w w' S S') (hB : B ≤ w.heap.size) (hS : ∀ s ∈ S, B ≤ s) : Below B w w' ∧ ∀ s ∈ S', B ≤ s :=
  ⟨h.tch.below hB hS, fun s hs => by rcases h.fre s hs with h1 | h1; exact hS s h1; omega⟩
end Go.Proofs.Ytlbkphnbpenbcaa
