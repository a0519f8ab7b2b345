/-
  A struct of several cells stored at any place of a block that is known whole.
-/
import Derived.Test.YtlbkphnbpenbcaaTch
import Derived.Test.YtlbkphnbpenbcaaRows
import Derived.WalkKit
import Derived.Laws.CopyRow
import Derived.Laws.Tables
import Derived.Deep.RegionHeld
namespace Go.Proofs.Ytlbkphnbpenbcaa
open Go.RowKit
set_option linter.unusedVariables false

/-- What a block holds behind such a store. -/
structure Sta (w w' : World) (g off : Nat) (t : TypeId) (old cs : Array Value) : Prop where
  blk : ∃ cur, Blk w' g t cur ∧ cur.size = old.size ∧ (∀ p, (p < off ∨ off + cs.size ≤ p) → cur[p]? = old[p]?) ∧ ∀ k, k < cs.size → cur[off + k]? = cs[k]?
  tch : Tch w w' [g]
set_option maxRecDepth 100000 in
theorem wpo_sta {o : Oper} {a : Act} {w : World} {K : Act → World → Prop} {Q : Exit → Act → World → Prop} (ty : TypeId) (x y : Operand) (ho : o.op = .store ty x y)
    (g off : Nat) (cs : Array Value) (hx : a.eval x = .pointer (some ⟨g, off, none⟩)) (hy : a.eval y = .agg cs)
    (t : TypeId) (old : Array Value) (hB : Blk w g t old) (n : Nat) (hi : (Try.prog.info? ty).map (·.size) = some n) (hn : cs.size = n) (hl : off + n ≤ old.size) (h1 : ∀ v ∈ cs.toList, v.oneCell' = true)
    (h : ∀ w', Sta w w' g off t old cs → K (a.put o.dst undef) w') : o.wp Try.prog a w K Q := by
  have hs := run_storeCells_at (P := Try.prog) g off t cs.toList 0 old w hB (by simp; omega) h1
  have hv : (storeVar ty ⟨g, off, none⟩ (.agg cs)).run Try.prog w = .ok () (w.setRow g (old.toList.take (off + 0) ++ cs.toList ++ old.toList.drop (off + 0 + cs.toList.length)).toArray) := by
    cases hq : Try.prog.info? ty with
    | none => simp [hq] at hi
    | some i =>
      have hsz : cs.size = i.size := by simp [hq] at hi; omega
      simp [storeVar, sizeOf, typeInfo, hq, Value.cells, hsz, hs]
  unfold Oper.wp execOp
  simp only [ho, hx, hy, Instr.storeAt, Instr.sureAddr, Sem.run_bind, Sem.run_pure, Result.andThen_ok, hv]
  refine h _ ⟨⟨_, setRow_heap w g old _ t _ hB, by simp; omega, fun p hp => ?_, fun k hk => ?_⟩, ⟨rfl, rfl, rfl, by simp [World.setRow], fun k hk hn => setRow_other w g k _ (fun e => hn (by simp [e]))⟩⟩
  · simp only [Nat.add_zero, Array.length_toList, List.getElem?_toArray]
    rcases hp with hp | hp
    · rw [List.append_assoc, List.getElem?_append_left (by simp; omega), List.getElem?_take_of_lt hp, Array.getElem?_toList]
    · rw [List.getElem?_append_right (by simp; omega), List.getElem?_drop, Array.getElem?_toList]
      congr 1
      simp; omega
  · simp only [Nat.add_zero, Array.length_toList, List.getElem?_toArray]
    rw [List.getElem?_append_left (by simp; omega), List.getElem?_append_right (by simp; omega), Array.getElem?_toList]
    congr 1
    simp; omega
theorem wpList_sta {ops : Array Oper} {rest : List Oper} {o : Oper} {a : Act} {w : World} {Q : Exit → Act → World → Prop} (hgd : o.guard = none) (ty : TypeId) (x y : Operand) (ho : o.op = .store ty x y)
    (g off : Nat) (cs : Array Value) (hx : a.eval x = .pointer (some ⟨g, off, none⟩)) (hy : a.eval y = .agg cs)
    (t : TypeId) (old : Array Value) (hB : Blk w g t old) (n : Nat) (hi : (Try.prog.info? ty).map (·.size) = some n) (hn : cs.size = n) (hl : off + n ≤ old.size) (h1 : ∀ v ∈ cs.toList, v.oneCell' = true)
    (h : ∀ w', Sta w w' g off t old cs → wpList Try.prog ops Q rest (a.put o.dst undef) w') : wpList Try.prog ops Q (o :: rest) a w :=
  wpList_plain hgd fun _ hK => wpo_sta ty x y ho g off cs hx hy t old hB n hi hn hl h1 (fun w' hw => hK _ _ (h w' hw))
end Go.Proofs.Ytlbkphnbpenbcaa
