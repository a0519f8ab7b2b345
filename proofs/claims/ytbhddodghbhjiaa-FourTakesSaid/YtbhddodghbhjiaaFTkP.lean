/-
  ip4.Take of any text.
-/
import Derived.Test.YtbhddodghbhjiaaFNm
import Derived.Test.YtbhddodghbhjiaaFConv
import Derived.Test.YtbhddodghbhjiaaFCl
import Derived.Test.YtbhddodghbhjiaaTOne
import Derived.Laws.Tables
namespace Go.Proofs.Ytbhddodghbhjiaa
open Go.RowKit
set_option linter.unusedVariables false

theorem nmP_take {l : List Int} {m : Nat} (h : 20 ≤ m) : nmP (l.take m) = nmP l := by
  unfold nmP
  rw [nAt_take (by omega), nAt_take (by omega), nAt_take (by omega), nAt_take (by omega), nAt_take (by omega), nAt_take (by omega), nAt_take (by omega)]
theorem pkS_nm (s : ByteArray) : pkS s = { nmP (byt s) with o := s.extract 20 (hdL s), d := s.extract (hdL s) (tlN s) } := rfl
theorem tk_sz {s : ByteArray} (h : (szR s).2 ≠ 0) : tkR s = (noPk, (szR s).2) := by
  unfold szR at h ⊢
  unfold tkR
  by_cases h1 : s.size < 20
  · rw [if_pos h1, if_pos h1]
  rw [if_neg h1] at h ⊢
  rw [if_neg h1]
  by_cases h2 : f1N s < 69 ∨ 79 < f1N s
  · rw [if_pos h2, if_pos h2]
  rw [if_neg h2] at h ⊢
  rw [if_neg h2]
  by_cases h3 : s.size < hdL s
  · rw [if_pos h3, if_pos h3]
  rw [if_neg h3] at h
  exact absurd rfl h
theorem sz_ok {s : ByteArray} (h : (szR s).2 = 0) : (szR s).1 = ((hdL s : Nat) : Int) ∧ 20 ≤ hdL s ∧ hdL s ≤ 60 ∧ hdL s ≤ s.size ∧ tkR s =
    (if fo (tot 0 ((byt s).take (hdL s))) ≠ 65535 then (noPk, 52) else if tlN s < hdL s ∨ 32768 ≤ ptN s then (noPk, 50) else if s.size < tlN s then (noPk, 51) else if opB (s.extract 20 (hdL s)) = false then (noPk, 50) else (pkS s, 0)) := by
  unfold szR at h ⊢
  unfold tkR
  by_cases h1 : s.size < 20
  · rw [if_pos h1] at h; cases h
  rw [if_neg h1] at h ⊢
  rw [if_neg h1]
  by_cases h2 : f1N s < 69 ∨ 79 < f1N s
  · rw [if_pos h2] at h; cases h
  rw [if_neg h2] at h ⊢
  rw [if_neg h2]
  by_cases h3 : s.size < hdL s
  · rw [if_pos h3] at h; cases h
  rw [if_neg h3, if_neg h3]
  refine ⟨rfl, ?_, ?_, by omega, rfl⟩ <;> unfold hdL <;> omega
/-- A packet stored whole into a variable. -/
theorem wpList_st15 {ops : Array Oper} {rest : List Oper} {o : Oper} {a : Act} {w : World} {Q : Exit → Act → World → Prop} (hgd : o.guard = none) (x y : Operand) (ho : o.op = .store 27 x y)
    (g : Nat) (cells old : Array Value) (hx : a.eval x = .pointer (some ⟨g, 0, none⟩)) (hy : a.eval y = .agg cells) (hB : Blk w g 27 old) (h0 : old.size = 15) (hc : cells.size = 15) (h1 : cells.all (·.oneCell') = true)
    (h : ∀ w', Blk w' g 27 cells → Below g w w' → wpList Try.prog ops Q rest (a.put o.dst undef) w') : wpList Try.prog ops Q (o :: rest) a w := by
  have hi : (Try.prog.info? 27).map (·.size) = some 15 := by kernel_rfl
  refine wpList_store_row hgd 27 x y ho g cells hx hy 27 old hB (by rw [hc]; exact hi) (by omega) h1 ?_
  exact h _ (setRow_heap w g old cells 27 _ hB) ⟨rfl, rfl, rfl, by simp [World.setRow], fun k hk => setRow_other w g k cells (by omega)⟩
theorem ret_pk {p q : Pk} {a b : Int} (h : (p, a) = (q, b)) : Ending.returned (.tuple #[p.val, .int .i64 a]) = .returned (.tuple #[q.val, .int .i64 b]) := by injection h with h1 h2; rw [h1, h2]
end Go.Proofs.Ytbhddodghbhjiaa
