/-
  'append(v, d...)', d a text, onto a row of bytes of the call's own.
-/
import Derived.Test.YtnligeelbajnpaaENum
import Derived.Test.YtnligeelbajnpaaApp
import Derived.Lib.AppendStr
namespace Go.Proofs.Ytnligeelbajnpaa
open Go.RowKit
set_option linter.unusedVariables false

theorem strCells_byt (d : ByteArray) : Lib.strCells d = (byt d).map (Value.int .u8) := by
  unfold Lib.strCells byt
  rw [List.map_map]; rfl
/-- 'append(v, d...)', d a text. -/
theorem wpList_apps (w : World) {ops : Array Oper} {rest : List Oper} {o : Oper} {a : Act} {Q : Exit → Act → World → Prop} (hgd : o.guard = none) (s x : Operand)
    (ho : o.op = .call { callee := .builtin .append, args := #[s, x], argTypes := #[49, 9] })
    (base : Nat) (v : Value) (n : Nat) (ys : List Int) (hs : a.eval s = v) (hown : w.ownsRow base 5 1 v n (ys.map (Value.int .u8)))
    (d : ByteArray) (hx : a.eval x = .string d) (hsz : n + d.size ≤ 140737488355328) (hbase : base ≤ w.heap.size)
    (h : ∀ v' w', w'.ownsRow base 5 1 v' (n + d.size) ((ys ++ byt d).map (Value.int .u8)) → w.grownBy w' v.ownBlock → wpList Try.prog ops Q rest (a.put o.dst v') w') :
    wpList Try.prog ops Q (o :: rest) a w := by
  obtain ⟨i0, hi, hz0, hz1, hz2⟩ := info_parts Try.info5
  refine Lib.wpList_append_own_string w hgd s x 49 9 ho base 5 i0 Try.underlying49 Try.underlying9 hi hz0 hz1 hz2 v n _ hs hown d hx (by unfold maxLen; omega) hsz hbase ?_
  intro v' w' h1 h2 _
  exact h v' w' (by rw [List.map_append, ← strCells_byt]; exact h1) h2
end Go.Proofs.Ytnligeelbajnpaa
