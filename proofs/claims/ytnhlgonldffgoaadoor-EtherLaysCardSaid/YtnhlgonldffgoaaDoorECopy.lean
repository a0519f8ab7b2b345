/-
  'copy' into a row of bytes that is known whole, as a step of a region in an open order; the pieces of an ARP message.
-/
import Derived.Test.YtnhlgonldffgoaaDoorEArp
import Derived.Test.YtnhlgonldffgoaaDoorEEnv
import Derived.Test.YtnhlgonldffgoaaDoorPut
import Derived.Test.YtnhlgonldffgoaaDoorReader
import Derived.Laws.CopyOwn
import Derived.Deep.MidRow
namespace Go.Proofs.YtnhlgonldffgoaaDoor
open Go.RowKit
set_option linter.unusedVariables false

theorem splice_map {α β : Type} (f : α → β) (L M : List α) (i : Nat) : splice (L.map f) i (M.map f) = (splice L i M).map f := by
  simp [splice, List.map_take, List.map_drop]
theorem only_row (w : World) (g : Nat) (cs : Array Value) : Only w (w.setRow g cs) g := ⟨rfl, rfl, rfl, by simp [World.setRow], fun k hk => setRow_other w g k cs hk⟩
theorem Blk.only2 {w w' : World} {g r : Nat} {t : TypeId} {cs : Array Value} (h : Blk w g t cs) (ho : Only w w' r) (hne : g ≠ r) : Blk w' g t cs := (ho.2.2.2.2 g hne).trans h
/-- 'copy' of bytes zs over a row bs from place off on. -/
theorem step_copy_lay {ops : Array Oper} {o : Oper} {a : Act} {w : World} {K : Act → World → Prop} {Q : Exit → Act → World → Prop} {E : Prop} (hgd : o.guard = none) (d s : Operand)
    (ho : o.op = .call { callee := .builtin .copy, args := #[d, s], argTypes := #[30, 30] }) (dLen dCap n sCap g off r : Nat) (bs zs : List Int)
    (hd : a.eval d = .slice (some ⟨g, off, none⟩) dLen dCap) (hs : a.eval s = .slice (some ⟨r, 0, none⟩) n sCap) (hz : zs.length = n)
    (hg : Blk w g 5 ((bs.map (Value.int .u8)).toArray)) (hr : Blk w r 5 ((zs.map (Value.int .u8)).toArray)) (hle : n ≤ dLen) (hfit : off + n ≤ bs.length)
    (h : ∀ w', Hid (Blk w' g 5 (((splice bs off zs).map (Value.int .u8)).toArray)) → Only w w' g → K (a.put o.dst (goInt n)) w') :
    if Region.wanted o (yielded ops a.tmps) = true then Oper.wp Tryd.prog o a w K Q else E := by
  have hw : Region.wanted o (yielded ops a.tmps) = true := by simp [Region.wanted, hgd]
  rw [if_pos hw]
  have hrun := run_copy_row (P := Tryd.prog) w 30 30 o.type 5 g off dLen dCap ⟨r, 0, none⟩ n sCap ((bs.map (Value.int .u8)).toArray) 5 (zs.map (Value.int .u8)) Tryd.underlying30 (by kernel_rfl) hg (by rw [List.length_map, hz]; exact (Nat.min_eq_left hle).symm)
    (fun j v hj => by
      have := hr.cell j
      rw [List.getElem?_toArray, hj] at this
      simp only [Addr.add]
      split
      · rename_i h0; subst h0; exact this
      · rw [Nat.zero_add]; exact this) (by simp [hz]; omega) bytes_oneCell
  unfold Oper.wp
  simp [execOp, ho, resolve, invoke, builtin, hd, hs, hrun, Result.andThen]
  have hq := h (w.setRow g ((splice bs off zs).map (Value.int .u8)).toArray) (Lib.hid (by
    have := setRow_heap w g _ (((splice bs off zs).map (Value.int .u8)).toArray) _ _ hg
    exact this)) (only_row w g _)
  have e : ((splice bs off zs).map (Value.int .u8)).toArray = ((bs.map (Value.int .u8)).toArray.toList.take off ++ (zs.map (Value.int .u8)) ++ (bs.map (Value.int .u8)).toArray.toList.drop (off + (zs.map (Value.int .u8)).length)).toArray := by
    rw [← splice_map]; simp [splice]
  rw [e] at hq
  rw [Oper.upon_value]
  simpa [hz] using hq

/-- The numbers of a message with their widths, in their order. -/
def pcs (op fm l tm l' : Int) : List (Nat × Int) := [(2, 1), (2, 2048), (1, 6), (1, 4), (2, op), (6, fm), (4, l), (6, tm), (4, l')]
def catP : List (Nat × Int) → List Int
  | [] => []
  | p :: r => putOf p.1 p.2 ++ catP r
def sumP : List (Nat × Int) → Nat
  | [] => 0
  | p :: r => p.1 + sumP r
theorem catP_len : ∀ ps, (catP ps).length = sumP ps
  | [] => rfl
  | p :: r => by simp [catP, sumP, putOf_len, catP_len r]
theorem catP_by : ∀ ps, By (catP ps)
  | [] => fun _ h => by cases h
  | p :: r => (putOf_by _ _).app (catP_by r)
theorem catP_snoc : ∀ (ps : List (Nat × Int)) (p : Nat × Int), catP (ps ++ [p]) = catP ps ++ putOf p.1 p.2
  | [], p => by simp [catP]
  | q :: r, p => by simp [catP, catP_snoc r p]
/-- What is laid behind j numbers. -/
def arJ (ps : List (Nat × Int)) (j : Nat) : List Int := catP (ps.take j) ++ List.replicate (28 - sumP (ps.take j)) 0
theorem splice_zeros (A B : List Int) (m : Nat) (h : B.length ≤ m) : splice (A ++ List.replicate m 0) A.length B = A ++ B ++ List.replicate (m - B.length) 0 := by
  simp [splice]
theorem arJ_step (ps : List (Nat × Int)) (j : Nat) (p : Nat × Int) (hp : ps[j]? = some p) (hs : sumP (ps.take j) + p.1 ≤ 28) : splice (arJ ps j) (sumP (ps.take j)) (putOf p.1 p.2) = arJ ps (j + 1) := by
  have e1 : ps.take (j + 1) = ps.take j ++ [p] := by rw [List.take_add_one, hp]; rfl
  have e2 : ∀ (qs : List (Nat × Int)), sumP (qs ++ [p]) = sumP qs + p.1 := by
    intro qs; rw [← catP_len, catP_snoc, List.length_append, putOf_len, catP_len]
  unfold arJ
  rw [e1, catP_snoc, e2]
  have := splice_zeros (catP (ps.take j)) (putOf p.1 p.2) (28 - sumP (ps.take j)) (by rw [putOf_len]; omega)
  rw [catP_len, putOf_len] at this
  rw [this, show 28 - (sumP (ps.take j) + p.1) = 28 - sumP (ps.take j) - p.1 by omega]
theorem arJ_len (ps : List (Nat × Int)) (j : Nat) (h : sumP (ps.take j) ≤ 28) : (arJ ps j).length = 28 := by
  unfold arJ; rw [List.length_append, catP_len, List.length_replicate]; omega
theorem arJ_all (op fm l tm l' : Int) : arJ (pcs op fm l tm l') 9 = arL op fm l tm l' := by
  have e : putOf 2 1 ++ (putOf 2 2048 ++ (putOf 1 6 ++ (putOf 1 4 : List Int))) = [0, 1, 8, 0, 6, 4] := by decide
  show (catP (pcs op fm l tm l')) ++ List.replicate 0 0 = _
  simp only [catP, pcs, List.replicate_zero, List.append_nil, arL]
  rw [← e]
  simp
theorem pcs_at (op fm l tm l' : Int) (j : Nat) (hj : j < 9) : ∃ a k : Nat, ∃ v, plc[j]? = some ((a : Int), (k : Int)) ∧ (pcs op fm l tm l')[j]? = some (k, v) ∧ [1, 2048, 6, 4, op, fm, l, tm, l'][j]? = some v ∧ sumP ((pcs op fm l tm l').take j) = a ∧ a + k ≤ 28 ∧ k ≤ 8 ∧ 0 < k ∧ a < 28 ∧
    ∀ W : World, (Instr.index 94 (.agg plcCells) (.int .i64 (j : Int))).run Tryd.prog W = .ok (.agg #[.int .i64 (a : Int), .int .i64 (k : Int)]) W := by
  rcases (show j = 0 ∨ j = 1 ∨ j = 2 ∨ j = 3 ∨ j = 4 ∨ j = 5 ∨ j = 6 ∨ j = 7 ∨ j = 8 by omega) with rfl | rfl | rfl | rfl | rfl | rfl | rfl | rfl | rfl
  · exact ⟨0, 2, _, rfl, rfl, rfl, rfl, by decide, by decide, by decide, by decide, fun W => by kernel_rfl⟩
  · exact ⟨2, 2, _, rfl, rfl, rfl, rfl, by decide, by decide, by decide, by decide, fun W => by kernel_rfl⟩
  · exact ⟨4, 1, _, rfl, rfl, rfl, rfl, by decide, by decide, by decide, by decide, fun W => by kernel_rfl⟩
  · exact ⟨5, 1, _, rfl, rfl, rfl, rfl, by decide, by decide, by decide, by decide, fun W => by kernel_rfl⟩
  · exact ⟨6, 2, _, rfl, rfl, rfl, rfl, by decide, by decide, by decide, by decide, fun W => by kernel_rfl⟩
  · exact ⟨8, 6, _, rfl, rfl, rfl, rfl, by decide, by decide, by decide, by decide, fun W => by kernel_rfl⟩
  · exact ⟨14, 4, _, rfl, rfl, rfl, rfl, by decide, by decide, by decide, by decide, fun W => by kernel_rfl⟩
  · exact ⟨18, 6, _, rfl, rfl, rfl, rfl, by decide, by decide, by decide, by decide, fun W => by kernel_rfl⟩
  · exact ⟨24, 4, _, rfl, rfl, rfl, rfl, by decide, by decide, by decide, by decide, fun W => by kernel_rfl⟩
theorem EnvE.range {w : World} (h : EnvE w) : w.rangeAt 0 0 plcCells.toList := fun j v hv => by
  rw [Nat.zero_add, h.cell j]; simpa using hv
theorem infoPl : (Tryd.prog.info? 94).map (·.size) = some plcCells.toList.length := by kernel_rfl
end Go.Proofs.YtnhlgonldffgoaaDoor
