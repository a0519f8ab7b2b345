/-
  'copy' over a row of bytes that is the call's own, as a step of a region in an open order.
-/
import Derived.Test.YtljdebpemdjliaaMake
import Derived.Test.YtljdebpemdjliaaAppk
import Derived.Laws.CopyOwn
import Derived.Deep.MidRow
namespace Go.Proofs.Ytljdebpemdjliaa
open Go.RowKit
set_option linter.unusedVariables false

theorem take_splice (L M : List Value) (i N : Nat) (h : i + M.length ≤ N) (hN : N ≤ L.length) : (L.take i ++ M ++ L.drop (i + M.length)).take N = splice (L.take N) i M := by
  unfold splice
  rw [List.take_append, List.take_append, List.take_take, List.take_take, List.drop_take]
  have h1 : min N i = i := by omega
  have h2 : min i N = i := by omega
  have h3 : (L.take i ++ M).length = i + M.length := by rw [List.length_append, List.length_take]; omega
  rw [h1, h2, h3, List.take_of_length_le (l := M) (by rw [List.length_take]; omega), List.append_assoc]
/-- 'copy' of bytes zs over a row xs from place off on. -/
theorem step_copy_own {ops : Array Oper} {o : Oper} {a : Act} {w : World} {K : Act → World → Prop} {Q : Exit → Act → World → Prop} {E : Prop} (hgd : o.guard = none) (d s : Operand)
    (ho : o.op = .call { callee := .builtin .copy, args := #[d, s], argTypes := #[39, 39] }) (N dLen dCap n sCap g off r base : Nat) (v : Value) (xs zs : List Int)
    (hd : a.eval d = .slice (some ⟨g, off, none⟩) dLen dCap) (hs : a.eval s = .slice (some ⟨r, 0, none⟩) n sCap) (hz : zs.length = n) (hv : v.ownBlock = some g)
    (hown : w.ownsRow base 5 1 v N (xs.map (Value.int .u8))) (hr : Blk w r 5 ((zs.map (Value.int .u8)).toArray)) (hle : n ≤ dLen) (hfit : off + n ≤ N)
    (h : ∀ w', Hid (w'.ownsRow base 5 1 v N ((splice xs off zs).map (Value.int .u8))) → Below g w w' → (∀ k, k ≠ g → w'.heap[k]? = w.heap[k]?) → K (a.put o.dst (goInt n)) w') :
    if Region.wanted o (yielded ops a.tmps) = true then Oper.wp Try.prog o a w K Q else E := by
  have hw : Region.wanted o (yielded ops a.tmps) = true := by simp [Region.wanted, hgd]
  rw [if_pos hw]
  rcases hown.2 with ⟨hv0, _⟩ | ⟨g', cap, cur, hv0, q1, q2, q3, q4, q5, q6⟩
  · rw [hv0] at hv; cases hv
  rw [hv0] at hv
  simp [Value.ownBlock] at hv
  subst hv
  have hcl : cur.toList.length = cap := by rw [Array.length_toList, q5]; omega
  have hrun := run_copy_row (P := Try.prog) w 39 39 o.type 5 g' off dLen dCap ⟨r, 0, none⟩ n sCap cur 5 (zs.map (Value.int .u8)) Try.underlying39 (by kernel_rfl) q2 (by rw [List.length_map, hz]; exact (Nat.min_eq_left hle).symm)
    (fun j v hj => by
      have := hr.cell j
      rw [List.getElem?_toArray, hj] at this
      simp only [Addr.add]
      split
      · rename_i h0; subst h0; exact this
      · rw [Nat.zero_add]; exact this) (by simp [hz]; omega) bytes_oneCell
  unfold Oper.wp
  simp [execOp, ho, resolve, invoke, builtin, hd, hs, hrun, Result.andThen]
  have hset := setRow_heap w g' cur (cur.toList.take off ++ (zs.map (Value.int .u8)) ++ cur.toList.drop (off + (zs.map (Value.int .u8)).length)).toArray 5 _ q2
  have hq := h (w.setRow g' (cur.toList.take off ++ (zs.map (Value.int .u8)) ++ cur.toList.drop (off + (zs.map (Value.int .u8)).length)).toArray) (Lib.hid ?_) ⟨rfl, rfl, rfl, by simp [World.setRow], fun k hk => setRow_other w g' k _ (by omega)⟩ (fun k hk => setRow_other w g' k _ hk)
  · rw [Oper.upon_value]
    simpa [hz] using hq
  · have hx : cur.toList.take N = xs.map (Value.int .u8) := by rw [← q6, Nat.mul_one]
    refine ⟨?_, .inr ⟨g', cap, _, hv0, q1, hset, q3, q4, ?_, ?_⟩⟩
    · have := hown.1
      simp only [List.length_map, splice, List.length_append, List.length_take, List.length_drop] at this ⊢
      omega
    · simp only [List.size_toArray, List.length_append, List.length_take, List.length_drop, List.length_map]; omega
    · rw [Nat.mul_one, List.toList_toArray, take_splice _ _ _ _ (by rw [List.length_map]; omega) (by omega), hx]
      simp [splice, List.map_take, List.map_drop]
end Go.Proofs.Ytljdebpemdjliaa
