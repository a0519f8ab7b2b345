/-
  The program's own cache of neighbours (layer 19): maps.Keys over a map by keys; slices.AppendSeq, slices.Collect against whatever iterator over keys.
-/
import Derived.Test.YtlbkphnbpenbcaaNgB
import Derived.RangeFuncNested
import Derived.RangeFuncLeaves
import Derived.Sort.MapsRangeIn
import Derived.Maps.AppendAt
import Derived.Shelf.AbstractIn
import Derived.WalkKit
import Derived.OwnWalkIn
import Derived.TacticsInMore
import Derived.RegionIn
import Derived.LoopNIn
import Derived.LoopIn
namespace Go.Proofs.Ytlbkphnbpenbcaa
open Go.RowKit Go.Shelf
set_option linter.unusedVariables false
set_option linter.unusedSectionVars false
attribute [local go_sem] Oper.semAt_some

theorem MpRg.left_len {κ : Type} [DecidableEq κ] {kv : κ → Value} {w : World} {m r : Nat} {M left : List (κ × Value)} (h : MpRg kv w m r M left) : w.rangeLeft m r = left.length := by
  obtain ⟨es, clock, since, c0, seen, h1, h2, h3, h4, h5, h6, h7, h8, h9, h10⟩ := h
  have := congrArg List.length h10
  simp at this
  simp only [World.rangeLeft, h1, h6]
  exact this
theorem grown_of_tch {w w' : World} {r : Nat} (h : Tch w w' [r]) : w.grownBy w' (some r) := ⟨h.os, h.tape, h.output, h.size, fun k hk hne => h.block k hk (by simp; exact fun e => hne (by rw [e]))⟩
theorem grown_of_tch0 {w w' : World} (h : Tch w w' []) : w.grownBy w' none := ⟨h.os, h.tape, h.output, h.size, fun k hk hne => h.block k hk (by simp)⟩
section
variable {κ : Type} [DecidableEq κ] {k : TypeId} {kv : κ → Value} {F : Fence} {n : Nat} {w w' : World} {m r : Nat} {M left : List (κ × Value)}
theorem MpIs.of_walks (h : MpIs kv w m M) (hk : KeepsWalks w w') : MpIs kv w' m M := by
  obtain ⟨es, clock, h1, h2⟩ := h
  exact ⟨es, clock, hk.same m _ h1 rfl, h2⟩
theorem MpRg.of_walks (h : MpRg kv w m r M left) (hk : KeepsWalks w w') : MpRg kv w' m r M left := by
  obtain ⟨es, clock, since, c0, seen, h1, h2, h3, h4, h5, h6, h7⟩ := h
  exact ⟨es, clock, since, c0, seen, hk.same m _ h1 rfl, h2, h3, h4, h5, hk.same r _ h6 rfl, h7⟩
theorem MpRg.iter_walk (h : MpRg kv w m r M left) : ∃ o : Obj, w.heap[r]? = some o ∧ o.isWalk = true := by
  obtain ⟨es, clock, since, c0, seen, h1, h2, h3, h4, h5, h6, h7⟩ := h
  exact ⟨_, h6, rfl⟩
theorem wpListIn_mrange {ops : Array Oper} {rest : List Oper} {o : Oper} {a : Act} {Q : Exit → Act → World → Prop} (hg : o.guard = none) (x : Operand) (t : TypeId) (hop : o.op = Op.range t x) (e : TypeId) (ht : Try.prog.underlying t = some (.map k e)) (hm : a.eval x = .map (some m)) (h : MpIs kv w m M)
    (hK : ∀ w', MpRg kv w' m w.heap.size M M → Tch w w' [] → w'.heap.size = w.heap.size + 1 → wpListIn F n Try.prog ops Q rest (a.put o.dst (.pointer (some ⟨w.heap.size, 0, none⟩))) w') : wpListIn F n Try.prog ops Q (o :: rest) a w := by
  refine wpListIn_plain hg fun K' hK' => ?_
  obtain ⟨w', hrun, r1, r2, r3⟩ := h.range ht
  unfold Oper.wpIn
  refine ⟨by simp [Oper.about, hop], ?_⟩
  rw [Oper.semAt_plain F _ _ (by rw [hop]; intro c hc'; cases hc')]
  simp [execOp, hop, hm, hrun, Result.andThen]
  exact hK' _ _ (hK w' r1 r2 r3)
theorem wpListIn_mnext {ops : Array Oper} {rest : List Oper} {o : Oper} {a : Act} {Q : Exit → Act → World → Prop} (hg : o.guard = none) (it : Operand) (hop : o.op = Op.next it false) (K : KeyF k kv mpG) (hit : a.eval it = .pointer (some ⟨r, 0, none⟩)) (h : MpRg kv w m r M left)
    (hDone : left = [] → wpListIn F n Try.prog ops Q rest (a.put o.dst (.tuple #[.bool false])) w)
    (hMore : ∀ (x : κ × Value) (left' : List (κ × Value)) (w' : World), x ∈ M → left.Perm (x :: left') → MpRg kv w' m r M left' → Tch w w' [r] → w'.heap.size = w.heap.size → (Instr.entry (.pointer (some ⟨r, 0, none⟩))).run Try.prog w' = .ok (.tuple #[kv x.1, x.2]) w' →
      wpListIn F n Try.prog ops Q rest (a.put o.dst (.tuple #[.bool true, kv x.1, x.2])) w') : wpListIn F n Try.prog ops Q (o :: rest) a w := by
  refine wpListIn_plain hg fun K' hK' => ?_
  unfold Oper.wpIn
  refine ⟨by simp [Oper.about, hop], ?_⟩
  rw [Oper.semAt_plain F _ _ (by rw [hop]; intro c hc'; cases hc')]
  rcases h.next K o.type with ⟨h0, hrun⟩ | ⟨x, left', w', hx, hp, hrun, r1, r2, r3, r4⟩
  · simp [execOp, hop, hit, hrun, Result.andThen]
    exact hK' _ _ (hDone h0)
  · simp [execOp, hop, hit, hrun, Result.andThen]
    exact hK' _ _ (hMore x left' w' hx hp r1 r2 r3 r4)
end
set_option maxRecDepth 100000 in
set_option maxHeartbeats 2000000 in
/-- The iterator that maps.Keys hands back. -/
theorem keys1_in (F : Fence) (n : Nat) (h10 : F.fn 58) (hro : F.round = none) (hn : 1 ≤ n) (l Bm m : Nat) (M : List (KyI × Value)) (J Jx : List KyI → World → Prop)
    (hY : ∀ pre x W, J pre W → pre.length < M.length → YieldAt F (n - 1) Try.prog l #[kyV x] W fun e W' => (e = .returned (.bool true) ∧ J (pre ++ [x]) W' ∧ KeepsWalks W W') ∨ (e = .returned (.bool false) ∧ Jx (pre ++ [x]) W'))
    (W : World) (hJ : AbidesFrom W.heap.size J) (hm : W.cell? ⟨Bm, 0, none⟩ = some (.map (some m))) (hown : MpIs (fun p => kyV p) W m M) (h0 : J [] W) :
    CallsIn F n Try.prog 58 #[.func (.yield l) #[] #[], .pointer (some ⟨Bm, 0, none⟩)] W fun e W' => (∃ v, e = .returned v) ∧ ((∃ ss, ss.Perm (M.map Prod.fst) ∧ J ss W') ∨ (∃ pre, True ∧ Jx pre W')) := by
  refine callsIn_of_wp Try.func58 rfl h10 ?_ hro
  simp only [Try.ntmps58, List.size_toArray, List.length_cons, List.length_nil, Nat.reduceAdd, Nat.reduceSub, Array.replicate_succ, Array.replicate_zero, List.push_toArray, List.append_toArray, List.nil_append, List.cons_append]
  gi_wp2_with (first
    | (gi_at_range; refine wpListIn_mrange (k := 70) rfl (.tmp 4) 61 rfl 68 Try.underlying61 rfl hown ?_; intro w0 hrg0 hT0 hs0)
    | gi_in)
  go_frame
  gi_loopw [3] (fun _ wr => ∃ (left : List (KyI × Value)) (ss : List KyI), MpRg (fun p => kyV p) wr m W.heap.size M left ∧ (ss ++ left.map Prod.fst).Perm (M.map Prod.fst) ∧ J ss wr)
    (fun _ wr => wr.rangeLeft m W.heap.size)
  case atStart =>
    exact ⟨M, [], hrg0, List.Perm.refl _, hJ [] W w0 none h0 (grown_of_tch0 hT0) (fun r e => by cases e)⟩
  case round =>
    obtain ⟨left, ss, hrg, hC, hJs⟩ := hrel
    gi_wp2_with (first
      | (gi_at_next; refine wpListIn_mnext rfl (.tmp 5) rfl keyK_F rfl hrg (fun hd => ?_) (fun x left' w2 hx hp hrg2 hT2 hs2 hen => ?_))
      | gi_in)
    · gi_wp2
      go_end0
      exact ⟨⟨_, rfl⟩, .inl ⟨ss, by rw [hd] at hC; simpa using hC, hJs⟩⟩
    · obtain ⟨⟨xn, xs, xh, xl⟩, v⟩ := x
      have hT3 := (Tch.refl w2 []).alloc (.cells #[.int .i64 xn, .bool xs, .int .u64 (xh : Int), .int .u64 (xl : Int)] 70)
      have hJ2 : J ss w2 := hJ ss wr w2 (some W.heap.size) hJs (grown_of_tch hT2) (fun r e => by cases e; exact ⟨Nat.le_refl _, hrg.iter_walk⟩)
      have hJ3 : J ss (w2.alloc (.cells #[.int .i64 xn, .bool xs, .int .u64 (xh : Int), .int .u64 (xl : Int)] 70)) := hJ ss w2 _ none hJ2 (grown_of_tch0 hT3) (fun r e => by cases e)
      have hln : ss.length < M.length := by
        have h1 := hC.length_eq
        rw [List.length_append, List.length_map, List.length_map, hp.length_eq, List.length_cons] at h1
        omega
      have hrg3 := hrg2.tch hT3 (by simp) (by simp)
      have hC2 : ((ss ++ [(xn, xs, xh, xl)]) ++ left'.map Prod.fst).Perm (M.map Prod.fst) := by
        rw [List.append_assoc]
        exact ((hp.map Prod.fst).symm.append_left ss).trans hC
      obtain ⟨fn, tmps, assign, body, hy, hR⟩ := hY ss (xn, xs, xh, xl) _ hJ3 hln
      have bX := Blk.new w2 70 #[.int .i64 xn, .bool xs, .int .u64 (xh : Int), .int .u64 (xl : Int)]
      obtain ⟨x0, x1, x2, x3⟩ := bX.k4
      clear hs2 hT2 hT3 bX hx
      gi_wp2
      refine hR.mono ?_
      rintro e W3 (⟨rfl, hJ4, hk4⟩ | ⟨rfl, hJx⟩)
      · gi_wp2
        have hrg4 := hrg3.of_walks hk4
        go_roundw
        case rel => exact ⟨left', _, hrg4, hC2, hJ4⟩
        case measure => rw [hrg4.left_len, hrg.left_len, hp.length_eq]; simp
      · gi_wp2
        refine bodyPost_ret (results_none rfl _ _ _) rfl ?_
        exact ⟨⟨_, rfl⟩, .inr ⟨_, trivial, hJx⟩⟩
theorem keys_stops (F : Fence) (n : Nat) (h10 : F.fn 58) (hro : F.round = none) (hn : 1 ≤ n) (Bm m : Nat) (M : List (KyI × Value)) (w : World) (hBm : Bm < w.heap.size) (hm : w.cell? ⟨Bm, 0, none⟩ = some (.map (some m))) (hown : MpIs (fun p => kyV p) w m M) :
    SeqStopsK F n Try.prog 58 #[.pointer (some ⟨Bm, 0, none⟩)] (fun p : KyI => #[kyV p]) KeepsWalks (fun ss => ss.Perm (M.map Prod.fst)) (fun _ => True) M.length w := fun l J Jx W hW hJ _ hY h0 =>
  keys1_in F n h10 hro hn l Bm m M J Jx hY W hJ ((hW.cell (p := ⟨Bm, 0, none⟩) hBm).trans hm) (hown.tch (Tch.of_below [] hW) (by simp)) h0
set_option maxRecDepth 100000 in
set_option maxHeartbeats 1000000 in
theorem keysP (m : Nat) (w : World) : Calls Try.prog 49 #[.map (some m)] w fun e w' => e = .returned (.func (.func 58) #[] #[.pointer (some ⟨w.heap.size, 0, none⟩)]) ∧ w' = w.alloc (.cells #[.map (some m)] 61) := by
  go_enter Try.func49, Try.ntmps49
  go_wp2
  go_ret
  exact ⟨rfl, rfl⟩
end Go.Proofs.Ytlbkphnbpenbcaa
