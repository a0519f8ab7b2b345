/-
  The program's own cache of neighbours (layer 19): slices.Delete of a packet in a row of an entry's own.
-/
import Derived.Test.YtlbkphnbpenbcaaNgB
import Derived.Lib.AppendZerosOnto
import Derived.Lib.AppendZeros
import Derived.Lib.Overlaps
import Derived.Laws.CopyRow
import Derived.Laws.NewBlocks
namespace Go.Proofs.Ytlbkphnbpenbcaa
open Go.RowKit
set_option linter.unusedVariables false

abbrev stC (p : ByteArray) : List Value := [.string p]
theorem st_one (p : ByteArray) : (stC p).length = 1 := rfl
theorem st_oneC (p : ByteArray) : ∀ u ∈ stC p, u.oneCell' = true := by intro u hu; simp at hu; rw [hu]; rfl
theorem stC_flat (l : List ByteArray) : l.flatMap stC = l.map strC := by induction l with | nil => rfl | cons y r ih => rw [List.flatMap_cons, ih]; rfl
theorem flat_one {α : Type} {f : α → List Value} (hf : ∀ x, ∀ u ∈ f x, u.oneCell' = true) (l : List α) : ∀ u ∈ l.flatMap f, u.oneCell' = true := by
  intro u hu
  obtain ⟨x, -, hx⟩ := List.mem_flatMap.1 hu
  exact hf x u hx
abbrev stZ : List Value := [.string ⟨#[]⟩]
theorem zeroSt (w : World) : (zeroValue 9).run Try.prog w = .ok (.string ⟨#[]⟩) w := by kernel_rfl
theorem stSz : (Try.prog.info? 9).map (·.size) = some 1 := by kernel_rfl
theorem own_openN {w : World} {g n c sz : Nat} {t : TypeId} {xs : List Value} (h : w.ownsRow 0 t sz (.slice (some ⟨g, 0, none⟩) n c) n xs) : ∃ cur : Array Value, Blk w g t cur ∧ n ≤ c ∧ c ≤ maxLen ∧ cur.size = c * sz ∧ cur.toList.take (n * sz) = xs := by
  rcases h.2 with ⟨e, -⟩ | ⟨g', cap, cur, e, h1, h2, h3, h4, h5, h6⟩
  · cases e
  · injection e with e1 e2 e3
    injection e1 with e1
    injection e1 with e1
    subst e1 e3
    exact ⟨cur, h2, h3, h4, h5, h6⟩
theorem take_cut {α : Type} {C X : List α} {m : Nat} (h : C.take m = X) {k : Nat} (hk : k ≤ m) : C.take k = X.take k := by
  rw [← h, List.take_take, Nat.min_eq_left hk]
set_option maxRecDepth 100000 in
/-- 'clear' of some elements of several cells at the end of a block known whole. -/
theorem run_clear_k (w : World) (t e ty : TypeId) (z : Value) (ht : Try.prog.underlying t = some (.slice e)) (hv : ∀ w, (zeroValue e).run Try.prog w = .ok z w) (cs : List Value) (hz : z.cells = cs.toArray) (h1 : ∀ v ∈ cs, v.oneCell' = true) (g off k c : Nat) (te : TypeId) (old : Array Value) (hB : Blk w g te old) (hl : off + k * cs.length ≤ old.size) :
    ∃ zs : List Value, zs.length = k * cs.length ∧ (∀ v ∈ zs, v.oneCell' = true) ∧ (Builtin.clear_ #[t] ty #[.slice (some ⟨g, off, none⟩) k c]).run Try.prog w = .ok (.tuple #[]) (w.setRow g (old.toList.take off ++ zs ++ old.toList.drop (off + zs.length)).toArray) := by
  refine ⟨(Builtin.zeroCells z.cells k).toList, by rw [hz]; simp [Builtin.zeroCells], fun v hv => ?_, ?_⟩
  · rw [hz] at hv
    simp [Builtin.zeroCells] at hv
    obtain ⟨a, ha, rfl⟩ := hv
    have hc : 0 < cs.length := by
      rcases Nat.eq_zero_or_pos cs.length with e | e
      · rw [e, Nat.mul_zero] at ha; omega
      · exact e
    have hm := Nat.mod_lt a hc
    rw [List.getElem?_eq_getElem hm]
    exact h1 _ (List.getElem_mem _)
  · have hl2 : (Builtin.zeroCells z.cells k).toList.length = k * cs.length := by rw [hz]; simp [Builtin.zeroCells]
    have h1' : ∀ v ∈ (Builtin.zeroCells z.cells k).toList, v.oneCell' = true := by
      intro v hv
      rw [hz] at hv
      simp [Builtin.zeroCells] at hv
      obtain ⟨a, ha, rfl⟩ := hv
      have hc : 0 < cs.length := by
        rcases Nat.eq_zero_or_pos cs.length with e | e
        · rw [e, Nat.mul_zero] at ha; omega
        · exact e
      have hm := Nat.mod_lt a hc
      rw [List.getElem?_eq_getElem hm]
      exact h1 _ (List.getElem_mem _)
    have hst := run_storeCells_at (P := Try.prog) g off te (Builtin.zeroCells z.cells k).toList 0 old w hB (by rw [hl2]; simpa using hl) h1'
    simp only [Nat.add_zero] at hst
    obtain ⟨zs, hzs⟩ : ∃ zs, (Builtin.zeroCells z.cells k).toList = zs := ⟨_, rfl⟩
    rw [hzs] at hst hl2 ⊢
    cases k with
    | zero =>
      have e0 : zs = [] := List.eq_nil_of_length_eq_zero (by rw [hl2]; omega)
      subst e0
      simp [Builtin.clear_, run_underlying ht, setRow_self w g old te (0, 0) hB]
    | succ k => simp [Builtin.clear_, run_underlying ht, hv, hzs, hst]
/-- 'copy' of elements of several cells into a block known whole. -/
theorem run_copy_k (w : World) (dT sT ty elem : TypeId) (sz g o dLen dCap : Nat) (a : Addr) (sLen sCap n : Nat) (cur : Array Value) (t : TypeId) (cs : List Value)
    (hu : Try.prog.underlying dT = some (.slice elem)) (hs : (Try.prog.info? elem).map (·.size) = some sz)
    (hg : Blk w g t cur) (hn : Nat.min sLen dLen = n) (hl : cs.length = n * sz)
    (hsrc : ∀ j v, cs[j]? = some v → w.cell? (a.add j) = some v) (hfit : o + cs.length ≤ cur.size) (h1 : ∀ v ∈ cs, v.oneCell' = true) :
    (Builtin.copy_ #[dT, sT] ty #[.slice (some ⟨g, o, none⟩) dLen dCap, .slice (some a) sLen sCap]).run Try.prog w =
      .ok (goInt n) (w.setRow g (cur.toList.take o ++ cs ++ cur.toList.drop (o + cs.length)).toArray) := by
  have hld := run_loadCells_list (P := Try.prog) w a cs hsrc
  have hst := run_storeCells_at (P := Try.prog) g o t cs 0 cur w hg (by simpa using hfit) h1
  cases hq : Try.prog.info? elem with
  | none => simp [hq] at hs
  | some i =>
    have hi : i.size = sz := by simpa [hq] using hs
    simp [Builtin.copy_, run_underlying hu, Builtin.lenOf, Builtin.firstCells, sizeOf, typeInfo, hq, hi, hn, ← hl, hld, hst]
theorem wpo_copy_run (w : World) {o : Oper} {a : Act} {K : Act → World → Prop} {Q : Exit → Act → World → Prop} (d s : Operand) (t t' : TypeId)
    (ho : o.op = .call { callee := .builtin .copy, args := #[d, s], argTypes := #[t, t'] }) (v u : Value) (hd : a.eval d = v) (hs : a.eval s = u) {v' : Value} {w' : World}
    (hr : ∀ ty, (Builtin.copy_ #[t, t'] ty #[v, u]).run Try.prog w = .ok v' w') (h : K (a.put o.dst v') w') : o.wp Try.prog a w K Q := by
  unfold Oper.wp execOp
  simp only [ho, resolve, invoke, builtin, Sem.run_bind, Sem.run_pure, Result.andThen_ok, List.map_toArray, List.map_cons, List.map_nil, hd, hs, hr]
  exact h
theorem wpList_copy_run (w : World) {ops : Array Oper} {rest : List Oper} {o : Oper} {a : Act} {Q : Exit → Act → World → Prop} (hgd : o.guard = none) (d s : Operand) (t t' : TypeId)
    (ho : o.op = .call { callee := .builtin .copy, args := #[d, s], argTypes := #[t, t'] }) (v u : Value) (hd : a.eval d = v) (hs : a.eval s = u) {v' : Value} {w' : World}
    (hr : ∀ ty, (Builtin.copy_ #[t, t'] ty #[v, u]).run Try.prog w = .ok v' w') (h : wpList Try.prog ops Q rest (a.put o.dst v') w') : wpList Try.prog ops Q (o :: rest) a w :=
  wpList_plain hgd fun _ hK => wpo_copy_run w d s t t' ho v u hd hs hr (hK _ _ h)
theorem step_copy_run {ops : Array Oper} {o : Oper} {a : Act} {w : World} {K : Act → World → Prop} {Q : Exit → Act → World → Prop} {E : Prop}
    (hg : o.guard = none) (d x : Operand) (dT sT : TypeId) (hop : o.op = Op.call { callee := Callee.builtin Builtin.copy, args := #[d, x], argTypes := #[dT, sT] })
    (v u : Value) (hd : a.eval d = v) (hx : a.eval x = u) {v' : Value} {w' : World} (hr : ∀ ty, (Builtin.copy_ #[dT, sT] ty #[v, u]).run Try.prog w = .ok v' w') (hK : K (a.put o.dst v') w') :
    if Region.wanted o (yielded ops a.tmps) = true then Oper.wp Try.prog o a w K Q else E := by
  have hw : Region.wanted o (yielded ops a.tmps) = true := by simp [Region.wanted, hg]
  rw [if_pos hw]
  exact wpo_copy_run w d x dT sT hop v u hd hx hr hK
theorem add_lit (g o j : Nat) : (⟨g, o, none⟩ : Addr).add j = ⟨g, o + j, none⟩ := by unfold Addr.add; split <;> simp_all
set_option maxRecDepth 100000 in
set_option maxHeartbeats 4000000 in
theorem delete_st (g n c i : Nat) (l : List ByteArray) (hl : l.length = n) (hn : n ≤ 1000) (hi : i < n) (w : World) (h : w.ownsRow 0 9 1 (.slice (some ⟨g, 0, none⟩) n c) n (l.flatMap stC)) :
    Calls Try.prog 35 #[.slice (some ⟨g, 0, none⟩) n c, .int .i64 (i : Int), .int .i64 ((i : Int) + 1)] w fun e w' => e = .returned (.slice (some ⟨g, 0, none⟩) (n - 1) c) ∧ w'.ownsRow 0 9 1 (.slice (some ⟨g, 0, none⟩) (n - 1) c) (n - 1) ((l.eraseIdx i).flatMap stC) ∧ Tch w w' [g] := by
  obtain ⟨cur, hB, hnc, hcm, hcs, hcx⟩ := own_openN h
  have hcm : c ≤ 9223372036854775807 := by unfold maxLen at hcm; omega
  have hxl : (l.flatMap stC).length = n * 1 := by rw [flatk_len st_one, hl]
  have her := erase_flat (f := stC) (sz := 1) st_one (l := l) (i := i) (by omega)
  have hone := flat_one st_oneC l
  obtain ⟨xs, hxs⟩ : ∃ xs, l.flatMap stC = xs := ⟨_, rfl⟩
  rw [hxs] at hcx hxl her hone
  have hcl : cur.toList.length = c * 1 := by rw [Array.length_toList]; exact hcs
  obtain ⟨d, hd⟩ : ∃ d, n - (i + 1) = d := ⟨_, rfl⟩
  obtain ⟨n1, hn1⟩ : ∃ n1, n - 1 = n1 := ⟨_, rfl⟩
  rw [hn1]
  obtain ⟨news, hnews⟩ : ∃ news, xs.drop ((i + 1) * 1) = news := ⟨_, rfl⟩
  have hnl : news.length = d * 1 := by rw [← hnews, List.length_drop, hxl]; omega
  obtain ⟨A, hA⟩ : ∃ A : Addr, (if c = i + 1 then (some ⟨g, 0, none⟩ : Option Addr) else some ⟨g, (i + 1) * 1, none⟩) = some A := by
    by_cases e : c = i + 1
    · exact ⟨_, if_pos e⟩
    · exact ⟨_, if_neg e⟩
  have HSrc : Hid (∀ j u, news[j]? = some u → w.drew.cell? (A.add j) = some u) := Lib.hid (fun j u hj => by
    by_cases e : c = i + 1
    · have : news.length = 0 := by rw [hnl]; omega
      have := (List.getElem?_eq_some_iff.1 hj).1
      omega
    · rw [if_neg e] at hA
      injection hA with hA
      subst hA
      rw [← hnews, List.getElem?_drop] at hj
      rw [add_lit]
      show w.cell? _ = _
      rw [hB.cell, ← Array.getElem?_toList, ← hj, ← hcx, List.getElem?_take]
      have hjl := (List.getElem?_eq_some_iff.1 hj).1
      rw [hxl] at hjl
      rw [if_pos hjl])
  obtain ⟨cur1, hcur1⟩ : ∃ cur1, (cur.toList.take (i * 1) ++ news ++ cur.toList.drop (i * 1 + news.length)).toArray = cur1 := ⟨_, rfl⟩
  have hl1 : cur1.toList.length = c * 1 := by rw [← hcur1, List.toList_toArray]; simp [hcl, hnl]; omega
  have hpre : cur1.toList.take (n1 * 1) = xs.take (i * 1) ++ news := by
    rw [← hcur1, List.toList_toArray, List.take_left' (by simp [hcl, hnl]; omega), take_cut hcx (by omega)]
  obtain ⟨W1, hW1⟩ : ∃ W1, w.drew.setRow g cur1 = W1 := ⟨_, rfl⟩
  have hB1 : Blk W1 g 9 cur1 := hW1 ▸ setRow_blk (w := w.drew) hB
  have hT1 : Tch w W1 [g] := hW1 ▸ Tch.of_drew (setRow_tch w.drew g cur1)
  have hclr : ∃ zs : List Value, zs.length = 1 * 1 ∧ ∀ ty, (Builtin.clear_ #[52] ty #[.slice (some ⟨g, n1 * 1, none⟩) 1 (c - n1)]).run Try.prog W1 = .ok (.tuple #[]) (W1.setRow g (cur1.toList.take (n1 * 1) ++ zs ++ cur1.toList.drop (n1 * 1 + zs.length)).toArray) := by
    obtain ⟨zs, z1, z2, z3⟩ := run_clear_k W1 52 9 0 _ Try.underlying52 zeroSt stZ rfl (by simp [Value.oneCell']) g (n1 * 1) 1 (c - n1) 9 cur1 hB1 (by simp; rw [← Array.length_toList, hl1]; omega)
    exact ⟨zs, z1, fun ty => z3⟩
  obtain ⟨zs, hzl, hclr⟩ := hclr
  obtain ⟨cur2, hcur2⟩ : ∃ cur2, (cur1.toList.take (n1 * 1) ++ zs ++ cur1.toList.drop (n1 * 1 + zs.length)).toArray = cur2 := ⟨_, rfl⟩
  have HFin : Hid ((W1.setRow g cur2).ownsRow 0 9 1 (.slice (some ⟨g, 0, none⟩) n1 c) n1 ((l.eraseIdx i).flatMap stC) ∧ Tch w (W1.setRow g cur2) [g]) := Lib.hid (by
    refine ⟨⟨?_, .inr ⟨g, c, cur2, rfl, Nat.zero_le _, setRow_blk hB1, by omega, by unfold maxLen; omega, ?_, ?_⟩⟩, hT1.trans (setRow_tch W1 g cur2)⟩
    · rw [her, hnews]
      simp [hxl, hnl]; omega
    · rw [← hcur2]
      simp only [List.size_toArray, List.length_append, List.length_take, List.length_drop, hl1, hzl]
      omega
    · rw [her, hnews, ← hpre, ← hcur2, List.toList_toArray, List.append_assoc, List.take_left' (by rw [List.length_take, hl1]; omega)])
  rw [hcur2] at hclr
  have HFit : Hid (i * 1 + news.length ≤ cur.size) := Lib.hid (by rw [hnl, hcs]; omega)
  have HOne : Hid (∀ u ∈ news, u.oneCell' = true) := Lib.hid (fun u hu => hone u (List.mem_of_mem_drop (by rw [hnews]; exact hu)))
  have HBd : Hid (Blk w.drew g 9 cur) := Lib.hid hB
  have HNl := Lib.hid hnl
  have HW1 : Hid (w.drew.setRow g (cur.toList.take (i * 1) ++ news ++ cur.toList.drop (i * 1 + news.length)).toArray = W1) := Lib.hid (by rw [hcur1]; exact hW1)
  have HRm : Hid (i + d ≤ c ∧ i + d = n1) := Lib.hid (by omega)
  have hn11 : n - n1 = 1 := by omega
  have hic : i ≤ c := by omega
  have hjc : i + 1 ≤ c := by omega
  have hib : (0 : Int) ≤ (i : Int) + 1 ∧ (i : Int) + 1 ≤ (n : Int) := by omega
  have b0 : ((i : Int) == (i : Int) + 1) = false := by simp; omega
  clear hB hcs hcx hxl her hone hxs hcl hnews hnl hcur1 hl1 hpre hW1 hB1 hT1 hcur2 h hzl
  simp only [Nat.mul_one] at hA hclr
  go_enter Try.func35, Try.ntmps35
  go_wp2
  go_region_law (refine step_apr rfl (.tmp 22) (.tmp 25) 52 rfl 9 1 Try.underlying52 stSz g i c cur HBd.out (by simp [Act.eval, Act.put]) A d (c - (i + 1)) news (by simp [Act.eval, Act.put, *]) HNl.out HSrc.out HOne.out HRm.out.1 HFit.out ?_; rw [HW1.out, HRm.out.2])
  all_goals
    go_wp2
    go_ret
    exact ⟨rfl, HFin.out.1, HFin.out.2⟩
end Go.Proofs.Ytlbkphnbpenbcaa
