/-
  The program's own rib (layer 15): slices.Insert of a path; insert.
-/
import Derived.Test.YtjlmgkdieffjcaaDoorRpE
namespace Go.Proofs.YtjlmgkdieffjcaaDoor
open Go.RowKit
set_option linter.unusedVariables false

theorem ins_flat {l : List PaI} {i n : Nat} (hl : l.length = n) (hi : i ≤ n) (x : PaI) : (l.take i ++ x :: l.drop i).flatMap paC = (l.flatMap paC).take (i * 7) ++ (paC x ++ (l.flatMap paC).drop (i * 7)) := by
  have e1 : (l.take i).flatMap paC = (l.flatMap paC).take (i * 7) := by
    conv => rhs; rw [← List.take_append_drop i l, List.flatMap_append]
    rw [List.take_left' (by rw [flatk_len pa_seven, List.length_take]; omega)]
  have e2 : (l.drop i).flatMap paC = (l.flatMap paC).drop (i * 7) := by
    conv => rhs; rw [← List.take_append_drop i l, List.flatMap_append]
    rw [List.drop_left' (by rw [flatk_len pa_seven, List.length_take]; omega)]
  rw [List.flatMap_append, List.flatMap_cons, e1, e2]
theorem ins_tail {w w5 : World} {V v9 : Value} (hg : w.grownBy w5 V.ownBlock) (hv : v9.ownBlock = V.ownBlock ∨ v9.ownBlock = some w.heap.size) {S : List Nat} (hS : obI V = S) : Tch w w5 S ∧ ∀ s ∈ obI v9, s ∈ S ∨ w.heap.size ≤ s := by
  subst hS
  refine ⟨Tch.of_grown' hg (fun k hk => by rw [obI_some hk]; simp), fun s hs => ?_⟩
  rcases hv with e | e
  · refine .inl ?_
    unfold obI at hs ⊢
    rw [← e]
    exact hs
  · refine .inr ?_
    unfold obI at hs
    rw [e] at hs
    rw [List.mem_singleton.1 hs]
    exact Nat.le_refl _
set_option maxRecDepth 100000 in
set_option maxHeartbeats 4000000 in
/-- At the end. -/
theorem ins_end (A : Option Addr) (n c : Nat) (l : List PaI) (hl : l.length = n) (hn : n ≤ 1000) (x : PaI) (vb : Nat) (w : World) (h : w.ownsRow 0 26 7 (.slice A n c) n (l.flatMap paC)) (hv : Blk w vb 26 (paC x).toArray) :
    Calls Tryd.prog 55 #[.slice A n c, .int .i64 (n : Int), .slice (some ⟨vb, 0, none⟩) 1 1] w fun e w' => ∃ A' c', e = .returned (.slice A' (n + 1) c') ∧ w'.ownsRow 0 26 7 (.slice A' (n + 1) c') (n + 1) (l.flatMap paC ++ paC x) ∧ Tch w w' (obI (.slice A n c)) ∧ ∀ s ∈ obI (.slice A' (n + 1) c'), s ∈ obI (.slice A n c) ∨ w.heap.size ≤ s := by
  have HSrc : Hid (∀ j u, (paC x)[j]? = some u → w.cell? ((⟨vb, 0, none⟩ : Addr).add j) = some u) := Lib.hid (fun j u hj => by rw [add_lit, hv.cell, Nat.zero_add]; simpa using hj)
  have HO := Lib.hid h
  have HN := Lib.hid hn
  have hnc : n ≤ c := by
    rcases h.2 with ⟨e, -⟩ | ⟨g, cap, cur, e, h1, h2, h3, -⟩
    · injection e with e1 e2 e3; omega
    · injection e with e1 e2 e3; omega
  have hA : A = none ∨ ∃ g, A = some ⟨g, 0, none⟩ := by
    rcases sl_cases h with ⟨e, -⟩ | ⟨g, e⟩
    · exact .inl e
    · exact .inr ⟨g, e⟩
  have i0 : (0 : Int) ≤ (n : Int) := by omega
  clear h hn hv hl
  rcases hA with rfl | ⟨g, rfl⟩
  · go_enter Tryd.func55, Tryd.ntmps55
    go_wp2_with (at_builtin; (refine wpList_apc 38 26 (.agg #[.int .i64 0, .int .i64 0, .bool false, .int .u64 0, .int .u64 0, .int .i64 0, .bool false]) 7 56 Tryd.underlying38 infoPa rfl (by decide) (by decide) _ rfl (.tmp 23) (.tmp 24) rfl 0 (.slice none n c) n (l.flatMap paC) rfl HO.out ⟨vb, 0, none⟩ 1 (paC x) rfl rfl HSrc.out (pa_one x) (by have := HN.out; omega) (Nat.zero_le _) ?_; intro v9 w5 hown hg hv; have HO5 := Lib.hid hown; have HG5 := Lib.hid hg; have HV5 := Lib.hid hv; clear hown hg hv))
    all_goals
      go_ret
      obtain ⟨A', c', e, -, -⟩ := own_sl HO5.out
      subst e
      have hq := ins_tail HG5.out HV5.out rfl
      exact ⟨A', c', rfl, HO5.out, hq.1, hq.2⟩
  · go_enter Tryd.func55, Tryd.ntmps55
    go_wp2_with (at_builtin; (refine wpList_apc 38 26 (.agg #[.int .i64 0, .int .i64 0, .bool false, .int .u64 0, .int .u64 0, .int .i64 0, .bool false]) 7 56 Tryd.underlying38 infoPa rfl (by decide) (by decide) _ rfl (.tmp 23) (.tmp 24) rfl 0 (.slice (some ⟨g, 0, none⟩) n c) n (l.flatMap paC) rfl HO.out ⟨vb, 0, none⟩ 1 (paC x) rfl rfl HSrc.out (pa_one x) (by have := HN.out; omega) (Nat.zero_le _) ?_; intro v9 w5 hown hg hv; have HO5 := Lib.hid hown; have HG5 := Lib.hid hg; have HV5 := Lib.hid hv; clear hown hg hv))
    all_goals
      go_ret
      obtain ⟨A', c', e, -, -⟩ := own_sl HO5.out
      subst e
      have hq := ins_tail HG5.out HV5.out rfl
      exact ⟨A', c', rfl, HO5.out, hq.1, hq.2⟩
theorem blk_shape {w : World} {g : Nat} {t : TypeId} {cs : Array Value} (h : Blk w g t cs) : w.shape? g = some (t, cs.size) := by
  unfold Blk at h
  simp [World.shape?, h]
theorem paszof (w : World) : (Go.sizeOf 26).run Tryd.prog w = .ok 7 w := by kernel_rfl
set_option maxRecDepth 100000 in
set_option maxHeartbeats 4000000 in
/-- There is room. -/
theorem ins_room (g n c i : Nat) (l : List PaI) (hl : l.length = n) (hn : n ≤ 1000) (hi : i < n) (hc : n + 1 ≤ c) (x : PaI) (vb : Nat) (hne : vb ≠ g) (w : World) (h : w.ownsRow 0 26 7 (.slice (some ⟨g, 0, none⟩) n c) n (l.flatMap paC)) (hv : Blk w vb 26 (paC x).toArray) :
    Calls Tryd.prog 55 #[.slice (some ⟨g, 0, none⟩) n c, .int .i64 (i : Int), .slice (some ⟨vb, 0, none⟩) 1 1] w fun e w' => e = .returned (.slice (some ⟨g, 0, none⟩) (n + 1) c) ∧ w'.ownsRow 0 26 7 (.slice (some ⟨g, 0, none⟩) (n + 1) c) (n + 1) ((l.flatMap paC).take (i * 7) ++ (paC x ++ (l.flatMap paC).drop (i * 7))) ∧ Tch w w' [g] := by
  obtain ⟨cur, hB, hnc, hcm, hcs, hcx⟩ := own_openN h
  have hcm : c ≤ 9223372036854775807 := by unfold maxLen at hcm; omega
  have hxl : (l.flatMap paC).length = n * 7 := by rw [flatk_len pa_seven, hl]
  have hone := flat_one pa_one l
  obtain ⟨xs, hxs⟩ : ∃ xs, l.flatMap paC = xs := ⟨_, rfl⟩
  rw [hxs] at hcx hxl hone ⊢
  have hcl : cur.toList.length = c * 7 := by rw [Array.length_toList]; exact hcs
  obtain ⟨d, hd⟩ : ∃ d, n - i = d := ⟨_, rfl⟩
  obtain ⟨news, hnews⟩ : ∃ news, xs.drop (i * 7) = news := ⟨_, rfl⟩
  have hnl : news.length = d * 7 := by rw [← hnews, List.length_drop, hxl]; omega
  obtain ⟨px, hpx⟩ : ∃ px, paC x = px := ⟨_, rfl⟩
  have hpl : px.length = 7 := hpx ▸ pa_seven x
  have hp1 : ∀ u ∈ px, u.oneCell' = true := hpx ▸ pa_one x
  rw [hpx] at hv ⊢
  have hov : ∀ lb cb, (callFunc 64 #[.slice (some ⟨vb, 0, none⟩) 1 1, .slice (some ⟨g, (i + 1) * 7, none⟩) lb cb]).run Tryd.prog w = .ok (.value (.bool false)) w := fun lb cb => by
    rw [run_callFunc_extern Tryd.func64 (by kernel_rfl) (by kernel_rfl) (by kernel_rfl) (e := Extern.SlicesOverlaps.overlaps #[38, 38] #[4]) (by kernel_rfl),
      Lib.run_overlaps_apart w 38 4 26 Tryd.underlying38 7 paszof ⟨vb, 0, none⟩ ⟨g, (i + 1) * 7, none⟩ 1 1 lb cb hne _ _ _ _ (blk_shape hv) (blk_shape hB) (by omega) (hv.frozen _) (hv.frozen _)]
    rfl
  obtain ⟨cur1, hcur1⟩ : ∃ cur1, (cur.toList.take ((i + 1) * 7) ++ news ++ cur.toList.drop ((i + 1) * 7 + news.length)).toArray = cur1 := ⟨_, rfl⟩
  have hl1 : cur1.toList.length = c * 7 := by rw [← hcur1, List.toList_toArray]; simp [hcl, hnl]; omega
  obtain ⟨W1, hW1⟩ : ∃ W1, w.drew.setRow g cur1 = W1 := ⟨_, rfl⟩
  have hB1 : Blk W1 g 26 cur1 := hW1 ▸ setRow_blk (w := w.drew) hB
  have hT1 : Tch w W1 [g] := hW1 ▸ Tch.of_drew (setRow_tch w.drew g cur1)
  have hv1 : Blk W1 vb 26 px.toArray := hT1.blk hv (by simpa using hne)
  have HC1 : Hid (∀ ty, (Builtin.copy_ #[38, 38] ty #[.slice (some ⟨g, (i + 1) * 7, none⟩) d (c - (i + 1)), .slice (some ⟨g, i * 7, none⟩) (d + 1) (c - i)]).run Tryd.prog w.drew = .ok (goInt d) W1) := Lib.hid (fun ty => by
    rw [run_copy_k w.drew 38 38 ty 26 7 g ((i + 1) * 7) d (c - (i + 1)) ⟨g, i * 7, none⟩ (d + 1) (c - i) d cur 26 news Tryd.underlying38 paSz hB (by simp only [Nat.min_def]; split <;> omega) hnl (fun j v hj => by
      rw [add_lit]
      show w.cell? _ = _
      rw [← hnews, List.getElem?_drop] at hj
      rw [hB.cell, ← Array.getElem?_toList, ← hj, ← hcx, List.getElem?_take]
      have hjl := (List.getElem?_eq_some_iff.1 hj).1
      rw [hxl] at hjl
      rw [if_pos hjl]) (by rw [hnl, hcs]; omega) (fun v hv => hone v (List.mem_of_mem_drop (by rw [hnews]; exact hv))), hcur1, hW1])
  obtain ⟨cur2, hcur2⟩ : ∃ cur2, (cur1.toList.take (i * 7) ++ px ++ cur1.toList.drop (i * 7 + px.length)).toArray = cur2 := ⟨_, rfl⟩
  have HC2 : Hid (∀ ty, (Builtin.copy_ #[38, 38] ty #[.slice (some ⟨g, i * 7, none⟩) (d + 1) (c - i), .slice (some ⟨vb, 0, none⟩) 1 1]).run Tryd.prog W1 = .ok (goInt 1) (W1.setRow g cur2)) := Lib.hid (fun ty => by
    have := run_copy_k W1 38 38 ty 26 7 g (i * 7) (d + 1) (c - i) ⟨vb, 0, none⟩ 1 1 1 cur1 26 px Tryd.underlying38 paSz hB1 (by simp only [Nat.min_def]; split <;> omega) (by rw [hpl]) (fun j v hj => by
      rw [add_lit, hv1.cell, Nat.zero_add]; simpa using hj) (by rw [hpl, ← Array.length_toList, hl1]; omega) hp1
    rw [this, hcur2]
    rfl)
  have HFin : Hid ((W1.setRow g cur2).ownsRow 0 26 7 (.slice (some ⟨g, 0, none⟩) (n + 1) c) (n + 1) (xs.take (i * 7) ++ (px ++ xs.drop (i * 7))) ∧ Tch w (W1.setRow g cur2) [g]) := Lib.hid (by
    refine ⟨⟨?_, .inr ⟨g, c, cur2, rfl, Nat.zero_le _, setRow_blk hB1, by omega, by unfold maxLen; omega, ?_, ?_⟩⟩, hT1.trans (setRow_tch W1 g cur2)⟩
    · simp [hxl, hpl]; omega
    · rw [← hcur2]
      simp only [List.size_toArray, List.length_append, List.length_take, List.length_drop, hl1, hpl]
      omega
    · have e1 : cur1.toList.take (i * 7) = xs.take (i * 7) := by
        rw [← hcur1, List.toList_toArray, List.append_assoc, List.take_append_of_le_length (by rw [List.length_take, hcl]; omega), List.take_take, Nat.min_eq_left (by omega), take_cut hcx (by omega)]
      have e2 : cur1.toList.drop (i * 7 + px.length) = news ++ cur.toList.drop ((i + 1) * 7 + news.length) := by
        rw [← hcur1, List.toList_toArray, List.append_assoc, List.drop_left' (by rw [List.length_take, hcl, hpl]; omega)]
      rw [← hcur2, List.toList_toArray, e1, e2, hnews, List.append_assoc, ← List.append_assoc px, ← List.append_assoc (xs.take (i * 7)), List.take_left' (by simp [hxl, hpl, hnl]; omega)])
  have hb2 : ¬ (c = i + 1) := by omega
  have hb4 : ¬ (c = i) := by omega
  have hin : i ≤ n := by omega
  have hic : i ≤ c := by omega
  have hjc : i + 1 ≤ c := by omega
  have hnc1 : n + 1 ≤ c := hc
  have k1 : IntKind.i64.wrap ((i : Int) + 1) = (i : Int) + 1 := by rw [IntKind.wrap_i64]; omega
  have k2 : IntKind.i64.wrap ((n : Int) + 1) = (n : Int) + 1 := by rw [IntKind.wrap_i64]; omega
  have q1 : ((i : Int) == (n : Int)) = false := by simp; omega
  have q2 : ¬ ((c : Int) < (n : Int) + 1) := by omega
  have q3 : (0 : Int) ≤ (i : Int) ∧ (i : Int) ≤ (n : Int) := by omega
  have q4 : (0 : Int) ≤ (i : Int) + 1 ∧ (i : Int) + 1 ≤ (n : Int) + 1 := by omega
  have q5 : (0 : Int) ≤ (n : Int) + 1 ∧ (n : Int) + 1 ≤ (c : Int) := by omega
  have q6 : n + 1 - i = d + 1 := by omega
  have q7 : (i : Int) ≤ (n : Int) + 1 := by omega
  clear hB hcs hcx hxl hone hxs hcl hnews hnl hcur1 hl1 hW1 hB1 hT1 hcur2 h hv hv1 hpx hpl hp1 hl hnc
  go_enter Tryd.func55, Tryd.ntmps55
  go_wp2_with (simp only [hov])
  go_region_law (refine step_copy_run rfl (.tmp 73) (.tmp 76) 38 38 rfl (.slice (some ⟨g, (i + 1) * 7, none⟩) d (c - (i + 1))) (.slice (some ⟨g, i * 7, none⟩) (d + 1) (c - i)) (by simp [Act.eval, Act.put, *]) (by simp [Act.eval, Act.put, *]) HC1.out ?_)
  all_goals
    have hC2 := HC2.out
    go_wp2
    go_ret
    exact ⟨rfl, HFin.out.1, HFin.out.2⟩
set_option maxRecDepth 100000 in
set_option maxHeartbeats 4000000 in
/-- There is none. -/
theorem ins_grow (g n c i : Nat) (l : List PaI) (hl : l.length = n) (hn : n ≤ 1000) (hi : i < n) (hc : c < n + 1) (x : PaI) (vb : Nat) (w : World) (h : w.ownsRow 0 26 7 (.slice (some ⟨g, 0, none⟩) n c) n (l.flatMap paC)) (hv : Blk w vb 26 (paC x).toArray) :
    Calls Tryd.prog 55 #[.slice (some ⟨g, 0, none⟩) n c, .int .i64 (i : Int), .slice (some ⟨vb, 0, none⟩) 1 1] w fun e w' => ∃ G, e = .returned (.slice (some ⟨w.heap.size, 0, none⟩) (n + 1) G) ∧ w'.ownsRow 0 26 7 (.slice (some ⟨w.heap.size, 0, none⟩) (n + 1) G) (n + 1) ((l.flatMap paC).take (i * 7) ++ (paC x ++ (l.flatMap paC).drop (i * 7))) ∧ Tch w w' [] := by
  obtain ⟨cur, hB, hnc, hcm, hcs, hcx⟩ := own_openN h
  have hcm : c ≤ 9223372036854775807 := by unfold maxLen at hcm; omega
  have hxl : (l.flatMap paC).length = n * 7 := by rw [flatk_len pa_seven, hl]
  have hone := flat_one pa_one l
  obtain ⟨xs, hxs⟩ : ∃ xs, l.flatMap paC = xs := ⟨_, rfl⟩
  rw [hxs] at hcx hxl hone ⊢
  obtain ⟨d, hd⟩ : ∃ d, n - i = d := ⟨_, rfl⟩
  obtain ⟨news, hnews⟩ : ∃ news, xs.drop (i * 7) = news := ⟨_, rfl⟩
  have hnl : news.length = d * 7 := by rw [← hnews, List.length_drop, hxl]; omega
  obtain ⟨olds, holds⟩ : ∃ olds, xs.take (i * 7) = olds := ⟨_, rfl⟩
  have hol : olds.length = i * 7 := by rw [← holds, List.length_take, hxl]; omega
  obtain ⟨px, hpx⟩ : ∃ px, paC x = px := ⟨_, rfl⟩
  have hpl : px.length = 7 := hpx ▸ pa_seven x
  have hp1 : ∀ u ∈ px, u.oneCell' = true := hpx ▸ pa_one x
  rw [hpx] at hv ⊢
  rw [hnews, holds]
  have hsrc : ∀ (j : Nat) (v : Value), xs[j]? = some v → w.cell? ⟨g, j, none⟩ = some v := fun j v hj => by
    rw [hB.cell, ← Array.getElem?_toList, ← hj, ← hcx, List.getElem?_take]
    have hjl := (List.getElem?_eq_some_iff.1 hj).1
    rw [hxl] at hjl
    rw [if_pos hjl]
  obtain ⟨N, hN⟩ : ∃ N, w.heap.size = N := ⟨_, rfl⟩
  rw [hN]
  have hgN : g < N := hN ▸ hB.lt
  have hvN : vb < N := hN ▸ hv.lt
  obtain ⟨G, hG⟩ : ∃ G, grownCap w (n + 1) c 26 = G := ⟨_, rfl⟩
  have hGn : n + 1 ≤ G := by rw [← hG]; exact grownCap_ge w _ _ _
  have hGm : G ≤ maxLen := by rw [← hG]; exact grownCap_le_maxLen w (n + 1) c 26 (by unfold maxLen; omega)
  have hG63 : G ≤ 9223372036854775807 := by unfold maxLen at hGm; omega
  obtain ⟨ROW, hROW⟩ : ∃ ROW : Array Value, olds.toArray ++ Builtin.zeroCells (Value.agg #[.int .i64 0, .int .i64 0, .bool false, .int .u64 0, .int .u64 0, .int .i64 0, .bool false]).cells (n + 1 - i) ++ Builtin.zeroCells (Value.agg #[.int .i64 0, .int .i64 0, .bool false, .int .u64 0, .int .u64 0, .int .i64 0, .bool false]).cells (G - (n + 1)) = ROW := ⟨_, rfl⟩
  have hRl : ROW.size = G * 7 := by
    rw [← hROW]
    simp [Builtin.zeroCells, Value.cells, hol]
    omega
  have hRt : ROW.toList.take (i * 7) = olds := by
    rw [← hROW]
    simp only [Array.toList_append, List.append_assoc]
    rw [List.take_left' hol]
  obtain ⟨W1, hW1⟩ : ∃ W1, w.drew.alloc (.cells ROW 26) = W1 := ⟨_, rfl⟩
  have hrz : ∀ ty, (Builtin.append_ #[38, 3] ty #[.slice (some ⟨g, 0, none⟩) i c, .int .i64 ((n : Int) + 1 - (i : Int))]).run Tryd.prog w = .ok (.slice (some ⟨N, 0, none⟩) (n + 1) G) W1 := fun ty => by
    obtain ⟨i0, hi0, hz0, hz1, hz2⟩ := info_parts infoPa
    have hold : (Builtin.firstCells i0.size i (.slice (some ⟨g, 0, none⟩) i c)).run Tryd.prog w.drew = .ok olds.toArray w.drew := by
      rw [hz1]
      exact run_firstCells_some w.drew 7 i ⟨g, 0, none⟩ i c olds hol (fun j v hj => by
        rw [add_lit, Nat.zero_add]
        rw [← holds, List.getElem?_take] at hj
        split at hj
        · exact hsrc j v hj
        · cases hj)
    have hh := Lib.run_append_grow_zeros w 38 3 ty 26 i0 _ .i64 .i64 Tryd.underlying38 Tryd.underlying3 hi0 hz0 (some ⟨g, 0, none⟩) i c olds hold (n + 1 - i) (by omega) (by rw [hz1]; decide) (by omega) (by omega) (by rw [hz2]; omega) (by rw [hz2, show i + (n + 1 - i) = n + 1 by omega]; exact growslice_fits hc (by omega))
    rw [show i + (n + 1 - i) = n + 1 by omega, hG, hN, hROW, hW1] at hh
    rw [show (n : Int) + 1 - (i : Int) = ((n + 1 - i : Nat) : Int) by omega]
    exact hh
  have hB1 : Blk W1 N 26 ROW := hW1 ▸ hN ▸ Blk.new w.drew _ _
  have hT1 : Tch w W1 [] := hW1 ▸ Tch.of_drew ((Tch.refl w.drew []).alloc _)
  have hv1 : Blk W1 vb 26 px.toArray := hT1.blk hv (by simp)
  obtain ⟨cur1, hcur1⟩ : ∃ cur1, (ROW.toList.take (i * 7) ++ px ++ ROW.toList.drop (i * 7 + px.length)).toArray = cur1 := ⟨_, rfl⟩
  have hl1 : cur1.toList.length = G * 7 := by rw [← hcur1, List.toList_toArray]; simp [hRl, hpl]; omega
  obtain ⟨W2, hW2⟩ : ∃ W2, W1.setRow N cur1 = W2 := ⟨_, rfl⟩
  have hB2 : Blk W2 N 26 cur1 := hW2 ▸ setRow_blk hB1
  have hT2 : Tch w W2 [] := hT1.trans_fre (hW2 ▸ setRow_tch W1 N cur1) (fun s hs => .inr (by rw [List.mem_singleton.1 hs, hN]; exact Nat.le_refl _))
  have hC2 : ∀ ty, (Builtin.copy_ #[38, 38] ty #[.slice (some ⟨N, i * 7, none⟩) (d + 1) (G - i), .slice (some ⟨vb, 0, none⟩) 1 1]).run Tryd.prog W1 = .ok (goInt 1) W2 := fun ty => by
    have := run_copy_k W1 38 38 ty 26 7 N (i * 7) (d + 1) (G - i) ⟨vb, 0, none⟩ 1 1 1 ROW 26 px Tryd.underlying38 paSz hB1 (by simp only [Nat.min_def]; split <;> omega) (by rw [hpl]) (fun j v hj => by
      rw [add_lit, hv1.cell, Nat.zero_add]; simpa using hj) (by rw [hpl, hRl]; omega) hp1
    rw [this, hcur1, hW2]
    rfl
  obtain ⟨cur2, hcur2⟩ : ∃ cur2, (cur1.toList.take ((i + 1) * 7) ++ news ++ cur1.toList.drop ((i + 1) * 7 + news.length)).toArray = cur2 := ⟨_, rfl⟩
  have HC3 : Hid (∀ ty, (Builtin.copy_ #[38, 38] ty #[.slice (some ⟨N, (i + 1) * 7, none⟩) d (G - (i + 1)), .slice (some ⟨g, i * 7, none⟩) d (c - i)]).run Tryd.prog W2.drew = .ok (goInt d) (W2.drew.setRow N cur2)) := Lib.hid (fun ty => by
    rw [run_copy_k W2.drew 38 38 ty 26 7 N ((i + 1) * 7) d (G - (i + 1)) ⟨g, i * 7, none⟩ d (c - i) d cur1 26 news Tryd.underlying38 paSz hB2 (by simp only [Nat.min_def]; split <;> omega) hnl (fun j v hj => by
      rw [add_lit]
      show W2.cell? _ = _
      rw [← hnews, List.getElem?_drop] at hj
      exact (hT2.cell (p := ⟨g, i * 7 + j, none⟩) hB.lt (by simp)).trans (hsrc _ v hj)) (by rw [hnl, ← Array.length_toList, hl1]; omega) (fun v hv => hone v (List.mem_of_mem_drop (by rw [hnews]; exact hv))), hcur2])
  have HFin : Hid ((W2.drew.setRow N cur2).ownsRow 0 26 7 (.slice (some ⟨N, 0, none⟩) (n + 1) G) (n + 1) (olds ++ (px ++ news)) ∧ Tch w (W2.drew.setRow N cur2) []) := Lib.hid (by
    refine ⟨⟨?_, .inr ⟨N, G, cur2, rfl, Nat.zero_le _, setRow_blk (w := W2.drew) hB2, hGn, hGm, ?_, ?_⟩⟩, hT2.drew.trans_fre (setRow_tch W2.drew N cur2) (fun s hs => .inr (by rw [List.mem_singleton.1 hs, hN]; exact Nat.le_refl _))⟩
    · simp [hol, hpl, hnl]; omega
    · rw [← hcur2]
      simp only [List.size_toArray, List.length_append, List.length_take, List.length_drop, hl1, hnl]
      omega
    · have e1 : cur1.toList.take ((i + 1) * 7) = olds ++ px := by
        rw [← hcur1, List.toList_toArray, hRt, List.take_left' (by simp [hol, hpl]; omega)]
      rw [← hcur2, List.toList_toArray, e1, List.take_left' (by simp [hol, hpl, hnl]; omega), List.append_assoc])
  have hb1 : ¬ (c = i) := by omega
  have hb2 : ¬ (G = i) := by omega
  have hb3 : ¬ (G = i + 1) := by omega
  have hin : i ≤ n := by omega
  have hic : i ≤ c := by omega
  have hjc : i + 1 ≤ n + 1 := by omega
  have k1 : IntKind.i64.wrap ((i : Int) + 1) = (i : Int) + 1 := by rw [IntKind.wrap_i64]; omega
  have k2 : IntKind.i64.wrap ((n : Int) + 1) = (n : Int) + 1 := by rw [IntKind.wrap_i64]; omega
  have k3 : IntKind.i64.wrap ((n : Int) + 1 - (i : Int)) = (n : Int) + 1 - (i : Int) := by rw [IntKind.wrap_i64]; omega
  have q1 : ((i : Int) == (n : Int)) = false := by simp; omega
  have q2 : (c : Int) < (n : Int) + 1 := by omega
  have q3 : (0 : Int) ≤ (i : Int) ∧ (i : Int) ≤ (n : Int) := by omega
  have q4 : (0 : Int) ≤ (i : Int) + 1 ∧ (i : Int) + 1 ≤ (n : Int) + 1 := by omega
  have q6 : n + 1 - i = d + 1 := by omega
  have q7 : (i : Int) ≤ (n : Int) + 1 := by omega
  have q8 : (i : Int) ≤ (c : Int) := by omega
  clear hB hcs hcx hxl hone hxs hnews hnl hcur1 hl1 hW1 hB1 hT1 hcur2 h hv hv1 hpx hpl hp1 hl hnc hsrc hROW hRl hRt holds hol hG hGm hN hgN hvN hW2 hB2 hT2
  go_enter Tryd.func55, Tryd.ntmps55
  go_wp2_with (at_builtin; refine Lib.wpList_append_run _ rfl (.tmp 34) (.tmp 39) 38 3 rfl _ _ rfl rfl _ _ (hrz _) ?_)
  go_region_law (refine step_copy_run rfl (.tmp 50) (.tmp 53) 38 38 rfl (.slice (some ⟨N, (i + 1) * 7, none⟩) d (G - (i + 1))) (.slice (some ⟨g, i * 7, none⟩) d (c - i)) (by simp [Act.eval, Act.put, *]) (by simp [Act.eval, Act.put, *]) HC3.out ?_)
  all_goals
    go_wp2
    go_ret
    exact ⟨G, rfl, HFin.out.1, HFin.out.2⟩
/-- slices.Insert of one path. -/
theorem ins_pa (A : Option Addr) (n c i : Nat) (l : List PaI) (hl : l.length = n) (hn : n ≤ 1000) (hi : i ≤ n) (x : PaI) (vb : Nat) (w : World) (h : w.ownsRow 0 26 7 (.slice A n c) n (l.flatMap paC)) (hv : Blk w vb 26 (paC x).toArray) (hne : ∀ s ∈ obI (.slice A n c), vb ≠ s) :
    Calls Tryd.prog 55 #[.slice A n c, .int .i64 (i : Int), .slice (some ⟨vb, 0, none⟩) 1 1] w fun e w' => ∃ A' c', e = .returned (.slice A' (n + 1) c') ∧ w'.ownsRow 0 26 7 (.slice A' (n + 1) c') (n + 1) ((l.take i ++ x :: l.drop i).flatMap paC) ∧ Tch w w' (obI (.slice A n c)) ∧ ∀ s ∈ obI (.slice A' (n + 1) c'), s ∈ obI (.slice A n c) ∨ w.heap.size ≤ s := by
  rw [ins_flat hl hi]
  by_cases hin : i = n
  · subst hin
    have hxl : (l.flatMap paC).length = i * 7 := by rw [flatk_len pa_seven, hl]
    have e1 : (l.flatMap paC).take (i * 7) = l.flatMap paC := List.take_of_length_le (by omega)
    have e2 : (l.flatMap paC).drop (i * 7) = [] := List.drop_of_length_le (by omega)
    rw [e1, e2, List.append_nil]
    exact ins_end A i c l hl hn x vb w h hv
  · obtain ⟨g, rfl⟩ := slice_some h (by omega)
    have hvg : vb ≠ g := hne g (by simp [obI, Value.ownBlock])
    by_cases hc : n + 1 ≤ c
    · refine (ins_room g n c i l hl hn (by omega) hc x vb hvg w h hv).mono ?_
      rintro e w' ⟨rfl, ho, ht⟩
      exact ⟨_, c, rfl, ho, ht, fun s hs => .inl hs⟩
    · refine (ins_grow g n c i l hl hn (by omega) (by omega) x vb w h hv).mono ?_
      rintro e w' ⟨G, rfl, ho, ht⟩
      exact ⟨_, G, rfl, ho, ht.mono (by simp), fun s hs => .inr (by
        simp [obI, Value.ownBlock] at hs
        omega)⟩
def insP (l : List PaI) (x : PaI) : List PaI := if fndI (fun y => betI x y) l = 0 then l ++ [x] else l.take (fndI (fun y => betI x y) l - 1) ++ x :: l.drop (fndI (fun y => betI x y) l - 1)
set_option maxRecDepth 100000 in
set_option maxHeartbeats 4000000 in
theorem insert_any (A : Option Addr) (n c : Nat) (l : List PaI) (hl : l.length = n) (hn : n ≤ 1000) (x : PaI) (w : World) (hE : EnvR w) (h : w.ownsRow 0 26 7 (.slice A n c) n (l.flatMap paC)) :
    Calls Tryd.prog 35 #[.slice A n c, paR x] w fun e w' => ∃ A' c', e = .returned (.slice A' (n + 1) c') ∧ w'.ownsRow 0 26 7 (.slice A' (n + 1) c') (n + 1) ((insP l x).flatMap paC) ∧ Tch w w' (obI (.slice A n c)) ∧ ∀ s ∈ obI (.slice A' (n + 1) c'), s ∈ obI (.slice A n c) ∨ w.heap.size ≤ s := by
  obtain ⟨k, hk⟩ : ∃ k, fndI (fun y => betI x y) l = k := ⟨_, rfl⟩
  have hkn : k ≤ n := by rw [← hk, ← hl]; exact fndI_le _ _
  have HI := Lib.hid (fun W (hT : Tch w W []) => idx_bet x A n c l hl hn W (own_tch h hT (by simp)) (hE.tch0 hT))
  rw [hk] at HI
  have hIns : ∀ (i : Nat), i ≤ n → ∀ W, Tch w W [] → Calls Tryd.prog 55 #[.slice A n c, .int .i64 (i : Int), .slice (some ⟨W.heap.size, 0, none⟩) 1 1] (W.alloc (.cells (paC x).toArray 26)) fun e w' => ∃ A' c', e = .returned (.slice A' (n + 1) c') ∧ w'.ownsRow 0 26 7 (.slice A' (n + 1) c') (n + 1) ((l.take i ++ x :: l.drop i).flatMap paC) ∧ Tch w w' (obI (.slice A n c)) ∧ ∀ s ∈ obI (.slice A' (n + 1) c'), s ∈ obI (.slice A n c) ∨ w.heap.size ≤ s := fun i hi W hT => by
    have hsz := hT.size
    refine (ins_pa A n c i l hl hn hi x W.heap.size _ ((own_tch h hT (by simp)).alloc _) (Blk.new _ _ _) (fun s hs => by have := own_lts h s hs; omega)).mono ?_
    rintro e w' ⟨A', c', rfl, ho, ht, hf⟩
    exact ⟨A', c', rfl, ho, ((hT.alloc _).mono (by simp)).trans ht, fun s hs => (hf s hs).imp id (fun h => by rw [World.size_alloc] at h; omega)⟩
  have HIns := Lib.hid hIns
  obtain ⟨L, hL⟩ : ∃ L, insP l x = L := ⟨_, rfl⟩
  rw [hL]
  unfold insP at hL
  rw [hk] at hL
  have HL : Hid ((k = 0 → l ++ [x] = L) ∧ (∀ j, k = j + 1 → l.take j ++ x :: l.drop j = L)) := Lib.hid ⟨fun e => by rw [← hL, if_pos e], fun j e => by rw [← hL, if_neg (by omega), e, Nat.add_sub_cancel]⟩
  have HEnd : Hid (l.take n ++ x :: l.drop n = l ++ [x]) := Lib.hid (by rw [List.take_of_length_le (by omega), List.drop_of_length_le (by omega)])
  clear hk hL h hl hn hE hIns
  obtain ⟨pr, me, ⟨vs, vh, vl⟩, po, aw⟩ := x
  obtain ⟨xb, hxb⟩ : ∃ xb, w.heap.size = xb := ⟨_, rfl⟩
  obtain ⟨W0, hW0⟩ : ∃ W, w.alloc (.cells #[.int .i64 pr, .int .i64 me, .bool vs, .int .u64 (vh : Int), .int .u64 (vl : Int), .int .i64 po, .bool aw] 26) = W := ⟨_, rfl⟩
  have hX : Blk W0 xb 26 #[.int .i64 pr, .int .i64 me, .bool vs, .int .u64 (vh : Int), .int .u64 (vl : Int), .int .i64 po, .bool aw] := hW0 ▸ hxb ▸ Blk.new _ _ _
  have hT0 : Tch w W0 [] := hW0 ▸ (Tch.refl w []).alloc _
  have HC := Lib.hid (HI.out W0 hT0)
  have HT0 := Lib.hid hT0
  have HX := Lib.hid hX
  obtain ⟨x0, x1, x2, x3, x4, x5, x6⟩ := hX.p7
  clear hX hT0 HI
  go_enter Tryd.func35, Tryd.ntmps35
  go_wp2_with fail
  refine Calls.mono HC.out ?_
  rintro e w1 ⟨rfl, hT⟩
  have HT1 := Lib.hid (HT0.out.trans hT)
  obtain ⟨y0, y1, y2, y3, y4, y5, y6⟩ := (hT.blk HX.out (by simp)).p7
  clear hT x0 x1 x2 x3 x4 x5 x6
  rcases Nat.eq_zero_or_pos k with h0 | h0
  · subst h0
    have HI2 := Lib.hid (HIns.out n (Nat.le_refl _) w1 HT1.out)
    rw [HEnd.out, HL.out.1 rfl] at HI2
    have i0 : ((0 : Nat) : Int) - 1 < 0 := by omega
    go_wp2_with (go_at_call 55; refine Calls.mono HI2.out ?_; rintro e w' ⟨A', c', rfl, ho, ht, hf⟩; have HH := Lib.hid (And.intro ho (And.intro ht hf)); clear ho ht hf)
    go_ret
    exact ⟨A', c', rfl, HH.out.1, HH.out.2.1, HH.out.2.2⟩
  · obtain ⟨j, rfl⟩ : ∃ j, k = j + 1 := ⟨k - 1, by omega⟩
    have HI2 := Lib.hid (HIns.out j (by omega) w1 HT1.out)
    rw [HL.out.2 j rfl] at HI2
    have e0 : ((j + 1 : Nat) : Int) - 1 = (j : Int) := by omega
    rw [e0]
    have i0 : ¬ (j : Int) < 0 := by omega
    clear e0 HL h0 hkn HC
    go_wp2_with (go_at_call 55; refine Calls.mono HI2.out ?_; rintro e w' ⟨A', c', rfl, ho, ht, hf⟩; have HH := Lib.hid (And.intro ho (And.intro ht hf)); clear ho ht hf)
    go_ret
    exact ⟨A', c', rfl, HH.out.1, HH.out.2.1, HH.out.2.2⟩
end Go.Proofs.YtjlmgkdieffjcaaDoor
