/-
  Several texts in one: RpF, RpU, Groups.
-/
import Derived.Test.YtgfkmgbcajdcdaaGreatDoorZag
import Derived.Test.YtgfkmgbcajdcdaaGreatDoorZab
import Derived.Test.YtgfkmgbcajdcdaaGreatDoorZaa
set_option linter.unusedVariables false
set_option maxRecDepth 100000
set_option maxHeartbeats 16000000
namespace Go.Proofs.YtgfkmgbcajdcdaaGreatDoor
open Go.RowKit

theorem ins_flat {l : List PaI} {i n : Nat} (hl : l.length = n) (hi : i ≤ n) (x : PaI) : (l.take i ++ x :: l.drop i).flatMap paC = (l.flatMap paC).take (i * 7) ++ (paC x ++ (l.flatMap paC).drop (i * 7)) := by
 have e1 : (l.take i).flatMap paC = (l.flatMap paC).take (i * 7) := by
  conv => rhs; rw [← List.take_append_drop i l, List.flatMap_append]
  rw [List.take_left' (by rw [flatk_len pa_seven, List.length_take]; omega)]
 have e2 : (l.drop i).flatMap paC = (l.flatMap paC).drop (i * 7) := by
  conv => rhs; rw [← List.take_append_drop i l, List.flatMap_append]
  rw [List.drop_left' (by rw [flatk_len pa_seven, List.length_take]; omega)]
 rw [List.flatMap_append, List.flatMap_cons, e1, e2]
theorem ins_tail {w w5 : World} {V v9 : Value} (hg : w.grownBy w5 V.ownBlock) (hv : v9.ownBlock = V.ownBlock ∨ v9.ownBlock = some w.heap.size) {S : List Nat} (hS : obI V = S) : Tch w w5 S ∧ ∀ s ∈ obI v9, s ∈ S ∨ w.heap.size ≤ s := by
 subst hS
 refine ⟨Tch.of_grown' hg (fun k hk => by rw [obI_some hk]; simp), fun s hs => ?_⟩
 rcases hv with e | e
 ·refine .inl ?_
  unfold obI at hs ⊢
  rw [← e]
  exact hs
 ·refine .inr ?_
  unfold obI at hs
  rw [e] at hs
  rw [List.mem_singleton.1 hs]
  exact Nat.le_refl _
theorem ins_end (A : Option Addr) (n c : Nat) (l : List PaI) (hl : l.length = n) (hn : n ≤ 1000) (x : PaI) (vb : Nat) (w : World) (h : w.ownsRow 0 49 7 (.slice A n c) n (l.flatMap paC)) (hv : Blk w vb 49 (paC x).toArray) :
  Calls Tryz.prog 125 #[.slice A n c, .int .i64 (n : Int), .slice (some ⟨vb, 0, none⟩) 1 1] w fun e w' => ∃ A' c', e = .returned (.slice A' (n + 1) c') ∧ w'.ownsRow 0 49 7 (.slice A' (n + 1) c') (n + 1) (l.flatMap paC ++ paC x) ∧ Tch w w' (obI (.slice A n c)) ∧ ∀ s ∈ obI (.slice A' (n + 1) c'), s ∈ obI (.slice A n c) ∨ w.heap.size ≤ s := by
 have HSrc : Hid (∀ j u, (paC x)[j]? = some u → w.cell? ((⟨vb, 0, none⟩ : Addr).add j) = some u) := lH (fun j u hj => by rw [add_lit, hv.cell, Nat.zero_add]; simpa using hj)
 have HO := lH h
 have HN := lH hn
 have hnc : n ≤ c := by
  rcases h.2 with ⟨e, -⟩ | ⟨g, cap, cur, e, h1, h2, h3, -⟩
  ·injection e with e1 e2 e3; omega
  ·injection e with e1 e2 e3; omega
 have hA : A = none ∨ ∃ g, A = some ⟨g, 0, none⟩ := by
  rcases sl_cases h with ⟨e, -⟩ | ⟨g, e⟩
  ·exact .inl e
  ·exact .inr ⟨g, e⟩
 have i0 : (0 : Int) ≤ (n : Int) := by omega
 clear h hn hv hl
 rcases hA with rfl | ⟨g, rfl⟩
 ·go_enter Tryz.func125, Tryz.ntmps125
  go_wp2_with (at_builtin; (refine wpList_apc 118 49 (.agg #[.int .i64 0, .int .i64 0, .bool false, .int .u64 0, .int .u64 0, .int .i64 0, .bool false]) 7 56 Tryz.underlying118 infoPa rfl (by decide) (by decide) _ rfl (.tmp 23) (.tmp 24) rfl 0 (.slice none n c) n (l.flatMap paC) rfl HO.out ⟨vb, 0, none⟩ 1 (paC x) rfl rfl HSrc.out (pa_one x) (by have := HN.out; omega) (Nat.zero_le _) ?_; intro v9 w5 hown hg hv; have HO5 := lH hown; have HG5 := lH hg; have HV5 := lH hv; clear hown hg hv))
  all_goals
   go_ret
   obtain ⟨A', c', e, -, -⟩ := own_sl HO5.out
   subst e
   have hq := ins_tail HG5.out HV5.out rfl
   exact ⟨A', c', rfl, HO5.out, hq.1, hq.2⟩
 ·go_enter Tryz.func125, Tryz.ntmps125
  go_wp2_with (at_builtin; (refine wpList_apc 118 49 (.agg #[.int .i64 0, .int .i64 0, .bool false, .int .u64 0, .int .u64 0, .int .i64 0, .bool false]) 7 56 Tryz.underlying118 infoPa rfl (by decide) (by decide) _ rfl (.tmp 23) (.tmp 24) rfl 0 (.slice (some ⟨g, 0, none⟩) n c) n (l.flatMap paC) rfl HO.out ⟨vb, 0, none⟩ 1 (paC x) rfl rfl HSrc.out (pa_one x) (by have := HN.out; omega) (Nat.zero_le _) ?_; intro v9 w5 hown hg hv; have HO5 := lH hown; have HG5 := lH hg; have HV5 := lH hv; clear hown hg hv))
  all_goals
   go_ret
   obtain ⟨A', c', e, -, -⟩ := own_sl HO5.out
   subst e
   have hq := ins_tail HG5.out HV5.out rfl
   exact ⟨A', c', rfl, HO5.out, hq.1, hq.2⟩
theorem blk_shape {w : World} {g : Nat} {t : TypeId} {cs : Array Value} (h : Blk w g t cs) : w.shape? g = some (t, cs.size) := by
 unfold Blk at h
 simp [World.shape?, h]
theorem paszof (w : World) : (Go.sizeOf 49).run Tryz.prog w = .ok 7 w := by kernel_rfl
theorem ins_room (g n c i : Nat) (l : List PaI) (hl : l.length = n) (hn : n ≤ 1000) (hi : i < n) (hc : n + 1 ≤ c) (x : PaI) (vb : Nat) (hne : vb ≠ g) (w : World) (h : w.ownsRow 0 49 7 (.slice (some ⟨g, 0, none⟩) n c) n (l.flatMap paC)) (hv : Blk w vb 49 (paC x).toArray) :
  Calls Tryz.prog 125 #[.slice (some ⟨g, 0, none⟩) n c, .int .i64 (i : Int), .slice (some ⟨vb, 0, none⟩) 1 1] w fun e w' => e = .returned (.slice (some ⟨g, 0, none⟩) (n + 1) c) ∧ w'.ownsRow 0 49 7 (.slice (some ⟨g, 0, none⟩) (n + 1) c) (n + 1) ((l.flatMap paC).take (i * 7) ++ (paC x ++ (l.flatMap paC).drop (i * 7))) ∧ Tch w w' [g] := by
 obtain ⟨cur, hB, hnc, hcm, hcs, hcx⟩ := own_openN h
 have hcm : c ≤ 9223372036854775807 := by unfold maxLen at hcm; omega
 have hxl : (l.flatMap paC).length = n * 7 := by rw [flatk_len pa_seven, hl]
 have hone := flat_one pa_one l
 obtain ⟨xs, hxs⟩ : ∃ xs, l.flatMap paC = xs := ⟨_, rfl⟩
 rw [hxs] at hcx hxl hone ⊢
 have hcl : cur.toList.length = c * 7 := by rw [Array.length_toList]; exact hcs
 obtain ⟨d, hd⟩ : ∃ d, n - i = d := ⟨_, rfl⟩
 obtain ⟨news, hnews⟩ : ∃ news, xs.drop (i * 7) = news := ⟨_, rfl⟩
 have hnl : news.length = d * 7 := by rw [← hnews, List.length_drop, hxl]; omega
 obtain ⟨px, hpx⟩ : ∃ px, paC x = px := ⟨_, rfl⟩
 have hpl : px.length = 7 := hpx ▸ pa_seven x
 have hp1 : ∀ u ∈ px, u.oneCell' = true := hpx ▸ pa_one x
 rw [hpx] at hv ⊢
 have hov : ∀ lb cb, (callFunc 164 #[.slice (some ⟨vb, 0, none⟩) 1 1, .slice (some ⟨g, (i + 1) * 7, none⟩) lb cb]).run Tryz.prog w = .ok (.value (.bool false)) w := fun lb cb => by
  rw [run_callFunc_extern Tryz.func164 (by kernel_rfl) (by kernel_rfl) (by kernel_rfl) (e := Extern.SlicesOverlaps.overlaps #[118, 118] #[4]) (by kernel_rfl),
   Lib.run_overlaps_apart w 118 4 49 Tryz.underlying118 7 paszof ⟨vb, 0, none⟩ ⟨g, (i + 1) * 7, none⟩ 1 1 lb cb hne _ _ _ _ (blk_shape hv) (blk_shape hB) (by omega) (hv.frozen _) (hv.frozen _)]
  rfl
 obtain ⟨cur1, hcur1⟩ : ∃ cur1, (cur.toList.take ((i + 1) * 7) ++ news ++ cur.toList.drop ((i + 1) * 7 + news.length)).toArray = cur1 := ⟨_, rfl⟩
 have hl1 : cur1.toList.length = c * 7 := by rw [← hcur1, List.toList_toArray]; simp [hcl, hnl]; omega
 obtain ⟨W1, hW1⟩ : ∃ W1, w.drew.setRow g cur1 = W1 := ⟨_, rfl⟩
 have hB1 : Blk W1 g 49 cur1 := hW1 ▸ setRow_blk (w := w.drew) hB
 have hT1 : Tch w W1 [g] := hW1 ▸ Tch.of_drew (setRow_tch w.drew g cur1)
 have hv1 : Blk W1 vb 49 px.toArray := hT1.blk hv (by simpa using hne)
 have HC1 : Hid (∀ ty, (Builtin.copy_ #[118, 118] ty #[.slice (some ⟨g, (i + 1) * 7, none⟩) d (c - (i + 1)), .slice (some ⟨g, i * 7, none⟩) (d + 1) (c - i)]).run Tryz.prog w.drew = .ok (goInt d) W1) := lH (fun ty => by
  rw [run_copy_k w.drew 118 118 ty 49 7 g ((i + 1) * 7) d (c - (i + 1)) ⟨g, i * 7, none⟩ (d + 1) (c - i) d cur 49 news Tryz.underlying118 paSz hB (by simp only [Nat.min_def]; split <;> omega) hnl (fun j v hj => by
   rw [add_lit]
   show w.cell? _ = _
   rw [← hnews, List.getElem?_drop] at hj
   rw [hB.cell, ← Array.getElem?_toList, ← hj, ← hcx, List.getElem?_take]
   have hjl := (List.getElem?_eq_some_iff.1 hj).1
   rw [hxl] at hjl
   rw [if_pos hjl]) (by rw [hnl, hcs]; omega) (fun v hv => hone v (List.mem_of_mem_drop (by rw [hnews]; exact hv))), hcur1, hW1])
 obtain ⟨cur2, hcur2⟩ : ∃ cur2, (cur1.toList.take (i * 7) ++ px ++ cur1.toList.drop (i * 7 + px.length)).toArray = cur2 := ⟨_, rfl⟩
 have HC2 : Hid (∀ ty, (Builtin.copy_ #[118, 118] ty #[.slice (some ⟨g, i * 7, none⟩) (d + 1) (c - i), .slice (some ⟨vb, 0, none⟩) 1 1]).run Tryz.prog W1 = .ok (goInt 1) (W1.setRow g cur2)) := lH (fun ty => by
  have := run_copy_k W1 118 118 ty 49 7 g (i * 7) (d + 1) (c - i) ⟨vb, 0, none⟩ 1 1 1 cur1 49 px Tryz.underlying118 paSz hB1 (by simp only [Nat.min_def]; split <;> omega) (by rw [hpl]) (fun j v hj => by
   rw [add_lit, hv1.cell, Nat.zero_add]; simpa using hj) (by rw [hpl, ← Array.length_toList, hl1]; omega) hp1
  rw [this, hcur2]
  rfl)
 have HFin : Hid ((W1.setRow g cur2).ownsRow 0 49 7 (.slice (some ⟨g, 0, none⟩) (n + 1) c) (n + 1) (xs.take (i * 7) ++ (px ++ xs.drop (i * 7))) ∧ Tch w (W1.setRow g cur2) [g]) := lH (by
  refine ⟨⟨?_, .inr ⟨g, c, cur2, rfl, Nat.zero_le _, setRow_blk hB1, by omega, by unfold maxLen; omega, ?_, ?_⟩⟩, hT1.trans (setRow_tch W1 g cur2)⟩
  ·simp [hxl, hpl]; omega
  ·rw [← hcur2]
   simp only [List.size_toArray, List.length_append, List.length_take, List.length_drop, hl1, hpl]
   omega
  ·have e1 : cur1.toList.take (i * 7) = xs.take (i * 7) := by
    rw [← hcur1, List.toList_toArray, List.append_assoc, List.take_append_of_le_length (by rw [List.length_take, hcl]; omega), List.take_take, Nat.min_eq_left (by omega), take_cut hcx (by omega)]
   have e2 : cur1.toList.drop (i * 7 + px.length) = news ++ cur.toList.drop ((i + 1) * 7 + news.length) := by
    rw [← hcur1, List.toList_toArray, List.append_assoc, List.drop_left' (by rw [List.length_take, hcl, hpl]; omega)]
   rw [← hcur2, List.toList_toArray, e1, e2, hnews, List.append_assoc, ← List.append_assoc px, ← List.append_assoc (xs.take (i * 7)), List.take_left' (by simp [hxl, hpl, hnl]; omega)])
 have hb2 : ¬ (c = i + 1) := by omega
 have hb4 : ¬ (c = i) := by omega
 have hin : i ≤ n := by omega
 have hic : i ≤ c := by omega
 have hjc : i + 1 ≤ c := by omega
 have hnc1 : n + 1 ≤ c := hc
 have k1 : IntKind.i64.wrap ((i : Int) + 1) = (i : Int) + 1 := by rw [IntKind.wrap_i64]; omega
 have k2 : IntKind.i64.wrap ((n : Int) + 1) = (n : Int) + 1 := by rw [IntKind.wrap_i64]; omega
 have q1 : ((i : Int) == (n : Int)) = false := by simp; omega
 have q2 : ¬ ((c : Int) < (n : Int) + 1) := by omega
 have q3 : (0 : Int) ≤ (i : Int) ∧ (i : Int) ≤ (n : Int) := by omega
 have q4 : (0 : Int) ≤ (i : Int) + 1 ∧ (i : Int) + 1 ≤ (n : Int) + 1 := by omega
 have q5 : (0 : Int) ≤ (n : Int) + 1 ∧ (n : Int) + 1 ≤ (c : Int) := by omega
 have q6 : n + 1 - i = d + 1 := by omega
 have q7 : (i : Int) ≤ (n : Int) + 1 := by omega
 clear hB hcs hcx hxl hone hxs hcl hnews hnl hcur1 hl1 hW1 hB1 hT1 hcur2 h hv hv1 hpx hpl hp1 hl hnc
 go_enter Tryz.func125, Tryz.ntmps125
 go_wp2_with (simp only [hov])
 go_region_law (refine step_copy_run rfl (.tmp 73) (.tmp 76) 118 118 rfl (.slice (some ⟨g, (i + 1) * 7, none⟩) d (c - (i + 1))) (.slice (some ⟨g, i * 7, none⟩) (d + 1) (c - i)) (by simp [Act.eval, Act.put, *]) (by simp [Act.eval, Act.put, *]) HC1.out ?_)
 all_goals
  have hC2 := HC2.out
  go_wp2
  go_ret
  exact ⟨rfl, HFin.out.1, HFin.out.2⟩
theorem ins_grow (g n c i : Nat) (l : List PaI) (hl : l.length = n) (hn : n ≤ 1000) (hi : i < n) (hc : c < n + 1) (x : PaI) (vb : Nat) (w : World) (h : w.ownsRow 0 49 7 (.slice (some ⟨g, 0, none⟩) n c) n (l.flatMap paC)) (hv : Blk w vb 49 (paC x).toArray) :
  Calls Tryz.prog 125 #[.slice (some ⟨g, 0, none⟩) n c, .int .i64 (i : Int), .slice (some ⟨vb, 0, none⟩) 1 1] w fun e w' => ∃ G, e = .returned (.slice (some ⟨w.heap.size, 0, none⟩) (n + 1) G) ∧ w'.ownsRow 0 49 7 (.slice (some ⟨w.heap.size, 0, none⟩) (n + 1) G) (n + 1) ((l.flatMap paC).take (i * 7) ++ (paC x ++ (l.flatMap paC).drop (i * 7))) ∧ Tch w w' [] := by
 obtain ⟨cur, hB, hnc, hcm, hcs, hcx⟩ := own_openN h
 have hcm : c ≤ 9223372036854775807 := by unfold maxLen at hcm; omega
 have hxl : (l.flatMap paC).length = n * 7 := by rw [flatk_len pa_seven, hl]
 have hone := flat_one pa_one l
 obtain ⟨xs, hxs⟩ : ∃ xs, l.flatMap paC = xs := ⟨_, rfl⟩
 rw [hxs] at hcx hxl hone ⊢
 obtain ⟨d, hd⟩ : ∃ d, n - i = d := ⟨_, rfl⟩
 obtain ⟨news, hnews⟩ : ∃ news, xs.drop (i * 7) = news := ⟨_, rfl⟩
 have hnl : news.length = d * 7 := by rw [← hnews, List.length_drop, hxl]; omega
 obtain ⟨olds, holds⟩ : ∃ olds, xs.take (i * 7) = olds := ⟨_, rfl⟩
 have hol : olds.length = i * 7 := by rw [← holds, List.length_take, hxl]; omega
 obtain ⟨px, hpx⟩ : ∃ px, paC x = px := ⟨_, rfl⟩
 have hpl : px.length = 7 := hpx ▸ pa_seven x
 have hp1 : ∀ u ∈ px, u.oneCell' = true := hpx ▸ pa_one x
 rw [hpx] at hv ⊢
 rw [hnews, holds]
 have hsrc : ∀ (j : Nat) (v : Value), xs[j]? = some v → w.cell? ⟨g, j, none⟩ = some v := fun j v hj => by
  rw [hB.cell, ← Array.getElem?_toList, ← hj, ← hcx, List.getElem?_take]
  have hjl := (List.getElem?_eq_some_iff.1 hj).1
  rw [hxl] at hjl
  rw [if_pos hjl]
 obtain ⟨N, hN⟩ : ∃ N, w.heap.size = N := ⟨_, rfl⟩
 rw [hN]
 have hgN : g < N := hN ▸ hB.lt
 have hvN : vb < N := hN ▸ hv.lt
 obtain ⟨G, hG⟩ : ∃ G, grownCap w (n + 1) c 49 = G := ⟨_, rfl⟩
 have hGn : n + 1 ≤ G := by rw [← hG]; exact grownCap_ge w _ _ _
 have hGm : G ≤ maxLen := by rw [← hG]; exact grownCap_le_maxLen w (n + 1) c 49 (by unfold maxLen; omega)
 have hG63 : G ≤ 9223372036854775807 := by unfold maxLen at hGm; omega
 obtain ⟨ROW, hROW⟩ : ∃ ROW : Array Value, olds.toArray ++ Builtin.zeroCells (Value.agg #[.int .i64 0, .int .i64 0, .bool false, .int .u64 0, .int .u64 0, .int .i64 0, .bool false]).cells (n + 1 - i) ++ Builtin.zeroCells (Value.agg #[.int .i64 0, .int .i64 0, .bool false, .int .u64 0, .int .u64 0, .int .i64 0, .bool false]).cells (G - (n + 1)) = ROW := ⟨_, rfl⟩
 have hRl : ROW.size = G * 7 := by
  rw [← hROW]
  simp [Builtin.zeroCells, Value.cells, hol]
  omega
 have hRt : ROW.toList.take (i * 7) = olds := by
  rw [← hROW]
  simp only [Array.toList_append, List.append_assoc]
  rw [List.take_left' hol]
 obtain ⟨W1, hW1⟩ : ∃ W1, w.drew.alloc (.cells ROW 49) = W1 := ⟨_, rfl⟩
 have hrz : ∀ ty, (Builtin.append_ #[118, 3] ty #[.slice (some ⟨g, 0, none⟩) i c, .int .i64 ((n : Int) + 1 - (i : Int))]).run Tryz.prog w = .ok (.slice (some ⟨N, 0, none⟩) (n + 1) G) W1 := fun ty => by
  obtain ⟨i0, hi0, hz0, hz1, hz2⟩ := info_parts infoPa
  have hold : (Builtin.firstCells i0.size i (.slice (some ⟨g, 0, none⟩) i c)).run Tryz.prog w.drew = .ok olds.toArray w.drew := by
   rw [hz1]
   exact run_firstCells_some w.drew 7 i ⟨g, 0, none⟩ i c olds hol (fun j v hj => by
    rw [add_lit, Nat.zero_add]
    rw [← holds, List.getElem?_take] at hj
    split at hj
    ·exact hsrc j v hj
    ·cases hj)
  have hh := Lib.run_append_grow_zeros w 118 3 ty 49 i0 _ .i64 .i64 Tryz.underlying118 Tryz.underlying3 hi0 hz0 (some ⟨g, 0, none⟩) i c olds hold (n + 1 - i) (by omega) (by rw [hz1]; decide) (by omega) (by omega) (by rw [hz2]; omega) (by rw [hz2, show i + (n + 1 - i) = n + 1 by omega]; exact growslice_fits hc (by omega))
  rw [show i + (n + 1 - i) = n + 1 by omega, hG, hN, hROW, hW1] at hh
  rw [show (n : Int) + 1 - (i : Int) = ((n + 1 - i : Nat) : Int) by omega]
  exact hh
 have hB1 : Blk W1 N 49 ROW := hW1 ▸ hN ▸ Blk.new w.drew _ _
 have hT1 : Tch w W1 [] := hW1 ▸ Tch.of_drew ((Tch.refl w.drew []).alloc _)
 have hv1 : Blk W1 vb 49 px.toArray := hT1.blk hv (by simp)
 obtain ⟨cur1, hcur1⟩ : ∃ cur1, (ROW.toList.take (i * 7) ++ px ++ ROW.toList.drop (i * 7 + px.length)).toArray = cur1 := ⟨_, rfl⟩
 have hl1 : cur1.toList.length = G * 7 := by rw [← hcur1, List.toList_toArray]; simp [hRl, hpl]; omega
 obtain ⟨W2, hW2⟩ : ∃ W2, W1.setRow N cur1 = W2 := ⟨_, rfl⟩
 have hB2 : Blk W2 N 49 cur1 := hW2 ▸ setRow_blk hB1
 have hT2 : Tch w W2 [] := hT1.trans_fre (hW2 ▸ setRow_tch W1 N cur1) (fun s hs => .inr (by rw [List.mem_singleton.1 hs, hN]; exact Nat.le_refl _))
 have hC2 : ∀ ty, (Builtin.copy_ #[118, 118] ty #[.slice (some ⟨N, i * 7, none⟩) (d + 1) (G - i), .slice (some ⟨vb, 0, none⟩) 1 1]).run Tryz.prog W1 = .ok (goInt 1) W2 := fun ty => by
  have := run_copy_k W1 118 118 ty 49 7 N (i * 7) (d + 1) (G - i) ⟨vb, 0, none⟩ 1 1 1 ROW 49 px Tryz.underlying118 paSz hB1 (by simp only [Nat.min_def]; split <;> omega) (by rw [hpl]) (fun j v hj => by
   rw [add_lit, hv1.cell, Nat.zero_add]; simpa using hj) (by rw [hpl, hRl]; omega) hp1
  rw [this, hcur1, hW2]
  rfl
 obtain ⟨cur2, hcur2⟩ : ∃ cur2, (cur1.toList.take ((i + 1) * 7) ++ news ++ cur1.toList.drop ((i + 1) * 7 + news.length)).toArray = cur2 := ⟨_, rfl⟩
 have HC3 : Hid (∀ ty, (Builtin.copy_ #[118, 118] ty #[.slice (some ⟨N, (i + 1) * 7, none⟩) d (G - (i + 1)), .slice (some ⟨g, i * 7, none⟩) d (c - i)]).run Tryz.prog W2.drew = .ok (goInt d) (W2.drew.setRow N cur2)) := lH (fun ty => by
  rw [run_copy_k W2.drew 118 118 ty 49 7 N ((i + 1) * 7) d (G - (i + 1)) ⟨g, i * 7, none⟩ d (c - i) d cur1 49 news Tryz.underlying118 paSz hB2 (by simp only [Nat.min_def]; split <;> omega) hnl (fun j v hj => by
   rw [add_lit]
   show W2.cell? _ = _
   rw [← hnews, List.getElem?_drop] at hj
   exact (hT2.cell (p := ⟨g, i * 7 + j, none⟩) hB.lt (by simp)).trans (hsrc _ v hj)) (by rw [hnl, ← Array.length_toList, hl1]; omega) (fun v hv => hone v (List.mem_of_mem_drop (by rw [hnews]; exact hv))), hcur2])
 have HFin : Hid ((W2.drew.setRow N cur2).ownsRow 0 49 7 (.slice (some ⟨N, 0, none⟩) (n + 1) G) (n + 1) (olds ++ (px ++ news)) ∧ Tch w (W2.drew.setRow N cur2) []) := lH (by
  refine ⟨⟨?_, .inr ⟨N, G, cur2, rfl, Nat.zero_le _, setRow_blk (w := W2.drew) hB2, hGn, hGm, ?_, ?_⟩⟩, hT2.drew.trans_fre (setRow_tch W2.drew N cur2) (fun s hs => .inr (by rw [List.mem_singleton.1 hs, hN]; exact Nat.le_refl _))⟩
  ·simp [hol, hpl, hnl]; omega
  ·rw [← hcur2]
   simp only [List.size_toArray, List.length_append, List.length_take, List.length_drop, hl1, hnl]
   omega
  ·have e1 : cur1.toList.take ((i + 1) * 7) = olds ++ px := by
    rw [← hcur1, List.toList_toArray, hRt, List.take_left' (by simp [hol, hpl]; omega)]
   rw [← hcur2, List.toList_toArray, e1, List.take_left' (by simp [hol, hpl, hnl]; omega), List.append_assoc])
 have hb1 : ¬ (c = i) := by omega
 have hb2 : ¬ (G = i) := by omega
 have hb3 : ¬ (G = i + 1) := by omega
 have hin : i ≤ n := by omega
 have hic : i ≤ c := by omega
 have hjc : i + 1 ≤ n + 1 := by omega
 have k1 : IntKind.i64.wrap ((i : Int) + 1) = (i : Int) + 1 := by rw [IntKind.wrap_i64]; omega
 have k2 : IntKind.i64.wrap ((n : Int) + 1) = (n : Int) + 1 := by rw [IntKind.wrap_i64]; omega
 have k3 : IntKind.i64.wrap ((n : Int) + 1 - (i : Int)) = (n : Int) + 1 - (i : Int) := by rw [IntKind.wrap_i64]; omega
 have q1 : ((i : Int) == (n : Int)) = false := by simp; omega
 have q2 : (c : Int) < (n : Int) + 1 := by omega
 have q3 : (0 : Int) ≤ (i : Int) ∧ (i : Int) ≤ (n : Int) := by omega
 have q4 : (0 : Int) ≤ (i : Int) + 1 ∧ (i : Int) + 1 ≤ (n : Int) + 1 := by omega
 have q6 : n + 1 - i = d + 1 := by omega
 have q7 : (i : Int) ≤ (n : Int) + 1 := by omega
 have q8 : (i : Int) ≤ (c : Int) := by omega
 clear hB hcs hcx hxl hone hxs hnews hnl hcur1 hl1 hW1 hB1 hT1 hcur2 h hv hv1 hpx hpl hp1 hl hnc hsrc hROW hRl hRt holds hol hG hGm hN hgN hvN hW2 hB2 hT2
 go_enter Tryz.func125, Tryz.ntmps125
 go_wp2_with (at_builtin; refine Lib.wpList_append_run _ rfl (.tmp 34) (.tmp 39) 118 3 rfl _ _ rfl rfl _ _ (hrz _) ?_)
 go_region_law (refine step_copy_run rfl (.tmp 50) (.tmp 53) 118 118 rfl (.slice (some ⟨N, (i + 1) * 7, none⟩) d (G - (i + 1))) (.slice (some ⟨g, i * 7, none⟩) d (c - i)) (by simp [Act.eval, Act.put, *]) (by simp [Act.eval, Act.put, *]) HC3.out ?_)
 all_goals
  go_wp2
  go_ret
  exact ⟨G, rfl, HFin.out.1, HFin.out.2⟩
theorem ins_pa (A : Option Addr) (n c i : Nat) (l : List PaI) (hl : l.length = n) (hn : n ≤ 1000) (hi : i ≤ n) (x : PaI) (vb : Nat) (w : World) (h : w.ownsRow 0 49 7 (.slice A n c) n (l.flatMap paC)) (hv : Blk w vb 49 (paC x).toArray) (hne : ∀ s ∈ obI (.slice A n c), vb ≠ s) :
  Calls Tryz.prog 125 #[.slice A n c, .int .i64 (i : Int), .slice (some ⟨vb, 0, none⟩) 1 1] w fun e w' => ∃ A' c', e = .returned (.slice A' (n + 1) c') ∧ w'.ownsRow 0 49 7 (.slice A' (n + 1) c') (n + 1) ((l.take i ++ x :: l.drop i).flatMap paC) ∧ Tch w w' (obI (.slice A n c)) ∧ ∀ s ∈ obI (.slice A' (n + 1) c'), s ∈ obI (.slice A n c) ∨ w.heap.size ≤ s := by
 rw [ins_flat hl hi]
 by_cases hin : i = n
 ·subst hin
  have hxl : (l.flatMap paC).length = i * 7 := by rw [flatk_len pa_seven, hl]
  have e1 : (l.flatMap paC).take (i * 7) = l.flatMap paC := List.take_of_length_le (by omega)
  have e2 : (l.flatMap paC).drop (i * 7) = [] := List.drop_of_length_le (by omega)
  rw [e1, e2, List.append_nil]
  exact ins_end A i c l hl hn x vb w h hv
 ·obtain ⟨g, rfl⟩ := slice_some h (by omega)
  have hvg : vb ≠ g := hne g (by simp [obI, Value.ownBlock])
  by_cases hc : n + 1 ≤ c
  ·refine (ins_room g n c i l hl hn (by omega) hc x vb hvg w h hv).mono ?_
   rintro e w' ⟨rfl, ho, ht⟩
   exact ⟨_, c, rfl, ho, ht, fun s hs => .inl hs⟩
  ·refine (ins_grow g n c i l hl hn (by omega) (by omega) x vb w h hv).mono ?_
   rintro e w' ⟨G, rfl, ho, ht⟩
   exact ⟨_, G, rfl, ho, ht.mono (by simp), fun s hs => .inr (by
    simp [obI, Value.ownBlock] at hs
    omega)⟩
def insP (l : List PaI) (x : PaI) : List PaI := if fndI (fun y => betI x y) l = 0 then l ++ [x] else l.take (fndI (fun y => betI x y) l - 1) ++ x :: l.drop (fndI (fun y => betI x y) l - 1)
theorem insert_any (A : Option Addr) (n c : Nat) (l : List PaI) (hl : l.length = n) (hn : n ≤ 1000) (x : PaI) (w : World) (hE : EnvR w) (h : w.ownsRow 0 49 7 (.slice A n c) n (l.flatMap paC)) :
  Calls Tryz.prog 83 #[.slice A n c, paR x] w fun e w' => ∃ A' c', e = .returned (.slice A' (n + 1) c') ∧ w'.ownsRow 0 49 7 (.slice A' (n + 1) c') (n + 1) ((insP l x).flatMap paC) ∧ Tch w w' (obI (.slice A n c)) ∧ ∀ s ∈ obI (.slice A' (n + 1) c'), s ∈ obI (.slice A n c) ∨ w.heap.size ≤ s := by
 obtain ⟨k, hk⟩ : ∃ k, fndI (fun y => betI x y) l = k := ⟨_, rfl⟩
 have hkn : k ≤ n := by rw [← hk, ← hl]; exact fndI_le _ _
 have HI := lH (fun W (hT : Tch w W []) => idx_bet x A n c l hl hn W (own_tch h hT (by simp)) (hE.tch0 hT))
 rw [hk] at HI
 have hIns : ∀ (i : Nat), i ≤ n → ∀ W, Tch w W [] → Calls Tryz.prog 125 #[.slice A n c, .int .i64 (i : Int), .slice (some ⟨W.heap.size, 0, none⟩) 1 1] (W.alloc (.cells (paC x).toArray 49)) fun e w' => ∃ A' c', e = .returned (.slice A' (n + 1) c') ∧ w'.ownsRow 0 49 7 (.slice A' (n + 1) c') (n + 1) ((l.take i ++ x :: l.drop i).flatMap paC) ∧ Tch w w' (obI (.slice A n c)) ∧ ∀ s ∈ obI (.slice A' (n + 1) c'), s ∈ obI (.slice A n c) ∨ w.heap.size ≤ s := fun i hi W hT => by
  have hsz := hT.size
  refine (ins_pa A n c i l hl hn hi x W.heap.size _ ((own_tch h hT (by simp)).alloc _) (Blk.new _ _ _) (fun s hs => by have := own_lts h s hs; omega)).mono ?_
  rintro e w' ⟨A', c', rfl, ho, ht, hf⟩
  exact ⟨A', c', rfl, ho, ((hT.alloc _).mono (by simp)).trans ht, fun s hs => (hf s hs).imp id (fun h => by rw [zA] at h; omega)⟩
 have HIns := lH hIns
 obtain ⟨L, hL⟩ : ∃ L, insP l x = L := ⟨_, rfl⟩
 rw [hL]
 unfold insP at hL
 rw [hk] at hL
 have HL : Hid ((k = 0 → l ++ [x] = L) ∧ (∀ j, k = j + 1 → l.take j ++ x :: l.drop j = L)) := lH ⟨fun e => by rw [← hL, if_pos e], fun j e => by rw [← hL, if_neg (by omega), e, Nat.add_sub_cancel]⟩
 have HEnd : Hid (l.take n ++ x :: l.drop n = l ++ [x]) := lH (by rw [List.take_of_length_le (by omega), List.drop_of_length_le (by omega)])
 clear hk hL h hl hn hE hIns
 obtain ⟨pr, me, ⟨vs, vh, vl⟩, po, aw⟩ := x
 obtain ⟨xb, hxb⟩ : ∃ xb, w.heap.size = xb := ⟨_, rfl⟩
 obtain ⟨W0, hW0⟩ : ∃ W, w.alloc (.cells #[.int .i64 pr, .int .i64 me, .bool vs, .int .u64 (vh : Int), .int .u64 (vl : Int), .int .i64 po, .bool aw] 49) = W := ⟨_, rfl⟩
 have hX : Blk W0 xb 49 #[.int .i64 pr, .int .i64 me, .bool vs, .int .u64 (vh : Int), .int .u64 (vl : Int), .int .i64 po, .bool aw] := hW0 ▸ hxb ▸ Blk.new _ _ _
 have hT0 : Tch w W0 [] := hW0 ▸ (Tch.refl w []).alloc _
 have HC := lH (HI.out W0 hT0)
 have HT0 := lH hT0
 have HX := lH hX
 obtain ⟨x0, x1, x2, x3, x4, x5, x6⟩ := hX.p7
 clear hX hT0 HI
 go_enter Tryz.func83, Tryz.ntmps83
 go_wp2_with fail
 refine cZm HC.out ?_
 rintro e w1 ⟨rfl, hT⟩
 have HT1 := lH (HT0.out.trans hT)
 obtain ⟨y0, y1, y2, y3, y4, y5, y6⟩ := (hT.blk HX.out (by simp)).p7
 clear hT x0 x1 x2 x3 x4 x5 x6
 rcases Nat.eq_zero_or_pos k with h0 | h0
 ·subst h0
  have HI2 := lH (HIns.out n (Nat.le_refl _) w1 HT1.out)
  rw [HEnd.out, HL.out.1 rfl] at HI2
  have i0 : ((0 : Nat) : Int) - 1 < 0 := by omega
  go_wp2_with (go_at_call 125; refine cZm HI2.out ?_; rintro e w' ⟨A', c', rfl, ho, ht, hf⟩; have HH := lH (And.intro ho (And.intro ht hf)); clear ho ht hf)
  go_ret
  exact ⟨A', c', rfl, HH.out.1, HH.out.2.1, HH.out.2.2⟩
 ·obtain ⟨j, rfl⟩ : ∃ j, k = j + 1 := ⟨k - 1, by omega⟩
  have HI2 := lH (HIns.out j (by omega) w1 HT1.out)
  rw [HL.out.2 j rfl] at HI2
  have e0 : ((j + 1 : Nat) : Int) - 1 = (j : Int) := by omega
  rw [e0]
  have i0 : ¬ (j : Int) < 0 := by omega
  clear e0 HL h0 hkn HC
  go_wp2_with (go_at_call 125; refine cZm HI2.out ?_; rintro e w' ⟨A', c', rfl, ho, ht, hf⟩; have HH := lH (And.intro ho (And.intro ht hf)); clear ho ht hf)
  go_ret
  exact ⟨A', c', rfl, HH.out.1, HH.out.2.1, HH.out.2.2⟩
end Go.Proofs.YtgfkmgbcajdcdaaGreatDoor

namespace Go.Proofs.YtgfkmgbcajdcdaaGreatDoor
open Go.RowKit

theorem wayI_cons (t : TdI) (r : List TdI) (p : PfI) (x : PaI) : wayI (t :: r) p x = if isW p x t = true then 1 else if wayI r p x = 0 then 0 else wayI r p x + 1 := rfl
theorem fnd_cons {α : Type} (f : α → Bool) (y : α) (l : List α) : fndI f (y :: l) = if f y = true then 1 else if fndI f l = 0 then 0 else fndI f l + 1 := rfl
theorem paths_hd {t : TdI} {r : List TdI} {p : PfI} (h : t.1 = p) : pathsI (t :: r) p = t.2 :: pathsI r p := by
 unfold pathsI; rw [List.filter_cons_of_pos (by simpa using h), List.map_cons]
theorem paths_tl {t : TdI} {r : List TdI} {p : PfI} (h : ¬ t.1 = p) : pathsI (t :: r) p = pathsI r p := by
 unfold pathsI; rw [List.filter_cons_of_neg (by simpa using h)]
theorem way_row : ∀ (L : List TdI) (p : PfI) (x : PaI), (wayI L p x = 0 ↔ fndI (fun y => sameW x y) (pathsI L p) = 0) ∧
  (¬ wayI L p x = 0 → pathsI (L.eraseIdx (wayI L p x - 1)) p = (pathsI L p).eraseIdx (fndI (fun y => sameW x y) (pathsI L p) - 1) ∧ ∀ q, ¬ q = p → pathsI (L.eraseIdx (wayI L p x - 1)) q = pathsI L q)
 | [], p, x => by simp [wayI, pathsI, fndI]
 | t :: r, p, x => by
  obtain ⟨i1, i2⟩ := way_row r p x
  rw [wayI_cons]
  by_cases hp : t.1 = p
  ·rw [paths_hd hp, fnd_cons]
   have hw : isW p x t = sameW x t.2 := by unfold isW; rw [decide_eq_true hp, Bool.true_and]
   rw [hw]
   by_cases hs : sameW x t.2 = true
   ·rw [if_pos hs, if_pos hs]
    refine ⟨by simp, fun _ => ⟨by simp, fun q hq => ?_⟩⟩
    rw [paths_tl (fun e => hq (by rw [← e, hp]))]
    simp
   ·rw [if_neg hs, if_neg hs]
    by_cases h0 : wayI r p x = 0
    ·rw [if_pos h0, if_pos (i1.1 h0)]
     exact ⟨by simp, fun h => absurd rfl h⟩
    ·have h1 : ¬ fndI (fun y => sameW x y) (pathsI r p) = 0 := fun e => h0 (i1.2 e)
     obtain ⟨j1, j2⟩ := i2 h0
     rw [if_neg h0, if_neg h1]
     refine ⟨⟨fun e => by omega, fun e => by omega⟩, fun _ => ?_⟩
     obtain ⟨a, ha⟩ : ∃ a, wayI r p x = a + 1 := ⟨wayI r p x - 1, by omega⟩
     obtain ⟨b, hb⟩ : ∃ b, fndI (fun y => sameW x y) (pathsI r p) = b + 1 := ⟨fndI (fun y => sameW x y) (pathsI r p) - 1, by omega⟩
     rw [ha, Nat.add_sub_cancel] at j1 j2
     rw [hb, Nat.add_sub_cancel] at j1
     rw [ha, hb, Nat.add_sub_cancel, Nat.add_sub_cancel, List.eraseIdx_cons_succ, List.eraseIdx_cons_succ, paths_hd hp, j1]
     refine ⟨rfl, fun q hq => ?_⟩
     rw [paths_tl (fun e => hq (by rw [← e, hp])), paths_tl (fun e => hq (by rw [← e, hp])), j2 q hq]
  ·have hw : isW p x t = false := by unfold isW; rw [decide_eq_false hp, Bool.false_and]
   rw [hw, if_neg (by simp), paths_tl hp]
   by_cases h0 : wayI r p x = 0
   ·rw [if_pos h0]
    exact ⟨by simp [i1.1 h0], fun h => absurd rfl h⟩
   ·obtain ⟨j1, j2⟩ := i2 h0
    rw [if_neg h0]
    refine ⟨⟨fun e => by omega, fun e => absurd (i1.2 e) h0⟩, fun _ => ?_⟩
    obtain ⟨a, ha⟩ : ∃ a, wayI r p x = a + 1 := ⟨wayI r p x - 1, by omega⟩
    rw [ha, Nat.add_sub_cancel] at j1 j2
    rw [ha, Nat.add_sub_cancel, List.eraseIdx_cons_succ, paths_tl hp, j1]
    refine ⟨rfl, fun q hq => ?_⟩
    by_cases hq2 : t.1 = q
    ·rw [paths_hd hq2, paths_hd hq2, j2 q hq]
    ·rw [paths_tl hq2, paths_tl hq2, j2 q hq]
def srtB (l : List PaI) : Prop := l.Pairwise fun x y => betI x y = true
theorem srtB_ext : ∀ {L M : List PaI}, srtB L → srtB M → (∀ t, t ∈ L ↔ t ∈ M) → L = M
 | [], [], _, _, _ => rfl
 | [], y :: s, _, _, h => by have := (h y).2 (by simp); cases this
 | x :: r, [], _, _, h => by have := (h x).1 (by simp); cases this
 | x :: r, y :: s, hL, hM, h => by
  unfold srtB at hL hM
  rw [List.pairwise_cons] at hL hM
  have irr : ∀ z, ¬ betI z z = true := fun z => by rw [betI_irr]; simp
  have hxy : x = y := by
   rcases List.mem_cons.1 ((h x).1 (by simp)) with e | e
   ·exact e
   ·rcases List.mem_cons.1 ((h y).2 (by simp)) with e2 | e2
    ·exact e2.symm
    ·exact absurd (betI_trans (hL.1 y e2) (hM.1 x e)) (irr x)
  subst hxy
  congr 1
  refine srtB_ext hL.2 hM.2 fun t => ⟨fun ht => ?_, fun ht => ?_⟩
  ·rcases List.mem_cons.1 ((h t).1 (List.mem_cons_of_mem _ ht)) with e | e
   ·subst e; exact absurd (hL.1 t ht) (irr t)
   ·exact e
  ·rcases List.mem_cons.1 ((h t).2 (List.mem_cons_of_mem _ ht)) with e | e
   ·subst e; exact absurd (hM.1 t ht) (irr t)
   ·exact e
theorem ltT_bet {t u : TdI} (e : t.1 = u.1) : ltT t u ↔ betI t.2 u.2 = true := by
 unfold ltT keyT
 rw [lexP_app (a := keyP t.1) (b := keyP u.1) rfl, betI_key, e]
 exact ⟨fun h => h.elim (fun h => absurd h (lexP.irrefl _)) (fun h => h.2), fun h => .inr ⟨rfl, h⟩⟩
theorem paths_srt {L : List TdI} (h : InvR L) (p : PfI) : srtB (pathsI L p) := by
 unfold srtB pathsI
 rw [List.pairwise_map]
 refine (h.srt.sublist List.filter_sublist).imp_of_mem fun {a b} ha hb hab => ?_
 have e1 := (List.mem_filter.1 ha).2
 have e2 := (List.mem_filter.1 hb).2
 simp at e1 e2
 exact (ltT_bet (by rw [e1, e2])).1 hab
theorem insP_mem (l : List PaI) (x y : PaI) : y ∈ insP l x ↔ y = x ∨ y ∈ l := by
 unfold insP
 split
 ·simp [or_comm]
 ·generalize fndI (fun y => betI x y) l - 1 = k
  rw [List.mem_append, List.mem_cons]
  have := List.take_append_drop k l
  constructor
  ·rintro (h | h | h)
   ·exact .inr (List.mem_of_mem_take h)
   ·exact .inl h
   ·exact .inr (List.mem_of_mem_drop h)
  ·rintro (h | h)
   ·exact .inr (.inl h)
   ·rw [← this, List.mem_append] at h
    rcases h with h | h
    ·exact .inl h
    ·exact .inr (.inr h)
theorem insP_srt {l : List PaI} {x : PaI} (h : srtB l) (ht : ∀ y ∈ l, betI x y = true ∨ betI y x = true) : srtB (insP l x) := by
 unfold insP srtB at *
 have hb : ∀ y ∈ l, betI x y = false → betI y x = true := fun y hy e => (ht y hy).resolve_left (by rw [e]; simp)
 split
 ·rename_i h0
  rw [List.pairwise_append]
  refine ⟨h, List.pairwise_singleton _ _, fun a ha b hb' => ?_⟩
  rw [List.mem_singleton.1 hb']
  obtain ⟨i, hi⟩ := List.mem_iff_getElem?.1 ha
  exact hb a ha (fndI_zero.1 h0 i a hi)
 ·rename_i h0
  obtain ⟨k, hk⟩ : ∃ k, fndI (fun y => betI x y) l = k + 1 := ⟨fndI (fun y => betI x y) l - 1, by omega⟩
  rw [hk, Nat.add_sub_cancel]
  obtain ⟨⟨z, hz, hxz⟩, hlt⟩ := fndI_succ.1 hk
  have hd : l.drop k = z :: l.drop (k + 1) := by
   obtain ⟨e1, e2⟩ := List.getElem?_eq_some_iff.1 hz
   rw [List.drop_eq_getElem_cons e1, e2]
  have h2 := h
  rw [← List.take_append_drop k l, List.pairwise_append] at h2
  obtain ⟨s1, s2, s3⟩ := h2
  have hx2 : ∀ y ∈ l.drop k, betI x y = true := fun y hy => by
   rw [hd] at hy s2
   rw [List.pairwise_cons] at s2
   rcases List.mem_cons.1 hy with e | e
   ·rw [e]; exact hxz
   ·exact betI_trans hxz (s2.1 y e)
  rw [List.pairwise_append, List.pairwise_cons]
  refine ⟨s1, ⟨hx2, s2⟩, fun a ha b hb' => ?_⟩
  have hax : betI a x = true := by
   obtain ⟨i, hi⟩ := List.mem_iff_getElem?.1 ha
   rw [List.getElem?_take] at hi
   split at hi
   ·exact hb a (List.mem_of_getElem? hi) (hlt i a (by assumption) hi)
   ·cases hi
  rcases List.mem_cons.1 hb' with e | e
  ·rw [e]; exact hax
  ·exact s3 a ha b e
theorem ins_row {L : List TdI} (h : InvR L) {p : PfI} {x : PaI} (h2 : InvR (insI L (p, x))) (hn : (p, x) ∉ L) : pathsI (insI L (p, x)) p = insP (pathsI L p) x ∧ ∀ q, ¬ q = p → pathsI (insI L (p, x)) q = pathsI L q := by
 constructor
 ·refine srtB_ext (paths_srt h2 p) (insP_srt (paths_srt h p) fun y hy => ?_) fun y => ?_
  ·have hm := pathsI_mem.1 hy
   have ht := h2.ok (p, x) ((insI_mem _ _ _).2 (.inl rfl))
   rcases ltT_tri ht (h.ok _ hm) with e | e | e
   ·exact .inl ((ltT_bet (t := (p, x)) (u := (p, y)) rfl).1 e)
   ·exact absurd (e ▸ hm) hn
   ·exact .inr ((ltT_bet (t := (p, y)) (u := (p, x)) rfl).1 e)
  ·rw [pathsI_mem, insI_mem, insP_mem, pathsI_mem]
   constructor
   ·rintro (e | e)
    ·injection e with _ e; exact .inl e
    ·exact .inr e
   ·rintro (e | e)
    ·exact .inl (by rw [e])
    ·exact .inr e
 ·intro q hq
  unfold insI pathsI
  rw [List.filter_append, List.filter_cons_of_neg (by simp; exact fun e => hq e.symm), ← List.filter_append, List.take_append_drop]
theorem flush_row (L : List TdI) (f : TdI → Bool) (g : PaI → Bool) (q : PfI) (h : ∀ t, t.1 = q → f t = g t.2) : pathsI (L.filter f) q = (pathsI L q).filter g := by
 induction L with
 | nil => rfl
 | cons t r ih =>
  by_cases e : t.1 = q
  ·rw [paths_hd e]
   by_cases hf : f t = true
   ·rw [List.filter_cons_of_pos hf, paths_hd e, ih, List.filter_cons_of_pos (by rw [← h t e]; exact hf)]
   ·rw [List.filter_cons_of_neg hf, ih, List.filter_cons_of_neg (by rw [← h t e]; exact hf)]
  ·rw [paths_tl e]
   by_cases hf : f t = true
   ·rw [List.filter_cons_of_pos hf, paths_tl e, ih]
   ·rw [List.filter_cons_of_neg hf, ih]
theorem len_sum : ∀ (K : List PfI) (L : List TdI), K.Nodup → (∀ t ∈ L, t.1 ∈ K) → (K.map fun p => (pathsI L p).length).sum = L.length
 | [], L, _, h => by
  cases L with
  | nil => rfl
  | cons t r => exact absurd (h t (by simp)) (by simp)
 | p :: K, L, hn, h => by
  rw [List.nodup_cons] at hn
  have h1 : L.length = (L.filter fun t => decide (t.1 = p)).length + (L.filter fun t => !decide (t.1 = p)).length := by
   clear h
   induction L with
   | nil => rfl
   | cons t r ih => by_cases e : t.1 = p <;> simp [e, ih] <;> omega
  have h2 := len_sum K (L.filter fun t => !decide (t.1 = p)) hn.2 (fun t ht => by
   have h5 := List.mem_filter.1 ht
   rcases List.mem_cons.1 (h t h5.1) with e | e
   ·exact absurd h5.2 (by simp [e])
   ·exact e)
  have h3 : (K.map fun q => (pathsI (L.filter fun t => !decide (t.1 = p)) q).length) = K.map fun q => (pathsI L q).length := by
   refine List.map_congr_left fun q hq => ?_
   have hqp : ¬ q = p := fun e => hn.1 (e ▸ hq)
   rw [flush_row L _ (fun _ => true) q (fun t e => by simp [e, hqp])]
   simp
  rw [List.map_cons, List.sum_cons, ← h3, h2, h1]
  congr 1
  unfold pathsI
  rw [List.length_map]
section
variable {w : World} {t m : Nat} {M : List (PfI × Value)} {S : List Nat} {L : List TdI}
theorem RpM.keys (h : RpM w t m M S L) : (M.map Prod.fst).Perm (prefsI L) := by
 refine (List.perm_ext_iff_of_nodup h.mp.nodup (prefsI_nodup h.inv.inv)).2 fun p => ?_
 have e := paths_nil h.inv.inv (p := p)
 constructor
 ·intro hp
  obtain ⟨x, hx, rfl⟩ := List.mem_map.1 hp
  have := (h.row x hx).2
  exact Classical.byContradiction fun hn => by have := e.2 hn; omega
 ·intro hp
  obtain ⟨v, hv⟩ := h.all p (by
   rcases Nat.eq_zero_or_pos (pathsI L p).length with h0 | h0
   ·exact absurd hp (e.1 h0)
   ·exact h0)
  exact List.mem_map.2 ⟨_, hv, rfl⟩
theorem RpM.len (h : RpM w t m M S L) : M.length = (prefsI L).length := by
 rw [← h.keys.length_eq, List.length_map]
theorem RpM.sum (h : RpM w t m M S L) : (M.map fun x => (pathsI L x.1).length).sum = L.length := by
 have := len_sum (M.map Prod.fst) L h.mp.nodup (fun u hu => h.keys.mem_iff.2 ((prefsI_mem h.inv.inv).2 ⟨u, hu, rfl⟩))
 rw [List.map_map] at this
 exact this
end
end Go.Proofs.YtgfkmgbcajdcdaaGreatDoor

namespace Go.Proofs.YtgfkmgbcajdcdaaGreatDoor
open Go.RowKit

def gr (n : Int) (k : Nat) : Int := n / 65536 ^ (3 - k) % 65536
theorem gr_0 (n : Int) : n / 281474976710656 % 65536 = gr n 0 := rfl
theorem gr_1 (n : Int) : n / 4294967296 % 65536 = gr n 1 := rfl
theorem gr_2 (n : Int) : n / 65536 % 65536 = gr n 2 := rfl
theorem gr_3 (n : Int) : n % 65536 = gr n 3 := by unfold gr; simp
theorem gr_0' (n : Int) (h0 : 0 ≤ n) (h1 : n ≤ 18446744073709551615) : gr n 0 = n / 281474976710656 := by rw [← gr_0]; omega
theorem gr_3' (n : Int) : gr n 3 = IntKind.u16.wrap n := by rw [← gr_3, IntKind.wrap_u16]
theorem gr_bd (n : Int) (k : Nat) : 0 ≤ gr n k ∧ gr n k ≤ 65535 := by unfold gr; omega
abbrev grs (h l : Int) : Value := .agg #[.int .u16 (gr h 0), .int .u16 (gr h 1), .int .u16 (gr h 2), .int .u16 (gr h 3), .int .u16 (gr l 0), .int .u16 (gr l 1), .int .u16 (gr l 2), .int .u16 (gr l 3)]

theorem groups_any (s : Bool) (h l : Int) (hh : U6 h) (hl : U6 l) (w : World) :
  Calls Tryz.prog 193 #[adr s h l] w fun e w' => e = .returned (grs h l) ∧ Below w.heap.size w w' := by
 obtain ⟨h0, h1⟩ := hh
 obtain ⟨l0, l1⟩ := hl
 have E1 := lH (gr_0' h h0 h1)
 have E2 := lH (gr_0' l l0 l1)
 have E3 := lH (gr_3' h)
 have E4 := lH (gr_3' l)
 go_enter Tryz.func193, Tryz.ntmps193
 go_wp2
 go_loopw [6] (fun i wr => (i = .int .i64 0 ∧ wr = ((w.alloc (.cells #[.bool s, .int .u64 h, .int .u64 l] 28)).alloc (.cells #[.int .u16 0, .int .u16 0, .int .u16 0, .int .u16 0, .int .u16 0, .int .u16 0, .int .u16 0, .int .u16 0] 253)).alloc (.cells #[.int .u16 0, .int .u16 0, .int .u16 0, .int .u16 0, .int .u16 0, .int .u16 0, .int .u16 0, .int .u16 0] 253)) ∨ (i = .int .i64 1 ∧ wr = ((w.alloc (.cells #[.bool s, .int .u64 h, .int .u64 l] 28)).alloc (.cells #[.int .u16 0, .int .u16 0, .int .u16 0, .int .u16 0, .int .u16 0, .int .u16 0, .int .u16 0, .int .u16 0] 253)).alloc (.cells #[.int .u16 (gr h 0), .int .u16 0, .int .u16 0, .int .u16 0, .int .u16 (gr l 0), .int .u16 0, .int .u16 0, .int .u16 0] 253)) ∨ (i = .int .i64 2 ∧ wr = ((w.alloc (.cells #[.bool s, .int .u64 h, .int .u64 l] 28)).alloc (.cells #[.int .u16 0, .int .u16 0, .int .u16 0, .int .u16 0, .int .u16 0, .int .u16 0, .int .u16 0, .int .u16 0] 253)).alloc (.cells #[.int .u16 (gr h 0), .int .u16 (gr h 1), .int .u16 0, .int .u16 0, .int .u16 (gr l 0), .int .u16 (gr l 1), .int .u16 0, .int .u16 0] 253)) ∨ (i = .int .i64 3 ∧ wr = ((w.alloc (.cells #[.bool s, .int .u64 h, .int .u64 l] 28)).alloc (.cells #[.int .u16 0, .int .u16 0, .int .u16 0, .int .u16 0, .int .u16 0, .int .u16 0, .int .u16 0, .int .u16 0] 253)).alloc (.cells #[.int .u16 (gr h 0), .int .u16 (gr h 1), .int .u16 (gr h 2), .int .u16 0, .int .u16 (gr l 0), .int .u16 (gr l 1), .int .u16 (gr l 2), .int .u16 0] 253)) ∨ (i = .int .i64 4 ∧ wr = ((w.alloc (.cells #[.bool s, .int .u64 h, .int .u64 l] 28)).alloc (.cells #[.int .u16 0, .int .u16 0, .int .u16 0, .int .u16 0, .int .u16 0, .int .u16 0, .int .u16 0, .int .u16 0] 253)).alloc (.cells #[.int .u16 (gr h 0), .int .u16 (gr h 1), .int .u16 (gr h 2), .int .u16 (gr h 3), .int .u16 (gr l 0), .int .u16 (gr l 1), .int .u16 (gr l 2), .int .u16 (gr l 3)] 253))) (fun i _ => 4 - (intOf i).toNat)
 case atStart => exact Or.inl ⟨rfl, rfl⟩
 case round =>
  rcases hrel with ⟨rfl, rfl⟩ | ⟨rfl, rfl⟩ | ⟨rfl, rfl⟩ | ⟨rfl, rfl⟩ | ⟨rfl, rfl⟩
  ·go_wp2
   go_roundw
   case rel => exact Or.inr (Or.inl ⟨rfl, by first | rfl | (rw [E1.out, E2.out]; done) | (rw [E3.out, E4.out]; done)⟩)
   case measure => simp [intOf]
  ·go_wp2
   go_roundw
   case rel => exact Or.inr (Or.inr (Or.inl ⟨rfl, by first | rfl | (rw [E1.out, E2.out]; done) | (rw [E3.out, E4.out]; done)⟩))
   case measure => simp [intOf]
  ·go_wp2
   go_roundw
   case rel => exact Or.inr (Or.inr (Or.inr (Or.inl ⟨rfl, by first | rfl | (rw [E1.out, E2.out]; done) | (rw [E3.out, E4.out]; done)⟩)))
   case measure => simp [intOf]
  ·go_wp2
   go_roundw
   case rel => exact Or.inr (Or.inr (Or.inr (Or.inr (⟨rfl, by first | rfl | (rw [E1.out, E2.out]; done) | (rw [E3.out, E4.out]; done)⟩))))
   case measure => simp [intOf]

  ·go_wp2
   exact bodyPost_ret (v := grs h l) (by simp [results, Tryz.results193, go_sem]) rfl ⟨rfl, (((Below.refl _ _).alloc (Nat.le_refl _) _).alloc (by simp) _).alloc (by simp only [zA]; omega) _⟩
end Go.Proofs.YtgfkmgbcajdcdaaGreatDoor
