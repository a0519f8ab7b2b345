/-
  The program's own wheel (layer 17): Tick.
-/
import Derived.Test.YthkjfgegmbdebaaWhH
namespace Go.Proofs.Ythkjfgegmbdebaa
open Go.RowKit
set_option linter.unusedVariables false

theorem infoI : (Try.prog.info? 3).map (fun i => (i.zero, i.size, i.bytes)) = some (some (.int .i64 0), 1, 8) := by kernel_rfl
theorem own_ge {w : World} {base e size n : Nat} {v : Value} {xs : List Value} (h : w.ownsRow base e size v n xs) : ∀ s ∈ obI v, base ≤ s := by
  intro s hs
  rcases h.2 with ⟨rfl, -⟩ | ⟨g, cap, cur, rfl, h1, -⟩
  · simp [obI, Value.ownBlock] at hs
  · simp [obI, Value.ownBlock] at hs; omega
def idsV (l : List TmI) : List Value := l.map fun x => .int .i64 x.1
theorem drop_at {α : Type} {l : List α} {i : Nat} {x : α} (h : l[i]? = some x) : l.drop i = x :: l.drop (i + 1) := by
  obtain ⟨h1, h2⟩ := List.getElem?_eq_some_iff.1 h
  rw [List.drop_eq_getElem_cons h1, h2]
theorem take_at {α : Type} {l : List α} {i : Nat} {x : α} (h : l[i]? = some x) : l.take (i + 1) = l.take i ++ [x] := by
  obtain ⟨h1, h2⟩ := List.getElem?_eq_some_iff.1 h
  rw [List.take_succ_eq_append_getElem h1, h2]
/-- The map without the first i of d. -/
structure WoM (M M' : List (Int × Value)) (d : List TmI) (i : Nat) : Prop where
  val : ∀ q, valG q M' = if q ∈ (d.take i).map Prod.fst then none else valG q M
  len : M'.length + i = M.length
theorem WoM.zero (M : List (Int × Value)) (d : List TmI) : WoM M M d 0 := ⟨fun q => by simp, by simp⟩
theorem WoM.step {M M' : List (Int × Value)} {d : List TmI} {i : Nat} {x : TmI} (h : WoM M M' d i) (hn : (M'.map Prod.fst).Nodup) (hx : d[i]? = some x) (hd : (d.map Prod.fst).Nodup) (hv : valG x.1 M ≠ none) : WoM M (mpDel M' x.1) d (i + 1) := by
  refine ⟨fun q => ?_, ?_⟩
  · rw [valG_del hn, h.val, take_at hx, List.map_append]
    by_cases e : q = x.1
    · rw [if_pos e, if_pos (by simp [e])]
    · rw [if_neg e]
      by_cases e2 : q ∈ (d.take i).map Prod.fst
      · rw [if_pos e2, if_pos (List.mem_append_left _ e2)]
      · rw [if_neg e2, if_neg (fun e3 => by
          rcases List.mem_append.1 e3 with e4 | e4
          · exact e2 e4
          · simp at e4; exact e e4)]
  · have hx2 : valG x.1 M' ≠ none := by
      rw [h.val, if_neg]
      · exact hv
      · intro hm
        obtain ⟨y, hy, ey⟩ := List.mem_map.1 hm
        obtain ⟨j, hj⟩ := List.mem_iff_getElem?.1 hy
        rw [List.getElem?_take] at hj
        split at hj
        · rename_i hji
          obtain ⟨lj, fj⟩ := List.getElem?_eq_some_iff.1 hj
          obtain ⟨li, fi⟩ := List.getElem?_eq_some_iff.1 hx
          have := List.pairwise_iff_getElem.1 hd j i (by simpa using lj) (by simpa using li) hji
          exact this (by simp [fj, fi, ey])
        · cases hj
    have := del_len hx2
    have := h.len
    omega
section
variable {w : World} {p m t a : Nat} {lv : List Value} {ll : List (List TmI)} {M : List (Int × Value)} {L : List TmI} {F : List Nat}
theorem WhM.apart (h : WhM w p m t a lv ll M) {k : Nat} {v : Value} (hv : lv[k]? = some v) : ∀ s ∈ obI v, s ∉ ftW p m (lv.set k (.slice none 0 0)) := by
  intro s hs hm
  have hd := h.dis
  rw [List.nodup_cons, List.nodup_cons] at hd
  have hin : s ∈ lv.flatMap obI := List.mem_flatMap.2 ⟨v, List.mem_of_getElem? hv, hs⟩
  unfold ftW at hm
  rcases List.mem_cons.1 hm with e | hm
  · subst e; exact hd.1 (List.mem_cons_of_mem _ hin)
  · rcases List.mem_cons.1 hm with e | hm
    · subst e; exact hd.2.1 hin
    · obtain ⟨u, hu, hs2⟩ := List.mem_flatMap.1 hm
      obtain ⟨i, hi⟩ := List.mem_iff_getElem?.1 hu
      rw [List.getElem?_set] at hi
      by_cases e : k = i
      · rw [if_pos e] at hi
        split at hi
        · injection hi with hi; subst hi
          simp [obI, Value.ownBlock] at hs2
        · cases hi
      · rw [if_neg e] at hi
        exact flat_disj hd.2.2 hv hi e s hs2 hs
theorem ft_nil {p m k : Nat} {lv : List Value} : ∀ s ∈ ftW p m (lv.set k (.slice none 0 0)), s ∈ ftW p m lv := by
  intro s hs
  unfold ftW at *
  rcases List.mem_cons.1 hs with e | hs
  · simp [e]
  · rcases List.mem_cons.1 hs with e | hs
    · simp [e]
    · obtain ⟨u, hu, hs2⟩ := List.mem_flatMap.1 hs
      rcases List.mem_or_eq_of_mem_set hu with h1 | h1
      · exact List.mem_cons_of_mem _ (List.mem_cons_of_mem _ (List.mem_flatMap.2 ⟨u, h1, hs2⟩))
      · rw [h1] at hs2; simp [obI, Value.ownBlock] at hs2
set_option maxRecDepth 100000 in
set_option maxHeartbeats 8000000 in
theorem tickP (h : WhP w p t a L F) (ht : t ≤ 90000000) :
    Calls Try.prog 16 #[ptrV p] w fun e w' => ∃ A c F', e = .returned (.slice A (dueL L (t + 1)).length c) ∧ w'.ownsRow w.heap.size 3 1 (.slice A (dueL L (t + 1)).length c) (dueL L (t + 1)).length (idsV (dueL L (t + 1))) ∧
      WhP w' p (t + 1) a (tikL L (t + 1)) F' ∧ Goes w w' F F' ∧ ∀ s ∈ obI (.slice A (dueL L (t + 1)).length c), s ∉ F' := by
  obtain ⟨m, lv, ll, M, h1, h2, h3, h4, rfl⟩ := h
  have HRow := Lib.hid h4
  have HRow2 := Lib.hid h4.tik
  have HI0 := Lib.hid (h2.tick h4.due)
  have HM0 := Lib.hid h3
  obtain ⟨k1, k2⟩ := h1.setNow (t + 1)
  have c0 := h1.now
  have f0 := h1.frozen 0
  have w1 : IntKind.i64.wrap ((t : Int) + 1) = ((t + 1 : Nat) : Int) := by rw [IntKind.wrap_i64]; omega
  obtain ⟨T, hT⟩ : ∃ T, t + 1 = T := ⟨_, rfl⟩
  rw [hT] at k1 k2 w1 HI0 HRow2 ⊢
  have ht9 : T ≤ 100000000 := by omega
  obtain ⟨W1, hW1⟩ : ∃ W, w.setCell ⟨p, 0, none⟩ (.int .i64 (T : Int)) = W := ⟨_, rfl⟩
  rw [hW1] at k1 k2
  have HW1 := Lib.hid hW1
  have HK1 := Lib.hid k1
  have HG1 : Hid (Goes w W1 (ftW p m lv) (ftW p m lv)) := Lib.hid (.of_tch (k2.mono (by simp [ftW])))
  have HC : Hid (T ≤ 100000000 ∧ L.length ≤ 1000) := Lib.hid ⟨ht9, h4.len⟩
  have HWd := Lib.hid (fun j (hj : j < 3) W => width_any j hj W)
  clear h1 h2 h3 h4 k1 k2 hT hW1 ht ht9
  go_enter Try.func16, Try.ntmps16
  go_wp2_with fail
  rw [HW1.out]
  clear c0 f0 w1
  go_loopw [3] (fun jv wr => ∃ (j : Nat) (lv1 : List Value) (ll1 : List (List TmI)) (M1 : List (Int × Value)), jv = .int .i64 (j : Int) ∧ 1 ≤ j ∧ j ≤ 3 ∧ Hid (WhM wr p m T a lv1 ll1 M1) ∧ Hid (InvC j T ll1 [] M1 L) ∧ Hid (InvM M1 L) ∧ Hid (Goes w wr (ftW p m lv) (ftW p m lv1))) (fun jv _ => 3 - (intOf jv).toNat)
  case atStart => exact ⟨1, lv, ll, M, rfl, by decide, by decide, HK1, HI0, HM0, HG1⟩
  case round =>
    obtain ⟨j, lv1, ll1, M1, rfl, hj1, hj3, hW, hI, hM, hG⟩ := hrel
    have c0 := hW.out.now
    by_cases hc : j < 3 ∧ T % widI j = 0
    · obtain ⟨hj, hr⟩ := hc
      have jI : decide ((j : Int) < 3) = true := by simp; omega
      have HWj := Lib.hid (fun W => HWd.out j hj W)
      have HJ := Lib.hid (And.intro hj (show j = 1 ∨ j = 2 by omega))
      obtain ⟨wd, hwd⟩ : ∃ wd, widI j = wd := ⟨_, rfl⟩
      have hwp := wid_pos j
      rw [hwd] at hr hwp HWj
      have r1 : Int.tmod (T : Int) (wd : Int) = 0 := by rw [rem_nat, hr]; rfl
      have r0 : ¬ (wd : Int) = 0 := by omega
      have k48 : 16 * j + slotI j T < 48 := by have : slotI j T < 16 := by unfold slotI; exact Nat.mod_lt _ (by decide)
                                               omega
      obtain ⟨v, hv⟩ : ∃ v, lv1[16 * j + slotI j T]? = some v := ⟨_, List.getElem?_eq_getElem (by rw [hW.out.n48]; exact k48)⟩
      obtain ⟨l, hl⟩ : ∃ l, ll1[16 * j + slotI j T]? = some l := ⟨_, List.getElem?_eq_getElem (by rw [hW.out.l48]; exact k48)⟩
      have HEm := Lib.hid (fun W (hT : Tch wr W []) => empty_any (hW.out.tch hT (by simp)) j hj HC.out.1 hv hl)
      have HAp := Lib.hid (hW.out.apart hv)
      have HI2 := Lib.hid ((hI.out.empty hl).next HJ.out.2 (by rw [List.getElem?_set, if_pos rfl, if_pos (by rw [hW.out.l48]; exact k48)]))
      have hvlt := own_lts (hW.out.rows _ v l hv hl)
      have HVl := Lib.hid hvlt
      have HLl := Lib.hid (Nat.le_trans (hI.out.few_ hl) HC.out.2)
      clear hr hwp hwd hj k48 hv hl hvlt
      go_wp2
      go_quiet ((go_at_call 27; exact Calls.quiet_of_same (HWj.out _)))
      obtain ⟨W2, hW2⟩ : ∃ W, wr.drewN nq = W := ⟨_, rfl⟩
      have HT2 : Hid (Tch wr W2 []) := Lib.hid (hW2 ▸ (Tch.refl wr []).drewN nq)
      rw [hW2]
      clear hW2 c0 r1 r0 jI
      go_wp2_with fail
      refine Calls.mono (HEm.out W2 HT2.out) ?_
      rintro e W3 ⟨A, c, rfl, rfl, hW3, hR3, hT3⟩
      obtain ⟨n, hn⟩ : ∃ n, l.length = n := ⟨_, rfl⟩
      rw [hn] at hR3 HLl HAp HVl ⊢
      have HW3 := Lib.hid hW3
      have HR3 := Lib.hid hR3
      have HG3 : Hid (Goes w W3 (ftW p m lv) (ftW p m (lv1.set (16 * j + slotI j T) (.slice none 0 0)))) := Lib.hid ((hG.out.trans_ (Goes.of_nil HT2.out _)).trans_ ⟨hT3.mono (by simp [ftW]), fun s hs => .inl (ft_nil s hs)⟩)
      have HV3 : Hid (∀ s ∈ obI (.slice A n c), s < W3.heap.size) := Lib.hid (own_lts hR3)
      have HN := Lib.hid hn
      obtain ⟨lv3, hlv3⟩ : ∃ lv3, lv1.set (16 * j + slotI j T) (.slice none 0 0) = lv3 := ⟨_, rfl⟩
      obtain ⟨ll3, hll3⟩ : ∃ ll3, ll1.set (16 * j + slotI j T) [] = ll3 := ⟨_, rfl⟩
      rw [hlv3, hll3] at HW3
      rw [hlv3] at HG3 HAp
      rw [hll3] at HI2
      clear hW3 hR3 hT3 hn HEm hlv3 hll3
      go_wp2_with fail
      go_loopw [35] (fun iv wr3 => ∃ (i : Nat) (lv4 : List Value) (ll4 : List (List TmI)) (M4 : List (Int × Value)), iv = .int .i64 (i : Int) ∧ i ≤ n ∧ Hid (WhM wr3 p m T a lv4 ll4 M4) ∧ Hid (InvC (j + 1) T ll4 (l.drop i) M4 L) ∧ Hid (InvM M4 L) ∧ Hid (wr3.ownsRow 0 57 3 (.slice A n c) n (l.flatMap tmC)) ∧ Hid (∀ s ∈ obI (.slice A n c), s ∉ ftW p m lv4) ∧ Hid (Goes w wr3 (ftW p m lv) (ftW p m lv4))) (fun iv _ => n - (intOf iv).toNat)
      case atStart => exact ⟨0, lv3, ll3, M1, rfl, Nat.zero_le _, HW3, Lib.hid (by rw [List.drop_zero]; exact HI2.out), hM, HR3, HAp, HG3⟩
      case round =>
        obtain ⟨i, lv4, ll4, M4, rfl, hi, hW4, hI4, hM4, hR4, hA4, hG4⟩ := hrel
        by_cases hin : i < n
        · have iI : (i : Int) < (n : Int) := by omega
          have i0 : (0 : Int) ≤ (i : Int) := by omega
          have i1 : IntKind.i64.wrap ((i : Int) + 1) = (i : Int) + 1 := by have := HLl.out; rw [IntKind.wrap_i64]; omega
          obtain ⟨x, hx⟩ : ∃ x, l[i]? = some x := ⟨_, List.getElem?_eq_getElem (by rw [HN.out]; exact hin)⟩
          obtain ⟨g, rfl⟩ := slice_some hR4.out (by omega)
          obtain ⟨e0, e1, e2⟩ := tm_cells hR4.out hx
          rw [drop_at hx] at hI4
          have HTb : Hid (Tch wr (wr.alloc (.cells (tmA x) 57)) []) := Lib.hid ((Tch.refl wr []).alloc _)
          have HWb := Lib.hid (hW4.out.tch HTb.out (by simp))
          have HPut := Lib.hid (putI HWb.out hI4.out (by have := HC.out; omega) HC.out.1)
          have HXL : Hid (x ∈ L) := Lib.hid ((hI4.out.mem x).2 (.inl (by simp)))
          have HMp := Lib.hid (fun v => hM4.out.put hW4.out.map.nodup HXL.out v)
          obtain ⟨x0, x1, x2⟩ := x
          obtain ⟨d0, d1, d2⟩ := (Blk.new wr 57 (tmA (x0, x1, x2))).t3
          have HI := Lib.hid (And.intro i1 hin)
          clear hx hI4
          go_wp2_with fail
          refine Calls.mono HPut.out ?_
          rintro e W5 ⟨rfl, lv5, ll5, v5, hW5, hI5, hG5⟩
          have HW5 := Lib.hid hW5
          have HI5 := Lib.hid hI5
          have HG5 : Hid (Goes wr W5 (ftW p m lv4) (ftW p m lv5)) := Lib.hid ((Goes.of_nil HTb.out _).trans_ hG5)
          have HR5 : Hid (W5.ownsRow 0 57 3 (.slice (some ⟨g, 0, none⟩) n c) n (l.flatMap tmC)) := Lib.hid (own_tch hR4.out HG5.out.tch hA4.out)
          have HA5 : Hid (∀ s ∈ obI (.slice (some ⟨g, 0, none⟩) n c), s ∉ ftW p m lv5) := Lib.hid (fun s hs h9 => by
            rcases HG5.out.fre s h9 with h8 | h8
            · exact hA4.out s hs h8
            · have := own_lts hR4.out s hs; omega)
          clear hW5 hI5 hG5 e0 e1 e2 d0 d1 d2 i1
          have i1 := HI.out.1
          go_wp2
          go_roundw
          case rel => exact ⟨i + 1, lv5, ll5, _, by go_num, HI.out.2, HW5, HI5, Lib.hid (HMp.out v5), HR5, HA5, Lib.hid (hG4.out.trans_ HG5.out)⟩
          case measure => have := HI.out.2; simp [intOf]; omega
        · have iI : ¬ (i : Int) < (n : Int) := by omega
          have HI6 : Hid (InvC (j + 1) T ll4 [] M4 L) := Lib.hid (by
            have := hI4.out
            rwa [List.drop_of_length_le (by rw [HN.out]; omega)] at this)
          have j1 : IntKind.i64.wrap ((j : Int) + 1) = (j : Int) + 1 := by rw [IntKind.wrap_i64]; omega
          go_wp2
          go_roundw
          case rel => exact ⟨j + 1, lv4, ll4, M4, by go_num, by omega, HJ.out.1, hW4, HI6, hM4, hG4⟩
          case measure => have := HJ.out.1; simp [intOf]; omega
    · have HI3 : Hid (InvC 3 T ll1 [] M1 L) := Lib.hid (by
        by_cases hj : j < 3
        · exact hI.out.stop (by omega) (fun e => hc ⟨hj, e⟩)
        · obtain rfl : j = 3 := by omega
          exact hI.out)
      have HEm := Lib.hid (fun v l W (hT : Tch wr W []) hv hl => empty_any (hW.out.tch hT (by simp)) 0 (by decide) HC.out.1 (v := v) (l := l) hv hl)
      by_cases hj : j < 3
      · have jI : decide ((j : Int) < 3) = true := by simp; omega
        have hr : T % widI j ≠ 0 := fun e => hc ⟨hj, e⟩
        have HWj := Lib.hid (fun W => HWd.out j hj W)
        obtain ⟨wd, hwd⟩ : ∃ wd, widI j = wd := ⟨_, rfl⟩
        have hwp := wid_pos j
        rw [hwd] at hr hwp HWj
        obtain ⟨r, hrr⟩ : ∃ r, T % wd = r := ⟨_, rfl⟩
        rw [hrr] at hr
        have r1 : Int.tmod (T : Int) (wd : Int) = (r : Int) := by rw [rem_nat, hrr]
        have r0 : ¬ (wd : Int) = 0 := by omega
        have hrT : r ≤ T := by rw [← hrr]; exact Nat.mod_le _ _
        have r2 : IntKind.i64.wrap (r : Int) = (r : Int) := by have := HC.out; rw [IntKind.wrap_i64]; omega
        have r3 : ((r : Int) == 0) = false := by simp; omega
        clear hc hr hwp hwd hrr hj hrT
        go_wp2
        go_quiet ((go_at_call 27; exact Calls.quiet_of_same (HWj.out _)))
        obtain ⟨W2, hW2⟩ : ∃ W, wr.drewN nq = W := ⟨_, rfl⟩
        have HT2 : Hid (Tch wr W2 []) := Lib.hid (hW2 ▸ (Tch.refl wr []).drewN nq)
        rw [hW2]
        clear hW2 c0 r1 r0 r2 r3 jI HWj
        obtain ⟨v, hv⟩ : ∃ v, lv1[16 * 0 + slotI 0 T]? = some v := ⟨_, List.getElem?_eq_getElem (by rw [hW.out.n48]; have : slotI 0 T < 16 := by { unfold slotI; exact Nat.mod_lt _ (by decide) }; omega)⟩
        obtain ⟨l, hl⟩ : ∃ l, ll1[16 * 0 + slotI 0 T]? = some l := ⟨_, List.getElem?_eq_getElem (by rw [hW.out.l48]; have : slotI 0 T < 16 := by { unfold slotI; exact Nat.mod_lt _ (by decide) }; omega)⟩
        have hk0 : 16 * 0 + slotI 0 T = T % 16 := by simp [slotI, widI]
        have HE0 := Lib.hid (HEm.out v l W2 HT2.out hv hl)
        have HAp := Lib.hid (hW.out.apart hv)
        have HLl := Lib.hid (Nat.le_trans (HI3.out.few_ hl) HC.out.2)
        have HFv : Hid (∀ s ∈ obI v, s ∈ ftW p m lv1) := Lib.hid (fun s hs => List.mem_cons_of_mem _ (List.mem_cons_of_mem _ (List.mem_flatMap.2 ⟨v, List.mem_of_getElem? hv, hs⟩)))
        rw [hk0] at HE0 HAp hl
        have HDue := Lib.hid (fun d => HI3.out.due_eq HRow.out.num (d := d) hl)
        have HGone := Lib.hid (fun M' hM' => HI3.out.gone hl (M' := M') hM')
        have HGoneM := Lib.hid (fun M' hM' hl' => hM.out.gone HRow.out.nd (t := T) (M' := M') hM' hl')
        have HVal : Hid (∀ x ∈ dueL L T, valG x.1 M1 ≠ none) := Lib.hid (fun x hx e => (hM.out.keys x.1).1 e x (dueL_iff.1 hx).1 rfl)
        have HNd : Hid (((dueL L T).map Prod.fst).Nodup) := Lib.hid (HRow.out.nd.sublist (List.filter_sublist.map _))
        clear hv hl hk0 hI
        go_wp2_with fail
        refine Calls.mono HE0.out ?_
        rintro e W3 ⟨A, c, rfl, rfl, hW3, hR3, hT3⟩
        obtain ⟨n, hn⟩ : ∃ n, l.length = n := ⟨_, rfl⟩
        rw [hn] at hR3 HLl HAp HFv ⊢
        have HW3 := Lib.hid hW3
        have HT3 := Lib.hid hT3
        have HSo := Lib.hid (sort_tm A n c l hn (by have := HLl.out; omega) W3 hR3)
        have HN := Lib.hid hn
        clear hW3 hR3 hT3 hn
        go_wp2_with fail
        refine Calls.mono HSo.out ?_
        rintro e W4 ⟨rfl, d, hp, hs, hR4, hT4⟩
        have hdd := HDue.out d hp hs
        subst hdd
        have HLd : Hid ((dueL L T).length = n) := Lib.hid (by rw [hp.length_eq]; exact HN.out)
        have HW4 := Lib.hid (HW3.out.tch hT4 (fun s hs h9 => HAp.out s h9 hs))
        have HR4 := Lib.hid hR4
        have HG4 : Hid (Goes w W4 (ftW p m lv) (ftW p m (lv1.set (T % 16) (.slice none 0 0)))) := Lib.hid ((((hG.out.trans_ (Goes.of_nil HT2.out _)).trans_ ⟨HT3.out.mono (by simp [ftW]), fun s hs => .inl hs⟩).trans_ ⟨hT4.mono (fun s hs => HFv.out s hs), fun s hs => .inl (ft_nil s hs)⟩))
        clear hp hs hR4 hT4
        obtain ⟨B0, hB0⟩ : ∃ B, W4.heap.size = B := ⟨_, rfl⟩
        have HB0 : Hid (W4.heap.size = B0 ∧ w.heap.size ≤ B0) := Lib.hid ⟨hB0, by rw [← hB0]; exact HG4.out.tch.size⟩
        clear hB0
        have HLt : Hid (∀ s ∈ ftW p m (lv1.set (T % 16) (.slice none 0 0)), s < B0) := Lib.hid (fun s hs => by rw [← HB0.out.1]; exact HW4.out.lt s hs)
        have HOv : Hid (∀ s ∈ obI (.slice A n c), s < B0) := Lib.hid (fun s hs => by rw [← HB0.out.1]; exact own_lts HR4.out s hs)
        go_wp2_with fail
        go_loopw [7, 49] (fun rv iv wr7 => ∃ (i : Nat) (M5 : List (Int × Value)) (A5 : Option Addr) (c5 : Nat), rv = .slice A5 i c5 ∧ iv = .int .i64 (i : Int) ∧ i ≤ n ∧ Hid (WhM wr7 p m T a (lv1.set (T % 16) (.slice none 0 0)) (ll1.set (T % 16) []) M5) ∧ Hid (WoM M1 M5 (dueL L T) i) ∧ Hid (wr7.ownsRow B0 3 1 (.slice A5 i c5) i (idsV ((dueL L T).take i))) ∧ Hid (wr7.ownsRow 0 57 3 (.slice A n c) n ((dueL L T).flatMap tmC)) ∧ Hid (Tch W4 wr7 [m])) (fun _ iv _ => n - (intOf iv).toNat)
        case atStart => exact ⟨0, M1, none, 0, rfl, rfl, Nat.zero_le _, HW4, Lib.hid (WoM.zero _ _), Lib.hid ⟨rfl, .inl ⟨rfl, rfl⟩⟩, HR4, Lib.hid (Tch.refl _ _)⟩
        case round =>
          obtain ⟨i, M5, A5, c5, rfl, rfl, hi, hW5, hWo, hR5, hD5, hT5⟩ := hrel
          by_cases hin : i < n
          · have iI : (i : Int) < (n : Int) := by omega
            have i0 : (0 : Int) ≤ (i : Int) := by omega
            have i1 : IntKind.i64.wrap ((i : Int) + 1) = (i : Int) + 1 := by have := HLl.out; rw [IntKind.wrap_i64]; omega
            obtain ⟨x, hx⟩ : ∃ x, (dueL L T)[i]? = some x := ⟨_, List.getElem?_eq_getElem (by rw [HLd.out]; exact hin)⟩
            obtain ⟨g, rfl⟩ := slice_some hD5.out (by omega)
            obtain ⟨e0, e1, e2⟩ := tm_cells hD5.out hx
            have HX := Lib.hid hx
            have HTb : Hid (Tch wr (wr.alloc (.cells (tmA x) 57)) []) := Lib.hid ((Tch.refl wr []).alloc _)
            have HWb := Lib.hid (hW5.out.tch HTb.out (by simp))
            have HBb : Hid (Blk (wr.alloc (.cells (tmA x) 57)) wr.heap.size 57 (tmA x)) := Lib.hid (Blk.new wr 57 (tmA x))
            have HStp := Lib.hid (hWo.out.step (x := x) hW5.out.map.nodup hx HNd.out (HVal.out x (List.mem_of_getElem? hx)))
            have HTk := Lib.hid (take_at hx)
            obtain ⟨x0, x1, x2⟩ := x
            obtain ⟨d0, d1, d2⟩ := HBb.out.t3
            have c1 := HWb.out.places
            have HI := Lib.hid (And.intro i1 hin)
            have HmB : Hid (m < B0 ∧ m < wr.heap.size ∧ B0 ≤ wr.heap.size) := Lib.hid ⟨HLt.out m (by simp [ftW]), hW5.out.lt m (by simp), by have := hT5.out.size; have := HB0.out; omega⟩
            clear hx i1
            obtain ⟨Wb, hWb⟩ : ∃ W, wr.alloc (.cells (tmA (x0, x1, x2)) 57) = W := ⟨_, rfl⟩
            have HWe := Lib.hid hWb
            rw [hWb] at HTb HWb HBb
            go_wp2
            rw [hWb] at c1 d0 d1 d2
            clear hWb
            go_still_tail 6, (by kernel_rfl)
            change wpList _ _ _ _ _ Wb.drew
            obtain ⟨W6, hW6⟩ : ∃ W, Wb.drew = W := ⟨_, rfl⟩
            have HT6 : Hid (Tch wr W6 []) := Lib.hid (hW6 ▸ HTb.out.drew)
            have HW6 := Lib.hid (hW5.out.tch HT6.out (by simp))
            have HB6 : Hid (Blk W6 wr.heap.size 57 (tmA (x0, x1, x2))) := Lib.hid (hW6 ▸ HBb.out)
            rw [hW6]
            clear hW6 c1 e0 e1 e2 d0 d1 d2
            have i1 := HI.out.1
            go_wp2_with (first
              | ((refine wpList_mdel rfl keyI (.tmp 56) (.tmp 58) 46 53 rfl Try.underlying46 rfl x0 rfl HW6.out.map ?_; intro w7 hM7 hT7 hs7; have HW7 := Lib.hid (HW6.out.setMap hM7 hT7); have HT7 := Lib.hid hT7; clear hM7 hT7 hs7; obtain ⟨d0, -, -⟩ := (HT7.out.blk HB6.out (by simp; have := HmB.out; omega)).t3; have HT7w : Hid (Tch wr w7 [m]) := Lib.hid ((HT6.out.mono (by simp)).trans HT7.out); have HR7 := Lib.hid (own_tch hR5.out HT7w.out (fun s hs h9 => by have h1 := own_ge hR5.out s hs; have h2 := HmB.out; rw [List.mem_singleton.1 h9] at h1; omega)); have HSr := Lib.hid (src_new w7 3 [.int .i64 x0]); have HT8 : Hid (Tch w7 (w7.alloc (.cells #[.int .i64 x0] 3)) []) := Lib.hid ((Tch.refl w7 []).alloc _); have HR8 := Lib.hid (own_tch HR7.out HT8.out (by simp)); have HN8 : Hid (i ≤ 1000000) := Lib.hid (by have := HLl.out; omega); have HB8 : Hid (B0 ≤ (w7.alloc (.cells #[.int .i64 x0] 3)).heap.size) := Lib.hid (by have h1 := HT8.out.size; have h2 := HT7w.out.size; have h3 := HmB.out; omega)))
              | (at_builtin; (refine wpList_apc 34 3 (.int .i64 0) 1 8 Try.underlying34 infoI rfl (by decide) (by decide) _ rfl (.tmp 59) (.tmp 62) rfl B0 (.slice A5 i c5) i (idsV ((dueL L T).take i)) rfl HR8.out ⟨w7.heap.size, 0, none⟩ 1 [.int .i64 x0] rfl rfl (fun j u hj => HSr.out j u hj) (by simp [Value.oneCell']) HN8.out HB8.out ?_; intro v9 w9 hown hg hv; obtain ⟨A9, q9, e9, -, -⟩ := own_sl hown; subst e9; have hTg := Tch.of_grown' (S := obI (.slice A5 i c5)) hg (fun k e => by rw [obI_some e]; simp); have HT9 : Hid (Tch w7 w9 (obI (.slice A5 i c5))) := Lib.hid ((HT8.out.mono (by simp)).trans hTg); have HR9 := Lib.hid hown; clear hown hg hv hTg)))
            have HNo : Hid (∀ s ∈ obI (.slice A5 i c5), B0 ≤ s) := Lib.hid (own_ge hR5.out)
            have HW9 := Lib.hid (HW7.out.tch HT9.out (fun s hs h9 => by
              have h1 := HNo.out s h9
              have h2 := HLt.out s hs
              omega))
            have HD9 : Hid (w9.ownsRow 0 57 3 (.slice (some ⟨g, 0, none⟩) n c) n ((dueL L T).flatMap tmC)) := Lib.hid (own_tch (own_tch hD5.out HT7w.out (fun s hs h9 => by
              rw [List.mem_singleton.1 h9] at hs
              exact HAp.out m hs (by simp [ftW]))) HT9.out (fun s hs h9 => by
              have h1 := HNo.out s h9
              have h2 := HOv.out s hs
              omega))
            go_roundw
            case rel => exact ⟨i + 1, _, A9, q9, rfl, by go_num, HI.out.2, HW9, HStp, Lib.hid (by rw [HTk.out]; unfold idsV; rw [List.map_append]; exact HR9.out), HD9, Lib.hid ((hT5.out.trans HT7w.out).trans_fre HT9.out (fun s hs => .inr (by have h1 := HNo.out s hs; have h2 := HB0.out.1; omega)))⟩
            case measure => have := HI.out.2; simp [intOf]; omega
          · have iI : ¬ (i : Int) < (n : Int) := by omega
            obtain rfl : i = n := by omega
            go_wp2
            go_ret
            have hwo := hWo.out
            have htk : (dueL L T).take i = dueL L T := List.take_of_length_le (by rw [HLd.out]; exact Nat.le_refl _)
            have hval := hwo.val
            rw [htk] at hval
            have hr5 := hR5.out
            rw [htk] at hr5
            rw [HLd.out]
            refine ⟨A5, c5, rfl, own_mono hr5 HB0.out.2, ftW p m (lv1.set (T % 16) (.slice none 0 0)), ⟨m, _, _, M5, hW5.out, HGone.out M5 hval, HGoneM.out M5 hval (by rw [HLd.out]; exact hwo.len), HRow2.out, rfl⟩, HG4.out.trans_ (.of_tch (hT5.out.mono (by simp [ftW]))), fun s hs h9 => ?_⟩
            have h1 := own_ge hr5 s hs
            have h2 := HLt.out s h9
            omega
      · have jI : decide ((j : Int) < 3) = false := by simp; omega
        clear hc hj
        go_wp2
        go_quiet (fail)
        obtain ⟨W2, hW2⟩ : ∃ W, wr.drewN nq = W := ⟨_, rfl⟩
        have HT2 : Hid (Tch wr W2 []) := Lib.hid (hW2 ▸ (Tch.refl wr []).drewN nq)
        rw [hW2]
        clear hW2 c0 jI
        obtain ⟨v, hv⟩ : ∃ v, lv1[16 * 0 + slotI 0 T]? = some v := ⟨_, List.getElem?_eq_getElem (by rw [hW.out.n48]; have : slotI 0 T < 16 := by { unfold slotI; exact Nat.mod_lt _ (by decide) }; omega)⟩
        obtain ⟨l, hl⟩ : ∃ l, ll1[16 * 0 + slotI 0 T]? = some l := ⟨_, List.getElem?_eq_getElem (by rw [hW.out.l48]; have : slotI 0 T < 16 := by { unfold slotI; exact Nat.mod_lt _ (by decide) }; omega)⟩
        have hk0 : 16 * 0 + slotI 0 T = T % 16 := by simp [slotI, widI]
        have HE0 := Lib.hid (HEm.out v l W2 HT2.out hv hl)
        have HAp := Lib.hid (hW.out.apart hv)
        have HLl := Lib.hid (Nat.le_trans (HI3.out.few_ hl) HC.out.2)
        have HFv : Hid (∀ s ∈ obI v, s ∈ ftW p m lv1) := Lib.hid (fun s hs => List.mem_cons_of_mem _ (List.mem_cons_of_mem _ (List.mem_flatMap.2 ⟨v, List.mem_of_getElem? hv, hs⟩)))
        rw [hk0] at HE0 HAp hl
        have HDue := Lib.hid (fun d => HI3.out.due_eq HRow.out.num (d := d) hl)
        have HGone := Lib.hid (fun M' hM' => HI3.out.gone hl (M' := M') hM')
        have HGoneM := Lib.hid (fun M' hM' hl' => hM.out.gone HRow.out.nd (t := T) (M' := M') hM' hl')
        have HVal : Hid (∀ x ∈ dueL L T, valG x.1 M1 ≠ none) := Lib.hid (fun x hx e => (hM.out.keys x.1).1 e x (dueL_iff.1 hx).1 rfl)
        have HNd : Hid (((dueL L T).map Prod.fst).Nodup) := Lib.hid (HRow.out.nd.sublist (List.filter_sublist.map _))
        clear hv hl hk0 hI
        go_wp2_with fail
        refine Calls.mono HE0.out ?_
        rintro e W3 ⟨A, c, rfl, rfl, hW3, hR3, hT3⟩
        obtain ⟨n, hn⟩ : ∃ n, l.length = n := ⟨_, rfl⟩
        rw [hn] at hR3 HLl HAp HFv ⊢
        have HW3 := Lib.hid hW3
        have HT3 := Lib.hid hT3
        have HSo := Lib.hid (sort_tm A n c l hn (by have := HLl.out; omega) W3 hR3)
        have HN := Lib.hid hn
        clear hW3 hR3 hT3 hn
        go_wp2_with fail
        refine Calls.mono HSo.out ?_
        rintro e W4 ⟨rfl, d, hp, hs, hR4, hT4⟩
        have hdd := HDue.out d hp hs
        subst hdd
        have HLd : Hid ((dueL L T).length = n) := Lib.hid (by rw [hp.length_eq]; exact HN.out)
        have HW4 := Lib.hid (HW3.out.tch hT4 (fun s hs h9 => HAp.out s h9 hs))
        have HR4 := Lib.hid hR4
        have HG4 : Hid (Goes w W4 (ftW p m lv) (ftW p m (lv1.set (T % 16) (.slice none 0 0)))) := Lib.hid ((((hG.out.trans_ (Goes.of_nil HT2.out _)).trans_ ⟨HT3.out.mono (by simp [ftW]), fun s hs => .inl hs⟩).trans_ ⟨hT4.mono (fun s hs => HFv.out s hs), fun s hs => .inl (ft_nil s hs)⟩))
        clear hp hs hR4 hT4
        obtain ⟨B0, hB0⟩ : ∃ B, W4.heap.size = B := ⟨_, rfl⟩
        have HB0 : Hid (W4.heap.size = B0 ∧ w.heap.size ≤ B0) := Lib.hid ⟨hB0, by rw [← hB0]; exact HG4.out.tch.size⟩
        clear hB0
        have HLt : Hid (∀ s ∈ ftW p m (lv1.set (T % 16) (.slice none 0 0)), s < B0) := Lib.hid (fun s hs => by rw [← HB0.out.1]; exact HW4.out.lt s hs)
        have HOv : Hid (∀ s ∈ obI (.slice A n c), s < B0) := Lib.hid (fun s hs => by rw [← HB0.out.1]; exact own_lts HR4.out s hs)
        go_wp2_with fail
        go_loopw [7, 49] (fun rv iv wr7 => ∃ (i : Nat) (M5 : List (Int × Value)) (A5 : Option Addr) (c5 : Nat), rv = .slice A5 i c5 ∧ iv = .int .i64 (i : Int) ∧ i ≤ n ∧ Hid (WhM wr7 p m T a (lv1.set (T % 16) (.slice none 0 0)) (ll1.set (T % 16) []) M5) ∧ Hid (WoM M1 M5 (dueL L T) i) ∧ Hid (wr7.ownsRow B0 3 1 (.slice A5 i c5) i (idsV ((dueL L T).take i))) ∧ Hid (wr7.ownsRow 0 57 3 (.slice A n c) n ((dueL L T).flatMap tmC)) ∧ Hid (Tch W4 wr7 [m])) (fun _ iv _ => n - (intOf iv).toNat)
        case atStart => exact ⟨0, M1, none, 0, rfl, rfl, Nat.zero_le _, HW4, Lib.hid (WoM.zero _ _), Lib.hid ⟨rfl, .inl ⟨rfl, rfl⟩⟩, HR4, Lib.hid (Tch.refl _ _)⟩
        case round =>
          obtain ⟨i, M5, A5, c5, rfl, rfl, hi, hW5, hWo, hR5, hD5, hT5⟩ := hrel
          by_cases hin : i < n
          · have iI : (i : Int) < (n : Int) := by omega
            have i0 : (0 : Int) ≤ (i : Int) := by omega
            have i1 : IntKind.i64.wrap ((i : Int) + 1) = (i : Int) + 1 := by have := HLl.out; rw [IntKind.wrap_i64]; omega
            obtain ⟨x, hx⟩ : ∃ x, (dueL L T)[i]? = some x := ⟨_, List.getElem?_eq_getElem (by rw [HLd.out]; exact hin)⟩
            obtain ⟨g, rfl⟩ := slice_some hD5.out (by omega)
            obtain ⟨e0, e1, e2⟩ := tm_cells hD5.out hx
            have HX := Lib.hid hx
            have HTb : Hid (Tch wr (wr.alloc (.cells (tmA x) 57)) []) := Lib.hid ((Tch.refl wr []).alloc _)
            have HWb := Lib.hid (hW5.out.tch HTb.out (by simp))
            have HBb : Hid (Blk (wr.alloc (.cells (tmA x) 57)) wr.heap.size 57 (tmA x)) := Lib.hid (Blk.new wr 57 (tmA x))
            have HStp := Lib.hid (hWo.out.step (x := x) hW5.out.map.nodup hx HNd.out (HVal.out x (List.mem_of_getElem? hx)))
            have HTk := Lib.hid (take_at hx)
            obtain ⟨x0, x1, x2⟩ := x
            obtain ⟨d0, d1, d2⟩ := HBb.out.t3
            have c1 := HWb.out.places
            have HI := Lib.hid (And.intro i1 hin)
            have HmB : Hid (m < B0 ∧ m < wr.heap.size ∧ B0 ≤ wr.heap.size) := Lib.hid ⟨HLt.out m (by simp [ftW]), hW5.out.lt m (by simp), by have := hT5.out.size; have := HB0.out; omega⟩
            clear hx i1
            obtain ⟨Wb, hWb⟩ : ∃ W, wr.alloc (.cells (tmA (x0, x1, x2)) 57) = W := ⟨_, rfl⟩
            have HWe := Lib.hid hWb
            rw [hWb] at HTb HWb HBb
            go_wp2
            rw [hWb] at c1 d0 d1 d2
            clear hWb
            go_still_tail 6, (by kernel_rfl)
            change wpList _ _ _ _ _ Wb.drew
            obtain ⟨W6, hW6⟩ : ∃ W, Wb.drew = W := ⟨_, rfl⟩
            have HT6 : Hid (Tch wr W6 []) := Lib.hid (hW6 ▸ HTb.out.drew)
            have HW6 := Lib.hid (hW5.out.tch HT6.out (by simp))
            have HB6 : Hid (Blk W6 wr.heap.size 57 (tmA (x0, x1, x2))) := Lib.hid (hW6 ▸ HBb.out)
            rw [hW6]
            clear hW6 c1 e0 e1 e2 d0 d1 d2
            have i1 := HI.out.1
            go_wp2_with (first
              | ((refine wpList_mdel rfl keyI (.tmp 56) (.tmp 58) 46 53 rfl Try.underlying46 rfl x0 rfl HW6.out.map ?_; intro w7 hM7 hT7 hs7; have HW7 := Lib.hid (HW6.out.setMap hM7 hT7); have HT7 := Lib.hid hT7; clear hM7 hT7 hs7; obtain ⟨d0, -, -⟩ := (HT7.out.blk HB6.out (by simp; have := HmB.out; omega)).t3; have HT7w : Hid (Tch wr w7 [m]) := Lib.hid ((HT6.out.mono (by simp)).trans HT7.out); have HR7 := Lib.hid (own_tch hR5.out HT7w.out (fun s hs h9 => by have h1 := own_ge hR5.out s hs; have h2 := HmB.out; rw [List.mem_singleton.1 h9] at h1; omega)); have HSr := Lib.hid (src_new w7 3 [.int .i64 x0]); have HT8 : Hid (Tch w7 (w7.alloc (.cells #[.int .i64 x0] 3)) []) := Lib.hid ((Tch.refl w7 []).alloc _); have HR8 := Lib.hid (own_tch HR7.out HT8.out (by simp)); have HN8 : Hid (i ≤ 1000000) := Lib.hid (by have := HLl.out; omega); have HB8 : Hid (B0 ≤ (w7.alloc (.cells #[.int .i64 x0] 3)).heap.size) := Lib.hid (by have h1 := HT8.out.size; have h2 := HT7w.out.size; have h3 := HmB.out; omega)))
              | (at_builtin; (refine wpList_apc 34 3 (.int .i64 0) 1 8 Try.underlying34 infoI rfl (by decide) (by decide) _ rfl (.tmp 59) (.tmp 62) rfl B0 (.slice A5 i c5) i (idsV ((dueL L T).take i)) rfl HR8.out ⟨w7.heap.size, 0, none⟩ 1 [.int .i64 x0] rfl rfl (fun j u hj => HSr.out j u hj) (by simp [Value.oneCell']) HN8.out HB8.out ?_; intro v9 w9 hown hg hv; obtain ⟨A9, q9, e9, -, -⟩ := own_sl hown; subst e9; have hTg := Tch.of_grown' (S := obI (.slice A5 i c5)) hg (fun k e => by rw [obI_some e]; simp); have HT9 : Hid (Tch w7 w9 (obI (.slice A5 i c5))) := Lib.hid ((HT8.out.mono (by simp)).trans hTg); have HR9 := Lib.hid hown; clear hown hg hv hTg)))
            have HNo : Hid (∀ s ∈ obI (.slice A5 i c5), B0 ≤ s) := Lib.hid (own_ge hR5.out)
            have HW9 := Lib.hid (HW7.out.tch HT9.out (fun s hs h9 => by
              have h1 := HNo.out s h9
              have h2 := HLt.out s hs
              omega))
            have HD9 : Hid (w9.ownsRow 0 57 3 (.slice (some ⟨g, 0, none⟩) n c) n ((dueL L T).flatMap tmC)) := Lib.hid (own_tch (own_tch hD5.out HT7w.out (fun s hs h9 => by
              rw [List.mem_singleton.1 h9] at hs
              exact HAp.out m hs (by simp [ftW]))) HT9.out (fun s hs h9 => by
              have h1 := HNo.out s h9
              have h2 := HOv.out s hs
              omega))
            go_roundw
            case rel => exact ⟨i + 1, _, A9, q9, rfl, by go_num, HI.out.2, HW9, HStp, Lib.hid (by rw [HTk.out]; unfold idsV; rw [List.map_append]; exact HR9.out), HD9, Lib.hid ((hT5.out.trans HT7w.out).trans_fre HT9.out (fun s hs => .inr (by have h1 := HNo.out s hs; have h2 := HB0.out.1; omega)))⟩
            case measure => have := HI.out.2; simp [intOf]; omega
          · have iI : ¬ (i : Int) < (n : Int) := by omega
            obtain rfl : i = n := by omega
            go_wp2
            go_ret
            have hwo := hWo.out
            have htk : (dueL L T).take i = dueL L T := List.take_of_length_le (by rw [HLd.out]; exact Nat.le_refl _)
            have hval := hwo.val
            rw [htk] at hval
            have hr5 := hR5.out
            rw [htk] at hr5
            rw [HLd.out]
            refine ⟨A5, c5, rfl, own_mono hr5 HB0.out.2, ftW p m (lv1.set (T % 16) (.slice none 0 0)), ⟨m, _, _, M5, hW5.out, HGone.out M5 hval, HGoneM.out M5 hval (by rw [HLd.out]; exact hwo.len), HRow2.out, rfl⟩, HG4.out.trans_ (.of_tch (hT5.out.mono (by simp [ftW]))), fun s hs h9 => ?_⟩
            have h1 := own_ge hr5 s hs
            have h2 := HLt.out s h9
            omega
end
end Go.Proofs.Ythkjfgegmbdebaa
