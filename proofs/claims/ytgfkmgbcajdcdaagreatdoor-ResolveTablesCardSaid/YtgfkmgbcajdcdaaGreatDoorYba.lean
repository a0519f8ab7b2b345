/-
  Several texts in one: IfZ, RxA, PRHo, RbJ.
-/
import Derived.Test.YtgfkmgbcajdcdaaGreatDoorYaz
import Derived.Test.YtgfkmgbcajdcdaaGreatDoorYad
import Derived.Test.YtgfkmgbcajdcdaaGreatDoorYal
import Derived.Test.YtgfkmgbcajdcdaaGreatDoorYav
import Derived.Test.YtgfkmgbcajdcdaaGreatDoorYat
import Derived.Test.YtgfkmgbcajdcdaaGreatDoorYax
import Derived.Deep.RegionHeld3
import Derived.BigGuard
import Derived.StillTailTactics
import Derived.Test.YtgfkmgbcajdcdaaGreatDoorYaa
set_option linter.unusedVariables false
set_option maxRecDepth 100000
set_option maxHeartbeats 16000000
namespace Go.Proofs.YtgfkmgbcajdcdaaGreatDoor.Ifs
open Go.RowKit

def fltI (a : AdI) (l : List Loc) (k : Nat) : List Loc := (l.take k).filter fun x => !isA a x
theorem fltI_yes {a : AdI} {l : List Loc} {k : Nat} {x : Loc} (hx : l[k]? = some x) (h : isA a x = true) : fltI a l (k + 1) = fltI a l k := by
 unfold fltI
 rw [List.take_add_one, hx, List.filter_append]
 simp [h]
theorem fltI_no {a : AdI} {l : List Loc} {k : Nat} {x : Loc} (hx : l[k]? = some x) (h : isA a x = false) : fltI a l (k + 1) = fltI a l k ++ [x] := by
 unfold fltI
 rw [List.take_add_one, hx, List.filter_append]
 simp [h]
theorem fltI_le (a : AdI) (l : List Loc) (k : Nat) : (fltI a l k).length ≤ l.length := by
 unfold fltI
 exact Nat.le_trans (List.length_filter_le _ _) (by simp; omega)
theorem fltI_all (a : AdI) (l : List Loc) : ((l.filter fun x => !isA a x).length = l.length) ↔ l.any (isA a) = false := by
 rw [List.length_filter_eq_length_iff, List.any_eq_false]
 simp
theorem dropD (t : Nat) (S : List Nat) (st : StI) (port : Int) (a : AdI) (w : World) (h : IfD w t S st) :
  Calls Tryz.prog 91 #[.pointer (some ⟨t, 0, none⟩), .int .i64 port, adV a] w fun e w' => e = .returned (.int .i64 (dropI st port a).2) ∧ ∃ S', IfD w' t S' (dropI st port a).1 ∧ Goes w w' S S' := by
 have hinv := h.inv.drop port a
 have HS0 := lH h
 obtain ⟨s, ah, al⟩ := a
 obtain ⟨xb, hxb⟩ : ∃ xb, w.heap.size = xb := ⟨_, rfl⟩
 obtain ⟨W0, hW0⟩ : ∃ W, w.alloc (.cells #[.bool s, .int .u64 (ah : Int), .int .u64 (al : Int)] 28) = W := ⟨_, rfl⟩
 have hX : Blk W0 xb 28 #[.bool s, .int .u64 (ah : Int), .int .u64 (al : Int)] := hW0 ▸ hxb ▸ Blk.new _ _ _
 have HT0 : Hid (Tch w W0 []) := lH (hW0 ▸ (Tch.refl w []).alloc _)
 have hD0 := h.tch HT0.out (by simp)
 have HTh := lH (there_any t S st port W0 hD0)
 have HW0 := lH (And.intro hW0 hxb)
 have HX := lH hX
 clear hW0 hxb h hX
 cases hth : thereI st port with
 | false =>
  rw [hth] at HTh
  have HE : Hid (dropI st port (s, ah, al) = (st, 132)) := lH (by unfold dropI; rw [if_pos hth])
  clear hinv hD0 hth
  go_enter Tryz.func91, Tryz.ntmps91
  go_wp2_with fail
  rw [HW0.out.1, HW0.out.2]
  refine cZm HTh.out ?_
  rintro e w' ⟨rfl, rfl⟩
  go_wp2
  go_ret
  rw [HE.out]
  exact ⟨rfl, S, HS0.out.tch HT0.out (by simp), Goes.of_tch (HT0.out.mono (by simp))⟩
 | true =>
  rw [hth] at HTh
  have HTt := lH hth
  have HD0 := lH hD0
  obtain ⟨gL, cL, A, c, n, i, l, q1, q2, q3, q4, q5, q6, q7, q8, q9, q10, q11, q12, -⟩ := HD0.out.row hth
  have HEa : Hid (l.any (isA (s, ah, al)) = false → dropI st port (s, ah, al) = (st, 132)) := lH (fun e => by unfold dropI; rw [if_neg (by rw [hth]; simp), q7, if_pos e])
  have HEb : Hid (¬ l.any (isA (s, ah, al)) = false → dropI st port (s, ah, al) = ((st.1, st.2.set i (l.filter fun x => !isA (s, ah, al) x)), 0)) := lH (fun e => by unfold dropI; rw [if_neg (by rw [hth]; simp), q7, if_neg e, q9, modify_set q8])
  have HInv := lH hinv
  have HB := lH (show i < st.1.length from by omega)
  obtain ⟨m, hm⟩ : ∃ m, l.length = m := ⟨_, rfl⟩
  have HM := lH hm
  have hl8 : m ≤ 8 := by rw [← hm]; exact HD0.out.inv.loc l (List.mem_of_getElem? q8)
  have i0 : (0 : Int) ≤ (i : Int) := by omega
  have i1 : (i : Int) < (n : Int) := by omega
  rw [hm] at q2 q3
  have hob : ∀ s ∈ obI (.slice A m c), s < W0.heap.size := own_lts q3
  -- what is read of the set in any world behind
  have HRd : Hid (∀ W, Tch W0 W [] → W.cell? ⟨t, 1, none⟩ = some (.slice (some ⟨gL, 0, none⟩) n cL) ∧ W.cell? ⟨gL, i, none⟩ = some (.slice A m c) ∧ W.ownsRow 0 202 4 (.slice A m c) m (l.flatMap lcC) ∧ Blk W xb 28 #[.bool s, .int .u64 (ah : Int), .int .u64 (al : Int)]) := lH (fun W hT =>
   ⟨(hT.cell (p := ⟨t, 1, none⟩) q11 (by simp)).trans q1, (hT.cell (p := ⟨gL, i, none⟩) q12 (by simp)).trans q2, own_tch q3 hT (by simp), hT.blk HX.out (by simp)⟩)
  have HSz0 : Hid (w.heap.size ≤ W0.heap.size) := lH HT0.out.size
  obtain ⟨c1, c2, -, -⟩ := HRd.out W0 (Tch.refl _ _)
  clear hinv hD0 hth q1 q2 q3 q5 q6 q7 q8 q9 q10 q11 q12 hm hob
  go_enter Tryz.func91, Tryz.ntmps91
  go_wp2_with fail
  rw [HW0.out.1, HW0.out.2]
  refine cZm HTh.out ?_
  rintro e w' ⟨rfl, rfl⟩
  go_wp2
  go_loopw [7, 8] (fun ov kv wr => ∃ (k f : Nat) (A1 : Option Addr) (cc : Nat), ov = .slice A1 f cc ∧ kv = .int .i64 (k : Int) ∧ k ≤ m ∧ f ≤ m ∧ Hid ((fltI (s, ah, al) l k).length = f) ∧ Hid (wr.ownsRow W0.heap.size 202 4 (.slice A1 f cc) f ((fltI (s, ah, al) l k).flatMap lcC)) ∧ Hid (Tch W0 wr [])) (fun _ kv _ => m - (intOf kv).toNat)
  case atStart => exact ⟨0, 0, none, 0, rfl, rfl, Nat.zero_le _, Nat.zero_le _, lH rfl, lH ⟨rfl, .inl ⟨rfl, rfl⟩⟩, lH (Tch.refl _ _)⟩
  case round =>
   obtain ⟨k, f, A1, cc, rfl, rfl, hk, hf, hF, hO, hT⟩ := hrel
   obtain ⟨d1, d2, d3, d4⟩ := HRd.out wr hT.out
   have k1 : IntKind.i64.wrap ((k : Int) + 1) = (k : Int) + 1 := by rw [IntKind.wrap_i64]; omega
   by_cases hkm : k < m
   ·have kI : (k : Int) < (m : Int) := by omega
    have k0 : (0 : Int) ≤ (k : Int) := by omega
    obtain ⟨x, hx⟩ : ∃ x, l[k]? = some x := ⟨_, List.getElem?_eq_getElem (by rw [HM.out]; exact hkm)⟩
    obtain ⟨gx, rfl⟩ := slice_some d3 (by omega)
    have hxa : isA (s, ah, al) x = decide (x.1 = (s, ah, al)) := rfl
    have HXA := lH hxa
    obtain ⟨b, hb⟩ : ∃ b, decide (x.1 = (s, ah, al)) = b := ⟨_, rfl⟩
    have HQe := eq_neq 28 _ _ (eq_adI x.1 (s, ah, al) hb)
    have HBb := lH hb
    obtain ⟨⟨xs, xh, xl⟩, xbt⟩ := x
    have HQe : ∀ W, (binOp .neq 28 (.agg #[.bool xs, .int .u64 (xh : Int), .int .u64 (xl : Int)]) (.agg #[.bool s, .int .u64 (ah : Int), .int .u64 (al : Int)])).run Tryz.prog W = .ok (.bool (!b)) W := HQe
    have x0 := own_cellN d3 ((flat4_at (f := lcC) (fun _ => rfl) hx (k := 0) (by decide)).trans (show _ = some (Value.bool xs) by rfl))
    have x1 := own_cellN d3 ((flat4_at (f := lcC) (fun _ => rfl) hx (k := 1) (by decide)).trans (show _ = some (Value.int .u64 (xh : Int)) by rfl))
    have x2 := own_cellN d3 ((flat4_at (f := lcC) (fun _ => rfl) hx (k := 2) (by decide)).trans (show _ = some (Value.int .u64 (xl : Int)) by rfl))
    have x3 := own_cellN d3 ((flat4_at (f := lcC) (fun _ => rfl) hx (k := 3) (by decide)).trans (show _ = some (Value.int .i64 xbt) by rfl))
    have y0 := ((d4.cell 0).trans (show _ = some (Value.bool s) by rfl))
    have y1 := ((d4.cell 1).trans (show _ = some (Value.int .u64 (ah : Int)) by rfl))
    have y2 := ((d4.cell 2).trans (show _ = some (Value.int .u64 (al : Int)) by rfl))
    have HC2 := lH (And.intro d1 (And.intro d2 (And.intro x0 (And.intro x1 (And.intro x2 (And.intro y0 (And.intro y1 y2)))))))
    have Hx := lH hx
    have HX3 := lH x3
    clear hx hb hxa d3 d4 x0 x1 x2 x3 y0 y1 y2
    go_wp2
    refine wp_region_held_drew (S := (fun W => W.cell? ⟨t, 1, none⟩ = some (Value.slice (some ⟨gL, 0, none⟩) n cL) ∧ W.cell? ⟨gL, i, none⟩ = some (Value.slice (some ⟨gx, 0, none⟩) m c) ∧ W.cell? ⟨gx, k * 4, none⟩ = some (Value.bool xs) ∧ W.cell? ⟨gx, k * 4 + 1, none⟩ = some (Value.int .u64 (xh : Int)) ∧ W.cell? ⟨gx, k * 4 + 2, none⟩ = some (Value.int .u64 (xl : Int)) ∧ W.cell? ⟨xb, 0, none⟩ = some (Value.bool s) ∧ W.cell? ⟨xb, 1, none⟩ = some (Value.int .u64 (ah : Int)) ∧ W.cell? ⟨xb, 2, none⟩ = some (Value.int .u64 (al : Int)))) (by kernel_rfl) ?_ (fun hHeld => ?_)
    ·(exact HC2.out)
    refine tkH 0 ?_
    refine tkH 1 ?_
    refine tkH 2 ?_
    refine tkH 3 ?_
    refine tkH 4 ?_
    refine tkH 5 ?_
    refine tkH 6 ?_
    refine tkH 7 ?_
    refine tkH 8 ?_
    refine tkH 9 ?_
    refine tkH 10 ?_
    refine tkH 11 ?_
    refine tkH 12 ?_
    refine tkH 13 ?_
    refine wpAnyH_done (by kernel_rfl) ?_ _
    obtain ⟨w4, hw4⟩ : ∃ w4, wr.drew = w4 := ⟨_, rfl⟩
    have HO4 := lH hO.out.drew
    have HT4 := lH hT.out.drew
    rw [hw4] at HO4 HT4 ⊢
    have HC4 := lH (HRd.out w4 HT4.out)
    clear hw4 d1 d2 HC2 HX3 HQe
    obtain ⟨d1, d2, d3, d4⟩ := HC4.out
    cases b with
    | true =>
     have HFl : Hid (fltI (s, ah, al) l (k + 1) = fltI (s, ah, al) l k) := lH (fltI_yes Hx.out (by rw [HXA.out]; exact HBb.out))
     clear d1 d2 d3 d4
     go_wp2
     go_roundw
     case rel => exact ⟨k + 1, f, A1, cc, rfl, by go_num, hkm, hf, by rw [HFl.out]; exact hF, by rw [HFl.out]; exact HO4, HT4⟩
     case measure => simp [intOf]; omega
    | false =>
     have HFl : Hid (fltI (s, ah, al) l (k + 1) = fltI (s, ah, al) l k ++ [((xs, xh, xl), xbt)]) := lH (fltI_no Hx.out (by rw [HXA.out]; exact HBb.out))
     have hfm : f + 1 ≤ m := by have h1 := fltI_le (s, ah, al) l (k + 1); rw [HFl.out, List.length_append, List.length_singleton, hF.out, HM.out] at h1; exact h1
     have x0 : w4.cell? ⟨gx, k * 4, none⟩ = some (Value.bool xs) := own_cellN d3 ((flat4_at (f := lcC) (fun _ => rfl) Hx.out (k := 0) (by decide)).trans (show _ = some (Value.bool xs) by rfl))
     have x1 := own_cellN d3 ((flat4_at (f := lcC) (fun _ => rfl) Hx.out (k := 1) (by decide)).trans (show _ = some (Value.int .u64 (xh : Int)) by rfl))
     have x2 := own_cellN d3 ((flat4_at (f := lcC) (fun _ => rfl) Hx.out (k := 2) (by decide)).trans (show _ = some (Value.int .u64 (xl : Int)) by rfl))
     have x3 := own_cellN d3 ((flat4_at (f := lcC) (fun _ => rfl) Hx.out (k := 3) (by decide)).trans (show _ = some (Value.int .i64 xbt) by rfl))
     have HO5 : Hid ((w4.alloc (.cells #[.bool xs, .int .u64 (xh : Int), .int .u64 (xl : Int), .int .i64 xbt] 202)).ownsRow W0.heap.size 202 4 (.slice A1 f cc) f ((fltI (s, ah, al) l k).flatMap lcC)) := lH (HO4.out.alloc _)
     have HSr := lH (src_new w4 202 [.bool xs, .int .u64 (xh : Int), .int .u64 (xl : Int), .int .i64 xbt])
     have HSz5 : Hid (W0.heap.size ≤ (w4.alloc (.cells #[.bool xs, .int .u64 (xh : Int), .int .u64 (xl : Int), .int .i64 xbt] 202)).heap.size) := lH (by have := HT4.out.size; simp; omega)
     have HSzf : Hid (f ≤ 1000000) := lH (by omega)
     clear d3 d4
     go_wp2_with (at_builtin; (refine wpList_apc 132 202 (.agg #[.bool false, .int .u64 0, .int .u64 0, .int .i64 0]) 4 32 Tryz.underlying132 infoLc rfl (by decide) (by decide) _ rfl (.tmp 40) (.tmp 52) rfl W0.heap.size (.slice A1 f cc) f ((fltI (s, ah, al) l k).flatMap lcC) rfl HO5.out ⟨w4.heap.size, 0, none⟩ 1 [.bool xs, .int .u64 (xh : Int), .int .u64 (xl : Int), .int .i64 xbt] rfl rfl (fun j u hj => HSr.out j u hj) (by simp [Value.oneCell']) HSzf.out HSz5.out ?_; intro v7 w7 hown hg hv; obtain ⟨A7, c7, e7, -, -⟩ := own_sl hown; subst e7; have HO7 := lH hown; have HT7 := lH (HT4.out.trans_ownN (tch_appN hg HO5.out)); clear hown hg hv))
     go_roundw
     case rel => exact ⟨k + 1, f + 1, A7, c7, rfl, by go_num, hkm, hfm, lH (by rw [HFl.out, List.length_append, hF.out]; rfl), lH (by rw [HFl.out, List.flatMap_append]; exact HO7.out), HT7⟩
     case measure => simp [intOf]; omega
   ·obtain rfl : k = m := by omega
    have kI : ¬ (k : Int) < (k : Int) := by omega
    have hal : fltI (s, ah, al) l k = l.filter fun x => !isA (s, ah, al) x := by unfold fltI; rw [List.take_of_length_le (Nat.le_of_eq HM.out)]
    have hiff := fltI_all (s, ah, al) l
    rw [← hal, hF.out, HM.out] at hiff
    by_cases hany : l.any (isA (s, ah, al)) = false
    ·have HE := lH (HEa.out hany)
     have hfk : f = k := hiff.2 hany
     subst hfk
     have be : ((f : Int) == (f : Int)) = true := by simp
     clear hkm hk hal hiff hany d3 d4
     go_wp2
     go_ret
     rw [HE.out]
     exact ⟨rfl, S, HS0.out.tch (HT0.out.trans hT.out) (by simp), Goes.of_tch ((HT0.out.trans hT.out).mono (by simp))⟩
    ·have HE := lH (HEb.out hany)
     have hfk : f ≠ k := fun e => hany (hiff.1 e)
     have be : ((f : Int) == (k : Int)) = false := by simp; omega
     have HTT := lH (HT0.out.trans hT.out)
     obtain ⟨A7, c7, S', hv7, f7, ⟨u7, k7⟩, hI7, hG7⟩ := inner_end (i := i) (k := f) (l' := fltI (s, ah, al) l k) HS0.out HTT.out HB.out (by have h1 := HInv.out; rw [HE.out, ← hal] at h1; exact h1) d1 hF.out (own_mono hO.out HSz0.out)
     injection hv7 with e1 e2 e3
     subst e1 e3
     rw [hal] at hI7
     have HI7 := lH hI7
     have HG7 := lH hG7
     clear hkm hk hal hiff hany d3 d4 hfk hI7 hG7 hF hO
     go_wp2
     go_ret
     rw [HE.out]
     exact ⟨rfl, S', HI7.out, HG7.out⟩
end Go.Proofs.YtgfkmgbcajdcdaaGreatDoor.Ifs

namespace Go.Proofs.YtgfkmgbcajdcdaaGreatDoor
open Go.RowKit Ifs

def okX (x : PaI) : Prop := (x.2.2.2.2 = true → x.2.2.2.1 = 0 ∧ x.2.2.1 = zeroA) ∧ 0 ≤ x.2.2.2.1
theorem okX_of {p : PfI} {x : PaI} (hr : rightI p x = true) : okX x := by
 unfold rightI at hr
 split at hr
 ·cases hr
 ·split at hr
  ·rename_i h1 h2
   have h3 : x.2.2.2.1 = 0 ∧ x.2.2.1 = zeroA := by simpa using hr
   exact ⟨fun _ => h3, by omega⟩
  ·rename_i h1 h2
   refine ⟨fun h => absurd h h2, ?_⟩
   split at hr
   ·omega
   ·have h3 : 1 ≤ x.2.2.2.1 := by
     rw [Bool.and_eq_true, decide_eq_true_eq] at hr
     exact hr.1
    omega
theorem InvR.okX {L : List TdI} (hI : InvR L) : ∀ u ∈ L, okX u.2 := fun u hu => okX_of (hI.ok u hu).right
theorem dpath_any (t p : Nat) (S T : List Nat) (L : List TdI) (st : StI) (q : PfI) (hL : L.length ≤ 1000) (hI : InvR L) (w : World) (h : RbD w t S L) (k : IfD w p T st) :
  Calls Tryz.prog 15 #[ptrV t, ptrV p, pfR q] w fun e w' => e = .returned (bestV (pathI L st q)) ∧ Tch w w' [] := by
 have HPt := lH (fun W (hT : Tch w W []) => pathsD t S L hL q W (h.tch hT (by simp)))
 have HPo := lH (fun po W (hT : Tch w W []) => portD p T st po W (k.tch hT (by simp)))
 have HOk : Hid (∀ x ∈ pathsI L q, okX x) := lH (fun x hx => hI.okX _ (pathsI_mem.1 hx))
 have hn4 : (pathsI L q).length ≤ 1000 := Nat.le_trans (pathsI_le L q) hL
 have HE : Hid (pathI L st q = (pathsI L q).find? (stdI st)) := lH rfl
 obtain ⟨l, hl⟩ : ∃ l, pathsI L q = l := ⟨_, rfl⟩
 rw [hl] at HPt HOk hn4 HE
 obtain ⟨n, hn⟩ : ∃ n, l.length = n := ⟨_, rfl⟩
 rw [hn] at HPt hn4
 have HN := lH hn
 obtain ⟨o, ho⟩ : ∃ o, pathI L st q = o := ⟨_, rfl⟩
 rw [ho] at HE ⊢
 obtain ⟨⟨qs, qh, ql⟩, qb⟩ := q
 obtain ⟨xb, hxb⟩ : ∃ xb, w.heap.size = xb := ⟨_, rfl⟩
 obtain ⟨W1, hW1⟩ : ∃ W, w.alloc (.cells #[.bool qs, .int .u64 (qh : Int), .int .u64 (ql : Int), .int .i64 qb] 30) = W := ⟨_, rfl⟩
 obtain ⟨rb, hrb⟩ : ∃ rb, xb + 1 = rb := ⟨_, rfl⟩
 obtain ⟨W0, hW0⟩ : ∃ W, W1.alloc (.cells #[.int .i64 0, .int .i64 0, .bool false, .int .u64 0, .int .u64 0, .int .i64 0, .bool false] 49) = W := ⟨_, rfl⟩
 have z1 : W1.heap.size = rb := by rw [← hW1, zA, hxb, hrb]
 have hT0 : Tch w W0 [] := hW0 ▸ hW1 ▸ (((Tch.refl w []).alloc _).alloc _)
 have hX : Blk W0 xb 30 #[.bool qs, .int .u64 (qh : Int), .int .u64 (ql : Int), .int .i64 qb] := hW0 ▸ hW1 ▸ hxb ▸ ((Blk.new w _ _).alloc _)
 have hR : Blk W0 rb 49 #[.int .i64 0, .int .i64 0, .bool false, .int .u64 0, .int .u64 0, .int .i64 0, .bool false] := hW0 ▸ z1 ▸ (Blk.new W1 _ _)
 have HR := lH (fun W (hT : Tch W0 W []) => hT.blk hR (by simp))
 have HT0 := lH hT0
 have HW0 : Hid ((w.alloc (.cells #[.bool qs, .int .u64 (qh : Int), .int .u64 (ql : Int), .int .i64 qb] 30)).alloc (.cells #[.int .i64 0, .int .i64 0, .bool false, .int .u64 0, .int .u64 0, .int .i64 0, .bool false] 49) = W0) := lH (by rw [hW1, hW0])
 have HSz : Hid (w.heap.size = xb ∧ xb + 1 = rb) := lH (by omega)
 obtain ⟨x0, x1, x2, x3⟩ := hX.c4
 clear h k hl hn ho hxb hrb hW1 hW0 z1 hT0 hX hR hI hL
 go_enter Tryz.func15, Tryz.ntmps15
 go_wp2_with fail
 rw [HW0.out, HSz.out.1, HSz.out.2]
 refine cZm (HPt.out W0 HT0.out) ?_
 rintro e w1 ⟨A, c, rfl, ho, hT1⟩
 have HOw := lH (own_mono ho (Nat.zero_le _))
 have HT1 := lH hT1
 have HN4 := lH hn4
 clear ho hT1 x0 x1 x2 x3 hn4
 go_wp2
 go_loopw [9] (fun iv wr => ∃ i : Nat, iv = .int .i64 (i : Int) ∧ i ≤ n ∧ Hid (∀ y ∈ l.take i, stdI st y = false) ∧ Hid (Tch w1 wr [])) (fun iv _ => n - (intOf iv).toNat)
 case atStart => exact ⟨0, rfl, Nat.zero_le _, lH (by simp), lH (Tch.refl _ _)⟩
 case round =>
  obtain ⟨i, rfl, hi, hno, hT⟩ := hrel
  by_cases hin : i < n
  ·have iI : (i : Int) < (n : Int) := by omega
   have i0 : (0 : Int) ≤ (i : Int) := by omega
   have i1 : IntKind.i64.wrap ((i : Int) + 1) = (i : Int) + 1 := by have := HN4.out; rw [IntKind.wrap_i64]; omega
   obtain ⟨x, hx⟩ : ∃ x, l[i]? = some x := ⟨_, List.getElem?_eq_getElem (by rw [HN.out]; exact hin)⟩
   have HX := lH hx
   have HOx := lH (HOk.out x (List.mem_of_getElem? hx))
   have ho2 := own_tch HOw.out hT.out (by simp)
   obtain ⟨g, rfl⟩ := slice_some ho2 (by omega)
   obtain ⟨y0, y1, y2, y3, y4, y5, y6⟩ := pa_cells ho2 hx
   have HCs := lH (fun W (hW : Tch wr W []) => pa_cells (own_tch ho2 hW (by simp)) hx)
   have HTw := lH (HT0.out.trans (HT1.out.trans hT.out))
   have HS := lH (fun W (hW : Tch w W []) => HPo.out x.2.2.2.1 W hW)
   obtain ⟨pr, me, ⟨vs, vh, vl⟩, po, aw⟩ := x
   obtain ⟨th, hth⟩ : ∃ th, thereI st po = th := ⟨_, rfl⟩
   obtain ⟨⟨qn, qm, qt, qu⟩, hqq⟩ : ∃ q, portI st po = q := ⟨_, rfl⟩
   have HB : Hid (stdI st (pr, me, (vs, vh, vl), po, aw) = (decide (po = 0) || (th && qu))) := lH (by unfold stdI upI; simp only [hth, hqq])
   simp only [hth, hqq, prC] at HS
   clear hx ho2 hth hqq
   go_wp2_with fail
   refine cZm (HS.out wr HTw.out) ?_
   rintro e w4 ⟨rfl, hT4⟩
   obtain ⟨vb, hvb⟩ : ∃ vb, w4.heap.size = vb := ⟨_, rfl⟩
   obtain ⟨W3, hW3⟩ : ∃ W, w4.alloc (.cells #[.string qn, .int .u64 qm, .int .i64 qt, .bool qu] 74) = W := ⟨_, rfl⟩
   have hT3 : Tch wr W3 [] := hT4.trans (hW3 ▸ (Tch.refl w4 []).alloc _)
   have hP3 : Blk W3 vb 74 #[.string qn, .int .u64 qm, .int .i64 qt, .bool qu] := hW3 ▸ hvb ▸ Blk.new w4 _ _
   have u3 := (hP3.cell 3).trans (show _ = some (Value.bool qu) by rfl)
   have HTr : Hid (Tch w1 W3 []) := lH (hT.out.trans hT3)
   have HR4 := lH (HR.out W3 (HT1.out.trans HTr.out))
   have HT4 : Hid (Tch w W3 []) := lH (HTw.out.trans hT3)
   clear hT4 y0 y1 y2 y3 y4 y5 y6 hP3
   obtain ⟨y0, y1, y2, y3, y4, y5, y6⟩ := HCs.out W3 hT3
   have HW3 := lH (And.intro hW3 hvb)
   rw [← hW3] at y0 y1 y2 y3 y4 y5 y6 u3 HR4 HT4 HTr
   rw [← hvb] at u3
   clear hT3 hW3 hvb
   obtain ⟨b, hb⟩ : ∃ b, (decide (po = 0) || (th && qu)) = b := ⟨_, rfl⟩
   rw [hb] at HB
   have hways : (aw = true ∧ b = true) ∨ (aw = false ∧ po = 0 ∧ b = true) ∨ (aw = false ∧ ¬ po = 0 ∧ th = true ∧ qu = true ∧ b = true) ∨ (aw = false ∧ ¬ po = 0 ∧ th = true ∧ qu = false ∧ b = false) ∨ (aw = false ∧ ¬ po = 0 ∧ th = false ∧ b = false) := by
    have h1 := HOx.out.1
    simp only at h1
    by_cases h2 : po = 0
    ·subst h2
     cases aw <;> simp at hb ⊢ <;> simp [← hb]
    ·cases aw with
     | true => exact absurd (h1 rfl).1 h2
     | false => cases th <;> cases qu <;> simp [h2] at hb ⊢ <;> simp [← hb]
   clear hb
   rcases hways with ⟨rfl, rfl⟩ | ⟨rfl, rfl, rfl⟩ | ⟨rfl, hpo, rfl, rfl, rfl⟩ | ⟨rfl, hpo, rfl, rfl, rfl⟩ | ⟨rfl, hpo, rfl, rfl⟩
   ·clear HOx
    have HO : Hid (o = some (pr, me, (vs, vh, vl), po, true)) := lH (by rw [HE.out]; exact find_at HX.out HB.out hno.out)
    go_wp2_with (refine wpList_sta rfl 49 (.tmp 6) (.tmp 54) rfl rb 0 #[.int .i64 pr, .int .i64 me, .bool vs, .int .u64 (vh : Int), .int .u64 (vl : Int), .int .i64 po, .bool true] rfl rfl 49 _ HR4.out 7 paSz rfl (show 0 + 7 ≤ 7 from by decide) (by simp [Value.oneCell']) ?_; intro w6 hs6; have HS6 := lH hs6; clear hs6)
    obtain ⟨z0, z1, z2, z3, z4, z5, z6⟩ := (sta_whole HS6.out rfl).p7
    exact bodyPost_ret (v := .tuple #[.agg #[.int .i64 pr, .int .i64 me, .bool vs, .int .u64 (vh : Int), .int .u64 (vl : Int), .int .i64 po, .bool true], .bool true]) (by simp [results, Tryz.results15, go_sem, z0, z1, z2, z3, z4, z5, z6]) rfl ⟨by rw [HO.out]; rfl, HT4.out.trans_fre HS6.out.tch (by simp; have := HSz.out; omega)⟩
   ·clear HOx
    have HO : Hid (o = some (pr, me, (vs, vh, vl), 0, false)) := lH (by rw [HE.out]; exact find_at HX.out HB.out hno.out)
    go_wp2_with (refine wpList_sta rfl 49 (.tmp 6) (.tmp 54) rfl rb 0 #[.int .i64 pr, .int .i64 me, .bool vs, .int .u64 (vh : Int), .int .u64 (vl : Int), .int .i64 0, .bool false] rfl rfl 49 _ HR4.out 7 paSz rfl (show 0 + 7 ≤ 7 from by decide) (by simp [Value.oneCell']) ?_; intro w6 hs6; have HS6 := lH hs6; clear hs6)
    obtain ⟨z0, z1, z2, z3, z4, z5, z6⟩ := (sta_whole HS6.out rfl).p7
    exact bodyPost_ret (v := .tuple #[.agg #[.int .i64 pr, .int .i64 me, .bool vs, .int .u64 (vh : Int), .int .u64 (vl : Int), .int .i64 0, .bool false], .bool true]) (by simp [results, Tryz.results15, go_sem, z0, z1, z2, z3, z4, z5, z6]) rfl ⟨by rw [HO.out]; rfl, HT4.out.trans_fre HS6.out.tch (by simp; have := HSz.out; omega)⟩
   ·clear HOx
    have hpz : (po == 0) = false := by simpa using hpo
    have HO : Hid (o = some (pr, me, (vs, vh, vl), po, false)) := lH (by rw [HE.out]; exact find_at HX.out HB.out hno.out)
    go_wp2_with (refine wpList_sta rfl 49 (.tmp 6) (.tmp 54) rfl rb 0 #[.int .i64 pr, .int .i64 me, .bool vs, .int .u64 (vh : Int), .int .u64 (vl : Int), .int .i64 po, .bool false] rfl rfl 49 _ HR4.out 7 paSz rfl (show 0 + 7 ≤ 7 from by decide) (by simp [Value.oneCell']) ?_; intro w6 hs6; have HS6 := lH hs6; clear hs6)
    obtain ⟨z0, z1, z2, z3, z4, z5, z6⟩ := (sta_whole HS6.out rfl).p7
    exact bodyPost_ret (v := .tuple #[.agg #[.int .i64 pr, .int .i64 me, .bool vs, .int .u64 (vh : Int), .int .u64 (vl : Int), .int .i64 po, .bool false], .bool true]) (by simp [results, Tryz.results15, go_sem, z0, z1, z2, z3, z4, z5, z6]) rfl ⟨by rw [HO.out]; rfl, HT4.out.trans_fre HS6.out.tch (by simp; have := HSz.out; omega)⟩
   ·clear HOx
    have hpz : (po == 0) = false := by simpa using hpo
    go_wp2
    go_roundw
    case rel => exact ⟨i + 1, by go_num, hin, lH (take_more HX.out hno.out HB.out), HTr⟩
    case measure => simp [intOf]; omega
   ·clear HOx
    have hpz : (po == 0) = false := by simpa using hpo
    go_wp2
    go_roundw
    case rel => exact ⟨i + 1, by go_num, hin, lH (take_more HX.out hno.out HB.out), HTr⟩
    case measure => simp [intOf]; omega
  ·have iI : ¬ (i : Int) < (n : Int) := by omega
   have HO : Hid (o = none) := lH (by
    rw [HE.out]
    refine find_no fun y hy => hno.out y ?_
    rw [List.take_of_length_le (by rw [HN.out]; omega)]
    exact hy)
   have HR4 := lH (HR.out wr (HT1.out.trans hT.out))
   have HT4 : Hid (Tch w wr []) := lH (HT0.out.trans (HT1.out.trans hT.out))
   go_wp2_with (refine wpList_sta rfl 49 (.tmp 6) (.tmp 55) rfl rb 0 #[.int .i64 0, .int .i64 0, .bool false, .int .u64 0, .int .u64 0, .int .i64 0, .bool false] rfl rfl 49 _ HR4.out 7 paSz rfl (show 0 + 7 ≤ 7 from by decide) (by simp [Value.oneCell']) ?_; intro w6 hs6; have HS6 := lH hs6; clear hs6)
   obtain ⟨z0, z1, z2, z3, z4, z5, z6⟩ := (sta_whole HS6.out rfl).p7
   exact bodyPost_ret (v := .tuple #[.agg #[.int .i64 0, .int .i64 0, .bool false, .int .u64 0, .int .u64 0, .int .i64 0, .bool false], .bool false]) (by simp [results, Tryz.results15, go_sem, z0, z1, z2, z3, z4, z5, z6]) rfl ⟨by rw [HO.out]; rfl, HT4.out.trans_fre HS6.out.tch (by simp; have := HSz.out; omega)⟩
end Go.Proofs.YtgfkmgbcajdcdaaGreatDoor

namespace Go.Proofs.YtgfkmgbcajdcdaaGreatDoor
open Go.RowKit

theorem rholds_at (s : Bool) (h l : Nat) (b : Int) (s' : Bool) (h' l' : Nat) (hh : N64 h) (hl : N64 l) (hh' : N64 h') (hl' : N64 l') {v : Bool} (ev : hld s h l b s' h' l' = v) (w : World) :
  Calls Tryz.prog 70 #[pfx s h l b, adr s' h' l'] w fun e w' => e = .returned (.bool v) ∧ Below w.heap.size w w' := by
 rw [← hld_com hh hl hh' hl'] at ev
 obtain ⟨V, hV⟩ : ∃ V, pvl s h l b = V := ⟨_, rfl⟩
 obtain ⟨c, hc⟩ : ∃ c, comV s h l s' h' l' = c := ⟨_, rfl⟩
 rw [hV, hc] at ev
 have H1 := lH (fun w => rpvalid_at s h l b hh hl hV w)
 have H2 := lH (fun w => rcommon_at s h l s' h' l' hh hl hh' hl' hc w)
 clear hV hc hh hl hh' hl'
 cases V
 ·simp only [Bool.false_and] at ev
  subst ev
  go_enter Tryz.func70, Tryz.ntmps70
  go_wp2_with fail
  refine cZm (H1.out _) ?_
  rintro e w1 ⟨rfl, hb⟩
  have K1 := lH ((Blk.new w 30 #[.bool s, .int .u64 h, .int .u64 l, .int .i64 b]).alloc (.cells #[.bool s', .int .u64 h', .int .u64 l'] 28) |>.below hb (by simp only [zA]; omega))
  have Q1 := lH ((Blk.new (w.alloc (.cells #[.bool s, .int .u64 h, .int .u64 l, .int .i64 b] 30)) 28 #[.bool s', .int .u64 h', .int .u64 l']).below hb (by simp only [zA]; omega))
  rw [zA] at Q1
  have L1 := lH ((((Below.refl _ w).alloc (Nat.le_refl _) _).alloc (by simp) _).trans (hb.mono (by simp only [zA]; omega)))
  have s1 : w.heap.size + 1 < w1.heap.size := by have := hb.size; simp only [zA] at this; omega
  clear hb
  obtain ⟨f0, f1, f2, f3⟩ := K1.out.c4
  obtain ⟨g0, g1, g2⟩ := Q1.out.c3
  have HC : Hid (∀ W', Below w1.heap.size w1 W' → W'.cell? ⟨w.heap.size, 0, none⟩ = some (.bool s) ∧ W'.cell? ⟨w.heap.size, 1, none⟩ = some (.int .u64 h) ∧ W'.cell? ⟨w.heap.size, 2, none⟩ = some (.int .u64 l) ∧ W'.cell? ⟨w.heap.size, 3, none⟩ = some (.int .i64 b) ∧ W'.cell? ⟨w.heap.size + 1, 0, none⟩ = some (.bool s') ∧ W'.cell? ⟨w.heap.size + 1, 1, none⟩ = some (.int .u64 h') ∧ W'.cell? ⟨w.heap.size + 1, 2, none⟩ = some (.int .u64 l')) := by
   show ∀ W', _ → _
   intro W' hB
   obtain ⟨a0, a1, a2, a3⟩ := (K1.out.below hB K1.out.lt).c4
   obtain ⟨b0, b1, b2⟩ := (Q1.out.below hB Q1.out.lt).c3
   exact ⟨a0, a1, a2, a3, b0, b1, b2⟩
  have hR : Below w1.heap.size w1 w1.drew := (Below.refl _ _).drew
  clear f0 f1 f2 f3 g0 g1 g2
  go_wp2
  refine wp_region_held_drew (S := (fun w' => w'.cell? ⟨w.heap.size, 0, none⟩ = some (.bool s) ∧ w'.cell? ⟨w.heap.size, 1, none⟩ = some (.int .u64 h) ∧ w'.cell? ⟨w.heap.size, 2, none⟩ = some (.int .u64 l) ∧ w'.cell? ⟨w.heap.size, 3, none⟩ = some (.int .i64 b) ∧ w'.cell? ⟨w.heap.size + 1, 0, none⟩ = some (.bool s') ∧ w'.cell? ⟨w.heap.size + 1, 1, none⟩ = some (.int .u64 h') ∧ w'.cell? ⟨w.heap.size + 1, 2, none⟩ = some (.int .u64 l'))) (by kernel_rfl) ?_ (fun hHeld => ?_)
  ·exact HC.out _ hR
  refine tkH 0 ?_
  refine tkH 1 ?_
  refine tkO 2 ?_
  refine tkO 3 ?_
  refine tkO 4 ?_
  refine tkO 5 ?_
  refine tkO 6 ?_
  refine tkO 7 ?_
  refine tkO 8 ?_
  refine tkH 9 ?_
  refine tkH 10 ?_
  refine wpAnyH_done (by kernel_rfl) ?_ _
  have L5 := lH (L1.out.trans (hR.mono L1.out.size))
  clear hR
  go_wp2
  go_ret
  exact ⟨ret_bool (by simp [*]), L5.out⟩
 ·simp only [Bool.true_and] at ev
  subst ev
  go_enter Tryz.func70, Tryz.ntmps70
  go_wp2_with fail
  refine cZm (H1.out _) ?_
  rintro e w1 ⟨rfl, hb⟩
  have K1 := lH ((Blk.new w 30 #[.bool s, .int .u64 h, .int .u64 l, .int .i64 b]).alloc (.cells #[.bool s', .int .u64 h', .int .u64 l'] 28) |>.below hb (by simp only [zA]; omega))
  have Q1 := lH ((Blk.new (w.alloc (.cells #[.bool s, .int .u64 h, .int .u64 l, .int .i64 b] 30)) 28 #[.bool s', .int .u64 h', .int .u64 l']).below hb (by simp only [zA]; omega))
  rw [zA] at Q1
  have L1 := lH ((((Below.refl _ w).alloc (Nat.le_refl _) _).alloc (by simp) _).trans (hb.mono (by simp only [zA]; omega)))
  have s1 : w.heap.size + 1 < w1.heap.size := by have := hb.size; simp only [zA] at this; omega
  clear hb
  obtain ⟨f0, f1, f2, f3⟩ := K1.out.c4
  obtain ⟨g0, g1, g2⟩ := Q1.out.c3
  have HC : Hid (∀ W', Below w1.heap.size w1 W' → W'.cell? ⟨w.heap.size, 0, none⟩ = some (.bool s) ∧ W'.cell? ⟨w.heap.size, 1, none⟩ = some (.int .u64 h) ∧ W'.cell? ⟨w.heap.size, 2, none⟩ = some (.int .u64 l) ∧ W'.cell? ⟨w.heap.size, 3, none⟩ = some (.int .i64 b) ∧ W'.cell? ⟨w.heap.size + 1, 0, none⟩ = some (.bool s') ∧ W'.cell? ⟨w.heap.size + 1, 1, none⟩ = some (.int .u64 h') ∧ W'.cell? ⟨w.heap.size + 1, 2, none⟩ = some (.int .u64 l')) := by
   show ∀ W', _ → _
   intro W' hB
   obtain ⟨a0, a1, a2, a3⟩ := (K1.out.below hB K1.out.lt).c4
   obtain ⟨b0, b1, b2⟩ := (Q1.out.below hB Q1.out.lt).c3
   exact ⟨a0, a1, a2, a3, b0, b1, b2⟩
  have hR : Below w1.heap.size w1 w1.drew := (Below.refl _ _).drew
  clear f0 f1 f2 f3 g0 g1 g2
  go_wp2
  refine wp_region_held_drew (S := (fun w' => w'.cell? ⟨w.heap.size, 0, none⟩ = some (.bool s) ∧ w'.cell? ⟨w.heap.size, 1, none⟩ = some (.int .u64 h) ∧ w'.cell? ⟨w.heap.size, 2, none⟩ = some (.int .u64 l) ∧ w'.cell? ⟨w.heap.size, 3, none⟩ = some (.int .i64 b) ∧ w'.cell? ⟨w.heap.size + 1, 0, none⟩ = some (.bool s') ∧ w'.cell? ⟨w.heap.size + 1, 1, none⟩ = some (.int .u64 h') ∧ w'.cell? ⟨w.heap.size + 1, 2, none⟩ = some (.int .u64 l'))) (by kernel_rfl) ?_ (fun hHeld => ?_)
  ·exact HC.out _ hR
  refine tkH 0 ?_
  refine tkH 1 ?_
  refine tkH 2 ?_
  refine tkH 3 ?_
  refine tkH 4 ?_
  refine tkH 6 ?_
  refine tkH 7 ?_
  refine wpAnyH_ready (rs := [5]) (by kernel_rfl) (by simp) ?_
  refine AllReadyH.cons (o := { dst := some 13, op := Go.Op.call { callee := Go.Callee.value (Go.Operand.func 113), args := #[Go.Operand.tmp 11, Go.Operand.tmp 12], argTypes := #[28, 28] }, type := 3, pos := "ref.go:85", after := #[{ on := 3, ground := Go.Ground.data }, { on := 4, ground := Go.Ground.data }, { on := 1, ground := Go.Ground.chain }, { on := 1, ground := Go.Ground.guard }], guard := some (1, true) }) rfl (fun K hK => ?_) AllReadyH.nil
  go_simp
  (go_at_call 113; (with_reducible refine cZm (H2.out _) ?_); rintro e W' ⟨rfl, hb⟩; replace hR := hR.trans (hb.mono hR.size); clear hb)
  go_wp2_with fail
  refine hK.out _ _ ?_ (fun hHeld => ?_)
  ·exact HC.out _ hR
  clear hK K
  try simp only [Act.put, List.setIfInBounds_toArray, List.set_cons_zero, List.set_cons_succ]
  refine tkH 8 ?_
  refine tkH 9 ?_
  refine tkH 10 ?_
  refine wpAnyH_done (by kernel_rfl) ?_ _
  have L5 := lH (L1.out.trans (hR.mono L1.out.size))
  clear hR
  go_wp2
  go_ret
  exact ⟨ret_bool (by simp [*]), L5.out⟩

end Go.Proofs.YtgfkmgbcajdcdaaGreatDoor

namespace Go.Proofs.YtgfkmgbcajdcdaaGreatDoor
open Go.RowKit

def overK (l : List PfI) (a : AdR) (k : Nat) : List PfI := ((l.take k).filter fun p => hldP p a).reverse
theorem overK_yes {l : List PfI} {a : AdR} {k : Nat} {q : PfI} (hq : l[k]? = some q) (h : hldP q a = true) : overK l a (k + 1) = [q] ++ overK l a k := by
 unfold overK
 rw [List.take_add_one, hq, List.filter_append]
 simp [h]
theorem overK_no {l : List PfI} {a : AdR} {k : Nat} {q : PfI} (hq : l[k]? = some q) (h : hldP q a = false) : overK l a (k + 1) = overK l a k := by
 unfold overK
 rw [List.take_add_one, hq, List.filter_append]
 simp [h]
theorem overK_le (l : List PfI) (a : AdR) (k : Nat) : (overK l a k).length ≤ l.length := by
 unfold overK
 rw [List.length_reverse]
 exact Nat.le_trans (List.length_filter_le _ _) (by simp; omega)
theorem overK_all (l : List PfI) (a : AdR) : overK l a l.length = overL l a := by unfold overK overL; rw [List.take_length]
theorem overD (t : Nat) (S : List Nat) (L : List TdI) (hL : L.length ≤ 1000) (a : AdR) (ha : N64 a.2.1 ∧ N64 a.2.2) (w : World) (h : RbD w t S L) :
  Calls Tryz.prog 97 #[.pointer (some ⟨t, 0, none⟩), adR a] w fun e w' => ∃ A c, e = .returned (.slice A (overI L a).length c) ∧ w'.ownsRow w.heap.size 30 4 (.slice A (overI L a).length c) (overI L a).length ((overI L a).flatMap pfC) ∧ Tch w w' [] := by
 have hnum : ∀ q ∈ prefsI L, N64 q.1.2.1 ∧ N64 q.1.2.2 := fun q hq => by
  obtain ⟨u, hu, e⟩ := prefK_sub _ hq
  rw [← e]; exact (h.num u hu).1
 have HPr := lH (fun W (hT : Tch w W []) => prefsD t S L hL W (h.tch hT (by simp)))
 have hle : (prefsI L).length ≤ L.length := prefK_le L L.length
 obtain ⟨l, hl⟩ : ∃ l, prefsI L = l := ⟨_, rfl⟩
 have HOv : Hid (overI L a = overL l a) := lH (by unfold overI; rw [hl])
 rw [hl] at HPr hnum hle
 obtain ⟨n, hn⟩ : ∃ n, l.length = n := ⟨_, rfl⟩
 rw [hn] at HPr hle
 have HN := lH hn
 have HNum := lH hnum
 have hn1 : n ≤ 1000 := by omega
 obtain ⟨s9, ah, al⟩ := a
 have HAl : Hid (N64 ah ∧ N64 al) := lH ha
 obtain ⟨xb, hxb⟩ : ∃ xb, w.heap.size = xb := ⟨_, rfl⟩
 obtain ⟨W0, hW0⟩ : ∃ W, w.alloc (.cells #[.bool s9, .int .u64 (ah : Int), .int .u64 (al : Int)] 28) = W := ⟨_, rfl⟩
 have HB0 : Hid (Blk W0 xb 28 #[.bool s9, .int .u64 (ah : Int), .int .u64 (al : Int)]) := lH (hW0 ▸ hxb ▸ Blk.new w _ _)
 have HT0 : Hid (Tch w W0 []) := lH (hW0 ▸ (Tch.refl w []).alloc _)
 have HW0 := lH (And.intro hW0 hxb)
 clear h hl hn hnum ha hxb hW0 hle
 go_enter Tryz.func97, Tryz.ntmps97
 go_wp2_with fail
 rw [HW0.out.1, HW0.out.2]
 refine cZm (HPr.out _ HT0.out) ?_
 rintro e W1 ⟨Al, cl, rfl, hol, hT1⟩
 have HOl := lH (own_mono hol (Nat.zero_le _))
 have HB1 := lH (hT1.blk HB0.out (by simp))
 have HT1 := lH (HT0.out.trans hT1)
 obtain ⟨yb, hyb⟩ : ∃ yb, W1.heap.size = yb := ⟨_, rfl⟩
 have HYb := lH hyb
 clear hol hT1 hyb
 go_wp2
 go_loopw [5, 7] (fun ov kv wr => ∃ (k f : Nat) (A1 : Option Addr) (cc : Nat), ov = .slice A1 f cc ∧ kv = .int .i64 (k : Int) ∧ k ≤ n ∧ f ≤ n ∧ Hid ((overK l (s9, ah, al) k).length = f) ∧ Hid (wr.ownsRow yb 30 4 (.slice A1 f cc) f ((overK l (s9, ah, al) k).flatMap pfC)) ∧ Hid (Tch W1 wr [])) (fun _ kv _ => n - (intOf kv).toNat)
 case atStart => exact ⟨0, 0, none, 0, rfl, rfl, Nat.zero_le _, Nat.zero_le _, lH rfl, lH ⟨rfl, .inl ⟨rfl, rfl⟩⟩, lH (Tch.refl W1 [])⟩
 case round =>
  obtain ⟨k, f, A1, cc, rfl, rfl, hk, hf, hF, hO, hT⟩ := hrel
  have k1 : IntKind.i64.wrap ((k : Int) + 1) = (k : Int) + 1 := by rw [IntKind.wrap_i64]; omega
  by_cases hkn : k < n
  ·have kI : (k : Int) < (n : Int) := by omega
   have k0 : (0 : Int) ≤ (k : Int) := by omega
   obtain ⟨q, hq⟩ : ∃ q, l[k]? = some q := ⟨_, List.getElem?_eq_getElem (by rw [HN.out]; exact hkn)⟩
   have d3 := own_tch HOl.out hT.out (by simp)
   obtain ⟨g, rfl⟩ := slice_some d3 (by omega)
   have HQn := lH (HNum.out q (List.mem_of_getElem? hq))
   obtain ⟨b, hb⟩ : ∃ b, hldP q (s9, ah, al) = b := ⟨_, rfl⟩
   have HBb := lH hb
   have HRdl : Hid (∀ W, Tch W1 W [] → (W.cell? ⟨g, k * 4, none⟩ = some (.bool q.1.1) ∧ W.cell? ⟨g, k * 4 + 1, none⟩ = some (.int .u64 (q.1.2.1 : Int)) ∧ W.cell? ⟨g, k * 4 + 2, none⟩ = some (.int .u64 (q.1.2.2 : Int)) ∧ W.cell? ⟨g, k * 4 + 3, none⟩ = some (.int .i64 q.2)) ∧ (W.cell? ⟨xb, 0, none⟩ = some (.bool s9) ∧ W.cell? ⟨xb, 1, none⟩ = some (.int .u64 (ah : Int)) ∧ W.cell? ⟨xb, 2, none⟩ = some (.int .u64 (al : Int)))) := lH (fun W hW => ⟨pf_cells (own_tch HOl.out hW (by simp)) hq, (hW.blk HB1.out (by simp)).c3⟩)
   have Hq := lH hq
   obtain ⟨⟨us, uh, ul⟩, ub⟩ := q
   have HHo := lH (fun W => rholds_at us uh ul ub s9 ah al HQn.out.1 HQn.out.2 HAl.out.1 HAl.out.2 hb W)
   have HCl := lH (HRdl.out wr hT.out)
   have HTd : Hid (Tch W1 wr.drew []) := lH hT.out.drew
   clear d3 hq hb
   go_wp2
   refine wp_region_held_drew (S := (fun W => (W.cell? ⟨g, k * 4, none⟩ = some (Value.bool us) ∧ W.cell? ⟨g, k * 4 + 1, none⟩ = some (Value.int .u64 (uh : Int)) ∧ W.cell? ⟨g, k * 4 + 2, none⟩ = some (Value.int .u64 (ul : Int)) ∧ W.cell? ⟨g, k * 4 + 3, none⟩ = some (Value.int .i64 ub)) ∧ (W.cell? ⟨xb, 0, none⟩ = some (Value.bool s9) ∧ W.cell? ⟨xb, 1, none⟩ = some (Value.int .u64 (ah : Int)) ∧ W.cell? ⟨xb, 2, none⟩ = some (Value.int .u64 (al : Int))))) (by kernel_rfl) ?_ (fun hHeld => ?_)
   ·(first | exact HCl.out | exact HRdl.out _ HT5.out)
   refine tkH 0 ?_
   refine tkH 1 ?_
   refine tkH 2 ?_
   refine tkH 3 ?_
   refine tkH 4 ?_
   refine wpAnyH_ready (rs := [5]) (by kernel_rfl) (by simp) ?_
   refine AllReadyH.cons (o := { dst := some 22, op := Go.Op.call { callee := Go.Callee.value (Go.Operand.func 70), args := #[Go.Operand.tmp 20, Go.Operand.tmp 21], argTypes := #[30, 28] }, type := 4, pos := "ref.go:190", after := #[{ on := 3, ground := Go.Ground.data }, { on := 4, ground := Go.Ground.data }], guard := none }) rfl (fun K hK => ?_) AllReadyH.nil
   go_simp
   (go_at_call 70; (with_reducible refine cZm (HHo.out _) ?_); rintro e w5 ⟨rfl, hb5⟩; have HT5 := lH (HTd.out.trans (Tch.of_below [] hb5)); have HO5 := lH (own_tch hO.out.drew (Tch.of_below [] hb5) (by simp)); clear hb5)
   go_wp2_with fail
   refine hK.out _ _ ?_ (fun hHeld => ?_)
   ·(first | exact HCl.out | exact HRdl.out _ HT5.out)
   clear hK K
   try simp only [Act.put, List.setIfInBounds_toArray, List.set_cons_zero, List.set_cons_succ]
   refine wpAnyH_done (by kernel_rfl) ?_ _
   obtain ⟨⟨z0, z1, z2, z3⟩, -⟩ := HRdl.out w5 HT5.out
   cases b with
   | false =>
    have HFl : Hid (overK l (s9, ah, al) (k + 1) = overK l (s9, ah, al) k) := lH (overK_no Hq.out HBb.out)
    go_wp2
    go_roundw
    case rel => exact ⟨k + 1, f, A1, cc, rfl, by go_num, hkn, hf, by rw [HFl.out]; exact hF, by rw [HFl.out]; exact HO5, HT5⟩
    case measure => simp [intOf]; omega
   | true =>
    have HFl : Hid (overK l (s9, ah, al) (k + 1) = [((us, uh, ul), ub)] ++ overK l (s9, ah, al) k) := lH (overK_yes Hq.out HBb.out)
    have hfm : 1 + f ≤ n := by have h1 := overK_le l (s9, ah, al) (k + 1); rw [HFl.out, List.length_append, List.length_singleton, hF.out, HN.out] at h1; exact h1
    have HNil : Hid ((w5.alloc (.cells #[.bool us, .int .u64 (uh : Int), .int .u64 (ul : Int), .int .i64 ub] 30)).ownsRow yb 30 4 (.slice none 0 0) 0 []) := lH ⟨rfl, .inl ⟨rfl, rfl⟩⟩
    have HSr := lH (src_new w5 30 [.bool us, .int .u64 (uh : Int), .int .u64 (ul : Int), .int .i64 ub])
    have HSz5 : Hid (yb ≤ (w5.alloc (.cells #[.bool us, .int .u64 (uh : Int), .int .u64 (ul : Int), .int .i64 ub] 30)).heap.size) := lH (by have h1 := HT5.out.size; have h2 := HYb.out; rw [zA]; omega)
    have HT6 := lH (HT5.out.alloc (.cells #[.bool us, .int .u64 (uh : Int), .int .u64 (ul : Int), .int .i64 ub] 30))
    have HO6 := lH (HO5.out.alloc (.cells #[.bool us, .int .u64 (uh : Int), .int .u64 (ul : Int), .int .i64 ub] 30))
    have HSzf : Hid (0 ≤ 1000000 ∧ 0 + 1 + f ≤ 1000000) := lH ⟨by omega, by omega⟩
    go_wp2_with (first
     | (at_builtin; (refine wpList_apc 40 30 (.agg #[.bool false, .int .u64 0, .int .u64 0, .int .i64 0]) 4 32 Tryz.underlying40 infoPf rfl (by decide) (by decide) _ rfl (.tmp 23) (.tmp 28) rfl yb (.slice none 0 0) 0 [] rfl HNil.out ⟨w5.heap.size, 0, none⟩ 1 [.bool us, .int .u64 (uh : Int), .int .u64 (ul : Int), .int .i64 ub] rfl rfl (fun j u hj => HSr.out j u hj) (by simp [Value.oneCell']) HSzf.out.1 HSz5.out ?_; intro v7 w7 hown hg hv; have hT67 : Tch (w5.alloc (.cells #[.bool us, .int .u64 (uh : Int), .int .u64 (ul : Int), .int .i64 ub] 30)) w7 [] := Tch.of_grown' hg (fun k e => by cases e); have HO7 := lH hown; have HT7 := lH (HT6.out.trans hT67); have HOo := lH (own_tch HO6.out hT67 (by simp)); clear hown hg hv hT67))
     | (at_builtin; (refine wpList_apm 40 30 (.agg #[.bool false, .int .u64 0, .int .u64 0, .int .i64 0]) 4 32 Tryz.underlying40 infoPf rfl (by decide) (by decide) _ rfl (.tmp 30) (.tmp 31) rfl yb v7 (0 + 1) _ rfl HO7.out yb (.slice A1 f cc) f ((overK l (s9, ah, al) k).flatMap pfC) rfl HOo.out (flat_one pf_one _) HSzf.out.2 (by have h1 := HT7.out.size; have h2 := HYb.out; omega) ?_; intro v9 w9 hown hg hv; obtain ⟨A9, c9, e9, -, -⟩ := own_sl hown; subst e9; have HO9 := lH hown; have HT9 := lH (HT7.out.trans_fre (Tch.of_grown' (S := obI v7) hg (fun k e => by rw [obI_some e]; simp)) (fun s hs => .inr (by have h1 := (own_geI HO7.out s hs).1; have h2 := HYb.out; omega))); clear hown hg hv)))
    go_roundw
    case rel => exact ⟨k + 1, 0 + 1 + f, A9, c9, rfl, by go_num, hkn, by omega, lH (by rw [HFl.out, List.length_append, hF.out]; rfl), lH (by rw [HFl.out, List.flatMap_append]; exact HO9.out), HT9⟩
    case measure => simp [intOf]; omega
  ·obtain rfl : k = n := by omega
   have kI : ¬ (k : Int) < (k : Int) := by omega
   have HAll : Hid (overK l (s9, ah, al) k = overI L (s9, ah, al)) := lH (by rw [← HN.out, overK_all, HOv.out])
   have HO9 := lH hO.out
   rw [HAll.out] at hF HO9
   have HF9 := lH hF.out
   have HT9 := lH (HT1.out.trans hT.out)
   clear hkn hk hF hO hT
   go_wp2
   go_ret
   exact ⟨A1, cc, by rw [HF9.out]; rfl, by rw [HF9.out]; exact own_mono HO9.out (by have h1 := HT1.out.size; have h2 := HYb.out; omega), HT9.out⟩
end Go.Proofs.YtgfkmgbcajdcdaaGreatDoor
