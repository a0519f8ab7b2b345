/-
  Several texts in one: RbH, RbI, IfD.
-/
import Derived.Test.YtgfkmgbcajdcdaaGreatDoorYau
import Derived.Test.YtgfkmgbcajdcdaaGreatDoorYad
import Derived.Test.YtgfkmgbcajdcdaaGreatDoorYaa
set_option linter.unusedVariables false
set_option maxRecDepth 100000
set_option maxHeartbeats 16000000
namespace Go.Proofs.YtgfkmgbcajdcdaaGreatDoor
open Go.RowKit

def pathK (L : List TdI) (p : PfI) (k : Nat) : List PaI := ((L.take k).filter fun t => decide (t.1 = p)).map (·.2)
theorem pathK_yes {L : List TdI} {p : PfI} {k : Nat} {u : TdI} (hu : L[k]? = some u) (h : decide (u.1 = p) = true) : pathK L p (k + 1) = pathK L p k ++ [u.2] := by
 unfold pathK
 rw [List.take_add_one, hu, List.filter_append, List.map_append]
 simp [of_decide_eq_true h]
theorem pathK_no {L : List TdI} {p : PfI} {k : Nat} {u : TdI} (hu : L[k]? = some u) (h : decide (u.1 = p) = false) : pathK L p (k + 1) = pathK L p k := by
 unfold pathK
 rw [List.take_add_one, hu, List.filter_append, List.map_append]
 simp [of_decide_eq_false h]
theorem pathK_le (L : List TdI) (p : PfI) (k : Nat) : (pathK L p k).length ≤ L.length := by
 unfold pathK
 rw [List.length_map]
 exact Nat.le_trans (List.length_filter_le _ _) (by simp; omega)
theorem pathK_all (L : List TdI) (p : PfI) : pathK L p L.length = pathsI L p := by unfold pathK pathsI; rw [List.take_length]
theorem pathsI_le (L : List TdI) (p : PfI) : (pathsI L p).length ≤ L.length := by rw [← pathK_all]; exact pathK_le _ _ _
theorem pathsD (t : Nat) (S : List Nat) (L : List TdI) (hL : L.length ≤ 1000) (p : PfI) (w : World) (h : RbD w t S L) :
  Calls Tryz.prog 54 #[.pointer (some ⟨t, 0, none⟩), pfR p] w fun e w' => ∃ A c, e = .returned (.slice A (pathsI L p).length c) ∧ w'.ownsRow w.heap.size 49 7 (.slice A (pathsI L p).length c) (pathsI L p).length ((pathsI L p).flatMap paC) ∧ Tch w w' [] := by
 obtain ⟨⟨ps, ph, pl⟩, pb⟩ := p
 obtain ⟨A, cA, c0, hrow, htl, -⟩ := h.head
 obtain ⟨n, hn⟩ : ∃ n, L.length = n := ⟨_, rfl⟩
 rw [hn] at c0 hrow hL
 have HN := lH hn
 have HR := lH hrow
 have HC0 := lH (And.intro c0 htl)
 obtain ⟨xb, hxb⟩ : ∃ xb, w.heap.size = xb := ⟨_, rfl⟩
 have HXb := lH hxb
 obtain ⟨yb, hyb⟩ : ∃ yb, xb + 1 = yb := ⟨_, rfl⟩
 have HYb := lH hyb
 have HB1 : Hid (Blk (w.alloc (.cells #[.bool ps, .int .u64 (ph : Int), .int .u64 (pl : Int), .int .i64 pb] 30)) xb 30 #[.bool ps, .int .u64 (ph : Int), .int .u64 (pl : Int), .int .i64 pb]) := lH (hxb ▸ Blk.new w _ _)
 clear h c0 hrow htl hxb hyb hn
 go_enter Tryz.func54, Tryz.ntmps54
 go_wp2
 rw [HXb.out]
 go_loopw [5, 6] (fun ov kv wr => ∃ (k f : Nat) (A1 : Option Addr) (cc : Nat), ov = .slice A1 f cc ∧ kv = .int .i64 (k : Int) ∧ k ≤ n ∧ f ≤ n ∧ Hid ((pathK L ((ps, ph, pl), pb) k).length = f) ∧ Hid (wr.ownsRow yb 49 7 (.slice A1 f cc) f ((pathK L ((ps, ph, pl), pb) k).flatMap paC)) ∧ Hid (Tch w wr []) ∧ Hid (Blk wr xb 30 #[.bool ps, .int .u64 (ph : Int), .int .u64 (pl : Int), .int .i64 pb])) (fun _ kv _ => n - (intOf kv).toNat)
 case atStart => exact ⟨0, 0, none, 0, rfl, rfl, Nat.zero_le _, Nat.zero_le _, lH rfl, lH ⟨rfl, .inl ⟨rfl, rfl⟩⟩, lH ((Tch.refl w []).alloc _), HB1⟩
 case round =>
  obtain ⟨k, f, A1, cc, rfl, rfl, hk, hf, hF, hO, hT, hX⟩ := hrel
  have c0 := (hT.out.cell (p := ⟨t, 0, none⟩) HC0.out.2 (by simp)).trans HC0.out.1
  have k1 : IntKind.i64.wrap ((k : Int) + 1) = (k : Int) + 1 := by rw [IntKind.wrap_i64]; omega
  by_cases hkn : k < n
  ·have kI : (k : Int) < (n : Int) := by omega
   have k0 : (0 : Int) ≤ (k : Int) := by omega
   obtain ⟨u, hu⟩ : ∃ u, L[k]? = some u := ⟨_, List.getElem?_eq_getElem (by rw [HN.out]; exact hkn)⟩
   have d3 := own_tch HR.out hT.out (by simp)
   obtain ⟨g, rfl⟩ := slice_some d3 (by omega)
   obtain ⟨b, hb⟩ : ∃ b, decide (u.1 = ((ps, ph, pl), pb)) = b := ⟨_, rfl⟩
   have HQ := eqA_eql 30 _ _ (eq_pfR u.1 ((ps, ph, pl), pb) hb)
   have HBb := lH hb
   obtain ⟨u0, u1, u2, u3, u4, u5, u6, u7, u8, u9, u10⟩ := td_cells d3 hu
   obtain ⟨⟨⟨us, uh, ul⟩, ub⟩, upr, ume, ⟨uvs, uvh, uvl⟩, upo, uaw⟩ := u
   have HQ : ∀ W, (binOp .eql 30 (.agg #[.bool us, .int .u64 (uh : Int), .int .u64 (ul : Int), .int .i64 ub]) (.agg #[.bool ps, .int .u64 (ph : Int), .int .u64 (pl : Int), .int .i64 pb])).run Tryz.prog W = .ok (.bool b) W := HQ
   have Hu := lH hu
   obtain ⟨v0, v1, v2, v3⟩ := hX.out.c4
   have HCl : Hid (wr.cell? ⟨t, 0, none⟩ = some (Value.slice (some ⟨g, 0, none⟩) n cA) ∧ wr.cell? ⟨g, k * 11, none⟩ = some (Value.bool us) ∧ wr.cell? ⟨g, k * 11 + 1, none⟩ = some (Value.int .u64 (uh : Int)) ∧ wr.cell? ⟨g, k * 11 + 2, none⟩ = some (Value.int .u64 (ul : Int)) ∧ wr.cell? ⟨g, k * 11 + 3, none⟩ = some (Value.int .i64 ub) ∧ wr.cell? ⟨xb, 0, none⟩ = some (Value.bool ps) ∧ wr.cell? ⟨xb, 1, none⟩ = some (Value.int .u64 (ph : Int)) ∧ wr.cell? ⟨xb, 2, none⟩ = some (Value.int .u64 (pl : Int)) ∧ wr.cell? ⟨xb, 3, none⟩ = some (Value.int .i64 pb)) := lH ⟨c0, u0, u1, u2, u3, v0, v1, v2, v3⟩
   have HP := lH (And.intro u4 (And.intro u5 (And.intro u6 (And.intro u7 (And.intro u8 (And.intro u9 u10))))))
   clear d3 hu hb u0 u1 u2 u3 u4 u5 u6 u7 u8 u9 u10 v0 v1 v2 v3
   go_wp2
   refine wp_region_held_drew (S := (fun W => W.cell? ⟨t, 0, none⟩ = some (Value.slice (some ⟨g, 0, none⟩) n cA) ∧ W.cell? ⟨g, k * 11, none⟩ = some (Value.bool us) ∧ W.cell? ⟨g, k * 11 + 1, none⟩ = some (Value.int .u64 (uh : Int)) ∧ W.cell? ⟨g, k * 11 + 2, none⟩ = some (Value.int .u64 (ul : Int)) ∧ W.cell? ⟨g, k * 11 + 3, none⟩ = some (Value.int .i64 ub) ∧ W.cell? ⟨xb, 0, none⟩ = some (Value.bool ps) ∧ W.cell? ⟨xb, 1, none⟩ = some (Value.int .u64 (ph : Int)) ∧ W.cell? ⟨xb, 2, none⟩ = some (Value.int .u64 (pl : Int)) ∧ W.cell? ⟨xb, 3, none⟩ = some (Value.int .i64 pb))) (by kernel_rfl) ?_ (fun hHeld => ?_)
   ·(exact HCl.out)
   refine tkH 0 ?_
   refine tkH 1 ?_
   refine tkH 2 ?_
   refine tkH 3 ?_
   refine tkH 4 ?_
   refine tkH 5 ?_
   refine tkH 6 ?_
   refine tkH 7 ?_
   refine tkH 8 ?_
   refine tkH 9 ?_
   refine wpAnyH_done (by kernel_rfl) ?_ _
   obtain ⟨w4, hw4⟩ : ∃ w4, wr.drew = w4 := ⟨_, rfl⟩
   have HO4 := lH hO.out.drew
   have HT4 := lH hT.out.drew
   have HX4 : Hid (Blk wr.drew xb 30 #[.bool ps, .int .u64 (ph : Int), .int .u64 (pl : Int), .int .i64 pb]) := lH hX.out
   have HC4 : Hid (wr.drew.cell? ⟨t, 0, none⟩ = some (Value.slice (some ⟨g, 0, none⟩) n cA) ∧ wr.drew.cell? ⟨g, k * 11 + 4, none⟩ = some (Value.int .i64 upr) ∧ wr.drew.cell? ⟨g, k * 11 + 5, none⟩ = some (Value.int .i64 ume) ∧ wr.drew.cell? ⟨g, k * 11 + 6, none⟩ = some (Value.bool uvs) ∧ wr.drew.cell? ⟨g, k * 11 + 7, none⟩ = some (Value.int .u64 (uvh : Int)) ∧ wr.drew.cell? ⟨g, k * 11 + 8, none⟩ = some (Value.int .u64 (uvl : Int)) ∧ wr.drew.cell? ⟨g, k * 11 + 9, none⟩ = some (Value.int .i64 upo) ∧ wr.drew.cell? ⟨g, k * 11 + 10, none⟩ = some (Value.bool uaw)) := lH ⟨HCl.out.1, HP.out⟩
   rw [hw4] at HO4 HT4 HX4 HC4 ⊢
   clear hw4 HQ HP HCl c0
   cases b with
   | false =>
    have HFl : Hid (pathK L ((ps, ph, pl), pb) (k + 1) = pathK L ((ps, ph, pl), pb) k) := lH (pathK_no Hu.out HBb.out)
    go_wp2
    go_roundw
    case rel => exact ⟨k + 1, f, A1, cc, rfl, by go_num, hkn, hf, by rw [HFl.out]; exact hF, by rw [HFl.out]; exact HO4, HT4, HX4⟩
    case measure => simp [intOf]; omega
   | true =>
    have HFl : Hid (pathK L ((ps, ph, pl), pb) (k + 1) = pathK L ((ps, ph, pl), pb) k ++ [(upr, ume, (uvs, uvh, uvl), upo, uaw)]) := lH (pathK_yes Hu.out HBb.out)
    have hfm : f + 1 ≤ n := by have h1 := pathK_le L ((ps, ph, pl), pb) (k + 1); rw [HFl.out, List.length_append, List.length_singleton, hF.out, HN.out] at h1; exact h1
    obtain ⟨z0, z4, z5, z6, z7, z8, z9, z10⟩ := HC4.out
    have HO5 : Hid ((w4.alloc (.cells #[.int .i64 upr, .int .i64 ume, .bool uvs, .int .u64 (uvh : Int), .int .u64 (uvl : Int), .int .i64 upo, .bool uaw] 49)).ownsRow yb 49 7 (.slice A1 f cc) f ((pathK L ((ps, ph, pl), pb) k).flatMap paC)) := lH (HO4.out.alloc _)
    have HSr := lH (src_new w4 49 [.int .i64 upr, .int .i64 ume, .bool uvs, .int .u64 (uvh : Int), .int .u64 (uvl : Int), .int .i64 upo, .bool uaw])
    have HSz5 : Hid (yb ≤ (w4.alloc (.cells #[.int .i64 upr, .int .i64 ume, .bool uvs, .int .u64 (uvh : Int), .int .u64 (uvl : Int), .int .i64 upo, .bool uaw] 49)).heap.size) := lH (by have h1 := HX4.out.lt; have h2 := HYb.out; rw [zA]; omega)
    have HX5 := lH (HX4.out.alloc (.cells #[.int .i64 upr, .int .i64 ume, .bool uvs, .int .u64 (uvh : Int), .int .u64 (uvl : Int), .int .i64 upo, .bool uaw] 49))
    have HT5 := lH (HT4.out.alloc (.cells #[.int .i64 upr, .int .i64 ume, .bool uvs, .int .u64 (uvh : Int), .int .u64 (uvl : Int), .int .i64 upo, .bool uaw] 49))
    have HXn : Hid (∀ s ∈ obI (.slice A1 f cc), s ≠ xb) := lH (fun s hs => by have h1 := (own_geI HO5.out s hs).1; have h2 := HYb.out; omega)
    have HSzf : Hid (f ≤ 1000000) := lH (by omega)
    go_wp2_with (at_builtin; (refine wpList_apc 118 49 (.agg #[.int .i64 0, .int .i64 0, .bool false, .int .u64 0, .int .u64 0, .int .i64 0, .bool false]) 7 56 Tryz.underlying118 infoPa rfl (by decide) (by decide) _ rfl (.tmp 26) (.tmp 35) rfl yb (.slice A1 f cc) f ((pathK L ((ps, ph, pl), pb) k).flatMap paC) rfl HO5.out ⟨w4.heap.size, 0, none⟩ 1 [.int .i64 upr, .int .i64 ume, .bool uvs, .int .u64 (uvh : Int), .int .u64 (uvl : Int), .int .i64 upo, .bool uaw] rfl rfl (fun j u hj => HSr.out j u hj) (by simp [Value.oneCell']) HSzf.out HSz5.out ?_; intro v7 w7 hown hg hv; obtain ⟨A7, c7, e7, -, -⟩ := own_sl hown; subst e7; have hT57 := Tch.of_grown' (S := obI (.slice A1 f cc)) hg (fun k e => by rw [obI_some e]; simp); have HO7 := lH hown; have HT7 := lH (HT5.out.trans_fre hT57 (fun s hs => .inr (by have := (own_geI HO5.out s hs).1; have := HXb.out; have := HYb.out; omega))); have HX7 := lH (hT57.blk HX5.out (fun hm => HXn.out _ hm rfl)); clear hown hg hv hT57))
    go_roundw
    case rel => exact ⟨k + 1, f + 1, A7, c7, rfl, by go_num, hkn, hfm, lH (by rw [HFl.out, List.length_append, hF.out]; rfl), lH (by rw [HFl.out, List.flatMap_append]; exact HO7.out), HT7, HX7⟩
    case measure => simp [intOf]; omega
  ·obtain rfl : k = n := by omega
   have kI : ¬ (k : Int) < (k : Int) := by omega
   have HAll : Hid (pathK L ((ps, ph, pl), pb) k = pathsI L ((ps, ph, pl), pb)) := lH (by rw [← pathK_all, HN.out])
   have HO9 := lH hO.out
   rw [HAll.out] at hF HO9
   have HF9 := lH hF.out
   have HT9 := lH hT.out
   clear hkn hk hF hO hT hX
   go_wp2
   go_ret
   exact ⟨A1, cc, by rw [HF9.out]; rfl, by rw [HF9.out, HXb.out]; exact own_mono HO9.out (by have := HYb.out; omega), HT9.out⟩
theorem Blk.c7 {w : World} {g : Nat} {t : TypeId} {a b c d e f i : Value} (h : Blk w g t #[a, b, c, d, e, f, i]) : w.cell? ⟨g, 0, none⟩ = some a ∧ w.cell? ⟨g, 1, none⟩ = some b ∧ w.cell? ⟨g, 2, none⟩ = some c ∧ w.cell? ⟨g, 3, none⟩ = some d ∧ w.cell? ⟨g, 4, none⟩ = some e ∧ w.cell? ⟨g, 5, none⟩ = some f ∧ w.cell? ⟨g, 6, none⟩ = some i :=
 ⟨by rw [h.cell]; rfl, by rw [h.cell]; rfl, by rw [h.cell]; rfl, by rw [h.cell]; rfl, by rw [h.cell]; rfl, by rw [h.cell]; rfl, by rw [h.cell]; rfl⟩
end Go.Proofs.YtgfkmgbcajdcdaaGreatDoor

namespace Go.Proofs.YtgfkmgbcajdcdaaGreatDoor
open Go.RowKit

def fluK (L : List TdI) (pr : Int) (k : Nat) : List TdI := (L.take k).filter fun t => !decide (t.2.1 = pr)
theorem fluK_yes {L : List TdI} {pr : Int} {k : Nat} {u : TdI} (hu : L[k]? = some u) (h : ¬ u.2.1 = pr) : fluK L pr (k + 1) = fluK L pr k ++ [u] := by
 unfold fluK
 rw [List.take_add_one, hu, List.filter_append]
 simp [h]
theorem fluK_no {L : List TdI} {pr : Int} {k : Nat} {u : TdI} (hu : L[k]? = some u) (h : u.2.1 = pr) : fluK L pr (k + 1) = fluK L pr k := by
 unfold fluK
 rw [List.take_add_one, hu, List.filter_append]
 simp [h]
theorem fluK_le (L : List TdI) (pr : Int) (k : Nat) : (fluK L pr k).length ≤ L.length := Nat.le_trans (List.length_filter_le _ _) (by simp; omega)
theorem fluK_all (L : List TdI) (pr : Int) : fluK L pr L.length = L.filter fun t => !decide (t.2.1 = pr) := by unfold fluK; rw [List.take_length]
theorem flushD (t : Nat) (S : List Nat) (L : List TdI) (hL : L.length ≤ 1000) (pr : Int) (w : World) (h : RbD w t S L) :
  Calls Tryz.prog 87 #[.pointer (some ⟨t, 0, none⟩), .int .i64 pr] w fun e w' => e = .returned (.int .i64 (flushR L pr).2) ∧ ∃ S', RbD w' t S' (flushR L pr).1 ∧ Goes w w' S S' := by
 have HH := lH h
 obtain ⟨A, cA, c0, hrow, htl, -⟩ := h.head
 obtain ⟨n, hn⟩ : ∃ n, L.length = n := ⟨_, rfl⟩
 rw [hn] at c0 hrow hL
 have HN := lH hn
 have HR := lH hrow
 have HC0 := lH (And.intro c0 htl)
 obtain ⟨xb, hxb⟩ : ∃ xb, w.heap.size = xb := ⟨_, rfl⟩
 have HXb := lH hxb
 clear h c0 hrow htl hxb hn
 go_enter Tryz.func87, Tryz.ntmps87
 go_wp2
 go_loopw [5, 6] (fun ov kv wr => ∃ (k f : Nat) (A1 : Option Addr) (cc : Nat), ov = .slice A1 f cc ∧ kv = .int .i64 (k : Int) ∧ k ≤ n ∧ f ≤ n ∧ Hid ((fluK L pr k).length = f) ∧ Hid (wr.ownsRow xb 113 11 (.slice A1 f cc) f ((fluK L pr k).flatMap tdC)) ∧ Hid (Tch w wr [])) (fun _ kv _ => n - (intOf kv).toNat)
 case atStart => exact ⟨0, 0, none, 0, rfl, rfl, Nat.zero_le _, Nat.zero_le _, lH rfl, lH ⟨rfl, .inl ⟨rfl, rfl⟩⟩, lH (Tch.refl w [])⟩
 case round =>
  obtain ⟨k, f, A1, cc, rfl, rfl, hk, hf, hF, hO, hT⟩ := hrel
  have c0 := (hT.out.cell (p := ⟨t, 0, none⟩) HC0.out.2 (by simp)).trans HC0.out.1
  have k1 : IntKind.i64.wrap ((k : Int) + 1) = (k : Int) + 1 := by rw [IntKind.wrap_i64]; omega
  by_cases hkn : k < n
  ·have kI : (k : Int) < (n : Int) := by omega
   have k0 : (0 : Int) ≤ (k : Int) := by omega
   obtain ⟨u, hu⟩ : ∃ u, L[k]? = some u := ⟨_, List.getElem?_eq_getElem (by rw [HN.out]; exact hkn)⟩
   have d3 := own_tch HR.out hT.out (by simp)
   obtain ⟨g, rfl⟩ := slice_some d3 (by omega)
   obtain ⟨u0, u1, u2, u3, u4, u5, u6, u7, u8, u9, u10⟩ := td_cells d3 hu
   obtain ⟨⟨⟨us, uh, ul⟩, ub⟩, upr, ume, ⟨uvs, uvh, uvl⟩, upo, uaw⟩ := u
   have Hu := lH hu
   clear d3 hu
   by_cases hp : upr = pr
   ·have bp : (upr != pr) = false := by simpa using hp
    have HFl : Hid (fluK L pr (k + 1) = fluK L pr k) := lH (fluK_no Hu.out hp)
    clear hp
    go_wp2
    go_roundw
    case rel => exact ⟨k + 1, f, A1, cc, rfl, by go_num, hkn, hf, by rw [HFl.out]; exact hF, by rw [HFl.out]; exact hO, hT⟩
    case measure => simp [intOf]; omega
   ·have bp : (upr != pr) = true := by simpa using hp
    have HFl : Hid (fluK L pr (k + 1) = fluK L pr k ++ [(((us, uh, ul), ub), upr, ume, (uvs, uvh, uvl), upo, uaw)]) := lH (fluK_yes Hu.out hp)
    have hfm : f + 1 ≤ n := by have h1 := fluK_le L pr (k + 1); rw [HFl.out, List.length_append, List.length_singleton, hF.out, HN.out] at h1; exact h1
    have HO5 : Hid ((wr.alloc (.cells #[.bool us, .int .u64 (uh : Int), .int .u64 (ul : Int), .int .i64 ub, .int .i64 upr, .int .i64 ume, .bool uvs, .int .u64 (uvh : Int), .int .u64 (uvl : Int), .int .i64 upo, .bool uaw] 113)).ownsRow xb 113 11 (.slice A1 f cc) f ((fluK L pr k).flatMap tdC)) := lH (hO.out.alloc _)
    have HSr := lH (src_new wr 113 [.bool us, .int .u64 (uh : Int), .int .u64 (ul : Int), .int .i64 ub, .int .i64 upr, .int .i64 ume, .bool uvs, .int .u64 (uvh : Int), .int .u64 (uvl : Int), .int .i64 upo, .bool uaw])
    have HSz5 : Hid (xb ≤ (wr.alloc (.cells #[.bool us, .int .u64 (uh : Int), .int .u64 (ul : Int), .int .i64 ub, .int .i64 upr, .int .i64 ume, .bool uvs, .int .u64 (uvh : Int), .int .u64 (uvl : Int), .int .i64 upo, .bool uaw] 113)).heap.size) := lH (by have h1 := hT.out.size; have h2 := HXb.out; rw [zA]; omega)
    have HT5 := lH (hT.out.alloc (.cells #[.bool us, .int .u64 (uh : Int), .int .u64 (ul : Int), .int .i64 ub, .int .i64 upr, .int .i64 ume, .bool uvs, .int .u64 (uvh : Int), .int .u64 (uvl : Int), .int .i64 upo, .bool uaw] 113))
    have HSzf : Hid (f ≤ 1000000) := lH (by omega)
    clear hp
    go_wp2_with (at_builtin; (refine wpList_apc 54 113 (.agg #[.bool false, .int .u64 0, .int .u64 0, .int .i64 0, .int .i64 0, .int .i64 0, .bool false, .int .u64 0, .int .u64 0, .int .i64 0, .bool false]) 11 88 Tryz.underlying54 infoTd rfl (by decide) (by decide) _ rfl (.tmp 28) (.tmp 36) rfl xb (.slice A1 f cc) f ((fluK L pr k).flatMap tdC) rfl HO5.out ⟨wr.heap.size, 0, none⟩ 1 [.bool us, .int .u64 (uh : Int), .int .u64 (ul : Int), .int .i64 ub, .int .i64 upr, .int .i64 ume, .bool uvs, .int .u64 (uvh : Int), .int .u64 (uvl : Int), .int .i64 upo, .bool uaw] rfl rfl (fun j u hj => HSr.out j u hj) (by simp [Value.oneCell']) HSzf.out HSz5.out ?_; intro v7 w7 hown hg hv; obtain ⟨A7, c7, e7, -, -⟩ := own_sl hown; subst e7; have HO7 := lH hown; have HT7 := lH (HT5.out.trans_fre (Tch.of_grown' (S := obI (.slice A1 f cc)) hg (fun k e => by rw [obI_some e]; simp)) (fun s hs => .inr (by have := (own_geI HO5.out s hs).1; have := HXb.out; omega))); clear hown hg hv))
    go_roundw
    case rel => exact ⟨k + 1, f + 1, A7, c7, rfl, by go_num, hkn, hfm, lH (by rw [HFl.out, List.length_append, hF.out]; rfl), lH (by rw [HFl.out, List.flatMap_append]; exact HO7.out), HT7⟩
    case measure => simp [intOf]; omega
  ·obtain rfl : k = n := by omega
   have kI : ¬ (k : Int) < (k : Int) := by omega
   have HAll : Hid (fluK L pr k = (flushR L pr).1) := lH (by rw [← HN.out]; exact fluK_all L pr)
   have HO9 := lH hO.out
   rw [HAll.out] at hF HO9
   have HF9 := lH hF.out
   have j1 : IntKind.i64.wrap ((k : Int) - (f : Int)) = (k : Int) - (f : Int) := by rw [IntKind.wrap_i64]; omega
   have HRes : Hid ((flushR L pr).2 = (k : Int) - (f : Int)) := lH (by show (L.length : Int) - ((flushR L pr).1.length : Int) = _; rw [HF9.out, HN.out])
   obtain ⟨⟨u7, k7⟩, f7, S', hD7, hG7⟩ := RbD.set_ HH.out hT.out (A := A1) (c := cc) (M := (flushR L pr).1) (by rw [HF9.out, HXb.out]; exact HO9.out) (fun u hu => HH.out.num u (List.mem_filter.1 hu).1)
   rw [HF9.out] at hD7 hG7
   have HD7 := lH hD7
   have HG7 := lH hG7
   clear hkn hk hF hO hT hD7 hG7
   go_wp2
   go_ret
   exact ⟨by rw [HRes.out]; rfl, S', HD7.out, HG7.out⟩
theorem prefsD (t : Nat) (S : List Nat) (L : List TdI) (hL : L.length ≤ 1000) (w : World) (h : RbD w t S L) :
  Calls Tryz.prog 11 #[.pointer (some ⟨t, 0, none⟩)] w fun e w' => ∃ A c, e = .returned (.slice A (prefsI L).length c) ∧ w'.ownsRow w.heap.size 30 4 (.slice A (prefsI L).length c) (prefsI L).length ((prefsI L).flatMap pfC) ∧ Tch w w' [] := by
 obtain ⟨A, cA, c0, hrow, htl, -⟩ := h.head
 obtain ⟨n, hn⟩ : ∃ n, L.length = n := ⟨_, rfl⟩
 rw [hn] at c0 hrow hL
 have HN := lH hn
 have HR := lH hrow
 have HC0 := lH (And.intro c0 htl)
 obtain ⟨xb, hxb⟩ : ∃ xb, w.heap.size = xb := ⟨_, rfl⟩
 have HXb := lH hxb
 clear h c0 hrow htl hxb hn
 go_enter Tryz.func11, Tryz.ntmps11
 go_wp2
 go_loopw [3, 4] (fun ov kv wr => ∃ (k f : Nat) (A1 : Option Addr) (cc : Nat), ov = .slice A1 f cc ∧ kv = .int .i64 (k : Int) ∧ k ≤ n ∧ f ≤ n ∧ Hid ((prefK L k).length = f) ∧ Hid (wr.ownsRow xb 30 4 (.slice A1 f cc) f ((prefK L k).flatMap pfC)) ∧ Hid (Tch w wr [])) (fun _ kv _ => n - (intOf kv).toNat)
 case atStart => exact ⟨0, 0, none, 0, rfl, rfl, Nat.zero_le _, Nat.zero_le _, lH rfl, lH ⟨rfl, .inl ⟨rfl, rfl⟩⟩, lH (Tch.refl w [])⟩
 case round =>
  obtain ⟨k, f, A1, cc, rfl, rfl, hk, hf, hF, hO, hT⟩ := hrel
  have c0 := (hT.out.cell (p := ⟨t, 0, none⟩) HC0.out.2 (by simp)).trans HC0.out.1
  have k1 : IntKind.i64.wrap ((k : Int) + 1) = (k : Int) + 1 := by rw [IntKind.wrap_i64]; omega
  by_cases hkn : k < n
  ·have kI : (k : Int) < (n : Int) := by omega
   have k0 : (0 : Int) ≤ (k : Int) := by omega
   obtain ⟨u, hu⟩ : ∃ u, L[k]? = some u := ⟨_, List.getElem?_eq_getElem (by rw [HN.out]; exact hkn)⟩
   have d3 := own_tch HR.out hT.out (by simp)
   obtain ⟨g, rfl⟩ := slice_some d3 (by omega)
   obtain ⟨u0, u1, u2, u3, -⟩ := td_cells d3 hu
   obtain ⟨⟨⟨us, uh, ul⟩, ub⟩, ux⟩ := u
   have Hu := lH hu
   have HCu : Hid (wr.cell? ⟨t, 0, none⟩ = some (Value.slice (some ⟨g, 0, none⟩) n cA) ∧ wr.cell? ⟨g, k * 11, none⟩ = some (Value.bool us) ∧ wr.cell? ⟨g, k * 11 + 1, none⟩ = some (Value.int .u64 (uh : Int)) ∧ wr.cell? ⟨g, k * 11 + 2, none⟩ = some (Value.int .u64 (ul : Int)) ∧ wr.cell? ⟨g, k * 11 + 3, none⟩ = some (Value.int .i64 ub)) := lH ⟨c0, u0, u1, u2, u3⟩
   by_cases hk0 : k = 0
   ·have bz : ((k : Int) == 0) = true := by simpa using hk0
    have HNew : Hid (newP? L k = true) := lH (by subst hk0; exact newP_zero Hu.out)
    clear d3 hu u0 u1 u2 u3 hk0
    go_wp2
    refine wp_region_held_drew (S := (fun W => W.cell? ⟨t, 0, none⟩ = some (Value.slice (some ⟨g, 0, none⟩) n cA) ∧ W.cell? ⟨g, k * 11, none⟩ = some (Value.bool us) ∧ W.cell? ⟨g, k * 11 + 1, none⟩ = some (Value.int .u64 (uh : Int)) ∧ W.cell? ⟨g, k * 11 + 2, none⟩ = some (Value.int .u64 (ul : Int)) ∧ W.cell? ⟨g, k * 11 + 3, none⟩ = some (Value.int .i64 ub))) (by kernel_rfl) ?_ (fun hHeld => ?_)
    ·(exact HCu.out)
    refine tkH 0 ?_
    refine tkH 1 ?_
    refine tkH 2 ?_
    refine tkO 3 ?_
    refine tkO 4 ?_
    refine tkO 5 ?_
    refine tkO 6 ?_
    refine tkO 7 ?_
    refine tkO 8 ?_
    refine tkO 9 ?_
    refine tkO 10 ?_
    refine tkO 11 ?_
    refine tkO 12 ?_
    refine tkO 13 ?_
    refine tkO 14 ?_
    refine tkO 15 ?_
    refine tkO 16 ?_
    refine tkO 17 ?_
    refine tkO 18 ?_
    refine tkO 19 ?_
    refine tkO 20 ?_
    refine tkH 21 ?_
    refine wpAnyH_done (by kernel_rfl) ?_ _
    obtain ⟨w4, hw4⟩ : ∃ w4, wr.drew = w4 := ⟨_, rfl⟩
    have HO4 := lH hO.out.drew
    have HT4 := lH hT.out.drew
    have HC4 : Hid (wr.drew.cell? ⟨t, 0, none⟩ = some (Value.slice (some ⟨g, 0, none⟩) n cA) ∧ wr.drew.cell? ⟨g, k * 11, none⟩ = some (Value.bool us) ∧ wr.drew.cell? ⟨g, k * 11 + 1, none⟩ = some (Value.int .u64 (uh : Int)) ∧ wr.drew.cell? ⟨g, k * 11 + 2, none⟩ = some (Value.int .u64 (ul : Int)) ∧ wr.drew.cell? ⟨g, k * 11 + 3, none⟩ = some (Value.int .i64 ub)) := lH HCu.out
    rw [hw4] at HO4 HT4 HC4 ⊢
    clear hw4 c0
    have HFl : Hid (prefK L (k + 1) = prefK L k ++ [((us, uh, ul), ub)]) := lH (by rw [prefK_at Hu.out, HNew.out]; rfl)
    have hfm : f + 1 ≤ n := by have h1 := prefK_le L (k + 1); rw [HFl.out, List.length_append, List.length_singleton, hF.out] at h1; omega
    have HO5 : Hid ((w4.alloc (.cells #[.bool us, .int .u64 (uh : Int), .int .u64 (ul : Int), .int .i64 ub] 30)).ownsRow xb 30 4 (.slice A1 f cc) f ((prefK L k).flatMap pfC)) := lH (HO4.out.alloc _)
    have HSr := lH (src_new w4 30 [.bool us, .int .u64 (uh : Int), .int .u64 (ul : Int), .int .i64 ub])
    have HSz5 : Hid (xb ≤ (w4.alloc (.cells #[.bool us, .int .u64 (uh : Int), .int .u64 (ul : Int), .int .i64 ub] 30)).heap.size) := lH (by have h1 := HT4.out.size; have h2 := HXb.out; rw [zA]; omega)
    have HT5 := lH (HT4.out.alloc (.cells #[.bool us, .int .u64 (uh : Int), .int .u64 (ul : Int), .int .i64 ub] 30))
    have HSzf : Hid (f ≤ 1000000) := lH (by omega)
    obtain ⟨z0, z1, z2, z3, z4⟩ := HC4.out
    go_wp2_with (at_builtin; (refine wpList_apc 40 30 (.agg #[.bool false, .int .u64 0, .int .u64 0, .int .i64 0]) 4 32 Tryz.underlying40 infoPf rfl (by decide) (by decide) _ rfl (.tmp 36) (.tmp 45) rfl xb (.slice A1 f cc) f ((prefK L k).flatMap pfC) rfl HO5.out ⟨w4.heap.size, 0, none⟩ 1 [.bool us, .int .u64 (uh : Int), .int .u64 (ul : Int), .int .i64 ub] rfl rfl (fun j u hj => HSr.out j u hj) (by simp [Value.oneCell']) HSzf.out HSz5.out ?_; intro v7 w7 hown hg hv; obtain ⟨A7, c7, e7, -, -⟩ := own_sl hown; subst e7; have HO7 := lH hown; have HT7 := lH (HT5.out.trans_fre (Tch.of_grown' (S := obI (.slice A1 f cc)) hg (fun k e => by rw [obI_some e]; simp)) (fun s hs => .inr (by have := (own_geI HO5.out s hs).1; have := HXb.out; omega))); clear hown hg hv))
    go_roundw
    case rel => exact ⟨k + 1, f + 1, A7, c7, rfl, by go_num, hkn, hfm, lH (by rw [HFl.out, List.length_append, hF.out]; rfl), lH (by rw [HFl.out, List.flatMap_append]; exact HO7.out), HT7⟩
    case measure => simp [intOf]; omega
   ·have bz : ((k : Int) == 0) = false := by simpa using hk0
    obtain ⟨j, hkj⟩ : ∃ j, j + 1 = k := ⟨k - 1, by omega⟩
    obtain ⟨v, hv⟩ : ∃ v, L[j]? = some v := ⟨_, List.getElem?_eq_getElem (by rw [HN.out]; omega)⟩
    obtain ⟨v0, v1, v2, v3, -⟩ := td_cells d3 hv
    obtain ⟨b, hb⟩ : ∃ b, decide ((((us, uh, ul), ub) : PfI) = v.1) = b := ⟨_, rfl⟩
    have HNw : Hid (newP? L k = !b) := lH (by rw [← hkj, newP_succ (by rw [hkj]; exact Hu.out) hv, ← hb]; simp only [eq_comm])
    obtain ⟨⟨⟨vs, vh, vl⟩, vb⟩, vx⟩ := v
    have HQ : ∀ W, (binOp .neq 30 (.agg #[.bool us, .int .u64 (uh : Int), .int .u64 (ul : Int), .int .i64 ub]) (.agg #[.bool vs, .int .u64 (vh : Int), .int .u64 (vl : Int), .int .i64 vb])).run Tryz.prog W = .ok (.bool (!b)) W := eq_neq 30 _ _ (eq_pfR ((us, uh, ul), ub) ((vs, vh, vl), vb) hb)
    have j1 : IntKind.i64.wrap ((k : Int) - 1) = (j : Int) := by rw [IntKind.wrap_i64]; omega
    have jI : (0 : Int) ≤ (j : Int) ∧ (j : Int) < (n : Int) := by omega
    have j0 : (0 : Int) ≤ (j : Int) := jI.1
    have j2 : (j : Int) < (n : Int) := jI.2
    have HCv : Hid ((wr.cell? ⟨t, 0, none⟩ = some (Value.slice (some ⟨g, 0, none⟩) n cA) ∧ wr.cell? ⟨g, k * 11, none⟩ = some (Value.bool us) ∧ wr.cell? ⟨g, k * 11 + 1, none⟩ = some (Value.int .u64 (uh : Int)) ∧ wr.cell? ⟨g, k * 11 + 2, none⟩ = some (Value.int .u64 (ul : Int)) ∧ wr.cell? ⟨g, k * 11 + 3, none⟩ = some (Value.int .i64 ub)) ∧ wr.cell? ⟨g, j * 11, none⟩ = some (Value.bool vs) ∧ wr.cell? ⟨g, j * 11 + 1, none⟩ = some (Value.int .u64 (vh : Int)) ∧ wr.cell? ⟨g, j * 11 + 2, none⟩ = some (Value.int .u64 (vl : Int)) ∧ wr.cell? ⟨g, j * 11 + 3, none⟩ = some (Value.int .i64 vb)) := lH ⟨HCu.out, v0, v1, v2, v3⟩
    clear d3 hu hv hb u0 u1 u2 u3 v0 v1 v2 v3 jI hkj hk0
    go_wp2
    refine wp_region_held_drew (S := (fun W => (W.cell? ⟨t, 0, none⟩ = some (Value.slice (some ⟨g, 0, none⟩) n cA) ∧ W.cell? ⟨g, k * 11, none⟩ = some (Value.bool us) ∧ W.cell? ⟨g, k * 11 + 1, none⟩ = some (Value.int .u64 (uh : Int)) ∧ W.cell? ⟨g, k * 11 + 2, none⟩ = some (Value.int .u64 (ul : Int)) ∧ W.cell? ⟨g, k * 11 + 3, none⟩ = some (Value.int .i64 ub)) ∧ W.cell? ⟨g, j * 11, none⟩ = some (Value.bool vs) ∧ W.cell? ⟨g, j * 11 + 1, none⟩ = some (Value.int .u64 (vh : Int)) ∧ W.cell? ⟨g, j * 11 + 2, none⟩ = some (Value.int .u64 (vl : Int)) ∧ W.cell? ⟨g, j * 11 + 3, none⟩ = some (Value.int .i64 vb))) (by kernel_rfl) ?_ (fun hHeld => ?_)
    ·(exact HCv.out)
    refine tkH 0 ?_
    refine tkH 1 ?_
    refine tkH 2 ?_
    refine tkH 3 ?_
    refine tkH 4 ?_
    refine tkH 5 ?_
    refine tkH 6 ?_
    refine tkH 7 ?_
    refine tkH 8 ?_
    refine tkH 9 ?_
    refine tkH 10 ?_
    refine tkH 11 ?_
    refine tkH 12 ?_
    refine tkH 13 ?_
    refine tkH 14 ?_
    refine tkH 15 ?_
    refine tkH 16 ?_
    refine tkH 17 ?_
    refine tkH 18 ?_
    refine tkH 19 ?_
    refine tkH 20 ?_
    refine tkH 21 ?_
    refine wpAnyH_done (by kernel_rfl) ?_ _
    clear HCv HQ
    obtain ⟨w4, hw4⟩ : ∃ w4, wr.drew = w4 := ⟨_, rfl⟩
    have HO4 := lH hO.out.drew
    have HT4 := lH hT.out.drew
    have HC4 : Hid (wr.drew.cell? ⟨t, 0, none⟩ = some (Value.slice (some ⟨g, 0, none⟩) n cA) ∧ wr.drew.cell? ⟨g, k * 11, none⟩ = some (Value.bool us) ∧ wr.drew.cell? ⟨g, k * 11 + 1, none⟩ = some (Value.int .u64 (uh : Int)) ∧ wr.drew.cell? ⟨g, k * 11 + 2, none⟩ = some (Value.int .u64 (ul : Int)) ∧ wr.drew.cell? ⟨g, k * 11 + 3, none⟩ = some (Value.int .i64 ub)) := lH HCu.out
    rw [hw4] at HO4 HT4 HC4 ⊢
    clear hw4 c0
    cases b with
    | true =>
     have HFl : Hid (prefK L (k + 1) = prefK L k) := lH (by rw [prefK_at Hu.out, HNw.out]; rfl)
     go_wp2
     go_roundw
     case rel => exact ⟨k + 1, f, A1, cc, rfl, by go_num, hkn, hf, by rw [HFl.out]; exact hF, by rw [HFl.out]; exact HO4, HT4⟩
     case measure => simp [intOf]; omega
    | false =>
     have HNew : Hid (newP? L k = true) := lH (by rw [HNw.out]; rfl)
     have HFl : Hid (prefK L (k + 1) = prefK L k ++ [((us, uh, ul), ub)]) := lH (by rw [prefK_at Hu.out, HNew.out]; rfl)
     have hfm : f + 1 ≤ n := by have h1 := prefK_le L (k + 1); rw [HFl.out, List.length_append, List.length_singleton, hF.out] at h1; omega
     have HO5 : Hid ((w4.alloc (.cells #[.bool us, .int .u64 (uh : Int), .int .u64 (ul : Int), .int .i64 ub] 30)).ownsRow xb 30 4 (.slice A1 f cc) f ((prefK L k).flatMap pfC)) := lH (HO4.out.alloc _)
     have HSr := lH (src_new w4 30 [.bool us, .int .u64 (uh : Int), .int .u64 (ul : Int), .int .i64 ub])
     have HSz5 : Hid (xb ≤ (w4.alloc (.cells #[.bool us, .int .u64 (uh : Int), .int .u64 (ul : Int), .int .i64 ub] 30)).heap.size) := lH (by have h1 := HT4.out.size; have h2 := HXb.out; rw [zA]; omega)
     have HT5 := lH (HT4.out.alloc (.cells #[.bool us, .int .u64 (uh : Int), .int .u64 (ul : Int), .int .i64 ub] 30))
     have HSzf : Hid (f ≤ 1000000) := lH (by omega)
     obtain ⟨z0, z1, z2, z3, z4⟩ := HC4.out
     go_wp2_with (at_builtin; (refine wpList_apc 40 30 (.agg #[.bool false, .int .u64 0, .int .u64 0, .int .i64 0]) 4 32 Tryz.underlying40 infoPf rfl (by decide) (by decide) _ rfl (.tmp 36) (.tmp 45) rfl xb (.slice A1 f cc) f ((prefK L k).flatMap pfC) rfl HO5.out ⟨w4.heap.size, 0, none⟩ 1 [.bool us, .int .u64 (uh : Int), .int .u64 (ul : Int), .int .i64 ub] rfl rfl (fun j u hj => HSr.out j u hj) (by simp [Value.oneCell']) HSzf.out HSz5.out ?_; intro v7 w7 hown hg hv; obtain ⟨A7, c7, e7, -, -⟩ := own_sl hown; subst e7; have HO7 := lH hown; have HT7 := lH (HT5.out.trans_fre (Tch.of_grown' (S := obI (.slice A1 f cc)) hg (fun k e => by rw [obI_some e]; simp)) (fun s hs => .inr (by have := (own_geI HO5.out s hs).1; have := HXb.out; omega))); clear hown hg hv))
     go_roundw
     case rel => exact ⟨k + 1, f + 1, A7, c7, rfl, by go_num, hkn, hfm, lH (by rw [HFl.out, List.length_append, hF.out]; rfl), lH (by rw [HFl.out, List.flatMap_append]; exact HO7.out), HT7⟩
     case measure => simp [intOf]; omega
  ·obtain rfl : k = n := by omega
   have kI : ¬ (k : Int) < (k : Int) := by omega
   have HAll : Hid (prefK L k = prefsI L) := lH (by rw [← HN.out]; rfl)
   have HO9 := lH hO.out
   rw [HAll.out] at hF HO9
   have HF9 := lH hF.out
   have HT9 := lH hT.out
   clear hkn hk hF hO hT
   go_wp2
   go_ret
   exact ⟨A1, cc, by rw [HF9.out]; rfl, by rw [HF9.out, HXb.out]; exact HO9.out, HT9.out⟩
end Go.Proofs.YtgfkmgbcajdcdaaGreatDoor

namespace Go.Proofs.YtgfkmgbcajdcdaaGreatDoor.Ifs
open Go.RowKit

def IfD (w : World) (t : Nat) (S : List Nat) (st : StI) : Prop := ∃ (AP AL : Option Addr) (cP cL : Nat) (lv : List Value),
 S = t :: (obI (.slice AP st.1.length cP) ++ (obI (.slice AL st.1.length cL) ++ lv.flatMap obI)) ∧ S.Nodup ∧
 Blk w t 170 #[.slice AP st.1.length cP, .slice AL st.1.length cL] ∧
 w.ownsRow 0 74 4 (.slice AP st.1.length cP) st.1.length (st.1.flatMap prC) ∧ w.ownsRow 0 132 1 (.slice AL st.1.length cL) st.1.length lv ∧
 lv.length = st.1.length ∧ (∀ (i : Nat) (l : List Loc), st.2[i]? = some l → ∃ A c, lv[i]? = some (.slice A l.length c) ∧ w.ownsRow 0 202 4 (.slice A l.length c) l.length (l.flatMap lcC)) ∧ InvI st
section
variable {w w' : World} {t : Nat} {S T : List Nat} {st : StI}
theorem IfD.inv (h : IfD w t S st) : InvI st := by
 obtain ⟨AP, AL, cP, cL, lv, h1, h2, h3, h4, h5, h6, h7, h8⟩ := h
 exact h8
theorem IfD.lt (h : IfD w t S st) : ∀ s ∈ S, s < w.heap.size := by
 obtain ⟨AP, AL, cP, cL, lv, rfl, h2, h3, h4, h5, h6, h7, h8⟩ := h
 intro s hs
 rcases List.mem_cons.1 hs with h | h
 ·subst h; exact h3.lt
 rcases List.mem_append.1 h with h | h
 ·exact own_lts h4 s h
 rcases List.mem_append.1 h with h | h
 ·exact own_lts h5 s h
 obtain ⟨v, hv, hs⟩ := List.mem_flatMap.1 h
 obtain ⟨i, hi⟩ := List.mem_iff_getElem?.1 hv
 have hil := (List.getElem?_eq_some_iff.1 hi).1
 obtain ⟨A, c, e, ho⟩ := h7 i _ (List.getElem?_eq_getElem (by rw [← h8.len]; omega))
 rw [hi] at e
 injection e with e
 subst e
 exact own_lts ho s hs
theorem IfD.tch (h : IfD w t S st) (ht : Tch w w' T) (hn : ∀ s ∈ S, s ∉ T) : IfD w' t S st := by
 obtain ⟨AP, AL, cP, cL, lv, rfl, h2, h3, h4, h5, h6, h7, h8⟩ := h
 refine ⟨AP, AL, cP, cL, lv, rfl, h2, ht.blk h3 (hn t (by simp)), own_tch h4 ht (fun s hs => hn s (by simp [hs])), own_tch h5 ht (fun s hs => hn s (by simp [hs])), h6, fun i l hl => ?_, h8⟩
 obtain ⟨A, c, e, ho⟩ := h7 i l hl
 refine ⟨A, c, e, own_tch ho ht (fun s hs => hn s ?_)⟩
 have : s ∈ lv.flatMap obI := List.mem_flatMap.2 ⟨_, List.mem_of_getElem? e, hs⟩
 simp only [List.mem_cons, List.mem_append]
 exact .inr (.inr (.inr this))
end
theorem IfD.few {w : World} {t : Nat} {S : List Nat} {st : StI} (h : IfD w t S st) : st.1.length ≤ 8 := h.inv.few
theorem there_any (t : Nat) (S : List Nat) (st : StI) (port : Int) (w : World) (h : IfD w t S st) :
  Calls Tryz.prog 99 #[.pointer (some ⟨t, 0, none⟩), .int .i64 port] w fun e w' => e = .returned (.bool (thereI st port)) ∧ w = w' := by
 have hf := h.few
 obtain ⟨AP, AL, cP, cL, lv, h1, h2, h3, h4, h5, h6, h7, h8⟩ := h
 have c0 := (h3.cell 0).trans (show _ = some (Value.slice AP st.1.length cP) by rfl)
 have hT : Hid (thereI st port = decide (1 ≤ port ∧ port ≤ (st.1.length : Int))) := lH rfl
 obtain ⟨n, hn⟩ : ∃ n, st.1.length = n := ⟨_, rfl⟩
 rw [hn] at c0 hT hf
 clear h1 h2 h3 h4 h5 h6 h7 h8 hn
 by_cases p1 : 1 ≤ port
 ·by_cases p2 : port ≤ (n : Int)
  ·have HR : Hid (thereI st port = true) := lH (by rw [hT.out]; exact decide_eq_true ⟨p1, p2⟩)
   go_enter Tryz.func99, Tryz.ntmps99
   go_wp2
   go_ret
   exact ⟨by rw [HR.out]; rfl, rfl⟩
  ·have HR : Hid (thereI st port = false) := lH (by rw [hT.out]; exact decide_eq_false (fun x => p2 x.2))
   go_enter Tryz.func99, Tryz.ntmps99
   go_wp2
   go_ret
   exact ⟨by rw [HR.out]; rfl, rfl⟩
 ·have HR : Hid (thereI st port = false) := lH (by rw [hT.out]; exact decide_eq_false (fun x => p1 x.1))
  go_enter Tryz.func99, Tryz.ntmps99
  go_wp2
  go_ret
  exact ⟨by rw [HR.out]; rfl, rfl⟩
theorem flat4_modify {P : List Prt} {i : Nat} {p : Prt} (hp : P[i]? = some p) (up : Bool) : (P.modify i fun p => (p.1, p.2.1, p.2.2.1, up)).flatMap prC = (P.flatMap prC).set (i * 4 + 3) (.bool up) := by
 induction P generalizing i with
 | nil => simp at hp
 | cons y r ih =>
  cases i with
  | zero =>
   simp at hp; subst hp
   rw [List.modify_zero_cons, List.flatMap_cons, List.flatMap_cons]
   simp [prC]
  | succ i =>
   rw [List.modify_succ_cons, List.flatMap_cons, List.flatMap_cons, ih (by simpa using hp), show (i + 1) * 4 + 3 = (prC y).length + (i * 4 + 3) by simp [prC]; omega, List.set_append_right _ _ (by omega)]
   congr 1
   rw [Nat.add_sub_cancel_left]
theorem turnD (t : Nat) (S : List Nat) (st : StI) (port : Int) (up : Bool) (w : World) (h : IfD w t S st) :
  Calls Tryz.prog 90 #[.pointer (some ⟨t, 0, none⟩), .int .i64 port, .bool up] w fun e w' => e = .returned (.int .i64 (turnI st port up).2) ∧ IfD w' t S (turnI st port up).1 ∧ Tch w w' S := by
 have HTh := lH (there_any t S st port w h)
 have HI2 := h.inv.turn port up
 cases hth : thereI st port with
 | false =>
  rw [hth] at HTh
  have e1 : turnI st port up = (st, 132) := by unfold turnI; rw [hth]; rfl
  rw [e1]
  have HH := lH h
  clear h HI2 e1 hth
  go_enter Tryz.func90, Tryz.ntmps90
  go_wp2_with fail
  refine cZm HTh.out ?_
  rintro e w' ⟨rfl, rfl⟩
  go_wp2
  go_ret
  exact ⟨rfl, HH.out, Tch.refl _ _⟩
 | true =>
  rw [hth] at HTh
  obtain ⟨p, l, hp, -, -, -, hlt, hpe⟩ := locI_at h.inv hth
  have hf := h.few
  have e1 : turnI st port up = ((st.1.modify (idxI port) fun p => (p.1, p.2.1, p.2.2.1, up), st.2), 0) := by unfold turnI; rw [hth]; rfl
  rw [e1] at HI2 ⊢
  obtain ⟨AP, AL, cP, cL, lv, rfl, h2, h3, h4, h5, h6, h7, h8⟩ := h
  obtain ⟨gP, rfl⟩ := slice_some h4 (by omega)
  obtain ⟨i, hi⟩ : ∃ i, idxI port = i := ⟨_, rfl⟩
  rw [hi] at hp hlt hpe HI2 ⊢
  have c0 := (h3.cell 0).trans (show _ = some (Value.slice (some ⟨gP, 0, none⟩) st.1.length cP) by rfl)
  have hat := flat4_at (f := prC) (fun _ => rfl) hp (k := 3) (by decide)
  have c3 := own_cellN h4 hat
  have o3 : w.frozen? ⟨gP, i * 4 + 3, none⟩ = false := by
   rcases h4.2 with ⟨e, -⟩ | ⟨g', cap, cur, e, -, hb, -⟩
   ·cases e
   ·injection e with e2
    injection e2 with e2
    injection e2 with e2
    subst e2
    exact Blk.frozen hb _
  have hset := own_setN h4 (i := i * 4 + 3) (by omega) (.bool up)
  rw [← flat4_modify hp up] at hset
  have hm : (st.1.modify i fun p => (p.1, p.2.1, p.2.2.1, up)).length = st.1.length := by simp
  have hT : Tch w (w.setCell ⟨gP, i * 4 + 3, none⟩ (.bool up)) [gP] := (Tch.refl w [gP]).set_ (p := ⟨gP, i * 4 + 3, none⟩) (by simp) _
  have hnd := h2
  rw [List.nodup_cons] at hnd
  have ob0 : obI (.slice (some ⟨gP, 0, none⟩) st.1.length cP) = [gP] := rfl
  rw [ob0, List.singleton_append, List.nodup_cons] at hnd
  have hne1 : t ≠ gP := fun e => hnd.1 (by simp [e])
  have hrest : ∀ s ∈ obI (.slice AL st.1.length cL) ++ lv.flatMap obI, s ∉ [gP] := fun s hs hm => hnd.2.1 (by rw [List.mem_singleton.1 hm] at hs; exact hs)
  have HN := lH (show IfD (w.setCell ⟨gP, i * 4 + 3, none⟩ (.bool up)) t (t :: (obI (.slice (some ⟨gP, 0, none⟩) st.1.length cP) ++ (obI (.slice AL st.1.length cL) ++ lv.flatMap obI))) (st.1.modify i fun p => (p.1, p.2.1, p.2.2.1, up), st.2) from by
   refine ⟨some ⟨gP, 0, none⟩, AL, cP, cL, lv, ?_, h2, ?_, ?_, ?_, ?_, fun j m hj => ?_, HI2⟩
   ·simp only [hm]
   ·simp only [hm]; exact hT.blk h3 (nin1 hne1)
   ·simp only [hm]; exact hset
   ·simp only [hm]; exact own_tch h5 hT (fun s hs => hrest s (by simp [hs]))
   ·simp only [hm]; exact h6
   ·obtain ⟨A, c, e, ho⟩ := h7 j m hj
    refine ⟨A, c, e, own_tch ho hT (fun s hs => hrest s ?_)⟩
    exact List.mem_append_right _ (List.mem_flatMap.2 ⟨_, List.mem_of_getElem? e, hs⟩))
  have HTc := lH (hT.mono (T := t :: (obI (.slice (some ⟨gP, 0, none⟩) st.1.length cP) ++ (obI (.slice AL st.1.length cL) ++ lv.flatMap obI))) (by rw [ob0]; simp))
  obtain ⟨n, hn⟩ : ∃ n, st.1.length = n := ⟨_, rfl⟩
  rw [hn] at c0 hlt hf
  have j1 : IntKind.i64.wrap (port - 1) = (i : Int) := by rw [IntKind.wrap_i64]; omega
  have i0 : (0 : Int) ≤ (i : Int) := by omega
  have i1 : (i : Int) < (n : Int) := by omega
  obtain ⟨old, hold⟩ : ∃ v, (prC p)[3]? = some v := ⟨_, rfl⟩
  rw [hold] at hat
  have c3 : w.cell? ⟨gP, i * 4 + 3, none⟩ = some old := by rw [c3]; exact hold
  clear h2 h3 h4 h5 h6 h7 h8 hat hset hm hT hnd ob0 hne1 hrest hn hold hp hi e1 hth hpe HI2
  go_enter Tryz.func90, Tryz.ntmps90
  go_wp2_with fail
  refine cZm HTh.out ?_
  rintro e w' ⟨rfl, rfl⟩
  go_wp2
  go_ret
  exact ⟨rfl, HN.out, HTc.out⟩
end Go.Proofs.YtgfkmgbcajdcdaaGreatDoor.Ifs
