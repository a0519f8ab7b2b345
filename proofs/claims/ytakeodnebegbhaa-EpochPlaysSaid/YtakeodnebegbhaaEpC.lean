/-
  The document's own epoch (layer 13): Publish, Leave, Waiting; two rows compared.
-/
import Derived.Test.YtakeodnebegbhaaEpB
namespace Go.Proofs.Ytakeodnebegbhaa
open Go.RowKit
set_option linter.unusedVariables false

/-- Between Publish's two rows. -/
def MidD (w : World) (d gA gG gI : Nat) (v : Int) (all : List Int) (lo : Nat) (ins : List Int) (cG : Nat) : Prop := ∃ cA cI,
  Blk w d 59 #[.slice (some ⟨gA, 0, none⟩) (all.length + 1) cA, .slice (some ⟨gG, 0, none⟩) all.length cG, .slice (some ⟨gI, 0, none⟩) ins.length cI] ∧
  w.ownsRow 0 3 1 (.slice (some ⟨gA, 0, none⟩) (all.length + 1) cA) (all.length + 1) (ints (all ++ [v])) ∧ w.ownsRow 0 4 1 (.slice (some ⟨gG, 0, none⟩) all.length cG) all.length (gvE all.length lo) ∧
  w.ownsRow 0 3 1 (.slice (some ⟨gI, 0, none⟩) ins.length cI) ins.length (ints ins) ∧ (d ≠ gA ∧ d ≠ gG ∧ d ≠ gI ∧ gA ≠ gG ∧ gA ≠ gI ∧ gG ≠ gI) ∧ InvE all ins
theorem pub_st1 {w w1 : World} {d gA gG gI lo cA cG cI : Nat} {all ins : List Int} {v : Int} {v1 : Value} {L : Nat} (hL : all.length = L)
    (k1 : Blk w d 59 #[.slice (some ⟨gA, 0, none⟩) L cA, .slice (some ⟨gG, 0, none⟩) L cG, .slice (some ⟨gI, 0, none⟩) ins.length cI])
    (k2 : w.ownsRow 0 3 1 (.slice (some ⟨gA, 0, none⟩) L cA) L (ints all)) (k3 : w.ownsRow 0 4 1 (.slice (some ⟨gG, 0, none⟩) L cG) L (gvE L lo))
    (k4 : w.ownsRow 0 3 1 (.slice (some ⟨gI, 0, none⟩) ins.length cI) ins.length (ints ins)) (k5 : d ≠ gA ∧ d ≠ gG ∧ d ≠ gI ∧ gA ≠ gG ∧ gA ≠ gI ∧ gG ≠ gI) (k6 : InvE all ins)
    (hown : w1.ownsRow 0 3 1 v1 (L + 1) (ints all ++ [.int .i64 v])) (hg : (w.alloc (.cells #[.int .i64 v] 3)).grownBy w1 (Value.slice (some ⟨gA, 0, none⟩) L cA).ownBlock)
    (hv : v1.ownBlock = (Value.slice (some ⟨gA, 0, none⟩) L cA).ownBlock ∨ v1.ownBlock = some (w.alloc (.cells #[.int .i64 v] 3)).heap.size) :
    ∃ g1 c1, v1 = .slice (some ⟨g1, 0, none⟩) (L + 1) c1 ∧ MidD (w1.setCell ⟨d, 0, none⟩ (.slice (some ⟨g1, 0, none⟩) (L + 1) c1)) d g1 gG gI v all lo ins cG ∧
      Tch w (w1.setCell ⟨d, 0, none⟩ (.slice (some ⟨g1, 0, none⟩) (L + 1) c1)) [d, gA] ∧ (g1 = gA ∨ w.heap.size ≤ g1) ∧ w1.frozen? ⟨d, 0, none⟩ = false ∧ ∃ u, w1.cell? ⟨d, 0, none⟩ = some u := by
  subst hL
  obtain ⟨g1, c1, rfl, h1, h2, h3⟩ := app_res hown hg hv
  rw [World.size_alloc] at h1
  have l0 := k1.lt
  have l2 : gG < w.heap.size := own_lt k3 rfl
  have l3 : gI < w.heap.size := own_lt k4 rfl
  have hT : Tch w w1 [gA] := ((Tch.refl w [gA]).alloc _).trans h3
  have hB := hT.blk k1 (nin1 k5.1)
  have hd : g1 ≠ d ∧ g1 ≠ gG ∧ g1 ≠ gI := by rcases h1 with h | h <;> omega
  refine ⟨g1, c1, rfl, ⟨c1, cI, hB.set_ 0 _, ?_, ?_, ?_, ⟨hd.1.symm, k5.2.1, k5.2.2.1, hd.2.1, hd.2.2, k5.2.2.2.2.2⟩, k6⟩, ((hT.mono (by simp)).set_ (p := ⟨d, 0, none⟩) (by simp) _), by omega, hB.frozen 0, _, hB.cell 0⟩
  · rw [ints_app]
    exact ((Tch.refl w1 [d]).set_ (p := ⟨d, 0, none⟩) (by simp) _).own hown (nown (w := w) (nin1 hd.1))
  · exact ((Tch.refl w1 [d]).set_ (p := ⟨d, 0, none⟩) (by simp) _).own (hT.own k3 (nown (w := w) (nin1 k5.2.2.2.1.symm))) (nown (w := w) (nin1 k5.2.1.symm))
  · exact ((Tch.refl w1 [d]).set_ (p := ⟨d, 0, none⟩) (by simp) _).own (hT.own k4 (nown (w := w) (nin1 k5.2.2.2.2.1.symm))) (nown (w := w) (nin1 k5.2.2.1.symm))
theorem MidD.row2 {w : World} {d gA gG gI lo cG : Nat} {all ins : List Int} {v : Int} {L : Nat} (hL : all.length = L) (h : MidD w d gA gG gI v all lo ins cG) :
    (w.alloc (.cells #[.bool false] 4)).ownsRow 0 4 1 (.slice (some ⟨gG, 0, none⟩) L cG) L (gvE L lo) := by
  subst hL
  obtain ⟨cA, cI, k1, k2, k3, k4, k5, k6⟩ := h
  exact k3.alloc _
theorem MidD.cell1 {w : World} {d gA gG gI lo cG : Nat} {all ins : List Int} {v : Int} {L : Nat} (hL : all.length = L) (h : MidD w d gA gG gI v all lo ins cG) :
    w.cell? ⟨d, 1, none⟩ = some (.slice (some ⟨gG, 0, none⟩) L cG) := by
  subst hL
  obtain ⟨cA, cI, k1, k2, k3, k4, k5, k6⟩ := h
  exact (k1.cell 1).trans rfl
theorem pub_st2 {w w1 : World} {d gA gG gI lo cG : Nat} {all ins : List Int} {v : Int} {v1 : Value} {L : Nat} (hL : all.length = L) (h : MidD w d gA gG gI v all lo ins cG) (hlo : lo ≤ L)
    (hown : w1.ownsRow 0 4 1 v1 (L + 1) (gvE L lo ++ [.bool false])) (hg : (w.alloc (.cells #[.bool false] 4)).grownBy w1 (Value.slice (some ⟨gG, 0, none⟩) L cG).ownBlock)
    (hv : v1.ownBlock = (Value.slice (some ⟨gG, 0, none⟩) L cG).ownBlock ∨ v1.ownBlock = some (w.alloc (.cells #[.bool false] 4)).heap.size) :
    ∃ g1 c1, v1 = .slice (some ⟨g1, 0, none⟩) (L + 1) c1 ∧ EpD0 (w1.setCell ⟨d, 1, none⟩ (.slice (some ⟨g1, 0, none⟩) (L + 1) c1)) d gA g1 gI (all ++ [v]) lo ins ∧
      Tch w (w1.setCell ⟨d, 1, none⟩ (.slice (some ⟨g1, 0, none⟩) (L + 1) c1)) [d, gG] ∧ (g1 = gG ∨ w.heap.size ≤ g1) ∧ w1.frozen? ⟨d, 1, none⟩ = false ∧ ∃ u, w1.cell? ⟨d, 1, none⟩ = some u := by
  subst hL
  obtain ⟨cA, cI, k1, k2, k3, k4, k5, k6⟩ := h
  obtain ⟨g1, c1, rfl, h1, h2, h3⟩ := app_res hown hg hv
  rw [World.size_alloc] at h1
  have l0 := k1.lt
  have l2 : gA < w.heap.size := own_lt k2 rfl
  have l3 : gI < w.heap.size := own_lt k4 rfl
  have hT : Tch w w1 [gG] := ((Tch.refl w [gG]).alloc _).trans h3
  have hB := hT.blk k1 (nin1 k5.2.1)
  have hd : g1 ≠ d ∧ g1 ≠ gA ∧ g1 ≠ gI := by rcases h1 with h | h <;> omega
  have hl : (all ++ [v]).length = all.length + 1 := by simp
  refine ⟨g1, c1, rfl, ⟨cA, c1, cI, ?_, ?_, ?_, ?_, ⟨k5.1, hd.1.symm, k5.2.2.1, hd.2.1.symm, k5.2.2.2.2.1, hd.2.2⟩, k6.pub v⟩, ((hT.mono (by simp)).set_ (p := ⟨d, 1, none⟩) (by simp) _), by omega, hB.frozen 1, _, hB.cell 1⟩
  · rw [hl]; exact hB.set_ 1 _
  · rw [hl]
    exact ((Tch.refl w1 [d]).set_ (p := ⟨d, 1, none⟩) (by simp) _).own (hT.own k2 (nown (w := w) (nin1 k5.2.2.2.1))) (nown (w := w) (nin1 k5.1.symm))
  · rw [hl, gvE_snoc hlo]
    exact ((Tch.refl w1 [d]).set_ (p := ⟨d, 1, none⟩) (by simp) _).own hown (nown (w := w) (nin1 hd.1))
  · exact ((Tch.refl w1 [d]).set_ (p := ⟨d, 1, none⟩) (by simp) _).own (hT.own k4 (nown (w := w) (nin1 k5.2.2.2.2.2.symm))) (nown (w := w) (nin1 k5.2.2.1.symm))
set_option maxRecDepth 100000 in
set_option maxHeartbeats 4000000 in
theorem rpub_any (d gA gG gI : Nat) (all : List Int) (lo : Nat) (ins : List Int) (v : Int) (hl : all.length ≤ 90000) (hlo : lo = lowE all ins) (w : World) (h : EpD0 w d gA gG gI all lo ins) :
    Calls Try.prog 12 #[.pointer (some ⟨d, 0, none⟩), .int .i64 v] w fun e w' => ∃ A c gA' gG' B, e = .returned (.slice A (pubV all ins v).length c) ∧
      w'.ownsRow B 3 1 (.slice A (pubV all ins v).length c) (pubV all ins v).length (ints (pubV all ins v)) ∧ EpD0 w' d gA' gG' gI (all ++ [v]) (lowE (all ++ [v]) ins) ins ∧ Tch w w' [d, gA, gG] ∧
      (gA' = gA ∨ w.heap.size ≤ gA') ∧ (gG' = gG ∨ w.heap.size ≤ gG') ∧ w.heap.size ≤ B ∧ d < B ∧ gA' < B ∧ gG' < B ∧ gI < B := by
  have HLO := Lib.hid hlo
  have HPv : Hid (∀ g1 g2 (W : World), EpD0 W d g1 g2 gI (all ++ [v]) lo ins → Calls Try.prog 28 #[.pointer (some ⟨d, 0, none⟩)] W _) :=
    Lib.hid (fun g1 g2 W hW => rback_any d g1 g2 gI (all ++ [v]) lo ins (by simp; omega) (by rw [hlo]; exact lowE_pub all ins v) W hW)
  have HLa : Hid (lo ≤ all.length) := Lib.hid (by rw [hlo]; have := lowE_le all ins; omega)
  obtain ⟨cA, cG, cI, k1, k2, k3, k4, k5, k6⟩ := h
  have c0 := (k1.cell 0).trans (show _ = some (Value.slice (some ⟨gA, 0, none⟩) all.length cA) by rfl)
  have HSz : Hid (all.length ≤ 1000000) := Lib.hid (by omega)
  have HK5 := Lib.hid k5
  have HK6 := Lib.hid k6
  obtain ⟨L, hL⟩ : ∃ L, all.length = L := ⟨_, rfl⟩
  rw [hL] at k1 k2 k3 c0 HSz
  have HK1 := Lib.hid k1
  have HK2 := Lib.hid k2
  have HK3 := Lib.hid k3
  have HK4 := Lib.hid k4
  have HO1 : Hid ((w.alloc (.cells #[.int .i64 v] 3)).ownsRow 0 3 1 (.slice (some ⟨gA, 0, none⟩) L cA) L (ints all)) := Lib.hid (k2.alloc _)
  have HS1 := Lib.hid (src_new w 3 [.int .i64 v])
  have HL := Lib.hid hL
  clear k1 k2 k3 k4 k5 k6 hL hl hlo
  go_enter Try.func12, Try.ntmps12
  go_wp2_with (first
    | (at_builtin; (refine wpList_apc 33 3 (.int .i64 0) 1 8 Try.underlying33 infoInt rfl (by decide) (by decide) _ rfl (.tmp 9) (.tmp 11) rfl 0 (.slice (some ⟨gA, 0, none⟩) L cA) L (ints all) rfl HO1.out ⟨w.heap.size, 0, none⟩ 1 [.int .i64 v] rfl rfl (fun j u hj => HS1.out j u hj) (by simp [Value.oneCell']) HSz.out (Nat.zero_le _) ?_; intro v1 w1 hown1 hg1 hv1; obtain ⟨g1, c1', e1, hM1, hT1, hn1, hz1, u1, hu1⟩ := pub_st1 HL.out HK1.out HK2.out HK3.out HK4.out HK5.out HK6.out hown1 hg1 hv1; subst e1; have HM1 := Lib.hid hM1; have HT1 := Lib.hid hT1; have HN1 := Lib.hid hn1; have HO2 := Lib.hid (MidD.row2 HL.out hM1); have f1 := MidD.cell1 HL.out hM1; have HS2 := Lib.hid (by have h0 := src_new (w1.setCell ⟨d, 0, none⟩ (.slice (some ⟨g1, 0, none⟩) (L + 1) c1')) 4 [.bool false]; rw [World.size_setCell] at h0; exact h0); clear hown1 hg1 hv1 hM1 hT1 hn1))
    | (at_builtin; (refine wpList_apc 57 4 (.bool false) 1 1 Try.underlying57 infoBool rfl (by decide) (by decide) _ rfl (.tmp 19) (.tmp 20) rfl 0 (.slice (some ⟨gG, 0, none⟩) L cG) L (gvE L lo) rfl HO2.out ⟨w1.heap.size, 0, none⟩ 1 [.bool false] rfl rfl (fun j u hj => HS2.out j u hj) (by simp [Value.oneCell']) HSz.out (Nat.zero_le _) ?_; intro v2 w2 hown2 hg2 hv2; obtain ⟨g2, c2', e2, hD2, hT2, hn2, hz2, u2, hu2⟩ := pub_st2 HL.out HM1.out (by have := HLa.out; have := HL.out; omega) hown2 hg2 hv2; subst e2; have HD2 := Lib.hid hD2; have HLt := Lib.hid hD2.lt; have HT2 := Lib.hid hT2; have HN2 := Lib.hid hn2; have HB := Lib.hid (HPv.out _ _ _ hD2); clear hown2 hg2 hv2 hD2 hT2 hn2))
    | (go_at_call 28; refine Calls.mono HB.out ?_; rintro e w3 ⟨A, c, rfl, hO3, hD3, hT3⟩; have HO3 := Lib.hid hO3; have HD3 := Lib.hid hD3; have HT3 := Lib.hid hT3; clear hO3 hD3 hT3))
  go_ret
  have h1 := HT1.out
  have h2 := HT2.out
  have h3 := HT3.out
  have n2 := HN2.out
  have hs1 := h1.size
  have hT : Tch w w3 [d, gA, gG] := ((h1.mono (T := [d, gA, gG]) (by simp)).trans_fre h2 (by simp)).trans_fre h3 (by simp; omega)
  refine ⟨A, c, g1, g2, _, by rw [pubV, ← HLO.out]; rfl, ?_, HD3.out, hT, HN1.out, by omega, Nat.le_trans hs1 h2.size, HLt.out⟩
  rw [pubV, ← HLO.out]
  exact HO3.out
set_option maxRecDepth 100000 in
set_option maxHeartbeats 2000000 in
theorem rlev_ok (d gA gG gI : Nat) (all : List Int) (lo : Nat) (ins : List Int) (hl : all.length ≤ 90000) (hlo : lo = lowE all ins) (r : Int) (i x : Nat) (hri : r = (i : Int) + 1) (hi : ins[i]? = some (x : Int)) (w : World) (h : EpD0 w d gA gG gI all lo ins) :
    Calls Try.prog 17 #[.pointer (some ⟨d, 0, none⟩), .int .i64 r] w fun e w' => ∃ A c, e = .returned (.tuple #[.slice A (bkE all lo (lowE all (ins.set i (-1)))).length c, .int .i64 0]) ∧
      w'.ownsRow w.heap.size 3 1 (.slice A (bkE all lo (lowE all (ins.set i (-1)))).length c) (bkE all lo (lowE all (ins.set i (-1)))).length (ints (bkE all lo (lowE all (ins.set i (-1))))) ∧ EpD0 w' d gA gG gI all (lowE all (ins.set i (-1))) (ins.set i (-1)) ∧ Tch w w' [gI, gG] := by
  have hil := (List.getElem?_eq_some_iff.1 hi).1
  have HB := Lib.hid (rback_any d gA gG gI all lo (ins.set i (-1)) (by omega) (by rw [hlo]; exact loE_out _ _ _) _ (h.set_in (i := i) (y := -1) hil (by omega)))
  obtain ⟨cA, cG, cI, k1, k2, k3, k4, k5, k6⟩ := h
  have c2 := (k1.cell 2).trans (show _ = some (Value.slice (some ⟨gI, 0, none⟩) ins.length cI) by rfl)
  have c3 := own_cell k4 (ints_at hi)
  have o3 := own_frozen k4 i
  have hf := k6.few.2
  obtain ⟨R, hR⟩ : ∃ R, ins.length = R := ⟨_, rfl⟩
  rw [hR] at c2 hil hf
  have r1 : ¬ r < 1 := by omega
  have r2 : ¬ (R : Int) < r := by omega
  have r3 : ¬ (x : Int) < 0 := by omega
  have j1 : IntKind.i64.wrap (r - 1) = (i : Int) := by rw [IntKind.wrap_i64]; omega
  have i0 : (0 : Int) ≤ (i : Int) := by omega
  have i1 : (i : Int) < (R : Int) := by omega
  clear k1 k2 k3 k4 k5 k6 hR hil hf hi hl hri hlo
  go_enter Try.func17, Try.ntmps17
  go_wp2_with (go_at_call 28; refine Calls.mono HB.out ?_; rintro e w3 ⟨A, c, rfl, hO3, hD3, hT3⟩; have HO3 := Lib.hid hO3; have HD3 := Lib.hid hD3; have HT3 := Lib.hid hT3; clear hO3 hD3 hT3)
  refine bodyPost_ret (v := .tuple #[.slice A (bkE all lo (lowE all (ins.set i (-1)))).length c, .int .i64 0]) (by simp [results, Try.results17, go_sem]) rfl ⟨A, c, rfl, ?_, HD3.out, ?_⟩
  · have := HO3.out
    rwa [World.size_setCell] at this
  · exact ((Tch.refl w [gI, gG]).set_ (p := ⟨gI, i, none⟩) (by simp) _).trans (HT3.out.mono (by simp))
set_option maxRecDepth 100000 in
set_option maxHeartbeats 4000000 in
theorem rwait_any (d gA gG gI : Nat) (all : List Int) (lo : Nat) (ins : List Int) (hl : all.length ≤ 90000) (hlo : lo ≤ all.length - 1) (w : World) (h : EpD0 w d gA gG gI all lo ins) :
    Calls Try.prog 21 #[.pointer (some ⟨d, 0, none⟩)] w fun e w' => ∃ A c, e = .returned (.slice A (bkE all lo (all.length - 1)).length c) ∧
      w'.ownsRow w.heap.size 3 1 (.slice A (bkE all lo (all.length - 1)).length c) (bkE all lo (all.length - 1)).length (ints (bkE all lo (all.length - 1))) ∧ Tch w w' [] := by
  have hone := h.inv.one
  have HLt := Lib.hid h.lt
  have HD0 := Lib.hid h
  have HB : Hid ((bkE all lo (all.length - 1)).length = all.length - 1 - lo) := Lib.hid (bkE_len (by omega))
  obtain ⟨L, hL⟩ : ∃ L, all.length = L := ⟨_, rfl⟩
  have HLL := Lib.hid hL
  rw [hL] at HB hone hl hlo ⊢
  clear h hL
  go_enter Try.func21, Try.ntmps21
  go_wp2
  go_loopw [3, 4] (fun ov nv wr => ∃ (n : Nat) (A : Option Addr) (c : Nat), ov = .slice A (max lo n - lo) c ∧ nv = .int .i64 (n : Int) ∧ n + 1 ≤ L ∧ Hid (wr.ownsRow w.heap.size 3 1 (.slice A (max lo n - lo) c) (max lo n - lo) (ints (bkE all lo (max lo n)))) ∧
    Hid (∃ S, Tch w wr S ∧ ∀ s ∈ S, w.heap.size ≤ s)) (fun _ nv _ => L - (intOf nv).toNat)
  case atStart => exact ⟨0, none, 0, by simp, rfl, hone, Lib.hid (by simp [bkE]; exact ⟨rfl, .inl ⟨rfl, rfl⟩⟩), Lib.hid ⟨[], Tch.refl _ _, by simp⟩⟩
  case round =>
    obtain ⟨n, A, c, rfl, rfl, hn, hO, hT⟩ := hrel
    have hL4 := HLt.out
    obtain ⟨cA, cG, cI, k1, k2, k3, k4, k5, k6⟩ := HD0.out.tch_own hT.out hL4.1 hL4.2.1 hL4.2.2.1 hL4.2.2.2
    have c0 := (k1.cell 0).trans (show _ = some (Value.slice (some ⟨gA, 0, none⟩) all.length cA) by rfl)
    have c1 := (k1.cell 1).trans (show _ = some (Value.slice (some ⟨gG, 0, none⟩) all.length cG) by rfl)
    rw [HLL.out] at c0 c1
    have j1 : IntKind.i64.wrap ((n : Int) + 1) = (n : Int) + 1 := by rw [IntKind.wrap_i64]; omega
    by_cases hlt : n + 1 < L
    · have i1 : (n : Int) + 1 < (L : Int) := by omega
      have n0 : (0 : Int) ≤ (n : Int) := by omega
      have n1 : (n : Int) < (L : Int) := by omega
      have g3 := own_cell k3 (gvE_at (n := all.length) (lo := lo) (k := n) (by have := HLL.out; omega))
      by_cases hln : n < lo
      · rw [decide_eq_true hln] at g3
        have HQ : Hid (max lo (n + 1) = max lo n) := Lib.hid (by omega)
        clear k1 k2 k3 k4 k5 k6 hln hL4
        go_wp2
        go_roundw
        case rel => exact ⟨n + 1, A, c, by rw [HQ.out], by go_num, by omega, by rw [HQ.out]; exact hO, hT⟩
        case measure => simp [intOf]; omega
      · rw [decide_eq_false hln] at g3
        obtain ⟨z, hz⟩ : ∃ z, all[n]? = some z := ⟨_, List.getElem?_eq_getElem (by have := HLL.out; omega)⟩
        have a3 := own_cell k2 (ints_at hz)
        obtain ⟨K, hK⟩ : ∃ K, max lo n - lo = K := ⟨_, rfl⟩
        have HSz : Hid (K ≤ 1000000) := Lib.hid (by omega)
        have HSn : Hid (bkE all lo (n + 1) = bkE all lo (max lo n) ++ [z]) := Lib.hid (by rw [show max lo n = n by omega]; exact bkE_snoc (by omega) hz)
        have HQ : Hid (max lo (n + 1) = n + 1 ∧ n + 1 - lo = K + 1) := Lib.hid (by omega)
        rw [hK] at hO ⊢
        have HO2 : Hid ((wr.alloc (.cells #[.int .i64 z] 3)).ownsRow w.heap.size 3 1 (.slice A K c) K (ints (bkE all lo (max lo n)))) := Lib.hid (hO.out.alloc _)
        have HSrc := Lib.hid (src_new wr 3 [.int .i64 z])
        have HSiz : Hid (w.heap.size ≤ (wr.alloc (.cells #[.int .i64 z] 3)).heap.size) := Lib.hid (by obtain ⟨S, hS, -⟩ := hT.out; have := hS.size; simp; omega)
        clear k1 k2 k3 k4 k5 k6 hln hz hK hL4
        go_wp2_with (at_builtin; refine wpList_apc 33 3 (.int .i64 0) 1 8 Try.underlying33 infoInt rfl (by decide) (by decide) _ rfl (.tmp 23) (.tmp 31) rfl w.heap.size (.slice A K c) K (ints (bkE all lo (max lo n))) rfl HO2.out ⟨wr.heap.size, 0, none⟩ 1 [.int .i64 z] rfl rfl (fun j u hj => HSrc.out j u hj) (by simp [Value.oneCell']) HSz.out HSiz.out ?_; intro v1 w5 hown1 hg1 hv1; obtain ⟨A1, c1', e1, -, -⟩ := own_sl hown1; subst e1; have HO5 := Lib.hid hown1; have HG5 := Lib.hid hg1; clear hown1 hg1 hv1)
        go_roundw
        case rel =>
          have hTn := tch_app (S0 := w.heap.size) HG5.out HO2.out
          refine ⟨n + 1, A1, c1', by rw [HQ.out.1, HQ.out.2], by go_num, by omega, by rw [HQ.out.1, HQ.out.2, HSn.out, ints_app]; exact HO5, Lib.hid ?_⟩
          obtain ⟨S, hS, hs⟩ := hT.out
          obtain ⟨T, hT', ht⟩ := hTn
          exact ⟨S ++ T, (hS.mono (T := S ++ T) (fun s h => by simp [h])).trans (hT'.mono (fun s h => by simp [h])), fun s h => by rcases List.mem_append.1 h with h | h; exact hs s h; exact ht s h⟩
        case measure => simp [intOf]; omega
    · have hne : n = L - 1 := by omega
      have i1 : ¬ (n : Int) + 1 < (L : Int) := by omega
      have hq : max lo n = L - 1 := by omega
      rw [hq] at hO ⊢
      clear k1 k2 k3 k4 k5 k6 hq hL4
      go_wp2
      go_ret
      exact ⟨A, c, by rw [HB.out]; rfl, by rw [HB.out]; exact hO.out, (Tch.refl w []).trans_own hT.out⟩
end Go.Proofs.Ytakeodnebegbhaa
