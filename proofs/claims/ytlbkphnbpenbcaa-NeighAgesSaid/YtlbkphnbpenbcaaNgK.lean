/-
  The program's own cache of neighbours (layer 19): slices.SortedFunc, keys.
-/
import Derived.Test.YtlbkphnbpenbcaaNgJ
import Derived.Test.YtlbkphnbpenbcaaNgH
namespace Go.Proofs.Ytlbkphnbpenbcaa
open Go.RowKit
set_option linter.unusedVariables false

theorem kyt_of {ss : List KyI} (h : ∀ k ∈ ss, vldK k = true) : ∃ l : List KyT, l.map (·.1) = ss := by
  induction ss with
  | nil => exact ⟨[], rfl⟩
  | cons p r ih =>
    obtain ⟨l, hl⟩ := ih fun q hq => h q (List.mem_cons_of_mem _ hq)
    exact ⟨⟨p, h p (by simp)⟩ :: l, by rw [List.map_cons, hl]⟩
theorem flat_vC (l : List KyT) : l.flatMap vC = (l.map (·.1)).flatMap kyC := by rw [List.flatMap_map]; rfl
theorem srt_keys {L : TbI} (h : InvT L) {l : List KyT} (hp : (l.map (·.1)).Perm (L.map Prod.fst)) (hs : l.Pairwise fun x y => ltB y.1 x.1 = false) : l.map (·.1) = L.map Prod.fst := by
  have hv : ∀ k ∈ L.map Prod.fst, vldK k = true := fun k hk => by
    obtain ⟨x, hx, rfl⟩ := List.mem_map.1 hk
    exact h.vld x hx
  refine hp.eq_of_pairwise (le := fun p q => ltB q p = false) (fun a b ha hb h1 h2 => ?_) ?_ ?_
  · rcases ltB_tri (hv a (hp.subset ha)) (hv b hb) with e | e | e
    · rw [e] at h2; cases h2
    · exact e
    · rw [e] at h1; cases h1
  · rw [List.pairwise_map]; exact hs
  · rw [List.pairwise_map]
    refine h.srt.imp_of_mem fun {x y} hx hy hxy => ?_
    cases e : ltB y.1 x.1 with
    | false => rfl
    | true =>
      have := ltB_trans (h.vld x hx) (h.vld y hy) (h.vld x hx) hxy e
      rw [ltB_irr (h.vld x hx)] at this
      cases this
theorem own_up {w : World} {base n sz : Nat} {t : TypeId} {v : Value} {xs : List Value} (h : w.ownsRow 0 t sz v n xs) (hb : ∀ s ∈ obI v, base ≤ s) : w.ownsRow base t sz v n xs := by
  refine ⟨h.1, ?_⟩
  rcases h.2 with e | ⟨g, cap, cur, rfl, h1, h2⟩
  · exact .inl e
  · exact .inr ⟨g, cap, cur, rfl, hb g (by simp [obI, Value.ownBlock]), h2⟩
set_option maxRecDepth 100000 in
set_option maxHeartbeats 2000000 in
/-- slices.SortedFunc of the map's keys. -/
theorem sortedK (Bm m : Nat) (t : Nat) (M : List (KyI × Value)) (S : List Nat) (L : TbI) (w : World) (hr : NgM w t m M S L) (hBm : Bm < w.heap.size) (hm : w.cell? ⟨Bm, 0, none⟩ = some (.map (some m))) :
    Calls Try.prog 48 #[.func (.func 58) #[] #[.pointer (some ⟨Bm, 0, none⟩)], .func (.func 50) #[] #[]] w fun e w' =>
      ∃ A c, e = .returned (.slice A L.length c) ∧ w'.ownsRow w.heap.size 70 4 (.slice A L.length c) L.length ((L.map Prod.fst).flatMap kyC) ∧ Tch w w' [] := by
  have hM : M.length ≤ 64 := by rw [hr.len]; exact hr.inv.len
  have HC := Lib.hid (collectP Bm m M (by omega) w hBm hm hr.mp)
  have HV : Hid (∀ k ∈ M.map Prod.fst, vldK k = true) := Lib.hid (fun k hk => by
    obtain ⟨x, hx, rfl⟩ := List.mem_map.1 (hr.keys.subset hk)
    exact hr.inv.vld x hx)
  have HK := Lib.hid hr.keys
  have HI := Lib.hid hr.inv
  clear hr hBm hm
  go_enter Try.func48, Try.ntmps48
  go_wp2_with fail
  refine Calls.mono HC.out ?_
  rintro e w1 ⟨v, ss, rfl, hp, ho, -, hb⟩
  obtain ⟨l, hl⟩ := kyt_of (fun p hq => HV.out p (hp.subset hq))
  have hln : l.length = ss.length := by rw [← hl, List.length_map]
  obtain ⟨A, c, rfl, -, -⟩ := own_sl ho
  have hsn : ss.length ≤ 64 := by rw [hp.length_eq, List.length_map]; exact hM
  have HG := Lib.hid (fun s hs => (own_geI ho s hs).1)
  rw [← hl, ← flat_vC, List.length_map] at ho
  have HO := Lib.hid (own_mono ho (Nat.zero_le _))
  have HS := Lib.hid (sort_ky A l.length c l rfl (by omega) w1 HO.out)
  have HB := Lib.hid hb
  have HP := Lib.hid (hl ▸ hp)
  rw [hln] at HS
  clear ho hb hp
  go_wp2_with fail
  refine Calls.mono HS.out ?_
  rintro e w2 ⟨rfl, l', hp', hs', ho', hT'⟩
  have hE := srt_keys HI.out (((hp'.map _).trans HP.out).trans HK.out) hs'
  have hn : ss.length = L.length := by rw [← hln, ← hp'.length_eq, ← List.length_map (f := (·.1)), hE, List.length_map]
  have HT := Lib.hid ((Tch.of_below [] HB.out).trans_fre hT' (fun s hs => .inr (HG.out s hs)))
  rw [flat_vC, hE] at ho'
  have HO' := Lib.hid (own_up (base := w.heap.size) ho' HG.out)
  rw [hn] at HO' ⊢
  clear ho' hT' hE hp' hs'
  go_wp2
  go_ret
  exact ⟨A, c, rfl, HO'.out, HT.out⟩
set_option maxRecDepth 100000 in
set_option maxHeartbeats 2000000 in
theorem keysN {w : World} {t : Nat} {S : List Nat} {L : TbI} (h : NgP w t S L) :
    Calls Try.prog 31 #[.pointer (some ⟨t, 0, none⟩)] w fun e w' => ∃ A c, e = .returned (.slice A L.length c) ∧ w'.ownsRow w.heap.size 70 4 (.slice A L.length c) L.length ((L.map Prod.fst).flatMap kyC) ∧ Tch w w' [] := by
  obtain ⟨m, M, hr⟩ := h
  have ht := (hr.bt.cell 0).trans (show _ = some (Value.map (some m)) by rfl)
  have HK := Lib.hid (keysP m w)
  have hT0 : Tch w (w.alloc (.cells #[.map (some m)] 61)) [] := (Tch.refl w []).alloc _
  have HS := Lib.hid (sortedK w.heap.size m t M S L _ (hr.tch hT0 (by simp)) (by simp) (by simp))
  have HT0 := Lib.hid hT0
  clear hr hT0
  go_enter Try.func31, Try.ntmps31
  go_wp2_with fail
  refine Calls.mono HK.out ?_
  rintro e w1 ⟨rfl, rfl⟩
  go_wp2_with fail
  refine Calls.mono HS.out ?_
  rintro e w2 ⟨A, c, rfl, ho, hT⟩
  have HO := Lib.hid (own_mono (base' := w.heap.size) ho (by rw [World.size_alloc]; omega))
  have HT := Lib.hid (HT0.out.trans hT)
  clear ho hT
  go_wp2
  go_ret
  exact ⟨A, c, rfl, HO.out, HT.out⟩
end Go.Proofs.Ytlbkphnbpenbcaa
