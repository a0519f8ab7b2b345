/-
  Several texts in one: RpP, RpQ, RpR, RpT, RbS, RbT, RbPo.
-/
import Derived.Test.YtjlmgkdieffjcaaDoorRpM
import Derived.Test.YtjlmgkdieffjcaaDoorRpO
import Derived.Test.YtjlmgkdieffjcaaDoorRpD
import Derived.Test.YtjlmgkdieffjcaaDoorRpE
import Derived.Test.YtjlmgkdieffjcaaDoorRpI
import Derived.Test.YtjlmgkdieffjcaaDoorRpJ

namespace Go.Proofs.YtjlmgkdieffjcaaDoor
open Go.RowKit
set_option linter.unusedVariables false

/-- The prefixes of a list, each valid. -/
theorem pfv_of {ss : List PfI} (h : ∀ p ∈ ss, (pvI p = true ∧ vld p.1.1 (p.1.2.1 : Int) (p.1.2.2 : Int) = true) ∧ N64 p.1.2.1 ∧ N64 p.1.2.2) : ∃ l : List PfV, l.map (·.1) = ss := by
  induction ss with
  | nil => exact ⟨[], rfl⟩
  | cons p r ih =>
    obtain ⟨l, hl⟩ := ih fun q hq => h q (List.mem_cons_of_mem _ hq)
    exact ⟨⟨p, h p (by simp)⟩ :: l, by rw [List.map_cons, hl]⟩
theorem flat_vC (l : List PfV) : l.flatMap vC = (l.map (·.1)).flatMap pfC := by rw [List.flatMap_map]; rfl
theorem srt_prefs {L : List TdI} (h : InvR L) {l : List PfV} (hp : (l.map (·.1)).Perm (prefsI L)) (hs : l.Pairwise fun x y => ltOf (fun x y : PfV => cmpPI x.1 y.1) y x = false) : l.map (·.1) = prefsI L := by
  refine hp.eq_of_pairwise (le := fun p q => ¬ ltP q p) (fun a b ha hb h1 h2 => ?_) ?_ ((prefsI_srt h).imp fun {a b} hab h2 => ltP_irr a (ltP_trans hab h2))
  · rcases lexP.tri (l := keyP a) (m := keyP b) rfl with e | e | e
    · exact absurd e h2
    · exact keyP_inj e
    · exact absurd e h1
  · rw [List.pairwise_map]
    refine hs.imp fun {x y} hxy hlt => ?_
    have := (lessI_key y.2.1.1 x.2.1.1 y.2.1.2 x.2.1.2).2 hlt
    unfold ltOf cmpPI at hxy
    simp only [this, if_true] at hxy
    revert hxy; decide
theorem nm_lex {h l h' l' : Nat} (hl : N64 l) (hl' : N64 l') : nm h l < nm h' l' ↔ h < h' ∨ (h = h' ∧ l < l') := by
  unfold nm; unfold N64 at hl hl'; omega
/-- Of two that hold an address the one of fewer bits comes first. -/
theorem hld_bits {p q : PfI} {a : AdR} (np : N64 p.1.2.1 ∧ N64 p.1.2.2) (nq : N64 q.1.2.1 ∧ N64 q.1.2.2) (na : N64 a.2.1 ∧ N64 a.2.2) (hp : hldP p a = true) (hq : hldP q a = true) (hb : q.2 ≤ p.2) : p = q ∨ ltP q p := by
  obtain ⟨⟨s, h, l⟩, b⟩ := p
  obtain ⟨⟨s', h', l'⟩, b'⟩ := q
  obtain ⟨s9, ah, al⟩ := a
  obtain ⟨v1, o1, e1, c1⟩ := (hld_iff np.2 na.2).1 hp
  obtain ⟨v2, o2, e2, c2⟩ := (hld_iff nq.2 na.2).1 hq
  simp only at v1 o1 e1 c1 v2 o2 e2 c2 hb np nq
  subst e1
  subst e2
  have hk : kk s9 b ≤ kk s9 b' := by unfold kk; omega
  have hle : nm h' l' ≤ nm h l := by
    rw [← c1, ← c2, ← ct_trans hk]
    exact ct_le _ _
  rcases Nat.lt_or_eq_of_le hle with hlt | heq
  · right
    unfold ltP keyP
    have := (nm_lex nq.2 np.2).1 hlt
    simp [lexP]
    omega
  · have e3 : h' = h ∧ l' = l := by
      have a1 : ¬ nm h' l' < nm h l := by omega
      have a2 : ¬ nm h l < nm h' l' := by omega
      rw [nm_lex nq.2 np.2] at a1
      rw [nm_lex np.2 nq.2] at a2
      omega
    obtain ⟨rfl, rfl⟩ := e3
    by_cases hbb : b = b'
    · left; rw [hbb]
    · right
      unfold ltP keyP
      simp [lexP]
      omega
theorem srt_over {L : List TdI} (h : InvR L) (hn : ∀ p ∈ prefsI L, N64 p.1.2.1 ∧ N64 p.1.2.2) {a : AdR} (na : N64 a.2.1 ∧ N64 a.2.2) {l : List PfV} (hp : (l.map (·.1)).Perm ((prefsI L).filter fun p => hldP p a)) (hs : l.Pairwise fun x y => ltOf (fun x y : PfV => cmpI y.1.2 x.1.2) y x = false) : l.map (·.1) = overI L a := by
  unfold overI overL
  have hm : ∀ p ∈ l.map (·.1), (N64 p.1.2.1 ∧ N64 p.1.2.2) ∧ hldP p a = true := fun p hq => by
    have := List.mem_filter.1 (hp.subset hq)
    exact ⟨hn p this.1, this.2⟩
  refine (hp.trans (List.reverse_perm _).symm).eq_of_pairwise (le := fun p q : PfI => q.2 ≤ p.2) (fun p q h1 h2 h3 h4 => ?_) ?_ ?_
  · have m1 := hm p h1
    have m2 : (N64 q.1.2.1 ∧ N64 q.1.2.2) ∧ hldP q a = true := by
      have := List.mem_filter.1 (List.mem_reverse.1 h2)
      exact ⟨hn q this.1, this.2⟩
    rcases hld_bits m1.1 m2.1 na m1.2 m2.2 h3 with e | e
    · exact e
    · rcases hld_bits m2.1 m1.1 na m2.2 m1.2 h4 with e2 | e2
      · exact e2.symm
      · exact absurd (ltP_trans e e2) (ltP_irr _)
  · rw [List.pairwise_map]
    refine hs.imp fun {x y} hxy => ?_
    unfold ltOf cmpI at hxy
    simp only [decide_eq_false_iff_not] at hxy
    split at hxy
    · exact absurd (by decide) hxy
    · omega
  · rw [List.pairwise_reverse]
    refine ((prefsI_srt h).sublist List.filter_sublist).imp_of_mem fun {p q} h1 h2 hpq => ?_
    have m1 := List.mem_filter.1 h1
    have m2 := List.mem_filter.1 h2
    rcases Int.le_total q.2 p.2 with hle | hle
    · rcases hld_bits (hn p m1.1) (hn q m2.1) na m1.2 m2.2 hle with e | e
      · rw [e] at hpq; exact absurd hpq (ltP_irr _)
      · exact absurd (ltP_trans hpq e) (ltP_irr _)
    · exact hle
theorem own_up {w : World} {base n sz : Nat} {t : TypeId} {v : Value} {xs : List Value} (h : w.ownsRow 0 t sz v n xs) (hb : ∀ s ∈ obI v, base ≤ s) : w.ownsRow base t sz v n xs := by
  refine ⟨h.1, ?_⟩
  rcases h.2 with e | ⟨g, cap, cur, rfl, h1, h2⟩
  · exact .inl e
  · exact .inr ⟨g, cap, cur, rfl, hb g (by simp [obI, Value.ownBlock]), h2⟩
theorem RpM.prefV {w : World} {t m : Nat} {M : List (PfI × Value)} {S : List Nat} {L : List TdI} (h : RpM w t m M S L) : ∀ p ∈ M.map Prod.fst, (pvI p = true ∧ vld p.1.1 (p.1.2.1 : Int) (p.1.2.2 : Int) = true) ∧ N64 p.1.2.1 ∧ N64 p.1.2.2 := fun p hp => by
  obtain ⟨u, hu, e⟩ := (prefsI_mem h.inv.inv).1 (h.keys.subset hp)
  have k := h.inv.inv.ok u hu
  rw [← e]
  exact ⟨⟨k.pv, k.vl⟩, k.n1⟩
set_option maxRecDepth 100000 in
set_option maxHeartbeats 2000000 in
/-- slices.SortedFunc of the map's keys. -/
theorem sortedP (Bm m : Nat) (t : Nat) (M : List (PfI × Value)) (S : List Nat) (L : List TdI) (w : World) (hr : RpM w t m M S L) (hBm : Bm < w.heap.size) (hm : w.cell? ⟨Bm, 0, none⟩ = some (.map (some m))) :
    Calls Tryd.prog 28 #[.func (.func 48) #[] #[.pointer (some ⟨Bm, 0, none⟩)], .func (.func 30) #[] #[]] w fun e w' =>
      ∃ A c, e = .returned (.slice A (prefsI L).length c) ∧ w'.ownsRow w.heap.size 37 4 (.slice A (prefsI L).length c) (prefsI L).length ((prefsI L).flatMap pfC) ∧ Tch w w' [] := by
  have hM : M.length ≤ 90 := by rw [hr.len]; exact hr.inv.ninety
  have HC := Lib.hid (collectP Bm m M (by omega) w hBm hm hr.mp)
  have HV := Lib.hid hr.prefV
  have HK := Lib.hid hr.keys
  have HI := Lib.hid hr.inv.inv
  clear hr hBm hm
  go_enter Tryd.func28, Tryd.ntmps28
  go_wp2_with fail
  refine Calls.mono HC.out ?_
  rintro e w1 ⟨v, ss, rfl, hp, ho, -, hb⟩
  obtain ⟨l, hl⟩ := pfv_of (fun p hq => HV.out p (hp.subset hq))
  have hln : l.length = ss.length := by rw [← hl, List.length_map]
  obtain ⟨A, c, rfl, -, -⟩ := own_sl ho
  have hsn : ss.length ≤ 90 := by rw [hp.length_eq, List.length_map]; exact hM
  have HG := Lib.hid (fun s hs => (own_geI ho s hs).1)
  rw [← hl, ← flat_vC, List.length_map] at ho
  have HO := Lib.hid (own_mono ho (Nat.zero_le _))
  have HS := Lib.hid (sort_any _ cmpV_swo 30 (enters_of Tryd.func30 (by kernel_rfl) rfl) (fun x y W => cmpPf_any x.1 y.1 x.2.2 y.2.2 W) A l.length c l rfl (by omega) w1 HO.out)
  have HB := Lib.hid hb
  have HP := Lib.hid (hl ▸ hp)
  rw [hln] at HS
  clear ho hb hp
  go_wp2_with fail
  refine Calls.mono HS.out ?_
  rintro e w2 ⟨rfl, l', hp', hs', ho', hT'⟩
  have hE := srt_prefs HI.out (((hp'.map _).trans HP.out).trans HK.out) hs'
  have hn : ss.length = (prefsI L).length := by rw [← hE, List.length_map, hp'.length_eq, hln]
  have HT := Lib.hid ((Tch.of_below [] HB.out).trans_fre hT' (fun s hs => .inr (HG.out s hs)))
  rw [flat_vC, hE] at ho'
  have HO' := Lib.hid (own_up (base := w.heap.size) ho' HG.out)
  rw [hn] at HO' ⊢
  clear ho' hT' hE hp' hs'
  go_wp2
  go_ret
  exact ⟨A, c, rfl, HO'.out, HT.out⟩
set_option maxRecDepth 100000 in
set_option maxHeartbeats 2000000 in
theorem prefsP (t : Nat) (S : List Nat) (L : List TdI) (w : World) (h : RbP w t S L) :
    Calls Tryd.prog 12 #[.pointer (some ⟨t, 0, none⟩)] w fun e w' => ∃ A c, e = .returned (.slice A (prefsI L).length c) ∧ w'.ownsRow w.heap.size 37 4 (.slice A (prefsI L).length c) (prefsI L).length ((prefsI L).flatMap pfC) ∧ RbP w' t S L ∧ Tch w w' S := by
  have HP := Lib.hid h
  obtain ⟨m, M, hr⟩ := h
  have ht := (hr.bt.cell 0).trans (show _ = some (Value.map (some m)) by rfl)
  have HK := Lib.hid (keysP m w)
  have hT0 : Tch w (w.alloc (.cells #[.map (some m)] 62)) [] := (Tch.refl w []).alloc _
  have HS := Lib.hid (sortedP w.heap.size m t M S L _ (hr.tch hT0 (by simp)) (by simp) (by simp))
  have HT0 := Lib.hid hT0
  clear hr hT0
  go_enter Tryd.func12, Tryd.ntmps12
  go_wp2_with fail
  refine Calls.mono HK.out ?_
  rintro e w1 ⟨rfl, rfl⟩
  go_wp2_with fail
  refine Calls.mono HS.out ?_
  rintro e w2 ⟨A, c, rfl, ho, hT⟩
  have HO := Lib.hid (own_mono (base' := w.heap.size) ho (by rw [World.size_alloc]; omega))
  have HT := Lib.hid (HT0.out.trans hT)
  clear ho hT
  go_wp2
  go_ret
  exact ⟨A, c, rfl, HO.out, HP.out.tch HT.out (by simp), HT.out.mono (by simp)⟩
end Go.Proofs.YtjlmgkdieffjcaaDoor

namespace Go.Proofs.YtjlmgkdieffjcaaDoor
open Go.RowKit
set_option linter.unusedVariables false

set_option maxRecDepth 100000 in
set_option maxHeartbeats 4000000 in
theorem overP (t : Nat) (S : List Nat) (L : List TdI) (a : AdR) (ha : N64 a.2.1 ∧ N64 a.2.2) (w : World) (h : RbP w t S L) :
    Calls Tryd.prog 19 #[.pointer (some ⟨t, 0, none⟩), adR a] w fun e w' => ∃ A c, e = .returned (.slice A (overI L a).length c) ∧ w'.ownsRow w.heap.size 37 4 (.slice A (overI L a).length c) (overI L a).length ((overI L a).flatMap pfC) ∧ RbP w' t S L ∧ Tch w w' S := by
  have HP := Lib.hid h
  obtain ⟨m, M, hr⟩ := h
  have hM : M.length ≤ 90 := by rw [hr.len]; exact hr.inv.ninety
  have HV := Lib.hid hr.prefV
  have HK := Lib.hid hr.keys
  have HI := Lib.hid hr.inv.inv
  have HNp : Hid (∀ p ∈ prefsI L, N64 p.1.2.1 ∧ N64 p.1.2.2) := Lib.hid (fun p hp => by obtain ⟨u, hu, e⟩ := (prefsI_mem hr.inv.inv).1 hp; rw [← e]; exact (hr.inv.inv.ok u hu).n1)
  have hml := hr.mp.lt
  have HA := Lib.hid ha
  obtain ⟨a0, ha0⟩ : ∃ a0, a = a0 := ⟨_, rfl⟩
  rw [ha0] at HA ⊢
  have HL : Hid (∀ ss : List PfI, ss.Perm ((M.map Prod.fst).filter fun p => hldP p a0) → (∃ l : List PfV, l.map (·.1) = ss) ∧ ss.length ≤ 90) := Lib.hid (fun ss hs => ⟨pfv_of (fun p hp => HV.out p (List.mem_filter.1 (hs.subset hp)).1), by
    rw [hs.length_eq]; exact Nat.le_trans (List.length_filter_le _ _) (by rw [List.length_map]; exact hM)⟩)
  have HE : Hid (∀ l : List PfV, (l.map (·.1)).Perm ((M.map Prod.fst).filter fun p => hldP p a0) → (l.Pairwise fun x y => ltOf (fun x y : PfV => cmpI y.1.2 x.1.2) y x = false) → l.map (·.1) = overI L a0) := Lib.hid (fun l hp hs => srt_over HI.out HNp.out HA.out (hp.trans (HK.out.filter _)) hs)
  obtain ⟨s9, ah, al⟩ := a0
  obtain ⟨xb, hxb⟩ : ∃ xb, w.heap.size = xb := ⟨_, rfl⟩
  obtain ⟨W0, hW0⟩ : ∃ W, w.alloc (.cells #[.bool s9, .int .u64 (ah : Int), .int .u64 (al : Int)] 24) = W := ⟨_, rfl⟩
  have HB0 : Hid (Blk W0 xb 24 #[.bool s9, .int .u64 (ah : Int), .int .u64 (al : Int)]) := Lib.hid (hW0 ▸ hxb ▸ Blk.new w _ _)
  have hT0 : Tch w W0 [] := hW0 ▸ (Tch.refl w []).alloc _
  have HMp := Lib.hid (hr.mp.tch hT0 (by simp))
  have ht : (w.alloc (.cells #[.bool s9, .int .u64 (ah : Int), .int .u64 (al : Int)] 24)).cell? ⟨t, 0, none⟩ = some (.map (some m)) := hW0 ▸ ((hT0.blk hr.bt (by simp)).cell 0).trans (show _ = some (Value.map (some m)) by rfl)
  have HT0 := Lib.hid hT0
  have HW0 := Lib.hid (And.intro hW0 hxb)
  obtain ⟨ib, hib⟩ : ∃ ib, W0.heap.size = ib := ⟨_, rfl⟩
  have hsz : ib = xb + 1 := by rw [← hib, ← hW0, World.size_alloc, hxb]
  have HIb := Lib.hid hib
  have HSz := Lib.hid (And.intro hsz (show m < xb by omega))
  clear hr hM hml ha hW0 hxb hT0 hib hsz
  go_enter Tryd.func19, Tryd.ntmps19
  go_wp2_with (at_range; rw [HW0.out.1, HW0.out.2]; refine wpList_mrange (k := 37) rfl (.tmp 10) 62 rfl 38 Tryd.underlying62 rfl HMp.out ?_; intro w0 hrg0 hT1 hs0; (rw [HIb.out]); (have HRg0 := Lib.hid (HIb.out ▸ hrg0)); (have HT1 := Lib.hid hT1); (have HS0 := Lib.hid (HIb.out ▸ hs0)); clear hrg0 hT1 hs0 ht)
  (try go_frame)
  have HB1 := Lib.hid (HT1.out.blk HB0.out (by simp))
  go_loopw [5] (fun ov wr => ∃ (left : List (PfI × Value)) (acc : List PfI) (f : Nat) (A1 : Option Addr) (cc : Nat), ov = .slice A1 f cc ∧ Hid (acc.length = f) ∧ Hid (MpRg (fun p => pfR p) wr m ib M left) ∧ Hid ((acc ++ (left.map Prod.fst).filter fun p => hldP p (s9, ah, al)).Perm ((M.map Prod.fst).filter fun p => hldP p (s9, ah, al))) ∧ Hid (wr.ownsRow (ib + 1) 37 4 (.slice A1 f cc) f (acc.flatMap pfC)) ∧ Hid (Tch w0 wr [ib])) (fun _ wr => wr.rangeLeft m ib)
  case atStart => exact ⟨M, [], 0, none, 0, rfl, Lib.hid rfl, HRg0, Lib.hid (List.Perm.refl _), Lib.hid ⟨rfl, .inl ⟨rfl, rfl⟩⟩, Lib.hid (Tch.refl _ _)⟩
  case round =>
    obtain ⟨left, acc, f, A1, cc, rfl, hf, hrg, hp, hO, hT⟩ := hrel
    go_wp2_with (at_next; refine wpList_mnext rfl (.tmp 11) rfl keyPf rfl hrg.out (fun hd => ?_) (fun x left' w1 hx hpl hrg1 hT1' hs1 hen => ?_); rotate_left; (obtain ⟨⟨⟨xs, xh, xl⟩, xn⟩, v⟩ := x); (have HPl := Lib.hid hpl); (have HRg1 := Lib.hid hrg1); (have HT1' := Lib.hid hT1'); (have HX := Lib.hid hx); (have HB1' := Lib.hid ((hT.out.trans hT1').blk HB1.out (show xb ∉ [ib] by simp; have := HSz.out.1; omega))); (obtain ⟨b0, b1, b2⟩ := HB1'.out.c3); (have hxl := HB1'.out.lt); (clear hpl hrg1 hT1' hs1 hx); rotate_right)
    · have HPe : Hid (acc.Perm ((M.map Prod.fst).filter fun p => hldP p (s9, ah, al))) := Lib.hid (by have := hp.out; rw [hd] at this; simpa using this)
      clear hd
      obtain ⟨⟨l, hl⟩, hn90⟩ := HL.out acc HPe.out
      have hlf : l.length = f := by rw [← hf.out, ← hl, List.length_map]
      have HO0 := Lib.hid (show wr.ownsRow 0 37 4 (.slice A1 f cc) f (l.flatMap vC) by rw [flat_vC, hl]; exact own_mono hO.out (Nat.zero_le _))
      have HS := Lib.hid (sort_any _ cmpB_swo 38 (enters_of Tryd.func38 (by kernel_rfl) rfl) (fun x y W => cmpOv_any x.1 y.1 W) A1 f cc l hlf (by rw [← hf.out]; omega) wr HO0.out)
      have HG := Lib.hid (fun s hs => (own_geI hO.out s hs).1)
      have HLl := Lib.hid hl
      clear hl hlf hn90
      go_wp2_with fail
      refine Calls.mono HS.out ?_
      rintro e w2 ⟨rfl, l', hp', hs', ho', hT'⟩
      have hE := HE.out l' ((hp'.map _).trans (HLl.out ▸ HPe.out)) hs'
      have hn : f = (overI L (s9, ah, al)).length := by rw [← hE, List.length_map, hp'.length_eq, ← hf.out, ← HLl.out, List.length_map]
      have HTw : Hid (Tch w w2 []) := Lib.hid (((HT0.out.trans HT1.out).trans_fre hT.out (fun s hs => .inr (by rw [List.mem_singleton.1 hs]; have := HSz.out.1; have := HW0.out.2; omega))).trans_fre hT' (fun s hs => .inr (by have := HG.out s hs; have := HSz.out.1; have := HW0.out.2; omega)))
      rw [flat_vC, hE] at ho'
      have HO' := Lib.hid (own_up (base := w.heap.size) ho' (fun s hs => by have := HG.out s hs; have := HSz.out.1; have := HW0.out.2; omega))
      subst hn
      clear ho' hT' hE hp' hs'
      go_wp2
      go_ret
      exact ⟨A1, cc, rfl, HO'.out, HP.out.tch HTw.out (by simp), HTw.out.mono (by simp)⟩
    · have hxm := HX.out
      have HN := Lib.hid (HV.out ((xs, xh, xl), xn) (List.mem_map_of_mem (f := Prod.fst) hxm)).2
      obtain ⟨b, hb⟩ : ∃ b, hldP ((xs, xh, xl), xn) (s9, ah, al) = b := ⟨_, rfl⟩
      have HBb := Lib.hid hb
      have HHo := Lib.hid (fun W => holds_at xs xh xl xn s9 ah al HA.out.1 HA.out.2 hb W)
      obtain ⟨kb, hkb⟩ : ∃ kb, w1.heap.size = kb := ⟨_, rfl⟩
      obtain ⟨W2, hW2⟩ : ∃ W, w1.alloc (.cells #[.bool xs, .int .u64 (xh : Int), .int .u64 (xl : Int), .int .i64 xn] 37) = W := ⟨_, rfl⟩
      have HT02 : Hid (Tch w0 w1 [ib]) := Lib.hid (hT.out.trans HT1'.out)
      have HT12 : Hid (Tch w1 W2 []) := Lib.hid (hW2 ▸ (Tch.refl w1 []).alloc _)
      have HK2 : Hid (Blk W2 kb 37 #[.bool xs, .int .u64 (xh : Int), .int .u64 (xl : Int), .int .i64 xn]) := Lib.hid (hW2 ▸ hkb ▸ Blk.new w1 _ _)
      have HO1 : Hid (w1.ownsRow (ib + 1) 37 4 (.slice A1 f cc) f (acc.flatMap pfC)) := Lib.hid (own_tch hO.out HT1'.out (fun s hs hm => by have h1 := (own_geI hO.out s hs).1; rw [List.mem_singleton] at hm; omega))
      have HKs : Hid (ib + 1 ≤ kb) := Lib.hid (by have h1 := HS0.out; have h2 := HT02.out.size; omega)
      have HWs := Lib.hid (And.intro hW2 hkb)
      have HLn : Hid ((left.map Prod.fst).Perm (((xs, xh, xl), xn) :: left'.map Prod.fst)) := Lib.hid (HPl.out.map Prod.fst)
      clear hxm hb hW2 hkb b0 b1 b2 hxl
      rw [HWs.out.1, HWs.out.2]
      refine Calls.mono (HHo.out W2) ?_
      rintro e w5 ⟨rfl, hb5⟩
      have HT5 := Lib.hid (HT12.out.trans (Tch.of_below [] hb5))
      have HK5 := Lib.hid ((Tch.of_below [] hb5).blk HK2.out (by simp))
      have HO5 := Lib.hid (own_tch HO1.out HT5.out (by simp))
      have HRg5 := Lib.hid (HRg1.out.tch HT5.out (by simp) (by simp))
      clear hb5
      obtain ⟨k0, k1, k2, k3⟩ := HK5.out.c4
      cases b with
      | false =>
        have HPn : Hid ((acc ++ (left'.map Prod.fst).filter fun p => hldP p (s9, ah, al)).Perm ((M.map Prod.fst).filter fun p => hldP p (s9, ah, al))) := Lib.hid (by
          have h1 := (HLn.out.filter fun p => hldP p (s9, ah, al))
          rw [List.filter_cons_of_neg (by rw [HBb.out]; simp)] at h1
          exact (h1.symm.append_left acc).trans hp.out)
        go_wp2
        go_roundw
        case rel => exact ⟨left', acc, f, A1, cc, rfl, hf, HRg5, HPn, HO5, Lib.hid (HT02.out.trans_fre HT5.out (by simp))⟩
        case measure => rw [HRg5.out.left_len, hrg.out.left_len, HPl.out.length_eq]; simp
      | true =>
        have HPn : Hid (((acc ++ [((xs, xh, xl), xn)]) ++ (left'.map Prod.fst).filter fun p => hldP p (s9, ah, al)).Perm ((M.map Prod.fst).filter fun p => hldP p (s9, ah, al))) := Lib.hid (by
          have h1 := (HLn.out.filter fun p => hldP p (s9, ah, al))
          rw [List.filter_cons_of_pos (by rw [HBb.out])] at h1
          rw [List.append_assoc, List.singleton_append]
          exact (h1.symm.append_left acc).trans hp.out)
        have hf90 : f ≤ 1000000 := by
          have h1 := HPn.out.length_eq
          have h2 : ((M.map Prod.fst).filter fun p => hldP p (s9, ah, al)).length ≤ 90 := (HL.out _ (List.Perm.refl _)).2
          simp only [List.length_append] at h1
          have := hf.out
          omega
        have HSr := Lib.hid (src_new w5 37 [.bool xs, .int .u64 (xh : Int), .int .u64 (xl : Int), .int .i64 xn])
        have HT6 := Lib.hid (HT5.out.alloc (.cells #[.bool xs, .int .u64 (xh : Int), .int .u64 (xl : Int), .int .i64 xn] 37))
        have HO6 := Lib.hid (HO5.out.alloc (.cells #[.bool xs, .int .u64 (xh : Int), .int .u64 (xl : Int), .int .i64 xn] 37))
        have HSf := Lib.hid hf90
        have HSz6 : Hid (ib + 1 ≤ (w5.alloc (.cells #[.bool xs, .int .u64 (xh : Int), .int .u64 (xl : Int), .int .i64 xn] 37)).heap.size) := Lib.hid (by have h1 := HT6.out.size; have h2 := HWs.out.2; have h3 := HKs.out; omega)
        have HRg6 := Lib.hid (HRg1.out.tch HT6.out (by simp) (by simp))
        clear hf90
        go_wp2_with (at_builtin; (refine wpList_apc 34 37 (.agg #[.bool false, .int .u64 0, .int .u64 0, .int .i64 0]) 4 32 Tryd.underlying34 infoPf rfl (by decide) (by decide) _ rfl (.tmp 19) (.tmp 21) rfl (ib + 1) (.slice A1 f cc) f (acc.flatMap pfC) rfl HO6.out ⟨w5.heap.size, 0, none⟩ 1 [.bool xs, .int .u64 (xh : Int), .int .u64 (xl : Int), .int .i64 xn] rfl rfl (fun j u hj => HSr.out j u hj) (by simp [Value.oneCell']) HSf.out HSz6.out ?_; intro v7 w7 hown hg hv; obtain ⟨A7, c7, e7, -, -⟩ := own_sl hown; subst e7; have HO7 := Lib.hid hown; have HT7 := Lib.hid (Tch.of_grown' (S := obI (.slice A1 f cc)) hg (fun k e => by rw [obI_some e]; simp)); clear hown hg hv))
        have HG := Lib.hid (fun s hs => (own_geI HO6.out s hs).1)
        have HRg7 := Lib.hid (HRg6.out.tch HT7.out (fun hm => by have := HG.out m hm; have := HSz.out; omega) (fun hm => by have := HG.out ib hm; omega))
        have HTe : Hid (Tch w0 w7 [ib]) := Lib.hid ((HT02.out.trans_fre HT6.out (by simp)).trans_fre HT7.out (fun s hs => .inr (by have := HG.out s hs; have := HS0.out; omega)))
        go_roundw
        case rel => exact ⟨left', acc ++ [((xs, xh, xl), xn)], f + 1, A7, c7, rfl, Lib.hid (by rw [List.length_append, hf.out]; rfl), HRg7, HPn, Lib.hid (by rw [List.flatMap_append]; exact HO7.out), HTe⟩
        case measure => rw [HRg7.out.left_len, hrg.out.left_len, HPl.out.length_eq]; simp
end Go.Proofs.YtjlmgkdieffjcaaDoor

namespace Go.Proofs.YtjlmgkdieffjcaaDoor
open Go.RowKit
set_option linter.unusedVariables false

/-- One element of a row stored anew. -/
theorem sta_set {w w' : World} {g n c i : Nat} {X : List PaI} {y : PaI} {cur : Array Value} (h : w.ownsRow 0 26 7 (.slice (some ⟨g, 0, none⟩) n c) n (X.flatMap paC)) (hl : X.length = n) (hi : i < n)
    (hB : Blk w g 26 cur) (hs : Sta w w' g (i * 7) 26 cur (paC y).toArray) : w'.ownsRow 0 26 7 (.slice (some ⟨g, 0, none⟩) n c) n ((X.set i y).flatMap paC) := by
  obtain ⟨cu, hb, h1, h2, h3, h4⟩ := own_openN h
  obtain rfl : cu = cur := by have := hb.symm.trans hB; injection this with e; injection e
  obtain ⟨c2, b2, s2, o2, k2⟩ := hs.blk
  have h7 : (paC y).toArray.size = 7 := by rw [List.size_toArray]; exact pa_seven y
  rw [h7] at o2 k2
  refine ⟨by rw [flatk_len pa_seven, List.length_set, hl], .inr ⟨g, c, c2, rfl, Nat.zero_le _, b2, h1, h2, by rw [s2]; exact h3, ?_⟩⟩
  refine List.ext_getElem? fun p => ?_
  by_cases hp : p < n * 7
  · rw [List.getElem?_take_of_lt hp, Array.getElem?_toList]
    have hq : p / 7 < n := by omega
    have hr : p % 7 < 7 := Nat.mod_lt _ (by decide)
    have hpe : p / 7 * 7 + p % 7 = p := by omega
    by_cases hqi : p / 7 = i
    · have hx : (X.set i y)[p / 7]? = some y := by rw [hqi, List.getElem?_set_self (by omega)]
      have e := flatk_at pa_seven hx hr
      rw [hpe] at e
      rw [e]
      have := k2 (p % 7) hr
      rw [show i * 7 + p % 7 = p by omega] at this
      rw [this, List.getElem?_toArray]
    · rw [o2 p (by omega)]
      have e1 : cu[p]? = (X.flatMap paC)[p]? := by rw [← h4, List.getElem?_take_of_lt hp, Array.getElem?_toList]
      obtain ⟨z, hz⟩ : ∃ z, X[p / 7]? = some z := ⟨_, List.getElem?_eq_getElem (by omega)⟩
      have hx : (X.set i y)[p / 7]? = some z := by rw [List.getElem?_set_ne (by omega)]; exact hz
      have e2 := flatk_at pa_seven hz hr
      have e3 := flatk_at pa_seven hx hr
      rw [hpe] at e2 e3
      rw [e1, e2, e3]
  · rw [List.getElem?_eq_none (by rw [List.length_take]; omega), List.getElem?_eq_none (by rw [flatk_len pa_seven, List.length_set, hl]; omega)]
theorem take_filter_no {l : List PaI} {K : PaI → Bool} {j : Nat} {y : PaI} (h : l[j]? = some y) (hk : K y = false) : (l.take (j + 1)).filter K = (l.take j).filter K := by
  rw [List.take_add_one, h, List.filter_append]; simp [hk]
theorem take_filter_yes {l : List PaI} {K : PaI → Bool} {j : Nat} {y : PaI} (h : l[j]? = some y) (hk : K y = true) : (l.take (j + 1)).filter K = (l.take j).filter K ++ [y] := by
  rw [List.take_add_one, h, List.filter_append]; simp [hk]
set_option maxRecDepth 100000 in
set_option maxHeartbeats 4000000 in
theorem delfn_any (pr0 : Int) (xb : Nat) (A : Option Addr) (n c : Nat) (l : List PaI) (hl : l.length = n) (hn : n ≤ 1000) (w : World) (h : w.ownsRow 0 26 7 (.slice A n c) n (l.flatMap paC)) (hB : w.cell? ⟨xb, 0, none⟩ = some (.int .i64 pr0)) (hx : xb ∉ obI (.slice A n c)) :
    Calls Tryd.prog 41 #[.slice A n c, .func (.func 42) #[] #[.pointer (some ⟨xb, 0, none⟩)]] w fun e w' =>
      e = .returned (.slice A (l.filter fun y => !decide (y.1 = pr0)).length c) ∧ w'.ownsRow 0 26 7 (.slice A (l.filter fun y => !decide (y.1 = pr0)).length c) (l.filter fun y => !decide (y.1 = pr0)).length ((l.filter fun y => !decide (y.1 = pr0)).flatMap paC) ∧ Tch w w' (obI (.slice A n c)) := by
  have HI := Lib.hid (idx_pro pr0 xb A n c l hl hn w h hB)
  have hbl := World.block_lt_of_cell? w _ hB
  have HF := Lib.hid (fun (y : PaI) W (hT : Tch w W (obI (.slice A n c))) => flush1_any pr0 xb y W ((hT.cell (p := ⟨xb, 0, none⟩) hbl hx).trans hB))
  obtain ⟨K, hK⟩ : ∃ K : PaI → Bool, (fun y : PaI => !decide (y.1 = pr0)) = K := ⟨_, rfl⟩
  have HKe : Hid (∀ y : PaI, decide (y.1 = pr0) = !(K y)) := Lib.hid (fun y => by rw [← hK]; simp)
  rw [hK]
  obtain ⟨f, hf⟩ : ∃ f, fndI (fun y : PaI => decide (y.1 = pr0)) l = f := ⟨_, rfl⟩
  rw [hf] at HI
  have HL := Lib.hid hl
  have HO := Lib.hid h
  have HN := Lib.hid hn
  clear hK hB hbl hx
  cases f with
  | zero =>
    have HE : Hid (l.filter K = l) := Lib.hid (List.filter_eq_self.2 fun y hy => by
      obtain ⟨j, hj⟩ := List.getElem?_of_mem hy
      have h1 := fndI_zero.1 hf j y hj
      have h2 := HKe.out y
      simp only [h1] at h2
      cases hk : K y with
      | true => rfl
      | false => rw [hk] at h2; simp at h2)
    rw [HE.out, HL.out]
    clear hf h hl hn
    go_enter Tryd.func41, Tryd.ntmps41
    go_wp2_with fail
    refine Calls.mono HI.out ?_
    rintro e w1 ⟨rfl, hT⟩
    have HT := Lib.hid hT
    clear hT
    go_wp2
    go_ret
    exact ⟨rfl, own_tch HO.out HT.out (by simp), HT.out.mono (by simp)⟩
  | succ k0 =>
    obtain ⟨⟨y0, hy0, hp0⟩, hbe⟩ := fndI_succ.1 hf
    have hk0 : k0 < n := by rw [← hl]; exact (List.getElem?_eq_some_iff.1 hy0).1
    obtain ⟨g, rfl⟩ := slice_some h (by omega)
    have hnc : n ≤ c := by obtain ⟨cur, -, h1, -⟩ := own_openN h; exact h1
    have ht0 : (l.take (k0 + 1)).filter K = l.take k0 := by
      rw [take_filter_no hy0 (by have := HKe.out y0; simp only [hp0] at this; cases hk : K y0 with
        | true => rw [hk] at this; simp at this
        | false => rfl)]
      refine List.filter_eq_self.2 fun y hy => ?_
      obtain ⟨j, hj⟩ := List.getElem?_of_mem hy
      have hjl : j < k0 := by have := (List.getElem?_eq_some_iff.1 hj).1; rw [List.length_take] at this; omega
      rw [List.getElem?_take_of_lt hjl] at hj
      have h1 := hbe j y hjl hj
      have h2 := HKe.out y
      simp only [h1] at h2
      cases hk : K y with
      | true => rfl
      | false => rw [hk] at h2; simp at h2
    have HT0 := Lib.hid ht0
    have hob : obI (.slice (some ⟨g, 0, none⟩) n c) = [g] := rfl
    rw [hob] at HF ⊢
    have e0 : (((k0 + 1 : Nat) : Int) - 1 == -1) = false := by simp
    have e1 : ((k0 + 1 : Nat) : Int) - 1 = (k0 : Int) := by omega
    have hw0 : IntKind.i64.wrap ((k0 : Int) + 1) = (k0 : Int) + 1 := by rw [IntKind.wrap_i64]; omega
    rw [e1] at HI
    have e2 : ((k0 : Int) == -1) = false := by simp
    have HK0 : Hid (k0 < n) := Lib.hid hk0
    clear hf h hl hy0 hp0 hbe ht0 hob e0 e1
    go_enter Tryd.func41, Tryd.ntmps41
    go_wp2_with fail
    refine Calls.mono HI.out ?_
    rintro e w1 ⟨rfl, hT⟩
    have HT1 := Lib.hid hT
    have HO1 := Lib.hid (own_tch HO.out hT (by simp))
    clear hT
    go_wp2
    go_loopw [5, 6] (fun iv jv wr => ∃ (i j : Nat) (X : List PaI), iv = .int .i64 (i : Int) ∧ jv = .int .i64 (j : Int) ∧ i < j ∧ j ≤ n ∧ Hid (X.length = n) ∧ Hid (((l.take j).filter K).length = i) ∧ Hid (X.take i = (l.take j).filter K) ∧ Hid (X.drop j = l.drop j) ∧ Hid (wr.ownsRow 0 26 7 (.slice (some ⟨g, 0, none⟩) n c) n (X.flatMap paC)) ∧ Hid (Tch w wr [g])) (fun _ jv _ => n - (intOf jv).toNat)
    case atStart => exact ⟨k0, k0 + 1, l, rfl, by go_num, by omega, by omega, HL, Lib.hid (by rw [HT0.out, List.length_take, HL.out]; omega), Lib.hid HT0.out.symm, Lib.hid rfl, HO1, Lib.hid (HT1.out.mono (by simp))⟩
    case round =>
      obtain ⟨i, j, X, rfl, rfl, hij, hjn, hXl, hFl, hXt, hXd, hO, hT⟩ := hrel
      have j1 : IntKind.i64.wrap ((j : Int) + 1) = (j : Int) + 1 := by rw [IntKind.wrap_i64]; omega
      have i1 : IntKind.i64.wrap ((i : Int) + 1) = (i : Int) + 1 := by rw [IntKind.wrap_i64]; omega
      clear hw0 e2 hk0
      by_cases hjl : j < n
      · have jI : (j : Int) < (n : Int) := by omega
        have j0 : (0 : Int) ≤ (j : Int) := by omega
        have i0 : (0 : Int) ≤ (i : Int) := by omega
        have iI : (i : Int) < (n : Int) := by omega
        obtain ⟨y, hy⟩ : ∃ y, l[j]? = some y := ⟨_, List.getElem?_eq_getElem (by rw [HL.out]; exact hjl)⟩
        have hyX : X[j]? = some y := by
          have e1 : (X.drop j)[0]? = (l.drop j)[0]? := by rw [hXd.out]
          rw [List.getElem?_drop, List.getElem?_drop, Nat.add_zero] at e1
          rw [e1]; exact hy
        obtain ⟨y0, y1, y2, y3, y4, y5, y6⟩ := pa_cells hO.out hyX
        have Hy := Lib.hid hy
        have HyX := Lib.hid hyX
        obtain ⟨b, hb⟩ : ∃ b, K y = b := ⟨_, rfl⟩
        have HC : Hid (∀ W, Tch w W [g] → Calls Tryd.prog 42 _ W fun e w' => e = .returned (.bool (!b)) ∧ Tch W w' []) := Lib.hid (fun W hW => by rw [← hb, ← HKe.out y]; exact HF.out y W hW)
        have HBb := Lib.hid hb
        obtain ⟨pr, me, ⟨vs, vh, vl⟩, po, aw⟩ := y
        obtain ⟨vb, hvb⟩ : ∃ vb, wr.heap.size = vb := ⟨_, rfl⟩
        obtain ⟨W2, hW2⟩ : ∃ W, wr.alloc (.cells #[.int .i64 pr, .int .i64 me, .bool vs, .int .u64 (vh : Int), .int .u64 (vl : Int), .int .i64 po, .bool aw] 26) = W := ⟨_, rfl⟩
        have HV2 : Hid (Blk W2 vb 26 #[.int .i64 pr, .int .i64 me, .bool vs, .int .u64 (vh : Int), .int .u64 (vl : Int), .int .i64 po, .bool aw]) := Lib.hid (hW2 ▸ hvb ▸ Blk.new wr _ _)
        have hT2 : Tch wr W2 [] := hW2 ▸ (Tch.refl wr []).alloc _
        have HT2 := Lib.hid (hT.out.trans_fre hT2 (by simp))
        have HO2 := Lib.hid (own_tch hO.out hT2 (by simp))
        have HWs := Lib.hid (And.intro hW2 hvb)
        clear hy hyX hb hT2 hW2 hvb
        go_wp2_with fail
        rw [HWs.out.1, HWs.out.2]
        refine Calls.mono (HC.out W2 HT2.out) ?_
        rintro e w5 ⟨rfl, hT5⟩
        have HV5 := Lib.hid (hT5.blk HV2.out (by simp))
        have HO5 := Lib.hid (own_tch HO2.out hT5 (by simp))
        have HT5 := Lib.hid (HT2.out.trans_fre hT5 (by simp))
        clear hT5 y0 y1 y2 y3 y4 y5 y6
        obtain ⟨y0, y1, y2, y3, y4, y5, y6⟩ := HV5.out.p7
        cases b with
        | false =>
          have HFn := Lib.hid (take_filter_no Hy.out HBb.out)
          go_wp2
          go_roundw
          case rel => exact ⟨i, j + 1, X, rfl, by go_num, by omega, hjl, hXl, Lib.hid (by rw [HFn.out]; exact hFl.out), Lib.hid (by rw [HFn.out]; exact hXt.out), Lib.hid (by rw [← List.drop_drop, hXd.out, List.drop_drop]), HO5, HT5⟩
          case measure => simp [intOf]; omega
        | true =>
          have HFn := Lib.hid (take_filter_yes Hy.out HBb.out)
          obtain ⟨cur, hcur, hb1, hb2, hb3, hb4⟩ := own_openN HO5.out
          have HCu := Lib.hid hcur
          have HFit : Hid (i * 7 + 7 ≤ cur.size) := Lib.hid (by rw [hb3]; omega)
          clear hcur hb1 hb2 hb3 hb4
          go_wp2_with (refine wpList_sta rfl 26 (.tmp 33) (.tmp 32) rfl g (i * 7) #[.int .i64 pr, .int .i64 me, .bool vs, .int .u64 (vh : Int), .int .u64 (vl : Int), .int .i64 po, .bool aw] rfl rfl 26 cur HCu.out 7 paSz rfl HFit.out (by simp [Value.oneCell']) ?_; intro w6 hs6; have HS6 := Lib.hid hs6; clear hs6)
          have HO6 := Lib.hid (sta_set (y := (pr, me, (vs, vh, vl), po, aw)) HO5.out hXl.out (by omega) HCu.out HS6.out)
          go_roundw
          case rel => exact ⟨i + 1, j + 1, X.set i (pr, me, (vs, vh, vl), po, aw), by go_num, by go_num, by omega, hjl, Lib.hid (by rw [List.length_set]; exact hXl.out), Lib.hid (by rw [HFn.out, List.length_append, hFl.out]; rfl), Lib.hid (by
            rw [HFn.out, ← hXt.out, List.take_add_one, List.getElem?_set_self (by rw [hXl.out]; omega), List.take_set_of_le (Nat.le_refl _)]; rfl), Lib.hid (by rw [List.drop_set_of_lt (by omega), ← List.drop_drop, hXd.out, List.drop_drop]), HO6, Lib.hid (HT5.out.trans_fre HS6.out.tch (by simp))⟩
          case measure => simp [intOf]; omega
      · obtain rfl : j = n := by omega
        have jI : ¬ (j : Int) < (j : Int) := by omega
        have hFe : (l.take j).filter K = l.filter K := by rw [List.take_of_length_le (by rw [HL.out]; exact Nat.le_refl _)]
        rw [hFe] at hFl hXt
        obtain ⟨cur, hcur, hb1, hb2, hb3, hb4⟩ := own_openN hO.out
        obtain ⟨zs, hzl, -, hclr0⟩ := run_clear_k wr 38 26 0 _ Tryd.underlying38 zeroPa paZ rfl (by simp [Value.oneCell']) g (i * 7) (j - i) (c - i) 26 cur hcur (by simp; rw [hb3]; omega)
        have hclr : ∀ ty, (Builtin.clear_ #[38] ty #[.slice (some ⟨g, i * 7, none⟩) (j - i) (c - i)]).run Tryd.prog wr = .ok (.tuple #[]) (wr.setRow g (cur.toList.take (i * 7) ++ zs ++ cur.toList.drop (i * 7 + zs.length)).toArray) := fun ty => hclr0
        simp at hzl
        obtain ⟨cur2, hcur2⟩ : ∃ cur2, (cur.toList.take (i * 7) ++ zs ++ cur.toList.drop (i * 7 + zs.length)).toArray = cur2 := ⟨_, rfl⟩
        rw [hcur2] at hclr
        have hcl : cur.toList.length = c * 7 := by rw [Array.length_toList]; exact hb3
        have HFin : Hid ((wr.setRow g cur2).ownsRow 0 26 7 (.slice (some ⟨g, 0, none⟩) i c) i ((l.filter K).flatMap paC) ∧ Tch w (wr.setRow g cur2) [g]) := Lib.hid (by
          refine ⟨⟨by rw [flatk_len pa_seven, hFl.out], .inr ⟨g, c, _, rfl, Nat.zero_le _, setRow_blk hcur, by omega, hb2, ?_, ?_⟩⟩, hT.out.trans_fre (setRow_tch wr g _) (by simp)⟩
          · rw [← hcur2]
            simp only [List.size_toArray, List.length_append, List.length_take, List.length_drop, hcl, hzl]
            omega
          · rw [← hcur2, List.toList_toArray, List.append_assoc, List.take_left' (by rw [List.length_take, hcl]; omega), take_cut hb4 (by omega), ← hXt.out]
            rw [← List.take_append_drop i X, List.flatMap_append, List.take_left' (by rw [flatk_len pa_seven, List.length_take, hXl.out]; omega)]
            rw [List.take_append_drop])
        have hic : i ≤ c := by omega
        have hci : ¬ c = i := by omega
        have hib : (0 : Int) ≤ (i : Int) ∧ (i : Int) ≤ (j : Int) := by omega
        have hib2 : (i : Int) ≤ (c : Int) := by omega
        have HFl := Lib.hid hFl.out
        clear hclr0 hcur2 hjl hb1 hb2 hb3 hb4 hcl hzl hcur hFe
        go_wp2
        go_ret
        exact ⟨by rw [HFl.out]; rfl, by rw [HFl.out]; exact HFin.out.1, HFin.out.2⟩
end Go.Proofs.YtjlmgkdieffjcaaDoor

namespace Go.Proofs.YtjlmgkdieffjcaaDoor
open Go.RowKit
set_option linter.unusedVariables false

/-- What stands once the Proto's paths to some prefixes are gone. -/
def flK (L : List TdI) (ps : List PfI) (pr : Int) : List TdI := L.filter fun t => !(decide (t.1 ∈ ps) && decide (t.2.1 = pr))
theorem flK_nil (L : List TdI) (pr : Int) : flK L [] pr = L := by unfold flK; exact List.filter_eq_self.2 fun t _ => by simp
theorem flK_snoc (L : List TdI) (ps : List PfI) (p : PfI) (pr : Int) : flK L (ps ++ [p]) pr = (flK L ps pr).filter fun t => !(decide (t.1 = p) && decide (t.2.1 = pr)) := by
  unfold flK
  rw [List.filter_filter]
  refine List.filter_congr fun t _ => ?_
  by_cases h1 : t.1 ∈ ps <;> by_cases h2 : t.1 = p <;> by_cases h3 : t.2.1 = pr <;> simp [h1, h2, h3]
theorem flK_all {L : List TdI} {ps : List PfI} (h : ∀ t ∈ L, t.1 ∈ ps) (pr : Int) : flK L ps pr = (flushR L pr).1 := by
  unfold flK flushR
  refine List.filter_congr fun t ht => ?_
  simp [h t ht]
theorem flK_has {L : List TdI} {ps : List PfI} {p : PfI} {pr : Int} (hn : p ∉ ps) : pathsI (flK L ps pr) p = pathsI L p := by
  unfold flK
  rw [flush_row L _ (fun _ => true) p (fun t ht => by rw [ht]; simp [hn])]
  exact List.filter_eq_self.2 fun _ _ => rfl
theorem inv_len {L : List TdI} (h : InvB L) : L.length ≤ 360 := by
  have h1 := len_sum (prefsI L) L (prefsI_nodup h.inv) (fun u hu => (prefsI_mem h.inv).2 ⟨u, hu, rfl⟩)
  have h9 := h.ninety
  have h4 : ∀ K : List PfI, (K.map fun p => (pathsI L p).length).sum ≤ 4 * K.length := fun K => by
    induction K with
    | nil => simp
    | cons p K ih => rw [List.map_cons, List.sum_cons, List.length_cons]; have := h.four p; omega
  have := h4 (prefsI L)
  omega
set_option maxRecDepth 100000 in
set_option maxHeartbeats 4000000 in
theorem flushP (t : Nat) (S : List Nat) (L : List TdI) (pr : Int) (hi : I64 pr) (w : World) (h : RbP w t S L) :
    Calls Tryd.prog 23 #[.pointer (some ⟨t, 0, none⟩), .int .i64 pr] w fun e w' => e = .returned (.int .i64 (flushR L pr).2) ∧ ∃ S', RbP w' t S' (flushR L pr).1 ∧ Goes w w' S S' := by
  have HP := Lib.hid h
  have hI := h.inv
  have HI := Lib.hid hI
  have hlen := inv_len hI
  have hok : ∀ u ∈ L, PfOk u.1 ∧ PaOk u.2 := by obtain ⟨m0, M0, hr⟩ := h; exact hr.ok
  have HOk := Lib.hid hok
  have HSl := Lib.hid h.lt
  obtain ⟨l, hl⟩ : ∃ l, prefsI L = l := ⟨_, rfl⟩
  obtain ⟨n, hn⟩ : ∃ n, l.length = n := ⟨_, rfl⟩
  have hn90 : n ≤ 90 := by rw [← hn, ← hl]; exact hI.ninety
  have HMem : Hid (∀ u ∈ L, u.1 ∈ l) := Lib.hid (fun u hu => hl ▸ (prefsI_mem hI.inv).2 ⟨u, hu, rfl⟩)
  have HNod : Hid (l.Nodup) := Lib.hid (hl ▸ prefsI_nodup hI.inv)
  have HPos : Hid (∀ p ∈ l, 0 < (pathsI L p).length) := Lib.hid (fun p hp => by
    rw [← hl] at hp
    exact Nat.pos_of_ne_zero fun h0 => (paths_nil hI.inv).1 h0 hp)
  have HPr := Lib.hid (fun W (hR : RbP W t S L) => prefsP t S L W hR)
  have HCn := Lib.hid (fun W S' L' (hR : RbP W t S' L') => countP t S' L' W hR)
  rw [hl, hn] at HPr
  have HN := Lib.hid hn
  obtain ⟨xb, hxb⟩ : ∃ xb, w.heap.size = xb := ⟨_, rfl⟩
  obtain ⟨W0, hW0⟩ : ∃ W, w.alloc (.cells #[.int .i64 pr] 3) = W := ⟨_, rfl⟩
  have hT0 : Tch w W0 [] := hW0 ▸ (Tch.refl w []).alloc _
  have HX0 : Hid (Blk W0 xb 3 #[.int .i64 pr]) := Lib.hid (hW0 ▸ hxb ▸ Blk.new w _ _)
  have HXn : Hid (xb ∉ S) := Lib.hid (fun hm => by have := h.lt _ hm; omega)
  have HT0 := Lib.hid hT0
  have HR0 := Lib.hid (h.tch hT0 (by simp))
  have HWs := Lib.hid (And.intro hW0 hxb)
  have HSx : Hid (∀ s ∈ S, s < xb) := Lib.hid (fun s hs => hxb ▸ h.lt s hs)
  clear h hI hok hl hn hxb hW0 hT0
  go_enter Tryd.func23, Tryd.ntmps23
  go_wp2_with fail
  rw [HWs.out.1, HWs.out.2]
  refine Calls.mono (HCn.out W0 S L HR0.out) ?_
  rintro e w1 ⟨rfl, hR1, hT1⟩
  have HR1 := Lib.hid hR1
  have HT1 := Lib.hid hT1
  clear hR1 hT1
  go_wp2_with fail
  refine Calls.mono (HPr.out w1 HR1.out) ?_
  rintro e w2 ⟨Al, cl, rfl, hol, hR2, hT2⟩
  have HR2 := Lib.hid hR2
  have HX2 := Lib.hid (hT2.blk (HT1.out.blk HX0.out HXn.out) HXn.out)
  have HOl := Lib.hid hol
  have HOn : Hid (∀ s ∈ obI (.slice Al n cl), s ∉ S) := Lib.hid (fun s hs hm => by
    have h1 := (own_geI hol s hs).1
    have h2 := HSx.out s hm
    have h3 := HX0.out.lt
    have h4 := HT1.out.size
    omega)
  have HT02 : Hid (Tch w w2 S) := Lib.hid (((HT0.out.mono (T := S) (by simp)).trans HT1.out).trans hT2)
  have HX2l : Hid (xb < w2.heap.size) := Lib.hid HX2.out.lt
  clear hol hR2 hT2
  go_wp2
  go_loopw [13] (fun kv wr => ∃ (k : Nat) (S' : List Nat), kv = .int .i64 (k : Int) ∧ k ≤ n ∧ Hid (RbP wr t S' (flK L (l.take k) pr)) ∧ Hid (Goes w2 wr S S')) (fun kv _ => n - (intOf kv).toNat)
  case atStart => exact ⟨0, S, rfl, Nat.zero_le _, by rw [List.take_zero, flK_nil]; exact HR2, Lib.hid (Goes.of_tch (Tch.refl _ _))⟩
  case round =>
    obtain ⟨k, S', rfl, hk, hR, hG⟩ := hrel
    have k1 : IntKind.i64.wrap ((k : Int) + 1) = (k : Int) + 1 := by rw [IntKind.wrap_i64]; omega
    by_cases hkn : k < n
    · have kI : (k : Int) < (n : Int) := by omega
      have k0 : (0 : Int) ≤ (k : Int) := by omega
      obtain ⟨p, hp⟩ : ∃ p, l[k]? = some p := ⟨_, List.getElem?_eq_getElem (by rw [HN.out]; exact hkn)⟩
      have hO := own_tch HOl.out hG.out.tch HOn.out
      obtain ⟨gl, rfl⟩ := slice_some hO (by omega)
      obtain ⟨q0, q1, q2, q3⟩ := pf_cells (own_mono hO (Nat.zero_le _)) hp
      have hX := hG.out.tch.blk HX2.out HXn.out
      have hnp : p ∉ l.take k := fun hm => by
        obtain ⟨j, hj⟩ := List.getElem?_of_mem hm
        have hjk : j < k := by have := (List.getElem?_eq_some_iff.1 hj).1; rw [List.length_take] at this; omega
        rw [List.getElem?_take_of_lt hjk] at hj
        have := (List.getElem?_inj (by rw [HN.out]; omega) HNod.out).1 (hj.trans hp.symm)
        omega
      have hS' : flK L (l.take (k + 1)) pr = (flK L (l.take k) pr).filter fun u => !(decide (u.1 = p) && decide (u.2.1 = pr)) := by
        rw [List.take_add_one, hp]
        exact flK_snoc L _ p pr
      have hpl : 0 < (pathsI (flK L (l.take k) pr) p).length := by rw [flK_has hnp]; exact HPos.out p (List.mem_of_getElem? hp)
      obtain ⟨L1, hL1⟩ : ∃ L1, flK L (l.take k) pr = L1 := ⟨_, rfl⟩
      obtain ⟨L2, hL2⟩ : ∃ L2, flK L (l.take (k + 1)) pr = L2 := ⟨_, rfl⟩
      have hI2 : InvB L2 := hL2 ▸ HI.out.sub List.filter_sublist
      have hok2 : ∀ u ∈ L2, PfOk u.1 ∧ PaOk u.2 := fun u hu => HOk.out u (by rw [← hL2] at hu; exact (List.mem_filter.1 hu).1)
      rw [hL1, hL2] at hS'
      rw [hL1] at hpl
      rw [hL1] at hR
      have HL2 := Lib.hid hL2
      obtain ⟨m, M, hr⟩ := hR.out
      obtain ⟨A, c, he, ho, hlk⟩ := hr.look p
      obtain ⟨g, rfl⟩ := slice_some ho hpl
      have hF1 : pathsI L2 p = (pathsI L1 p).filter fun y => !decide (y.1 = pr) := by rw [hS']; exact flush_row L1 _ _ p (fun u hu => by rw [hu]; simp)
      have hF2 : ∀ q, ¬ q = p → pathsI L2 q = pathsI L1 q := fun q hq => by
        rw [hS', flush_row L1 _ (fun _ => true) q (fun u hu => by rw [hu]; simp [hq])]
        exact List.filter_eq_self.2 fun _ _ => rfl
      have hn4 := hr.inv.four p
      have hgn := hr.near he
      have htm : ¬ t = m := by have h1 := hr.nod; rw [hr.eS] at h1; exact fun e => (List.nodup_cons.1 h1).1 (by simp [e])
      obtain ⟨r, hrl⟩ : ∃ r, pathsI L1 p = r := ⟨_, rfl⟩
      obtain ⟨F, hF⟩ : ∃ F, (r.filter fun y => !decide (y.1 = pr)) = F := ⟨_, rfl⟩
      obtain ⟨rn, hrn⟩ : ∃ rn, r.length = rn := ⟨_, rfl⟩
      obtain ⟨f, hf⟩ : ∃ f, F.length = f := ⟨_, rfl⟩
      have hxg : ¬ xb = g := fun e => by
        have hgS : g ∈ S' := (hr.sub_ p g (by rw [he]; simp [obI, Value.ownBlock])).1
        rcases hG.out.fre g hgS with h1 | h1
        · exact HXn.out (e ▸ h1)
        · have := HX2l.out; omega
      obtain ⟨kb, hkb⟩ : ∃ kb, wr.heap.size = kb := ⟨_, rfl⟩
      obtain ⟨⟨ps, ph, pl⟩, pb⟩ := p
      obtain ⟨W2, hW2⟩ : ∃ W, wr.alloc (.cells #[.bool ps, .int .u64 (ph : Int), .int .u64 (pl : Int), .int .i64 pb] 37) = W := ⟨_, rfl⟩
      have hT2 : Tch wr W2 [] := hW2 ▸ (Tch.refl wr []).alloc _
      have HK2 : Hid (Blk W2 kb 37 #[.bool ps, .int .u64 (ph : Int), .int .u64 (pl : Int), .int .i64 pb]) := Lib.hid (hW2 ▸ hkb ▸ Blk.new wr _ _)
      have HB2 : Hid (Blk W2 t 64 #[.map (some m)]) := Lib.hid (hT2.blk hr.bt (by simp))
      have hT2d := hT2.drew
      have HT2d := Lib.hid hT2d
      have hlk1 : (Instr.lookup 62 (.map (some m)) (.agg #[.bool ps, .int .u64 (ph : Int), .int .u64 (pl : Int), .int .i64 pb]) false).run Tryd.prog W2.drew = .ok (.slice (some ⟨g, 0, none⟩) rn c) W2.drew := by have := hlk _ hT2d; rw [hrl, hrn] at this; exact this
      have HDc := Lib.hid (delfn_any pr xb (some ⟨g, 0, none⟩) rn c r hrn (by rw [hrl, hrn] at hn4; omega) W2.drew (by have := own_tch ho hT2d (by simp); rw [hrl, hrn] at this; exact this) ((hT2d.blk hX (by simp)).cell 0) (by simp [obI, Value.ownBlock]; exact hxg))
      rw [hF, hf] at HDc
      rw [hrl] at hF1
      rw [hF] at hF1
      have HCl : Hid (∀ W, Tch W2.drew W [g, m] → W.cell? ⟨t, 0, none⟩ = some (Value.map (some m)) ∧ W.cell? ⟨kb, 0, none⟩ = some (Value.bool ps) ∧ W.cell? ⟨kb, 1, none⟩ = some (Value.int .u64 (ph : Int)) ∧ W.cell? ⟨kb, 2, none⟩ = some (Value.int .u64 (pl : Int)) ∧ W.cell? ⟨kb, 3, none⟩ = some (Value.int .i64 pb)) := Lib.hid (fun W hT => ⟨(hT.blk (show Blk W2.drew t _ _ from HB2.out.drew) (by simp; exact ⟨hgn.1.symm, htm⟩)).cell 0, (hT.blk (show Blk W2.drew kb _ _ from HK2.out.drew) (by simp; rw [← hkb]; exact ⟨by have := hgn.2.2; omega, by have := hr.mp.lt; omega⟩)).c4⟩)
      have HKc := Lib.hid (fun w3 (hT : Tch W2.drew w3 [g]) => keep_any t m M ((ps, ph, pl), pb) (some ⟨g, 0, none⟩) f c w3 (hT.blk HB2.out.drew (by simpa using hgn.1.symm)) (hr.mp.tch ((hT2d.mono (T := [g]) (by simp)).trans hT) (by simpa using hgn.2.1.symm)))
      have HFin : Hid (∀ w3 w4, Tch W2.drew w3 [g] → w3.ownsRow 0 26 7 (.slice (some ⟨g, 0, none⟩) f c) f (F.flatMap paC) → MpIs (fun p => pfR p) w4 m (if f = 0 then mpDel M ((ps, ph, pl), pb) else mpPut M ((ps, ph, pl), pb) (.slice (some ⟨g, 0, none⟩) f c)) → Tch w3 w4 [m] → ∃ S2, RbP w4 t S2 L2 ∧ Goes wr w4 S' S2) := Lib.hid (fun w3 w4 h1 h2 h3 h4 => hr.kept he ((hT2d.mono (by simp)).trans h1) hF1 hf h2 hF2 hI2 hok2 h3 h4)
      have HWs2 := Lib.hid (And.intro hW2 hkb)
      have HC2 := Lib.hid (HCl.out W2.drew (Tch.refl _ _))
      have HC2' : Hid (W2.cell? ⟨t, 0, none⟩ = some (Value.map (some m)) ∧ W2.cell? ⟨kb, 0, none⟩ = some (Value.bool ps) ∧ W2.cell? ⟨kb, 1, none⟩ = some (Value.int .u64 (ph : Int)) ∧ W2.cell? ⟨kb, 2, none⟩ = some (Value.int .u64 (pl : Int)) ∧ W2.cell? ⟨kb, 3, none⟩ = some (Value.int .i64 pb)) := Lib.hid HC2.out
      clear htm hp hO hX hnp hS' hpl hL1 hL2 hI2 hok2 hr he ho hlk hF1 hF2 hn4 hgn hrl hF hrn hf hxg hkb hW2 hT2 hT2d
      go_wp2_with fail
      rw [HWs2.out.1, HWs2.out.2]
      clear q0 q1 q2 q3
      refine wp_region_held_drew (S := (fun W => W.cell? ⟨t, 0, none⟩ = some (Value.map (some m)) ∧ W.cell? ⟨kb, 0, none⟩ = some (Value.bool ps) ∧ W.cell? ⟨kb, 1, none⟩ = some (Value.int .u64 (ph : Int)) ∧ W.cell? ⟨kb, 2, none⟩ = some (Value.int .u64 (pl : Int)) ∧ W.cell? ⟨kb, 3, none⟩ = some (Value.int .i64 pb))) (by kernel_rfl) ?_ (fun hHeld => ?_)
      · (first | exact HC2.out | exact HC2'.out | exact HC4.out | exact HC3.out)
      refine wpAnyH_take (i := 0) (oi := { dst := some 17, op := Go.Op.move (Go.Operand.tmp 0), type := 31, pos := "rib.go:65", after := #[], guard := none }) (v := ?_) rfl (by kernel_rfl) (by kernel_rfl) (by kernel_rfl) (fun _ _ _ h => h) (Or.inl ⟨by rfl, ?_⟩) (by assumption) ?_
      rotate_left
      · intro w hSw
        (try dsimp only at hSw)
        go_simp
        try (with_reducible rfl)
      try simp only [Act.put, List.setIfInBounds_toArray, List.set_cons_zero, List.set_cons_succ]
      refine wpAnyH_take (i := 1) (oi := { dst := some 18, op := Go.Op.load 37 (Go.Operand.tmp 7), type := 37, pos := "rib.go:65", after := #[], guard := none }) (v := ?_) rfl (by kernel_rfl) (by kernel_rfl) (by kernel_rfl) (fun _ _ _ h => h) (Or.inl ⟨by rfl, ?_⟩) (by assumption) ?_
      rotate_left
      · intro w hSw
        (try dsimp only at hSw)
        go_simp
        try (with_reducible rfl)
      try simp only [Act.put, List.setIfInBounds_toArray, List.set_cons_zero, List.set_cons_succ]
      refine wpAnyH_take (i := 2) (oi := { dst := some 19, op := Go.Op.move (Go.Operand.tmp 0), type := 31, pos := "rib.go:65", after := #[], guard := none }) (v := ?_) rfl (by kernel_rfl) (by kernel_rfl) (by kernel_rfl) (fun _ _ _ h => h) (Or.inl ⟨by rfl, ?_⟩) (by assumption) ?_
      rotate_left
      · intro w hSw
        (try dsimp only at hSw)
        go_simp
        try (with_reducible rfl)
      try simp only [Act.put, List.setIfInBounds_toArray, List.set_cons_zero, List.set_cons_succ]
      refine wpAnyH_take (i := 3) (oi := { dst := some 20, op := Go.Op.nilCheck (Go.Operand.tmp 19), type := 0, pos := "rib.go:65", after := #[{ on := 2, ground := Go.Ground.data }], guard := none }) (v := ?_) rfl (by kernel_rfl) (by kernel_rfl) (by kernel_rfl) (fun _ _ _ h => h) (Or.inl ⟨by rfl, ?_⟩) (by assumption) ?_
      rotate_left
      · intro w hSw
        (try dsimp only at hSw)
        go_simp
        try (with_reducible rfl)
      try simp only [Act.put, List.setIfInBounds_toArray, List.set_cons_zero, List.set_cons_succ]
      refine wpAnyH_take (i := 4) (oi := { dst := some 21, op := Go.Op.fieldAddr 64 (Go.Operand.tmp 20) 0, type := 0, pos := "rib.go:65", after := #[{ on := 3, ground := Go.Ground.data }], guard := none }) (v := ?_) rfl (by kernel_rfl) (by kernel_rfl) (by kernel_rfl) (fun _ _ _ h => h) (Or.inl ⟨by rfl, ?_⟩) (by assumption) ?_
      rotate_left
      · intro w hSw
        (try dsimp only at hSw)
        go_simp
        try (with_reducible rfl)
      try simp only [Act.put, List.setIfInBounds_toArray, List.set_cons_zero, List.set_cons_succ]
      refine wpAnyH_take (i := 5) (oi := { dst := some 22, op := Go.Op.load 62 (Go.Operand.tmp 21), type := 62, pos := "rib.go:65", after := #[{ on := 4, ground := Go.Ground.data }], guard := none }) (v := ?_) rfl (by kernel_rfl) (by kernel_rfl) (by kernel_rfl) (fun _ _ _ h => h) (Or.inl ⟨by rfl, ?_⟩) (by assumption) ?_
      rotate_left
      · intro w hSw
        (try dsimp only at hSw)
        go_simp
        try (with_reducible rfl)
      try simp only [Act.put, List.setIfInBounds_toArray, List.set_cons_zero, List.set_cons_succ]
      refine wpAnyH_take (i := 6) (oi := { dst := some 23, op := Go.Op.load 37 (Go.Operand.tmp 7), type := 37, pos := "rib.go:65", after := #[], guard := none }) (v := ?_) rfl (by kernel_rfl) (by kernel_rfl) (by kernel_rfl) (fun _ _ _ h => h) (Or.inl ⟨by rfl, ?_⟩) (by assumption) ?_
      rotate_left
      · intro w hSw
        (try dsimp only at hSw)
        go_simp
        try (with_reducible rfl)
      try simp only [Act.put, List.setIfInBounds_toArray, List.set_cons_zero, List.set_cons_succ]
      refine wpAnyH_take (i := 8) (oi := { dst := some 25, op := Go.Op.makeFunc (Go.Fn.func 42) #[] #[Go.Operand.tmp 3], type := 56, pos := "rib.go:65", after := #[], guard := none }) (v := ?_) rfl (by kernel_rfl) (by kernel_rfl) (by kernel_rfl) (fun _ _ _ h => h) (Or.inl ⟨by rfl, ?_⟩) (by assumption) ?_
      rotate_left
      · intro w hSw
        (try dsimp only at hSw)
        go_simp
        try (with_reducible rfl)
      try simp only [Act.put, List.setIfInBounds_toArray, List.set_cons_zero, List.set_cons_succ]
      refine wpAnyH_ready (rs := [7]) (by kernel_rfl) (by simp) ?_
      refine AllReadyH.cons (o := { dst := some 24, op := Go.Op.lookup 62 (Go.Operand.tmp 22) (Go.Operand.tmp 23) false, type := 38, pos := "rib.go:65", after := #[{ on := 5, ground := Go.Ground.data }, { on := 6, ground := Go.Ground.data }], guard := none }) rfl (fun K hK => ?_) AllReadyH.nil
      go_simp
      refine hK.out _ _ ?_ (fun hHeld => ?_)
      · (first | exact HC2.out | exact HC2'.out | exact HC4.out | exact HC3.out)
      clear hK K
      try simp only [Act.put, List.setIfInBounds_toArray, List.set_cons_zero, List.set_cons_succ]
      refine wpAnyH_ready (rs := [9]) (by kernel_rfl) (by simp) ?_
      refine AllReadyH.cons (o := { dst := some 26, op := Go.Op.call { callee := Go.Callee.value (Go.Operand.func 41), args := #[Go.Operand.tmp 24, Go.Operand.tmp 25], argTypes := #[38, 56] }, type := 38, pos := "rib.go:65", after := #[{ on := 7, ground := Go.Ground.data }, { on := 8, ground := Go.Ground.data }], guard := none }) rfl (fun K hK => ?_) AllReadyH.nil
      go_simp
      (go_at_call 41; (with_reducible refine Calls.mono HDc.out ?_); rintro e w3 ⟨rfl, ho3, hT3⟩; have HO3 := Lib.hid ho3; have HT3 := Lib.hid (show Tch W2.drew w3 [g] from hT3); have HC3 := Lib.hid (HCl.out w3 (HT3.out.mono (by simp))); have HKd := Lib.hid (HKc.out w3 HT3.out); clear ho3 hT3)
      go_wp2_with fail
      refine hK.out _ _ ?_ (fun hHeld => ?_)
      · (first | exact HC2.out | exact HC2'.out | exact HC4.out | exact HC3.out)
      clear hK K
      try simp only [Act.put, List.setIfInBounds_toArray, List.set_cons_zero, List.set_cons_succ]
      refine wpAnyH_ready (rs := [10]) (by kernel_rfl) (by simp) ?_
      refine AllReadyH.cons (o := { dst := some 27, op := Go.Op.call { callee := Go.Callee.value (Go.Operand.func 40), args := #[Go.Operand.tmp 17, Go.Operand.tmp 18, Go.Operand.tmp 26], argTypes := #[31, 37, 38] }, type := 0, pos := "rib.go:65", after := #[{ on := 0, ground := Go.Ground.data }, { on := 1, ground := Go.Ground.data }, { on := 9, ground := Go.Ground.data }, { on := 9, ground := Go.Ground.chain }], guard := none }) rfl (fun K hK => ?_) AllReadyH.nil
      go_simp
      (go_at_call 40; (with_reducible refine Calls.mono HKd.out ?_); rintro e w4 ⟨rfl, hM4, hT4⟩; have HC4 := Lib.hid (HCl.out w4 ((HT3.out.mono (by simp)).trans (hT4.mono (by simp)))); have HF4 := Lib.hid (HFin.out w3 w4 HT3.out HO3.out hM4 hT4); clear hM4 hT4)
      go_wp2_with fail
      refine hK.out _ _ ?_ (fun hHeld => ?_)
      · (first | exact HC2.out | exact HC2'.out | exact HC4.out | exact HC3.out)
      clear hK K
      try simp only [Act.put, List.setIfInBounds_toArray, List.set_cons_zero, List.set_cons_succ]
      refine wpAnyH_done (by kernel_rfl) ?_ _
      obtain ⟨S2, hR2, hG2⟩ := HF4.out
      rw [← HL2.out] at hR2
      have HR2' := Lib.hid hR2
      have HG2' := Lib.hid (hG.out.trans_ hG2)
      clear hR2 hG2
      go_wp2
      go_roundw
      case rel => exact ⟨k + 1, S2, by go_num, hkn, HR2', HG2'⟩
      case measure => simp [intOf]; omega
    · obtain rfl : k = n := by omega
      have kI : ¬ (k : Int) < (k : Int) := by omega
      have hfl : flK L (l.take k) pr = (flushR L pr).1 := by rw [List.take_of_length_le (by rw [HN.out]; exact Nat.le_refl _)]; exact flK_all HMem.out pr
      have HR9 : Hid (RbP wr t S' (flushR L pr).1) := Lib.hid (hfl ▸ hR.out)
      have hfe : (flushR L pr).2 = (L.length : Int) - ((flushR L pr).1.length : Int) := rfl
      have hle : (flushR L pr).1.length ≤ L.length := List.length_filter_le _ _
      have HC9 := Lib.hid (HCn.out wr S' (flushR L pr).1 HR9.out)
      obtain ⟨L9, hL9⟩ : ∃ L9, (flushR L pr).1 = L9 := ⟨_, rfl⟩
      rw [hL9] at HR9 hfe hle HC9
      have HL9 := Lib.hid hL9
      have HFe := Lib.hid hfe
      have hsub : IntKind.i64.wrap ((L.length : Int) - (L9.length : Int)) = (L.length : Int) - (L9.length : Int) := by rw [IntKind.wrap_i64]; omega
      clear hkn hk hfl hfe hle hL9
      go_wp2_with fail
      refine Calls.mono HC9.out ?_
      rintro e w9 ⟨rfl, hR9, hT9⟩
      have HR10 := Lib.hid hR9
      have HG9 := Lib.hid (((Goes.of_tch HT02.out).trans_ hG.out).trans_ (Goes.of_tch hT9))
      clear hR9 hT9
      go_wp2
      go_ret
      exact ⟨by rw [HFe.out]; rfl, S', by rw [HL9.out]; exact HR10.out, HG9.out⟩
end Go.Proofs.YtjlmgkdieffjcaaDoor

namespace Go.Proofs.YtjlmgkdieffjcaaDoor
open Go.RowKit
set_option linter.unusedVariables false

/-- The distances lie as they were laid, beside a rib's own blocks. -/
def EnvN (w : World) (S : List Nat) : Prop := EnvR w ∧ 0 ∉ S
theorem EnvR.n {w W : World} {S : List Nat} (h : EnvR w) (hb : Below w.heap.size w W) (hs : ∀ s ∈ S, w.heap.size ≤ s) : EnvN W S := ⟨h.below hb, h.nin hs⟩
end Go.Proofs.YtjlmgkdieffjcaaDoor

namespace Go.Proofs.YtjlmgkdieffjcaaDoor
open Go.RowKit
set_option linter.unusedVariables false

/-- A step: What, Prefix, Path. -/
structure StpR where
  what : Int
  pf : PfI
  pa : PaI
def StpR.ok (x : StpR) : Prop := I64 x.what ∧ PfOk x.pf ∧ PaOk x.pa
def srC (x : StpR) : List Value := [.int .i64 x.what, .bool x.pf.1.1, .int .u64 (x.pf.1.2.1 : Int), .int .u64 (x.pf.1.2.2 : Int), .int .i64 x.pf.2, .int .i64 x.pa.1, .int .i64 x.pa.2.1, .bool x.pa.2.2.1.1, .int .u64 (x.pa.2.2.1.2.1 : Int), .int .u64 (x.pa.2.2.1.2.2 : Int), .int .i64 x.pa.2.2.2.1, .bool x.pa.2.2.2.2]
abbrev srV (x : StpR) : Value := .agg #[.int .i64 x.what, .bool x.pf.1.1, .int .u64 (x.pf.1.2.1 : Int), .int .u64 (x.pf.1.2.2 : Int), .int .i64 x.pf.2, .int .i64 x.pa.1, .int .i64 x.pa.2.1, .bool x.pa.2.2.1.1, .int .u64 (x.pa.2.2.1.2.1 : Int), .int .u64 (x.pa.2.2.1.2.2 : Int), .int .i64 x.pa.2.2.2.1, .bool x.pa.2.2.2.2]
/-- What a step leaves; what it answers. -/
def doR (L : List TdI) (x : StpR) : List TdI × Int × Int :=
  if x.what % 8 = 3 then ((dropR L x.pf x.pa).1, 0, (dropR L x.pf x.pa).2)
  else if x.what % 8 = 4 then ((flushR L x.pa.1).1, (flushR L x.pa.1).2, 0)
  else ((putR L x.pf x.pa).1, 0, (putR L x.pf x.pa).2)
theorem InvB.do_ {L : List TdI} (h : InvB L) {x : StpR} (hx : x.ok) : InvB (doR L x).1 := by
  unfold doR
  split
  · exact h.drop _ _
  · split
    · exact h.flush _
    · exact h.put _ _ hx.2.1.1 hx.2.2.2.2.1
/-- At most four to each prefix. -/
theorem len_four : ∀ (P : List PfI) (L : List TdI), (∀ t ∈ L, t.1 ∈ P) → (∀ p, (pathsI L p).length ≤ 4) → L.length ≤ 4 * P.length
  | [], L, h, _ => by
    cases L with
    | nil => simp
    | cons t r => exact absurd (h t (by simp)) (by simp)
  | p :: P, L, h, h4 => by
    have h1 : L.length = (L.filter fun t => decide (t.1 = p)).length + (L.filter fun t => !decide (t.1 = p)).length := by
      clear h h4
      induction L with
      | nil => rfl
      | cons t r ih => by_cases e : t.1 = p <;> simp [e, ih] <;> omega
    have h2 : (L.filter fun t => decide (t.1 = p)).length ≤ 4 := by have := h4 p; unfold pathsI at this; rw [List.length_map] at this; exact this
    have h3 := len_four P (L.filter fun t => !decide (t.1 = p)) (fun t ht => by
      have h5 := List.mem_filter.1 ht
      rcases List.mem_cons.1 (h t h5.1) with e | e
      · exact absurd h5.2 (by simp [e])
      · exact e) (fun q => by
      refine Nat.le_trans ?_ (h4 q)
      unfold pathsI
      rw [List.length_map, List.length_map]
      exact (List.filter_sublist.filter _).length_le)
    rw [List.length_cons]
    omega
theorem InvB.len {L : List TdI} (h : InvB L) : L.length ≤ 360 := by
  have h1 := len_four (prefsI L) L (fun t ht => (prefsI_mem h.inv).2 ⟨t, ht, rfl⟩) h.four
  have := h.ninety
  omega
theorem InvB.len3 {L : List TdI} (h : InvB L) : L.length ≤ 1000 := Nat.le_trans h.len (by decide)
theorem and_lowR (n : Int) (k : Nat) (hk : k ≤ 16) : bits .and .i64 n ((2 ^ k - 1 : Nat) : Int) = n % ((2 ^ k : Nat) : Int) := by
  have h0 : 2 ^ k ≤ 2 ^ 16 := Nat.pow_le_pow_right (by decide) hk
  have h00 : 0 < 2 ^ k := Nat.pow_pos (by decide)
  have h7 : (BitVec.ofInt 64 ((2 ^ k - 1 : Nat) : Int)).toNat = 2 ^ k - 1 := by
    rw [BitVec.toNat_ofInt]
    omega
  have key : (BitVec.ofInt 64 n &&& BitVec.ofInt 64 ((2 ^ k - 1 : Nat) : Int)).toNat = (n % ((2 ^ 64 : Nat) : Int)).toNat % 2 ^ k := by
    rw [BitVec.toNat_and, BitVec.toNat_ofInt, h7, Nat.and_two_pow_sub_one_eq_mod]
  show IntKind.i64.wrap ((BitVec.ofInt 64 n &&& BitVec.ofInt 64 ((2 ^ k - 1 : Nat) : Int)).toNat : Nat) = n % ((2 ^ k : Nat) : Int)
  rw [key, IntKind.wrap_i64]
  have hd : ((2 ^ k : Nat) : Int) ∣ ((2 ^ 64 : Nat) : Int) := Int.natCast_dvd_natCast.2 (Nat.pow_dvd_pow 2 (by omega))
  have h1 : (((n % ((2 ^ 64 : Nat) : Int)).toNat % 2 ^ k : Nat) : Int) = n % ((2 ^ k : Nat) : Int) := by
    rw [Int.natCast_emod, Int.toNat_of_nonneg (by omega), Int.emod_emod_of_dvd n hd]
  have h2 := Int.emod_lt_of_pos n (show (0 : Int) < ((2 ^ k : Nat) : Int) by omega)
  have h3 := Int.emod_nonneg n (show ((2 ^ k : Nat) : Int) ≠ 0 by omega)
  rw [h1]
  omega
theorem and7R (n : Int) : bits .and .i64 n 7 = n % 8 := by have := and_lowR n 3 (by decide); simpa using this
end Go.Proofs.YtjlmgkdieffjcaaDoor

namespace Go.Proofs.YtjlmgkdieffjcaaDoor
open Go.RowKit
set_option linter.unusedVariables false

set_option maxRecDepth 100000 in
set_option maxHeartbeats 4000000 in
theorem do_any (t : Nat) (S : List Nat) (L : List TdI) (x : StpR) (hx : x.ok) (w : World) (hE : EnvN w S) (h : RbP w t S L) :
    Calls Tryd.prog 27 #[.pointer (some ⟨t, 0, none⟩), srV x] w fun e w' => e = .returned (.tuple #[.int .i64 (doR L x).2.1, .int .i64 (doR L x).2.2]) ∧ ∃ S', RbP w' t S' (doR L x).1 ∧ Goes w w' S S' := by
  obtain ⟨wh, ⟨⟨ps, ph, pl⟩, pb⟩, pr, me, ⟨vs, vh, vl⟩, po, aw⟩ := x
  obtain ⟨o1, o2, o3⟩ := hx
  have o2 : PfOk ((ps, ph, pl), pb) := o2
  have o3 : PaOk (pr, me, (vs, vh, vl), po, aw) := o3
  obtain ⟨xb, hxb⟩ : ∃ xb, w.heap.size = xb := ⟨_, rfl⟩
  obtain ⟨W0, hW0⟩ : ∃ W, w.alloc (.cells #[.int .i64 wh, .bool ps, .int .u64 (ph : Int), .int .u64 (pl : Int), .int .i64 pb, .int .i64 pr, .int .i64 me, .bool vs, .int .u64 (vh : Int), .int .u64 (vl : Int), .int .i64 po, .bool aw] 61) = W := ⟨_, rfl⟩
  have hX : Blk W0 xb 61 #[.int .i64 wh, .bool ps, .int .u64 (ph : Int), .int .u64 (pl : Int), .int .i64 pb, .int .i64 pr, .int .i64 me, .bool vs, .int .u64 (vh : Int), .int .u64 (vl : Int), .int .i64 po, .bool aw] := hW0 ▸ hxb ▸ Blk.new _ _ _
  have x0 := (hX.cell 0).trans (show _ = some (Value.int .i64 wh) by rfl)
  have x1 := (hX.cell 1).trans (show _ = some (Value.bool ps) by rfl)
  have x2 := (hX.cell 2).trans (show _ = some (Value.int .u64 (ph : Int)) by rfl)
  have x3 := (hX.cell 3).trans (show _ = some (Value.int .u64 (pl : Int)) by rfl)
  have x4 := (hX.cell 4).trans (show _ = some (Value.int .i64 pb) by rfl)
  have x5 := (hX.cell 5).trans (show _ = some (Value.int .i64 pr) by rfl)
  have x6 := (hX.cell 6).trans (show _ = some (Value.int .i64 me) by rfl)
  have x7 := (hX.cell 7).trans (show _ = some (Value.bool vs) by rfl)
  have x8 := (hX.cell 8).trans (show _ = some (Value.int .u64 (vh : Int)) by rfl)
  have x9 := (hX.cell 9).trans (show _ = some (Value.int .u64 (vl : Int)) by rfl)
  have x10 := (hX.cell 10).trans (show _ = some (Value.int .i64 po) by rfl)
  have x11 := (hX.cell 11).trans (show _ = some (Value.bool aw) by rfl)
  have hT0 : Tch w W0 [] := hW0 ▸ (Tch.refl w []).alloc _
  have HT0 : Hid (Tch w W0 S) := Lib.hid (hT0.mono (by simp))
  have hP0 := h.tch hT0 (by simp)
  have hE0 := hE.1.tch0 hT0
  have HW0 := Lib.hid (And.intro hW0 hxb)
  obtain ⟨k, hk⟩ : ∃ k, wh % 8 = k := ⟨_, rfl⟩
  have ha : bits .and .i64 wh 7 = k := by rw [and7R]; exact hk
  have HGo : Hid (∀ W S', Goes W0 W S S' → Goes w W S S') := Lib.hid (fun W S' hg => (Goes.of_tch HT0.out).trans_ hg)
  by_cases k3 : k = 3
  · subst k3
    have HE : Hid (doR L ⟨wh, ((ps, ph, pl), pb), (pr, me, (vs, vh, vl), po, aw)⟩ = ((dropR L ((ps, ph, pl), pb) (pr, me, (vs, vh, vl), po, aw)).1, 0, (dropR L ((ps, ph, pl), pb) (pr, me, (vs, vh, vl), po, aw)).2)) := Lib.hid (by unfold doR; rw [if_pos (show wh % 8 = 3 from hk)])
    have HC := Lib.hid (dropP t S L ((ps, ph, pl), pb) (pr, me, (vs, vh, vl), po, aw) o2 o3 W0 hP0)
    clear hk hE hE0 hP0 h hT0 hX hW0 hxb o1 o2 o3
    go_enter Tryd.func27, Tryd.ntmps27
    go_wp2_with fail
    rw [HW0.out.1, HW0.out.2]
    refine Calls.mono HC.out ?_
    rintro e w1 ⟨rfl, S', hI, hg⟩
    have HI := Lib.hid hI
    have HG := Lib.hid (HGo.out _ _ hg)
    clear hI hg x0 x1 x2 x3 x4 x5 x6 x7 x8 x9 x10 x11
    go_wp2
    refine bodyPost_ret (v := .tuple #[.int .i64 (((dropR L ((ps, ph, pl), pb) (pr, me, (vs, vh, vl), po, aw)).1, 0, (dropR L ((ps, ph, pl), pb) (pr, me, (vs, vh, vl), po, aw)).2)).2.1, .int .i64 (((dropR L ((ps, ph, pl), pb) (pr, me, (vs, vh, vl), po, aw)).1, 0, (dropR L ((ps, ph, pl), pb) (pr, me, (vs, vh, vl), po, aw)).2)).2.2]) (by simp [results, Tryd.results27, go_sem]) rfl ⟨by rw [HE.out], S', by rw [HE.out]; exact HI.out, HG.out⟩
  by_cases k4 : k = 4
  · subst k4
    have HE : Hid (doR L ⟨wh, ((ps, ph, pl), pb), (pr, me, (vs, vh, vl), po, aw)⟩ = ((flushR L pr).1, (flushR L pr).2, 0)) := Lib.hid (by unfold doR; rw [if_neg (show ¬ wh % 8 = 3 by omega), if_pos (show wh % 8 = 4 from hk)])
    have HC := Lib.hid (flushP t S L pr o3.1 W0 hP0)
    clear hk hE hE0 hP0 h hT0 hX hW0 hxb o1 o2 o3
    go_enter Tryd.func27, Tryd.ntmps27
    go_wp2_with fail
    rw [HW0.out.1, HW0.out.2]
    refine Calls.mono HC.out ?_
    rintro e w1 ⟨rfl, S', hI, hg⟩
    have HI := Lib.hid hI
    have HG := Lib.hid (HGo.out _ _ hg)
    clear hI hg x0 x1 x2 x3 x4 x5 x6 x7 x8 x9 x10 x11
    go_wp2
    refine bodyPost_ret (v := .tuple #[.int .i64 (((flushR L pr).1, (flushR L pr).2, 0)).2.1, .int .i64 (((flushR L pr).1, (flushR L pr).2, 0)).2.2]) (by simp [results, Tryd.results27, go_sem]) rfl ⟨by rw [HE.out], S', by rw [HE.out]; exact HI.out, HG.out⟩
  · have b3 : (k == (3 : Int)) = false := by simpa using k3
    have b4 : (k == (4 : Int)) = false := by simpa using k4
    have HE : Hid (doR L ⟨wh, ((ps, ph, pl), pb), (pr, me, (vs, vh, vl), po, aw)⟩ = ((putR L ((ps, ph, pl), pb) (pr, me, (vs, vh, vl), po, aw)).1, 0, (putR L ((ps, ph, pl), pb) (pr, me, (vs, vh, vl), po, aw)).2)) := Lib.hid (by unfold doR; rw [if_neg (show ¬ wh % 8 = 3 by omega), if_neg (show ¬ wh % 8 = 4 by omega)])
    have HC := Lib.hid (putP t S L ((ps, ph, pl), pb) (pr, me, (vs, vh, vl), po, aw) o2 o3 W0 hE0 hE.2 hP0)
    clear hk k3 k4 hE hE0 hP0 h hT0 hX hW0 hxb o1 o2 o3
    go_enter Tryd.func27, Tryd.ntmps27
    go_wp2_with fail
    rw [HW0.out.1, HW0.out.2]
    refine Calls.mono HC.out ?_
    rintro e w1 ⟨rfl, S', hI, hg⟩
    have HI := Lib.hid hI
    have HG := Lib.hid (HGo.out _ _ hg)
    clear hI hg x0 x1 x2 x3 x4 x5 x6 x7 x8 x9 x10 x11
    go_wp2
    refine bodyPost_ret (v := .tuple #[.int .i64 (((putR L ((ps, ph, pl), pb) (pr, me, (vs, vh, vl), po, aw)).1, 0, (putR L ((ps, ph, pl), pb) (pr, me, (vs, vh, vl), po, aw)).2)).2.1, .int .i64 (((putR L ((ps, ph, pl), pb) (pr, me, (vs, vh, vl), po, aw)).1, 0, (putR L ((ps, ph, pl), pb) (pr, me, (vs, vh, vl), po, aw)).2)).2.2]) (by simp [results, Tryd.results27, go_sem]) rfl ⟨by rw [HE.out], S', by rw [HE.out]; exact HI.out, HG.out⟩
end Go.Proofs.YtjlmgkdieffjcaaDoor
