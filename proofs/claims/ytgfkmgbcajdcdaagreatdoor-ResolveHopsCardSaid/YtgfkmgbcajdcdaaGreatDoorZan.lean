/-
  Several texts in one: RpO, RpP, RpQ.
-/
import Derived.Test.YtgfkmgbcajdcdaaGreatDoorZal
import Derived.Test.YtgfkmgbcajdcdaaGreatDoorZam
import Derived.Test.YtgfkmgbcajdcdaaGreatDoorZah
import Derived.Test.YtgfkmgbcajdcdaaGreatDoorZag
import Derived.Test.YtgfkmgbcajdcdaaGreatDoorZaa
set_option linter.unusedVariables false
set_option maxRecDepth 100000
set_option maxHeartbeats 16000000
namespace Go.Proofs.YtgfkmgbcajdcdaaGreatDoor
open Go.RowKit Go.Shelf Go.Sort

abbrev PfV : Type := { p : PfI // (pvI p = true ∧ vld p.1.1 (p.1.2.1 : Int) (p.1.2.2 : Int) = true) ∧ N64 p.1.2.1 ∧ N64 p.1.2.2 }
instance : Inhabited PfV := ⟨⟨((false, 0, 0), 0), ⟨by decide, by decide⟩, by unfold N64; decide, by unfold N64; decide⟩⟩
def vC (x : PfV) : List Value := pfC x.1
theorem vC_len (x : PfV) : (vC x).length = 4 := pf_four x.1
theorem vC_one (x : PfV) : ∀ v ∈ vC x, v.oneCell' = true := pf_one x.1
theorem lexP_swo {α : Type} (key : α → List Int) (hk : ∀ x y, (key x).length = (key y).length) (lt : α → α → Bool) (h : ∀ x y, lt x y = true ↔ lexP (key x) (key y)) : SWO lt := by
 have hf : ∀ x y, lt x y = false ↔ key x = key y ∨ lexP (key y) (key x) := fun x y => by
  have h1 := h x y
  rcases lexP.tri (hk x y) with e | e | e
  ·have : ¬ (key x = key y ∨ lexP (key y) (key x)) := by
    rintro (e2 | e2)
    ·rw [e2] at e; exact lexP.irrefl _ e
    ·exact lexP.irrefl _ (lexP.trans e e2)
   rw [h1.2 e]; simp [this]
  ·refine ⟨fun _ => .inl e, fun _ => ?_⟩
   cases hb : lt x y with
   | false => rfl
   | true => have := h1.1 hb; rw [e] at this; exact absurd this (lexP.irrefl _)
  ·refine ⟨fun _ => .inr e, fun _ => ?_⟩
   cases hb : lt x y with
   | false => rfl
   | true => exact absurd (lexP.trans (h1.1 hb) e) (lexP.irrefl _)
 refine ⟨fun x => (hf x x).2 (.inl rfl), fun x y z a b => (h x z).2 (lexP.trans ((h x y).1 a) ((h y z).1 b)), fun x y z a b => (hf x z).2 ?_⟩
 rcases (hf x y).1 a with e | e
 ·rcases (hf y z).1 b with e2 | e2
  ·exact .inl (e.trans e2)
  ·rw [e]; exact .inr e2
 ·rcases (hf y z).1 b with e2 | e2
  ·rw [← e2]; exact .inr e
  ·exact .inr (lexP.trans e2 e)
def cmpPI (p q : PfI) : Int := if lessI p q = true then -1 else if lessI q p = true then 1 else 0
theorem cmpV_swo : SWO (ltOf fun x y : PfV => cmpPI x.1 y.1) := by
 refine lexP_swo (fun x : PfV => keyP x.1) (fun _ _ => rfl) _ fun x y => ?_
 rw [← lessI_key x.2.1.1 y.2.1.1 x.2.1.2 y.2.1.2]
 show decide ((if lessI x.1 y.1 = true then (-1 : Int) else if lessI y.1 x.1 = true then 1 else 0) < 0) = true ↔ _
 generalize lessI x.1 y.1 = A
 generalize lessI y.1 x.1 = B
 cases A <;> cases B <;> simp
theorem cmpB_swo : SWO (ltOf fun x y : PfV => cmpI y.1.2 x.1.2) := by
 refine lexP_swo (fun x : PfV => [-x.1.2]) (fun _ _ => rfl) _ fun x y => ?_
 unfold ltOf cmpI
 simp only [lexP, decide_eq_true_eq]
 split
 ·simp; omega
 ·split <;> simp <;> omega
theorem cmpPf_any (p q : PfI) (hp : N64 p.1.2.1 ∧ N64 p.1.2.2) (hq : N64 q.1.2.1 ∧ N64 q.1.2.2) (w : World) :
  Calls Tryz.prog 58 #[pfR p, pfR q] w fun e w' => e = .returned (.int .i64 (cmpPI p q)) ∧ BelowD w.heap.size w w' := by
 obtain ⟨⟨s, h, l⟩, b⟩ := p
 obtain ⟨⟨s', h', l'⟩, b'⟩ := q
 unfold cmpPI
 obtain ⟨A, hA⟩ : ∃ A, lessI ((s, h, l), b) ((s', h', l'), b') = A := ⟨_, rfl⟩
 obtain ⟨B, hB⟩ : ∃ B, lessI ((s', h', l'), b') ((s, h, l), b) = B := ⟨_, rfl⟩
 have H1 := lH (fun w => pless_atQ s h l b s' h' l' b' hp.1 hp.2 hq.1 hq.2 hA w)
 have H2 := lH (fun w => pless_atQ s' h' l' b' s h l b hq.1 hq.2 hp.1 hp.2 hB w)
 rw [hA, hB]
 clear hA hB hp hq
 go_enter Tryz.func58, Tryz.ntmps58
 go_wp2_with fail
 refine cZm (H1.out _) ?_
 rintro e w1 ⟨rfl, hb⟩
 have K1 := lH ((Blk.new w 30 #[.bool s, .int .u64 h, .int .u64 l, .int .i64 b]).alloc (.cells #[.bool s', .int .u64 h', .int .u64 l', .int .i64 b'] 30) |>.belowD hb (by simp only [zA]; omega))
 have Q1 := lH ((Blk.new (w.alloc (.cells #[.bool s, .int .u64 h, .int .u64 l, .int .i64 b] 30)) 30 #[.bool s', .int .u64 h', .int .u64 l', .int .i64 b']).belowD hb (by simp only [zA]; omega))
 rw [zA] at Q1
 have L1 := lH ((((BelowD.refl _ w).alloc (Nat.le_refl _) _).alloc (by simp) _).trans (hb.mono (by simp only [zA]; omega)))
 clear hb
 obtain ⟨f0, f1, f2, f3⟩ := K1.out.c4
 obtain ⟨g0, g1, g2, g3⟩ := Q1.out.c4
 cases A
 ·go_wp2_with fail
  refine cZm (H2.out _) ?_
  rintro e w2 ⟨rfl, hb2⟩
  have L2 := lH (L1.out.trans (hb2.mono L1.out.size))
  clear hb2 f0 f1 f2 f3 g0 g1 g2 g3
  cases B
  ·go_wp2
   go_ret
   exact ⟨rfl, L2.out⟩
  ·go_wp2
   go_ret
   exact ⟨rfl, L2.out⟩
 ·go_wp2
  go_ret
  exact ⟨rfl, L1.out⟩
theorem cmpOv_any (p q : PfI) (w : World) :
  Calls Tryz.prog 95 #[pfR p, pfR q] w fun e w' => e = .returned (.int .i64 (cmpI q.2 p.2)) ∧ BelowD w.heap.size w w' := by
 obtain ⟨⟨s, h, l⟩, b⟩ := p
 obtain ⟨⟨s', h', l'⟩, b'⟩ := q
 have H1 := lH (fun w => cmp_i b' b w)
 go_enter Tryz.func95, Tryz.ntmps95
 go_wp2_with fail
 refine cZm (H1.out _) ?_
 rintro e w1 ⟨rfl, rfl⟩
 go_wp2
 go_ret
 exact ⟨rfl, ((BelowD.refl _ w).alloc (Nat.le_refl _) _).alloc (by simp) _⟩
theorem flatK_flat {α : Type} [Inhabited α] (enc : α → List Value) (k : Nat) (hk : ∀ x, (enc x).length = k) (h0 : 0 < k) (d : Array α) : (flatK enc k d).toList = d.toList.flatMap enc := by
 refine List.ext_getElem? fun t => ?_
 by_cases ht : t < d.size * k
 ·have hq : t / k < d.size := Nat.div_lt_of_lt_mul (by rw [Nat.mul_comm]; exact ht)
  have hx : d.toList[t / k]? = some d[t / k]! := by rw [getElem!_pos d _ hq]; simp [hq]
  have hm : t % k < (enc d[t / k]!).length := by rw [hk]; exact Nat.mod_lt _ h0
  have e := flatk_at hk hx (k := t % k) (Nat.mod_lt _ h0)
  rw [show t / k * k + t % k = t by rw [Nat.mul_comm]; exact Nat.div_add_mod t k] at e
  rw [e, Array.getElem?_toList, Array.getElem?_eq_getElem (by rw [size_flatK]; exact ht), ← getElem!_pos (flatK enc k d) t (by rw [size_flatK]; exact ht), get_flatK _ _ _ _ ht, List.getElem?_eq_getElem hm, getElem!_pos (enc d[t / k]!) (t % k) hm]
 ·rw [List.getElem?_eq_none (by rw [Array.length_toList, size_flatK]; omega), List.getElem?_eq_none (by rw [flatk_len hk, Array.length_toList]; omega)]
theorem sortW_own {t : TypeId} {w : World} {g n c m : Nat} {os : Array Obj} {l : List PfV} {d : Array PfV} (hd : d.size = n) (hl : l.length = n) (h : w.ownsRow 0 t 4 (.slice (some ⟨g, 0, none⟩) n c) n (l.flatMap vC)) :
  (sortWorldK vC 4 w g 0 m d os).ownsRow 0 t 4 (.slice (some ⟨g, 0, none⟩) n c) n (d.toList.flatMap vC) ∧ Tch w (sortWorldK vC 4 w g 0 m d os) [g] := by
 obtain ⟨cur, hb, h1, h2, h3, h4⟩ := own_openN h
 have hlt := hb.lt
 have hb' : (sortWorldK vC 4 w g 0 m d os).heap[g]? = some (.cells (putCells id 0 (flatK vC 4 d) cur) t (0, 0)) := by
  show ((w.heap.modify g _) ++ os)[g]? = _
  rw [Array.getElem?_append_left (by simpa using hlt), Array.getElem?_modify, if_pos rfl, show w.heap[g]? = _ from hb]
  rfl
 have hsz : (flatK vC 4 d).size = n * 4 := by rw [size_flatK, hd]
 have htk : (putCells id 0 (flatK vC 4 d) cur).toList.take (n * 4) = d.toList.flatMap vC := by
  rw [← flatK_flat vC 4 vC_len (by decide) d]
  refine List.ext_getElem? fun j => ?_
  by_cases hj : j < n * 4
  ·rw [List.getElem?_take_of_lt hj, Array.getElem?_toList, Array.getElem?_toList]
   have hj2 : j < cur.size := by rw [h3]; exact Nat.lt_of_lt_of_le hj (Nat.mul_le_mul_right _ h1)
   rw [Array.getElem?_eq_getElem (xs := putCells id 0 (flatK vC 4 d) cur) (by unfold putCells; simpa using hj2), Array.getElem?_eq_getElem (xs := flatK vC 4 d) (by rw [hsz]; exact hj)]
   unfold putCells
   simp only [Array.getElem_mapIdx, hsz, Nat.zero_le, Nat.zero_add, hj, true_and, if_true, id, Nat.sub_zero]
   rw [getElem!_pos (flatK vC 4 d) j (by rw [hsz]; exact hj)]
  ·rw [List.getElem?_eq_none (by rw [List.length_take]; omega), List.getElem?_eq_none (by rw [Array.length_toList, hsz]; omega)]
 refine ⟨⟨by rw [flatk_len vC_len, Array.length_toList, hd], .inr ⟨g, c, _, rfl, Nat.zero_le _, hb', h1, h2, by unfold putCells; simpa using h3, htk⟩⟩, rfl, rfl, rfl, ?_, fun k hk hn => ?_⟩
 ·show _ ≤ ((w.heap.modify g _) ++ os).size
  simp
 ·show ((w.heap.modify g _) ++ os)[k]? = _
  rw [Array.getElem?_append_left (by simpa using hk), Array.getElem?_modify, if_neg (by simpa [eq_comm] using hn)]
theorem aggPf (w : World) : (isAgg 30).run Tryz.prog w = .ok true w := by kernel_rfl
theorem sizPf (w : World) : (Go.sizeOf 30).run Tryz.prog w = .ok 4 w := by kernel_rfl
theorem pw_of_srt {α : Type} [Inhabited α] {lt : α → α → Bool} {d : Array α} (h : SortedIn lt 0 d.size d) : d.toList.Pairwise fun x y => lt y x = false := by
 rw [List.pairwise_iff_getElem]
 intro i j hi hj hij
 have := h i j (Nat.zero_le _) hij (by simpa using hj)
 rw [getElem!_pos d j (by simpa using hj), getElem!_pos d i (by simpa using hi)] at this
 simpa using this
theorem sort_any (cf : PfV → PfV → Int) (hO : SWO (ltOf cf)) (f : Nat) (eg : ∀ args w, (callFunc f args).run Tryz.prog w = .ok (.enter f args) w)
  (hc : ∀ (x y : PfV) (W : World), Calls Tryz.prog f #[pfR x.1, pfR y.1] W fun e w' => e = .returned (.int .i64 (cf x y)) ∧ BelowD W.heap.size W w')
  (A : Option Addr) (n c : Nat) (l : List PfV) (hl : l.length = n) (hn : n ≤ 100000) (w : World) (h : w.ownsRow 0 30 4 (.slice A n c) n (l.flatMap vC)) :
  Calls Tryz.prog 94 #[.slice A n c, .func (.func f) #[] #[]] w fun e w' => e = .returned (.tuple #[]) ∧
   ∃ l' : List PfV, l'.Perm l ∧ (l'.Pairwise fun x y => ltOf cf y x = false) ∧ w'.ownsRow 0 30 4 (.slice A n c) n (l'.flatMap vC) ∧ Tch w w' (obI (.slice A n c)) := by
 rcases Nat.eq_zero_or_pos n with h0 | h0
 ·subst h0
  have hl0 : l = [] := List.eq_nil_of_length_eq_zero hl
  subst hl0
  refine (show Calls _ 94 _ _ _ from AnyF.slices_SortFunc_none Tryz.sortA A c (.func (.func f) #[] #[]) w).mono ?_
  rintro e w' ⟨rfl, rfl⟩
  exact ⟨rfl, [], .refl _, .nil, h, Tch.refl _ _⟩
 ·obtain ⟨g, rfl⟩ := slice_some h h0
  subst hl
  have hH : HoldsK vC 4 w g 0 l.toArray := by
   obtain ⟨cur, hb, h1, h2, h3, h4⟩ := own_openN h
   intro j hj
   rw [size_flatK, List.size_toArray] at hj
   have hf : (flatK vC 4 l.toArray)[j]? = cur[j]? := by
    rw [← Array.getElem?_toList, flatK_flat vC 4 vC_len (by decide)]
    show (l.flatMap vC)[j]? = _
    rw [← h4, List.getElem?_take_of_lt hj, Array.getElem?_toList]
   have hj2 : j < (flatK vC 4 l.toArray).size := by rw [size_flatK, List.size_toArray]; exact hj
   rw [Array.getElem?_eq_getElem hj2] at hf
   refine ⟨?_, ?_⟩
   ·rw [getElem!_pos _ j hj2]
    simp only [World.cell?, show w.heap[g]? = _ from hb, Nat.zero_add]
    exact hf.symm
   ·simp [World.frozen?, show w.heap[g]? = _ from hb]
  have hlt := (own_openN h).choose_spec.1.lt
  have hcmp : CmpLays Tryz.prog f #[] vC 4 cf g 0 l.toArray.size w := fun m os dk hs x y => (hc x y _).mono fun e w' hw => ⟨hw.1, hw.2.grow⟩
  refine (show Calls _ 94 _ _ _ from AnyQ.slices_SortFunc Tryz.sortA 4 aggPf sizPf vC vC_len vC_one cf hO f #[] g 0 c l.toArray w eg hcmp hH hlt (by rw [List.size_toArray]; omega)).mono ?_
  rintro e w' ⟨rfl, d', m, os, ⟨hp1, -, hp2⟩, hs, rfl⟩
  have hsz : d'.size = l.length := by rw [hp1, List.size_toArray]
  have hs' : SortedIn (ltOf cf) 0 d'.size d' := by rw [hp1]; exact hs
  obtain ⟨r1, r2⟩ := sortW_own (m := m) (os := os) hsz rfl h
  refine ⟨rfl, d'.toList, ?_, pw_of_srt hs', r1, r2⟩
  rw [← hp1] at hp2
  have e1 : d'.extract 0 d'.size = d' := Array.extract_size
  have e2 : l.toArray.extract 0 d'.size = l.toArray := by rw [hp1]; exact Array.extract_size
  rw [e1, e2] at hp2
  simpa using hp2
end Go.Proofs.YtgfkmgbcajdcdaaGreatDoor

namespace Go.Proofs.YtgfkmgbcajdcdaaGreatDoor
open Go.RowKit

theorem pfv_of {ss : List PfI} (h : ∀ p ∈ ss, (pvI p = true ∧ vld p.1.1 (p.1.2.1 : Int) (p.1.2.2 : Int) = true) ∧ N64 p.1.2.1 ∧ N64 p.1.2.2) : ∃ l : List PfV, l.map (·.1) = ss := by
 induction ss with
 | nil => exact ⟨[], rfl⟩
 | cons p r ih =>
  obtain ⟨l, hl⟩ := ih fun q hq => h q (List.mem_cons_of_mem _ hq)
  exact ⟨⟨p, h p (by simp)⟩ :: l, by rw [List.map_cons, hl]⟩
theorem flat_vC (l : List PfV) : l.flatMap vC = (l.map (·.1)).flatMap pfC := by rw [List.flatMap_map]; rfl
theorem srt_prefs {L : List TdI} (h : InvR L) {l : List PfV} (hp : (l.map (·.1)).Perm (prefsI L)) (hs : l.Pairwise fun x y => ltOf (fun x y : PfV => cmpPI x.1 y.1) y x = false) : l.map (·.1) = prefsI L := by
 refine hp.eq_of_pairwise (le := fun p q => ¬ ltP q p) (fun a b ha hb h1 h2 => ?_) ?_ ((prefsI_srt h).imp fun {a b} hab h2 => ltP_irr a (ltP_trans hab h2))
 ·rcases lexP.tri (l := keyP a) (m := keyP b) rfl with e | e | e
  ·exact absurd e h2
  ·exact keyP_inj e
  ·exact absurd e h1
 ·rw [List.pairwise_map]
  refine hs.imp fun {x y} hxy hlt => ?_
  have := (lessI_key y.2.1.1 x.2.1.1 y.2.1.2 x.2.1.2).2 hlt
  unfold ltOf cmpPI at hxy
  simp only [this, if_true] at hxy
  revert hxy; decide
theorem nm_lex {h l h' l' : Nat} (hl : N64 l) (hl' : N64 l') : nm h l < nm h' l' ↔ h < h' ∨ (h = h' ∧ l < l') := by
 unfold nm; unfold N64 at hl hl'; omega
theorem hld_bits {p q : PfI} {a : AdR} (np : N64 p.1.2.1 ∧ N64 p.1.2.2) (nq : N64 q.1.2.1 ∧ N64 q.1.2.2) (na : N64 a.2.1 ∧ N64 a.2.2) (hp : hldP p a = true) (hq : hldP q a = true) (hb : q.2 ≤ p.2) : p = q ∨ ltP q p := by
 obtain ⟨⟨s, h, l⟩, b⟩ := p
 obtain ⟨⟨s', h', l'⟩, b'⟩ := q
 obtain ⟨s9, ah, al⟩ := a
 obtain ⟨v1, o1, e1, c1⟩ := (hld_iff np.2 na.2).1 hp
 obtain ⟨v2, o2, e2, c2⟩ := (hld_iff nq.2 na.2).1 hq
 simp only at v1 o1 e1 c1 v2 o2 e2 c2 hb np nq
 subst e1
 subst e2
 have hk : kk s9 b ≤ kk s9 b' := by unfold kk; omega
 have hle : nm h' l' ≤ nm h l := by
  rw [← c1, ← c2, ← ct_trans hk]
  exact ct_le _ _
 rcases Nat.lt_or_eq_of_le hle with hlt | heq
 ·right
  unfold ltP keyP
  have := (nm_lex nq.2 np.2).1 hlt
  simp [lexP]
  omega
 ·have e3 : h' = h ∧ l' = l := by
   have a1 : ¬ nm h' l' < nm h l := by omega
   have a2 : ¬ nm h l < nm h' l' := by omega
   rw [nm_lex nq.2 np.2] at a1
   rw [nm_lex np.2 nq.2] at a2
   omega
  obtain ⟨rfl, rfl⟩ := e3
  by_cases hbb : b = b'
  ·left; rw [hbb]
  ·right
   unfold ltP keyP
   simp [lexP]
   omega
theorem srt_over {L : List TdI} (h : InvR L) (hn : ∀ p ∈ prefsI L, N64 p.1.2.1 ∧ N64 p.1.2.2) {a : AdR} (na : N64 a.2.1 ∧ N64 a.2.2) {l : List PfV} (hp : (l.map (·.1)).Perm ((prefsI L).filter fun p => hldP p a)) (hs : l.Pairwise fun x y => ltOf (fun x y : PfV => cmpI y.1.2 x.1.2) y x = false) : l.map (·.1) = overI L a := by
 unfold overI overL
 have hm : ∀ p ∈ l.map (·.1), (N64 p.1.2.1 ∧ N64 p.1.2.2) ∧ hldP p a = true := fun p hq => by
  have := List.mem_filter.1 (hp.subset hq)
  exact ⟨hn p this.1, this.2⟩
 refine (hp.trans (List.reverse_perm _).symm).eq_of_pairwise (le := fun p q : PfI => q.2 ≤ p.2) (fun p q h1 h2 h3 h4 => ?_) ?_ ?_
 ·have m1 := hm p h1
  have m2 : (N64 q.1.2.1 ∧ N64 q.1.2.2) ∧ hldP q a = true := by
   have := List.mem_filter.1 (List.mem_reverse.1 h2)
   exact ⟨hn q this.1, this.2⟩
  rcases hld_bits m1.1 m2.1 na m1.2 m2.2 h3 with e | e
  ·exact e
  ·rcases hld_bits m2.1 m1.1 na m2.2 m1.2 h4 with e2 | e2
   ·exact e2.symm
   ·exact absurd (ltP_trans e e2) (ltP_irr _)
 ·rw [List.pairwise_map]
  refine hs.imp fun {x y} hxy => ?_
  unfold ltOf cmpI at hxy
  simp only [decide_eq_false_iff_not] at hxy
  split at hxy
  ·exact absurd (by decide) hxy
  ·omega
 ·rw [List.pairwise_reverse]
  refine ((prefsI_srt h).sublist List.filter_sublist).imp_of_mem fun {p q} h1 h2 hpq => ?_
  have m1 := List.mem_filter.1 h1
  have m2 := List.mem_filter.1 h2
  rcases Int.le_total q.2 p.2 with hle | hle
  ·rcases hld_bits (hn p m1.1) (hn q m2.1) na m1.2 m2.2 hle with e | e
   ·rw [e] at hpq; exact absurd hpq (ltP_irr _)
   ·exact absurd (ltP_trans hpq e) (ltP_irr _)
  ·exact hle
theorem own_up {w : World} {base n sz : Nat} {t : TypeId} {v : Value} {xs : List Value} (h : w.ownsRow 0 t sz v n xs) (hb : ∀ s ∈ obI v, base ≤ s) : w.ownsRow base t sz v n xs := by
 refine ⟨h.1, ?_⟩
 rcases h.2 with e | ⟨g, cap, cur, rfl, h1, h2⟩
 ·exact .inl e
 ·exact .inr ⟨g, cap, cur, rfl, hb g (by simp [obI, Value.ownBlock]), h2⟩
theorem RpM.prefV {w : World} {t m : Nat} {M : List (PfI × Value)} {S : List Nat} {L : List TdI} (h : RpM w t m M S L) : ∀ p ∈ M.map Prod.fst, (pvI p = true ∧ vld p.1.1 (p.1.2.1 : Int) (p.1.2.2 : Int) = true) ∧ N64 p.1.2.1 ∧ N64 p.1.2.2 := fun p hp => by
 obtain ⟨u, hu, e⟩ := (prefsI_mem h.inv.inv).1 (h.keys.subset hp)
 have k := h.inv.inv.ok u hu
 rw [← e]
 exact ⟨⟨k.pv, k.vl⟩, k.n1⟩
theorem sortedP (Bm m : Nat) (t : Nat) (M : List (PfI × Value)) (S : List Nat) (L : List TdI) (w : World) (hr : RpM w t m M S L) (hBm : Bm < w.heap.size) (hm : w.cell? ⟨Bm, 0, none⟩ = some (.map (some m))) :
  Calls Tryz.prog 56 #[.func (.func 101) #[] #[.pointer (some ⟨Bm, 0, none⟩)], .func (.func 58) #[] #[]] w fun e w' =>
   ∃ A c, e = .returned (.slice A (prefsI L).length c) ∧ w'.ownsRow w.heap.size 30 4 (.slice A (prefsI L).length c) (prefsI L).length ((prefsI L).flatMap pfC) ∧ Tch w w' [] := by
 have hM : M.length ≤ 90 := by rw [hr.len]; exact hr.inv.ninety
 have HC := lH (collectP Bm m M (by omega) w hBm hm hr.mp)
 have HV := lH hr.prefV
 have HK := lH hr.keys
 have HI := lH hr.inv.inv
 clear hr hBm hm
 go_enter Tryz.func56, Tryz.ntmps56
 go_wp2_with fail
 refine cZm HC.out ?_
 rintro e w1 ⟨v, ss, rfl, hp, ho, -, hb⟩
 obtain ⟨l, hl⟩ := pfv_of (fun p hq => HV.out p (hp.subset hq))
 have hln : l.length = ss.length := by rw [← hl, List.length_map]
 obtain ⟨A, c, rfl, -, -⟩ := own_sl ho
 have hsn : ss.length ≤ 90 := by rw [hp.length_eq, List.length_map]; exact hM
 have HG := lH (fun s hs => (own_geI ho s hs).1)
 rw [← hl, ← flat_vC, List.length_map] at ho
 have HO := lH (own_mono ho (Nat.zero_le _))
 have HS := lH (sort_any _ cmpV_swo 58 (enters_of Tryz.func58 (by kernel_rfl) rfl) (fun x y W => cmpPf_any x.1 y.1 x.2.2 y.2.2 W) A l.length c l rfl (by omega) w1 HO.out)
 have HB := lH hb
 have HP := lH (hl ▸ hp)
 rw [hln] at HS
 clear ho hb hp
 go_wp2_with fail
 refine cZm HS.out ?_
 rintro e w2 ⟨rfl, l', hp', hs', ho', hT'⟩
 have hE := srt_prefs HI.out (((hp'.map _).trans HP.out).trans HK.out) hs'
 have hn : ss.length = (prefsI L).length := by rw [← hE, List.length_map, hp'.length_eq, hln]
 have HT := lH ((Tch.of_below [] HB.out).trans_fre hT' (fun s hs => .inr (HG.out s hs)))
 rw [flat_vC, hE] at ho'
 have HO' := lH (own_up (base := w.heap.size) ho' HG.out)
 rw [hn] at HO' ⊢
 clear ho' hT' hE hp' hs'
 go_wp2
 go_ret
 exact ⟨A, c, rfl, HO'.out, HT.out⟩
theorem prefsP0 (t : Nat) (S : List Nat) (L : List TdI) (w : World) (h : RbP w t S L) :
  Calls Tryz.prog 18 #[.pointer (some ⟨t, 0, none⟩)] w fun e w' => ∃ A c, e = .returned (.slice A (prefsI L).length c) ∧ w'.ownsRow w.heap.size 30 4 (.slice A (prefsI L).length c) (prefsI L).length ((prefsI L).flatMap pfC) ∧ Tch w w' [] := by
 have HP := lH h
 obtain ⟨m, M, hr⟩ := h
 have ht := (hr.bt.cell 0).trans (show _ = some (Value.map (some m)) by rfl)
 have HK := lH (keysP m w)
 have hT0 : Tch w (w.alloc (.cells #[.map (some m)] 121)) [] := (Tch.refl w []).alloc _
 have HS := lH (sortedP w.heap.size m t M S L _ (hr.tch hT0 (by simp)) (by simp) (by simp))
 have HT0 := lH hT0
 clear hr hT0
 go_enter Tryz.func18, Tryz.ntmps18
 go_wp2_with fail
 refine cZm HK.out ?_
 rintro e w1 ⟨rfl, rfl⟩
 go_wp2_with fail
 refine cZm HS.out ?_
 rintro e w2 ⟨A, c, rfl, ho, hT⟩
 have HO := lH (own_mono (base' := w.heap.size) ho (by rw [zA]; omega))
 have HT := lH (HT0.out.trans hT)
 clear ho hT
 go_wp2
 go_ret
 exact ⟨A, c, rfl, HO.out, HT.out⟩
theorem prefsP (t : Nat) (S : List Nat) (L : List TdI) (w : World) (h : RbP w t S L) :
  Calls Tryz.prog 18 #[.pointer (some ⟨t, 0, none⟩)] w fun e w' => ∃ A c, e = .returned (.slice A (prefsI L).length c) ∧ w'.ownsRow w.heap.size 30 4 (.slice A (prefsI L).length c) (prefsI L).length ((prefsI L).flatMap pfC) ∧ RbP w' t S L ∧ Tch w w' S :=
 (prefsP0 t S L w h).mono fun e w' hh => by
  obtain ⟨A, c, he, ho, hT⟩ := hh
  exact ⟨A, c, he, ho, h.tch hT (by simp), hT.mono (by simp)⟩
end Go.Proofs.YtgfkmgbcajdcdaaGreatDoor

namespace Go.Proofs.YtgfkmgbcajdcdaaGreatDoor
open Go.RowKit

theorem overP0 (t : Nat) (S : List Nat) (L : List TdI) (a : AdR) (ha : N64 a.2.1 ∧ N64 a.2.2) (w : World) (h : RbP w t S L) :
  Calls Tryz.prog 49 #[.pointer (some ⟨t, 0, none⟩), adR a] w fun e w' => ∃ A c, e = .returned (.slice A (overI L a).length c) ∧ w'.ownsRow w.heap.size 30 4 (.slice A (overI L a).length c) (overI L a).length ((overI L a).flatMap pfC) ∧ Tch w w' [] := by
 have HP := lH h
 obtain ⟨m, M, hr⟩ := h
 have hM : M.length ≤ 90 := by rw [hr.len]; exact hr.inv.ninety
 have HV := lH hr.prefV
 have HK := lH hr.keys
 have HI := lH hr.inv.inv
 have HNp : Hid (∀ p ∈ prefsI L, N64 p.1.2.1 ∧ N64 p.1.2.2) := lH (fun p hp => by obtain ⟨u, hu, e⟩ := (prefsI_mem hr.inv.inv).1 hp; rw [← e]; exact (hr.inv.inv.ok u hu).n1)
 have hml := hr.mp.lt
 have HA := lH ha
 obtain ⟨a0, ha0⟩ : ∃ a0, a = a0 := ⟨_, rfl⟩
 rw [ha0] at HA ⊢
 have HL : Hid (∀ ss : List PfI, ss.Perm ((M.map Prod.fst).filter fun p => hldP p a0) → (∃ l : List PfV, l.map (·.1) = ss) ∧ ss.length ≤ 90) := lH (fun ss hs => ⟨pfv_of (fun p hp => HV.out p (List.mem_filter.1 (hs.subset hp)).1), by
  rw [hs.length_eq]; exact Nat.le_trans (List.length_filter_le _ _) (by rw [List.length_map]; exact hM)⟩)
 have HE : Hid (∀ l : List PfV, (l.map (·.1)).Perm ((M.map Prod.fst).filter fun p => hldP p a0) → (l.Pairwise fun x y => ltOf (fun x y : PfV => cmpI y.1.2 x.1.2) y x = false) → l.map (·.1) = overI L a0) := lH (fun l hp hs => srt_over HI.out HNp.out HA.out (hp.trans (HK.out.filter _)) hs)
 obtain ⟨s9, ah, al⟩ := a0
 obtain ⟨xb, hxb⟩ : ∃ xb, w.heap.size = xb := ⟨_, rfl⟩
 obtain ⟨W0, hW0⟩ : ∃ W, w.alloc (.cells #[.bool s9, .int .u64 (ah : Int), .int .u64 (al : Int)] 28) = W := ⟨_, rfl⟩
 have HB0 : Hid (Blk W0 xb 28 #[.bool s9, .int .u64 (ah : Int), .int .u64 (al : Int)]) := lH (hW0 ▸ hxb ▸ Blk.new w _ _)
 have hT0 : Tch w W0 [] := hW0 ▸ (Tch.refl w []).alloc _
 have HMp := lH (hr.mp.tch hT0 (by simp))
 have ht : (w.alloc (.cells #[.bool s9, .int .u64 (ah : Int), .int .u64 (al : Int)] 28)).cell? ⟨t, 0, none⟩ = some (.map (some m)) := hW0 ▸ ((hT0.blk hr.bt (by simp)).cell 0).trans (show _ = some (Value.map (some m)) by rfl)
 have HT0 := lH hT0
 have HW0 := lH (And.intro hW0 hxb)
 obtain ⟨ib, hib⟩ : ∃ ib, W0.heap.size = ib := ⟨_, rfl⟩
 have hsz : ib = xb + 1 := by rw [← hib, ← hW0, zA, hxb]
 have HIb := lH hib
 have HSz := lH (And.intro hsz (show m < xb by omega))
 clear hr hM hml ha hW0 hxb hT0 hib hsz
 go_enter Tryz.func49, Tryz.ntmps49
 go_wp2_with (at_range; rw [HW0.out.1, HW0.out.2]; refine wpList_mrange (k := 30) rfl (.tmp 10) 121 rfl 118 Tryz.underlying121 rfl HMp.out ?_; intro w0 hrg0 hT1 hs0; (rw [HIb.out]); (have HRg0 := lH (HIb.out ▸ hrg0)); (have HT1 := lH hT1); (have HS0 := lH (HIb.out ▸ hs0)); clear hrg0 hT1 hs0 ht)
 (try go_frame)
 have HB1 := lH (HT1.out.blk HB0.out (by simp))
 go_loopw [5] (fun ov wr => ∃ (left : List (PfI × Value)) (acc : List PfI) (f : Nat) (A1 : Option Addr) (cc : Nat), ov = .slice A1 f cc ∧ Hid (acc.length = f) ∧ Hid (MpRg (fun p => pfR p) wr m ib M left) ∧ Hid ((acc ++ (left.map Prod.fst).filter fun p => hldP p (s9, ah, al)).Perm ((M.map Prod.fst).filter fun p => hldP p (s9, ah, al))) ∧ Hid (wr.ownsRow (ib + 1) 30 4 (.slice A1 f cc) f (acc.flatMap pfC)) ∧ Hid (Tch w0 wr [ib])) (fun _ wr => wr.rangeLeft m ib)
 case atStart => exact ⟨M, [], 0, none, 0, rfl, lH rfl, HRg0, lH (List.Perm.refl _), lH ⟨rfl, .inl ⟨rfl, rfl⟩⟩, lH (Tch.refl _ _)⟩
 case round =>
  obtain ⟨left, acc, f, A1, cc, rfl, hf, hrg, hp, hO, hT⟩ := hrel
  go_wp2_with (at_next; refine wpList_mnext rfl (.tmp 11) rfl keyPf rfl hrg.out (fun hd => ?_) (fun x left' w1 hx hpl hrg1 hT1' hs1 hen => ?_); rotate_left; (obtain ⟨⟨⟨xs, xh, xl⟩, xn⟩, v⟩ := x); (have HPl := lH hpl); (have HRg1 := lH hrg1); (have HT1' := lH hT1'); (have HX := lH hx); (have HB1' := lH ((hT.out.trans hT1').blk HB1.out (show xb ∉ [ib] by simp; have := HSz.out.1; omega))); (obtain ⟨b0, b1, b2⟩ := HB1'.out.c3); (have hxl := HB1'.out.lt); (clear hpl hrg1 hT1' hs1 hx); rotate_right)
  ·have HPe : Hid (acc.Perm ((M.map Prod.fst).filter fun p => hldP p (s9, ah, al))) := lH (by have := hp.out; rw [hd] at this; simpa using this)
   clear hd
   obtain ⟨⟨l, hl⟩, hn90⟩ := HL.out acc HPe.out
   have hlf : l.length = f := by rw [← hf.out, ← hl, List.length_map]
   have HO0 := lH (show wr.ownsRow 0 30 4 (.slice A1 f cc) f (l.flatMap vC) by rw [flat_vC, hl]; exact own_mono hO.out (Nat.zero_le _))
   have HS := lH (sort_any _ cmpB_swo 95 (enters_of Tryz.func95 (by kernel_rfl) rfl) (fun x y W => cmpOv_any x.1 y.1 W) A1 f cc l hlf (by rw [← hf.out]; omega) wr HO0.out)
   have HG := lH (fun s hs => (own_geI hO.out s hs).1)
   have HLl := lH hl
   clear hl hlf hn90
   go_wp2_with fail
   refine cZm HS.out ?_
   rintro e w2 ⟨rfl, l', hp', hs', ho', hT'⟩
   have hE := HE.out l' ((hp'.map _).trans (HLl.out ▸ HPe.out)) hs'
   have hn : f = (overI L (s9, ah, al)).length := by rw [← hE, List.length_map, hp'.length_eq, ← hf.out, ← HLl.out, List.length_map]
   have HTw : Hid (Tch w w2 []) := lH (((HT0.out.trans HT1.out).trans_fre hT.out (fun s hs => .inr (by rw [List.mem_singleton.1 hs]; have := HSz.out.1; have := HW0.out.2; omega))).trans_fre hT' (fun s hs => .inr (by have := HG.out s hs; have := HSz.out.1; have := HW0.out.2; omega)))
   rw [flat_vC, hE] at ho'
   have HO' := lH (own_up (base := w.heap.size) ho' (fun s hs => by have := HG.out s hs; have := HSz.out.1; have := HW0.out.2; omega))
   subst hn
   clear ho' hT' hE hp' hs'
   go_wp2
   go_ret
   exact ⟨A1, cc, rfl, HO'.out, HTw.out⟩
  ·have hxm := HX.out
   have HN := lH (HV.out ((xs, xh, xl), xn) (List.mem_map_of_mem (f := Prod.fst) hxm)).2
   obtain ⟨b, hb⟩ : ∃ b, hldP ((xs, xh, xl), xn) (s9, ah, al) = b := ⟨_, rfl⟩
   have HBb := lH hb
   have HHo := lH (fun W => holds_at xs xh xl xn s9 ah al HA.out.1 HA.out.2 hb W)
   obtain ⟨kb, hkb⟩ : ∃ kb, w1.heap.size = kb := ⟨_, rfl⟩
   obtain ⟨W2, hW2⟩ : ∃ W, w1.alloc (.cells #[.bool xs, .int .u64 (xh : Int), .int .u64 (xl : Int), .int .i64 xn] 30) = W := ⟨_, rfl⟩
   have HT02 : Hid (Tch w0 w1 [ib]) := lH (hT.out.trans HT1'.out)
   have HT12 : Hid (Tch w1 W2 []) := lH (hW2 ▸ (Tch.refl w1 []).alloc _)
   have HK2 : Hid (Blk W2 kb 30 #[.bool xs, .int .u64 (xh : Int), .int .u64 (xl : Int), .int .i64 xn]) := lH (hW2 ▸ hkb ▸ Blk.new w1 _ _)
   have HO1 : Hid (w1.ownsRow (ib + 1) 30 4 (.slice A1 f cc) f (acc.flatMap pfC)) := lH (own_tch hO.out HT1'.out (fun s hs hm => by have h1 := (own_geI hO.out s hs).1; rw [List.mem_singleton] at hm; omega))
   have HKs : Hid (ib + 1 ≤ kb) := lH (by have h1 := HS0.out; have h2 := HT02.out.size; omega)
   have HWs := lH (And.intro hW2 hkb)
   have HLn : Hid ((left.map Prod.fst).Perm (((xs, xh, xl), xn) :: left'.map Prod.fst)) := lH (HPl.out.map Prod.fst)
   clear hxm hb hW2 hkb b0 b1 b2 hxl
   rw [HWs.out.1, HWs.out.2]
   refine cZm (HHo.out W2) ?_
   rintro e w5 ⟨rfl, hb5⟩
   have HT5 := lH (HT12.out.trans (Tch.of_below [] hb5))
   have HK5 := lH ((Tch.of_below [] hb5).blk HK2.out (by simp))
   have HO5 := lH (own_tch HO1.out HT5.out (by simp))
   have HRg5 := lH (HRg1.out.tch HT5.out (by simp) (by simp))
   clear hb5
   obtain ⟨k0, k1, k2, k3⟩ := HK5.out.c4
   cases b with
   | false =>
    have HPn : Hid ((acc ++ (left'.map Prod.fst).filter fun p => hldP p (s9, ah, al)).Perm ((M.map Prod.fst).filter fun p => hldP p (s9, ah, al))) := lH (by
     have h1 := (HLn.out.filter fun p => hldP p (s9, ah, al))
     rw [List.filter_cons_of_neg (by rw [HBb.out]; simp)] at h1
     exact (h1.symm.append_left acc).trans hp.out)
    go_wp2
    go_roundw
    case rel => exact ⟨left', acc, f, A1, cc, rfl, hf, HRg5, HPn, HO5, lH (HT02.out.trans_fre HT5.out (by simp))⟩
    case measure => rw [HRg5.out.left_len, hrg.out.left_len, HPl.out.length_eq]; simp
   | true =>
    have HPn : Hid (((acc ++ [((xs, xh, xl), xn)]) ++ (left'.map Prod.fst).filter fun p => hldP p (s9, ah, al)).Perm ((M.map Prod.fst).filter fun p => hldP p (s9, ah, al))) := lH (by
     have h1 := (HLn.out.filter fun p => hldP p (s9, ah, al))
     rw [List.filter_cons_of_pos (by rw [HBb.out])] at h1
     rw [List.append_assoc, List.singleton_append]
     exact (h1.symm.append_left acc).trans hp.out)
    have hf90 : f ≤ 1000000 := by
     have h1 := HPn.out.length_eq
     have h2 : ((M.map Prod.fst).filter fun p => hldP p (s9, ah, al)).length ≤ 90 := (HL.out _ (List.Perm.refl _)).2
     simp only [List.length_append] at h1
     have := hf.out
     omega
    have HSr := lH (src_new w5 30 [.bool xs, .int .u64 (xh : Int), .int .u64 (xl : Int), .int .i64 xn])
    have HT6 := lH (HT5.out.alloc (.cells #[.bool xs, .int .u64 (xh : Int), .int .u64 (xl : Int), .int .i64 xn] 30))
    have HO6 := lH (HO5.out.alloc (.cells #[.bool xs, .int .u64 (xh : Int), .int .u64 (xl : Int), .int .i64 xn] 30))
    have HSf := lH hf90
    have HSz6 : Hid (ib + 1 ≤ (w5.alloc (.cells #[.bool xs, .int .u64 (xh : Int), .int .u64 (xl : Int), .int .i64 xn] 30)).heap.size) := lH (by have h1 := HT6.out.size; have h2 := HWs.out.2; have h3 := HKs.out; omega)
    have HRg6 := lH (HRg1.out.tch HT6.out (by simp) (by simp))
    clear hf90
    go_wp2_with (at_builtin; (refine wpList_apc 40 30 (.agg #[.bool false, .int .u64 0, .int .u64 0, .int .i64 0]) 4 32 Tryz.underlying40 infoPf rfl (by decide) (by decide) _ rfl (.tmp 19) (.tmp 21) rfl (ib + 1) (.slice A1 f cc) f (acc.flatMap pfC) rfl HO6.out ⟨w5.heap.size, 0, none⟩ 1 [.bool xs, .int .u64 (xh : Int), .int .u64 (xl : Int), .int .i64 xn] rfl rfl (fun j u hj => HSr.out j u hj) (by simp [Value.oneCell']) HSf.out HSz6.out ?_; intro v7 w7 hown hg hv; obtain ⟨A7, c7, e7, -, -⟩ := own_sl hown; subst e7; have HO7 := lH hown; have HT7 := lH (Tch.of_grown' (S := obI (.slice A1 f cc)) hg (fun k e => by rw [obI_some e]; simp)); clear hown hg hv))
    have HG := lH (fun s hs => (own_geI HO6.out s hs).1)
    have HRg7 := lH (HRg6.out.tch HT7.out (fun hm => by have := HG.out m hm; have := HSz.out; omega) (fun hm => by have := HG.out ib hm; omega))
    have HTe : Hid (Tch w0 w7 [ib]) := lH ((HT02.out.trans_fre HT6.out (by simp)).trans_fre HT7.out (fun s hs => .inr (by have := HG.out s hs; have := HS0.out; omega)))
    go_roundw
    case rel => exact ⟨left', acc ++ [((xs, xh, xl), xn)], f + 1, A7, c7, rfl, lH (by rw [List.length_append, hf.out]; rfl), HRg7, HPn, lH (by rw [List.flatMap_append]; exact HO7.out), HTe⟩
    case measure => rw [HRg7.out.left_len, hrg.out.left_len, HPl.out.length_eq]; simp
end Go.Proofs.YtgfkmgbcajdcdaaGreatDoor
