/-
  The program's own rib (layer 15): slices.SortFunc over prefixes that are valid; the two orders by which it is called.
-/
import Derived.Test.YtjlmgkdieffjcaaDoorRpShelf
import Derived.Test.YtjlmgkdieffjcaaDoorRpV
import Derived.Test.YtjlmgkdieffjcaaDoorRpU
import Derived.Test.YtjlmgkdieffjcaaDoorRpB
namespace Go.Proofs.YtjlmgkdieffjcaaDoor
open Go.RowKit Go.Shelf Go.Sort
set_option linter.unusedVariables false

/-- A valid prefix of Go's numbers. -/
abbrev PfV : Type := { p : PfI // (pvI p = true ∧ vld p.1.1 (p.1.2.1 : Int) (p.1.2.2 : Int) = true) ∧ N64 p.1.2.1 ∧ N64 p.1.2.2 }
instance : Inhabited PfV := ⟨⟨((false, 0, 0), 0), ⟨by decide, by decide⟩, by unfold N64; decide, by unfold N64; decide⟩⟩
def vC (x : PfV) : List Value := pfC x.1
theorem vC_len (x : PfV) : (vC x).length = 4 := pf_four x.1
theorem vC_one (x : PfV) : ∀ v ∈ vC x, v.oneCell' = true := pf_one x.1
theorem lexP_swo {α : Type} (key : α → List Int) (hk : ∀ x y, (key x).length = (key y).length) (lt : α → α → Bool) (h : ∀ x y, lt x y = true ↔ lexP (key x) (key y)) : SWO lt := by
  have hf : ∀ x y, lt x y = false ↔ key x = key y ∨ lexP (key y) (key x) := fun x y => by
    have h1 := h x y
    rcases lexP.tri (hk x y) with e | e | e
    · have : ¬ (key x = key y ∨ lexP (key y) (key x)) := by
        rintro (e2 | e2)
        · rw [e2] at e; exact lexP.irrefl _ e
        · exact lexP.irrefl _ (lexP.trans e e2)
      rw [h1.2 e]; simp [this]
    · refine ⟨fun _ => .inl e, fun _ => ?_⟩
      cases hb : lt x y with
      | false => rfl
      | true => have := h1.1 hb; rw [e] at this; exact absurd this (lexP.irrefl _)
    · refine ⟨fun _ => .inr e, fun _ => ?_⟩
      cases hb : lt x y with
      | false => rfl
      | true => exact absurd (lexP.trans (h1.1 hb) e) (lexP.irrefl _)
  refine ⟨fun x => (hf x x).2 (.inl rfl), fun x y z a b => (h x z).2 (lexP.trans ((h x y).1 a) ((h y z).1 b)), fun x y z a b => (hf x z).2 ?_⟩
  rcases (hf x y).1 a with e | e
  · rcases (hf y z).1 b with e2 | e2
    · exact .inl (e.trans e2)
    · rw [e]; exact .inr e2
  · rcases (hf y z).1 b with e2 | e2
    · rw [← e2]; exact .inr e
    · exact .inr (lexP.trans e2 e)
/-- What comparePrefixes answers. -/
def cmpPI (p q : PfI) : Int := if lessI p q = true then -1 else if lessI q p = true then 1 else 0
theorem cmpV_swo : SWO (ltOf fun x y : PfV => cmpPI x.1 y.1) := by
  refine lexP_swo (fun x : PfV => keyP x.1) (fun _ _ => rfl) _ fun x y => ?_
  rw [← lessI_key x.2.1.1 y.2.1.1 x.2.1.2 y.2.1.2]
  show decide ((if lessI x.1 y.1 = true then (-1 : Int) else if lessI y.1 x.1 = true then 1 else 0) < 0) = true ↔ _
  generalize lessI x.1 y.1 = A
  generalize lessI y.1 x.1 = B
  cases A <;> cases B <;> simp
theorem cmpB_swo : SWO (ltOf fun x y : PfV => cmpI y.1.2 x.1.2) := by
  refine lexP_swo (fun x : PfV => [-x.1.2]) (fun _ _ => rfl) _ fun x y => ?_
  unfold ltOf cmpI
  simp only [lexP, decide_eq_true_eq]
  split
  · simp; omega
  · split <;> simp <;> omega
set_option maxRecDepth 100000 in
set_option maxHeartbeats 2000000 in
theorem cmpPf_any (p q : PfI) (hp : N64 p.1.2.1 ∧ N64 p.1.2.2) (hq : N64 q.1.2.1 ∧ N64 q.1.2.2) (w : World) :
    Calls Tryd.prog 30 #[pfR p, pfR q] w fun e w' => e = .returned (.int .i64 (cmpPI p q)) ∧ BelowD w.heap.size w w' := by
  obtain ⟨⟨s, h, l⟩, b⟩ := p
  obtain ⟨⟨s', h', l'⟩, b'⟩ := q
  unfold cmpPI
  obtain ⟨A, hA⟩ : ∃ A, lessI ((s, h, l), b) ((s', h', l'), b') = A := ⟨_, rfl⟩
  obtain ⟨B, hB⟩ : ∃ B, lessI ((s', h', l'), b') ((s, h, l), b) = B := ⟨_, rfl⟩
  have H1 := Lib.hid (fun w => pless_atQ s h l b s' h' l' b' hp.1 hp.2 hq.1 hq.2 hA w)
  have H2 := Lib.hid (fun w => pless_atQ s' h' l' b' s h l b hq.1 hq.2 hp.1 hp.2 hB w)
  rw [hA, hB]
  clear hA hB hp hq
  go_enter Tryd.func30, Tryd.ntmps30
  go_wp2_with fail
  refine Calls.mono (H1.out _) ?_
  rintro e w1 ⟨rfl, hb⟩
  have K1 := Lib.hid ((Blk.new w 37 #[.bool s, .int .u64 h, .int .u64 l, .int .i64 b]).alloc (.cells #[.bool s', .int .u64 h', .int .u64 l', .int .i64 b'] 37) |>.belowD hb (by simp only [World.size_alloc]; omega))
  have Q1 := Lib.hid ((Blk.new (w.alloc (.cells #[.bool s, .int .u64 h, .int .u64 l, .int .i64 b] 37)) 37 #[.bool s', .int .u64 h', .int .u64 l', .int .i64 b']).belowD hb (by simp only [World.size_alloc]; omega))
  rw [World.size_alloc] at Q1
  have L1 := Lib.hid ((((BelowD.refl _ w).alloc (Nat.le_refl _) _).alloc (by simp) _).trans (hb.mono (by simp only [World.size_alloc]; omega)))
  clear hb
  obtain ⟨f0, f1, f2, f3⟩ := K1.out.c4
  obtain ⟨g0, g1, g2, g3⟩ := Q1.out.c4
  cases A
  · go_wp2_with fail
    refine Calls.mono (H2.out _) ?_
    rintro e w2 ⟨rfl, hb2⟩
    have L2 := Lib.hid (L1.out.trans (hb2.mono L1.out.size))
    clear hb2 f0 f1 f2 f3 g0 g1 g2 g3
    cases B
    · go_wp2
      go_ret
      exact ⟨rfl, L2.out⟩
    · go_wp2
      go_ret
      exact ⟨rfl, L2.out⟩
  · go_wp2
    go_ret
    exact ⟨rfl, L1.out⟩
set_option maxRecDepth 100000 in
set_option maxHeartbeats 2000000 in
theorem cmpOv_any (p q : PfI) (w : World) :
    Calls Tryd.prog 38 #[pfR p, pfR q] w fun e w' => e = .returned (.int .i64 (cmpI q.2 p.2)) ∧ BelowD w.heap.size w w' := by
  obtain ⟨⟨s, h, l⟩, b⟩ := p
  obtain ⟨⟨s', h', l'⟩, b'⟩ := q
  have H1 := Lib.hid (fun w => cmp_i b' b w)
  go_enter Tryd.func38, Tryd.ntmps38
  go_wp2_with fail
  refine Calls.mono (H1.out _) ?_
  rintro e w1 ⟨rfl, rfl⟩
  go_wp2
  go_ret
  exact ⟨rfl, ((BelowD.refl _ w).alloc (Nat.le_refl _) _).alloc (by simp) _⟩
theorem flatK_flat {α : Type} [Inhabited α] (enc : α → List Value) (k : Nat) (hk : ∀ x, (enc x).length = k) (h0 : 0 < k) (d : Array α) : (flatK enc k d).toList = d.toList.flatMap enc := by
  refine List.ext_getElem? fun t => ?_
  by_cases ht : t < d.size * k
  · have hq : t / k < d.size := Nat.div_lt_of_lt_mul (by rw [Nat.mul_comm]; exact ht)
    have hx : d.toList[t / k]? = some d[t / k]! := by rw [getElem!_pos d _ hq]; simp [hq]
    have hm : t % k < (enc d[t / k]!).length := by rw [hk]; exact Nat.mod_lt _ h0
    have e := flatk_at hk hx (k := t % k) (Nat.mod_lt _ h0)
    rw [show t / k * k + t % k = t by rw [Nat.mul_comm]; exact Nat.div_add_mod t k] at e
    rw [e, Array.getElem?_toList, Array.getElem?_eq_getElem (by rw [size_flatK]; exact ht), ← getElem!_pos (flatK enc k d) t (by rw [size_flatK]; exact ht), get_flatK _ _ _ _ ht, List.getElem?_eq_getElem hm, getElem!_pos (enc d[t / k]!) (t % k) hm]
  · rw [List.getElem?_eq_none (by rw [Array.length_toList, size_flatK]; omega), List.getElem?_eq_none (by rw [flatk_len hk, Array.length_toList]; omega)]
/-- The world that a sort leaves. -/
theorem sortW_own {t : TypeId} {w : World} {g n c m : Nat} {os : Array Obj} {l : List PfV} {d : Array PfV} (hd : d.size = n) (hl : l.length = n) (h : w.ownsRow 0 t 4 (.slice (some ⟨g, 0, none⟩) n c) n (l.flatMap vC)) :
    (sortWorldK vC 4 w g 0 m d os).ownsRow 0 t 4 (.slice (some ⟨g, 0, none⟩) n c) n (d.toList.flatMap vC) ∧ Tch w (sortWorldK vC 4 w g 0 m d os) [g] := by
  obtain ⟨cur, hb, h1, h2, h3, h4⟩ := own_openN h
  have hlt := hb.lt
  have hb' : (sortWorldK vC 4 w g 0 m d os).heap[g]? = some (.cells (putCells id 0 (flatK vC 4 d) cur) t (0, 0)) := by
    show ((w.heap.modify g _) ++ os)[g]? = _
    rw [Array.getElem?_append_left (by simpa using hlt), Array.getElem?_modify, if_pos rfl, show w.heap[g]? = _ from hb]
    rfl
  have hsz : (flatK vC 4 d).size = n * 4 := by rw [size_flatK, hd]
  have htk : (putCells id 0 (flatK vC 4 d) cur).toList.take (n * 4) = d.toList.flatMap vC := by
    rw [← flatK_flat vC 4 vC_len (by decide) d]
    refine List.ext_getElem? fun j => ?_
    by_cases hj : j < n * 4
    · rw [List.getElem?_take_of_lt hj, Array.getElem?_toList, Array.getElem?_toList]
      have hj2 : j < cur.size := by rw [h3]; exact Nat.lt_of_lt_of_le hj (Nat.mul_le_mul_right _ h1)
      rw [Array.getElem?_eq_getElem (xs := putCells id 0 (flatK vC 4 d) cur) (by unfold putCells; simpa using hj2), Array.getElem?_eq_getElem (xs := flatK vC 4 d) (by rw [hsz]; exact hj)]
      unfold putCells
      simp only [Array.getElem_mapIdx, hsz, Nat.zero_le, Nat.zero_add, hj, true_and, if_true, id, Nat.sub_zero]
      rw [getElem!_pos (flatK vC 4 d) j (by rw [hsz]; exact hj)]
    · rw [List.getElem?_eq_none (by rw [List.length_take]; omega), List.getElem?_eq_none (by rw [Array.length_toList, hsz]; omega)]
  refine ⟨⟨by rw [flatk_len vC_len, Array.length_toList, hd], .inr ⟨g, c, _, rfl, Nat.zero_le _, hb', h1, h2, by unfold putCells; simpa using h3, htk⟩⟩, rfl, rfl, rfl, ?_, fun k hk hn => ?_⟩
  · show _ ≤ ((w.heap.modify g _) ++ os).size
    simp
  · show ((w.heap.modify g _) ++ os)[k]? = _
    rw [Array.getElem?_append_left (by simpa using hk), Array.getElem?_modify, if_neg (by simpa [eq_comm] using hn)]
theorem aggPf (w : World) : (isAgg 37).run Tryd.prog w = .ok true w := by kernel_rfl
theorem sizPf (w : World) : (Go.sizeOf 37).run Tryd.prog w = .ok 4 w := by kernel_rfl
theorem pw_of_srt {α : Type} [Inhabited α] {lt : α → α → Bool} {d : Array α} (h : SortedIn lt 0 d.size d) : d.toList.Pairwise fun x y => lt y x = false := by
  rw [List.pairwise_iff_getElem]
  intro i j hi hj hij
  have := h i j (Nat.zero_le _) hij (by simpa using hj)
  rw [getElem!_pos d j (by simpa using hj), getElem!_pos d i (by simpa using hi)] at this
  simpa using this
/-- slices.SortFunc over valid prefixes, by a function that only makes memory. -/
theorem sort_any (cf : PfV → PfV → Int) (hO : SWO (ltOf cf)) (f : Nat) (eg : ∀ args w, (callFunc f args).run Tryd.prog w = .ok (.enter f args) w)
    (hc : ∀ (x y : PfV) (W : World), Calls Tryd.prog f #[pfR x.1, pfR y.1] W fun e w' => e = .returned (.int .i64 (cf x y)) ∧ BelowD W.heap.size W w')
    (A : Option Addr) (n c : Nat) (l : List PfV) (hl : l.length = n) (hn : n ≤ 100000) (w : World) (h : w.ownsRow 0 37 4 (.slice A n c) n (l.flatMap vC)) :
    Calls Tryd.prog 37 #[.slice A n c, .func (.func f) #[] #[]] w fun e w' => e = .returned (.tuple #[]) ∧
      ∃ l' : List PfV, l'.Perm l ∧ (l'.Pairwise fun x y => ltOf cf y x = false) ∧ w'.ownsRow 0 37 4 (.slice A n c) n (l'.flatMap vC) ∧ Tch w w' (obI (.slice A n c)) := by
  rcases Nat.eq_zero_or_pos n with h0 | h0
  · subst h0
    have hl0 : l = [] := List.eq_nil_of_length_eq_zero hl
    subst hl0
    refine (show Calls _ 37 _ _ _ from AnyF.slices_SortFunc_none Tryd.sortA A c (.func (.func f) #[] #[]) w).mono ?_
    rintro e w' ⟨rfl, rfl⟩
    exact ⟨rfl, [], .refl _, .nil, h, Tch.refl _ _⟩
  · obtain ⟨g, rfl⟩ := slice_some h h0
    subst hl
    have hH : HoldsK vC 4 w g 0 l.toArray := by
      obtain ⟨cur, hb, h1, h2, h3, h4⟩ := own_openN h
      intro j hj
      rw [size_flatK, List.size_toArray] at hj
      have hf : (flatK vC 4 l.toArray)[j]? = cur[j]? := by
        rw [← Array.getElem?_toList, flatK_flat vC 4 vC_len (by decide)]
        show (l.flatMap vC)[j]? = _
        rw [← h4, List.getElem?_take_of_lt hj, Array.getElem?_toList]
      have hj2 : j < (flatK vC 4 l.toArray).size := by rw [size_flatK, List.size_toArray]; exact hj
      rw [Array.getElem?_eq_getElem hj2] at hf
      refine ⟨?_, ?_⟩
      · rw [getElem!_pos _ j hj2]
        simp only [World.cell?, show w.heap[g]? = _ from hb, Nat.zero_add]
        exact hf.symm
      · simp [World.frozen?, show w.heap[g]? = _ from hb]
    have hlt := (own_openN h).choose_spec.1.lt
    have hcmp : CmpLays Tryd.prog f #[] vC 4 cf g 0 l.toArray.size w := fun m os dk hs x y => (hc x y _).mono fun e w' hw => ⟨hw.1, hw.2.grow⟩
    refine (show Calls _ 37 _ _ _ from AnyQ.slices_SortFunc Tryd.sortA 4 aggPf sizPf vC vC_len vC_one cf hO f #[] g 0 c l.toArray w eg hcmp hH hlt (by rw [List.size_toArray]; omega)).mono ?_
    rintro e w' ⟨rfl, d', m, os, ⟨hp1, -, hp2⟩, hs, rfl⟩
    have hsz : d'.size = l.length := by rw [hp1, List.size_toArray]
    have hs' : SortedIn (ltOf cf) 0 d'.size d' := by rw [hp1]; exact hs
    obtain ⟨r1, r2⟩ := sortW_own (m := m) (os := os) hsz rfl h
    refine ⟨rfl, d'.toList, ?_, pw_of_srt hs', r1, r2⟩
    rw [← hp1] at hp2
    have e1 : d'.extract 0 d'.size = d' := Array.extract_size
    have e2 : l.toArray.extract 0 d'.size = l.toArray := by rw [hp1]; exact Array.extract_size
    rw [e1, e2] at hp2
    simpa using hp2
end Go.Proofs.YtjlmgkdieffjcaaDoor
