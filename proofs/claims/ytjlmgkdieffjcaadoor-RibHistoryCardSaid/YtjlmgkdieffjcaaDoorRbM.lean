/-
  A rib, plainly (layer 15): what holds of every rib that calls made.
-/
import Derived.Test.YtjlmgkdieffjcaaDoorRbN
namespace Go.Proofs.YtjlmgkdieffjcaaDoor
set_option linter.unusedVariables false

def keyP (p : PfI) : List Int := [bI p.1.1, (p.1.2.1 : Int), (p.1.2.2 : Int), p.2]
def keyT (t : TdI) : List Int := keyP t.1 ++ keyX t.2
theorem lexP_app {a b c d : List Int} (h : a.length = b.length) : lexP (a ++ c) (b ++ d) ↔ lexP a b ∨ (a = b ∧ lexP c d) := by
  induction a generalizing b with
  | nil =>
    cases b with
    | nil => simp [lexP]
    | cons y s => simp at h
  | cons x r ih =>
    cases b with
    | nil => simp at h
    | cons y s =>
      simp only [List.cons_append, lexP, ih (by simpa using h), List.cons.injEq]
      constructor
      · rintro (h1 | ⟨h1, h2 | ⟨h2, h3⟩⟩)
        · exact .inl (.inl h1)
        · exact .inl (.inr ⟨h1, h2⟩)
        · exact .inr ⟨⟨h1, h2⟩, h3⟩
      · rintro ((h1 | ⟨h1, h2⟩) | ⟨⟨h1, h2⟩, h3⟩)
        · exact .inl h1
        · exact .inr ⟨h1, .inl h2⟩
        · exact .inr ⟨h1, .inr ⟨h2, h3⟩⟩
theorem bI_inj {a b : Bool} (h : bI a = bI b) : a = b := by cases a <;> cases b <;> simp [bI] at h ⊢
theorem keyP_inj {p q : PfI} (h : keyP p = keyP q) : p = q := by
  obtain ⟨⟨s, h1, l⟩, b⟩ := p
  obtain ⟨⟨s', h1', l'⟩, b'⟩ := q
  simp [keyP] at h
  obtain ⟨e1, e2, e3, e4⟩ := h
  rw [bI_inj e1, show h1 = h1' by omega, show l = l' by omega, e4]
/-- Less, of valid prefixes, is the order of their keys. -/
theorem lessI_key {p q : PfI} (hp : pvI p = true) (hq : pvI q = true) (vp : vld p.1.1 (p.1.2.1 : Int) (p.1.2.2 : Int) = true) (vq : vld q.1.1 (q.1.2.1 : Int) (q.1.2.2 : Int) = true) : lessI p q = true ↔ lexP (keyP p) (keyP q) := by
  obtain ⟨⟨s, h, l⟩, b⟩ := p
  obtain ⟨⟨s', h', l'⟩, b'⟩ := q
  simp only at vp vq
  unfold pvI at hp hq
  simp only at hp hq
  unfold lessI pls lss keyP
  simp only [hp, hq, vp, vq, lexP, Bool.true_and, Bool.or_eq_true, Bool.and_eq_true, decide_eq_true_eq]
  cases s <;> cases s' <;> simp [bI]
  all_goals
    by_cases e : h = h'
    · subst e; simp; omega
    · have e1 : ¬ (h : Int) = (h' : Int) := by omega
      simp [e, e1]
/-- What is known of each valid path that is told. -/
structure TdOk (t : TdI) : Prop where
  right : rightI t.1 t.2 = true
  pv : pvI t.1 = true
  vl : vld t.1.1.1 (t.1.1.2.1 : Int) (t.1.1.2.2 : Int) = true
  pr : 0 ≤ t.2.1 ∧ t.2.1 ≤ 4
  n1 : N64 t.1.1.2.1 ∧ N64 t.1.1.2.2
  n2 : N64 t.2.2.2.1.2.1 ∧ N64 t.2.2.2.1.2.2
theorem TdOk.of {t : TdI} (h : rightI t.1 t.2 = true) (n1 : N64 t.1.1.2.1 ∧ N64 t.1.1.2.2) (n2 : N64 t.2.2.2.1.2.1 ∧ N64 t.2.2.2.1.2.2) : TdOk t := by
  have h0 := h
  unfold rightI at h
  split at h
  · cases h
  · rename_i h1
    have hp : pvI t.1 = true := by
      cases e : pvI t.1 with
      | true => rfl
      | false => exact absurd (.inl e) h1
    exact ⟨h0, hp, ((pvl_iff n1.2).1 hp).1, by omega, n1, n2⟩
def ltT (t u : TdI) : Prop := lexP (keyT t) (keyT u)
theorem keyT_len (t u : TdI) : (keyT t).length = (keyT u).length := rfl
theorem aheadT_lt {t u : TdI} (ht : TdOk t) (hu : TdOk u) : aheadT t u = true ↔ ltT t u := by
  unfold aheadT ltT keyT
  rw [lexP_app (a := keyP t.1) (b := keyP u.1) rfl, Bool.or_eq_true, lessI_key ht.pv hu.pv ht.vl hu.vl, Bool.and_eq_true, decide_eq_true_eq, betI_key]
  refine or_congr_right (and_congr_left fun _ => ⟨fun h => by rw [h], keyP_inj⟩)
theorem distI_inj {x y : Int} (hx : 0 ≤ x ∧ x ≤ 4) (hy : 0 ≤ y ∧ y ≤ 4) (h : distI x = distI y) : x = y := by
  have h1 : x = 0 ∨ x = 1 ∨ x = 2 ∨ x = 3 ∨ x = 4 := by omega
  have h2 : y = 0 ∨ y = 1 ∨ y = 2 ∨ y = 3 ∨ y = 4 := by omega
  rcases h1 with rfl | rfl | rfl | rfl | rfl <;> rcases h2 with rfl | rfl | rfl | rfl | rfl <;> first | rfl | (exfalso; revert h; decide)
/-- Of two that are not the same way one is ahead. -/
theorem ltT_tri {t u : TdI} (ht : TdOk t) (hu : TdOk u) : ltT t u ∨ t = u ∨ ltT u t := by
  rcases lexP.tri (keyT_len t u) with h | h | h
  · exact .inl h
  · refine .inr (.inl ?_)
    have hk : keyP t.1 = keyP u.1 ∧ keyX t.2 = keyX u.2 := List.append_inj h rfl
    have h1 := keyP_inj hk.1
    have hx := hk.2
    obtain ⟨tp, pr, me, ⟨s, hh, l⟩, po, aw⟩ := t
    obtain ⟨up, pr', me', ⟨s', h', l'⟩, po', aw'⟩ := u
    simp [keyX] at hx
    obtain ⟨e1, e2, e3, e4, e5, e6, e7⟩ := hx
    have e0 : pr = pr' := distI_inj ht.pr hu.pr e1
    simp only at h1
    rw [h1, e0, e2, e3, bI_inj e4, show hh = h' by omega, show l = l' by omega, bI_inj e7]
  · exact .inr (.inr h)
theorem ltT_irr (t : TdI) : ¬ ltT t t := lexP.irrefl _
theorem ltT_trans {t u v : TdI} (h : ltT t u) (k : ltT u v) : ltT t v := lexP.trans h k
/-- What holds of every rib that calls made. -/
structure InvR (L : List TdI) : Prop where
  ok : ∀ t ∈ L, TdOk t
  srt : L.Pairwise ltT
  way : L.Pairwise fun t u => ¬ (t.1 = u.1 ∧ sameW t.2 u.2 = true)
theorem InvR.nil : InvR [] := ⟨by simp, .nil, .nil⟩
theorem sameW_refl (x : PaI) : sameW x x = true := by simp [sameW]
theorem sameW_comm (x y : PaI) : sameW x y = sameW y x := by
  unfold sameW
  simp only [eq_comm]
/-- Sorted rows with the same elements are the same. -/
theorem srt_ext : ∀ {L M : List TdI}, L.Pairwise ltT → M.Pairwise ltT → (∀ t, t ∈ L ↔ t ∈ M) → L = M
  | [], [], _, _, _ => rfl
  | [], y :: s, _, _, h => by have := (h y).2 (by simp); cases this
  | x :: r, [], _, _, h => by have := (h x).1 (by simp); cases this
  | x :: r, y :: s, hL, hM, h => by
    rw [List.pairwise_cons] at hL hM
    have hxy : x = y := by
      rcases List.mem_cons.1 ((h x).1 (by simp)) with e | e
      · exact e
      · rcases List.mem_cons.1 ((h y).2 (by simp)) with e2 | e2
        · exact e2.symm
        · exact absurd (ltT_trans (hL.1 y e2) (hM.1 x e)) (ltT_irr x)
    subst hxy
    congr 1
    refine srt_ext hL.2 hM.2 fun t => ⟨fun ht => ?_, fun ht => ?_⟩
    · rcases List.mem_cons.1 ((h t).1 (List.mem_cons_of_mem _ ht)) with e | e
      · subst e; exact absurd (hL.1 t ht) (ltT_irr t)
      · exact e
    · rcases List.mem_cons.1 ((h t).2 (List.mem_cons_of_mem _ ht)) with e | e
      · subst e; exact absurd (hM.1 t ht) (ltT_irr t)
      · exact e
theorem insI_mem (L : List TdI) (t u : TdI) : u ∈ insI L t ↔ u = t ∨ u ∈ L := by
  unfold insI
  rw [List.mem_append, List.mem_cons]
  have := List.take_append_drop (posI L t) L
  constructor
  · rintro (h | h | h)
    · exact .inr (List.mem_of_mem_take h)
    · exact .inl h
    · exact .inr (List.mem_of_mem_drop h)
  · rintro (h | h)
    · exact .inr (.inl h)
    · rw [← this, List.mem_append] at h
      rcases h with h | h
      · exact .inl h
      · exact .inr (.inr h)
theorem takeWhile_take {α : Type} (p : α → Bool) : ∀ (l : List α), l.take (l.takeWhile p).length = l.takeWhile p
  | [] => rfl
  | x :: r => by
    rw [List.takeWhile_cons]
    split
    · rw [List.length_cons, List.take_succ_cons, takeWhile_take p r]
    · rfl
theorem takeWhile_drop {α : Type} (p : α → Bool) : ∀ (l : List α), l.drop (l.takeWhile p).length = l.dropWhile p
  | [] => rfl
  | x :: r => by
    rw [List.takeWhile_cons, List.dropWhile_cons]
    split
    · rw [List.length_cons, List.drop_succ_cons, takeWhile_drop p r]
    · rfl
theorem insI_eq (L : List TdI) (t : TdI) : insI L t = L.takeWhile (fun u => aheadT u t) ++ t :: L.dropWhile (fun u => aheadT u t) := by
  unfold insI posI
  rw [takeWhile_take, takeWhile_drop]
theorem insI_cons (x : TdI) (r : List TdI) (t : TdI) : insI (x :: r) t = if aheadT x t = true then x :: insI r t else t :: x :: r := by
  rw [insI_eq, List.takeWhile_cons, List.dropWhile_cons]
  split
  · rw [insI_eq]; rfl
  · rfl
theorem insI_srt {L : List TdI} (hok : ∀ u ∈ L, TdOk u) {t : TdI} (ht : TdOk t) (hs : L.Pairwise ltT) (hn : t ∉ L) : (insI L t).Pairwise ltT := by
  induction L with
  | nil => exact List.pairwise_singleton _ _
  | cons x r ih =>
    rw [List.pairwise_cons] at hs
    rw [insI_cons]
    have hx := hok x (by simp)
    have a := aheadT_lt hx ht
    split
    · rename_i h
      rw [List.pairwise_cons]
      refine ⟨fun u hu => ?_, ih (fun u hu => hok u (List.mem_cons_of_mem _ hu)) hs.2 (fun h => hn (List.mem_cons_of_mem _ h))⟩
      rcases (insI_mem r t u).1 hu with e | e
      · subst e; exact a.1 h
      · exact hs.1 u e
    · rename_i h
      have hlt : ltT t x := by
        rcases ltT_tri hx ht with h1 | h1 | h1
        · exact absurd (a.2 h1) h
        · exact absurd (by rw [h1]; simp) hn
        · exact h1
      rw [List.pairwise_cons]
      refine ⟨fun u hu => ?_, List.pairwise_cons.2 hs⟩
      rcases List.mem_cons.1 hu with e | e
      · subst e; exact hlt
      · exact ltT_trans hlt (hs.1 u e)
end Go.Proofs.YtjlmgkdieffjcaaDoor
