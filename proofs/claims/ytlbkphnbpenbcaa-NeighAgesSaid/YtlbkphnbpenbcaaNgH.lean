/-
  The program's own cache of neighbours (layer 19): slices.SortFunc over keys that are valid.
-/
import Derived.Test.YtlbkphnbpenbcaaNgG
import Derived.Test.YtlbkphnbpenbcaaNgShelf
namespace Go.Proofs.Ytlbkphnbpenbcaa
open Go.RowKit Go.Shelf Go.Sort
set_option linter.unusedVariables false

/-- A valid key. -/
abbrev KyT : Type := { k : KyI // vldK k = true }
instance : Inhabited KyT := ⟨⟨(0, true, 0, 0), by decide⟩⟩
def vC (x : KyT) : List Value := kyC x.1
theorem vC_len (x : KyT) : (vC x).length = 4 := rfl
theorem vC_one (x : KyT) : ∀ v ∈ vC x, v.oneCell' = true := by
  intro u hu
  unfold vC at hu
  simp at hu
  rcases hu with rfl | rfl | rfl | rfl <;> rfl
theorem lexP_swo {α : Type} (key : α → List Int) (hk : ∀ x y, (key x).length = (key y).length) (lt : α → α → Bool) (h : ∀ x y, lt x y = true ↔ lexP (key x) (key y)) : SWO lt := by
  have hf : ∀ x y, lt x y = false ↔ key x = key y ∨ lexP (key y) (key x) := fun x y => by
    have h1 := h x y
    rcases lexP.tri (hk x y) with e | e | e
    · have : ¬ (key x = key y ∨ lexP (key y) (key x)) := by
        rintro (e2 | e2)
        · rw [e2] at e; exact lexP.irrefl _ e
        · exact lexP.irrefl _ (lexP.trans e e2)
      rw [h1.2 e]; simp [this]
    · refine ⟨fun _ => .inl e, fun _ => ?_⟩
      cases hb : lt x y with
      | false => rfl
      | true => have := h1.1 hb; rw [e] at this; exact absurd this (lexP.irrefl _)
    · refine ⟨fun _ => .inr e, fun _ => ?_⟩
      cases hb : lt x y with
      | false => rfl
      | true => exact absurd (lexP.trans (h1.1 hb) e) (lexP.irrefl _)
  refine ⟨fun x => (hf x x).2 (.inl rfl), fun x y z a b => (h x z).2 (lexP.trans ((h x y).1 a) ((h y z).1 b)), fun x y z a b => (hf x z).2 ?_⟩
  rcases (hf x y).1 a with e | e
  · rcases (hf y z).1 b with e2 | e2
    · exact .inl (e.trans e2)
    · rw [e]; exact .inr e2
  · rcases (hf y z).1 b with e2 | e2
    · rw [← e2]; exact .inr e
    · exact .inr (lexP.trans e2 e)
theorem cmpK_lt0 (k q : KyI) : decide (cmpK k q < 0) = ltB k q := by
  obtain ⟨p, s, h, l⟩ := k
  obtain ⟨p', s', h', l'⟩ := q
  unfold cmpK ltB lsK cmpI
  simp only
  by_cases hp : p = p'
  · subst hp
    rw [if_pos rfl]
    cases lss s (h : Int) (l : Int) s' (h' : Int) (l' : Int) <;> simp
    split <;> simp
  · rw [if_neg hp]
    by_cases h1 : p < p'
    · simp [h1]
    · rw [if_neg h1]
      have : decide (p = p') = false := by simpa using hp
      rw [this]
      simp [h1]
      split <;> simp
theorem cmpK_lt (x y : KyT) : ltOf (fun x y : KyT => cmpK x.1 y.1) x y = ltB x.1 y.1 := by
  show decide (cmpK x.1 y.1 < 0) = _
  exact cmpK_lt0 x.1 y.1
theorem cmpV_swo : SWO (ltOf fun x y : KyT => cmpK x.1 y.1) := by
  refine lexP_swo (fun x : KyT => keyK x.1) (fun _ _ => rfl) _ fun x y => ?_
  rw [cmpK_lt]
  exact lt_key x.2 y.2
theorem aggKy (w : World) : (isAgg 70).run Try.prog w = .ok true w := by kernel_rfl
theorem sizKy (w : World) : (Go.sizeOf 70).run Try.prog w = .ok 4 w := by kernel_rfl
/-- slices.SortFunc over valid keys. -/
theorem sort_ky (A : Option Addr) (n c : Nat) (l : List KyT) (hl : l.length = n) (hn : n ≤ 100000) (w : World) (h : w.ownsRow 0 70 4 (.slice A n c) n (l.flatMap vC)) :
    Calls Try.prog 57 #[.slice A n c, .func (.func 50) #[] #[]] w fun e w' => e = .returned (.tuple #[]) ∧
      ∃ l' : List KyT, l'.Perm l ∧ (l'.Pairwise fun x y => ltB y.1 x.1 = false) ∧ w'.ownsRow 0 70 4 (.slice A n c) n (l'.flatMap vC) ∧ Tch w w' (obI (.slice A n c)) := by
  rcases Nat.eq_zero_or_pos n with h0 | h0
  · subst h0
    have hl0 : l = [] := List.eq_nil_of_length_eq_zero hl
    subst hl0
    refine (show Calls _ 57 _ _ _ from AnyF.slices_SortFunc_none Try.sortA A c (.func (.func 50) #[] #[]) w).mono ?_
    rintro e w' ⟨rfl, rfl⟩
    exact ⟨rfl, [], .refl _, .nil, h, Tch.refl _ _⟩
  · obtain ⟨g, rfl⟩ := slice_some h h0
    subst hl
    have hH : HoldsK vC 4 w g 0 l.toArray := holds_of vC 4 vC_len (by decide) rfl h
    have hlt := (own_openN h).choose_spec.1.lt
    have hcmp : CmpLays Try.prog 50 #[] vC 4 (fun x y : KyT => cmpK x.1 y.1) g 0 l.toArray.size w := fun m os dk hs x y => (cmpK_any x.1 y.1 _).mono fun e w' hw => ⟨hw.1, hw.2.grow⟩
    have eg : ∀ args w, (callFunc 50 args).run Try.prog w = .ok (.enter 50 args) w := enters_of Try.func50 (by kernel_rfl) rfl
    refine (show Calls _ 57 _ _ _ from AnyQ.slices_SortFunc Try.sortA 4 aggKy sizKy vC vC_len vC_one (fun x y : KyT => cmpK x.1 y.1) cmpV_swo 50 #[] g 0 c l.toArray w eg hcmp hH hlt (by rw [List.size_toArray]; omega)).mono ?_
    rintro e w' ⟨rfl, d', m, os, ⟨hp1, -, hp2⟩, hs, rfl⟩
    have hsz : d'.size = l.length := by rw [hp1, List.size_toArray]
    have hs' : SortedIn (ltOf fun x y : KyT => cmpK x.1 y.1) 0 d'.size d' := by rw [hp1]; exact hs
    obtain ⟨r1, r2⟩ := sortW_own vC 4 vC_len (by decide) (m := m) (os := os) hsz rfl h
    refine ⟨rfl, d'.toList, ?_, (pw_of_srt hs').imp (fun {x y} hxy => ?_), r1, r2⟩
    · rw [← hp1] at hp2
      have e1 : d'.extract 0 d'.size = d' := Array.extract_size
      have e2 : l.toArray.extract 0 d'.size = l.toArray := by rw [hp1]; exact Array.extract_size
      rw [e1, e2] at hp2
      simpa using hp2
    · rw [← cmpK_lt]; exact hxy
end Go.Proofs.Ytlbkphnbpenbcaa
