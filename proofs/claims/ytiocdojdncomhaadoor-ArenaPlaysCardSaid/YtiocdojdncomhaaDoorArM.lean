/-
  Plain rows of taken blocks (layer 10): how many cells; the same blocks on another way.
-/
import Derived.Test.YtiocdojdncomhaaDoorArN
namespace Go.Proofs.YtiocdojdncomhaaDoor
set_option linter.unusedVariables false

/-- How many cells are taken. -/
def sumB (L : List Bl) : Nat := (L.map fun b => 2 ^ b.2).sum
theorem sumB_cons (b : Bl) (L : List Bl) : sumB (b :: L) = 2 ^ b.2 + sumB L := by simp [sumB]
theorem sumB_ins (p o : Nat) : ∀ L : List Bl, sumB (ins p o L) = sumB L + 2 ^ o
  | [] => by simp [ins, sumB]
  | b :: L => by
    rw [ins_cons]
    split
    · rw [sumB_cons, sumB_ins p o L, sumB_cons]; omega
    · rw [sumB_cons, sumB_cons]
      show 2 ^ o + (2 ^ b.2 + sumB L) = 2 ^ b.2 + sumB L + 2 ^ o
      omega
theorem sumB_end : ∀ (L : List Bl) (a e : Nat), a ≤ e → L.Pairwise (fun x y => x.1 + 2 ^ x.2 ≤ y.1) → (∀ b ∈ L, a ≤ b.1 ∧ b.1 + 2 ^ b.2 ≤ e) → a + sumB L ≤ e
  | [], a, e, hae, _, _ => by simpa [sumB] using hae
  | b :: L, a, e, hae, h, hb => by
    obtain ⟨h1, h2⟩ := List.pairwise_cons.1 h
    obtain ⟨b1, b2⟩ := hb b (by simp)
    have := sumB_end L (b.1 + 2 ^ b.2) e b2 h2 fun x hx => ⟨h1 x hx, (hb x (by simp [hx])).2⟩
    rw [sumB_cons]
    omega
theorem sumB_le {O : Nat} {L : List Bl} (hI : InvA O L) : sumB L ≤ 2 ^ O := by
  have := sumB_end L 0 (2 ^ O) (Nat.zero_le _) hI.row fun b hb => ⟨Nat.zero_le _, (hI.each b hb).2⟩
  omega
/-- The greatest order of a free block; below 0: there is none. -/
def grS (l : List Bl) : Int := l.foldl (fun k f => if k < (f.2 : Int) then (f.2 : Int) else k) (-1)
theorem gr_fold : ∀ (l : List Bl) (k : Int), k ≤ l.foldl (fun k f => if k < (f.2 : Int) then (f.2 : Int) else k) k ∧ (∀ f ∈ l, (f.2 : Int) ≤ l.foldl (fun k f => if k < (f.2 : Int) then (f.2 : Int) else k) k) ∧
    (l.foldl (fun k f => if k < (f.2 : Int) then (f.2 : Int) else k) k = k ∨ ∃ f ∈ l, l.foldl (fun k f => if k < (f.2 : Int) then (f.2 : Int) else k) k = (f.2 : Int))
  | [], k => ⟨Int.le_refl _, (fun f hf => by cases hf), .inl rfl⟩
  | x :: r, k => by
    rw [List.foldl_cons]
    obtain ⟨h1, h2, h3⟩ := gr_fold r (if k < (x.2 : Int) then (x.2 : Int) else k)
    have hk : k ≤ (if k < (x.2 : Int) then (x.2 : Int) else k) ∧ (x.2 : Int) ≤ (if k < (x.2 : Int) then (x.2 : Int) else k) := by split <;> omega
    refine ⟨by omega, fun f hf => ?_, ?_⟩
    · rcases List.mem_cons.1 hf with e | e
      · rw [e]; omega
      · exact h2 f e
    · rcases h3 with h3 | ⟨f, hf, h3⟩
      · by_cases hx : k < (x.2 : Int)
        · right; exact ⟨x, by simp, by rw [h3, if_pos hx]⟩
        · left; rw [h3, if_neg hx]
      · right; exact ⟨f, by simp [hf], h3⟩
theorem grS_ge {l : List Bl} {f : Bl} (hf : f ∈ l) : (f.2 : Int) ≤ grS l := (gr_fold l (-1)).2.1 f hf
theorem grS_lt {l : List Bl} {o : Nat} (h : ∀ f ∈ l, f.2 < o) : grS l < (o : Int) := by
  rcases (gr_fold l (-1)).2.2 with e | ⟨f, hf, e⟩
  · unfold grS; rw [e]; omega
  · have := h f hf
    unfold grS; rw [e]; omega
/-- What is refused would have fitted nowhere. -/
theorem tkS_full {O : Nat} {L : List Bl} {o : Nat} (h : tkS O L o = none) : grS (fre L O 0) < (o : Int) := by
  apply grS_lt
  intro f hf
  apply Nat.lt_of_not_le
  intro ho
  obtain ⟨g, e, -⟩ := bst_yes hf ho
  unfold tkS at h
  rw [e] at h
  cases h
theorem tkS_fits {O : Nat} {L : List Bl} {o : Nat} {r : Nat × List Bl} (hI : InvA O L) (h : tkS O L o = some r) : (o : Int) ≤ grS (fre L O 0) := by
  obtain ⟨p, M⟩ := r
  obtain ⟨-, -, -, f, hf, -, ho, -⟩ := tkS_some hI h
  have := grS_ge hf
  omega
/-- All single cells from the first one on. -/
def sgl (i : Nat) : List Bl := (List.range i).map fun q => (q, 0)
theorem sgl_mem {i : Nat} {x : Bl} : x ∈ sgl i ↔ x.2 = 0 ∧ x.1 < i := by
  unfold sgl
  rw [List.mem_map]
  constructor
  · rintro ⟨q, hq, rfl⟩
    exact ⟨rfl, List.mem_range.1 hq⟩
  · rintro ⟨h1, h2⟩
    exact ⟨x.1, List.mem_range.2 h2, by obtain ⟨a, b⟩ := x; simp only at h1; rw [h1]⟩
theorem sgl_next {O i : Nat} (hi : i < 2 ^ O) : ∃ M, tkS O (sgl i) 0 = some (i, M) ∧ ∀ x, x ∈ M ↔ x ∈ sgl (i + 1) := by
  refine ⟨_, tkS_next hi (fun q hq => ⟨(q, 0), sgl_mem.2 ⟨rfl, hq⟩, Nat.le_refl _, by simp⟩) (fun b hb => ?_), fun x => ?_⟩
  · obtain ⟨h1, h2⟩ := sgl_mem.1 hb
    rw [h1]; simp; omega
  · rw [ins_mem, sgl_mem, sgl_mem]
    constructor
    · rintro (h | ⟨h1, h2⟩)
      · rw [h]; exact ⟨rfl, Nat.lt_succ_self _⟩
      · exact ⟨h1, by omega⟩
    · rintro ⟨h1, h2⟩
      by_cases h : x.1 < i
      · exact .inr ⟨h1, h⟩
      · left
        obtain ⟨a, b⟩ := x
        simp only at h1 h2 h
        rw [h1]
        congr 1
        omega
/-- Does a cell lie in one of them? -/
def hld (L : List Bl) (q : Nat) : Prop := ∃ b ∈ L, b.1 ≤ q ∧ q < b.1 + 2 ^ b.2
/-- The first so many blocks of L lie as they lie in L; all other cells singly, but those from p on up to p + j, which are free. -/
def Mid (O : Nat) (L : List Bl) (p j : Nat) (M : List Bl) : Prop := InvA O M ∧ ∀ x, x ∈ M ↔ x ∈ L ∨ (x.2 = 0 ∧ x.1 < 2 ^ O ∧ ¬ hld L x.1 ∧ ¬ (p ≤ x.1 ∧ x.1 < p + j))
theorem inv_sgl {O i : Nat} (hi : i ≤ 2 ^ O) : InvA O (sgl i) := by
  refine ⟨?_, fun b hb => ?_⟩
  · unfold sgl
    rw [List.pairwise_map]
    refine List.Pairwise.imp (fun {a b} h => ?_) List.pairwise_lt_range
    show a + 2 ^ 0 ≤ b
    simp; omega
  · obtain ⟨h1, h2⟩ := sgl_mem.1 hb
    rw [h1]
    exact ⟨⟨b.1, by simp⟩, by simp; omega⟩
theorem mid_start {O p : Nat} : Mid O [] p 0 (sgl (2 ^ O)) := by
  refine ⟨inv_sgl (Nat.le_refl _), fun x => ?_⟩
  rw [sgl_mem]
  constructor
  · rintro ⟨h1, h2⟩
    exact .inr ⟨h1, h2, (fun ⟨b, hb, _⟩ => by cases hb), by omega⟩
  · rintro (h | ⟨h1, h2, -, -⟩)
    · cases h
    · exact ⟨h1, h2⟩
/-- One cell more given back. -/
theorem mid_give {O : Nat} {L M : List Bl} {p j k : Nat} (h : Mid O L p j M) (hj : j < 2 ^ k) (hp : p + 2 ^ k ≤ 2 ^ O) (hn : ∀ q, p ≤ q → q < p + 2 ^ k → ¬ hld L q) :
    ∃ M', gvS M (p + j) = some M' ∧ Mid O L p (j + 1) M' := by
  have hm : (p + j, 0) ∈ M := (h.2 _).2 (.inr ⟨rfl, by show p + j < 2 ^ O; omega, hn _ (by omega) (by omega), by show ¬ (p ≤ p + j ∧ p + j < p + j); omega⟩)
  obtain ⟨M', e, hI, hx⟩ := gvS_mem h.1 hm
  refine ⟨M', e, hI, fun x => ?_⟩
  rw [hx, h.2]
  constructor
  · rintro ⟨h1 | ⟨h1, h2, h3, h4⟩, h5⟩
    · exact .inl h1
    · exact .inr ⟨h1, h2, h3, by omega⟩
  · rintro (h1 | ⟨h1, h2, h3, h4⟩)
    · refine ⟨.inl h1, fun e2 => hn (p + j) (by omega) (by omega) ⟨x, h1, ?_⟩⟩
      have := two_pos x.2
      omega
    · exact ⟨.inr ⟨h1, h2, h3, by omega⟩, by omega⟩
/-- The block that is free then is taken as it lies in L. -/
theorem mid_take {O : Nat} {L M : List Bl} {p k : Nat} (h : Mid O L p (2 ^ k) M) (hd : 2 ^ k ∣ p) (hp : p + 2 ^ k ≤ 2 ^ O) (hn : ∀ q, p ≤ q → q < p + 2 ^ k → ¬ hld L q) (r : Nat) :
    ∃ M', tkS O M k = some (p, M') ∧ Mid O (L ++ [(p, k)]) r 0 M' := by
  have pk := two_pos k
  have hc : clr M p k = true := by
    rw [clr_iff]
    intro b hb hm
    have pb := two_pos b.2
    rcases (h.2 b).1 hb with h1 | ⟨h1, h2, h3, h4⟩
    · -- a cell that both have
      by_cases hq : p ≤ b.1
      · exact hn b.1 hq hm.1 ⟨b, h1, Nat.le_refl _, by omega⟩
      · exact hn p (Nat.le_refl _) (by omega) ⟨b, h1, by omega, hm.2⟩
    · rw [show b = (b.1, 0) by obtain ⟨x, y⟩ := b; simp only at h1; rw [h1]] at hm
      have e1 : (2 : Nat) ^ 0 = 1 := rfl
      have h5 := hm.1
      have h6 := hm.2
      simp only [e1] at h5 h6
      omega
  have ht := tkS_only h.1 hd hp hc (fun q hq ho => by
    by_cases hl : hld L q
    · obtain ⟨b, hb, h1⟩ := hl
      exact ⟨b, (h.2 b).2 (.inl hb), h1⟩
    · exact ⟨(q, 0), (h.2 _).2 (.inr ⟨rfl, hq, hl, by show ¬ (p ≤ q ∧ q < p + 2 ^ k); omega⟩), Nat.le_refl _, by simp⟩)
  refine ⟨_, ht, (tkS_some h.1 ht).2.1, fun x => ?_⟩
  rw [ins_mem, h.2]
  have hh : ∀ q, hld (L ++ [(p, k)]) q ↔ hld L q ∨ (p ≤ q ∧ q < p + 2 ^ k) := by
    intro q
    constructor
    · rintro ⟨b, hb, h1⟩
      rcases List.mem_append.1 hb with e | e
      · exact .inl ⟨b, e, h1⟩
      · rw [List.mem_singleton.1 e] at h1; exact .inr h1
    · rintro (⟨b, hb, h1⟩ | h1)
      · exact ⟨b, by simp [hb], h1⟩
      · exact ⟨(p, k), by simp, h1⟩
  rw [List.mem_append, List.mem_singleton, hh]
  constructor
  · rintro (e | e | ⟨h1, h2, h3, h4⟩)
    · exact .inl (.inr e)
    · exact .inl (.inl e)
    · exact .inr ⟨h1, h2, fun e => by rcases e with e | e; exact h3 e; exact h4 e, by omega⟩
  · rintro ((e | e) | ⟨h1, h2, h3, h4⟩)
    · exact .inr (.inl e)
    · exact .inl e
    · exact .inr (.inr ⟨h1, h2, fun e => h3 (.inl e), fun e => h3 (.inr e)⟩)
/-- The blocks of L, and those single cells behind i that lie in none. -/
def Lst (O : Nat) (L : List Bl) (i : Nat) (M : List Bl) : Prop := InvA O M ∧ ∀ x, x ∈ M ↔ x ∈ L ∨ (x.2 = 0 ∧ i ≤ x.1 ∧ x.1 < 2 ^ O ∧ ¬ hld L x.1)
theorem lst_start {O : Nat} {L M : List Bl} {p : Nat} (h : Mid O L p 0 M) : Lst O L 0 M := by
  refine ⟨h.1, fun x => ?_⟩
  rw [h.2]
  constructor
  · rintro (e | ⟨h1, h2, h3, h4⟩)
    · exact .inl e
    · exact .inr ⟨h1, Nat.zero_le _, h2, h3⟩
  · rintro (e | ⟨h1, -, h2, h3⟩)
    · exact .inl e
    · exact .inr ⟨h1, h2, h3, by omega⟩
theorem lst_held {O : Nat} {L M : List Bl} {i : Nat} (h : Lst O L i M) (hi : hld L i) : Lst O L (i + 1) M := by
  refine ⟨h.1, fun x => ?_⟩
  rw [h.2]
  constructor
  · rintro (e | ⟨h1, h2, h3, h4⟩)
    · exact .inl e
    · refine .inr ⟨h1, ?_, h3, h4⟩
      rcases Nat.lt_or_ge i x.1 with h5 | h5
      · exact h5
      · have : x.1 = i := by omega
        rw [this] at h4; exact absurd hi h4
  · rintro (e | ⟨h1, h2, h3, h4⟩)
    · exact .inl e
    · exact .inr ⟨h1, by omega, h3, h4⟩
theorem lst_give {O : Nat} {L M : List Bl} {i : Nat} (h : Lst O L i M) (hO : i < 2 ^ O) (hi : ¬ hld L i) : ∃ M', gvS M i = some M' ∧ Lst O L (i + 1) M' := by
  have hm : (i, 0) ∈ M := (h.2 _).2 (.inr ⟨rfl, Nat.le_refl _, hO, hi⟩)
  obtain ⟨M', e, hI, hx⟩ := gvS_mem h.1 hm
  refine ⟨M', e, hI, fun x => ?_⟩
  rw [hx, h.2]
  constructor
  · rintro ⟨e | ⟨h1, h2, h3, h4⟩, hne⟩
    · exact .inl e
    · exact .inr ⟨h1, by omega, h3, h4⟩
  · rintro (e | ⟨h1, h2, h3, h4⟩)
    · refine ⟨.inl e, fun e2 => hi ⟨x, e, ?_⟩⟩
      have := two_pos x.2
      omega
    · exact ⟨.inr ⟨h1, by omega, h3, h4⟩, by omega⟩
/-- What is left in the end is L. -/
theorem lst_done {O : Nat} {L M : List Bl} {i : Nat} (hL : InvA O L) (h : Lst O L i M) (hi : 2 ^ O ≤ i) : M = L := by
  refine row_ext h.1.row hL.row fun x => ?_
  rw [h.2]
  constructor
  · rintro (e | ⟨-, h2, h3, -⟩)
    · exact e
    · omega
  · exact fun e => .inl e
end Go.Proofs.YtiocdojdncomhaaDoor
