/-
  Plain trees over rows of taken blocks (layer 10): which orders are free within each block.
-/
import Derived.Test.YtiocdojdncomhaaDoorArM
namespace Go.Proofs.YtiocdojdncomhaaDoor
set_option linter.unusedVariables false

/-- The orders of some blocks, as bits. -/
def msk : List Bl → Nat
  | [] => 0
  | f :: r => 2 ^ f.2 ||| msk r
theorem msk_app : ∀ l m : List Bl, msk (l ++ m) = msk l ||| msk m
  | [], m => by simp [msk]
  | f :: r, m => by simp [msk, msk_app r m, Nat.or_assoc]
theorem msk_bit (j : Nat) : ∀ l : List Bl, (msk l).testBit j = l.any fun f => decide (f.2 = j)
  | [] => by simp [msk]
  | f :: r => by rw [msk, Nat.testBit_or, Nat.testBit_two_pow, msk_bit j r, List.any_cons]
theorem msk_lt {n : Nat} : ∀ {l : List Bl}, (∀ f ∈ l, f.2 < n) → msk l < 2 ^ n
  | [], _ => by simp only [msk]; exact two_pos n
  | f :: r, h => Nat.or_lt_two_pow ((Nat.pow_lt_pow_iff_right (by decide)).2 (h f (by simp))) (msk_lt fun x hx => h x (by simp [hx]))
theorem clr_half {L : List Bl} {p k : Nat} : clr L p (k + 1) = true ↔ clr L p k = true ∧ clr L (p + 2 ^ k) k = true := by
  have hs : 2 ^ (k + 1) = 2 ^ k + 2 ^ k := by rw [Nat.pow_succ]; omega
  have hk0 := two_pos k
  simp only [clr_iff, meets]
  constructor
  · intro h
    exact ⟨fun b hb hm => h b hb (by omega), fun b hb hm => h b hb (by omega)⟩
  · rintro ⟨h1, h2⟩ b hb hm
    have := h1 b hb
    have := h2 b hb
    have := two_pos b.2
    omega
theorem cvr_meets {L : List Bl} {p k : Nat} (h : cvr L p k = true) : clr L p k = false := by
  obtain ⟨b, hb, h1, h2⟩ := cvr_iff.1 h
  rw [Bool.eq_false_iff]
  intro hc
  have := two_pos k
  exact clr_iff.1 hc b hb ⟨by omega, by omega⟩
theorem cvr_half {L : List Bl} {p k : Nat} (h : cvr L p (k + 1) = true) : cvr L p k = true ∧ cvr L (p + 2 ^ k) k = true := by
  have hs : 2 ^ (k + 1) = 2 ^ k + 2 ^ k := by rw [Nat.pow_succ]; omega
  have hk0 := two_pos k
  obtain ⟨b, hb, h1, h2⟩ := cvr_iff.1 h
  exact ⟨cvr_iff.2 ⟨b, hb, by omega, by omega⟩, cvr_iff.2 ⟨b, hb, by omega, by omega⟩⟩
theorem frp_clr {L : List Bl} {p k : Nat} (h : clr L p k = true) : fre L k p = [(p, k)] := by
  cases k <;> simp [fre, h]
theorem fre_cvr {L : List Bl} {p k : Nat} (h : cvr L p k = true) : fre L k p = [] := by
  have := cvr_meets h
  cases k <;> simp [fre, h, this]
theorem fre_two {L : List Bl} {p k : Nat} (h1 : clr L p (k + 1) = false) (h2 : cvr L p (k + 1) = false) : fre L (k + 1) p = fre L k p ++ fre L k (p + 2 ^ k) := by
  simp [fre, h1, h2]
theorem fre_ord (L : List Bl) : ∀ (k p : Nat), ∀ f ∈ fre L k p, f.2 ≤ k
  | 0, p, f, hf => by
    unfold fre at hf
    split at hf
    · rw [List.mem_singleton.1 hf]; exact Nat.le_refl _
    · cases hf
  | k + 1, p, f, hf => by
    unfold fre at hf
    split at hf
    · rw [List.mem_singleton.1 hf]; exact Nat.le_refl _
    · split at hf
      · cases hf
      · rcases List.mem_append.1 hf with h | h
        · exact Nat.le_succ_of_le (fre_ord L k p f h)
        · exact Nat.le_succ_of_le (fre_ord L k _ f h)
theorem fre_lt (L : List Bl) (k p : Nat) : msk (fre L k p) < 2 ^ (k + 1) := msk_lt fun f hf => Nat.lt_succ_of_le (fre_ord L k p f hf)
/-- A block has its own order just if all of it is free. -/
theorem fre_own (L : List Bl) (k p : Nat) : (msk (fre L k p)).testBit k = clr L p k := by
  cases hc : clr L p k with
  | true => rw [frp_clr hc, msk_bit]; simp
  | false =>
    rw [Bool.eq_false_iff]
    intro h
    rw [msk_bit, List.any_eq_true] at h
    obtain ⟨f, hf, e⟩ := h
    have e' : f.2 = k := by simpa using e
    cases k with
    | zero => simp [fre, hc] at hf
    | succ k =>
      unfold fre at hf
      rw [if_neg (by rw [hc]; simp)] at hf
      split at hf
      · cases hf
      · rcases List.mem_append.1 hf with h | h
        · have := fre_ord L k _ f h; omega
        · have := fre_ord L k _ f h; omega
/-- What a block has by what its halves have. -/
def jn (a b k : Nat) : Nat := if a = 2 ^ k ∧ b = 2 ^ k then 2 ^ (k + 1) else a ||| b
theorem fre_jn (L : List Bl) (k p : Nat) : msk (fre L (k + 1) p) = jn (msk (fre L k p)) (msk (fre L k (p + 2 ^ k))) k := by
  unfold jn
  cases hc : clr L p (k + 1) with
  | true =>
    obtain ⟨h1, h2⟩ := clr_half.1 hc
    rw [frp_clr hc, frp_clr h1, frp_clr h2, if_pos (by simp [msk])]
    simp [msk]
  | false =>
    rw [if_neg]
    · cases hv : cvr L p (k + 1) with
      | true =>
        obtain ⟨h1, h2⟩ := cvr_half hv
        rw [fre_cvr hv, fre_cvr h1, fre_cvr h2]
        simp [msk]
      | false => rw [fre_two hc hv, msk_app]
    · rintro ⟨h1, h2⟩
      have e1 := fre_own L k p
      have e2 := fre_own L k (p + 2 ^ k)
      rw [h1, Nat.testBit_two_pow] at e1
      rw [h2, Nat.testBit_two_pow] at e2
      rw [clr_half.2 ⟨by rw [← e1]; simp, by rw [← e2]; simp⟩] at hc
      cases hc
/-- Where the node of a block stands. -/
def ix (N p k : Nat) : Nat := (2 ^ N + p) / 2 ^ k
/-- A block of 2^N cells. -/
def Vb (N p k : Nat) : Prop := 2 ^ k ∣ p ∧ p + 2 ^ k ≤ 2 ^ N
theorem Vb.le {N p k : Nat} (h : Vb N p k) : k ≤ N := by
  apply Nat.le_of_not_lt
  intro hlt
  have := Nat.pow_lt_pow_right (a := 2) (by decide) hlt
  have := h.2
  omega
theorem ix_mul {N p k : Nat} (h : Vb N p k) : ix N p k * 2 ^ k = 2 ^ N + p := Nat.div_mul_cancel (Nat.dvd_add (dvd_two h.le) h.1)
theorem ix_inj {N p k q j : Nat} (hp : Vb N p k) (hq : Vb N q j) (e : ix N p k = ix N q j) : p = q ∧ k = j := by
  have h1 := ix_mul hp
  have h2 := ix_mul hq
  rw [e] at h1
  have h3 := hp.2
  have h4 := hq.2
  have h5 := two_pos k
  have h6 := two_pos j
  obtain ⟨n, hn⟩ : ∃ n, ix N q j = n := ⟨_, rfl⟩
  rw [hn] at h1 h2
  have hkj : k = j := by
    rcases Nat.lt_trichotomy k j with h | h | h
    · obtain ⟨d, rfl⟩ : ∃ d, j = k + 1 + d := ⟨j - k - 1, by omega⟩
      rw [Nat.pow_add, Nat.pow_succ] at h2
      have h7 := two_pos d
      have : n * (2 ^ k * 2 * 2 ^ d) = n * 2 ^ k * 2 * 2 ^ d := by simp [Nat.mul_assoc]
      rw [this, h1] at h2
      have : (2 ^ N + p) * 2 * 1 ≤ (2 ^ N + p) * 2 * 2 ^ d := Nat.mul_le_mul_left _ h7
      omega
    · exact h
    · obtain ⟨d, rfl⟩ : ∃ d, k = j + 1 + d := ⟨k - j - 1, by omega⟩
      rw [Nat.pow_add, Nat.pow_succ] at h1
      have h7 := two_pos d
      have : n * (2 ^ j * 2 * 2 ^ d) = n * 2 ^ j * 2 * 2 ^ d := by simp [Nat.mul_assoc]
      rw [this, h2] at h1
      have : (2 ^ N + q) * 2 * 1 ≤ (2 ^ N + q) * 2 * 2 ^ d := Nat.mul_le_mul_left _ h7
      omega
  subst hkj
  exact ⟨by omega, rfl⟩
theorem ix_pos {N p k : Nat} (h : Vb N p k) : 0 < ix N p k := by
  have h1 := ix_mul h
  rcases Nat.eq_zero_or_pos (ix N p k) with e | e
  · rw [e] at h1; have := two_pos N; omega
  · exact e
theorem ix_lt {N p k : Nat} (h : Vb N p k) : ix N p k < 2 ^ (N + 1) := by
  have h1 := ix_mul h
  have h2 := h.2
  have h3 := two_pos k
  have hs : 2 ^ (N + 1) = 2 ^ N + 2 ^ N := by rw [Nat.pow_succ]; omega
  have : ix N p k * 1 ≤ ix N p k * 2 ^ k := Nat.mul_le_mul_left _ h3
  omega
theorem ix_root (N : Nat) : ix N 0 N = 1 := by unfold ix; rw [Nat.add_zero]; exact Nat.div_self (two_pos N)
theorem Vb.root (N : Nat) : Vb N 0 N := ⟨Nat.dvd_zero _, by omega⟩
theorem Vb.first {N p k : Nat} (h : Vb N p (k + 1)) : Vb N p k := by
  have hs : 2 ^ (k + 1) = 2 ^ k + 2 ^ k := by rw [Nat.pow_succ]; omega
  have hk0 := two_pos k
  exact ⟨Nat.dvd_trans (dvd_two (Nat.le_succ k)) h.1, by have := h.2; omega⟩
theorem Vb.second {N p k : Nat} (h : Vb N p (k + 1)) : Vb N (p + 2 ^ k) k := by
  have hs : 2 ^ (k + 1) = 2 ^ k + 2 ^ k := by rw [Nat.pow_succ]; omega
  have hk0 := two_pos k
  exact ⟨Nat.dvd_add h.first.1 (Nat.dvd_refl _), by have := h.2; omega⟩
theorem ix_first {N p k : Nat} (h : Vb N p (k + 1)) : ix N p k = 2 * ix N p (k + 1) := by
  have h1 := ix_mul h
  have h2 := ix_mul h.first
  rw [Nat.pow_succ, Nat.mul_comm (2 ^ k) 2, ← Nat.mul_assoc, ← h2] at h1
  rw [Nat.mul_comm 2]
  exact (Nat.eq_of_mul_eq_mul_right (two_pos k) h1).symm
theorem ix_second {N p k : Nat} (h : Vb N p (k + 1)) : ix N (p + 2 ^ k) k = 2 * ix N p (k + 1) + 1 := by
  rw [← ix_first h]
  unfold ix
  rw [← Nat.add_assoc, Nat.add_div_right _ (two_pos k)]
theorem ix_up (N p k : Nat) : ix N p k / 2 = ix N p (k + 1) := by
  unfold ix
  rw [Nat.div_div_eq_div_mul, Nat.pow_succ]
/-- The block of an order in which a cell lies. -/
def dn (p k : Nat) : Nat := p / 2 ^ k * 2 ^ k
theorem dn_le (p k : Nat) : dn p k ≤ p ∧ p < dn p k + 2 ^ k := by
  unfold dn
  have h1 := Nat.div_add_mod p (2 ^ k)
  have h2 := Nat.mod_lt p (two_pos k)
  rw [Nat.mul_comm] at h1
  omega
theorem dn_dvd (p k : Nat) : 2 ^ k ∣ dn p k := ⟨p / 2 ^ k, Nat.mul_comm _ _⟩
theorem dn_vb {N p k : Nat} (hp : p < 2 ^ N) (hk : k ≤ N) : Vb N (dn p k) k := ⟨dn_dvd p k, step_le (dn_dvd p k) (dvd_two hk) (by have := dn_le p k; omega)⟩
theorem dn_self {p k : Nat} (h : 2 ^ k ∣ p) : dn p k = p := Nat.div_mul_cancel h
theorem dn_sub {p j k : Nat} (h : k ≤ j) : dn p j ≤ dn p k ∧ dn p k + 2 ^ k ≤ dn p j + 2 ^ j := by
  have h1 := dn_le p k
  have h2 := dn_le p j
  have h3 : 2 ^ k ∣ dn p j := Nat.dvd_trans (dvd_two h) (dn_dvd p j)
  refine ⟨?_, step_le (dn_dvd p k) (Nat.dvd_add h3 (dvd_two h)) (by omega)⟩
  apply Nat.le_of_not_lt
  intro hlt
  have := step_le (dn_dvd p k) h3 hlt
  omega
theorem ix_dn {N p k : Nat} (hk : k ≤ N) : ix N (dn p k) k = ix N p k := by
  obtain ⟨d, rfl⟩ : ∃ d, N = k + d := ⟨N - k, by omega⟩
  unfold ix dn
  rw [Nat.pow_add, Nat.mul_comm (2 ^ k) (2 ^ d), Nat.add_comm (2 ^ d * 2 ^ k), Nat.add_comm (2 ^ d * 2 ^ k), Nat.add_mul_div_right _ _ (two_pos k), Nat.add_mul_div_right _ _ (two_pos k), Nat.mul_div_cancel _ (two_pos k)]
/-- The other half. -/
def sb (p k : Nat) : Nat := 2 * dn p (k + 1) + 2 ^ k - dn p k
theorem halves (p k : Nat) : (dn p k = dn p (k + 1) ∧ sb p k = dn p (k + 1) + 2 ^ k) ∨ (dn p k = dn p (k + 1) + 2 ^ k ∧ sb p k = dn p (k + 1)) := by
  have hs : 2 ^ (k + 1) = 2 ^ k + 2 ^ k := by rw [Nat.pow_succ]; omega
  have hk0 := two_pos k
  have h1 := dn_le p k
  have h2 := dn_le p (k + 1)
  have h3 := dn_sub (p := p) (Nat.le_succ k)
  have h4 : 2 ^ k ∣ dn p (k + 1) := Nat.dvd_trans (dvd_two (Nat.le_succ k)) (dn_dvd p (k + 1))
  unfold sb
  by_cases hlt : dn p (k + 1) < dn p k
  · have := step_le h4 (dn_dvd p k) hlt
    right
    simp only [Nat.succ_eq_add_one] at h3
    exact ⟨by omega, by omega⟩
  · left
    simp only [Nat.succ_eq_add_one] at h3
    exact ⟨by omega, by omega⟩
theorem sb_vb {N p k : Nat} (hp : p < 2 ^ N) (hk : k < N) : Vb N (sb p k) k := by
  have h := dn_vb hp hk
  rcases halves p k with ⟨-, e⟩ | ⟨-, e⟩
  · rw [e]; exact h.second
  · rw [e]; exact h.first
theorem sb_far (p k : Nat) : dn p k + 2 ^ k ≤ sb p k ∨ sb p k + 2 ^ k ≤ dn p k := by
  rcases halves p k with ⟨e1, e2⟩ | ⟨e1, e2⟩
  · left; rw [e1, e2]; omega
  · right; rw [e1, e2]; omega
/-- One place turned. -/
def up (f : Nat → Nat) (i v : Nat) : Nat → Nat := fun j => if j = i then v else f j
theorem up_same (f : Nat → Nat) (i v : Nat) : up f i v i = v := if_pos rfl
theorem up_other (f : Nat → Nat) {i j : Nat} (v : Nat) (h : j ≠ i) : up f i v j = f j := if_neg h
/-- Each node has what its block has; below a free or a taken block nothing is asked. -/
def TrO (N : Nat) (L : List Bl) (f : Nat → Nat) : Nat → Nat → Prop
  | 0, p => f (ix N p 0) = msk (fre L 0 p)
  | k + 1, p => f (ix N p (k + 1)) = msk (fre L (k + 1) p) ∧ ((clr L p (k + 1) = true ∨ cvr L p (k + 1) = true) ∨ (TrO N L f k p ∧ TrO N L f k (p + 2 ^ k)))
theorem TrO.val {N : Nat} {L : List Bl} {f : Nat → Nat} {k p : Nat} (h : TrO N L f k p) : f (ix N p k) = msk (fre L k p) := by
  cases k with
  | zero => exact h
  | succ k => exact h.1
theorem TrO.stop {N : Nat} {L : List Bl} {f : Nat → Nat} {k p : Nat} (h : f (ix N p k) = msk (fre L k p)) (hs : clr L p k = true ∨ cvr L p k = true) : TrO N L f k p := by
  cases k with
  | zero => exact h
  | succ k => exact ⟨h, .inl hs⟩
theorem TrO.half {N : Nat} {L : List Bl} {f : Nat → Nat} {k p : Nat} (h : TrO N L f (k + 1) p) (h1 : clr L p (k + 1) = false) (h2 : cvr L p (k + 1) = false) : TrO N L f k p ∧ TrO N L f k (p + 2 ^ k) := by
  rcases h.2 with (h3 | h3) | h3
  · rw [h1] at h3; cases h3
  · rw [h2] at h3; cases h3
  · exact h3
/-- A node outside of a block changes nothing of it. -/
theorem TrO.keep {N : Nat} {L : List Bl} {f : Nat → Nat} {q j : Nat} (hq : Vb N q j) (v : Nat) : ∀ {k p : Nat}, Vb N p k → TrO N L f k p → (k < j ∨ q + 2 ^ j ≤ p ∨ p + 2 ^ k ≤ q) → TrO N L (up f (ix N q j) v) k p := by
  intro k
  have hj := two_pos j
  induction k with
  | zero =>
    intro p hp h hd
    show up f (ix N q j) v (ix N p 0) = _
    rw [up_other f v]
    · exact h
    · intro e
      obtain ⟨rfl, rfl⟩ := ix_inj hp hq e
      omega
  | succ k ih =>
    intro p hp h hd
    have hs : 2 ^ (k + 1) = 2 ^ k + 2 ^ k := by rw [Nat.pow_succ]; omega
    have hk0 := two_pos k
    have hk := two_pos k
    refine ⟨?_, ?_⟩
    · rw [up_other f v]
      · exact h.1
      · intro e
        obtain ⟨rfl, rfl⟩ := ix_inj hp hq e
        omega
    · rcases h.2 with h2 | ⟨h2, h3⟩
      · exact .inl h2
      · exact .inr ⟨ih hp.first h2 (by omega), ih hp.second h3 (by omega)⟩
/-- Which taken blocks lie outside makes no odds. -/
theorem agr {L M : List Bl} : ∀ {k p : Nat}, (∀ b, meets b p k → (b ∈ L ↔ b ∈ M)) → clr L p k = clr M p k ∧ cvr L p k = cvr M p k ∧ fre L k p = fre M k p := by
  have h12 : ∀ {k p : Nat}, (∀ b, meets b p k → (b ∈ L ↔ b ∈ M)) → clr L p k = clr M p k ∧ cvr L p k = cvr M p k := by
    intro k p h
    have hk := two_pos k
    constructor
    · rw [Bool.eq_iff_iff, clr_iff, clr_iff]
      exact ⟨fun h1 b hb hm => h1 b ((h b hm).2 hb) hm, fun h1 b hb hm => h1 b ((h b hm).1 hb) hm⟩
    · rw [Bool.eq_iff_iff, cvr_iff, cvr_iff]
      constructor
      · rintro ⟨b, hb, h1, h2⟩
        exact ⟨b, (h b ⟨by omega, by omega⟩).1 hb, h1, h2⟩
      · rintro ⟨b, hb, h1, h2⟩
        exact ⟨b, (h b ⟨by omega, by omega⟩).2 hb, h1, h2⟩
  intro k
  induction k with
  | zero =>
    intro p h
    obtain ⟨h1, h2⟩ := h12 h
    exact ⟨h1, h2, by unfold fre; rw [h1]⟩
  | succ k ih =>
    intro p h
    have hs : 2 ^ (k + 1) = 2 ^ k + 2 ^ k := by rw [Nat.pow_succ]; omega
    have hk0 := two_pos k
    obtain ⟨h1, h2⟩ := h12 h
    have e1 := (ih (p := p) fun b hm => h b ⟨by have := hm.1; omega, hm.2⟩).2.2
    have e2 := (ih (p := p + 2 ^ k) fun b hm => h b ⟨by have := hm.1; omega, by have := hm.2; omega⟩).2.2
    exact ⟨h1, h2, by unfold fre; rw [h1, h2, e1, e2]⟩
theorem TrO.agr {N : Nat} {L M : List Bl} {f : Nat → Nat} : ∀ {k p : Nat}, (∀ b, meets b p k → (b ∈ L ↔ b ∈ M)) → TrO N L f k p → TrO N M f k p := by
  intro k
  induction k with
  | zero =>
    intro p h ht
    show f _ = _
    rw [← (Proofs.YtiocdojdncomhaaDoor.agr h).2.2]
    exact ht
  | succ k ih =>
    intro p h ht
    have hs : 2 ^ (k + 1) = 2 ^ k + 2 ^ k := by rw [Nat.pow_succ]; omega
    have hk0 := two_pos k
    obtain ⟨h1, h2, h3⟩ := Proofs.YtiocdojdncomhaaDoor.agr h
    refine ⟨by rw [← h3]; exact ht.1, ?_⟩
    rw [← h1, ← h2]
    rcases ht.2 with h4 | ⟨h4, h5⟩
    · exact .inl h4
    · exact .inr ⟨ih (fun b hm => h b ⟨by have := hm.1; omega, hm.2⟩) h4, ih (fun b hm => h b ⟨by have := hm.1; omega, by have := hm.2; omega⟩) h5⟩
/-- The way down to a block. -/
theorem TrO.path {N : Nat} {L : List Bl} {f : Nat → Nat} {p o : Nat} (h : TrO N L f N 0) (hp : p < 2 ^ N) (ho : o ≤ N) (hn : ∀ j, o < j → j ≤ N → clr L (dn p j) j = false ∧ cvr L (dn p j) j = false) :
    TrO N L f o (dn p o) ∧ ∀ j, o ≤ j → j < N → TrO N L f j (sb p j) := by
  have key : ∀ d, d ≤ N - o → TrO N L f (N - d) (dn p (N - d)) ∧ ∀ j, N - d ≤ j → j < N → TrO N L f j (sb p j) := by
    intro d
    induction d with
    | zero =>
      intro _
      have e : dn p N = 0 := by unfold dn; rw [Nat.div_eq_of_lt hp, Nat.zero_mul]
      exact ⟨by rw [Nat.sub_zero, e]; exact h, fun j h1 h2 => absurd h2 (by omega)⟩
    | succ d ih =>
      intro hd
      obtain ⟨h1, h2⟩ := ih (by omega)
      obtain ⟨k, hk⟩ : ∃ k, N - d = k + 1 := ⟨N - d - 1, by omega⟩
      rw [hk] at h1 h2
      rw [show N - (d + 1) = k by omega]
      obtain ⟨n1, n2⟩ := hn (k + 1) (by omega) (by omega)
      obtain ⟨h3, h4⟩ := h1.half n1 n2
      have h5 : TrO N L f k (dn p k) ∧ TrO N L f k (sb p k) := by
        rcases halves p k with ⟨e1, e2⟩ | ⟨e1, e2⟩
        · rw [e1, e2]; exact ⟨h3, h4⟩
        · rw [e1, e2]; exact ⟨h4, h3⟩
      refine ⟨h5.1, fun j hj1 hj2 => ?_⟩
      rcases Nat.eq_or_lt_of_le hj1 with e | e
      · rw [← e]; exact h5.2
      · exact h2 j e hj2
  have := key (N - o) (Nat.le_refl _)
  rwa [show N - (N - o) = o by omega] at this
/-- The other halves are right, from an order on. -/
def Sbs (N : Nat) (L : List Bl) (f : Nat → Nat) (p k : Nat) : Prop := ∀ j, k ≤ j → j < N → TrO N L f j (sb p j)
/-- A node within the block of an order changes nothing of the other halves from that order on. -/
theorem Sbs.keep {N : Nat} {L : List Bl} {f : Nat → Nat} {p k q i : Nat} (h : Sbs N L f p k) (hp : p < 2 ^ N) (hq : Vb N q i) (h1 : dn p k ≤ q) (h2 : q + 2 ^ i ≤ dn p k + 2 ^ k) (v : Nat) : Sbs N L (up f (ix N q i) v) p k := by
  intro j hj hN
  refine TrO.keep hq v (sb_vb hp hN) (h j hj hN) (.inr ?_)
  have := sb_far p j
  have := dn_sub (p := p) hj
  omega
/-- One step up. -/
theorem set_step {N : Nat} {L : List Bl} {f : Nat → Nat} {p k : Nat} (hp : p < 2 ^ N) (hk : k < N) (h1 : TrO N L f k (dn p k)) (h2 : Sbs N L f p k) :
    TrO N L (up f (ix N p (k + 1)) (jn (f (2 * ix N p (k + 1))) (f (2 * ix N p (k + 1) + 1)) k)) (k + 1) (dn p (k + 1)) ∧ Sbs N L (up f (ix N p (k + 1)) (jn (f (2 * ix N p (k + 1))) (f (2 * ix N p (k + 1) + 1)) k)) p (k + 1) := by
  have hv := dn_vb hp (k := k + 1) hk
  have h3 : TrO N L f k (dn p (k + 1)) ∧ TrO N L f k (dn p (k + 1) + 2 ^ k) := by
    have := h2 k (Nat.le_refl _) hk
    rcases halves p k with ⟨e1, e2⟩ | ⟨e1, e2⟩
    · rw [e1] at h1; rw [e2] at this; exact ⟨h1, this⟩
    · rw [e1] at h1; rw [e2] at this; exact ⟨this, h1⟩
  have e : ix N (dn p (k + 1)) k + 1 = ix N (dn p (k + 1) + 2 ^ k) k := by rw [ix_second hv, ix_first hv]
  rw [← ix_dn (p := p) (k := k + 1) hk, ← ix_first hv, e, h3.1.val, h3.2.val, ← fre_jn]
  exact ⟨⟨up_same _ _ _, .inr ⟨TrO.keep hv _ hv.first h3.1 (.inl (Nat.lt_succ_self k)), TrO.keep hv _ hv.second h3.2 (.inl (Nat.lt_succ_self k))⟩⟩,
    Sbs.keep (k := k + 1) (fun j hj => h2 j (by omega)) hp hv (Nat.le_refl _) (Nat.le_refl _) _⟩
/-- Where the block itself is set. -/
theorem set_start {N : Nat} {L : List Bl} {f : Nat → Nat} {p o v : Nat} (hv : Vb N p o) (h : Sbs N L f p o) (e : v = msk (fre L o p)) (hs : clr L p o = true ∨ cvr L p o = true) :
    TrO N L (up f (ix N p o) v) o (dn p o) ∧ Sbs N L (up f (ix N p o) v) p o := by
  have hd := dn_self hv.1
  have := two_pos o
  refine ⟨by rw [hd]; exact TrO.stop (by rw [up_same, e]) hs, ?_⟩
  exact h.keep (by have := hv.2; omega) hv (by rw [hd]; exact Nat.le_refl _) (by rw [hd]; exact Nat.le_refl _) _
/-- What lies in a taken block, and the blocks around it. -/
theorem path_held {N : Nat} {L : List Bl} {f : Nat → Nat} {p o : Nat} (hI : InvA N L) (h : TrO N L f N 0) (hb : (p, o) ∈ L) : Sbs N L f p o := by
  obtain ⟨h1, h2⟩ := hI.each _ hb
  simp only at h1 h2
  have ho := two_pos o
  have hv : Vb N p o := ⟨h1, h2⟩
  refine (h.path (by omega) hv.le fun j hj hN => ?_).2
  have d1 := dn_le p j
  have hj0 := two_pos j
  have hlt := Nat.pow_lt_pow_right (a := 2) (by decide) hj
  constructor
  · rw [Bool.eq_false_iff]
    intro hc
    exact clr_iff.1 hc _ hb ⟨d1.2, by show dn p j < p + 2 ^ o; omega⟩
  · rw [Bool.eq_false_iff]
    intro hc
    obtain ⟨b, hb2, e1, e2⟩ := cvr_iff.1 hc
    obtain ⟨i, hi, ei⟩ := List.mem_iff_getElem.1 hb
    obtain ⟨i2, hi2, ei2⟩ := List.mem_iff_getElem.1 hb2
    have hr := hI.row
    rw [List.pairwise_iff_getElem] at hr
    rcases Nat.lt_trichotomy i i2 with hlt | heq | hlt
    · have := hr i i2 hi hi2 hlt
      rw [ei, ei2] at this
      simp only at this
      omega
    · subst heq
      rw [ei] at ei2
      subst ei2
      simp only at e1 e2
      omega
    · have := hr i2 i hi2 hi hlt
      rw [ei, ei2] at this
      simp only at this
      omega
/-- What is given back. -/
theorem give_start {N : Nat} {L M : List Bl} {f : Nat → Nat} {p o : Nat} (hI : InvA N L) (h : TrO N L f N 0) (hb : (p, o) ∈ L) (hM : ∀ x, x ∈ M ↔ x ∈ L ∧ x.1 ≠ p) :
    Vb N p o ∧ Sbs N M f p o ∧ clr M p o = true := by
  obtain ⟨h1, h2⟩ := hI.each _ hb
  simp only at h1 h2
  have ho := two_pos o
  have hp := dn_self h1
  refine ⟨⟨h1, h2⟩, fun j hj hN => (path_held hI h hb j hj hN).agr fun b hm => ?_, ?_⟩
  · rw [hM]
    refine ⟨fun hbL => ⟨hbL, fun e => ?_⟩, fun hbM => hbM.1⟩
    have : b = (p, o) := row_at hI.row hbL hb e
    subst this
    have d1 := dn_sub (p := p) hj
    rw [hp] at d1
    have d2 := sb_far p j
    have m1 := hm.1
    have m2 := hm.2
    simp only at m1 m2
    omega
  · rw [clr_iff]
    intro b hbM hm
    obtain ⟨h3, h4⟩ := (hM b).1 hbM
    have m1 := hm.1
    have m2 := hm.2
    obtain ⟨i, hi, ei⟩ := List.mem_iff_getElem.1 hb
    obtain ⟨i2, hi2, ei2⟩ := List.mem_iff_getElem.1 h3
    have hr := hI.row
    rw [List.pairwise_iff_getElem] at hr
    rcases Nat.lt_trichotomy i i2 with hlt | heq | hlt
    · have := hr i i2 hi hi2 hlt
      rw [ei, ei2] at this
      simp only at this
      omega
    · subst heq
      rw [ei] at ei2
      subst ei2
      exact h4 rfl
    · have := hr i2 i hi2 hi hlt
      rw [ei, ei2] at this
      simp only at this
      omega
/-- What is taken: ahead of the second halves that stay free. -/
theorem take_start {N : Nat} {L : List Bl} {f : Nat → Nat} {p o m : Nat} (h : TrO N L f N 0) (hf : (p, m) ∈ fre L N 0) (ho : o ≤ m) :
    Vb N p m ∧ m ≤ N ∧ clr L p m = true ∧ Sbs N (ins p o L) f p m := by
  obtain ⟨h1, h2, h3, h4, h5⟩ := fre_mem L N 0 (Nat.dvd_zero _) _ hf
  simp only at h1 h2 h3 h4 h5
  have hv : Vb N p m := ⟨h2, by omega⟩
  have hm0 := two_pos m
  have hle : 2 ^ o ≤ 2 ^ m := Nat.pow_le_pow_right (by decide) ho
  refine ⟨hv, h1, h5, fun j hj hN => ?_⟩
  have hs := (h.path (p := p) (o := m) (by omega) h1 fun j hj hN => ?_).2 j hj hN
  · refine hs.agr fun b hm => ?_
    rw [ins_mem]
    refine ⟨fun hb => .inr hb, fun hb => ?_⟩
    rcases hb with e | hb
    · subst e
      have d1 := dn_sub (p := p) hj
      rw [dn_self h2] at d1
      have d2 := sb_far p j
      have m1 := hm.1
      have m2 := hm.2
      simp only at m1 m2
      omega
    · exact hb
  · have d1 := dn_le p j
    have hj0 := two_pos j
    constructor
    · rw [Bool.eq_false_iff]
      intro hc
      obtain ⟨q, q1, q2, q3, q4, q5⟩ := fre_max L N 0 (Nat.dvd_zero _) _ hf (by show m < N; omega)
      simp only at q1 q3 q4 q5
      have e : q = dn p (m + 1) := by
        have s := dn_le p (m + 1)
        have hs : 2 ^ (m + 1) = 2 ^ m + 2 ^ m := by rw [Nat.pow_succ]; omega
        rcases Nat.lt_trichotomy q (dn p (m + 1)) with e | e | e
        · have := step_le q1 (dn_dvd p (m + 1)) e; omega
        · exact e
        · have := step_le (dn_dvd p (m + 1)) q1 e; omega
      have d2 := dn_sub (p := p) (show m + 1 ≤ j from hj)
      rw [Bool.eq_false_iff] at q5
      apply q5
      rw [clr_iff] at hc ⊢
      intro b hb hm
      have m1 := hm.1
      have m2 := hm.2
      exact hc b hb ⟨by rw [e] at m1; omega, by rw [e] at m2; omega⟩
    · rw [Bool.eq_false_iff]
      intro hc
      obtain ⟨b, hb, e1, e2⟩ := cvr_iff.1 hc
      have d3 := dn_sub (p := p) (show m ≤ j by omega)
      rw [dn_self h2] at d3
      exact clr_iff.1 h5 b hb ⟨by omega, by omega⟩
/-- A second half that stays free. -/
theorem cut_step {N : Nat} {L : List Bl} {f : Nat → Nat} {p o m k : Nat} (hv : Vb N p m) (hc : clr L p m = true) (hok : o ≤ k) (hkm : k < m) (h : Sbs N (ins p o L) f p (k + 1)) :
    Vb N (p + 2 ^ k) k ∧ Sbs N (ins p o L) (up f (ix N (p + 2 ^ k) k) (2 ^ k)) p k := by
  have hk0 := two_pos k
  have hs : 2 ^ (k + 1) = 2 ^ k + 2 ^ k := by rw [Nat.pow_succ]; omega
  have hd : ∀ i, i ≤ m → 2 ^ i ∣ p := fun i hi => Nat.dvd_trans (dvd_two hi) hv.1
  have h1 : 2 ^ (k + 1) ≤ 2 ^ m := Nat.pow_le_pow_right (by decide) hkm
  have h3 : 2 ^ o ≤ 2 ^ k := Nat.pow_le_pow_right (by decide) hok
  have hv1 : Vb N p (k + 1) := ⟨hd _ hkm, by have := hv.2; omega⟩
  have hp : p < 2 ^ N := by have := hv.2; omega
  have e1 : dn p (k + 1) = p := dn_self (hd _ hkm)
  have e0 : dn p k = p := dn_self (hd _ (by omega))
  have e2 : sb p k = p + 2 ^ k := by unfold sb; rw [e1, e0]; omega
  refine ⟨hv1.second, fun j hj hN => ?_⟩
  rcases Nat.eq_or_lt_of_le hj with e | e
  · subst e
    rw [e2]
    have hcl : clr (ins p o L) (p + 2 ^ k) k = true := by
      rw [clr_iff] at hc ⊢
      intro b hb hm
      have m1 := hm.1
      have m2 := hm.2
      rcases ins_mem.1 hb with e | hb
      · subst e; simp only at m1 m2; omega
      · exact hc b hb ⟨by omega, by omega⟩
    exact TrO.stop (by rw [up_same, frp_clr hcl]; simp [msk]) (.inl hcl)
  · exact h.keep hp hv1.second (by rw [e1]; omega) (by rw [e1]; omega) _ j e hN
/-- The block itself is taken then. -/
theorem cut_end {N : Nat} {L : List Bl} {p o m : Nat} (hv : Vb N p m) (ho : o ≤ m) : Vb N p o ∧ 0 = msk (fre (ins p o L) o p) ∧ cvr (ins p o L) p o = true := by
  have h1 : 2 ^ o ≤ 2 ^ m := Nat.pow_le_pow_right (by decide) ho
  have hc : cvr (ins p o L) p o = true := cvr_iff.2 ⟨(p, o), ins_mem.2 (.inl rfl), Nat.le_refl _, Nat.le_refl _⟩
  exact ⟨⟨Nat.dvd_trans (dvd_two ho) hv.1, by have := hv.2; omega⟩, by rw [fre_cvr hc]; rfl, hc⟩
/-- The first one of an order. -/
def fnd (m : Nat) (l : List Bl) : Option Bl := l.find? fun f => decide (f.2 = m)
theorem fnd_bit {m : Nat} {l : List Bl} : (msk l).testBit m = (fnd m l).isSome := by
  rw [msk_bit, fnd, List.isSome_find?]
theorem fnd_mem {m : Nat} {l : List Bl} {x : Bl} (h : fnd m l = some x) : x ∈ l ∧ x.2 = m := ⟨List.mem_of_find?_eq_some h, by simpa using List.find?_some h⟩
theorem fnd_app (m : Nat) (l r : List Bl) : fnd m (l ++ r) = if (msk l).testBit m then fnd m l else fnd m r := by
  rw [fnd_bit]
  unfold fnd
  rw [List.find?_append]
  cases List.find? (fun f => decide (f.2 = m)) l <;> simp
/-- One step down. -/
theorem first_step {N : Nat} {L : List Bl} {f : Nat → Nat} {q k m : Nat} {x : Bl} (hT : TrO N L f (k + 1) q) (hv : Vb N q (k + 1)) (hm : m ≤ k) (hx : fnd m (fre L (k + 1) q) = some x) :
    Vb N (if (f (2 * ix N q (k + 1))).testBit m then q else q + 2 ^ k) k ∧ ix N (if (f (2 * ix N q (k + 1))).testBit m then q else q + 2 ^ k) k = (if (f (2 * ix N q (k + 1))).testBit m then 2 * ix N q (k + 1) else 2 * ix N q (k + 1) + 1) ∧
    TrO N L f k (if (f (2 * ix N q (k + 1))).testBit m then q else q + 2 ^ k) ∧ fnd m (fre L k (if (f (2 * ix N q (k + 1))).testBit m then q else q + 2 ^ k)) = some x := by
  obtain ⟨hxm, e⟩ := fnd_mem hx
  have h1 : clr L q (k + 1) = false := by
    rw [Bool.eq_false_iff]
    intro hc
    rw [frp_clr hc, List.mem_singleton] at hxm
    rw [hxm] at e
    simp only at e
    omega
  have h2 : cvr L q (k + 1) = false := by
    rw [Bool.eq_false_iff]
    intro hc
    rw [fre_cvr hc] at hxm
    cases hxm
  obtain ⟨h3, h4⟩ := hT.half h1 h2
  rw [fre_two h1 h2, fnd_app] at hx
  have h5 := h3.val
  rw [ix_first hv] at h5
  rw [← h5] at hx
  cases hb : (f (2 * ix N q (k + 1))).testBit m with
  | true =>
    rw [hb] at hx
    exact ⟨hv.first, ix_first hv, h3, by simpa using hx⟩
  | false =>
    rw [hb] at hx
    exact ⟨hv.second, ix_second hv, h4, by simpa using hx⟩
theorem first_end {L : List Bl} {q m : Nat} {x : Bl} (hx : fnd m (fre L m q) = some x) : x = (q, m) := by
  obtain ⟨hxm, e⟩ := fnd_mem hx
  have hb : (msk (fre L m q)).testBit m = true := by rw [fnd_bit, hx]; rfl
  rw [fre_own] at hb
  rw [frp_clr hb, List.mem_singleton] at hxm
  exact hxm
/-- What serves is the first of the least order that serves. -/
theorem bst_fnd_some (o : Nat) : ∀ (l : List Bl) (g h : Bl), o ≤ g.2 → bst o (some g) l = some h → h = g ∨ (fnd h.2 l = some h ∧ h.2 < g.2)
  | [], g, h, _, e => .inl (by unfold bst at e; injection e with e; exact e.symm)
  | x :: r, g, h, hgo, e => by
    unfold bst at e
    by_cases hx : o ≤ x.2 ∧ x.2 < g.2
    · rw [if_pos hx] at e
      rcases bst_fnd_some o r x h hx.1 e with e2 | ⟨e2, e3⟩
      · right
        subst e2
        exact ⟨by simp [fnd], hx.2⟩
      · right
        refine ⟨?_, by omega⟩
        unfold fnd at e2 ⊢
        rw [List.find?_cons_of_neg (by simp; omega), e2]
    · rw [if_neg hx] at e
      rcases bst_fnd_some o r g h hgo e with e2 | ⟨e2, e3⟩
      · exact .inl e2
      · right
        obtain ⟨h', e4, -, h5, -⟩ := bst_some o r g hgo
        rw [e] at e4
        injection e4 with e4
        subst e4
        refine ⟨?_, e3⟩
        unfold fnd at e2 ⊢
        rw [List.find?_cons_of_neg (by simp; omega), e2]
theorem bst_fnd {o : Nat} : ∀ {l : List Bl} {h : Bl}, bst o none l = some h → fnd h.2 l = some h
  | x :: r, h, e => by
    unfold bst at e
    by_cases hx : o ≤ x.2
    · rw [if_pos hx] at e
      rcases bst_fnd_some o r x h hx e with e2 | ⟨e2, e3⟩
      · subst e2
        simp [fnd]
      · unfold fnd at e2 ⊢
        rw [List.find?_cons_of_neg (by simp; omega), e2]
    · rw [if_neg hx] at e
      have e2 := bst_fnd e
      obtain ⟨f, hf⟩ : ∃ f, f ∈ r ∧ o ≤ f.2 := by
        apply Classical.byContradiction
        intro hn
        rw [bst_no fun f hf => Nat.lt_of_not_le fun ho => hn ⟨f, hf, ho⟩] at e
        cases e
      obtain ⟨h', e4, -, h5, -⟩ := bst_yes hf.1 hf.2
      rw [e] at e4
      injection e4 with e4
      subst e4
      unfold fnd at e2 ⊢
      rw [List.find?_cons_of_neg (by simp; omega), e2]
end Go.Proofs.YtiocdojdncomhaaDoor
