/-
  What an address is told as, as a text and as bytes, is read as that address.
-/
import Derived.Test.YtbpdnohcgojmbaaGreatDoorRound
namespace Go.Proofs.YtbpdnohcgojmbaaGreatDoor
set_option linter.unusedVariables false

/-- Where the longest sequence of noughts is, there are noughts. -/
theorem lngAux_spec (zs : List Int) : ∀ (rest : List Int) (j p n r : Nat), zs.drop j = rest → r ≤ j → p + n ≤ j → j ≤ zs.length → (∀ i, p ≤ i → i < p + n → zs[i]? = some 0) → (∀ i, j - r ≤ i → i < j → zs[i]? = some 0) →
    (lngAux rest j p n r).1 + (lngAux rest j p n r).2 ≤ zs.length ∧ ∀ i, (lngAux rest j p n r).1 ≤ i → i < (lngAux rest j p n r).1 + (lngAux rest j p n r).2 → zs[i]? = some 0
  | [], j, p, n, r, hd, hr, hpn, hj, h1, h2 => ⟨by show p + n ≤ _; omega, h1⟩
  | z :: rest, j, p, n, r, hd, hr, hpn, hj, h1, h2 => by
    have hjl : j < zs.length := by
      rcases Nat.lt_or_ge j zs.length with h | h
      · exact h
      · rw [List.drop_eq_nil_of_le h] at hd; cases hd
    have hz : zs[j]? = some z := by rw [List.getElem?_eq_getElem hjl]; rw [List.drop_eq_getElem_cons hjl] at hd; injection hd with a b; rw [a]
    have hd' : zs.drop (j + 1) = rest := by rw [List.drop_eq_getElem_cons hjl] at hd; injection hd
    unfold lngAux
    by_cases h0 : z = 0
    · subst h0
      have h3 : ∀ i, j + 1 - (r + 1) ≤ i → i < j + 1 → zs[i]? = some 0 := by
        intro i a b
        by_cases e : i = j
        · rw [e]; exact hz
        · exact h2 i (by omega) (by omega)
      rw [if_pos rfl]
      by_cases hn : n < r + 1
      · rw [if_pos hn]
        exact lngAux_spec zs rest (j + 1) _ _ _ hd' (by omega) (by omega) (by omega) (fun i a b => h3 i (by omega) (by omega)) h3
      · rw [if_neg hn]
        exact lngAux_spec zs rest (j + 1) _ _ _ hd' (by omega) (by omega) (by omega) h1 h3
    · rw [if_neg h0]
      exact lngAux_spec zs rest (j + 1) _ _ _ hd' (by omega) (by omega) (by omega) h1 (fun i a b => by omega)
theorem lng_spec (zs : List Int) : (lng zs).1 + (lng zs).2 ≤ zs.length ∧ ∀ i, (lng zs).1 ≤ i → i < (lng zs).1 + (lng zs).2 → zs[i]? = some 0 :=
  lngAux_spec zs zs 0 0 0 0 rfl (by omega) (by omega) (by omega) (fun i a b => by omega) (fun i a b => by omega)

theorem six_prn6 (zs : List Int) (h8 : zs.length = 8) (hb : ∀ z ∈ zs, 0 ≤ z ∧ z ≤ 65535) : six (prn6 zs) = some (zs.map Int.toNat) ∧ (58 : UInt8) ∈ prn6 zs := by
  obtain ⟨g, hg⟩ : ∃ g : List UInt8 → Nat, ∀ x, g x = (hexw x).getD 0 := ⟨fun x => (hexw x).getD 0, fun _ => rfl⟩
  have W : ∀ ys : List Int, (∀ z ∈ ys, z ∈ zs) → (∀ x ∈ ys.map d16, (58 : UInt8) ∉ x ∧ x ≠ []) ∧ (∀ x ∈ ys.map d16, hexw x = some (g x)) ∧ (ys.map d16).map g = ys.map Int.toNat := by
    intro ys hy
    refine ⟨fun x hx => ?_, fun x hx => ?_, ?_⟩
    · obtain ⟨z, hz, rfl⟩ := List.mem_map.1 hx; exact ⟨d16_no z, d16_ne z⟩
    · obtain ⟨z, hz, rfl⟩ := List.mem_map.1 hx
      have := hb z (hy z hz)
      rw [hg, hexw_d16 z this.1 this.2]; rfl
    · rw [List.map_map]
      apply List.map_congr_left
      intro z hz
      have := hb z (hy z hz)
      show g (d16 z) = _
      rw [hg, hexw_d16 z this.1 this.2]; rfl
  unfold prn6
  split
  · obtain ⟨w1, w2, w3⟩ := W zs fun z h => h
    refine ⟨by rw [six_full (by simpa using h8) w1 w2, w3], ?_⟩
    obtain ⟨x, y, t, rfl⟩ : ∃ x y t, zs = x :: y :: t := by
      match zs, h8 with
      | x :: y :: t, _ => exact ⟨x, y, t, rfl⟩
    simp [Lib.join_cons, Lib.joinTail]
  · rename_i hn
    obtain ⟨s1, s2⟩ := lng_spec zs
    obtain ⟨f1, f2, f3⟩ := W (zs.take (lng zs).1) fun z h => List.mem_of_mem_take h
    obtain ⟨b1, b2, b3⟩ := W (zs.drop ((lng zs).1 + (lng zs).2)) fun z h => List.mem_of_mem_drop h
    refine ⟨?_, by simp⟩
    rw [six_gap (by simp; omega) f1 b1 f2 b2, f3, b3]
    congr 1
    have e : zs = zs.take (lng zs).1 ++ List.replicate (lng zs).2 0 ++ zs.drop ((lng zs).1 + (lng zs).2) := by
      apply List.ext_getElem?
      intro i
      by_cases hi : i < (lng zs).1
      · rw [List.append_assoc, List.getElem?_append_left (by simp; omega), List.getElem?_take, if_pos hi]
      · by_cases hi2 : i < (lng zs).1 + (lng zs).2
        · rw [s2 i (by omega) hi2, List.getElem?_append_left (by simp; omega), List.getElem?_append_right (by simp; omega), List.getElem?_replicate, if_pos (by simp; omega)]
        · rw [List.getElem?_append_right (by simp; omega), List.getElem?_drop]
          congr 1
          simp
          omega
    conv => rhs; rw [e]
    rw [List.map_append, List.map_append, List.map_replicate]
    congr 2
    simp
    omega

theorem n4_gr (n : Int) (h : U6 n) : n4 (gr n 0) (gr n 1) (gr n 2) (gr n 3) = n := by
  obtain ⟨h0, h1⟩ := h
  rw [← gr_0, ← gr_1, ← gr_2, ← gr_3]
  unfold n4
  omega
theorem four_join (b : List Int) (h4 : b.length = 4) (hb : By b) : four (Lib.join (b.map d10) [46]) = some (b.map Int.toNat) ∧ (58 : UInt8) ∉ Lib.join (b.map d10) [46] := by
  have W : ∀ z ∈ b, decw (d10 z) = some z.toNat ∧ (46 : UInt8) ∉ d10 z ∧ (58 : UInt8) ∉ d10 z := by
    intro z hz
    have h := hb z hz
    have := d10_all ⟨z.toNat, by omega⟩
    exact this
  refine ⟨?_, fun hm => ?_⟩
  · unfold four fourFrom
    rw [spl_join 46 _ (by intro e; have h' := List.map_eq_nil_iff.1 e; rw [h'] at h4; cases h4) (fun x hx => by obtain ⟨z, hz, rfl⟩ := List.mem_map.1 hx; exact (W z hz).2.1), alls_map, alls_some (g := Int.toNat) (fun z hz => (W z hz).1)]
    simp [h4]
  · rcases mem_join hm with e | ⟨x, hx, hd⟩
    · exact absurd e (by decide)
    · obtain ⟨z, hz, rfl⟩ := List.mem_map.1 hx
      exact (W z hz).2.2 hd
theorem map_nat_int {b : List Int} (h : ∀ z ∈ b, 0 ≤ z) : (b.map Int.toNat).map Int.ofNat = b := by
  rw [List.map_map]
  conv => rhs; rw [← List.map_id b]
  apply List.map_congr_left
  intro z hz
  have := h z hz
  show Int.ofNat z.toNat = z
  simp; omega
/-- The text of a valid address is read as that address. -/
theorem prs_prn (s : Bool) (h l : Int) (hh : U6 h) (hl : U6 l) (hv : vld s h l = true) : prsV (prn s h l) = .tuple #[adr s h l, .int .i64 0] := by
  unfold prn
  rw [if_pos hv]
  cases s
  · obtain ⟨rfl, hl4⟩ := vld_four hv
    obtain ⟨f1, f2⟩ := four_join (putOf 4 l) (putOf_len 4 l) (putOf_by 4 l)
    rw [if_neg (show ¬ (false = true) by decide)]
    unfold prsV
    rw [if_neg f2, f1]
    unfold fourV
    simp only
    rw [map_nat_int (fun z hz => (putOf_by 4 l z hz).1), numOf_putOf, Int.emod_eq_of_lt hl.1 (by show l < 4294967296; omega)]
  · have hgb : ∀ z ∈ gsOf h l, 0 ≤ z ∧ z ≤ 65535 := by
      intro z hz
      simp only [gsOf, List.mem_cons, List.not_mem_nil, or_false] at hz
      rcases hz with rfl | rfl | rfl | rfl | rfl | rfl | rfl | rfl <;> exact gr_bd _ _
    obtain ⟨f1, f2⟩ := six_prn6 (gsOf h l) rfl hgb
    unfold prsV
    rw [if_pos rfl, if_pos f2, f1]
    unfold sixV
    simp only
    rw [map_nat_int (fun z hz => (hgb z hz).1)]
    unfold adrOf
    show Value.tuple #[adr true (n4 (gr h 0) (gr h 1) (gr h 2) (gr h 3)) (n4 (gr l 0) (gr l 1) (gr l 2) (gr l 3)), _] = _
    rw [n4_gr h hh, n4_gr l hl]
/-- The bytes of a valid address are that address. -/
theorem of_byts (s : Bool) (h l : Int) (hh : U6 h) (hl : U6 l) (hv : vld s h l = true) : ofV (byts s h l) = .tuple #[adr s h l, .int .i64 0] ∧ (byts s h l).length = if s then 16 else 4 := by
  unfold byts
  rw [if_pos hv]
  cases s
  · obtain ⟨rfl, hl4⟩ := vld_four hv
    rw [if_neg (by decide)]
    unfold ofV
    rw [if_pos (putOf_len 4 l), numOf_putOf, Int.emod_eq_of_lt hl.1 (by show l < 4294967296; omega)]
    exact ⟨rfl, putOf_len 4 l⟩
  · rw [if_pos rfl]
    have e : (putOf 8 h ++ putOf 8 l).length = 16 := by rw [List.length_append, putOf_len, putOf_len]
    unfold ofV
    rw [if_neg (by rw [e]; decide), if_pos e, List.take_left' (putOf_len 8 h), List.drop_left' (putOf_len 8 h), numOf_putOf, numOf_putOf, Int.emod_eq_of_lt hh.1 (by have := hh.2; show h < 18446744073709551616; omega), Int.emod_eq_of_lt hl.1 (by have := hl.2; show l < 18446744073709551616; omega)]
    exact ⟨rfl, e⟩
end Go.Proofs.YtbpdnohcgojmbaaGreatDoor
