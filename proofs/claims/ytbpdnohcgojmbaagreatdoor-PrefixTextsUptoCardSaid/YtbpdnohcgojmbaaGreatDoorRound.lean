/-
  What an address is told as is read as that address: plain numbers and texts.
-/
import Derived.Test.YtbpdnohcgojmbaaGreatDoorAwaken
namespace Go.Proofs.YtbpdnohcgojmbaaGreatDoor
set_option linter.unusedVariables false

theorem hexFrom_snoc : ∀ (l : List UInt8) (acc : Nat) (c : UInt8), hexFrom acc (l ++ [c]) = match hexFrom acc l with
    | some v => (hexv c).map (v * 16 + ·)
    | none => none
  | [], acc, c => by
    show hexFrom acc [c] = (hexv c).map (acc * 16 + ·)
    unfold hexFrom
    cases hexv c <;> rfl
  | x :: r, acc, c => by
    simp only [List.cons_append, hexFrom]
    cases hexv x with
    | none => rfl
    | some d => exact hexFrom_snoc r _ c
theorem hexv_hx (d : Int) (h0 : 0 ≤ d) (h1 : d < 16) : hexv (UInt8.ofNat (hx d).toNat) = some d.toNat := by
  rcases (show d = 0 ∨ d = 1 ∨ d = 2 ∨ d = 3 ∨ d = 4 ∨ d = 5 ∨ d = 6 ∨ d = 7 ∨ d = 8 ∨ d = 9 ∨ d = 10 ∨ d = 11 ∨ d = 12 ∨ d = 13 ∨ d = 14 ∨ d = 15 by omega) with rfl | rfl | rfl | rfl | rfl | rfl | rfl | rfl | rfl | rfl | rfl | rfl | rfl | rfl | rfl | rfl
  all_goals decide
theorem hexFrom_lowd (k : Nat) : ∀ (n : Int), 0 ≤ n → hexFrom 0 ((lowd k n).map fun z => UInt8.ofNat z.toNat) = some (n % 16 ^ k).toNat := by
  induction k with
  | zero => intro n h; simp [lowd, hexFrom, Int.emod_one]
  | succ k ih =>
    intro n h
    have h1 := ih (n / 16) (by omega)
    have hp : (0 : Int) < 16 ^ k := Int.pow_pos (by decide)
    rw [lowd, List.map_append, List.map_cons, List.map_nil, hexFrom_snoc, h1, hexv_hx (n % 16) (by omega) (by omega)]
    simp only [Option.map_some, Option.some.injEq]
    have e : n % 16 ^ (k + 1) = n / 16 % 16 ^ k * 16 + n % 16 := by
      rw [Int.pow_succ]
      have a1 := Int.emod_add_mul_ediv n 16
      have a2 := Int.emod_add_mul_ediv (n / 16) (16 ^ k)
      have a3 := Int.emod_nonneg (n / 16) (by omega : (16 : Int) ^ k ≠ 0)
      have a4 := Int.emod_lt_of_pos (n / 16) hp
      have e1 : (16 : Int) ^ k * 16 * (n / 16 / 16 ^ k) = 16 * (16 ^ k * (n / 16 / 16 ^ k)) := by rw [Int.mul_comm (16 ^ k) 16, Int.mul_assoc]
      have e2 : n = (n / 16 % 16 ^ k * 16 + n % 16) + 16 ^ k * 16 * (n / 16 / 16 ^ k) := by rw [e1]; omega
      conv => lhs; rw [e2]
      rw [Int.add_mul_emod_self_left, Int.emod_eq_of_lt (by omega) (by omega)]
    have a3 := Int.emod_nonneg (n / 16) (by omega : (16 : Int) ^ k ≠ 0)
    rw [e]; omega
theorem hexw_d16 (z : Int) (h0 : 0 ≤ z) (h1 : z ≤ 65535) : hexw (d16 z) = some z.toNat := by
  have hl : (d16 z).length = nhx z := by unfold d16 dhx; rw [List.length_map, lowd_len]
  have hn : 1 ≤ nhx z ∧ nhx z ≤ 4 ∧ z < 16 ^ nhx z := by
    unfold nhx
    split
    · exact ⟨by decide, by decide, by omega⟩
    · split
      · exact ⟨by decide, by decide, by omega⟩
      · split
        · exact ⟨by decide, by decide, by omega⟩
        · exact ⟨by decide, by decide, by omega⟩
  unfold hexw
  rw [if_neg (by
    rintro (h | h)
    · rw [h] at hl; simp at hl; omega
    · omega)]
  unfold d16 dhx
  rw [hexFrom_lowd _ z h0, Int.emod_eq_of_lt h0 hn.2.2]
theorem lowd_mem (k : Nat) : ∀ (n : Int) (z : Int), z ∈ lowd k n → (48 ≤ z ∧ z ≤ 57) ∨ (97 ≤ z ∧ z ≤ 102) := by
  induction k with
  | zero => intro n z hz; cases hz
  | succ k ih =>
    intro n z hz
    simp only [lowd, List.mem_append, List.mem_singleton] at hz
    rcases hz with hz | rfl
    · exact ih _ z hz
    · unfold hx; split <;> omega
theorem d16_no (z : Int) : (58 : UInt8) ∉ d16 z := by
  intro h
  unfold d16 at h
  obtain ⟨y, hy, e⟩ := List.mem_map.1 h
  have h1 := lowd_mem _ _ _ hy
  have e2 : (UInt8.ofNat y.toNat).toNat = 58 := by rw [e]; rfl
  rw [UInt8.toNat_ofNat_of_lt' (by show y.toNat < 256; omega)] at e2
  omega
theorem d16_ne (z : Int) : d16 z ≠ [] := by
  intro h
  have : (d16 z).length = nhx z := by unfold d16 dhx; rw [List.length_map, lowd_len]
  rw [h] at this
  unfold nhx at this
  simp at this
  repeat (first | omega | (split at this))
theorem d10_all : ∀ m : Fin 256, decw (Lib.decDigits m.val) = some m.val ∧ (46 : UInt8) ∉ Lib.decDigits m.val ∧ (58 : UInt8) ∉ Lib.decDigits m.val := by decide +kernel

/-- Joined parts are parted again. -/
theorem spl_join (c : UInt8) : ∀ (ws : List (List UInt8)), ws ≠ [] → (∀ x ∈ ws, c ∉ x) → spl c (Lib.join ws [c]) = ws
  | [], h, _ => absurd rfl h
  | [x], _, h => by rw [Lib.join_one]; exact spl_no (h x (by simp))
  | x :: y :: r, _, h => by
    have e : Lib.join (x :: y :: r) [c] = x ++ c :: Lib.join (y :: r) [c] := by
      rw [Lib.join_cons, Lib.join_cons]; simp [Lib.joinTail]
    rw [e, spl_at (h x (by simp)), spl_join c (y :: r) (by simp) (fun z hz => h z (List.mem_cons_of_mem _ hz))]
theorem alls_some {α β : Type} {f : α → Option β} {g : α → β} : ∀ {l : List α}, (∀ x ∈ l, f x = some (g x)) → alls f l = some (l.map g)
  | [], _ => rfl
  | x :: r, h => by rw [alls_cons_some (h x (by simp)), alls_some (fun y hy => h y (List.mem_cons_of_mem _ hy))]; rfl
theorem mem_join {c d : UInt8} {ws : List (List UInt8)} (h : d ∈ Lib.join ws [c]) : d = c ∨ ∃ x ∈ ws, d ∈ x := by
  cases ws with
  | nil => rw [Lib.join_nil] at h; cases h
  | cons x r =>
    rw [Lib.join_cons] at h
    rcases List.mem_append.1 h with h | h
    · exact .inr ⟨x, by simp, h⟩
    · unfold Lib.joinTail at h
      obtain ⟨l, hl, hd⟩ := List.mem_flatten.1 h
      obtain ⟨y, hy, rfl⟩ := List.mem_map.1 hl
      rcases List.mem_append.1 hd with hd | hd
      · exact .inl (by simpa using hd)
      · exact .inr ⟨y, List.mem_cons_of_mem _ hy, hd⟩
/-- No two marks side by side, and none at the end. -/
def cl : List UInt8 → Prop
  | [] => True
  | x :: r => cl r ∧ (x = 58 → ∃ y t, r = y :: t ∧ y ≠ 58)
theorem cl_app {w m : List UInt8} (hw : (58 : UInt8) ∉ w) (hm : cl m) : cl (w ++ m) := by
  induction w with
  | nil => exact hm
  | cons x r ih => exact ⟨ih (fun h => hw (by simp [h])), fun e => absurd (by simp [e]) hw⟩
theorem cl_tail : ∀ {r : List (List UInt8)}, (∀ x ∈ r, (58 : UInt8) ∉ x ∧ x ≠ []) → cl (Lib.joinTail [58] r)
  | [], _ => trivial
  | x :: r, h => by
    have h1 := h x (by simp)
    have ih := cl_tail (r := r) fun y hy => h y (List.mem_cons_of_mem _ hy)
    have e : Lib.joinTail [58] (x :: r) = 58 :: (x ++ Lib.joinTail [58] r) := by simp [Lib.joinTail]
    rw [e]
    refine ⟨cl_app h1.1 ih, fun _ => ?_⟩
    cases x with
    | nil => exact absurd rfl h1.2
    | cons y t => exact ⟨y, _, rfl, fun e => h1.1 (by simp [e])⟩
theorem cl_join {ws : List (List UInt8)} (h : ∀ x ∈ ws, (58 : UInt8) ∉ x ∧ x ≠ []) : cl (Lib.join ws [58]) := by
  cases ws with
  | nil => exact trivial
  | cons x r => rw [Lib.join_cons]; exact cl_app (h x (by simp)).1 (cl_tail fun y hy => h y (List.mem_cons_of_mem _ hy))
theorem index_two_no : ∀ {a : List UInt8}, cl a → Lib.index a [58, 58] = -1
  | [], _ => rfl
  | x :: r, h => by
    have ih := index_two_no h.1
    have hp : List.isPrefixOf [58, 58] (x :: r) = false := by
      by_cases hx : x = 58
      · obtain ⟨y, t, rfl, hy⟩ := h.2 hx
        simp [List.isPrefixOf, Ne.symm hy]
      · simp [List.isPrefixOf, Ne.symm hx]
    simp [Lib.index, hp, ih]
theorem index_two_at : ∀ {a b : List UInt8}, cl a → Lib.index (a ++ 58 :: 58 :: b) [58, 58] = a.length
  | [], b, _ => by simp [Lib.index, List.isPrefixOf]
  | x :: r, b, h => by
    have ih := index_two_at (b := b) h.1
    have hp : List.isPrefixOf [58, 58] (x :: (r ++ 58 :: 58 :: b)) = false := by
      by_cases hx : x = 58
      · obtain ⟨y, t, rfl, hy⟩ := h.2 hx
        simp [List.isPrefixOf, Ne.symm hy]
      · simp [List.isPrefixOf, Ne.symm hx]
    simp only [List.cons_append, Lib.index, hp, ih, List.length_cons]
    rw [if_neg (by decide), if_neg (by first | (simp; done) | (simp; omega))]
    omega
theorem grps_join {ws : List (List UInt8)} (h8 : ws.length ≤ 8) (h : ∀ x ∈ ws, (58 : UInt8) ∉ x ∧ x ≠ []) {g : List UInt8 → Nat} (hg : ∀ x ∈ ws, hexw x = some (g x)) : grps (Lib.join ws [58]) = some (ws.map g) := by
  cases ws with
  | nil => rfl
  | cons x r =>
    have hne : Lib.join (x :: r) [58] ≠ [] := by
      rw [Lib.join_cons]
      intro e
      exact (h x (by simp)).2 (List.append_eq_nil_iff.1 e).1
    unfold grps
    rw [if_neg hne]
    unfold grpFrom
    rw [spl_join 58 _ (by simp) (fun y hy => (h y hy).1), alls_some hg]
    simp only [List.length_map, List.length_nil, Nat.zero_add, List.nil_append]
    rw [if_pos h8]
/-- A text with a gap. -/
theorem six_gap {fs bs : List (List UInt8)} (hl : fs.length + bs.length < 8) (hf : ∀ x ∈ fs, (58 : UInt8) ∉ x ∧ x ≠ []) (hb : ∀ x ∈ bs, (58 : UInt8) ∉ x ∧ x ≠ []) {g : List UInt8 → Nat} (gf : ∀ x ∈ fs, hexw x = some (g x)) (gb : ∀ x ∈ bs, hexw x = some (g x)) :
    six (Lib.join fs [58] ++ [58, 58] ++ Lib.join bs [58]) = some (fs.map g ++ List.replicate (8 - fs.length - bs.length) 0 ++ bs.map g) := by
  have hc : Lib.cut (Lib.join fs [58] ++ [58, 58] ++ Lib.join bs [58]) [58, 58] = (Lib.join fs [58], Lib.join bs [58], true) := by
    have e : Lib.join fs [58] ++ [58, 58] ++ Lib.join bs [58] = Lib.join fs [58] ++ 58 :: 58 :: Lib.join bs [58] := by simp
    unfold Lib.cut
    rw [e, index_two_at (cl_join hf), if_pos (by omega)]
    simp
  unfold six
  rw [hc, grps_join (by omega) hf gf, grps_join (by omega) hb gb]
  simp [hl]
theorem six_full {fs : List (List UInt8)} (hl : fs.length = 8) (hf : ∀ x ∈ fs, (58 : UInt8) ∉ x ∧ x ≠ []) {g : List UInt8 → Nat} (gf : ∀ x ∈ fs, hexw x = some (g x)) :
    six (Lib.join fs [58]) = some (fs.map g) := by
  have hc : Lib.cut (Lib.join fs [58]) [58, 58] = (Lib.join fs [58], [], false) := by
    unfold Lib.cut
    rw [index_two_no (cl_join hf), if_neg (by decide)]
  unfold six
  rw [hc, grps_join (by omega) hf gf, show grps [] = some [] from rfl]
  simp [hl]
end Go.Proofs.YtbpdnohcgojmbaaGreatDoor
