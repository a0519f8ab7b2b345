/-
  Plain numbers: sums of words in ones' complement, and what a row of bytes comes to. Nothing of the program is used here.
-/
namespace Go.Proofs.Ytnligeelbajnpaa
set_option linter.unusedVariables false

/-- Two words' sum in ones' complement. -/
def ad (a b : Int) : Int := if 65535 < a + b then a + b - 65535 else a + b
/-- What a plain sum comes to in ones' complement. -/
def fo (s : Int) : Int := if s = 0 then 0 else (s - 1) % 65535 + 1
theorem ad_bd {a b : Int} (ha : 0 ≤ a ∧ a ≤ 65535) (hb : 0 ≤ b ∧ b ≤ 65535) : 0 ≤ ad a b ∧ ad a b ≤ 65535 := by unfold ad; split <;> omega
theorem fo_bd {s : Int} (h : 0 ≤ s) : 0 ≤ fo s ∧ fo s ≤ 65535 := by unfold fo; split <;> omega
theorem fo_zero : fo 0 = 0 := rfl
theorem fo_word {t : Int} (h : 0 ≤ t ∧ t ≤ 65535) : fo t = t := by unfold fo; split <;> omega
theorem ad_fo {s t : Int} (hs : 0 ≤ s) (ht : 0 ≤ t ∧ t ≤ 65535) : ad (fo s) t = fo (s + t) := by
  unfold ad fo; repeat (first | split | omega)
theorem ad_fo_fo {s t : Int} (hs : 0 ≤ s) (ht : 0 ≤ t) : ad (fo s) (fo t) = fo (s + t) := by
  unfold ad fo; repeat (first | split | omega)
theorem ad_comm (a b : Int) : ad a b = ad b a := by unfold ad; rw [Int.add_comm]
theorem ad_assoc {a b c : Int} (ha : 0 ≤ a ∧ a ≤ 65535) (hb : 0 ≤ b ∧ b ≤ 65535) (hc : 0 ≤ c ∧ c ≤ 65535) : ad (ad a b) c = ad a (ad b c) := by
  unfold ad; repeat (first | split | omega)
theorem ad_zero {a b : Int} (ha : 0 ≤ a ∧ a ≤ 65535) (hb : 0 ≤ b ∧ b ≤ 65535) : ad a b = 0 ↔ a = 0 ∧ b = 0 := by
  unfold ad; split <;> omega
/-- What is left to all ones, added, is all ones. -/
theorem fo_full {s : Int} (h : 0 ≤ s) : fo (s + (65535 - fo s)) = 65535 := by
  unfold fo; repeat (first | split | omega)
theorem fo_more {s : Int} (h : 0 < s) : fo (s + 65535) = fo s := by
  unfold fo; repeat (first | split | omega)
theorem mended {T old now : Int} (h0 : 0 ≤ old ∧ old ≤ 65535) (h1 : 0 ≤ now ∧ now ≤ 65535) (hT : 0 ≤ T) (h : 0 < T - old + now) : ad now (ad (fo T) (65535 - old)) = fo (T - old + now) := by
  rw [ad_fo hT (by omega), ad_comm, ad_fo (by omega) h1, ← fo_more h, show T + (65535 - old) + now = T - old + now + 65535 by omega]
theorem turned_fo {T T' M : Int} (h : T' = 256 * T - 65535 * M) (h0 : 0 ≤ T) (h1 : 0 ≤ T') (hz : T = 0 ↔ T' = 0) : fo T' = fo T % 256 * 256 + fo T / 256 := by
  unfold fo; repeat (first | split | omega)

/-- What the byte at a place adds. -/
def wt (p : Nat) (z : Int) : Int := if p % 2 = 0 then z * 256 else z
/-- What bytes come to, the first of them at place p. -/
def tot : Nat → List Int → Int
  | _, [] => 0
  | p, z :: r => wt p z + tot (p + 1) r
def Bys (l : List Int) : Prop := ∀ z ∈ l, 0 ≤ z ∧ z ≤ 255
theorem Bys.tail {z : Int} {l : List Int} (h : Bys (z :: l)) : Bys l := fun y hy => h y (List.mem_cons_of_mem _ hy)
theorem Bys.head {z : Int} {l : List Int} (h : Bys (z :: l)) : 0 ≤ z ∧ z ≤ 255 := h z (List.mem_cons_self ..)
theorem Bys.take {l : List Int} (h : Bys l) (k : Nat) : Bys (l.take k) := fun z hz => h z (List.mem_of_mem_take hz)
theorem Bys.drop {l : List Int} (h : Bys l) (k : Nat) : Bys (l.drop k) := fun z hz => h z (List.mem_of_mem_drop hz)
theorem Bys.append {l m : List Int} (h : Bys l) (h' : Bys m) : Bys (l ++ m) := fun z hz => by rcases List.mem_append.1 hz with h1 | h1; exact h z h1; exact h' z h1
theorem wt_bd {p : Nat} {z : Int} (h : 0 ≤ z ∧ z ≤ 255) : 0 ≤ wt p z ∧ wt p z ≤ 65535 := by unfold wt; split <;> omega
theorem wt_two (p : Nat) (z : Int) : wt (p + 2) z = wt p z := by unfold wt; rw [show (p + 2) % 2 = p % 2 by omega]
theorem tot_two (l : List Int) : ∀ p, tot (p + 2) l = tot p l := by
  induction l with
  | nil => intro p; rfl
  | cons z r ih => intro p; simp only [tot, wt_two]; rw [show p + 2 + 1 = p + 1 + 2 by omega, ih]
theorem tot_even (l : List Int) : ∀ k p : Nat, k % 2 = 0 → tot (p + k) l = tot p l := by
  intro k
  induction k using Nat.strongRecOn with
  | _ k ih =>
    intro p hk
    rcases Nat.lt_or_ge k 2 with h | h
    · rw [show k = 0 by omega]; rfl
    · rw [show p + k = p + (k - 2) + 2 by omega, tot_two]
      exact ih (k - 2) (by omega) p (by omega)
theorem tot_append (l m : List Int) : ∀ p, tot p (l ++ m) = tot p l + tot (p + l.length) m := by
  induction l with
  | nil => intro p; simp [tot]
  | cons z r ih => intro p; simp only [List.cons_append, tot, ih, List.length_cons]; rw [show p + 1 + r.length = p + (r.length + 1) by omega]; omega
theorem tot_nonneg {l : List Int} (h : Bys l) : ∀ p, 0 ≤ tot p l := by
  induction l with
  | nil => intro p; simp [tot]
  | cons z r ih =>
    intro p
    have := ih h.tail (p + 1)
    have := (wt_bd (p := p) h.head).1
    simp only [tot]; omega
theorem tot_zero {l : List Int} (h : Bys l) : ∀ p, tot p l = 0 → ∀ z ∈ l, z = 0 := by
  induction l with
  | nil => intro p _ z hz; cases hz
  | cons z r ih =>
    intro p hz
    have h1 := tot_nonneg h.tail (p + 1)
    have h2 := h.head
    simp only [tot, wt] at hz
    have hz0 : z = 0 ∧ tot (p + 1) r = 0 := by split at hz <;> omega
    intro y hy
    rcases List.mem_cons.1 hy with rfl | hy
    · exact hz0.1
    · exact ih h.tail _ hz0.2 y hy
theorem tot_snoc {l : List Int} {z : Int} (p : Nat) : tot p (l ++ [z]) = tot p l + wt (p + l.length) z := by rw [tot_append]; simp [tot]

/-- The words of bytes. -/
def wds : List Int → List Int
  | [] => []
  | [x] => [x * 256]
  | x :: y :: r => (x * 256 + y) :: wds r
def sumOf (l : List Int) : Int := l.foldl (· + ·) 0
theorem foldl_add (l : List Int) : ∀ a : Int, l.foldl (· + ·) a = a + sumOf l := by
  induction l with
  | nil => intro a; simp [sumOf]
  | cons z r ih => intro a; simp only [sumOf, List.foldl_cons]; rw [ih, ih (0 + z)]; omega
theorem sumOf_cons (z : Int) (r : List Int) : sumOf (z :: r) = z + sumOf r := by
  show r.foldl _ (0 + z) = _
  rw [foldl_add]; omega
theorem sumOf_snoc (l : List Int) (z : Int) : sumOf (l ++ [z]) = sumOf l + z := by
  simp [sumOf]
theorem wds_append : ∀ (a b : List Int), a.length % 2 = 0 → wds (a ++ b) = wds a ++ wds b
  | [], b, _ => rfl
  | [x], b, h => by simp at h
  | x :: y :: r, b, h => by
    simp only [List.cons_append, wds]
    rw [wds_append r b (by simp at h; omega)]
theorem sumOf_wds : ∀ l : List Int, sumOf (wds l) = tot 0 l
  | [] => rfl
  | [x] => by simp [wds, sumOf, tot, wt]
  | x :: y :: r => by
    simp only [wds, sumOf_cons, tot]
    rw [sumOf_wds r, show 0 + 1 + 1 = 0 + 2 by omega, tot_two]
    simp [wt]; omega
theorem wds_bd : ∀ {l : List Int}, Bys l → ∀ w ∈ wds l, 0 ≤ w ∧ w ≤ 65535
  | [], _ => fun w hw => by cases hw
  | [x], h => fun w hw => by
    simp [wds] at hw
    have := h.head
    omega
  | x :: y :: r, h => fun w hw => by
    simp only [wds, List.mem_cons] at hw
    have h1 := h.head
    have h2 := h.tail.head
    rcases hw with rfl | hw
    · omega
    · exact wds_bd h.tail.tail w hw
theorem sumOf_nonneg {l : List Int} (h : ∀ w ∈ l, 0 ≤ w ∧ w ≤ 65535) : 0 ≤ sumOf l := by
  induction l with
  | nil => simp [sumOf]
  | cons z r ih =>
    rw [sumOf_cons]
    have := ih fun w hw => h w (List.mem_cons_of_mem _ hw)
    have := h z (List.mem_cons_self ..)
    omega
theorem wds_len : ∀ l : List Int, (wds l).length = (l.length + 1) / 2
  | [] => rfl
  | [x] => by simp [wds]
  | x :: y :: r => by simp only [wds, List.length_cons, wds_len r]; omega
/-- One word more: two bytes. -/
theorem wds_step2 {l : List Int} {j : Nat} {x y : Int} (hx : l[2 * j]? = some x) (hy : l[2 * j + 1]? = some y) : wds (l.take (2 * (j + 1))) = wds (l.take (2 * j)) ++ [x * 256 + y] := by
  have e : l.take (2 * (j + 1)) = l.take (2 * j) ++ [x, y] := by
    rw [show 2 * (j + 1) = 2 * j + 1 + 1 by omega, List.take_add_one, List.take_add_one, hx, hy]; simp
  have hl : 2 * j ≤ l.length := by have := (List.getElem?_eq_some_iff.1 hx).1; omega
  rw [e, wds_append _ _ (by simp; omega)]; rfl
/-- The last word: one byte. -/
theorem wds_step1 {l : List Int} {j : Nat} {x : Int} (hx : l[2 * j]? = some x) (hy : l.length = 2 * j + 1) : wds (l.take (2 * (j + 1))) = wds (l.take (2 * j)) ++ [x * 256] := by
  have e : l.take (2 * (j + 1)) = l.take (2 * j) ++ [x] := by
    rw [show 2 * (j + 1) = 2 * j + 1 + 1 by omega, List.take_of_length_le (by omega)]
    have := List.take_add_one (l := l) (i := 2 * j)
    rw [hx, List.take_of_length_le (by omega)] at this
    simpa using this
  rw [e, wds_append _ _ (by simp; omega)]; rfl

/-- Bytes with a word laid at a place. -/
def lay2 (l : List Int) (k : Nat) (w : Int) : List Int := (l.set k (w / 256)).set (k + 1) (w % 256)
theorem split2 {l : List Int} {k : Nat} {x y : Int} (hx : l[k]? = some x) (hy : l[k + 1]? = some y) : l = l.take k ++ x :: y :: l.drop (k + 2) := by
  have h1 := List.getElem?_eq_some_iff.1 hx
  have h2 := List.getElem?_eq_some_iff.1 hy
  conv => lhs; rw [← List.take_append_drop k l]
  rw [List.drop_eq_getElem_cons h1.1, List.drop_eq_getElem_cons h2.1, h1.2, h2.2]
theorem set2 {l : List Int} {k : Nat} {x y : Int} (hx : l[k]? = some x) (hy : l[k + 1]? = some y) (u v : Int) : (l.set k u).set (k + 1) v = l.take k ++ u :: v :: l.drop (k + 2) := by
  have h1 := (List.getElem?_eq_some_iff.1 hx).1
  have hl : (l.take k).length = k := by simp; omega
  conv => lhs; rw [split2 hx hy]
  rw [List.set_append_right _ _ (by omega), List.set_append_right _ _ (by omega), hl, Nat.sub_self, show k + 1 - k = 1 by omega]
  rfl
theorem tot_mid (a c : List Int) (u v : Int) (hk : a.length % 2 = 0) : tot 0 (a ++ u :: v :: c) = tot 0 a + (u * 256 + v) + tot 0 c := by
  rw [tot_append]
  simp only [tot]
  rw [Nat.zero_add, show a.length + 1 + 1 = 0 + (a.length + 2) by omega, tot_even c (a.length + 2) 0 (by omega)]
  have e1 : wt a.length u = u * 256 := by unfold wt; rw [if_pos hk]
  have e2 : wt (a.length + 1) v = v := by unfold wt; rw [if_neg (by omega)]
  rw [e1, e2]; omega
theorem lay2_tot {l : List Int} {k : Nat} {x y w : Int} (hx : l[k]? = some x) (hy : l[k + 1]? = some y) (hk : k % 2 = 0) (hw : 0 ≤ w) : tot 0 (lay2 l k w) = tot 0 l - (x * 256 + y) + w := by
  have h1 := (List.getElem?_eq_some_iff.1 hx).1
  have hl : (l.take k).length = k := by simp; omega
  unfold lay2
  rw [set2 hx hy, tot_mid _ _ _ _ (by omega)]
  conv => rhs; rw [split2 hx hy]
  rw [tot_mid _ _ _ _ (by omega)]
  omega
theorem lay2_len (l : List Int) (k : Nat) (w : Int) : (lay2 l k w).length = l.length := by simp [lay2]
theorem bys_set {l : List Int} (h : Bys l) (k : Nat) {u : Int} (hu : 0 ≤ u ∧ u ≤ 255) : Bys (l.set k u) := fun z hz => by
  rcases List.mem_or_eq_of_mem_set hz with h1 | rfl
  · exact h z h1
  · exact hu
theorem lay2_by {l : List Int} (h : Bys l) (k : Nat) {w : Int} (hw : 0 ≤ w ∧ w ≤ 65535) : Bys (lay2 l k w) := bys_set (bys_set h k (by omega)) (k + 1) (by omega)
theorem word_le {l : List Int} {k : Nat} {x y : Int} (h : Bys l) (hx : l[k]? = some x) (hy : l[k + 1]? = some y) (hk : k % 2 = 0) : x * 256 + y ≤ tot 0 l := by
  have h1 := (List.getElem?_eq_some_iff.1 hx).1
  have hl : (l.take k).length = k := by simp; omega
  have ha := tot_nonneg (h.take k) 0
  have hc := tot_nonneg (h.drop (k + 2)) 0
  rw [split2 hx hy, tot_mid _ _ _ _ (by omega)]
  omega

/-- Bytes whose words are turned round. -/
def swp : List Int → List Int
  | x :: y :: r => y :: x :: swp r
  | l => l
def ups : List Int → Int
  | x :: _ :: r => x + ups r
  | _ => 0
theorem swp_len : ∀ l : List Int, (swp l).length = l.length
  | [] => rfl
  | [x] => rfl
  | x :: y :: r => by simp only [swp, List.length_cons, swp_len r]
theorem swp_append : ∀ (a b : List Int), a.length % 2 = 0 → swp (a ++ b) = swp a ++ swp b
  | [], b, _ => rfl
  | [x], b, h => by simp at h
  | x :: y :: r, b, h => by
    simp only [List.cons_append, swp]
    rw [swp_append r b (by simp at h; omega)]
theorem swp_tot : ∀ l : List Int, l.length % 2 = 0 → tot 0 (swp l) = 256 * tot 0 l - 65535 * ups l
  | [], _ => rfl
  | [x], h => by simp at h
  | x :: y :: r, h => by
    have ih := swp_tot r (by simp at h; omega)
    simp only [swp, tot, ups]
    rw [show 0 + 1 + 1 = 0 + 2 by omega, tot_two, tot_two, ih]
    simp [wt]; omega
theorem swp_by : ∀ {l : List Int}, Bys l → Bys (swp l)
  | [], h => h
  | [x], h => h
  | x :: y :: r, h => fun z hz => by
    simp only [swp, List.mem_cons] at hz
    rcases hz with rfl | rfl | hz
    · exact h.tail.head
    · exact h.head
    · exact swp_by h.tail.tail z hz
theorem all_zero_tot : ∀ {l : List Int}, (∀ z ∈ l, z = 0) → ∀ p, tot p l = 0
  | [], _, _ => rfl
  | z :: r, h, p => by
    simp only [tot]
    rw [all_zero_tot (fun y hy => h y (List.mem_cons_of_mem _ hy)), h z (List.mem_cons_self ..)]
    simp [wt]
theorem swp_mem : ∀ {l : List Int} {z : Int}, z ∈ swp l ↔ z ∈ l
  | [], _ => Iff.rfl
  | [x], _ => Iff.rfl
  | x :: y :: r, z => by
    simp only [swp, List.mem_cons]
    rw [swp_mem (l := r)]
    constructor
    · rintro (h | h | h) <;> simp [h]
    · rintro (h | h | h) <;> simp [h]
theorem swp_zero {l : List Int} (h : Bys l) : tot 0 l = 0 ↔ tot 0 (swp l) = 0 :=
  ⟨fun h0 => all_zero_tot (fun z hz => tot_zero h 0 h0 z (swp_mem.1 hz)) 0, fun h0 => all_zero_tot (fun z hz => tot_zero (swp_by h) 0 h0 z (swp_mem.2 hz)) 0⟩
theorem swp_fo {l : List Int} (h : Bys l) (he : l.length % 2 = 0) : fo (tot 0 (swp l)) = fo (tot 0 l) % 256 * 256 + fo (tot 0 l) / 256 :=
  turned_fo (swp_tot l he) (tot_nonneg h 0) (tot_nonneg (swp_by h) 0) (swp_zero h)
theorem swp_step {l : List Int} {j : Nat} {x y : Int} (hx : l[2 * j]? = some x) (hy : l[2 * j + 1]? = some y) : swp (l.take (2 * (j + 1))) = swp (l.take (2 * j)) ++ [y, x] := by
  have e : l.take (2 * (j + 1)) = l.take (2 * j) ++ [x, y] := by
    rw [show 2 * (j + 1) = 2 * j + 1 + 1 by omega, List.take_add_one, List.take_add_one, hx, hy]; simp
  have hl : 2 * j ≤ l.length := by have := (List.getElem?_eq_some_iff.1 hx).1; omega
  rw [e, swp_append _ _ (by simp; omega)]; rfl
theorem moved_tot {l : List Int} {k : Nat} (hk : k % 2 = 0) (hl : l.length % 2 = 0) (hkl : k ≤ l.length) : tot 0 (l.drop k ++ l.take k) = tot 0 l := by
  have e1 : (l.drop k).length % 2 = 0 := by simp; omega
  have e2 : (l.take k).length = k := by simp; omega
  conv => rhs; rw [← List.take_append_drop k l]
  rw [tot_append, tot_append, tot_even _ _ 0 e1, e2, tot_even _ _ 0 hk]
  omega
theorem parts_tot {l : List Int} {k : Nat} (hk : k % 2 = 0) (hkl : k ≤ l.length) : tot 0 (l.take k) + tot 0 (l.drop k) = tot 0 l := by
  have e2 : (l.take k).length = k := by simp; omega
  conv => rhs; rw [← List.take_append_drop k l]
  rw [tot_append, e2, tot_even _ _ 0 hk]
end Go.Proofs.Ytnligeelbajnpaa
