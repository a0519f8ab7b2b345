/-
  Prefixes and paths as values (layer 15): their cells; '==' of prefixes and of paths as one fact.
-/
import Derived.Test.YtjlmgkdieffjcaaDoorRbA
namespace Go.Proofs.YtjlmgkdieffjcaaDoor
open Go.RowKit
set_option linter.unusedVariables false

def pfC (p : PfI) : List Value := [.bool p.1.1, .int .u64 (p.1.2.1 : Int), .int .u64 (p.1.2.2 : Int), .int .i64 p.2]
def paC (x : PaI) : List Value := [.int .i64 x.1, .int .i64 x.2.1, .bool x.2.2.1.1, .int .u64 (x.2.2.1.2.1 : Int), .int .u64 (x.2.2.1.2.2 : Int), .int .i64 x.2.2.2.1, .bool x.2.2.2.2]
theorem pf_four (p : PfI) : (pfC p).length = 4 := rfl
theorem pa_seven (x : PaI) : (paC x).length = 7 := rfl
theorem pf_one (p : PfI) : ∀ u ∈ pfC p, u.oneCell' = true := by
  intro u hu; simp [pfC] at hu; rcases hu with rfl | rfl | rfl | rfl <;> rfl
theorem pa_one (x : PaI) : ∀ u ∈ paC x, u.oneCell' = true := by
  intro u hu; simp [paC] at hu; rcases hu with rfl | rfl | rfl | rfl | rfl | rfl | rfl <;> rfl
theorem flat_one {α : Type} {f : α → List Value} (h : ∀ x, ∀ u ∈ f x, u.oneCell' = true) (l : List α) : ∀ u ∈ l.flatMap f, u.oneCell' = true := by
  intro u hu
  obtain ⟨x, -, hx⟩ := List.mem_flatMap.1 hu
  exact h x u hx
theorem eq_pf0 (s s' : Bool) (h l b h' l' b' : Int) (W : World) : (Op.equalIn 10000 37 (.agg #[.bool s, .int .u64 h, .int .u64 l, .int .i64 b]) (.agg #[.bool s', .int .u64 h', .int .u64 l', .int .i64 b'])).run Tryd.prog W = .ok (decide (s = s' ∧ h = h' ∧ l = l' ∧ b = b')) W := by
  by_cases h1 : s = s'
  · subst h1
    by_cases h2 : h = h'
    · subst h2
      by_cases h3 : l = l'
      · subst h3
        by_cases h4 : b = b'
        · subst h4
          go_simp
        · have h5 : (b == b') = false := by simpa using h4
          rw [show decide (s = s ∧ h = h ∧ l = l ∧ b = b') = false by simp [h4]]
          go_simp
      · have h4 : (l == l') = false := by simpa using h3
        rw [show decide (s = s ∧ h = h ∧ l = l' ∧ b = b') = false by simp [h3]]
        go_simp
    · have h4 : (h == h') = false := by simpa using h2
      rw [show decide (s = s ∧ h = h' ∧ l = l' ∧ b = b') = false by simp [h2]]
      go_simp
  · have h4 : (s == s') = false := by simpa using h1
    rw [show decide (s = s' ∧ h = h' ∧ l = l' ∧ b = b') = false by simp [h1]]
    go_simp
theorem eq_pfR (p q : PfI) {b : Bool} (hb : decide (p = q) = b) (W : World) : (Op.equalIn 10000 37 (.agg #[.bool p.1.1, .int .u64 (p.1.2.1 : Int), .int .u64 (p.1.2.2 : Int), .int .i64 p.2]) (.agg #[.bool q.1.1, .int .u64 (q.1.2.1 : Int), .int .u64 (q.1.2.2 : Int), .int .i64 q.2])).run Tryd.prog W = .ok b W := by
  rw [eq_pf0, ← hb]
  obtain ⟨⟨s, h, l⟩, n⟩ := p
  obtain ⟨⟨s', h', l'⟩, n'⟩ := q
  congr 2
  simp [Prod.ext_iff]
  constructor
  · rintro ⟨h1, h2, h3, h4⟩
    exact ⟨⟨h1, by omega, by omega⟩, h4⟩
  · rintro ⟨⟨h1, h2, h3⟩, h4⟩
    exact ⟨h1, by omega, by omega, h4⟩
set_option maxHeartbeats 1000000 in
theorem eq_pa0 (p m : Int) (s : Bool) (h l o : Int) (a : Bool) (p' m' : Int) (s' : Bool) (h' l' o' : Int) (a' : Bool) (W : World) : (Op.equalIn 10000 26 (.agg #[.int .i64 p, .int .i64 m, .bool s, .int .u64 h, .int .u64 l, .int .i64 o, .bool a]) (.agg #[.int .i64 p', .int .i64 m', .bool s', .int .u64 h', .int .u64 l', .int .i64 o', .bool a'])).run Tryd.prog W = .ok (decide (p = p' ∧ m = m' ∧ s = s' ∧ h = h' ∧ l = l' ∧ o = o' ∧ a = a')) W := by
  by_cases h1 : p = p'
  · subst h1
    by_cases h2 : m = m'
    · subst h2
      by_cases h3 : s = s'
      · subst h3
        by_cases h4 : h = h'
        · subst h4
          by_cases h5 : l = l'
          · subst h5
            by_cases h6 : o = o'
            · subst h6
              by_cases h7 : a = a'
              · subst h7
                go_simp
              · have h9 : (a == a') = false := by simpa using h7
                rw [show decide (p = p ∧ m = m ∧ s = s ∧ h = h ∧ l = l ∧ o = o ∧ a = a') = false by simp [h7]]
                go_simp
            · have h9 : (o == o') = false := by simpa using h6
              rw [show decide (p = p ∧ m = m ∧ s = s ∧ h = h ∧ l = l ∧ o = o' ∧ a = a') = false by simp [h6]]
              go_simp
          · have h9 : (l == l') = false := by simpa using h5
            rw [show decide (p = p ∧ m = m ∧ s = s ∧ h = h ∧ l = l' ∧ o = o' ∧ a = a') = false by simp [h5]]
            go_simp
        · have h9 : (h == h') = false := by simpa using h4
          rw [show decide (p = p ∧ m = m ∧ s = s ∧ h = h' ∧ l = l' ∧ o = o' ∧ a = a') = false by simp [h4]]
          go_simp
      · have h9 : (s == s') = false := by simpa using h3
        rw [show decide (p = p ∧ m = m ∧ s = s' ∧ h = h' ∧ l = l' ∧ o = o' ∧ a = a') = false by simp [h3]]
        go_simp
    · have h9 : (m == m') = false := by simpa using h2
      rw [show decide (p = p ∧ m = m' ∧ s = s' ∧ h = h' ∧ l = l' ∧ o = o' ∧ a = a') = false by simp [h2]]
      go_simp
  · have h9 : (p == p') = false := by simpa using h1
    rw [show decide (p = p' ∧ m = m' ∧ s = s' ∧ h = h' ∧ l = l' ∧ o = o' ∧ a = a') = false by simp [h1]]
    go_simp
theorem eq_paR (x y : PaI) {b : Bool} (hb : decide (x = y) = b) (W : World) : (Op.equalIn 10000 26 (.agg (paA x)) (.agg (paA y))).run Tryd.prog W = .ok b W := by
  rw [eq_pa0, ← hb]
  obtain ⟨p, m, ⟨s, h, l⟩, o, a⟩ := x
  obtain ⟨p', m', ⟨s', h', l'⟩, o', a'⟩ := y
  congr 2
  simp [Prod.ext_iff]
  intro _ _
  constructor
  · rintro ⟨h3, h4, h5, h6, h7⟩
    exact ⟨⟨h3, by omega, by omega⟩, h6, h7⟩
  · rintro ⟨⟨h3, h4, h5⟩, h6, h7⟩
    exact ⟨h3, by omega, by omega, h6, h7⟩
theorem infoPf : (Tryd.prog.info? 37).map (fun i => (i.zero, i.size, i.bytes)) = some (some (.agg #[.bool false, .int .u64 0, .int .u64 0, .int .i64 0]), 4, 32) := by kernel_rfl
theorem infoPa : (Tryd.prog.info? 26).map (fun i => (i.zero, i.size, i.bytes)) = some (some (.agg #[.int .i64 0, .int .i64 0, .bool false, .int .u64 0, .int .u64 0, .int .i64 0, .bool false]), 7, 56) := by kernel_rfl
def zeroX : PaI := (0, 0, (false, 0, 0), 0, false)
def bestI (L : List TdI) (p : PfI) : Option PaI := (pathsI L p).head?
def bestV (r : Option PaI) : Value := .tuple #[paR (r.getD zeroX), .bool r.isSome]
theorem prefK_sub {L : List TdI} {q : PfI} : ∀ k, q ∈ prefK L k → ∃ t ∈ L, t.1 = q
  | 0, h => by simp [prefK] at h
  | k + 1, h => by
    unfold prefK at h
    split at h
    · exact prefK_sub k h
    · rename_i t ht
      split at h
      · rcases List.mem_append.1 h with h1 | h1
        · exact prefK_sub k h1
        · exact ⟨t, List.mem_of_getElem? ht, (List.mem_singleton.1 h1).symm⟩
      · exact prefK_sub k h
theorem pf_cells {w : World} {base g n c k : Nat} {l : List PfI} (h : w.ownsRow base 37 4 (.slice (some ⟨g, 0, none⟩) n c) n (l.flatMap pfC)) {q : PfI} (hq : l[k]? = some q) :
    w.cell? ⟨g, k * 4, none⟩ = some (.bool q.1.1) ∧ w.cell? ⟨g, k * 4 + 1, none⟩ = some (.int .u64 (q.1.2.1 : Int)) ∧ w.cell? ⟨g, k * 4 + 2, none⟩ = some (.int .u64 (q.1.2.2 : Int)) ∧ w.cell? ⟨g, k * 4 + 3, none⟩ = some (.int .i64 q.2) := by
  refine ⟨?_, ?_, ?_, ?_⟩
  · exact own_cellN h ((flatk_at (f := pfC) pf_four hq (k := 0) (by decide)).trans rfl)
  · exact own_cellN h ((flatk_at (f := pfC) pf_four hq (k := 1) (by decide)).trans rfl)
  · exact own_cellN h ((flatk_at (f := pfC) pf_four hq (k := 2) (by decide)).trans rfl)
  · exact own_cellN h ((flatk_at (f := pfC) pf_four hq (k := 3) (by decide)).trans rfl)
theorem right_bad {p : PfI} {x : PaI} (h : pvI p = false ∨ x.1 < 0 ∨ 4 < x.1 ∨ x.2.1 < 0 ∨ 65535 < x.2.1) : rightI p x = false := by
  unfold rightI; rw [if_pos h]
theorem right_away {p : PfI} {x : PaI} (h : ¬ (pvI p = false ∨ x.1 < 0 ∨ 4 < x.1 ∨ x.2.1 < 0 ∨ 65535 < x.2.1)) (ha : x.2.2.2.2 = true) : rightI p x = (decide (x.2.2.2.1 = 0) && decide (x.2.2.1 = zeroA)) := by
  unfold rightI; rw [if_neg h, if_pos ha]
theorem right_nb {p : PfI} {x : PaI} (h : ¬ (pvI p = false ∨ x.1 < 0 ∨ 4 < x.1 ∨ x.2.1 < 0 ∨ 65535 < x.2.1)) (ha : x.2.2.2.2 = false) (ho : x.2.2.2.1 = 0) : rightI p x = nbI p x.2.2.1 0 := by
  unfold rightI; rw [if_neg h, if_neg (by rw [ha]; simp), if_pos ho]
theorem right_po {p : PfI} {x : PaI} (h : ¬ (pvI p = false ∨ x.1 < 0 ∨ 4 < x.1 ∨ x.2.1 < 0 ∨ 65535 < x.2.1)) (ha : x.2.2.2.2 = false) (ho : ¬ x.2.2.2.1 = 0) : rightI p x = (decide (1 ≤ x.2.2.2.1) && (decide (x.2.2.2.1 ≤ 8) && (decide (x.2.2.1 = zeroA) || nbI p x.2.2.1 x.2.2.2.1))) := by
  unfold rightI; rw [if_neg h, if_neg (by rw [ha]; simp), if_neg ho]
theorem Goes.trans_ {w w1 w2 : World} {S S1 S2 : List Nat} (h : Goes w w1 S S1) (k : Goes w1 w2 S1 S2) : Goes w w2 S S2 :=
  ⟨h.tch.trans_fre k.tch h.fre, fun s hs => by
    rcases k.fre s hs with a | a
    · exact h.fre s a
    · exact .inr (Nat.le_trans h.tch.size a)⟩
theorem beq_int (a b : Int) : (a == b) = decide (a = b) := by by_cases h : a = b <;> simp [h]
theorem beq_bool (a b : Bool) : (a == b) = decide (a = b) := by cases a <;> cases b <;> rfl
theorem sl_cases {w : World} {ty sz n c : Nat} {A : Option Addr} {xs : List Value} (h : w.ownsRow 0 ty sz (.slice A n c) n xs) : (A = none ∧ n = 0 ∧ c = 0) ∨ ∃ g, A = some ⟨g, 0, none⟩ := by
  rcases h.2 with ⟨e, h0⟩ | ⟨g, cap, cur, e, -⟩
  · injection e with e1 e2 e3
    exact .inl ⟨e1, h0, e3⟩
  · injection e with e1 e2 e3
    exact .inr ⟨g, e1⟩
theorem pa_cells {w : World} {base g n c k : Nat} {l : List PaI} (h : w.ownsRow base 26 7 (.slice (some ⟨g, 0, none⟩) n c) n (l.flatMap paC)) {x : PaI} (hx : l[k]? = some x) :
    w.cell? ⟨g, k * 7, none⟩ = some (.int .i64 x.1) ∧ w.cell? ⟨g, k * 7 + 1, none⟩ = some (.int .i64 x.2.1) ∧ w.cell? ⟨g, k * 7 + 2, none⟩ = some (.bool x.2.2.1.1) ∧ w.cell? ⟨g, k * 7 + 3, none⟩ = some (.int .u64 (x.2.2.1.2.1 : Int)) ∧ w.cell? ⟨g, k * 7 + 4, none⟩ = some (.int .u64 (x.2.2.1.2.2 : Int)) ∧ w.cell? ⟨g, k * 7 + 5, none⟩ = some (.int .i64 x.2.2.2.1) ∧ w.cell? ⟨g, k * 7 + 6, none⟩ = some (.bool x.2.2.2.2) := by
  refine ⟨?_, ?_, ?_, ?_, ?_, ?_, ?_⟩
  · exact own_cellN h ((flatk_at (f := paC) pa_seven hx (k := 0) (by decide)).trans rfl)
  · exact own_cellN h ((flatk_at (f := paC) pa_seven hx (k := 1) (by decide)).trans rfl)
  · exact own_cellN h ((flatk_at (f := paC) pa_seven hx (k := 2) (by decide)).trans rfl)
  · exact own_cellN h ((flatk_at (f := paC) pa_seven hx (k := 3) (by decide)).trans rfl)
  · exact own_cellN h ((flatk_at (f := paC) pa_seven hx (k := 4) (by decide)).trans rfl)
  · exact own_cellN h ((flatk_at (f := paC) pa_seven hx (k := 5) (by decide)).trans rfl)
  · exact own_cellN h ((flatk_at (f := paC) pa_seven hx (k := 6) (by decide)).trans rfl)
end Go.Proofs.YtjlmgkdieffjcaaDoor
