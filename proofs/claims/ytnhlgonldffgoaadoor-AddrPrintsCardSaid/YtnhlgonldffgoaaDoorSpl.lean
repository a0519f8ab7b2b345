/-
  AddrSpelt: what texts of eight groups, with or without a gap, are read as.
-/
import Derived.Test.YtnhlgonldffgoaaDoorRSpelt
namespace Go.Proofs.YtnhlgonldffgoaaDoor
open Go.RowKit
set_option linter.unusedVariables false

/-- Words that spell numbers. -/
def WS (ws : List (List UInt8)) (vs : List Int) : Prop := ws.map hexw = vs.map (fun v => some v.toNat) ∧ ∀ w ∈ ws, (58 : UInt8) ∉ w
theorem WS.nil : WS [] [] := ⟨rfl, fun _ h => by cases h⟩
theorem WS.snoc {ws : List (List UInt8)} {vs : List Int} {w : List UInt8} {v : Int} (h : WS ws vs) (hs : Sp v.toNat w) : WS (ws ++ [w]) (vs ++ [v]) := by
  refine ⟨by rw [List.map_append, List.map_append, h.1]; simp [hs.1], fun x hx => ?_⟩
  rcases List.mem_append.1 hx with h' | h'
  · exact h.2 x h'
  · rw [List.mem_singleton] at h'; subst h'; exact hs.2
theorem WS.len {ws : List (List UInt8)} {vs : List Int} (h : WS ws vs) : ws.length = vs.length := by
  have := congrArg List.length h.1; simpa using this
theorem WS.parts {ws : List (List UInt8)} {vs : List Int} (h : WS ws vs) : (∀ x ∈ ws, (58 : UInt8) ∉ x ∧ x ≠ []) ∧ (∀ x ∈ ws, hexw x = some ((hexw x).getD 0)) ∧ ws.map (fun x => (hexw x).getD 0) = vs.map Int.toNat := by
  have W : ∀ x ∈ ws, ∃ n, hexw x = some n := by
    intro x hx
    have hm : hexw x ∈ ws.map hexw := List.mem_map_of_mem hx
    rw [h.1] at hm
    obtain ⟨v, _, e⟩ := List.mem_map.1 hm
    exact ⟨_, e.symm⟩
  refine ⟨fun x hx => ⟨h.2 x hx, fun e => ?_⟩, fun x hx => ?_, ?_⟩
  · obtain ⟨n, hn⟩ := W x hx
    rw [e] at hn; cases hn
  · obtain ⟨n, hn⟩ := W x hx
    rw [hn]; rfl
  · have e : ws.map (fun x => (hexw x).getD 0) = (ws.map hexw).map (fun o => o.getD 0) := by rw [List.map_map]; rfl
    rw [e, h.1, List.map_map]; rfl
/-- The text so far: nothing left out. -/
def PA (G : List Int) (i : Nat) (T : List UInt8) : Prop := ∃ ws, WS ws (G.take i) ∧ T = Lib.join ws [58]
/-- The text so far: the noughts from s to e left out. -/
def PB (G : List Int) (i : Nat) (T : List UInt8) : Prop := ∃ fs bs s e, s < e ∧ e ≤ i ∧ WS fs (G.take s) ∧ WS bs ((G.drop e).take (i - e)) ∧ (∀ j, s ≤ j → j < e → G[j]? = some 0) ∧ T = Lib.join fs [58] ++ [58, 58] ++ Lib.join bs [58]

theorem join_snoc {ws : List (List UInt8)} (h : ws ≠ []) (w : List UInt8) : Lib.join (ws ++ [w]) [58] = Lib.join ws [58] ++ [58] ++ w := by
  obtain ⟨x, r, rfl⟩ := List.exists_cons_of_ne_nil h
  rw [List.cons_append, Lib.join_cons, Lib.join_cons]
  simp [Lib.joinTail, List.append_assoc]
theorem join_last {ws : List (List UInt8)} (h : ws ≠ []) (hw : ∀ x ∈ ws, (58 : UInt8) ∉ x ∧ x ≠ []) : ∃ c, (Lib.join ws [58]).getLast? = some c ∧ c ≠ 58 := by
  rcases List.eq_nil_or_concat ws with rfl | ⟨r, x, rfl⟩
  · exact absurd rfl h
  · rw [List.concat_eq_append] at hw ⊢
    obtain ⟨h1, h2⟩ := hw x (by simp)
    have hx : ∃ c, x.getLast? = some c ∧ c ≠ 58 := by
      refine ⟨x.getLast h2, List.getLast?_eq_some_getLast h2, fun e => h1 (e ▸ List.getLast_mem h2)⟩
    obtain ⟨c, hc, hn⟩ := hx
    refine ⟨c, ?_, hn⟩
    by_cases hr : r = []
    · subst hr; rw [List.nil_append, Lib.join_one]; exact hc
    · rw [join_snoc hr, List.getLast?_append, hc]; rfl
theorem PA.start (G : List Int) : PA G 0 [] := ⟨[], by rw [List.take_zero]; exact WS.nil, rfl⟩
theorem take_snoc {G : List Int} {i : Nat} {v : Int} (h : G[i]? = some v) : G.take (i + 1) = G.take i ++ [v] := by rw [List.take_add_one, h]; rfl
/-- One more group, nothing left out. -/
theorem PA.step {G : List Int} {i : Nat} {T w : List UInt8} {v : Int} (h : PA G i T) (hi : 0 < i) (hg : G[i]? = some v) (hs : Sp v.toNat w) : PA G (i + 1) (T ++ [58] ++ w) := by
  obtain ⟨ws, h1, rfl⟩ := h
  have hl := h1.len
  have hb : i < G.length := (List.getElem?_eq_some_iff.1 hg).1
  rw [List.length_take, Nat.min_eq_left (by omega)] at hl
  refine ⟨ws ++ [w], by rw [take_snoc hg]; exact h1.snoc hs, ?_⟩
  rw [join_snoc (by intro e; rw [e] at hl; simp at hl; omega)]
theorem PA.first {G : List Int} {T w : List UInt8} {v : Int} (h : PA G 0 T) (hg : G[0]? = some v) (hs : Sp v.toNat w) : PA G 1 (T ++ w) := by
  obtain ⟨ws, h1, rfl⟩ := h
  have hl := h1.len
  obtain rfl : ws = [] := List.eq_nil_of_length_eq_zero (by simpa using hl)
  exact ⟨[w], by rw [take_snoc hg]; exact h1.snoc hs, by simp [Lib.join_one, Lib.join_nil]⟩
theorem PA.last {G : List Int} {i : Nat} {T : List UInt8} (h : PA G i T) (hi : 0 < i) (hG : i ≤ G.length) : ∃ c, T.getLast? = some c ∧ c ≠ 58 := by
  obtain ⟨ws, h1, rfl⟩ := h
  have hl := h1.len
  rw [List.length_take, Nat.min_eq_left hG] at hl
  exact join_last (by intro e; rw [e] at hl; simp at hl; omega) h1.parts.1
/-- A gap begins. -/
theorem PA.gap {G : List Int} {i e : Nat} {T : List UInt8} (h : PA G i T) (he : i < e) (hz : ∀ j, i ≤ j → j < e → G[j]? = some 0) : PB G e (T ++ [58, 58]) := by
  obtain ⟨ws, h1, rfl⟩ := h
  exact ⟨ws, [], i, e, he, Nat.le_refl _, h1, by rw [Nat.sub_self, List.take_zero]; exact WS.nil, hz, by simp [Lib.join_nil]⟩
theorem PB.last {G : List Int} {i : Nat} {T : List UInt8} (h : PB G i T) (hG : i ≤ G.length) : ∃ c, T.getLast? = some c ∧ ((c = 58 ∧ ∀ v w, G[i]? = some v → Sp v.toNat w → PB G (i + 1) (T ++ w)) ∨ (c ≠ 58 ∧ ∀ v w, G[i]? = some v → Sp v.toNat w → PB G (i + 1) (T ++ [58] ++ w))) := by
  obtain ⟨fs, bs, s, e, h1, h2, h3, h4, h5, rfl⟩ := h
  have hd : ∀ v, G[i]? = some v → (G.drop e).take (i + 1 - e) = (G.drop e).take (i - e) ++ [v] := by
    intro v hv
    rw [show i + 1 - e = (i - e) + 1 by omega]
    exact take_snoc (by rw [List.getElem?_drop, show e + (i - e) = i by omega]; exact hv)
  by_cases hb : bs = []
  · subst hb
    refine ⟨58, by simp [Lib.join_nil], .inl ⟨rfl, fun v w hv hs => ?_⟩⟩
    refine ⟨fs, [w], s, e, h1, by omega, h3, by rw [hd v hv]; exact h4.snoc hs, h5, ?_⟩
    simp [Lib.join_nil, Lib.join_one]
  · obtain ⟨c, hc, hn⟩ := join_last hb h4.parts.1
    refine ⟨c, by rw [List.getLast?_append, hc]; rfl, .inr ⟨hn, fun v w hv hs => ?_⟩⟩
    refine ⟨fs, bs ++ [w], s, e, h1, by omega, h3, by rw [hd v hv]; exact h4.snoc hs, h5, ?_⟩
    rw [join_snoc hb]; simp [List.append_assoc]
theorem gs_six (h l : Int) (hh : U6 h) (hl : U6 l) : sixV (some ((gsOf h l).map Int.toNat)) = .tuple #[adr true h l, .int .i64 0] := by
  have hgb : ∀ z ∈ gsOf h l, 0 ≤ z ∧ z ≤ 65535 := by
    intro z hz
    simp only [gsOf, List.mem_cons, List.not_mem_nil, or_false] at hz
    rcases hz with rfl | rfl | rfl | rfl | rfl | rfl | rfl | rfl <;> exact gr_bd _ _
  unfold sixV
  simp only
  rw [map_nat_int (fun z hz => (hgb z hz).1)]
  unfold adrOf
  show Value.tuple #[adr true (n4 (gr h 0) (gr h 1) (gr h 2) (gr h 3)) (n4 (gr l 0) (gr l 1) (gr l 2) (gr l 3)), _] = _
  rw [n4_gr h hh, n4_gr l hl]
theorem PA.prs {h l : Int} {T : List UInt8} (hh : U6 h) (hl : U6 l) (p : PA (gsOf h l) 8 T) : prsV T = .tuple #[adr true h l, .int .i64 0] := by
  obtain ⟨ws, h1, rfl⟩ := p
  have hlen : ws.length = 8 := h1.len
  obtain ⟨a, b, c⟩ := h1.parts
  have h6 := six_full hlen a b
  have hm : (58 : UInt8) ∈ Lib.join ws [58] := by
    obtain ⟨x, y, t, rfl⟩ : ∃ x y t, ws = x :: y :: t := by
      match ws, hlen with
      | x :: y :: t, _ => exact ⟨x, y, t, rfl⟩
    simp [Lib.join_cons, Lib.joinTail]
  unfold prsV
  rw [if_pos hm, h6, c]
  exact gs_six h l hh hl
theorem PB.prs {h l : Int} {T : List UInt8} (hh : U6 h) (hl : U6 l) (p : PB (gsOf h l) 8 T) : prsV T = .tuple #[adr true h l, .int .i64 0] := by
  obtain ⟨fs, bs, s, e, q1, q2, q3, q4, q5, rfl⟩ := p
  have l1 := q3.len
  have l2 := q4.len
  have h8 : (gsOf h l).length = 8 := rfl
  rw [List.length_take, h8] at l1
  rw [List.length_take, List.length_drop, h8] at l2
  obtain ⟨a, b, c⟩ := q3.parts
  obtain ⟨a', b', c'⟩ := q4.parts
  have h6 := six_gap (by omega) a a' b b'
  unfold prsV
  rw [if_pos (by simp), h6, c, c']
  have e1 : 8 - fs.length - bs.length = e - s := by omega
  have e2 : (List.map Int.toNat ((gsOf h l).take s) ++ List.replicate (8 - fs.length - bs.length) 0 ++ List.map Int.toNat (((gsOf h l).drop e).take (8 - e))) = (gsOf h l).map Int.toNat := by
    rw [e1, List.take_of_length_le (by rw [List.length_drop, h8]; omega : ((gsOf h l).drop e).length ≤ 8 - e)]
    have e3 : gsOf h l = (gsOf h l).take s ++ List.replicate (e - s) 0 ++ (gsOf h l).drop e := by
      apply List.ext_getElem?
      intro i
      by_cases hi : i < s
      · rw [List.append_assoc, List.getElem?_append_left (by rw [List.length_take, h8]; omega), List.getElem?_take, if_pos hi]
      · by_cases hi2 : i < e
        · rw [q5 i (by omega) hi2, List.getElem?_append_left (by rw [List.length_append, List.length_take, h8, List.length_replicate]; omega), List.getElem?_append_right (by rw [List.length_take, h8]; omega), List.getElem?_replicate, if_pos (by rw [List.length_take, h8]; omega)]
        · rw [List.getElem?_append_right (by rw [List.length_append, List.length_take, h8, List.length_replicate]; omega), List.getElem?_drop]
          congr 1
          rw [List.length_append, List.length_take, h8, List.length_replicate]
          omega
    conv => rhs; rw [e3]
    rw [List.map_append, List.map_append, List.map_replicate]
    rfl
  rw [e2]
  exact gs_six h l hh hl
end Go.Proofs.YtnhlgonldffgoaaDoor
