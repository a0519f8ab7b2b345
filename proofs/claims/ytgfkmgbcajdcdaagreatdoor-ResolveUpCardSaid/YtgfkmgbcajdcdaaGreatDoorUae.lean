/-
  Several texts in one: RvN, RbA, RbEq.
-/
import Derived.Test.YtgfkmgbcajdcdaaGreatDoorUad
import Derived.Test.YtgfkmgbcajdcdaaGreatDoorUac
namespace Go.Proofs.YtgfkmgbcajdcdaaGreatDoor
open Ifs
set_option linter.unusedVariables false

/-- A hop: Port, Via, Away; an entry. -/
abbrev HpI := Int × AdR × Bool
abbrev EnI := PfI × HpI
def zeroH : HpI := (0, zeroA, false)
def upI (st : StI) (port : Int) : Bool := thereI st port && (portI st port).2.2.2
/-- Does a path stand. -/
def stdI (st : StI) (x : PaI) : Bool := decide (x.2.2.2.1 = 0) || upI st x.2.2.2.1
def pathI (L : List TdI) (st : StI) (p : PfI) : Option PaI := (pathsI L p).find? (stdI st)
/-- Is a path by a neighbour. -/
def nbX (x : PaI) : Bool := !x.2.2.2.2 && decide (x.2.2.2.1 = 0)
/-- What has the hop of x, of which y is the neighbour's path. -/
def folX (x y : PaI) : PaI := if ¬ y.2.2.2.1 = 0 ∧ y.2.2.1 = zeroA then (y.1, y.2.1, x.2.2.1, y.2.2.2.1, y.2.2.2.2) else y
def nxtI (L : List TdI) (st : StI) (a : AdR) : Option PaI := (overI L a).findSome? (pathI L st)
def hpX (x : PaI) : HpI := (x.2.2.2.1, x.2.2.1, x.2.2.2.2)
/-- The hop of a path, of which so many neighbours more may be reached. -/
def hopF (L : List TdI) (st : StI) : Nat → PaI → HpI × Int
  | 0, x => if nbX x = false then (hpX x, 0) else (zeroH, 151)
  | f + 1, x => if nbX x = false then (hpX x, 0) else match nxtI L st x.2.2.1 with
    | none => (zeroH, 150)
    | some y => hopF L st f (folX x y)
def hopI (L : List TdI) (st : StI) (p : PfI) : HpI × Int := match pathI L st p with
  | none => (zeroH, 150)
  | some x => hopF L st 8 x
def entI (L : List TdI) (st : StI) (p : PfI) : Option EnI := if (hopI L st p).2 = 0 then some (p, (hopI L st p).1) else none
def tabI (L : List TdI) (st : StI) : List EnI := (prefsI L).filterMap (entI L st)
/-- The entries of the first k prefixes. -/
def tabK (L : List TdI) (st : StI) (k : Nat) : List EnI := ((prefsI L).take k).filterMap (entI L st)
theorem tabK_zero (L : List TdI) (st : StI) : tabK L st 0 = [] := by simp [tabK]
theorem tabK_all {L : List TdI} {st : StI} {k : Nat} (h : (prefsI L).length ≤ k) : tabK L st k = tabI L st := by unfold tabK tabI; rw [List.take_of_length_le h]
theorem tabK_succ {L : List TdI} {st : StI} {k : Nat} {p : PfI} (h : (prefsI L)[k]? = some p) : tabK L st (k + 1) = tabK L st k ++ (entI L st p).toList := by
  unfold tabK
  rw [List.take_add_one, h, List.filterMap_append]
  cases e : entI L st p <;> simp [e]
theorem tabK_le (L : List TdI) (st : StI) (k : Nat) : (tabK L st k).length ≤ (prefsI L).length := by
  unfold tabK
  refine Nat.le_trans (List.length_filterMap_le _ _) ?_
  rw [List.length_take]
  exact Nat.min_le_right _ _
theorem tabI_len (L : List TdI) (st : StI) : (tabI L st).length ≤ (prefsI L).length := List.length_filterMap_le _ _
/-- What goes on behind the first k. -/
theorem tabI_split (L : List TdI) (st : StI) (k : Nat) : tabI L st = tabK L st k ++ ((prefsI L).drop k).filterMap (entI L st) := by
  unfold tabI tabK
  rw [← List.filterMap_append, List.take_append_drop]
theorem tabI_at {L : List TdI} {st : StI} {k : Nat} {p : PfI} {e : EnI} (h : (prefsI L)[k]? = some p) (he : entI L st p = some e) : (tabI L st)[(tabK L st k).length]? = some e := by
  have hk := (List.getElem?_eq_some_iff.1 h)
  obtain ⟨hl, hp⟩ := hk
  rw [tabI_split L st k, List.getElem?_append_right (Nat.le_refl _), Nat.sub_self, List.drop_eq_getElem_cons hl, hp, List.filterMap_cons, he]
  rfl
/-! what holds of each hop -/
structure GoodX (st : StI) (x : PaI) : Prop where
  aw : x.2.2.2.2 = true → x.2.2.2.1 = 0 ∧ x.2.2.1 = zeroA
  pt : ¬ x.2.2.2.1 = 0 → upI st x.2.2.2.1 = true
theorem GoodX.of {st : StI} {p : PfI} {x : PaI} (hr : rightI p x = true) (hs : stdI st x = true) : GoodX st x := by
  refine ⟨fun ha => ?_, fun hp => ?_⟩
  · unfold rightI at hr
    split at hr
    · cases hr
    · simpa [ha] using hr
  · unfold stdI at hs
    rw [Bool.or_eq_true, decide_eq_true_eq] at hs
    exact hs.resolve_left hp
theorem pathI_some {L : List TdI} {st : StI} {p : PfI} {x : PaI} (hI : InvR L) (h : pathI L st p = some x) : GoodX st x ∧ (p, x) ∈ L := by
  have h1 : (p, x) ∈ L := pathsI_mem.1 (List.mem_of_find?_eq_some h)
  exact ⟨GoodX.of (hI.ok _ h1).right (List.find?_some h), h1⟩
theorem GoodX.fol {st : StI} {x y : PaI} (h : GoodX st y) : GoodX st (folX x y) := by
  unfold folX
  split
  · rename_i hc
    refine ⟨fun ha => absurd (h.aw ha).1 hc.1, h.pt⟩
  · exact h
theorem nxtI_some {L : List TdI} {st : StI} {a : AdR} {y : PaI} (hI : InvR L) (h : nxtI L st a = some y) : GoodX st y ∧ ∃ q, (q, y) ∈ L := by
  obtain ⟨q, -, hq⟩ := List.exists_of_findSome?_eq_some h
  obtain ⟨h1, h2⟩ := pathI_some hI hq
  exact ⟨h1, q, h2⟩
theorem hopF_err (L : List TdI) (st : StI) : ∀ (f : Nat) (x : PaI), (hopF L st f x).2 = 0 ∨ (((hopF L st f x).2 = 150 ∨ (hopF L st f x).2 = 151) ∧ (hopF L st f x).1 = zeroH)
  | 0, x => by
    unfold hopF
    split
    · exact .inl rfl
    · exact .inr ⟨.inr rfl, rfl⟩
  | f + 1, x => by
    unfold hopF
    split
    · exact .inl rfl
    · split
      · exact .inr ⟨.inl rfl, rfl⟩
      · exact hopF_err L st f _
theorem hopI_err (L : List TdI) (st : StI) (p : PfI) : (hopI L st p).2 = 0 ∨ (((hopI L st p).2 = 150 ∨ (hopI L st p).2 = 151) ∧ (hopI L st p).1 = zeroH) := by
  unfold hopI
  split
  · exact .inr ⟨.inl rfl, rfl⟩
  · exact hopF_err L st _ _
/-- A hop goes away, or by a port that is up. -/
def GoodH (st : StI) (h : HpI) : Prop := (h.2.2 = true → h.1 = 0 ∧ h.2.1 = zeroA) ∧ (h.2.2 = false → upI st h.1 = true)
theorem hopF_good {L : List TdI} {st : StI} (hI : InvR L) : ∀ (f : Nat) (x : PaI), GoodX st x → (hopF L st f x).2 = 0 → GoodH st (hopF L st f x).1
  | 0, x, hx, h0 => by
    unfold hopF at h0 ⊢
    split at h0
    · rename_i hn
      rw [if_pos hn]
      unfold nbX at hn
      refine ⟨fun ha => hx.aw ha, fun ha => hx.pt fun hp => ?_⟩
      simp only [hpX] at ha
      rw [ha, hp] at hn
      simp at hn
    · simp at h0
  | f + 1, x, hx, h0 => by
    unfold hopF at h0 ⊢
    split at h0
    · rename_i hn
      rw [if_pos hn]
      unfold nbX at hn
      refine ⟨fun ha => hx.aw ha, fun ha => hx.pt fun hp => ?_⟩
      simp only [hpX] at ha
      rw [ha, hp] at hn
      simp at hn
    · rename_i hn
      rw [if_neg hn]
      split at h0
      · simp at h0
      · rename_i y hy
        exact hopF_good hI f _ (nxtI_some hI hy).1.fol h0
theorem hopI_good {L : List TdI} {st : StI} (hI : InvR L) {p : PfI} (h0 : (hopI L st p).2 = 0) : GoodH st (hopI L st p).1 := by
  unfold hopI at h0 ⊢
  cases hp : pathI L st p with
  | none => rw [hp] at h0; simp at h0
  | some x =>
    rw [hp] at h0
    exact hopF_good hI 8 x (pathI_some hI hp).1 h0
theorem tabI_mem {L : List TdI} {st : StI} {e : EnI} (h : e ∈ tabI L st) : e.1 ∈ prefsI L ∧ (hopI L st e.1).2 = 0 ∧ e.2 = (hopI L st e.1).1 := by
  obtain ⟨p, hp, he⟩ := List.mem_filterMap.1 h
  unfold entI at he
  split at he
  · rename_i h0
    injection he with he
    subst he
    exact ⟨hp, h0, rfl⟩
  · cases he
theorem entI_fst {L : List TdI} {st : StI} {p : PfI} {e : EnI} (he : entI L st p = some e) : e.1 = p := by
  unfold entI at he
  split at he
  · injection he with he
    rw [← he]
  · cases he
theorem tabI_srt {L : List TdI} {st : StI} (hI : InvR L) : (tabI L st).Pairwise fun e f => ltP e.1 f.1 := by
  unfold tabI
  rw [List.pairwise_filterMap]
  refine (prefsI_srt hI).imp fun {p q} hpq e he f hf => ?_
  rw [entI_fst he, entI_fst hf]
  exact hpq
/-- What holds of each prefix of a rib. -/
theorem pref_ok {L : List TdI} (hI : InvR L) {p : PfI} (h : p ∈ prefsI L) : pvI p = true ∧ vld p.1.1 (p.1.2.1 : Int) (p.1.2.2 : Int) = true ∧ N64 p.1.2.1 ∧ N64 p.1.2.2 := by
  obtain ⟨t, ht, e⟩ := (prefsI_mem hI).1 h
  have := hI.ok t ht
  rw [← e]
  exact ⟨this.pv, this.vl, this.n1.1, this.n1.2⟩
end Go.Proofs.YtgfkmgbcajdcdaaGreatDoor

namespace Go.Proofs.YtgfkmgbcajdcdaaGreatDoor
open Go.RowKit
set_option linter.unusedVariables false

abbrev adR (a : AdR) : Value := .agg #[.bool a.1, .int .u64 (a.2.1 : Int), .int .u64 (a.2.2 : Int)]
abbrev pfR (p : PfI) : Value := .agg #[.bool p.1.1, .int .u64 (p.1.2.1 : Int), .int .u64 (p.1.2.2 : Int), .int .i64 p.2]
abbrev paA (x : PaI) : Array Value := #[.int .i64 x.1, .int .i64 x.2.1, .bool x.2.2.1.1, .int .u64 (x.2.2.1.2.1 : Int), .int .u64 (x.2.2.1.2.2 : Int), .int .i64 x.2.2.2.1, .bool x.2.2.2.2]
abbrev paR (x : PaI) : Value := .agg (paA x)
theorem eq_adr (s s' : Bool) (h l h' l' : Int) (W : World) : (Op.equalIn 10000 28 (.agg #[.bool s, .int .u64 h, .int .u64 l]) (.agg #[.bool s', .int .u64 h', .int .u64 l'])).run Tryz.prog W = .ok (decide (s = s' ∧ h = h' ∧ l = l')) W := by
  by_cases h1 : s = s'
  · subst h1
    by_cases h2 : h = h'
    · subst h2
      by_cases h3 : l = l'
      · subst h3
        go_simp
      · have h4 : (l == l') = false := by simpa using h3
        rw [show decide (s = s ∧ h = h ∧ l = l') = false by simp [h3]]
        go_simp
    · have h4 : (h == h') = false := by simpa using h2
      rw [show decide (s = s ∧ h = h' ∧ l = l') = false by simp [h2]]
      go_simp
  · have h4 : (s == s') = false := by simpa using h1
    rw [show decide (s = s' ∧ h = h' ∧ l = l') = false by simp [h1]]
    go_simp
theorem eq_adR (x y : AdR) {b : Bool} (hb : decide (x = y) = b) (W : World) : (Op.equalIn 10000 28 (.agg #[.bool x.1, .int .u64 (x.2.1 : Int), .int .u64 (x.2.2 : Int)]) (.agg #[.bool y.1, .int .u64 (y.2.1 : Int), .int .u64 (y.2.2 : Int)])).run Tryz.prog W = .ok b W := by
  rw [eq_adr, ← hb]
  obtain ⟨s, h, l⟩ := x
  obtain ⟨s', h', l'⟩ := y
  congr 2
  simp [Prod.ext_iff]
  intro _
  constructor <;> (rintro ⟨h1, h2⟩; constructor <;> omega)
end Go.Proofs.YtgfkmgbcajdcdaaGreatDoor

namespace Go.Proofs.YtgfkmgbcajdcdaaGreatDoor
open Go.RowKit
set_option linter.unusedVariables false

def pfC (p : PfI) : List Value := [.bool p.1.1, .int .u64 (p.1.2.1 : Int), .int .u64 (p.1.2.2 : Int), .int .i64 p.2]
def paC (x : PaI) : List Value := [.int .i64 x.1, .int .i64 x.2.1, .bool x.2.2.1.1, .int .u64 (x.2.2.1.2.1 : Int), .int .u64 (x.2.2.1.2.2 : Int), .int .i64 x.2.2.2.1, .bool x.2.2.2.2]
theorem pf_four (p : PfI) : (pfC p).length = 4 := rfl
theorem pa_seven (x : PaI) : (paC x).length = 7 := rfl
theorem pf_one (p : PfI) : ∀ u ∈ pfC p, u.oneCell' = true := by
  intro u hu; simp [pfC] at hu; rcases hu with rfl | rfl | rfl | rfl <;> rfl
theorem pa_one (x : PaI) : ∀ u ∈ paC x, u.oneCell' = true := by
  intro u hu; simp [paC] at hu; rcases hu with rfl | rfl | rfl | rfl | rfl | rfl | rfl <;> rfl
theorem flat_one {α : Type} {f : α → List Value} (h : ∀ x, ∀ u ∈ f x, u.oneCell' = true) (l : List α) : ∀ u ∈ l.flatMap f, u.oneCell' = true := by
  intro u hu
  obtain ⟨x, -, hx⟩ := List.mem_flatMap.1 hu
  exact h x u hx
theorem eq_pf0 (s s' : Bool) (h l b h' l' b' : Int) (W : World) : (Op.equalIn 10000 30 (.agg #[.bool s, .int .u64 h, .int .u64 l, .int .i64 b]) (.agg #[.bool s', .int .u64 h', .int .u64 l', .int .i64 b'])).run Tryz.prog W = .ok (decide (s = s' ∧ h = h' ∧ l = l' ∧ b = b')) W := by
  by_cases h1 : s = s'
  · subst h1
    by_cases h2 : h = h'
    · subst h2
      by_cases h3 : l = l'
      · subst h3
        by_cases h4 : b = b'
        · subst h4
          go_simp
        · have h5 : (b == b') = false := by simpa using h4
          rw [show decide (s = s ∧ h = h ∧ l = l ∧ b = b') = false by simp [h4]]
          go_simp
      · have h4 : (l == l') = false := by simpa using h3
        rw [show decide (s = s ∧ h = h ∧ l = l' ∧ b = b') = false by simp [h3]]
        go_simp
    · have h4 : (h == h') = false := by simpa using h2
      rw [show decide (s = s ∧ h = h' ∧ l = l' ∧ b = b') = false by simp [h2]]
      go_simp
  · have h4 : (s == s') = false := by simpa using h1
    rw [show decide (s = s' ∧ h = h' ∧ l = l' ∧ b = b') = false by simp [h1]]
    go_simp
theorem eq_pfR (p q : PfI) {b : Bool} (hb : decide (p = q) = b) (W : World) : (Op.equalIn 10000 30 (.agg #[.bool p.1.1, .int .u64 (p.1.2.1 : Int), .int .u64 (p.1.2.2 : Int), .int .i64 p.2]) (.agg #[.bool q.1.1, .int .u64 (q.1.2.1 : Int), .int .u64 (q.1.2.2 : Int), .int .i64 q.2])).run Tryz.prog W = .ok b W := by
  rw [eq_pf0, ← hb]
  obtain ⟨⟨s, h, l⟩, n⟩ := p
  obtain ⟨⟨s', h', l'⟩, n'⟩ := q
  congr 2
  simp [Prod.ext_iff]
  constructor
  · rintro ⟨h1, h2, h3, h4⟩
    exact ⟨⟨h1, by omega, by omega⟩, h4⟩
  · rintro ⟨⟨h1, h2, h3⟩, h4⟩
    exact ⟨h1, by omega, by omega, h4⟩
set_option maxHeartbeats 1000000 in
theorem eq_pa0 (p m : Int) (s : Bool) (h l o : Int) (a : Bool) (p' m' : Int) (s' : Bool) (h' l' o' : Int) (a' : Bool) (W : World) : (Op.equalIn 10000 49 (.agg #[.int .i64 p, .int .i64 m, .bool s, .int .u64 h, .int .u64 l, .int .i64 o, .bool a]) (.agg #[.int .i64 p', .int .i64 m', .bool s', .int .u64 h', .int .u64 l', .int .i64 o', .bool a'])).run Tryz.prog W = .ok (decide (p = p' ∧ m = m' ∧ s = s' ∧ h = h' ∧ l = l' ∧ o = o' ∧ a = a')) W := by
  by_cases h1 : p = p'
  · subst h1
    by_cases h2 : m = m'
    · subst h2
      by_cases h3 : s = s'
      · subst h3
        by_cases h4 : h = h'
        · subst h4
          by_cases h5 : l = l'
          · subst h5
            by_cases h6 : o = o'
            · subst h6
              by_cases h7 : a = a'
              · subst h7
                go_simp
              · have h9 : (a == a') = false := by simpa using h7
                rw [show decide (p = p ∧ m = m ∧ s = s ∧ h = h ∧ l = l ∧ o = o ∧ a = a') = false by simp [h7]]
                go_simp
            · have h9 : (o == o') = false := by simpa using h6
              rw [show decide (p = p ∧ m = m ∧ s = s ∧ h = h ∧ l = l ∧ o = o' ∧ a = a') = false by simp [h6]]
              go_simp
          · have h9 : (l == l') = false := by simpa using h5
            rw [show decide (p = p ∧ m = m ∧ s = s ∧ h = h ∧ l = l' ∧ o = o' ∧ a = a') = false by simp [h5]]
            go_simp
        · have h9 : (h == h') = false := by simpa using h4
          rw [show decide (p = p ∧ m = m ∧ s = s ∧ h = h' ∧ l = l' ∧ o = o' ∧ a = a') = false by simp [h4]]
          go_simp
      · have h9 : (s == s') = false := by simpa using h3
        rw [show decide (p = p ∧ m = m ∧ s = s' ∧ h = h' ∧ l = l' ∧ o = o' ∧ a = a') = false by simp [h3]]
        go_simp
    · have h9 : (m == m') = false := by simpa using h2
      rw [show decide (p = p ∧ m = m' ∧ s = s' ∧ h = h' ∧ l = l' ∧ o = o' ∧ a = a') = false by simp [h2]]
      go_simp
  · have h9 : (p == p') = false := by simpa using h1
    rw [show decide (p = p' ∧ m = m' ∧ s = s' ∧ h = h' ∧ l = l' ∧ o = o' ∧ a = a') = false by simp [h1]]
    go_simp
theorem eq_paR (x y : PaI) {b : Bool} (hb : decide (x = y) = b) (W : World) : (Op.equalIn 10000 49 (.agg (paA x)) (.agg (paA y))).run Tryz.prog W = .ok b W := by
  rw [eq_pa0, ← hb]
  obtain ⟨p, m, ⟨s, h, l⟩, o, a⟩ := x
  obtain ⟨p', m', ⟨s', h', l'⟩, o', a'⟩ := y
  congr 2
  simp [Prod.ext_iff]
  intro _ _
  constructor
  · rintro ⟨h3, h4, h5, h6, h7⟩
    exact ⟨⟨h3, by omega, by omega⟩, h6, h7⟩
  · rintro ⟨⟨h3, h4, h5⟩, h6, h7⟩
    exact ⟨h3, by omega, by omega, h6, h7⟩
theorem infoPf : (Tryz.prog.info? 30).map (fun i => (i.zero, i.size, i.bytes)) = some (some (.agg #[.bool false, .int .u64 0, .int .u64 0, .int .i64 0]), 4, 32) := by kernel_rfl
theorem infoPa : (Tryz.prog.info? 49).map (fun i => (i.zero, i.size, i.bytes)) = some (some (.agg #[.int .i64 0, .int .i64 0, .bool false, .int .u64 0, .int .u64 0, .int .i64 0, .bool false]), 7, 56) := by kernel_rfl
def zeroX : PaI := (0, 0, (false, 0, 0), 0, false)
def bestV (r : Option PaI) : Value := .tuple #[paR (r.getD zeroX), .bool r.isSome]
theorem pf_cells {w : World} {base g n c k : Nat} {l : List PfI} (h : w.ownsRow base 30 4 (.slice (some ⟨g, 0, none⟩) n c) n (l.flatMap pfC)) {q : PfI} (hq : l[k]? = some q) :
    w.cell? ⟨g, k * 4, none⟩ = some (.bool q.1.1) ∧ w.cell? ⟨g, k * 4 + 1, none⟩ = some (.int .u64 (q.1.2.1 : Int)) ∧ w.cell? ⟨g, k * 4 + 2, none⟩ = some (.int .u64 (q.1.2.2 : Int)) ∧ w.cell? ⟨g, k * 4 + 3, none⟩ = some (.int .i64 q.2) := by
  refine ⟨?_, ?_, ?_, ?_⟩
  · exact own_cellN h ((flatk_at (f := pfC) pf_four hq (k := 0) (by decide)).trans rfl)
  · exact own_cellN h ((flatk_at (f := pfC) pf_four hq (k := 1) (by decide)).trans rfl)
  · exact own_cellN h ((flatk_at (f := pfC) pf_four hq (k := 2) (by decide)).trans rfl)
  · exact own_cellN h ((flatk_at (f := pfC) pf_four hq (k := 3) (by decide)).trans rfl)
theorem right_bad {p : PfI} {x : PaI} (h : pvI p = false ∨ x.1 < 0 ∨ 4 < x.1 ∨ x.2.1 < 0 ∨ 65535 < x.2.1) : rightI p x = false := by
  unfold rightI; rw [if_pos h]
theorem right_away {p : PfI} {x : PaI} (h : ¬ (pvI p = false ∨ x.1 < 0 ∨ 4 < x.1 ∨ x.2.1 < 0 ∨ 65535 < x.2.1)) (ha : x.2.2.2.2 = true) : rightI p x = (decide (x.2.2.2.1 = 0) && decide (x.2.2.1 = zeroA)) := by
  unfold rightI; rw [if_neg h, if_pos ha]
theorem right_nb {p : PfI} {x : PaI} (h : ¬ (pvI p = false ∨ x.1 < 0 ∨ 4 < x.1 ∨ x.2.1 < 0 ∨ 65535 < x.2.1)) (ha : x.2.2.2.2 = false) (ho : x.2.2.2.1 = 0) : rightI p x = nbI p x.2.2.1 0 := by
  unfold rightI; rw [if_neg h, if_neg (by rw [ha]; simp), if_pos ho]
theorem right_po {p : PfI} {x : PaI} (h : ¬ (pvI p = false ∨ x.1 < 0 ∨ 4 < x.1 ∨ x.2.1 < 0 ∨ 65535 < x.2.1)) (ha : x.2.2.2.2 = false) (ho : ¬ x.2.2.2.1 = 0) : rightI p x = (decide (1 ≤ x.2.2.2.1) && (decide (x.2.2.2.1 ≤ 8) && (decide (x.2.2.1 = zeroA) || nbI p x.2.2.1 x.2.2.2.1))) := by
  unfold rightI; rw [if_neg h, if_neg (by rw [ha]; simp), if_neg ho]
theorem Goes.trans_ {w w1 w2 : World} {S S1 S2 : List Nat} (h : Goes w w1 S S1) (k : Goes w1 w2 S1 S2) : Goes w w2 S S2 :=
  ⟨h.tch.trans_fre k.tch h.fre, fun s hs => by
    rcases k.fre s hs with a | a
    · exact h.fre s a
    · exact .inr (Nat.le_trans h.tch.size a)⟩
theorem beq_int (a b : Int) : (a == b) = decide (a = b) := by by_cases h : a = b <;> simp [h]
theorem beq_bool (a b : Bool) : (a == b) = decide (a = b) := by cases a <;> cases b <;> rfl
theorem sl_cases {w : World} {ty sz n c : Nat} {A : Option Addr} {xs : List Value} (h : w.ownsRow 0 ty sz (.slice A n c) n xs) : (A = none ∧ n = 0 ∧ c = 0) ∨ ∃ g, A = some ⟨g, 0, none⟩ := by
  rcases h.2 with ⟨e, h0⟩ | ⟨g, cap, cur, e, -⟩
  · injection e with e1 e2 e3
    exact .inl ⟨e1, h0, e3⟩
  · injection e with e1 e2 e3
    exact .inr ⟨g, e1⟩
theorem pa_cells {w : World} {base g n c k : Nat} {l : List PaI} (h : w.ownsRow base 49 7 (.slice (some ⟨g, 0, none⟩) n c) n (l.flatMap paC)) {x : PaI} (hx : l[k]? = some x) :
    w.cell? ⟨g, k * 7, none⟩ = some (.int .i64 x.1) ∧ w.cell? ⟨g, k * 7 + 1, none⟩ = some (.int .i64 x.2.1) ∧ w.cell? ⟨g, k * 7 + 2, none⟩ = some (.bool x.2.2.1.1) ∧ w.cell? ⟨g, k * 7 + 3, none⟩ = some (.int .u64 (x.2.2.1.2.1 : Int)) ∧ w.cell? ⟨g, k * 7 + 4, none⟩ = some (.int .u64 (x.2.2.1.2.2 : Int)) ∧ w.cell? ⟨g, k * 7 + 5, none⟩ = some (.int .i64 x.2.2.2.1) ∧ w.cell? ⟨g, k * 7 + 6, none⟩ = some (.bool x.2.2.2.2) := by
  refine ⟨?_, ?_, ?_, ?_, ?_, ?_, ?_⟩
  · exact own_cellN h ((flatk_at (f := paC) pa_seven hx (k := 0) (by decide)).trans rfl)
  · exact own_cellN h ((flatk_at (f := paC) pa_seven hx (k := 1) (by decide)).trans rfl)
  · exact own_cellN h ((flatk_at (f := paC) pa_seven hx (k := 2) (by decide)).trans rfl)
  · exact own_cellN h ((flatk_at (f := paC) pa_seven hx (k := 3) (by decide)).trans rfl)
  · exact own_cellN h ((flatk_at (f := paC) pa_seven hx (k := 4) (by decide)).trans rfl)
  · exact own_cellN h ((flatk_at (f := paC) pa_seven hx (k := 5) (by decide)).trans rfl)
  · exact own_cellN h ((flatk_at (f := paC) pa_seven hx (k := 6) (by decide)).trans rfl)
end Go.Proofs.YtgfkmgbcajdcdaaGreatDoor
