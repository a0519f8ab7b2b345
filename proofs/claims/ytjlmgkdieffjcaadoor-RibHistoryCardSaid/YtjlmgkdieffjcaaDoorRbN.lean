/-
  A rib, plainly (layer 15): what each call answers and leaves; the order in which paths stand.
-/
import Derived.Test.YtjlmgkdieffjcaaDoorEMac
import Derived.Test.YtjlmgkdieffjcaaDoorMgP
import Derived.Test.YtjlmgkdieffjcaaDoorMgG
namespace Go.Proofs.YtjlmgkdieffjcaaDoor
set_option linter.unusedVariables false

/-- An address; a prefix: its address, its bits; a path: its Proto, Metric, Via, Port, Away; what is told. -/
abbrev AdR := Bool × Nat × Nat
abbrev PfI := AdR × Int
abbrev PaI := Int × Int × AdR × Int × Bool
abbrev TdI := PfI × PaI
def clsR (a : AdR) : Int := clsV a.1 (a.2.1 : Int) (a.2.2 : Int)
def distI (p : Int) : Int := if p = 0 then 0 else if p = 1 then 1 else if p = 2 then 20 else if p = 3 then 110 else if p = 4 then 120 else 255
def ahdI (a b : AdR) : Int := if a = b then 0 else if (¬ a.1 = b.1 ∧ b.1 = true) ∨ (a.1 = b.1 ∧ (a.2.1 < b.2.1 ∨ (a.2.1 = b.2.1 ∧ a.2.2 < b.2.2))) then -1 else 1
/-- Better. -/
def betI (x y : PaI) : Bool :=
  if ¬ distI x.1 = distI y.1 then decide (distI x.1 < distI y.1) else if ¬ x.2.1 = y.2.1 then decide (x.2.1 < y.2.1) else if ¬ x.2.2.2.1 = y.2.2.2.1 then decide (x.2.2.2.1 < y.2.2.2.1) else
  decide (ahdI x.2.2.1 y.2.2.1 < 0) || (decide (ahdI x.2.2.1 y.2.2.1 = 0) && (!x.2.2.2.2 && y.2.2.2.2))
def pvI (p : PfI) : Bool := pvl p.1.1 p.1.2.1 p.1.2.2 p.2
/-- May an address be a neighbour. -/
def nbI (p : PfI) (a : AdR) (port : Int) : Bool := decide (a.1 = p.1.1) && (decide (clsR a = 5) || (decide (clsR a = 2) && !decide (port = 0)))
def zeroA : AdR := (false, 0, 0)
/-- Is a path valid. -/
def rightI (p : PfI) (x : PaI) : Bool :=
  if pvI p = false ∨ x.1 < 0 ∨ 4 < x.1 ∨ x.2.1 < 0 ∨ 65535 < x.2.1 then false else
  if x.2.2.2.2 = true then decide (x.2.2.2.1 = 0) && decide (x.2.2.1 = zeroA) else
  if x.2.2.2.1 = 0 then nbI p x.2.2.1 0 else
  decide (1 ≤ x.2.2.2.1) && (decide (x.2.2.2.1 ≤ 8) && (decide (x.2.2.1 = zeroA) || nbI p x.2.2.1 x.2.2.2.1))
def sameW (x y : PaI) : Bool := decide (x.1 = y.1) && (decide (x.2.2.1 = y.2.2.1) && (decide (x.2.2.2.1 = y.2.2.2.1) && decide (x.2.2.2.2 = y.2.2.2.2)))
def isW (p : PfI) (x : PaI) (t : TdI) : Bool := decide (t.1 = p) && sameW x t.2
/-- Where a path of the same way stands, from 1 on; 0: nowhere. -/
def wayI (L : List TdI) (p : PfI) (x : PaI) : Nat := fndI (isW p x) L
def lessI (p q : PfI) : Bool := pls p.1.1 p.1.2.1 p.1.2.2 p.2 q.1.1 q.1.2.1 q.1.2.2 q.2
def aheadT (t u : TdI) : Bool := lessI t.1 u.1 || (decide (t.1 = u.1) && betI t.2 u.2)
def posI (L : List TdI) (t : TdI) : Nat := (L.takeWhile fun u => aheadT u t).length
def insI (L : List TdI) (t : TdI) : List TdI := L.take (posI L t) ++ t :: L.drop (posI L t)
def pathsI (L : List TdI) (p : PfI) : List PaI := (L.filter fun t => decide (t.1 = p)).map (·.2)
/-- Is the k-th the first of its prefix. -/
def newP? (L : List TdI) (k : Nat) : Bool := match L[k]? with
  | none => false
  | some t => match k with
    | 0 => true
    | j + 1 => !decide ((L[j]?).map (·.1) = some t.1)
/-- The prefixes of the first k. -/
def prefK (L : List TdI) : Nat → List PfI
  | 0 => []
  | k + 1 => match L[k]? with
    | none => prefK L k
    | some t => if newP? L k = true then prefK L k ++ [t.1] else prefK L k
def prefsI (L : List TdI) : List PfI := prefK L L.length
def hldP (p : PfI) (a : AdR) : Bool := hld p.1.1 p.1.2.1 p.1.2.2 p.2 a.1 a.2.1 a.2.2
def overL (l : List PfI) (a : AdR) : List PfI := (l.filter fun p => hldP p a).reverse
def overI (L : List TdI) (a : AdR) : List PfI := overL (prefsI L) a
/-- Put, Drop, Flush. -/
def putR (L : List TdI) (p : PfI) (x : PaI) : List TdI × Int :=
  if rightI p x = false then (L, 140) else if ¬ wayI L p x = 0 then (insI (L.eraseIdx (wayI L p x - 1)) (p, x), 0) else
  if 4 ≤ (pathsI L p).length ∨ ((pathsI L p).length = 0 ∧ 90 ≤ (prefsI L).length) then (L, 141) else (insI L (p, x), 0)
def dropR (L : List TdI) (p : PfI) (x : PaI) : List TdI × Int := if wayI L p x = 0 then (L, 142) else (L.eraseIdx (wayI L p x - 1), 0)
def flushR (L : List TdI) (pr : Int) : List TdI × Int := (L.filter fun t => !decide (t.2.1 = pr), (L.length : Int) - ((L.filter fun t => !decide (t.2.1 = pr)).length : Int))
/-! the order -/
def lexP : List Int → List Int → Prop
  | a :: aa, b :: bb => a < b ∨ (a = b ∧ lexP aa bb)
  | _, _ => False
theorem lexP.irrefl : ∀ l, ¬ lexP l l
  | [], h => h
  | a :: aa, h => by
    rcases h with h | ⟨-, h⟩
    · omega
    · exact lexP.irrefl aa h
theorem lexP.trans : ∀ {l m n : List Int}, lexP l m → lexP m n → lexP l n
  | [], _, _, h, _ => h.elim
  | a :: aa, [], _, h, _ => h.elim
  | a :: aa, b :: bb, [], _, h => h.elim
  | a :: aa, b :: bb, c :: cc, h, k => by
    rcases h with h | ⟨h1, h2⟩
    · rcases k with k | ⟨k1, k2⟩
      · exact .inl (by omega)
      · exact .inl (by omega)
    · rcases k with k | ⟨k1, k2⟩
      · exact .inl (by omega)
      · exact .inr ⟨by omega, lexP.trans h2 k2⟩
theorem lexP.tri : ∀ {l m : List Int}, l.length = m.length → lexP l m ∨ l = m ∨ lexP m l
  | [], [], _ => .inr (.inl rfl)
  | [], b :: bb, h => by simp at h
  | a :: aa, [], h => by simp at h
  | a :: aa, b :: bb, h => by
    rcases Int.lt_trichotomy a b with h1 | h1 | h1
    · exact .inl (.inl h1)
    · rcases lexP.tri (l := aa) (m := bb) (by simpa using h) with h2 | h2 | h2
      · exact .inl (.inr ⟨h1, h2⟩)
      · exact .inr (.inl (by rw [h1, h2]))
      · exact .inr (.inr (.inr ⟨h1.symm, h2⟩))
    · exact .inr (.inr (.inl h1))
def bI (b : Bool) : Int := if b then 1 else 0
def keyX (x : PaI) : List Int := [distI x.1, x.2.1, x.2.2.2.1, bI x.2.2.1.1, (x.2.2.1.2.1 : Int), (x.2.2.1.2.2 : Int), bI x.2.2.2.2]
theorem ahdI_lt {a b : AdR} : ahdI a b < 0 ↔ lexP [bI a.1, (a.2.1 : Int), (a.2.2 : Int)] [bI b.1, (b.2.1 : Int), (b.2.2 : Int)] := by
  obtain ⟨s, h, l⟩ := a
  obtain ⟨s', h', l'⟩ := b
  unfold ahdI
  simp only [Prod.mk.injEq, lexP]
  by_cases e : s = s' ∧ h = h' ∧ l = l'
  · obtain ⟨rfl, rfl, rfl⟩ := e
    simp
  · rw [if_neg e]
    cases s <;> cases s' <;> simp [bI] <;> simp at e <;> split <;> omega
theorem ahdI_zero {a b : AdR} : ahdI a b = 0 ↔ a = b := by
  unfold ahdI
  by_cases e : a = b
  · simp [e]
  · rw [if_neg e]
    refine ⟨fun h => ?_, fun h => absurd h e⟩
    split at h <;> omega
theorem betI_key (x y : PaI) : betI x y = true ↔ lexP (keyX x) (keyX y) := by
  have h1 := ahdI_lt (a := x.2.2.1) (b := y.2.2.1)
  have h2 := ahdI_zero (a := x.2.2.1) (b := y.2.2.1)
  obtain ⟨pr, me, ⟨s, h, l⟩, po, aw⟩ := x
  obtain ⟨pr', me', ⟨s', h', l'⟩, po', aw'⟩ := y
  unfold betI keyX
  simp only [lexP] at h1 h2 ⊢
  by_cases d : distI pr = distI pr'
  · by_cases m : me = me'
    · by_cases q : po = po'
      · rw [if_neg (by simpa using d), if_neg (by simpa using m), if_neg (by simpa using q)]
        simp only [Bool.or_eq_true, Bool.and_eq_true, decide_eq_true_eq, h1, h2, Prod.mk.injEq]
        cases s <;> cases s' <;> cases aw <;> cases aw' <;> simp [bI, d, m, q] <;> omega
      · rw [if_neg (by simpa using d), if_neg (by simpa using m), if_pos q]
        simp [d, m, q]
    · rw [if_neg (by simpa using d), if_pos m]
      simp [d, m]
  · rw [if_pos d]
    simp [d]
theorem betI_irr (x : PaI) : betI x x = false := by
  rw [Bool.eq_false_iff]
  intro h
  exact lexP.irrefl _ ((betI_key x x).1 h)
theorem betI_trans {x y z : PaI} (h : betI x y = true) (k : betI y z = true) : betI x z = true := (betI_key x z).2 (((betI_key x y).1 h).trans ((betI_key y z).1 k))
theorem betI_asym {x y : PaI} (h : betI x y = true) : betI y x = false := by
  rw [Bool.eq_false_iff]
  intro k
  have := betI_trans h k
  rw [betI_irr] at this
  cases this
end Go.Proofs.YtjlmgkdieffjcaaDoor
