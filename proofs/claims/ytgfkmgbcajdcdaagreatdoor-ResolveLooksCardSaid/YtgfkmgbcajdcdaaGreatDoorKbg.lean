/-
  Several texts in one: TrS, TrM, TrB, TrG, TrP, TrL, RwS.
-/
import Derived.Test.YtgfkmgbcajdcdaaGreatDoorKbf
import Derived.Test.YtgfkmgbcajdcdaaGreatDoorKaq
import Derived.Test.YtgfkmgbcajdcdaaGreatDoorKar
import Derived.BigQuiet
namespace Go.Proofs.YtgfkmgbcajdcdaaGreatDoor
set_option linter.unusedVariables false
/-- Between two routes of one slot stand only routes of that slot. -/
theorem deep_mid {d c v : Nat} (hd : d ≤ 21) {j k i : RtN} (hj : deepN d v j = true) (hi : deepN d v i = true) (h1 : ltN j k) (h2 : ltN k i) (aj : j.m / 2 ^ (132 - 6 * d) = c) (ai : i.m / 2 ^ (132 - 6 * d) = c) (alk : alN k) : deepN d v k = true := by
  unfold deepN at hj hi ⊢
  rw [Bool.and_eq_true, decide_eq_true_eq, decide_eq_true_eq] at hj hi ⊢
  have gj := hj.2
  have gi := hi.2
  have e64 : (2 : Nat) ^ 6 = 64 := rfl
  unfold grpN at gj gi ⊢
  rw [show 132 - 6 * d = (126 - 6 * d) + 6 by omega, div_pow, e64] at aj ai
  have l1 : j.m ≤ k.m := by rcases h1 with h | ⟨h, -⟩ <;> omega
  have l2 : k.m ≤ i.m := by rcases h2 with h | ⟨h, -⟩ <;> omega
  have q1 := Nat.div_le_div_right (c := 2 ^ (126 - 6 * d)) l1
  have q2 := Nat.div_le_div_right (c := 2 ^ (126 - 6 * d)) l2
  have hA : k.m / 2 ^ (126 - 6 * d) = j.m / 2 ^ (126 - 6 * d) := by omega
  refine ⟨?_, by rw [hA]; exact gj⟩
  rcases Nat.lt_or_ge (6 * (d + 1)) k.b with h | h
  · exact h
  · exfalso
    have hdv : 2 ^ (126 - 6 * d) ∣ k.m := Nat.dvd_trans (Nat.pow_dvd_pow 2 (by omega)) (Nat.dvd_of_mod_eq_zero alk.2)
    have hm : k.m = k.m / 2 ^ (126 - 6 * d) * 2 ^ (126 - 6 * d) := (Nat.div_mul_cancel hdv).symm
    have hle : k.m ≤ j.m := by rw [hm, hA]; exact Nat.div_mul_le_self _ _
    rcases h1 with h3 | ⟨h3, h4⟩
    · omega
    · have := hj.1; omega
end Go.Proofs.YtgfkmgbcajdcdaaGreatDoor

namespace Go.Proofs.YtgfkmgbcajdcdaaGreatDoor
set_option linter.unusedVariables false

structure PtN where
  d : Nat
  nx : Int
  rs : List RtN
structure NdN where
  fn : Nat
  nm : Nat
  fl : Nat
  lm : Nat
def slotP (p : PtN) (v : Nat) : PtN := ⟨p.d + 1, slotN p.d p.rs p.nx v, slotR p.d p.rs v⟩
/-- How many of a number's first k bits are set. -/
def cntN (m : Nat) : Nat → Nat
  | 0 => 0
  | k + 1 => cntN m k + (if m.testBit k = true then 1 else 0)
theorem cntN_succ (m k : Nat) : cntN m (k + 1) = cntN m k + (if m.testBit k = true then 1 else 0) := rfl
theorem cntN_congr {m n : Nat} : ∀ k, (∀ i, i < k → m.testBit i = n.testBit i) → cntN m k = cntN n k
  | 0, _ => rfl
  | k + 1, h => by unfold cntN; rw [cntN_congr k (fun i hi => h i (by omega)), h k (by omega)]
theorem or_bit (m v u : Nat) : (m ||| 2 ^ v).testBit u = (m.testBit u || decide (v = u)) := by
  rw [Nat.testBit_or, Nat.testBit_two_pow]
theorem cntN_or_le (m v k : Nat) (h : k ≤ v) : cntN (m ||| 2 ^ v) k = cntN m k :=
  cntN_congr k fun i hi => by rw [or_bit, decide_eq_false (by omega), Bool.or_false]
theorem cntN_or (m v : Nat) : cntN (m ||| 2 ^ v) (v + 1) = cntN m v + 1 := by
  rw [cntN_succ, cntN_or_le m v v (Nat.le_refl _), or_bit, decide_eq_true rfl, Bool.or_true, if_pos rfl]
theorem cntN_pos {m : Nat} : ∀ {k : Nat}, (∀ i, k ≤ i → m.testBit i = false) → m ≠ 0 → 0 < cntN m k
  | 0, h, hm => absurd (Nat.eq_of_testBit_eq fun i => by rw [h i (Nat.zero_le _), Nat.zero_testBit]) hm
  | k + 1, h, hm => by
    unfold cntN
    cases hk : m.testBit k with
    | true => rw [if_pos rfl]; omega
    | false =>
      have := cntN_pos (m := m) (k := k) (fun i hi => by
        rcases Nat.lt_or_ge k i with h1 | h1
        · exact h i h1
        · obtain rfl : i = k := by omega
          exact hk) hm
      omega
/-- What stands of a slot in a node. -/
def SlOk (P : List PtN) (LV : List Int) (fn nm fl lm : Nat) (p : PtN) (v : Nat) : Prop :=
  (slotR p.d p.rs v = [] ∧ nm.testBit v = false ∧ 0 < cntN lm (v + 1) ∧ LV[fl + cntN lm (v + 1) - 1]? = some (slotN p.d p.rs p.nx v)) ∨
  (slotR p.d p.rs v ≠ [] ∧ nm.testBit v = true ∧ P[fn + cntN nm v]? = some (slotP p v))
theorem pre_get {α : Type} {l m : List α} {i : Nat} {x : α} (h : l[i]? = some x) : (l ++ m)[i]? = some x := by
  rw [List.getElem?_append_left (List.getElem?_eq_some_iff.1 h).1]; exact h
theorem SlOk.app {P Q : List PtN} {LV MV : List Int} {fn nm fl lm : Nat} {p : PtN} {v : Nat} (h : SlOk P LV fn nm fl lm p v) : SlOk (P ++ Q) (LV ++ MV) fn nm fl lm p v := by
  rcases h with ⟨a, b, c, d⟩ | ⟨a, b, c⟩
  · exact .inl ⟨a, b, c, pre_get d⟩
  · exact .inr ⟨a, b, pre_get c⟩
/-- Storing a node: what stands behind its first v slots. -/
structure StN where
  nm : Nat
  lm : Nat
  P : List PtN
  LV : List Int
def stepN (p : PtN) (s : StN) (v : Nat) : StN :=
  if slotR p.d p.rs v ≠ [] then { s with nm := s.nm ||| 2 ^ v, P := s.P ++ [slotP p v] }
  else if s.lm = 0 ∨ s.LV[s.LV.length - 1]? ≠ some (slotN p.d p.rs p.nx v) then { s with lm := s.lm ||| 2 ^ v, LV := s.LV ++ [slotN p.d p.rs p.nx v] }
  else s
def storeN (p : PtN) (P : List PtN) (LV : List Int) : Nat → StN
  | 0 => ⟨0, 0, P, LV⟩
  | v + 1 => stepN p (storeN p P LV v) v
structure StOk (p : PtN) (fn fl v : Nat) (s : StN) : Prop where
  pl : s.P.length = fn + cntN s.nm v
  ll : s.LV.length = fl + cntN s.lm v
  nb : ∀ i, v ≤ i → s.nm.testBit i = false
  lb : ∀ i, v ≤ i → s.lm.testBit i = false
  sl : ∀ u, u < v → SlOk s.P s.LV fn s.nm fl s.lm p u
theorem SlOk.bits {P : List PtN} {LV : List Int} {fn nm nm' fl lm lm' : Nat} {p : PtN} {v : Nat} (h : SlOk P LV fn nm fl lm p v) (hn : ∀ i, i ≤ v → nm'.testBit i = nm.testBit i) (hl : ∀ i, i ≤ v → lm'.testBit i = lm.testBit i) : SlOk P LV fn nm' fl lm' p v := by
  have e1 : cntN lm' (v + 1) = cntN lm (v + 1) := cntN_congr _ fun i hi => hl i (by omega)
  have e2 : cntN nm' v = cntN nm v := cntN_congr _ fun i hi => hn i (by omega)
  unfold SlOk
  rw [e1, e2, hn v (Nat.le_refl _)]
  exact h
theorem StOk.step {p : PtN} {fn fl v : Nat} {s : StN} (h : StOk p fn fl v s) : StOk p fn fl (v + 1) (stepN p s v) := by
  have nf := h.nb v (Nat.le_refl _)
  have lf := h.lb v (Nat.le_refl _)
  have en : cntN s.nm (v + 1) = cntN s.nm v := by rw [cntN_succ, nf]; simp
  have el : cntN s.lm (v + 1) = cntN s.lm v := by rw [cntN_succ, lf]; simp
  have hor : ∀ (m i : Nat), i < v → (m ||| 2 ^ v).testBit i = m.testBit i := fun m i hi => by rw [or_bit, decide_eq_false (by omega), Bool.or_false]
  unfold stepN
  split
  · rename_i h1
    refine ⟨?_, ?_, fun i hi => ?_, fun i hi => h.lb i (by omega), fun u hu => ?_⟩
    · simp only [List.length_append, List.length_cons, List.length_nil]
      rw [cntN_or, h.pl]; omega
    · show s.LV.length = _
      rw [el, h.ll]
    · rw [or_bit, h.nb i (by omega), decide_eq_false (by omega)]; rfl
    · rcases Nat.lt_or_ge u v with h2 | h2
      · have := (h.sl u h2).app (Q := [slotP p v]) (MV := [])
        rw [List.append_nil] at this
        exact this.bits (fun i hi => hor _ i (by omega)) (fun i hi => rfl)
      · obtain rfl : u = v := by omega
        refine .inr ⟨h1, by rw [or_bit, decide_eq_true rfl, Bool.or_true], ?_⟩
        show (s.P ++ [slotP p u])[fn + cntN (s.nm ||| 2 ^ u) u]? = _
        rw [cntN_or_le _ _ _ (Nat.le_refl _), ← h.pl, List.getElem?_append_right (Nat.le_refl _), Nat.sub_self]; rfl
  · rename_i h1
    have h1' : slotR p.d p.rs v = [] := Classical.byContradiction h1
    split
    · rename_i h2
      refine ⟨?_, ?_, fun i hi => h.nb i (by omega), fun i hi => ?_, fun u hu => ?_⟩
      · show s.P.length = _
        rw [en, h.pl]
      · simp only [List.length_append, List.length_cons, List.length_nil]
        rw [cntN_or, h.ll]; omega
      · rw [or_bit, h.lb i (by omega), decide_eq_false (by omega)]; rfl
      · rcases Nat.lt_or_ge u v with h3 | h3
        · have := (h.sl u h3).app (Q := []) (MV := [slotN p.d p.rs p.nx v])
          rw [List.append_nil] at this
          exact this.bits (fun i hi => rfl) (fun i hi => hor _ i (by omega))
        · obtain rfl : u = v := by omega
          refine .inl ⟨h1', nf, ?_, ?_⟩
          · show 0 < cntN (s.lm ||| 2 ^ u) (u + 1)
            rw [cntN_or]; omega
          · show (s.LV ++ [slotN p.d p.rs p.nx u])[fl + cntN (s.lm ||| 2 ^ u) (u + 1) - 1]? = _
            rw [cntN_or, show fl + (cntN s.lm u + 1) - 1 = s.LV.length by rw [h.ll]; omega, List.getElem?_append_right (Nat.le_refl _), Nat.sub_self]; rfl
    · rename_i h2
      have h3 : s.lm ≠ 0 := fun e => h2 (.inl e)
      have h4 : s.LV[s.LV.length - 1]? = some (slotN p.d p.rs p.nx v) := Classical.byContradiction fun e => h2 (.inr e)
      have h5 := cntN_pos h.lb h3
      refine ⟨by rw [en]; exact h.pl, by rw [el]; exact h.ll, fun i hi => h.nb i (by omega), fun i hi => h.lb i (by omega), fun u hu => ?_⟩
      rcases Nat.lt_or_ge u v with h6 | h6
      · exact h.sl u h6
      · obtain rfl : u = v := by omega
        refine .inl ⟨h1', nf, by rw [el]; exact h5, ?_⟩
        rw [el, ← h.ll]; exact h4
theorem storeN_ok (p : PtN) (P : List PtN) (LV : List Int) : ∀ v, StOk p P.length LV.length v (storeN p P LV v)
  | 0 => ⟨rfl, rfl, fun i _ => Nat.zero_testBit i, fun i _ => Nat.zero_testBit i, fun u hu => absurd hu (Nat.not_lt_zero _)⟩
  | v + 1 => (storeN_ok p P LV v).step
/-- Storing only lays things behind. -/
theorem storeN_pre (p : PtN) (P : List PtN) (LV : List Int) : ∀ v, (∃ Q, (storeN p P LV v).P = P ++ Q) ∧ ∃ MV, (storeN p P LV v).LV = LV ++ MV
  | 0 => ⟨⟨[], (List.append_nil _).symm⟩, ⟨[], (List.append_nil _).symm⟩⟩
  | v + 1 => by
    obtain ⟨⟨Q, hQ⟩, ⟨MV, hM⟩⟩ := storeN_pre p P LV v
    show (∃ Q, (stepN p (storeN p P LV v) v).P = P ++ Q) ∧ ∃ MV, (stepN p (storeN p P LV v) v).LV = LV ++ MV
    unfold stepN
    split
    · exact ⟨⟨Q ++ [slotP p v], by simp only; rw [hQ, List.append_assoc]⟩, ⟨MV, hM⟩⟩
    · split
      · exact ⟨⟨Q, hQ⟩, ⟨MV ++ [slotN p.d p.rs p.nx v], by simp only; rw [hM, List.append_assoc]⟩⟩
      · exact ⟨⟨Q, hQ⟩, ⟨MV, hM⟩⟩
/-- A part that may be: its place, its routes. -/
def PtOk (p : PtN) : Prop := p.d ≤ 21 ∧ ∃ c, PosN p.d c p.rs
theorem PtOk.slot {p : PtN} (h : PtOk p) {v : Nat} (hv : slotR p.d p.rs v ≠ []) : PtOk (slotP p v) := by
  obtain ⟨h1, c, h2⟩ := h
  have h3 : p.d ≠ 21 := fun e => hv (by have h4 := h2; rw [e] at h4 ⊢; exact slotR_last h4 v)
  exact ⟨show p.d + 1 ≤ 21 by omega, 64 * c + v, h2.slot h1 v⟩
/-- What is built so far: nodes, parts, leaves. -/
structure BlN (root : PtN) (N : List NdN) (P : List PtN) (LV : List Int) : Prop where
  le : N.length ≤ P.length
  rt : P[0]? = some root
  ok : ∀ p ∈ P, PtOk p
  nd : ∀ (i : Nat) (n : NdN) (p : PtN), N[i]? = some n → P[i]? = some p → ∀ v, v < 64 → SlOk P LV n.fn n.nm n.fl n.lm p v
theorem storeN_mem {p : PtN} {P : List PtN} {LV : List Int} (hp : PtOk p) (h : ∀ q ∈ P, PtOk q) : ∀ v, ∀ q ∈ (storeN p P LV v).P, PtOk q
  | 0 => h
  | v + 1 => by
    have ih := storeN_mem (LV := LV) hp h v
    show ∀ q ∈ (stepN p (storeN p P LV v) v).P, PtOk q
    unfold stepN
    split
    · rename_i h1
      intro q hq
      rcases List.mem_append.1 hq with h2 | h2
      · exact ih q h2
      · have : q = slotP p v := by simpa using h2
        rw [this]; exact hp.slot h1
    · split
      · exact ih
      · exact ih
theorem BlN.store {root : PtN} {N : List NdN} {P : List PtN} {LV : List Int} (h : BlN root N P LV) {p : PtN} (hp : P[N.length]? = some p) :
    BlN root (N ++ [⟨P.length, (storeN p P LV 64).nm, LV.length, (storeN p P LV 64).lm⟩]) (storeN p P LV 64).P (storeN p P LV 64).LV := by
  have hs := storeN_ok p P LV 64
  obtain ⟨⟨Q, hQ⟩, ⟨MV, hM⟩⟩ := storeN_pre p P LV 64
  have hm := storeN_mem (LV := LV) (h.ok p (List.mem_of_getElem? hp)) h.ok 64
  generalize storeN p P LV 64 = s at hs hQ hM hm ⊢
  have hlt := (List.getElem?_eq_some_iff.1 hp).1
  refine ⟨?_, by rw [hQ]; exact pre_get h.rt, hm, fun i n q hn hq v hv => ?_⟩
  · rw [List.length_append, hQ, List.length_append]; simp only [List.length_cons, List.length_nil]; omega
  · rcases Nat.lt_or_ge i N.length with h1 | h1
    · rw [List.getElem?_append_left h1] at hn
      have hq' : P[i]? = some q := by rw [hQ, List.getElem?_append_left (by omega)] at hq; exact hq
      rw [hQ, hM]
      exact (h.nd i n q hn hq' v hv).app
    · have h2 := (List.getElem?_eq_some_iff.1 hn).1
      rw [List.length_append] at h2
      simp only [List.length_cons, List.length_nil] at h2
      obtain rfl : i = N.length := by omega
      rw [List.getElem?_append_right (Nat.le_refl _), Nat.sub_self] at hn
      have e : n = ⟨P.length, s.nm, LV.length, s.lm⟩ := by simpa using hn.symm
      rw [hQ, pre_get hp] at hq
      injection hq with hq
      rw [e, ← hq]
      exact hs.sl v hv
/-! a walk -/
structure WkN (N : List NdN) (P : List PtN) (a : Nat) (t : Int) (i d : Nat) (n : NdN) : Prop where
  le : d ≤ 21
  nd : N[i]? = some n
  pt : ∃ p c, P[i]? = some p ∧ p.d = d ∧ PosN d c p.rs ∧ a / 2 ^ (132 - 6 * d) = c ∧ valN p.rs p.nx a = t
theorem WkN.leaf {root : PtN} {N : List NdN} {P : List PtN} {LV : List Int} (h : BlN root N P LV) {a : Nat} {t : Int} {i d : Nat} {n : NdN} (k : WkN N P a t i d n) (hb : n.nm.testBit (grpN a d) = false) : 0 < cntN n.lm (grpN a d + 1) ∧ LV[n.fl + cntN n.lm (grpN a d + 1) - 1]? = some t := by
  obtain ⟨p, c, hp, hd, hP, ha, hv⟩ := k.pt
  rcases h.nd i n p k.nd hp _ (grpN_lt a d) with ⟨h1, -, h3, h4⟩ | ⟨-, h2, -⟩
  · refine ⟨h3, ?_⟩
    rw [h4, hd, ← hv, ← valN_slot k.le ha hP p.nx]
    rw [hd] at h1
    rw [h1]; rfl
  · rw [hb] at h2; cases h2
theorem WkN.node {root : PtN} {N : List NdN} {P : List PtN} {LV : List Int} (h : BlN root N P LV) (hl : N.length = P.length) {a : Nat} {t : Int} {i d : Nat} {n : NdN} (k : WkN N P a t i d n) (hb : n.nm.testBit (grpN a d) = true) : ∃ n', WkN N P a t (n.fn + cntN n.nm (grpN a d)) (d + 1) n' := by
  obtain ⟨p, c, hp, hd, hP, ha, hv⟩ := k.pt
  rcases h.nd i n p k.nd hp _ (grpN_lt a d) with ⟨-, h2, -⟩ | ⟨h1, -, h3⟩
  · rw [hb] at h2; cases h2
  · have h4 := (List.getElem?_eq_some_iff.1 h3).1
    have hle := k.le
    subst hd
    have h5 : p.d ≠ 21 := fun e => h1 (by have h6 := hP; rw [e] at h6 ⊢; exact slotR_last h6 _)
    refine ⟨_, by omega, List.getElem?_eq_getElem (by omega), slotP p (grpN a p.d), _, h3, rfl, hP.slot k.le _, ?_, ?_⟩
    · exact pos_step k.le ha
    · show valN (slotR p.d p.rs (grpN a p.d)) (slotN p.d p.rs p.nx (grpN a p.d)) a = t
      rw [valN_slot k.le ha hP]; exact hv
theorem WkN.start {root : PtN} {N : List NdN} {P : List PtN} {LV : List Int} (h : BlN root N P LV) (hl : N.length = P.length) (h0 : root.d = 0) {a : Nat} (ha : a < 2 ^ 132) (hm : ∀ r ∈ root.rs, r.m < 2 ^ 132) : ∃ n, WkN N P a (valN root.rs root.nx a) 0 0 n := by
  have h1 := (List.getElem?_eq_some_iff.1 h.rt).1
  obtain ⟨-, c, hP⟩ := h.ok root (List.mem_of_getElem? h.rt)
  rw [h0] at hP
  refine ⟨_, Nat.zero_le _, List.getElem?_eq_getElem (by omega), root, 0, h.rt, h0, ⟨hP.srt, hP.al, hP.ge, fun r hr => ?_⟩, Nat.div_eq_of_lt ha, rfl⟩
  exact Nat.div_eq_of_lt (hm r hr)
end Go.Proofs.YtgfkmgbcajdcdaaGreatDoor

namespace Go.Proofs.YtgfkmgbcajdcdaaGreatDoor
set_option linter.unusedVariables false

def remN (d : Nat) (rs : List RtN) (v : Nat) : Nat := (rs.filter fun r => decide (6 * (d + 1) < r.b) && decide (v ≤ grpN r.m d)).length
theorem remN_step (d : Nat) (v : Nat) : ∀ rs : List RtN, remN d rs v = (slotR d rs v).length + remN d rs (v + 1)
  | [] => rfl
  | r :: t => by
    have ih := remN_step d v t
    unfold remN slotR at ih ⊢
    rw [List.filter_cons, List.filter_cons, List.filter_cons]
    unfold deepN at ih ⊢
    by_cases hb : 6 * (d + 1) < r.b
    · rw [decide_eq_true hb, Bool.true_and, Bool.true_and, Bool.true_and]
      rcases Nat.lt_trichotomy v (grpN r.m d) with h | h | h
      · rw [decide_eq_true (show v ≤ grpN r.m d by omega), decide_eq_false (show ¬ grpN r.m d = v by omega), decide_eq_true (show v + 1 ≤ grpN r.m d by omega), if_pos rfl, if_neg (by decide), if_pos rfl, List.length_cons, List.length_cons]
        omega
      · rw [decide_eq_true (show v ≤ grpN r.m d by omega), decide_eq_true (show grpN r.m d = v by omega), decide_eq_false (show ¬ v + 1 ≤ grpN r.m d by omega), if_pos rfl, if_pos rfl, if_neg (by decide), List.length_cons, List.length_cons]
        omega
      · rw [decide_eq_false (show ¬ v ≤ grpN r.m d by omega), decide_eq_false (show ¬ grpN r.m d = v by omega), decide_eq_false (show ¬ v + 1 ≤ grpN r.m d by omega), if_neg (by decide), if_neg (by decide), if_neg (by decide)]
        exact ih
    · rw [decide_eq_false hb, Bool.false_and, Bool.false_and, Bool.false_and, if_neg (by decide), if_neg (by decide), if_neg (by decide)]
      exact ih
theorem remN_le (d : Nat) (rs : List RtN) (v : Nat) : remN d rs v ≤ rs.length := List.length_filter_le _ _
/-- What the parts that wait may still make. -/
def potN (l : List PtN) : Nat := (l.map fun p => p.rs.length * (21 - p.d)).sum
theorem potN_app (l m : List PtN) : potN (l ++ m) = potN l + potN m := by unfold potN; rw [List.map_append, List.sum_append]
theorem potN_cons (p : PtN) (l : List PtN) : potN (p :: l) = p.rs.length * (21 - p.d) + potN l := rfl
theorem storeN_pot {p : PtN} (hp : PtOk p) (P : List PtN) (LV : List Int) : ∀ v, ∃ Q, (storeN p P LV v).P = P ++ Q ∧ Q.length + potN Q + remN p.d p.rs v * (21 - p.d) ≤ remN p.d p.rs 0 * (21 - p.d)
  | 0 => ⟨[], (List.append_nil _).symm, by show 0 + 0 + _ ≤ _; omega⟩
  | v + 1 => by
    obtain ⟨Q, hQ, hb⟩ := storeN_pot hp P LV v
    have hr := remN_step p.d v p.rs
    show ∃ Q, (stepN p (storeN p P LV v) v).P = P ++ Q ∧ _
    unfold stepN
    split
    · rename_i h1
      have hd := (hp.slot h1).1
      have hd' : p.d + 1 ≤ 21 := hd
      have hm : 0 < (slotR p.d p.rs v).length := List.length_pos_iff.2 h1
      refine ⟨Q ++ [slotP p v], by simp only; rw [hQ, List.append_assoc], ?_⟩
      rw [potN_app, potN_cons, List.length_append]
      show Q.length + 1 + (potN Q + ((slotR p.d p.rs v).length * (21 - (p.d + 1)) + 0)) + remN p.d p.rs (v + 1) * (21 - p.d) ≤ _
      rw [hr, Nat.add_mul] at hb
      obtain ⟨k, hk⟩ : ∃ k, 21 - p.d = k + 1 := ⟨20 - p.d, by omega⟩
      rw [show 21 - (p.d + 1) = k by omega]
      rw [hk] at hb ⊢
      rw [Nat.mul_succ (slotR p.d p.rs v).length k] at hb
      omega
    · have h2 : remN p.d p.rs (v + 1) * (21 - p.d) ≤ remN p.d p.rs v * (21 - p.d) := Nat.mul_le_mul_right _ (by omega)
      split
      · exact ⟨Q, hQ, by omega⟩
      · exact ⟨Q, hQ, by omega⟩
/-- How many parts there are at the most. -/
def BdN (n : Nat) (N : List NdN) (P : List PtN) : Prop := P.length + potN (P.drop N.length) ≤ 1 + 21 * n
theorem BdN.start {root : PtN} (h0 : root.d = 0) : BdN root.rs.length [] [root] := by
  show 1 + (root.rs.length * (21 - root.d) + 0) ≤ _
  rw [h0]; omega
theorem BdN.store {n : Nat} {root : PtN} {N : List NdN} {P : List PtN} {LV : List Int} (hb : BdN n N P) (h : BlN root N P LV) {p : PtN} (hp : P[N.length]? = some p) (x : NdN) : BdN n (N ++ [x]) (storeN p P LV 64).P := by
  obtain ⟨Q, hQ, hq⟩ := storeN_pot (h.ok p (List.mem_of_getElem? hp)) P LV 64
  have hlt := (List.getElem?_eq_some_iff.1 hp).1
  have hget := (List.getElem?_eq_some_iff.1 hp).2
  unfold BdN at hb ⊢
  rw [hQ, List.length_append, List.length_append, List.drop_append_of_le_length (by simp only [List.length_cons, List.length_nil]; omega), potN_app]
  rw [List.drop_eq_getElem_cons hlt, potN_cons, hget] at hb
  have h1 : remN p.d p.rs 0 * (21 - p.d) ≤ p.rs.length * (21 - p.d) := Nat.mul_le_mul_right _ (remN_le _ _ _)
  simp only [List.length_cons, List.length_nil]
  rw [Nat.zero_add]
  omega
theorem BdN.le {n : Nat} {N : List NdN} {P : List PtN} (h : BdN n N P) : P.length ≤ 1 + 21 * n := by unfold BdN at h; omega
end Go.Proofs.YtgfkmgbcajdcdaaGreatDoor

namespace Go.Proofs.YtgfkmgbcajdcdaaGreatDoor
open Ifs
set_option linter.unusedVariables false

def numA (a : AdR) : Nat := nm a.2.1 a.2.2 * 2 ^ (132 - wd a.1)
def rtN (r : RtI) : RtN := ⟨numA r.1.1, r.1.2.toNat, r.2⟩
def okAd (a : AdR) : Prop := vld a.1 (a.2.1 : Int) (a.2.2 : Int) = true ∧ N64 a.2.1 ∧ N64 a.2.2
theorem PvOk.ad {p : PfI} (h : PvOk p) : okAd p.1 := h.2
theorem PvOk.bits {p : PfI} (h : PvOk p) : 0 ≤ p.2 ∧ p.2 ≤ (wd p.1.1 : Int) := okn_iff.1 ((pvl_iff h.2.2.2).1 h.1).2.1
theorem PvOk.ct {p : PfI} (h : PvOk p) : ct (nm p.1.2.1 p.1.2.2) (kk p.1.1 p.2) = nm p.1.2.1 p.1.2.2 := ((pvl_iff h.2.2.2).1 h.1).2.2
theorem wd_le (s : Bool) : wd s ≤ 128 ∧ 32 ≤ wd s := by cases s <;> decide
theorem nm_lt {a : AdR} (h : okAd a) : nm a.2.1 a.2.2 < 2 ^ wd a.1 := by
  obtain ⟨s, hi, lo⟩ := a
  obtain ⟨h1, h2, h3⟩ := h
  unfold N64 at h2 h3
  cases s with
  | true => show nm hi lo < 2 ^ 128; unfold nm; simp only at h2 h3; omega
  | false =>
    obtain ⟨h4, h5⟩ := vld_four h1
    simp only at h4 h5
    show nm hi lo < 2 ^ 32
    unfold nm; omega
theorem numA_lt {a : AdR} (h : okAd a) : numA a < 2 ^ 132 := by
  have h1 := nm_lt h
  have h2 := wd_le a.1
  unfold numA
  have e : (2 : Nat) ^ 132 = 2 ^ wd a.1 * 2 ^ (132 - wd a.1) := by rw [← Nat.pow_add]; congr 1; omega
  rw [e]
  exact Nat.mul_lt_mul_of_pos_right h1 (pw _)
theorem bits_kk {p : PfI} (h : PvOk p) : 132 - p.2.toNat = (132 - wd p.1.1) + kk p.1.1 p.2 := by
  have h1 := h.bits
  have h2 := wd_le p.1.1
  unfold kk
  omega
theorem numA_div (n e k : Nat) : n * 2 ^ e / 2 ^ (e + k) = n / 2 ^ k := by rw [div_pow, Nat.mul_div_cancel _ (pw e)]
theorem rtN_al {r : RtI} (h : PvOk r.1) : alN (rtN r) := by
  have h1 := h.bits
  have h2 := wd_le r.1.1.1
  refine ⟨by show r.1.2.toNat ≤ 132; omega, ?_⟩
  show numA r.1.1 % 2 ^ (132 - r.1.2.toNat) = 0
  rw [bits_kk h]
  unfold numA
  rw [← h.ct]
  unfold Go.Proofs.YtgfkmgbcajdcdaaGreatDoor.ct
  rw [Nat.mul_assoc, ← Nat.pow_add, Nat.add_comm]
  exact Nat.mul_mod_left _ _
theorem hld_N {r : RtI} (h : PvOk r.1) {a : AdR} (ha : okAd a) : hldP r.1 a = true ↔ a.1 = r.1.1.1 ∧ hldN (rtN r) (numA a) = true := by
  unfold hldP
  rw [hld_iff h.2.2.2 ha.2.2]
  unfold hldN
  rw [decide_eq_true_eq]
  have hb := bits_kk h
  constructor
  · rintro ⟨-, -, e, h1⟩
    refine ⟨e, ?_⟩
    show numA a / 2 ^ (132 - r.1.2.toNat) = numA r.1.1 / 2 ^ (132 - r.1.2.toNat)
    rw [e] at h1
    rw [hb]
    unfold numA
    rw [e, numA_div, numA_div, ← ct_eq, h1, h.ct]
  · rintro ⟨e, h1⟩
    have h1 : numA a / 2 ^ (132 - r.1.2.toNat) = numA r.1.1 / 2 ^ (132 - r.1.2.toNat) := h1
    rw [hb] at h1
    unfold numA at h1
    rw [e, numA_div, numA_div, ← ct_eq, h.ct] at h1
    exact ⟨ha.1, by rw [e]; exact okn_iff.2 h.bits, e, by rw [e]; exact h1⟩
theorem lt_N {r s : RtI} (h : PvOk r.1) (k : PvOk s.1) (e : r.1.1.1 = s.1.1.1) (hl : ltP r.1 s.1) : ltN (rtN r) (rtN s) := by
  have hb := h.bits
  have kb := k.bits
  obtain ⟨⟨⟨rs, rh, rl⟩, rb⟩, rn⟩ := r
  obtain ⟨⟨⟨ss, sh, sl⟩, sb⟩, sn⟩ := s
  simp only at e hb kb
  subst e
  have n1 := h.2.2.2
  have n2 := k.2.2.2
  unfold N64 at n1 n2
  simp only at n1 n2
  have hp := pw (132 - wd rs)
  unfold ltP keyP lexP at hl
  show nm rh rl * 2 ^ (132 - wd rs) < nm sh sl * 2 ^ (132 - wd rs) ∨ (nm rh rl * 2 ^ (132 - wd rs) = nm sh sl * 2 ^ (132 - wd rs) ∧ rb.toNat < sb.toNat)
  have key : nm rh rl < nm sh sl ∨ (nm rh rl = nm sh sl ∧ rb.toNat < sb.toNat) := by
    unfold nm
    rcases hl with h1 | ⟨-, h1⟩
    · exact absurd h1 (Int.lt_irrefl _)
    · rcases h1 with h1 | ⟨h1, h2⟩
      · simp only at h1; left; omega
      · rcases h2 with h2 | ⟨h2, h3⟩
        · simp only at h1 h2; left; omega
        · rcases h3 with h3 | ⟨-, h3⟩
          · simp only at h1 h2 h3; right; omega
          · exact absurd h3 id
  rcases key with h1 | ⟨h1, h2⟩
  · exact .inl (Nat.mul_lt_mul_of_pos_right h1 hp)
  · exact .inr ⟨by rw [h1], h2⟩
/-- The last that holds decides. -/
theorem valN_cases (a : Nat) : ∀ (rs : List RtN) (nx : Int), (valN rs nx a = nx ∧ ∀ r ∈ rs, ¬ hldN r a = true) ∨ ∃ t r u, rs = t ++ r :: u ∧ hldN r a = true ∧ valN rs nx a = r.nx ∧ ∀ s ∈ u, ¬ hldN s a = true
  | [], nx => .inl ⟨rfl, fun r hr => by cases hr⟩
  | r :: t, nx => by
    have e : valN (r :: t) nx a = valN t (if hldN r a = true then r.nx else nx) a := rfl
    rw [e]
    rcases valN_cases a t (if hldN r a = true then r.nx else nx) with ⟨h1, h2⟩ | ⟨t', r', u, h1, h2, h3, h4⟩
    · by_cases hh : hldN r a = true
      · rw [if_pos hh] at h1 ⊢
        exact .inr ⟨[], r, t, rfl, hh, h1, h2⟩
      · rw [if_neg hh] at h1 ⊢
        refine .inl ⟨h1, fun s hs => ?_⟩
        rcases List.mem_cons.1 hs with h3 | h3
        · rw [h3]; exact hh
        · exact h2 s h3
    · exact .inr ⟨r :: t', r', u, by rw [h1]; rfl, h2, h3, h4⟩
end Go.Proofs.YtgfkmgbcajdcdaaGreatDoor

namespace Go.Proofs.YtgfkmgbcajdcdaaGreatDoor
open Ifs
set_option linter.unusedVariables false

/-- In a row in which between two that are chosen all are, the chosen ones up to a chosen one end there, side by side. -/
theorem filt_piece {α : Type} (p : α → Bool) : ∀ (rs : List α) (i : Nat) (r : α), rs[i]? = some r → p r = true → (∀ (j k : Nat) (a b : α), j < k → k < i → rs[j]? = some a → rs[k]? = some b → p a = true → p b = true) →
    ((rs.take i).filter p).length ≤ i ∧ (rs.take (i + 1)).filter p = (rs.drop (i - ((rs.take i).filter p).length)).take (((rs.take i).filter p).length + 1)
  | [], i, r, h, _, _ => by simp at h
  | x :: rs, 0, r, h, hp, _ => by
    simp at h; subst h
    simp [hp]
  | x :: rs, i + 1, r, h, hp, hm => by
    have h' : rs[i]? = some r := by simpa using h
    have ih := filt_piece p rs i r h' hp (fun j k a b hjk hk ha hb hpa => hm (j + 1) (k + 1) a b (by omega) (by omega) (by simpa using ha) (by simpa using hb) hpa)
    have hl := (List.getElem?_eq_some_iff.1 h').1
    rw [List.take_succ_cons, List.take_succ_cons]
    by_cases hx : p x = true
    · have hall : (rs.take i).filter p = rs.take i := List.filter_eq_self.2 fun b hb => by
        obtain ⟨k, hk⟩ := List.mem_iff_getElem?.1 hb
        rw [List.getElem?_take] at hk
        split at hk
        · exact hm 0 (k + 1) x b (by omega) (by omega) rfl (by simpa using hk) hx
        · cases hk
      have hlen : (rs.take i).length = i := by rw [List.length_take]; omega
      rw [List.filter_cons_of_pos hx, List.filter_cons_of_pos hx, hall, List.length_cons, hlen]
      refine ⟨Nat.le_refl _, ?_⟩
      rw [Nat.sub_self, List.drop_zero, List.take_succ_cons]
      congr 1
      have e : rs.take (i + 1) = rs.take i ++ [r] := by
        obtain ⟨h1, h2⟩ := List.getElem?_eq_some_iff.1 h'
        rw [List.take_succ_eq_append_getElem h1, h2]
      rw [e, List.filter_append, hall]
      simp [hp]
    · rw [List.filter_cons_of_neg hx, List.filter_cons_of_neg hx]
      refine ⟨by omega, ?_⟩
      rw [show i + 1 - ((rs.take i).filter p).length = (i - ((rs.take i).filter p).length) + 1 by omega, List.drop_succ_cons]
      exact ih.2
def slotI (d : Nat) (rs : List RtI) (v : Nat) : List RtI := rs.filter fun r => deepN d v (rtN r)
theorem slotI_map (d : Nat) (rs : List RtI) (v : Nat) : (slotI d rs v).map rtN = slotR d (rs.map rtN) v := by
  unfold slotI slotR
  rw [List.filter_map]; rfl
/-- The routes of a slot up to one of them. -/
theorem slot_piece {d c v i : Nat} (hd : d ≤ 21) {rs : List RtI} (hP : PosN d c (rs.map rtN)) {r : RtI} (hr : rs[i]? = some r) (hp : deepN d v (rtN r) = true) :
    (slotI d (rs.take i) v).length ≤ i ∧ slotI d (rs.take (i + 1)) v = (rs.drop (i - (slotI d (rs.take i) v).length)).take ((slotI d (rs.take i) v).length + 1) := by
  have hs := List.pairwise_iff_getElem.1 hP.srt
  have hmem : ∀ {j : Nat} {a : RtI}, rs[j]? = some a → rtN a ∈ rs.map rtN := fun h => List.mem_map.2 ⟨_, List.mem_of_getElem? h, rfl⟩
  refine filt_piece _ rs i r hr hp fun j k a b hjk hk ha hb hpa => ?_
  obtain ⟨lj, ej⟩ := List.getElem?_eq_some_iff.1 ha
  obtain ⟨lk, ek⟩ := List.getElem?_eq_some_iff.1 hb
  obtain ⟨li, ei⟩ := List.getElem?_eq_some_iff.1 hr
  have h1 := hs j k (by simpa using lj) (by simpa using lk) hjk
  have h2 := hs k i (by simpa using lk) (by simpa using li) hk
  simp only [List.getElem_map, ej, ek, ei] at h1 h2
  exact deep_mid hd hpa hp h1 h2 (hP.at_ _ (hmem ha)) (hP.at_ _ (hmem hr)) (hP.al _ (hmem hb))
theorem slot_other {d v i : Nat} {rs : List RtI} {r : RtI} (hr : rs[i]? = some r) (hp : deepN d v (rtN r) = false) : slotI d (rs.take (i + 1)) v = slotI d (rs.take i) v := by
  obtain ⟨h1, h2⟩ := List.getElem?_eq_some_iff.1 hr
  unfold slotI
  rw [List.take_succ_eq_append_getElem h1, List.filter_append, h2]
  simp [hp]
theorem slotN_step {d v i : Nat} {nx : Int} {rs : List RtI} {r : RtI} (hr : rs[i]? = some r) : slotN d ((rs.take (i + 1)).map rtN) nx v = if covN d (rtN r) v = true then r.2 else slotN d ((rs.take i).map rtN) nx v := by
  obtain ⟨h1, h2⟩ := List.getElem?_eq_some_iff.1 hr
  rw [List.take_succ_eq_append_getElem h1, List.map_append, h2]
  exact slotN_app _ _ _ _ _
/-- A route that ends within the group of a slot covers as many slots as there are, from its own on. -/
theorem cov_fits {d : Nat} {r : RtN} (hd : d ≤ 21) (ha : alN r) (hb : r.b ≤ 6 * (d + 1)) (hg : 6 * d ≤ r.b) : grpN r.m d + 2 ^ (6 * (d + 1) - r.b) ≤ 64 := by
  have hlt := grpN_lt r.m d
  obtain ⟨s, hs⟩ : ∃ s, 6 * (d + 1) - r.b = s := ⟨_, rfl⟩
  have hs6 : s ≤ 6 := by omega
  rw [hs]
  -- the group is a multiple of 2 ^ s
  have hm : grpN r.m d % 2 ^ s = 0 := by
    unfold grpN
    have e1 : 132 - r.b = (126 - 6 * d) + s := by omega
    have h0 := ha.2
    rw [e1, Nat.pow_add] at h0
    have h1 : r.m / 2 ^ (126 - 6 * d) % 2 ^ s = 0 := by
      have h3 := Nat.mod_mul_right_div_self r.m (2 ^ (126 - 6 * d)) (2 ^ s)
      rw [h0, Nat.zero_div] at h3
      exact h3.symm
    have e2 : (64 : Nat) = 2 ^ s * 2 ^ (6 - s) := by rw [← Nat.pow_add, show s + (6 - s) = 6 by omega]
    rw [e2, Nat.mod_mul_right_mod]
    exact h1
  have hcases : s = 0 ∨ s = 1 ∨ s = 2 ∨ s = 3 ∨ s = 4 ∨ s = 5 ∨ s = 6 := by omega
  rcases hcases with rfl | rfl | rfl | rfl | rfl | rfl | rfl <;> simp at hm ⊢ <;> omega
end Go.Proofs.YtgfkmgbcajdcdaaGreatDoor

namespace Go.Proofs.YtgfkmgbcajdcdaaGreatDoor
open Ifs
set_option linter.unusedVariables false

theorem numI_fst (l : List EnI) : (numI l).1.map (·.1) = l.map (·.1) := by
  apply List.ext_getElem?
  intro i
  rw [List.getElem?_map, List.getElem?_map]
  cases h : l[i]? with
  | none =>
    have h1 := List.getElem?_eq_none_iff.1 h
    rw [List.getElem?_eq_none (by rw [(numI_len l).1]; exact h1)]; rfl
  | some e =>
    obtain ⟨n, hn, -⟩ := numI_at h
    rw [hn]; rfl
/-- Routes of a family, as numbers. -/
def famN (rs : List RtI) (six : Bool) : List RtN := (rs.filter fun r => decide (r.1.1.1 = six)).map rtN
/-- Routes in their order, with valid prefixes. -/
structure SrtR (rs : List RtI) : Prop where
  srt : rs.Pairwise fun r s => ltP r.1 s.1
  ok : ∀ r ∈ rs, PvOk r.1
theorem SrtR.num {l : List EnI} (h : SrtE l) : SrtR (numI l).1 := by
  have e := numI_fst l
  refine ⟨?_, fun r hr => ?_⟩
  · have h1 : (l.map (·.1)).Pairwise ltP := List.pairwise_map.2 h.srt
    rw [← e] at h1
    exact List.pairwise_map.1 h1
  · have h1 : r.1 ∈ (numI l).1.map (·.1) := List.mem_map.2 ⟨r, hr, rfl⟩
    rw [e] at h1
    obtain ⟨x, hx, hx2⟩ := List.mem_map.1 h1
    rw [← hx2]; exact h.ok x hx
theorem SrtR.pos {rs : List RtI} (h : SrtR rs) (six : Bool) : PosN 0 0 (famN rs six) := by
  unfold famN
  refine ⟨?_, ?_, fun _ _ => Nat.zero_le _, ?_⟩
  · rw [List.pairwise_map]
    refine List.Pairwise.imp_of_mem (fun {r s} hr hs hl => ?_) (h.srt.sublist List.filter_sublist)
    obtain ⟨h1, h2⟩ := List.mem_filter.1 hr
    obtain ⟨h3, h4⟩ := List.mem_filter.1 hs
    exact lt_N (h.ok r h1) (h.ok s h3) ((of_decide_eq_true h2).trans (of_decide_eq_true h4).symm) hl
  · intro r hr
    obtain ⟨x, hx, rfl⟩ := List.mem_map.1 hr
    exact rtN_al (h.ok x (List.mem_filter.1 hx).1)
  · intro r hr
    obtain ⟨x, hx, rfl⟩ := List.mem_map.1 hr
    exact Nat.div_eq_of_lt (numA_lt (h.ok x (List.mem_filter.1 hx).1).ad)
/-- What Find finds among numbered entries is what Look looks up. -/
theorem find_look {l : List EnI} (hs : SrtE l) {a : AdR} (ha : okAd a) :
    (lookI l a = none ∧ valN (famN (numI l).1 a.1) 0 (numA a) = 0) ∨ ∃ (n : Nat) (h : HpI), lookI l a = some h ∧ valN (famN (numI l).1 a.1) 0 (numA a) = ((n + 1 : Nat) : Int) ∧ (numI l).2[n]? = some h := by
  have hR := SrtR.num hs
  have hP := hR.pos a.1
  have hin : ∀ (j : Nat) (f : EnI), l[j]? = some f → hldP f.1 a = true → ∃ n : Nat, (numI l).1[j]? = some (f.1, ((n + 1 : Nat) : Int)) ∧ (numI l).2[n]? = some f.2 ∧ rtN (f.1, ((n + 1 : Nat) : Int)) ∈ famN (numI l).1 a.1 ∧ hldN (rtN (f.1, ((n + 1 : Nat) : Int))) (numA a) = true := by
    intro j f hj hf
    obtain ⟨n, h1, h2⟩ := numI_at hj
    have hm := List.mem_of_getElem? h1
    obtain ⟨h3, h4⟩ := (hld_N (hR.ok _ hm) ha).1 hf
    exact ⟨n, h1, h2, List.mem_map.2 ⟨_, List.mem_filter.2 ⟨hm, decide_eq_true h3.symm⟩, rfl⟩, h4⟩
  rcases valN_cases (numA a) (famN (numI l).1 a.1) 0 with ⟨h1, h2⟩ | ⟨t, r, u, h1, h2, h3, h4⟩
  · refine .inl ⟨look_none.2 fun j f hj => ?_, h1⟩
    cases hf : hldP f.1 a with
    | false => rfl
    | true =>
      obtain ⟨n, -, -, h5, h6⟩ := hin j f hj hf
      exact absurd h6 (h2 _ h5)
  · right
    have hr : r ∈ famN (numI l).1 a.1 := by rw [h1]; simp
    obtain ⟨q, hq, hqr⟩ := List.mem_map.1 hr
    obtain ⟨hq1, hq2⟩ := List.mem_filter.1 hq
    obtain ⟨i, hi⟩ := List.mem_iff_getElem?.1 hq1
    have hil : i < l.length := by have := (List.getElem?_eq_some_iff.1 hi).1; rw [(numI_len l).1] at this; exact this
    obtain ⟨e, he⟩ : ∃ e, l[i]? = some e := ⟨_, List.getElem?_eq_getElem hil⟩
    obtain ⟨n, hn1, hn2⟩ := numI_at he
    have hqe : q = (e.1, ((n + 1 : Nat) : Int)) := by rw [hi] at hn1; injection hn1
    have hea : hldP e.1 a = true := by
      have h5 := (hld_N (r := q) (hR.ok q hq1) ha).2 ⟨(of_decide_eq_true hq2).symm, by rw [hqr]; exact h2⟩
      rw [hqe] at h5; exact h5
    have heo := hs.ok e (List.mem_of_getElem? he)
    have heb := heo.bits
    have hrb : r.b = e.1.2.toNat := by rw [← hqr, hqe]; rfl
    refine ⟨n, e.2, look_some (i := i) ⟨he, hil, hea, fun j f hj hf hfa => ?_, fun j f hj hf hfa => ?_⟩, ?_, hn2⟩
    · obtain ⟨n', h5, h6, h7, h8⟩ := hin j f hf hfa
      have hfb := (hs.ok f (List.mem_of_getElem? hf)).bits
      have hsb : (rtN (f.1, ((n' + 1 : Nat) : Int))).b = f.1.2.toNat := rfl
      have hle : (rtN (f.1, ((n' + 1 : Nat) : Int))).b ≤ r.b := by
        have hps := hP.srt
        have has := hP.al _ h7
        have har := hP.al _ hr
        rw [h1] at h7 hps
        rcases List.mem_append.1 h7 with h9 | h9
        · have := (List.pairwise_append.1 hps).2.2 _ h9 r (by simp)
          exact Nat.le_of_lt (hldN_lt has har h8 h2 this)
        · rcases List.mem_cons.1 h9 with h9 | h9
          · rw [h9]; exact Nat.le_refl _
          · exact absurd h8 (h4 _ h9)
      omega
    · obtain ⟨n', h5, h6, h7, h8⟩ := hin j f hf hfa
      have hfo := hs.ok f (List.mem_of_getElem? hf)
      have hfb := hfo.bits
      have hsb : (rtN (f.1, ((n' + 1 : Nat) : Int))).b = f.1.2.toNat := rfl
      have hlt : ltP f.1 e.1 := by
        have h9 := List.pairwise_iff_getElem.1 hs.srt j i (List.getElem?_eq_some_iff.1 hf).1 hil hj
        rw [(List.getElem?_eq_some_iff.1 hf).2, (List.getElem?_eq_some_iff.1 he).2] at h9
        exact h9
      have hfam : f.1.1.1 = e.1.1.1 := by
        have k1 := ((hld_N (r := (f.1, 0)) hfo ha).1 hfa).1
        have k2 := ((hld_N (r := (e.1, 0)) heo ha).1 hea).1
        exact k1.symm.trans k2
      have h9 := lt_N (r := (f.1, ((n' + 1 : Nat) : Int))) (s := (e.1, ((n + 1 : Nat) : Int))) hfo heo hfam hlt
      rw [← hqe, hqr] at h9
      have := hldN_lt (hP.al _ h7) (hP.al _ hr) h8 h2 h9
      omega
    · rw [h3, ← hqr, hqe]; rfl
end Go.Proofs.YtgfkmgbcajdcdaaGreatDoor

namespace Go.Proofs.YtgfkmgbcajdcdaaGreatDoor
open Go.RowKit Ifs
set_option linter.unusedVariables false

end Go.Proofs.YtgfkmgbcajdcdaaGreatDoor
