/-
  The laws of layer 15: a rib told again, prefix by prefix from any one on, the worst path first; two ribs of the program side by side.
-/
import Derived.Test.YtjlmgkdieffjcaaDoorMgL
namespace Go.Proofs.YtjlmgkdieffjcaaDoor
open Go.RowKit
set_option linter.unusedVariables false

/-- What has been told again: some prefixes whole, of one more some paths. -/
def toldD (done : List PfI) (p : PfI) (xs : List PaI) (t : TdI) : Bool := decide (t.1 ∈ done) || (decide (t.1 = p) && decide (t.2 ∈ xs))
theorem told_none {L : List TdI} (p : PfI) : L.filter (toldD [] p []) = [] := List.filter_eq_nil_iff.2 fun t _ => by simp [toldD]
theorem told_step {L : List TdI} (h : InvB L) {done : List PfI} {p : PfI} {x : PaI} {k : Nat} (hp : p ∉ done) (hx : (pathsI L p)[k]? = some x) :
    putR (L.filter (toldD done p ((pathsI L p).drop (k + 1)))) p x = (L.filter (toldD done p ((pathsI L p).drop k)), 0) := by
  have hm : (p, x) ∈ L := pathsI_mem.1 (List.mem_of_getElem? hx)
  have hk := (List.getElem?_eq_some_iff.1 hx).1
  have hd : (pathsI L p).drop k = x :: (pathsI L p).drop (k + 1) := by
    rw [List.drop_eq_getElem_cons hk]
    rw [List.getElem?_eq_getElem hk] at hx
    injection hx with e
    rw [e]
  have hnd : ((pathsI L p).drop k).Nodup := ((paths_srt h.inv p).imp (fun {a b} hab e => by subst e; rw [betI_irr] at hab; cases hab) : (pathsI L p).Nodup).sublist (List.drop_sublist _ _)
  rw [hd, List.nodup_cons] at hnd
  have hD : toldD done p ((pathsI L p).drop (k + 1)) (p, x) = false := by simp [toldD, hp, hnd.1]
  have := put_part h (toldD done p ((pathsI L p).drop (k + 1))) hm hD
  rw [this, hd]
  congr 1
  refine List.filter_congr fun t ht => ?_
  obtain ⟨tp, tx⟩ := t
  unfold toldD
  simp only [List.mem_cons, Prod.mk.injEq]
  by_cases h1 : tp ∈ done <;> by_cases h2 : tp = p <;> by_cases h3 : tx = x <;> by_cases h4 : tx ∈ (pathsI L p).drop (k + 1) <;> simp [h1, h2, h3, h4]
theorem told_row {L : List TdI} (done : List PfI) (p q : PfI) : L.filter (toldD done p ((pathsI L p).drop 0)) = L.filter (toldD (done ++ [p]) q []) := by
  refine List.filter_congr fun t ht => ?_
  obtain ⟨tp, tx⟩ := t
  unfold toldD
  simp only [List.drop_zero, List.mem_append, List.mem_singleton]
  by_cases h1 : tp ∈ done <;> by_cases h2 : tp = p
  · subst h2; simp [h1]
  · simp [h1, h2]
  · subst h2
    have : tx ∈ pathsI L tp := pathsI_mem.2 ht
    simp [h1, this]
  · simp [h1, h2]
theorem told_other {L : List TdI} (done : List PfI) (p q : PfI) (n : Nat) (hn : (pathsI L q).length ≤ n) : L.filter (toldD done p []) = L.filter (toldD done q ((pathsI L q).drop n)) := by
  rw [List.drop_eq_nil_iff.2 hn]
  exact List.filter_congr fun t _ => by simp [toldD]
/-- The prefixes from the q-th on, round and round. -/
def rotP (l : List PfI) (q i : Nat) : List PfI := (List.range i).filterMap fun j => l[(j + q) % l.length]?
theorem rotP_succ {l : List PfI} {q i : Nat} {p : PfI} (h : l[(i + q) % l.length]? = some p) : rotP l q (i + 1) = rotP l q i ++ [p] := by
  unfold rotP
  rw [List.range_succ, List.filterMap_append]
  simp [h]
theorem rotP_not {l : List PfI} (hn : l.Nodup) {q i : Nat} {p : PfI} (hi : i < l.length) (h : l[(i + q) % l.length]? = some p) : p ∉ rotP l q i := by
  unfold rotP
  rw [List.mem_filterMap]
  rintro ⟨j, hj, e⟩
  have hj := List.mem_range.1 hj
  have h1 := (List.getElem?_inj (Nat.mod_lt _ (by omega)) hn).1 (e.trans h.symm)
  have h2 := Nat.div_add_mod (j + q) l.length
  have h3 := Nat.div_add_mod (i + q) l.length
  have h4 : l.length * ((i + q) / l.length) = l.length * ((j + q) / l.length) + (i - j) := by omega
  have h5 : (i + q) / l.length ≤ (j + q) / l.length := by
    rcases Nat.lt_or_ge ((j + q) / l.length) ((i + q) / l.length) with h | h
    · have := Nat.mul_le_mul_left l.length h
      rw [Nat.succ_eq_add_one, Nat.mul_add, Nat.mul_one] at this
      omega
    · exact h
  have := Nat.mul_le_mul_left l.length h5
  omega
theorem rotP_all {l : List PfI} {q : Nat} {p : PfI} (hp : p ∈ l) : p ∈ rotP l q l.length := by
  obtain ⟨m, hm⟩ := List.getElem?_of_mem hp
  have hml := (List.getElem?_eq_some_iff.1 hm).1
  unfold rotP
  rw [List.mem_filterMap]
  refine ⟨(m + (l.length - q % l.length)) % l.length, List.mem_range.2 (Nat.mod_lt _ (by omega)), ?_⟩
  rw [← hm]
  congr 1
  have hq := Nat.mod_lt q (show 0 < l.length by omega)
  have hd := Nat.div_add_mod q l.length
  have e : m + (l.length - q % l.length) + q = m + l.length * (1 + q / l.length) := by rw [Nat.mul_add, Nat.mul_one]; omega
  rw [Nat.mod_add_mod, e, Nat.add_mul_mod_self_left, Nat.mod_eq_of_lt hml]
theorem told_all {L : List TdI} (h : InvR L) (q : Nat) (p : PfI) : L.filter (toldD (rotP (prefsI L) q (prefsI L).length) p []) = L :=
  List.filter_eq_self.2 fun t ht => by simp [toldD, rotP_all ((prefsI_mem h).2 ⟨t, ht, rfl⟩)]
/-- Two ribs of the program's in a law that began at w. -/
structure DuoR (w W : World) (p : Nat) (Sp : List Nat) (L : List TdI) (q : Nat) (Sq : List Nat) (M : List TdI) : Prop where
  P : StdR w W p Sp L
  Q : StdR w W q Sq M
  dis : ∀ s ∈ Sp, s ∉ Sq
section
variable {w W W' : World} {p q : Nat} {Sp Sq Sq' T : List Nat} {L M M' : List TdI} {base e sz n : Nat} {v : Value} {xs : List Value}
theorem DuoR.tch0 (h : DuoR w W p Sp L q Sq M) (ht : Tch W W' []) : DuoR w W' p Sp L q Sq M := ⟨h.P.tch0 ht, h.Q.tch0 ht, h.dis⟩
theorem DuoR.readP (h : DuoR w W p Sp L q Sq M) (hP : RbP W' p Sp L) (ht : Tch W W' Sp) : DuoR w W' p Sp L q Sq M :=
  ⟨h.P.read hP ht, ⟨h.Q.P.tch ht (fun s hs hm => h.dis s hm hs), (h.P.read hP ht).bel, h.Q.abv⟩, h.dis⟩
theorem DuoR.goQ (h : DuoR w W p Sp L q Sq M) (hQ : RbP W' q Sq' M') (hg : Goes W W' Sq Sq') : DuoR w W' p Sp L q Sq' M' :=
  ⟨⟨h.P.P.tch hg.tch h.dis, (h.Q.go hQ hg).bel, h.P.abv⟩, h.Q.go hQ hg, fun s hs hm => by
    rcases hg.fre s hm with h1 | h1
    · exact h.dis s hs h1
    · have := h.P.P.lt s hs; omega⟩
theorem DuoR.readQ (h : DuoR w W p Sp L q Sq M) (hQ : RbP W' q Sq M) (ht : Tch W W' Sq) : DuoR w W' p Sp L q Sq M := h.goQ hQ (Goes.of_tch ht)
/-- A row of the law's own beside them. -/
structure RwO (W : World) (Sp Sq : List Nat) (e sz : Nat) (v : Value) (n : Nat) (xs : List Value) : Prop where
  own : W.ownsRow 0 e sz v n xs
  nP : ∀ s ∈ obI v, s ∉ Sp
  nQ : ∀ s ∈ obI v, s ∉ Sq
theorem RwO.new (h : DuoR w W p Sp L q Sq M) (ho : W'.ownsRow W.heap.size e sz v n xs) : RwO W' Sp Sq e sz v n xs :=
  ⟨own_mono ho (Nat.zero_le _), fun s hs hm => by have h1 := (own_geI ho s hs).1; have h2 := h.P.P.lt s hm; omega, fun s hs hm => by have h1 := (own_geI ho s hs).1; have h2 := h.Q.P.lt s hm; omega⟩
theorem RwO.tch0 (h : RwO W Sp Sq e sz v n xs) (ht : Tch W W' []) : RwO W' Sp Sq e sz v n xs := ⟨own_tch h.own ht (by simp), h.nP, h.nQ⟩
theorem RwO.readP (h : RwO W Sp Sq e sz v n xs) (ht : Tch W W' Sp) : RwO W' Sp Sq e sz v n xs := ⟨own_tch h.own ht h.nP, h.nP, h.nQ⟩
theorem RwO.goQ (h : RwO W Sp Sq e sz v n xs) (hg : Goes W W' Sq Sq') : RwO W' Sp Sq' e sz v n xs :=
  ⟨own_tch h.own hg.tch h.nQ, h.nP, fun s hs hm => by
    rcases hg.fre s hm with h1 | h1
    · exact h.nQ s hs h1
    · have := own_lts h.own s hs; omega⟩
end
end Go.Proofs.YtjlmgkdieffjcaaDoor
