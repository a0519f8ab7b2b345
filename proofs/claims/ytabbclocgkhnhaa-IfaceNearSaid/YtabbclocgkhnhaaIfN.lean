/-
  A set of ports, plainly (layer 14): what each call answers and leaves; what holds of every set that calls made.
-/
import Derived.Test.YtabbclocgkhnhaaEMac
import Derived.Test.YtabbclocgkhnhaaPNum
import Derived.Test.YtabbclocgkhnhaaTch
namespace Go.Proofs.Ytabbclocgkhnhaa
set_option linter.unusedVariables false

/-- An address; a port: its name, Mac, Mtu, whether it is up; a local: its address, its bits. -/
abbrev AdI := Bool × Nat × Nat
abbrev Prt := ByteArray × Int × Int × Bool
abbrev Loc := AdI × Int
abbrev StI := List Prt × List (List Loc)
/-- The first that is so, counted from 1; 0: none. -/
def fndI {α : Type} (p : α → Bool) : List α → Nat
  | [] => 0
  | x :: r => if p x = true then 1 else if fndI p r = 0 then 0 else fndI p r + 1
theorem fndI_zero {α : Type} {p : α → Bool} {l : List α} : fndI p l = 0 ↔ ∀ (i : Nat) (x : α), l[i]? = some x → p x = false := by
  induction l with
  | nil => simp [fndI]
  | cons y r ih =>
    unfold fndI
    by_cases h : p y = true
    · rw [if_pos h]
      refine ⟨fun e => by omega, fun e => ?_⟩
      have := e 0 y rfl
      rw [h] at this
      cases this
    · rw [if_neg h]
      constructor
      · intro e i x hx
        have hr : fndI p r = 0 := by split at e <;> omega
        cases i with
        | zero => simp at hx; subst hx; simpa using h
        | succ i => exact ih.1 hr i x (by simpa using hx)
      · intro e
        rw [if_pos (ih.2 fun i x hx => e (i + 1) x (by simpa using hx))]
theorem fndI_succ {α : Type} {p : α → Bool} {l : List α} {i : Nat} : fndI p l = i + 1 ↔ (∃ x, l[i]? = some x ∧ p x = true) ∧ ∀ (j : Nat) (x : α), j < i → l[j]? = some x → p x = false := by
  induction l generalizing i with
  | nil => simp [fndI]
  | cons y r ih =>
    unfold fndI
    by_cases h : p y = true
    · rw [if_pos h]
      constructor
      · intro e
        obtain rfl : i = 0 := by omega
        exact ⟨⟨y, rfl, h⟩, fun j x hj => by omega⟩
      · rintro ⟨-, h2⟩
        rcases Nat.eq_zero_or_pos i with h0 | h0
        · omega
        · have := h2 0 y h0 rfl
          rw [h] at this
          cases this
    · rw [if_neg h]
      have hf : p y = false := by simpa using h
      cases i with
      | zero =>
        constructor
        · intro e; split at e <;> omega
        · rintro ⟨⟨x, hx, hp⟩, -⟩
          simp at hx; subst hx
          exact absurd hp h
      | succ i =>
        have e : (if fndI p r = 0 then 0 else fndI p r + 1) = i + 1 + 1 ↔ fndI p r = i + 1 := by split <;> omega
        rw [e, ih]
        constructor
        · rintro ⟨⟨x, hx, hp⟩, h2⟩
          refine ⟨⟨x, by simpa using hx, hp⟩, fun j z hj hz => ?_⟩
          cases j with
          | zero => simp at hz; subst hz; exact hf
          | succ j => exact h2 j z (by omega) (by simpa using hz)
        · rintro ⟨⟨x, hx, hp⟩, h2⟩
          exact ⟨⟨x, by simpa using hx, hp⟩, fun j z hj hz => h2 (j + 1) z (by omega) (by simpa using hz)⟩
theorem fndI_le {α : Type} (p : α → Bool) (l : List α) : fndI p l ≤ l.length := by
  induction l with
  | nil => exact Nat.le_refl _
  | cons y r ih =>
    unfold fndI
    simp only [List.length_cons]
    by_cases h : p y = true
    · rw [if_pos h]; omega
    · rw [if_neg h]; split <;> omega
/-- Is a name one. -/
def nameOk (s : ByteArray) : Bool := decide (1 ≤ s.size ∧ s.size ≤ 8) && (s.data.toList.zipIdx.all fun x => (decide (97 ≤ x.1.toNat ∧ x.1.toNat ≤ 122)) || (decide (x.2 ≠ 0) && decide (48 ≤ x.1.toNat ∧ x.1.toNat ≤ 57)))
def macOk (m : Int) : Bool := decide (m ≠ 0 ∧ m < 281474976710656 ∧ m / 1099511627776 % 2 ≠ 1)
def mtuOk (m : Int) : Bool := decide (68 ≤ m ∧ m ≤ 1500)
/-- Which address a local has. -/
def isA (a : AdI) (x : Loc) : Bool := decide (x.1 = a)
def mineI (L : List (List Loc)) (a : AdI) : Nat := fndI (fun l => l.any (isA a)) L
def namedI (P : List Prt) (n : ByteArray) : Nat := fndI (fun p => decide (p.1 = n)) P
def thereI (st : StI) (port : Int) : Bool := decide (1 ≤ port ∧ port ≤ (st.1.length : Int))
def idxI (port : Int) : Nat := (port - 1).toNat
/-- Add. -/
def addI (st : StI) (n : ByteArray) (mac mtu : Int) : StI × Int × Int :=
  if nameOk n = false ∨ namedI st.1 n ≠ 0 then (st, 0, 130) else if (macOk mac && mtuOk mtu) = false then (st, 0, 1) else if 8 ≤ st.1.length then (st, 0, 131) else
  ((st.1 ++ [(n, mac, mtu, false)], st.2 ++ [[]]), ((st.1.length + 1 : Nat) : Int), 0)
/-- Turn. -/
def turnI (st : StI) (port : Int) (up : Bool) : StI × Int :=
  if thereI st port = false then (st, 132) else ((st.1.modify (idxI port) fun p => (p.1, p.2.1, p.2.2.1, up), st.2), 0)
def clsI (a : AdI) : Int := clsV a.1 (a.2.1 : Int) (a.2.2 : Int)
def mtuI (st : StI) (port : Int) : Int := ((st.1[idxI port]?).map fun p => p.2.2.1).getD 0
def locI (st : StI) (port : Int) : List Loc := (st.2[idxI port]?).getD []
/-- May a port be given an address? -/
def adOk (st : StI) (port : Int) (a : AdI) (bits : Int) : Bool :=
  (decide (clsI a = 2) || decide (clsI a = 5)) && decide (1 ≤ bits ∧ bits ≤ (wd a.1 : Int)) && decide (mineI st.2 a = 0) && !(a.1 && decide (mtuI st port < 1280))
/-- Put. -/
def putI (st : StI) (port : Int) (a : AdI) (bits : Int) : StI × Int :=
  if thereI st port = false then (st, 132) else if adOk st port a bits = false then (st, 133) else if 8 ≤ (locI st port).length then (st, 131) else
  ((st.1, st.2.modify (idxI port) fun l => l ++ [(a, bits)]), 0)
/-- Drop. -/
def dropI (st : StI) (port : Int) (a : AdI) : StI × Int :=
  if thereI st port = false then (st, 132) else if (locI st port).any (isA a) = false then (st, 132) else ((st.1, st.2.modify (idxI port) fun l => l.filter fun x => !isA a x), 0)
/-- Port, Locals. -/
def portI (st : StI) (port : Int) : Prt := if thereI st port = false then (⟨#[]⟩, 0, 0, false) else (st.1[idxI port]?).getD (⟨#[]⟩, 0, 0, false)
def localsI (st : StI) (port : Int) : List Loc := if thereI st port = false then [] else locI st port
/-- A local's prefix holds an address. -/
def hldI (a : AdI) (x : Loc) : Bool := decide (x.2 ≤ comV x.1.1 x.1.2.1 x.1.2.2 a.1 a.2.1 a.2.2)
/-- Near: the best so far, port and bits: of a port's first n locals; of the first n ports. -/
def nearT (a : AdI) (up : Bool) (port : Nat) (l : List Loc) (b : Nat × Int) : Nat → Nat × Int
  | 0 => b
  | n + 1 => match l[n]? with
    | none => nearT a up port l b n
    | some x => if up = true ∧ (nearT a up port l b n).2 < x.2 ∧ hldI a x = true then (port, x.2) else nearT a up port l b n
def nearQ (st : StI) (a : AdI) : Nat → Nat × Int
  | 0 => (0, 0)
  | n + 1 => match st.1[n]?, st.2[n]? with
    | some p, some l => nearT a p.2.2.2 (n + 1) l (nearQ st a n) l.length
    | _, _ => nearQ st a n
def nearI (st : StI) (a : AdI) : Nat := (nearQ st a st.1.length).1
/-- Source: the place of the best of the first n. -/
def bestT (a : AdI) (l : List Loc) : Nat → Option Nat
  | 0 => none
  | n + 1 => match l[n]? with
    | none => bestT a l n
    | some x => if (hldI a x && (match bestT a l n with | none => true | some k => decide ((((l[k]?).map (·.2)).getD 0) < x.2))) = true then some n else bestT a l n
def famI (s : Bool) (l : List Loc) : Nat := fndI (fun x => decide (x.1.1 = s)) l
def pickI (a : AdI) (l : List Loc) : Option Nat := match bestT a l l.length with
  | some k => some k
  | none => if famI a.1 l = 0 then none else some (famI a.1 l - 1)
def srcI (st : StI) (port : Int) (a : AdI) : Option AdI :=
  if thereI st port = false ∨ vld a.1 (a.2.1 : Int) (a.2.2 : Int) = false then none else (pickI a (locI st port)).bind fun k => ((locI st port)[k]?).map (·.1)
/-- What holds of every set that calls made. -/
structure InvI (st : StI) : Prop where
  len : st.1.length = st.2.length
  few : st.1.length ≤ 8
  names : (st.1.map (·.1)).Nodup
  loc : ∀ l ∈ st.2, l.length ≤ 8
  ad : ∀ (i : Nat) (p : Prt) (l : List Loc), st.1[i]? = some p → st.2[i]? = some l → ∀ x ∈ l, (clsI x.1 = 2 ∨ clsI x.1 = 5) ∧ (1 ≤ x.2 ∧ x.2 ≤ (wd x.1.1 : Int)) ∧ (x.1.1 = true → 1280 ≤ p.2.2.1)
  one : (st.2.flatten.map (·.1)).Nodup
  u64 : ∀ l ∈ st.2, ∀ x ∈ l, N64 x.1.2.1 ∧ N64 x.1.2.2
theorem InvI.nil : InvI ([], []) := ⟨rfl, by decide, by simp, by simp, by simp, by simp, by simp⟩
theorem mineI_zero {L : List (List Loc)} {a : AdI} : mineI L a = 0 ↔ a ∉ L.flatten.map (·.1) := by
  unfold mineI
  rw [fndI_zero]
  constructor
  · intro h hm
    obtain ⟨x, hx, rfl⟩ := List.mem_map.1 hm
    obtain ⟨l, hl, hxl⟩ := List.mem_flatten.1 hx
    obtain ⟨i, hi⟩ := List.mem_iff_getElem?.1 hl
    have := h i l hi
    rw [List.any_eq_false] at this
    exact this x hxl (by simp [isA])
  · intro h i l hl
    rw [List.any_eq_false]
    intro x hx hxa
    apply h
    simp [isA] at hxa
    exact List.mem_map.2 ⟨x, List.mem_flatten.2 ⟨l, List.mem_of_getElem? hl, hx⟩, hxa⟩
/-- In a set each address tells its port. -/
theorem mineI_at {L : List (List Loc)} (hn : (L.flatten.map (·.1)).Nodup) {i : Nat} {l : List Loc} {x : Loc} (hl : L[i]? = some l) (hx : x ∈ l) : mineI L x.1 = i + 1 := by
  unfold mineI
  rw [fndI_succ]
  refine ⟨⟨l, hl, List.any_eq_true.2 ⟨x, hx, by simp [isA]⟩⟩, fun j m hj hm => ?_⟩
  rw [List.any_eq_false]
  intro y hy hya
  simp [isA] at hya
  have hil := (List.getElem?_eq_some_iff.1 hl)
  have hjm := (List.getElem?_eq_some_iff.1 hm)
  -- the two lie in unlike lists: the row of all has one of them twice
  have key : ∀ (L : List (List Loc)) (i j : Nat), j < i → L[i]? = some l → L[j]? = some m → (L.flatten.map (·.1)).Nodup → False := by
    intro L
    induction L with
    | nil => intro i j _ h; simp at h
    | cons z r ih =>
      intro i j hji h1 h2 hn
      rw [List.flatten_cons, List.map_append, List.nodup_append] at hn
      cases i with
      | zero => omega
      | succ i =>
        cases j with
        | zero =>
          simp at h2; subst h2
          have h1' : r[i]? = some l := by simpa using h1
          exact hn.2.2 y.1 (List.mem_map.2 ⟨y, hy, rfl⟩) x.1 (List.mem_map.2 ⟨x, List.mem_flatten.2 ⟨l, List.mem_of_getElem? h1', hx⟩, rfl⟩) hya
        | succ j => exact ih i j (by omega) (by simpa using h1) (by simpa using h2) hn.2.1
  exact key L i j hj hl hm hn
theorem namedI_at {P : List Prt} (hn : (P.map (·.1)).Nodup) {i : Nat} {p : Prt} (hp : P[i]? = some p) : namedI P p.1 = i + 1 := by
  unfold namedI
  rw [fndI_succ]
  refine ⟨⟨p, hp, by simp⟩, fun j q hj hq => ?_⟩
  rw [decide_eq_false_iff_not]
  intro e
  have h1 : (P.map (·.1))[i]? = some p.1 := by rw [List.getElem?_map, hp]; rfl
  have h2 : (P.map (·.1))[j]? = some p.1 := by rw [List.getElem?_map, hq, ← e]; rfl
  have l1 := (List.getElem?_eq_some_iff.1 h1).1
  have := (List.getElem?_inj (h₀ := (List.getElem?_eq_some_iff.1 h2).1) hn).1 (h2.trans h1.symm)
  omega
theorem InvI.add {st : StI} (h : InvI st) (n : ByteArray) (mac mtu : Int) : InvI (addI st n mac mtu).1 := by
  unfold addI
  split
  · exact h
  · rename_i h1
    split
    · exact h
    · split
      · exact h
      · rename_i h3
        have hn : namedI st.1 n = 0 := by
          rcases Nat.eq_zero_or_pos (namedI st.1 n) with h0 | h0
          · exact h0
          · exact absurd (.inr (by omega)) h1
        have hl := h.len
        refine ⟨by simp [h.len], by simp; omega, ?_, ?_, ?_, ?_, ?_⟩
        · rw [List.map_append, List.nodup_append]
          refine ⟨h.names, by simp, fun a ha b hb => ?_⟩
          simp at hb
          subst hb
          intro e
          subst e
          obtain ⟨p, hp, hpe⟩ := List.mem_map.1 ha
          obtain ⟨i, hi⟩ := List.mem_iff_getElem?.1 hp
          have := (fndI_zero.1 hn) i p hi
          rw [decide_eq_false_iff_not] at this
          exact this hpe
        · intro l hl
          rcases List.mem_append.1 hl with h4 | h4
          · exact h.loc l h4
          · simp at h4; subst h4; simp
        · intro i p l hp hl' x hx
          rcases Nat.lt_or_ge i st.1.length with h4 | h4
          · rw [List.getElem?_append_left h4] at hp
            rw [List.getElem?_append_left (by omega)] at hl'
            exact h.ad i p l hp hl' x hx
          · rw [List.getElem?_append_right (by omega)] at hl'
            have : l = [] := by
              have := List.mem_of_getElem? hl'
              simpa using this
            subst this
            cases hx
        · simpa using h.one
        · intro l hl x hx
          rcases List.mem_append.1 hl with h4 | h4
          · exact h.u64 l h4 x hx
          · simp at h4; subst h4; cases hx
theorem modify_at {α : Type} {l : List α} {i j : Nat} {f : α → α} {y : α} (h : (l.modify i f)[j]? = some y) : ∃ x, l[j]? = some x ∧ y = if i = j then f x else x := by
  rw [List.getElem?_modify] at h
  obtain ⟨x, hx, e⟩ := Option.map_eq_some_iff.1 h
  exact ⟨x, hx, by split at e <;> simp_all⟩
theorem InvI.turn {st : StI} (h : InvI st) (port : Int) (up : Bool) : InvI (turnI st port up).1 := by
  unfold turnI
  split
  · exact h
  · refine ⟨by simpa using h.len, by simpa using h.few, ?_, h.loc, fun i p l hp hl x hx => ?_, h.one, h.u64⟩
    · have e : (st.1.modify (idxI port) fun p => (p.1, p.2.1, p.2.2.1, up)).map (·.1) = st.1.map (·.1) := by
        apply List.ext_getElem?
        intro j
        rw [List.getElem?_map, List.getElem?_map, List.getElem?_modify]
        cases st.1[j]? with
        | none => rfl
        | some q => simp; split <;> rfl
      show ((st.1.modify (idxI port) fun p => (p.1, p.2.1, p.2.2.1, up)).map (·.1)).Nodup
      rw [e]; exact h.names
    · obtain ⟨q, hq, e⟩ := modify_at hp
      have := h.ad i q l hq hl x hx
      rw [e]
      split <;> exact this
theorem flatten_modify {α β : Type} (g : α → β) {L : List (List α)} {i : Nat} {l : List α} {f : List α → List α} (hl : L[i]? = some l) (hn : (L.flatten.map g).Nodup)
    (h1 : ((f l).map g).Nodup) (h2 : ∀ b ∈ (f l).map g, b ∈ l.map g ∨ b ∉ L.flatten.map g) : ((L.modify i f).flatten.map g).Nodup := by
  induction L generalizing i with
  | nil => simp at hl
  | cons z r ih =>
    rw [List.flatten_cons, List.map_append, List.nodup_append] at hn
    cases i with
    | zero =>
      simp at hl; subst hl
      rw [List.modify_zero_cons, List.flatten_cons, List.map_append, List.nodup_append]
      refine ⟨h1, hn.2.1, fun a ha b hb e => ?_⟩
      subst e
      rcases h2 a ha with h3 | h3
      · exact hn.2.2 a h3 a hb rfl
      · exact h3 (by rw [List.flatten_cons, List.map_append]; exact List.mem_append_right _ hb)
    | succ i =>
      have hl' : r[i]? = some l := by simpa using hl
      rw [List.modify_succ_cons, List.flatten_cons, List.map_append, List.nodup_append]
      refine ⟨hn.1, ih hl' hn.2.1 (fun b hb => ?_), fun a ha b hb e => ?_⟩
      · rcases h2 b hb with h3 | h3
        · exact .inl h3
        · exact .inr (fun hm => h3 (by rw [List.flatten_cons, List.map_append]; exact List.mem_append_right _ hm))
      · subst e
        have hsub : a ∈ r.flatten.map g ∨ a ∈ (f l).map g := by
          obtain ⟨y, hy, rfl⟩ := List.mem_map.1 hb
          obtain ⟨m, hm, hym⟩ := List.mem_flatten.1 hy
          obtain ⟨j, hj⟩ := List.mem_iff_getElem?.1 hm
          obtain ⟨x, hx, e⟩ := modify_at hj
          split at e
          · rename_i hij
            subst hij
            rw [hl'] at hx
            injection hx with hx
            subst hx e
            exact .inr (List.mem_map.2 ⟨y, hym, rfl⟩)
          · subst e
            exact .inl (List.mem_map.2 ⟨y, List.mem_flatten.2 ⟨m, List.mem_of_getElem? hx, hym⟩, rfl⟩)
        rcases hsub with h3 | h3
        · exact hn.2.2 a ha a h3 rfl
        · rcases h2 a h3 with h4 | h4
          · refine hn.2.2 a ha a ?_ rfl
            obtain ⟨y, hy, rfl⟩ := List.mem_map.1 h4
            exact List.mem_map.2 ⟨y, List.mem_flatten.2 ⟨l, List.mem_of_getElem? hl', hy⟩, rfl⟩
          · exact h4 (by rw [List.flatten_cons, List.map_append]; exact List.mem_append_left _ ha)
theorem nodup_in {α β : Type} {g : α → β} {L : List (List α)} (hn : (L.flatten.map g).Nodup) {i : Nat} {l : List α} (hl : L[i]? = some l) : (l.map g).Nodup := by
  induction L generalizing i with
  | nil => simp at hl
  | cons z r ih =>
    rw [List.flatten_cons, List.map_append, List.nodup_append] at hn
    cases i with
    | zero => simp at hl; subst hl; exact hn.1
    | succ i => exact ih hn.2.1 (by simpa using hl)
theorem locI_at {st : StI} (h : InvI st) {port : Int} (ht : thereI st port = true) : ∃ p l, st.1[idxI port]? = some p ∧ st.2[idxI port]? = some l ∧ locI st port = l ∧ mtuI st port = p.2.2.1 ∧ idxI port < st.1.length ∧ port = (idxI port : Int) + 1 := by
  unfold thereI at ht
  rw [decide_eq_true_eq] at ht
  have hl : idxI port < st.1.length := by unfold idxI; omega
  have hl2 : idxI port < st.2.length := by rw [← h.len]; exact hl
  refine ⟨_, _, List.getElem?_eq_getElem hl, List.getElem?_eq_getElem hl2, by unfold locI; rw [List.getElem?_eq_getElem hl2]; rfl, by unfold mtuI; rw [List.getElem?_eq_getElem hl]; rfl, hl, by unfold idxI; omega⟩
theorem InvI.put {st : StI} (h : InvI st) (port : Int) (a : AdI) (bits : Int) (ha : N64 a.2.1 ∧ N64 a.2.2) : InvI (putI st port a bits).1 := by
  unfold putI
  split
  · exact h
  · rename_i h1
    split
    · exact h
    · rename_i h2
      split
      · exact h
      · rename_i h3
        obtain ⟨p, l, hp, hl, he, hm, hlt, -⟩ := locI_at h (by simpa using h1)
        rw [he] at h3
        have h2 : adOk st port a bits = true := by simpa using h2
        unfold adOk at h2
        simp only [Bool.and_eq_true, Bool.or_eq_true, decide_eq_true_eq, Bool.not_eq_true', Bool.and_eq_false_iff, decide_eq_false_iff_not] at h2
        obtain ⟨⟨⟨hc, hb⟩, hmi⟩, hsx⟩ := h2
        rw [hm] at hsx
        have hnm := mineI_zero.1 hmi
        refine ⟨by simpa using h.len, h.few, h.names, fun m hm' => ?_, fun i q m hq hm' x hx => ?_, ?_, fun m hm' x hx => ?_⟩
        · obtain ⟨j, hj⟩ := List.mem_iff_getElem?.1 hm'
          obtain ⟨y, hy, e⟩ := modify_at hj
          have h8 := h.loc y (List.mem_of_getElem? hy)
          split at e
          · rename_i hij
            subst hij
            rw [hl] at hy
            injection hy with hy
            subst hy e
            simp; omega
          · subst e; exact h8
        · obtain ⟨y, hy, e⟩ := modify_at hm'
          split at e
          · rename_i hij
            subst hij
            rw [hl] at hy
            rw [hp] at hq
            injection hy with hy
            injection hq with hq
            subst hy e hq
            rcases List.mem_append.1 hx with h5 | h5
            · exact h.ad _ p l hp hl x h5
            · simp at h5
              subst h5
              refine ⟨hc, hb, fun hs => ?_⟩
              rcases hsx with h6 | h6
              · rw [hs] at h6; cases h6
              · omega
          · rw [e] at hx
            exact h.ad i q y hq hy x hx
        · have hlm : ∀ b ∈ l.map (·.1), b ∈ st.2.flatten.map (·.1) := fun b hb => by
            obtain ⟨y, hy, rfl⟩ := List.mem_map.1 hb
            exact List.mem_map.2 ⟨y, List.mem_flatten.2 ⟨l, List.mem_of_getElem? hl, hy⟩, rfl⟩
          refine flatten_modify (·.1) hl h.one ?_ (fun b hb => ?_)
          · rw [List.map_append, List.nodup_append]
            refine ⟨nodup_in h.one hl, by simp, fun b hb9 c hc' e => ?_⟩
            simp at hc'
            subst hc' e
            exact hnm (hlm _ hb9)
          · rw [List.map_append] at hb
            rcases List.mem_append.1 hb with h5 | h5
            · exact .inl h5
            · simp at h5; subst h5; exact .inr hnm
        · obtain ⟨j, hj⟩ := List.mem_iff_getElem?.1 hm'
          obtain ⟨y, hy, e⟩ := modify_at hj
          rw [e] at hx
          split at hx
          · rcases List.mem_append.1 hx with h5 | h5
            · exact h.u64 y (List.mem_of_getElem? hy) x h5
            · simp at h5; subst h5; exact ha
          · exact h.u64 y (List.mem_of_getElem? hy) x hx
theorem InvI.drop {st : StI} (h : InvI st) (port : Int) (a : AdI) : InvI (dropI st port a).1 := by
  unfold dropI
  split
  · exact h
  · rename_i h1
    split
    · exact h
    · obtain ⟨p, l, hp, hl, he, hm, hlt, -⟩ := locI_at h (by simpa using h1)
      refine ⟨by simpa using h.len, h.few, h.names, fun m hm' => ?_, fun i q m hq hm' x hx => ?_, ?_, fun m hm' x hx => ?_⟩
      · obtain ⟨j, hj⟩ := List.mem_iff_getElem?.1 hm'
        obtain ⟨y, hy, e⟩ := modify_at hj
        have h8 := h.loc y (List.mem_of_getElem? hy)
        split at e
        · subst e
          exact Nat.le_trans (List.length_filter_le _ _) h8
        · subst e; exact h8
      · obtain ⟨y, hy, e⟩ := modify_at hm'
        split at e
        · subst e
          exact h.ad i q y hq hy x (List.mem_filter.1 hx).1
        · rw [e] at hx
          exact h.ad i q y hq hy x hx
      · refine flatten_modify (·.1) hl h.one ?_ (fun b hb => .inl ?_)
        · exact (nodup_in h.one hl).sublist (List.filter_sublist.map _)
        · obtain ⟨y, hy, rfl⟩ := List.mem_map.1 hb
          exact List.mem_map.2 ⟨y, (List.mem_filter.1 hy).1, rfl⟩
      · obtain ⟨j, hj⟩ := List.mem_iff_getElem?.1 hm'
        obtain ⟨y, hy, e⟩ := modify_at hj
        rw [e] at hx
        split at hx
        · exact h.u64 y (List.mem_of_getElem? hy) x (List.mem_filter.1 hx).1
        · exact h.u64 y (List.mem_of_getElem? hy) x hx
end Go.Proofs.Ytabbclocgkhnhaa
