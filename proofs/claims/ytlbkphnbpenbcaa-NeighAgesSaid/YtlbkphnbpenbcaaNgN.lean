/-
  A cache of neighbours, plainly (layer 19): what each call answers and leaves; what holds of every cache that calls made.
-/
import Derived.Test.YtlbkphnbpenbcaaECls
import Derived.Test.YtlbkphnbpenbcaaGen
namespace Go.Proofs.Ytlbkphnbpenbcaa
set_option linter.unusedVariables false
set_option linter.unusedSectionVars false

/-- An address; what an entry belongs to: a port, an address; an entry; an act. -/
abbrev AdR := Bool × Nat × Nat
abbrev KyI := Int × AdR
structure EnI where
  st : Int
  mac : Int
  lft : Int
  ask : Int
  wts : List ByteArray
structure AcI where
  kind : Int
  key : KyI
  mac : Int
  pkt : ByteArray
abbrev TbI := List (KyI × EnI)
def N64 (n : Nat) : Prop := n < 18446744073709551616
def KyN (k : KyI) : Prop := N64 k.2.2.1 ∧ N64 k.2.2.2
def clsR (a : AdR) : Int := clsV a.1 (a.2.1 : Int) (a.2.2 : Int)
def rgtK (k : KyI) : Bool := decide (1 ≤ k.1) && (decide (k.1 ≤ 8) && (decide (clsR k.2 = 2) || decide (clsR k.2 = 5)))
def macV (m : Int) : Bool := decide (1 ≤ m) && decide (m ≤ 281474976710655)
def vldK (k : KyI) : Bool := vld k.2.1 (k.2.2.1 : Int) (k.2.2.2 : Int)
theorem rgt_vld {k : KyI} (h : rgtK k = true) : vldK k = true := by
  unfold rgtK clsR at h
  unfold vldK
  cases hv : vld k.2.1 (k.2.2.1 : Int) (k.2.2.2 : Int) with
  | true => rfl
  | false =>
    rw [cls_no hv] at h
    revert h; simp
theorem rgt_port {k : KyI} (h : rgtK k = true) : 1 ≤ k.1 ∧ k.1 ≤ 8 := by
  unfold rgtK at h
  simp at h
  exact ⟨h.1, h.2.1⟩
/-- The order of a Tick. -/
def ltB (k q : KyI) : Bool := decide (k.1 < q.1) || (decide (k.1 = q.1) && lss k.2.1 (k.2.2.1 : Int) (k.2.2.2 : Int) q.2.1 (q.2.2.1 : Int) (q.2.2.2 : Int))
def lexP : List Int → List Int → Prop
  | a :: aa, b :: bb => a < b ∨ (a = b ∧ lexP aa bb)
  | _, _ => False
theorem lexP.irrefl : ∀ l, ¬ lexP l l
  | [], h => h
  | a :: aa, h => by
    rcases h with h | ⟨-, h⟩
    · omega
    · exact lexP.irrefl aa h
theorem lexP.trans : ∀ {l m n : List Int}, lexP l m → lexP m n → lexP l n
  | [], _, _, h, _ => h.elim
  | a :: aa, [], _, h, _ => h.elim
  | a :: aa, b :: bb, [], _, h => h.elim
  | a :: aa, b :: bb, c :: cc, h, k => by
    rcases h with h | ⟨h1, h2⟩
    · rcases k with k | ⟨k1, k2⟩
      · exact .inl (by omega)
      · exact .inl (by omega)
    · rcases k with k | ⟨k1, k2⟩
      · exact .inl (by omega)
      · exact .inr ⟨by omega, lexP.trans h2 k2⟩
theorem lexP.tri : ∀ {l m : List Int}, l.length = m.length → lexP l m ∨ l = m ∨ lexP m l
  | [], [], _ => .inr (.inl rfl)
  | [], b :: bb, h => by simp at h
  | a :: aa, [], h => by simp at h
  | a :: aa, b :: bb, h => by
    rcases Int.lt_trichotomy a b with h1 | h1 | h1
    · exact .inl (.inl h1)
    · rcases lexP.tri (l := aa) (m := bb) (by simpa using h) with h2 | h2 | h2
      · exact .inl (.inr ⟨h1, h2⟩)
      · exact .inr (.inl (by rw [h1, h2]))
      · exact .inr (.inr (.inr ⟨h1.symm, h2⟩))
    · exact .inr (.inr (.inl h1))
def bI (b : Bool) : Int := if b then 1 else 0
def keyK (k : KyI) : List Int := [k.1, bI k.2.1, (k.2.2.1 : Int), (k.2.2.2 : Int)]
theorem keyK_inj {k q : KyI} (h : keyK k = keyK q) : k = q := by
  obtain ⟨p, s, a, b⟩ := k
  obtain ⟨p', s', a', b'⟩ := q
  unfold keyK at h
  simp at h
  obtain ⟨h1, h2, h3, h4⟩ := h
  have : s = s' := by revert h2; cases s <;> cases s' <;> decide
  simp [h1, this]; omega
theorem lt_key {k q : KyI} (hk : vldK k = true) (hq : vldK q = true) : ltB k q = true ↔ lexP (keyK k) (keyK q) := by
  obtain ⟨p, s, a, b⟩ := k
  obtain ⟨p', s', a', b'⟩ := q
  unfold vldK at hk hq
  simp only at hk hq
  unfold ltB lss keyK
  simp only [hk, hq, Bool.true_and]
  simp only [lexP, Bool.or_eq_true, Bool.and_eq_true, decide_eq_true_eq]
  refine or_congr Iff.rfl (and_congr Iff.rfl ?_)
  cases s <;> cases s' <;> simp [bI] <;> (try split) <;> (try simp) <;> omega
theorem ltB_irr {k : KyI} (h : vldK k = true) : ltB k k = false := by
  cases e : ltB k k with
  | false => rfl
  | true => exact absurd ((lt_key h h).1 e) (lexP.irrefl _)
theorem ltB_trans {a b c : KyI} (ha : vldK a = true) (hb : vldK b = true) (hc : vldK c = true) (h1 : ltB a b = true) (h2 : ltB b c = true) : ltB a c = true :=
  (lt_key ha hc).2 (((lt_key ha hb).1 h1).trans ((lt_key hb hc).1 h2))
theorem ltB_tri {a b : KyI} (ha : vldK a = true) (hb : vldK b = true) : ltB a b = true ∨ a = b ∨ ltB b a = true := by
  rcases lexP.tri (l := keyK a) (m := keyK b) rfl with e | e | e
  · exact .inl ((lt_key ha hb).2 e)
  · exact .inr (.inl (keyK_inj e))
  · exact .inr (.inr ((lt_key hb ha).2 e))
/-! entries, found, set, dropped -/
def fnd : TbI → KyI → Option EnI
  | [], _ => none
  | x :: r, k => if x.1 = k then some x.2 else fnd r k
def insT (L : TbI) (k : KyI) (e : EnI) : TbI := (L.takeWhile fun x => ltB x.1 k) ++ (k, e) :: (L.dropWhile fun x => ltB x.1 k)
def updT (L : TbI) (k : KyI) (e : EnI) : TbI := L.map fun x => if x.1 = k then (k, e) else x
def putT (L : TbI) (k : KyI) (e : EnI) : TbI := if (fnd L k).isSome then updT L k e else insT L k e
def delT (L : TbI) (k : KyI) : TbI := L.filter fun x => !decide (x.1 = k)
def OkE (e : EnI) : Prop :=
  (e.st = 1 ∧ e.mac = 0 ∧ e.lft = 0 ∧ (1 ≤ e.ask ∧ e.ask ≤ 3) ∧ 1 ≤ e.wts.length ∧ e.wts.length ≤ 3) ∨
  (e.wts = [] ∧ (1 ≤ e.mac ∧ e.mac ≤ 281474976710655) ∧ ((e.st = 2 ∧ 1 ≤ e.lft ∧ e.lft ≤ 30) ∨ e.st = 3 ∨ (e.st = 4 ∧ 1 ≤ e.lft ∧ e.lft ≤ 5) ∨ (e.st = 5 ∧ 1 ≤ e.ask ∧ e.ask ≤ 3)) ∧ (0 ≤ e.lft ∧ e.lft ≤ 30) ∧ (0 ≤ e.ask ∧ e.ask ≤ 3))
structure InvT (L : TbI) : Prop where
  srt : L.Pairwise fun x y => ltB x.1 y.1 = true
  rgt : ∀ x ∈ L, rgtK x.1 = true ∧ KyN x.1
  ok : ∀ x ∈ L, OkE x.2
  len : L.length ≤ 64
theorem InvT.nil : InvT [] := ⟨.nil, by simp, by simp, by simp⟩
theorem InvT.vld {L : TbI} (h : InvT L) : ∀ x ∈ L, vldK x.1 = true := fun x hx => rgt_vld (h.rgt x hx).1
theorem InvT.ne {L : TbI} (h : InvT L) : L.Pairwise fun x y => x.1 ≠ y.1 := h.srt.imp_of_mem fun {x y} hx hy hxy e => by
  rw [e, ltB_irr (h.vld y hy)] at hxy; cases hxy
theorem InvT.nodup {L : TbI} (h : InvT L) : (L.map Prod.fst).Nodup := by
  rw [List.nodup_iff_pairwise_ne, List.pairwise_map]; exact h.ne
theorem InvT.sub {L M : TbI} (h : InvT L) (hs : M.Sublist L) : InvT M := ⟨h.srt.sublist hs, fun x hx => h.rgt x (hs.subset hx), fun x hx => h.ok x (hs.subset hx), Nat.le_trans hs.length_le h.len⟩
theorem fnd_none {L : TbI} {k : KyI} : fnd L k = none ↔ ∀ x ∈ L, ¬ x.1 = k := by
  induction L with
  | nil => simp [fnd]
  | cons y r ih =>
    unfold fnd
    by_cases h : y.1 = k
    · rw [if_pos h]; simp [h]
    · rw [if_neg h, ih]; simp [h]
theorem fnd_mem {L : TbI} {k : KyI} {e : EnI} (h : fnd L k = some e) : (k, e) ∈ L := by
  induction L with
  | nil => simp [fnd] at h
  | cons y r ih =>
    unfold fnd at h
    by_cases h1 : y.1 = k
    · rw [if_pos h1] at h
      injection h with h
      rw [← h1, ← h]
      exact List.mem_cons_self ..
    · rw [if_neg h1] at h
      exact List.mem_cons_of_mem _ (ih h)
theorem fnd_of {L : TbI} (hn : L.Pairwise fun x y => x.1 ≠ y.1) {k : KyI} {e : EnI} (h : (k, e) ∈ L) : fnd L k = some e := by
  induction L with
  | nil => simp at h
  | cons y r ih =>
    rw [List.pairwise_cons] at hn
    unfold fnd
    rcases List.mem_cons.1 h with e1 | e1
    · rw [← e1]; simp
    · rw [if_neg (hn.1 _ e1)]
      exact ih hn.2 e1
theorem fnd_iff {L : TbI} (h : InvT L) {k : KyI} {e : EnI} : fnd L k = some e ↔ (k, e) ∈ L := ⟨fnd_mem, fnd_of h.ne⟩
theorem InvT.okF {L : TbI} (h : InvT L) {k : KyI} {e : EnI} (hf : fnd L k = some e) : OkE e ∧ rgtK k = true ∧ KyN k := ⟨h.ok _ (fnd_mem hf), h.rgt _ (fnd_mem hf)⟩
theorem fnd_cons (y : KyI × EnI) (r : TbI) (k : KyI) : fnd (y :: r) k = if y.1 = k then some y.2 else fnd r k := rfl
theorem fnd_append (L M : TbI) (k : KyI) : fnd (L ++ M) k = if (fnd L k).isSome then fnd L k else fnd M k := by
  induction L with
  | nil => simp [fnd]
  | cons y r ih =>
    rw [List.cons_append, fnd_cons, fnd_cons]
    by_cases h : y.1 = k
    · simp [h]
    · rw [if_neg h, if_neg h, ih]
theorem tw_dw (p : KyI × EnI → Bool) (L : TbI) : L.takeWhile p ++ L.dropWhile p = L := List.takeWhile_append_dropWhile
theorem fnd_ins_ne {L : TbI} {k q : KyI} {e : EnI} (h : ¬ q = k) : fnd (insT L k e) q = fnd L q := by
  unfold insT
  conv => rhs; rw [← tw_dw (fun x => ltB x.1 k) L]
  rw [fnd_append, fnd_append]
  have : fnd ((k, e) :: L.dropWhile fun x => ltB x.1 k) q = fnd (L.dropWhile fun x => ltB x.1 k) q := by
    rw [fnd, if_neg (fun e1 => h e1.symm)]
  rw [this]
theorem fnd_ins_same {L : TbI} {k : KyI} {e : EnI} (h : fnd L k = none) : fnd (insT L k e) k = some e := by
  unfold insT
  rw [fnd_append]
  have : fnd (L.takeWhile fun x => ltB x.1 k) k = none := fnd_none.2 fun x hx => fnd_none.1 h x ((List.takeWhile_sublist _).subset hx)
  rw [this]
  simp [fnd]
theorem fnd_upd_ne {L : TbI} {k q : KyI} {e : EnI} (h : ¬ q = k) : fnd (updT L k e) q = fnd L q := by
  unfold updT
  induction L with
  | nil => rfl
  | cons y r ih =>
    rw [List.map_cons]
    unfold fnd
    rw [ih]
    by_cases h1 : y.1 = k
    · rw [if_pos h1, if_neg (fun e1 => h e1.symm), if_neg (fun e1 => h (by rw [← e1, h1]))]
    · rw [if_neg h1]
theorem fnd_upd_same {L : TbI} {k : KyI} {e : EnI} (h : (fnd L k).isSome) : fnd (updT L k e) k = some e := by
  unfold updT
  induction L with
  | nil => simp [fnd] at h
  | cons y r ih =>
    rw [List.map_cons]
    unfold fnd
    by_cases h1 : y.1 = k
    · rw [if_pos h1]; simp
    · rw [if_neg h1, if_neg h1]
      unfold fnd at h
      rw [if_neg h1] at h
      exact ih h
theorem fnd_put {L : TbI} {k q : KyI} {e : EnI} : fnd (putT L k e) q = if q = k then some e else fnd L q := by
  unfold putT
  by_cases h : q = k
  · subst h
    rw [if_pos rfl]
    by_cases h1 : (fnd L q).isSome = true
    · rw [if_pos h1]; exact fnd_upd_same h1
    · rw [if_neg h1]; exact fnd_ins_same (by simpa using h1)
  · rw [if_neg h]
    split
    · exact fnd_upd_ne h
    · exact fnd_ins_ne h
theorem fnd_del {L : TbI} {k q : KyI} : fnd (delT L k) q = if q = k then none else fnd L q := by
  unfold delT
  induction L with
  | nil => simp [fnd]
  | cons y r ih =>
    by_cases h1 : y.1 = k
    · rw [List.filter_cons_of_neg (by simp [h1]), ih]
      by_cases h : q = k
      · simp [h]
      · rw [if_neg h, if_neg h, fnd, if_neg (fun e1 => h (by rw [← e1, h1]))]
    · rw [List.filter_cons_of_pos (by simp [h1])]
      rw [fnd_cons, fnd_cons, ih]
      by_cases h : q = k
      · rw [if_pos h]
        subst h
        rw [if_neg h1, if_pos rfl]
      · rw [if_neg h, if_neg h]
theorem mem_put {L : TbI} {k : KyI} {e : EnI} {x : KyI × EnI} (h : x ∈ putT L k e) : x = (k, e) ∨ (x ∈ L ∧ ¬ x.1 = k) := by
  unfold putT at h
  by_cases h1 : (fnd L k).isSome = true
  · rw [if_pos h1] at h
    unfold updT at h
    obtain ⟨y, hy, rfl⟩ := List.mem_map.1 h
    by_cases h2 : y.1 = k
    · rw [if_pos h2]; exact .inl rfl
    · rw [if_neg h2]; exact .inr ⟨hy, h2⟩
  · rw [if_neg h1] at h
    have h0 : fnd L k = none := by simpa using h1
    unfold insT at h
    have : x = (k, e) ∨ x ∈ L := by
      rcases List.mem_append.1 h with h | h
      · exact .inr ((List.takeWhile_sublist _).subset h)
      · rcases List.mem_cons.1 h with h | h
        · exact .inl h
        · exact .inr ((List.dropWhile_sublist _).subset h)
    rcases this with h | h
    · exact .inl h
    · exact .inr ⟨h, fnd_none.1 h0 x h⟩
theorem put_len {L : TbI} {k : KyI} {e : EnI} : (putT L k e).length = if (fnd L k).isSome then L.length else L.length + 1 := by
  unfold putT
  split
  · simp [updT]
  · unfold insT
    rw [List.length_append, List.length_cons]
    have := congrArg List.length (tw_dw (fun x => ltB x.1 k) L)
    rw [List.length_append] at this
    omega
theorem ins_srt {L : TbI} (hs : L.Pairwise fun x y => ltB x.1 y.1 = true) (hv : ∀ x ∈ L, vldK x.1 = true) {k : KyI} (hk : vldK k = true) (h0 : ∀ x ∈ L, ¬ x.1 = k) (e : EnI) : (insT L k e).Pairwise fun x y => ltB x.1 y.1 = true := by
  unfold insT
  induction L with
  | nil => simp
  | cons y r ih =>
    rw [List.pairwise_cons] at hs
    have hy := hv y (List.mem_cons_self ..)
    by_cases h : ltB y.1 k = true
    · rw [List.takeWhile_cons_of_pos (by simpa using h), List.dropWhile_cons_of_pos (by simpa using h), List.cons_append, List.pairwise_cons]
      refine ⟨fun x hx => ?_, ih hs.2 (fun x hx => hv x (List.mem_cons_of_mem _ hx)) (fun x hx => h0 x (List.mem_cons_of_mem _ hx))⟩
      rcases List.mem_append.1 hx with hx | hx
      · exact hs.1 x ((List.takeWhile_sublist _).subset hx)
      · rcases List.mem_cons.1 hx with hx | hx
        · rw [hx]; exact h
        · exact hs.1 x ((List.dropWhile_sublist _).subset hx)
    · rw [List.takeWhile_cons_of_neg (by simpa using h), List.dropWhile_cons_of_neg (by simpa using h), List.nil_append, List.pairwise_cons]
      have hky : ltB k y.1 = true := by
        rcases ltB_tri hk hy with e | e | e
        · exact e
        · exact absurd e.symm (h0 y (List.mem_cons_self ..))
        · exact absurd e h
      refine ⟨fun x hx => ?_, List.pairwise_cons.2 hs⟩
      rcases List.mem_cons.1 hx with hx | hx
      · rw [hx]; exact hky
      · exact ltB_trans hk hy (hv x (List.mem_cons_of_mem _ hx)) hky (hs.1 x hx)
theorem upd_srt {L : TbI} (hs : L.Pairwise fun x y => ltB x.1 y.1 = true) (k : KyI) (e : EnI) : (updT L k e).Pairwise fun x y => ltB x.1 y.1 = true := by
  unfold updT
  rw [List.pairwise_map]
  refine hs.imp fun {x y} hxy => ?_
  have h1 : ∀ z : KyI × EnI, (if z.1 = k then (k, e) else z).1 = z.1 := fun z => by split <;> simp_all
  rw [h1, h1]; exact hxy
theorem InvT.put {L : TbI} (h : InvT L) {k : KyI} (hk : rgtK k = true) (hn : KyN k) {e : EnI} (he : OkE e) (hl : (fnd L k).isSome ∨ L.length < 64) : InvT (putT L k e) := by
  refine ⟨?_, fun x hx => ?_, fun x hx => ?_, ?_⟩
  · unfold putT
    by_cases h1 : (fnd L k).isSome = true
    · rw [if_pos h1]; exact upd_srt h.srt k e
    · rw [if_neg h1]; exact ins_srt h.srt h.vld (rgt_vld hk) (fnd_none.1 (by simpa using h1)) e
  · rcases mem_put hx with e1 | e1
    · rw [e1]; exact ⟨hk, hn⟩
    · exact h.rgt x e1.1
  · rcases mem_put hx with e1 | e1
    · rw [e1]; exact he
    · exact h.ok x e1.1
  · rw [put_len]
    have := h.len
    split
    · exact this
    · rename_i h1; rcases hl with h2 | h2
      · exact absurd h2 h1
      · omega
theorem InvT.del {L : TbI} (h : InvT L) (k : KyI) : InvT (delT L k) := h.sub List.filter_sublist
/-- At a place of its own. -/
theorem put_mid {P R : TbI} {k : KyI} {e0 e : EnI} (h : InvT (P ++ (k, e0) :: R)) : fnd (P ++ (k, e0) :: R) k = some e0 ∧ putT (P ++ (k, e0) :: R) k e = P ++ (k, e) :: R ∧ delT (P ++ (k, e0) :: R) k = P ++ R := by
  have h1 : fnd (P ++ (k, e0) :: R) k = some e0 := fnd_of h.ne (by simp)
  have hn := h.ne
  rw [List.pairwise_append, List.pairwise_cons] at hn
  obtain ⟨n1, ⟨n2, n3⟩, n4⟩ := hn
  have hP : ∀ x ∈ P, ¬ x.1 = k := fun x hx => n4 x hx (k, e0) (List.mem_cons_self ..)
  have hR : ∀ x ∈ R, ¬ x.1 = k := fun x hx e => n2 x hx e.symm
  refine ⟨h1, ?_, ?_⟩
  · unfold putT
    rw [if_pos (by rw [h1]; rfl)]
    unfold updT
    rw [List.map_append, List.map_cons]
    congr 1
    · conv => rhs; rw [← List.map_id P]
      exact List.map_congr_left fun x hx => by rw [if_neg (hP x hx)]; rfl
    · rw [if_pos rfl]
      congr 1
      conv => rhs; rw [← List.map_id R]
      exact List.map_congr_left fun x hx => by rw [if_neg (hR x hx)]; rfl
  · unfold delT
    rw [List.filter_append, List.filter_cons_of_neg (by simp), List.filter_eq_self.2 (fun x hx => by simpa using hP x hx), List.filter_eq_self.2 (fun x hx => by simpa using hR x hx)]
/-! what each call answers and leaves -/
def nilS8 : ByteArray := ⟨#[]⟩
def acI (k : KyI) (kind mac : Int) (p : ByteArray) : AcI := ⟨kind, k, mac, p⟩
def stlE (m : Int) : EnI := ⟨3, m, 0, 0, []⟩
def rchE (m : Int) : EnI := ⟨2, m, 30, 0, []⟩
def sendE (k : KyI) (e : EnI) (p : ByteArray) : List AcI × EnI :=
  if e.st = 1 then
    if e.wts.length = 3 then ([acI k 4 0 (e.wts.headD nilS8)], { e with wts := e.wts.tail ++ [p] })
    else ([], { e with wts := e.wts ++ [p] })
  else if e.st = 3 then ([acI k 1 e.mac p], { e with st := 4, lft := 5 })
  else ([acI k 1 e.mac p], e)
def sendT (L : TbI) (k : KyI) (p : ByteArray) : List AcI × Int × TbI :=
  if rgtK k = true then
    match fnd L k with
    | none => if 64 ≤ L.length then ([acI k 4 0 p], 0, L) else ([acI k 2 0 nilS8], 0, putT L k ⟨1, 0, 0, 1, [p]⟩)
    | some e => ((sendE k e p).1, 0, putT L k (sendE k e p).2)
  else ([], 1, L)
def flsE (k : KyI) : EnI → List ByteArray → List AcI × EnI
  | e, [] => ([], e)
  | e, p :: r => ((sendE k e p).1 ++ (flsE k (sendE k e p).2 r).1, (flsE k (sendE k e p).2 r).2)
def setT (L : TbI) (k : KyI) (e : EnI) (ws : List ByteArray) : List AcI × TbI := ((flsE k e ws).1, putT L k (flsE k e ws).2)
def wtsK (L : TbI) (k : KyI) : List ByteArray := match fnd L k with | some e => e.wts | none => []
def lrnT (L : TbI) (k : KyI) (m : Int) : List AcI × Int × TbI :=
  if (rgtK k && macV m) = true then
    match fnd L k with
    | none => if 64 ≤ L.length then ([], 0, L) else ([], 0, putT L k (stlE m))
    | some e => if e.mac = m then ([], 0, L) else ((setT L k (stlE m) e.wts).1, 0, (setT L k (stlE m) e.wts).2)
  else ([], 1, L)
def telT (L : TbI) (k : KyI) (m : Int) (ans ov : Bool) : List AcI × Int × TbI :=
  if (rgtK k && macV m) = true then
    match fnd L k with
    | none => ([], 0, L)
    | some e =>
      if ¬ e.st = 1 ∧ ¬ e.mac = m ∧ ov = false then (if e.st = 2 then ([], 0, putT L k (stlE e.mac)) else ([], 0, L))
      else if ans = true then ((setT L k (rchE m) e.wts).1, 0, (setT L k (rchE m) e.wts).2)
      else if ¬ e.mac = m then ((setT L k (stlE m) e.wts).1, 0, (setT L k (stlE m) e.wts).2)
      else ([], 0, L)
  else ([], 1, L)
def askE (k : KyI) (e : EnI) : List AcI × Option EnI :=
  if e.ask = 3 then (e.wts.map (acI k 3 0), none) else ([acI k 2 e.mac nilS8], some { e with ask := e.ask + 1 })
def tikE (k : KyI) (e : EnI) : List AcI × Option EnI :=
  if e.st = 1 ∨ e.st = 5 then askE k e
  else if e.st = 2 then ([], some (if e.lft - 1 = 0 then stlE e.mac else { e with lft := e.lft - 1 }))
  else if e.st = 4 then (if e.lft - 1 = 0 then ([acI k 2 e.mac nilS8], some ⟨5, e.mac, 0, 1, []⟩) else ([], some { e with lft := e.lft - 1 }))
  else ([], some e)
def tikA (L : TbI) : List AcI := L.flatMap fun x => (tikE x.1 x.2).1
def tikL (L : TbI) : TbI := L.filterMap fun x => (tikE x.1 x.2).2.map fun e => (x.1, e)
def lstA (x : KyI × EnI) : List AcI := x.2.wts.map (acI x.1 4 0)
def drpA (L : TbI) (p : Int) : List AcI := (L.filter fun x => decide (x.1.1 = p)).flatMap lstA
def drpL (L : TbI) (p : Int) : TbI := L.filter fun x => !decide (x.1.1 = p)
def staT (L : TbI) (k : KyI) : Int × Int := match fnd L k with | some e => (e.st, e.mac) | none => (0, 0)
/-! what holds -/
theorem OkE.stl {m : Int} (h : macV m = true) : OkE (stlE m) := by
  unfold macV at h; simp at h
  exact .inr ⟨rfl, h, .inr (.inl rfl), ⟨by simp [stlE], by simp [stlE]⟩, ⟨by simp [stlE], by simp [stlE]⟩⟩
theorem OkE.rch {m : Int} (h : macV m = true) : OkE (rchE m) := by
  unfold macV at h; simp at h
  exact .inr ⟨rfl, h, .inl ⟨rfl, by simp [rchE], by simp [rchE]⟩, ⟨by simp [rchE], by simp [rchE]⟩, ⟨by simp [rchE], by simp [rchE]⟩⟩
theorem OkE.new (p : ByteArray) : OkE ⟨1, 0, 0, 1, [p]⟩ := .inl ⟨rfl, rfl, rfl, ⟨by simp, by simp⟩, by simp, by simp⟩
theorem OkE.send {k : KyI} {e : EnI} (h : OkE e) (p : ByteArray) : OkE (sendE k e p).2 := by
  unfold sendE
  rcases h with ⟨h1, h2, h0, h3, h4, h5⟩ | ⟨h1, h2, h3, h4, h5⟩
  · rw [if_pos h1]
    split
    · exact .inl ⟨h1, h2, h0, h3, by simp, by simp; omega⟩
    · exact .inl ⟨h1, h2, h0, h3, by simp, by simp; omega⟩
  · have hs : ¬ e.st = 1 := by omega
    rw [if_neg hs]
    split
    · exact .inr ⟨h1, h2, .inr (.inr (.inl ⟨rfl, by simp, by simp⟩)), ⟨by simp, by simp⟩, h5⟩
    · exact .inr ⟨h1, h2, h3, h4, h5⟩
theorem OkE.fls {k : KyI} : ∀ {ws : List ByteArray} {e : EnI}, OkE e → OkE (flsE k e ws).2
  | [], e, h => h
  | p :: r, e, h => OkE.fls (k := k) (ws := r) (e := (sendE k e p).2) (h.send p)
theorem OkE.tik {k : KyI} {e f : EnI} (h : OkE e) (hf : (tikE k e).2 = some f) : OkE f := by
  unfold tikE askE at hf
  rcases h with ⟨h1, h2, h0, h3, h4, h5⟩ | ⟨h1, h2, h3, h4, h5⟩
  · rw [if_pos (.inl h1)] at hf
    split at hf
    · cases hf
    · injection hf with hf
      subst hf
      exact .inl ⟨h1, h2, h0, ⟨by simp; omega, by simp; omega⟩, h4, h5⟩
  · rcases h3 with ⟨s, a, b⟩ | s | ⟨s, a, b⟩ | ⟨s, a, b⟩
    · rw [if_neg (by omega), if_pos s] at hf
      injection hf with hf
      subst hf
      split
      · exact OkE.stl (by unfold macV; simp; exact h2)
      · exact .inr ⟨h1, h2, .inl ⟨s, by simp; omega, by simp; omega⟩, ⟨by simp; omega, by simp; omega⟩, h5⟩
    · rw [if_neg (by omega), if_neg (by omega), if_neg (by omega)] at hf
      injection hf with hf
      subst hf
      exact .inr ⟨h1, h2, .inr (.inl s), h4, h5⟩
    · rw [if_neg (by omega), if_neg (by omega), if_pos s] at hf
      split at hf
      · injection hf with hf
        subst hf
        exact .inr ⟨rfl, h2, .inr (.inr (.inr ⟨rfl, by simp, by simp⟩)), ⟨by simp, by simp⟩, ⟨by simp, by simp⟩⟩
      · injection hf with hf
        subst hf
        exact .inr ⟨h1, h2, .inr (.inr (.inl ⟨s, by simp; omega, by simp; omega⟩)), ⟨by simp; omega, by simp; omega⟩, h5⟩
    · rw [if_pos (.inr s)] at hf
      split at hf
      · cases hf
      · injection hf with hf
        subst hf
        exact .inr ⟨h1, h2, .inr (.inr (.inr ⟨s, by simp; omega, by simp; omega⟩)), h4, ⟨by simp; omega, by simp; omega⟩⟩
theorem InvT.send {L : TbI} (h : InvT L) {k : KyI} (hn : KyN k) (p : ByteArray) : InvT (sendT L k p).2.2 := by
  unfold sendT
  by_cases hr : rgtK k = true
  · rw [if_pos hr]
    cases hf : fnd L k with
    | none =>
      simp only
      split
      · exact h
      · exact h.put hr hn (OkE.new p) (.inr (by omega))
    | some e => exact h.put hr hn ((h.okF hf).1.send p) (.inl (by rw [hf]; rfl))
  · rw [if_neg hr]; exact h
theorem InvT.set {L : TbI} (h : InvT L) {k : KyI} {e0 : EnI} (hf : fnd L k = some e0) {e : EnI} (he : OkE e) (ws : List ByteArray) : InvT (setT L k e ws).2 :=
  h.put (h.okF hf).2.1 (h.okF hf).2.2 he.fls (.inl (by rw [hf]; rfl))
theorem InvT.lrn {L : TbI} (h : InvT L) {k : KyI} (hn : KyN k) (m : Int) : InvT (lrnT L k m).2.2 := by
  unfold lrnT
  by_cases hr : (rgtK k && macV m) = true
  · rw [if_pos hr]
    rw [Bool.and_eq_true] at hr
    cases hf : fnd L k with
    | none =>
      simp only
      split
      · exact h
      · exact h.put hr.1 hn (OkE.stl hr.2) (.inr (by omega))
    | some e =>
      simp only
      split
      · exact h
      · exact h.set hf (OkE.stl hr.2) _
  · rw [if_neg hr]; exact h
theorem OkE.macV {e : EnI} (h : OkE e) (h1 : ¬ e.st = 1) : macV e.mac = true := by
  rcases h with h | h
  · exact absurd h.1 h1
  · unfold Go.Proofs.Ytlbkphnbpenbcaa.macV; simp; exact h.2.1
theorem InvT.tel {L : TbI} (h : InvT L) {k : KyI} (hn : KyN k) (m : Int) (ans ov : Bool) : InvT (telT L k m ans ov).2.2 := by
  unfold telT
  by_cases hr : (rgtK k && Go.Proofs.Ytlbkphnbpenbcaa.macV m) = true
  · rw [if_pos hr]
    rw [Bool.and_eq_true] at hr
    cases hf : fnd L k with
    | none => exact h
    | some e =>
      simp only
      split
      · rename_i h1
        split
        · exact h.put hr.1 hn (OkE.stl ((h.okF hf).1.macV h1.1)) (.inl (by rw [hf]; rfl))
        · exact h
      · split
        · exact h.set hf (OkE.rch hr.2) _
        · split
          · exact h.set hf (OkE.stl hr.2) _
          · exact h
  · rw [if_neg hr]; exact h
theorem tik_mem {L : TbI} {x : KyI × EnI} (h : x ∈ tikL L) : ∃ e, (x.1, e) ∈ L ∧ (tikE x.1 e).2 = some x.2 := by
  unfold tikL at h
  obtain ⟨y, hy, h⟩ := List.mem_filterMap.1 h
  obtain ⟨f, hf, rfl⟩ := Option.map_eq_some_iff.1 h
  exact ⟨y.2, hy, hf⟩
theorem InvT.tik {L : TbI} (h : InvT L) : InvT (tikL L) := by
  refine ⟨?_, fun x hx => ?_, fun x hx => ?_, Nat.le_trans (List.length_filterMap_le _ _) h.len⟩
  · unfold tikL
    rw [List.pairwise_filterMap]
    refine h.srt.imp fun {x y} hxy b hb c hc => ?_
    obtain ⟨f, hf, rfl⟩ := Option.map_eq_some_iff.1 hb
    obtain ⟨g, hg, rfl⟩ := Option.map_eq_some_iff.1 hc
    exact hxy
  · obtain ⟨e, he, -⟩ := tik_mem hx
    exact h.rgt (x.1, e) he
  · obtain ⟨e, he, hf⟩ := tik_mem hx
    exact (h.ok _ he).tik hf
theorem InvT.drp {L : TbI} (h : InvT L) (p : Int) : InvT (drpL L p) := h.sub List.filter_sublist
end Go.Proofs.Ytlbkphnbpenbcaa
