/-
  Several texts in one: IpA, IpB, IpC, IpD.
-/
import Derived.Test.YtabbclocgkhnhaaIfX
import Derived.Maps.OwnOps
import Derived.Maps.OwnSet
import Derived.Test.YtabbclocgkhnhaaIfU
import Derived.Test.YtabbclocgkhnhaaAdq
import Derived.Lib.SliceRun
import Derived.Shelf.Abstract

namespace Go.Proofs.Ytabbclocgkhnhaa
open Go.RowKit Go.Maps
set_option linter.unusedVariables false

/-- The ports' cells, each with its row of locals. -/
def mmC (P : List Prt) (lv : List Value) : List Value := (P.zip lv).flatMap fun x => prC x.1 ++ [x.2]
theorem flatk_len {α : Type} {f : α → List Value} {n : Nat} (hf : ∀ x, (f x).length = n) (l : List α) : (l.flatMap f).length = l.length * n := by
  induction l with
  | nil => simp
  | cons y r ih => rw [List.flatMap_cons, List.length_append, hf, ih, List.length_cons, Nat.succ_mul]; omega
theorem flatk_at {α : Type} {f : α → List Value} {n : Nat} (hf : ∀ x, (f x).length = n) {l : List α} {i : Nat} {x : α} (hx : l[i]? = some x) {k : Nat} (hk : k < n) : (l.flatMap f)[i * n + k]? = (f x)[k]? := by
  induction l generalizing i with
  | nil => simp at hx
  | cons y r ih =>
    rw [List.flatMap_cons]
    cases i with
    | zero =>
      simp at hx; subst hx
      rw [List.getElem?_append_left (by rw [hf]; omega)]
      congr 1; omega
    | succ i =>
      rw [List.getElem?_append_right (by rw [hf, Nat.succ_mul]; omega), hf, show (i + 1) * n + k - n = i * n + k by rw [Nat.succ_mul]; omega]
      exact ih (by simpa using hx)
theorem mm_five (x : Prt × Value) : (prC x.1 ++ [x.2]).length = 5 := rfl
theorem mm_len {P : List Prt} {lv : List Value} (h : lv.length = P.length) : (mmC P lv).length = P.length * 5 := by
  unfold mmC
  rw [flatk_len mm_five, List.length_zip, h, Nat.min_self]
theorem mm_zip {P : List Prt} {lv : List Value} {i : Nat} {p : Prt} {v : Value} (hp : P[i]? = some p) (hv : lv[i]? = some v) : (P.zip lv)[i]? = some (p, v) := by
  rw [List.getElem?_zip_eq_some]
  exact ⟨hp, hv⟩
theorem mm_at {P : List Prt} {lv : List Value} {i : Nat} {p : Prt} {v : Value} (hp : P[i]? = some p) (hv : lv[i]? = some v) {k : Nat} (hk : k < 5) : (mmC P lv)[i * 5 + k]? = (prC p ++ [v])[k]? :=
  flatk_at mm_five (mm_zip hp hv) hk
theorem mm_app {P : List Prt} {lv : List Value} (h : lv.length = P.length) (p : Prt) (v : Value) : mmC (P ++ [p]) (lv ++ [v]) = mmC P lv ++ (prC p ++ [v]) := by
  unfold mmC
  rw [List.zip_append h.symm, List.flatMap_append]
  simp
/-- One of its cells set anew. -/
theorem mm_set {P : List Prt} {lv : List Value} {i : Nat} {p p' : Prt} {v v' : Value} (h : lv.length = P.length) (hp : P[i]? = some p) (hv : lv[i]? = some v) {k : Nat} {u : Value} (hk : k < 5) (hu : (prC p ++ [v]).set k u = prC p' ++ [v']) :
    (mmC P lv).set (i * 5 + k) u = mmC (P.set i p') (lv.set i v') := by
  induction P generalizing lv i with
  | nil => simp at hp
  | cons y r ih =>
    cases lv with
    | nil => simp at hv
    | cons z s =>
      cases i with
      | zero =>
        simp at hp hv
        subst hp hv
        show (prC y ++ [z] ++ mmC r s).set (0 * 5 + k) u = prC p' ++ [v'] ++ mmC r s
        rw [← hu, List.set_append_left _ _ (by simp [prC]; omega)]
        congr 2
        omega
      | succ i =>
        show (prC y ++ [z] ++ mmC r s).set ((i + 1) * 5 + k) u = prC y ++ [z] ++ mmC (r.set i p') (s.set i v')
        rw [List.set_append_right _ _ (by simp [prC]; omega), ← ih (by simpa using h) (by simpa using hp) (by simpa using hv)]
        congr 2
        simp [prC]
        omega
theorem modI_set {α : Type} {l : List α} {i : Nat} {x : α} (h : l[i]? = some x) (f : α → α) : l.modify i f = l.set i (f x) := by
  apply List.ext_getElem?
  intro j
  rw [List.getElem?_modify, List.getElem?_set]
  by_cases hj : i = j
  · subst hj
    rw [h]
    have := (List.getElem?_eq_some_iff.1 h).1
    simp [this]
  · rw [if_neg hj]
    cases l[j]? <;> simp [hj]
theorem keyS (l : List UInt8) : WideAt.IsKeyLit (.string l) := by simp [WideAt.IsKeyLit]
theorem fndI_app {α : Type} (p : α → Bool) (l : List α) (x : α) : fndI p (l ++ [x]) = if fndI p l = 0 then (if p x = true then l.length + 1 else 0) else fndI p l := by
  induction l with
  | nil =>
    show fndI p [x] = _
    unfold fndI
    by_cases h : p x = true
    · simp [h]
    · simp [h, fndI]
  | cons y r ih =>
    rw [List.cons_append]
    unfold fndI
    by_cases h : p y = true
    · simp [h]
    · rw [if_neg h, if_neg h, ih]
      by_cases h0 : fndI p r = 0
      · simp [h0]
        split <;> simp_all
      · simp [h0]
/-- What the map of names says. -/
def NmIs (D : DataW Unit) (P : List Prt) : Prop := ∀ nm : ByteArray, D.atKey (.string nm.data.toList) (.lit (.int .i64 0)) = .lit (.int .i64 (namedI P nm : Int))
theorem NmIs.nil : NmIs (.map []) [] := fun nm => rfl
theorem namedI_app {P : List Prt} {q : Prt} (h : namedI P q.1 = 0) (nm : ByteArray) : namedI (P ++ [q]) nm = if nm = q.1 then P.length + 1 else namedI P nm := by
  unfold namedI at h ⊢
  rw [fndI_app]
  by_cases e : nm = q.1
  · subst e
    simp [h]
  · have e2 : decide (q.1 = nm) = false := by simpa using fun x => e x.symm
    rw [e2, if_neg e]
    simp
    intro h; exact h.symm
theorem NmIs.put {D : DataW Unit} {P : List Prt} {q : Prt} (h : NmIs D P) (hD : IsMap D) (hn : namedI P q.1 = 0) : NmIs (D.put (.string q.1.data.toList) (.lit (.int .i64 ((P.length + 1 : Nat) : Int)))) (P ++ [q]) := by
  intro nm
  rw [namedI_app hn]
  by_cases e : nm = q.1
  · subst e
    rw [if_pos rfl]
    exact Maps.atKey_put_same hD (keyS _) _ _
  · rw [if_neg e, Maps.atKey_put_other (fun x => e (by injection x with x; exact ByteArray.ext (Array.toList_inj.1 x)))]
    exact h nm
theorem map_tch {w w' : World} {T : List Nat} {P : Program} {k : TypeId} {R : Value → Option (DataW Unit × List MemPlace)} {b n : Nat} {D : DataW Unit} (h : w.ownsMap P k R b n D) (ht : Tch w w' T) (hn : b ∉ T) : w'.ownsMap P k R b n D := by
  have hlt := h.lt
  obtain ⟨es, clock, hb, F, hs, hD⟩ := h
  exact ⟨es, clock, (ht.block b hlt hn).trans hb, F, hs, hD⟩
abbrev I64 (x : Int) : Prop := (Lit.int .i64 x).wf = true
theorem I64.b {x : Int} (h : I64 x) : -9223372036854775808 ≤ x ∧ x ≤ 9223372036854775807 := by
  unfold I64 at h
  simpa [Lit.wf, IntKind.min, IntKind.max, IntKind.bits, IntKind.signed] using h
/-- The program's set: p its block, S all its blocks. -/
def IfP (w : World) (p : Nat) (S : List Nat) (st : StI) : Prop := ∃ (AM : Option Addr) (cM m : Nat) (lv : List Value) (D : DataW Unit),
  S = p :: m :: (obI (.slice AM st.1.length cM) ++ lv.flatMap obI) ∧ S.Nodup ∧
  Blk w p 63 #[.slice AM st.1.length cM, .map (some m)] ∧
  w.ownsRow 0 74 5 (.slice AM st.1.length cM) st.1.length (mmC st.1 lv) ∧ w.ownsMap Try.prog 9 (plainElem Try.prog 3) m st.1.length D ∧ NmIs D st.1 ∧
  lv.length = st.1.length ∧ (∀ (i : Nat) (l : List Loc), st.2[i]? = some l → ∃ A c, lv[i]? = some (.slice A l.length c) ∧ w.ownsRow 0 42 4 (.slice A l.length c) l.length (l.flatMap lcC)) ∧ InvI st
section
variable {w w' : World} {p : Nat} {S T : List Nat} {st : StI}
theorem IfP.inv (h : IfP w p S st) : InvI st := by
  obtain ⟨AM, cM, m, lv, D, h1, h2, h3, h4, h5, h6, h7, h8, h9⟩ := h
  exact h9
theorem IfP.few (h : IfP w p S st) : st.1.length ≤ 8 := h.inv.few
theorem IfP.lt (h : IfP w p S st) : ∀ s ∈ S, s < w.heap.size := by
  obtain ⟨AM, cM, m, lv, D, rfl, h2, h3, h4, h5, h6, h7, h8, h9⟩ := h
  intro s hs
  rcases List.mem_cons.1 hs with h | h
  · subst h; exact h3.lt
  rcases List.mem_cons.1 h with h | h
  · subst h; exact h5.lt
  rcases List.mem_append.1 h with h | h
  · exact own_lts h4 s h
  obtain ⟨v, hv, hs⟩ := List.mem_flatMap.1 h
  obtain ⟨i, hi⟩ := List.mem_iff_getElem?.1 hv
  have hil := (List.getElem?_eq_some_iff.1 hi).1
  obtain ⟨A, c, e, ho⟩ := h8 i _ (List.getElem?_eq_getElem (by rw [← h9.len]; omega))
  rw [hi] at e
  injection e with e
  subst e
  exact own_lts ho s hs
theorem IfP.pin (h : IfP w p S st) : p ∈ S := by
  obtain ⟨AM, cM, m, lv, D, rfl, -⟩ := h
  simp
theorem IfP.tch (h : IfP w p S st) (ht : Tch w w' T) (hn : ∀ s ∈ S, s ∉ T) : IfP w' p S st := by
  obtain ⟨AM, cM, m, lv, D, rfl, h2, h3, h4, h5, h6, h7, h8, h9⟩ := h
  refine ⟨AM, cM, m, lv, D, rfl, h2, ht.blk h3 (hn p (by simp)), own_tch h4 ht (fun s hs => hn s (by simp [hs])), map_tch h5 ht (hn m (by simp)), h6, h7, fun i l hl => ?_, h9⟩
  obtain ⟨A, c, e, ho⟩ := h8 i l hl
  refine ⟨A, c, e, own_tch ho ht (fun s hs => hn s ?_)⟩
  have : s ∈ lv.flatMap obI := List.mem_flatMap.2 ⟨_, List.mem_of_getElem? e, hs⟩
  simp only [List.mem_cons, List.mem_append]
  exact .inr (.inr (.inr this))
/-- What is read of the set itself. -/
theorem IfP.head (h : IfP w p S st) : ∃ (AM : Option Addr) (cM m : Nat) (D : DataW Unit), w.cell? ⟨p, 0, none⟩ = some (.slice AM st.1.length cM) ∧ w.cell? ⟨p, 1, none⟩ = some (.map (some m)) ∧ w.ownsMap Try.prog 9 (plainElem Try.prog 3) m st.1.length D ∧ NmIs D st.1 ∧ p < w.heap.size := by
  obtain ⟨AM, cM, m, lv, D, h1, h2, h3, h4, h5, h6, h7, h8, h9⟩ := h
  exact ⟨AM, cM, m, D, (h3.cell 0).trans rfl, (h3.cell 1).trans rfl, h5, h6, h3.lt⟩
/-- What is read of one of its ports. -/
theorem IfP.at_ (h : IfP w p S st) {i : Nat} (hi : i < st.1.length) : ∃ (gM cM c : Nat) (A : Option Addr) (q : Prt) (l : List Loc), w.cell? ⟨p, 0, none⟩ = some (.slice (some ⟨gM, 0, none⟩) st.1.length cM) ∧
    st.1[i]? = some q ∧ st.2[i]? = some l ∧ w.cell? ⟨gM, i * 5, none⟩ = some (.string q.1) ∧ w.cell? ⟨gM, i * 5 + 1, none⟩ = some (.int .u64 q.2.1) ∧ w.cell? ⟨gM, i * 5 + 2, none⟩ = some (.int .i64 q.2.2.1) ∧
    w.cell? ⟨gM, i * 5 + 3, none⟩ = some (.bool q.2.2.2) ∧ w.cell? ⟨gM, i * 5 + 4, none⟩ = some (.slice A l.length c) ∧ w.ownsRow 0 42 4 (.slice A l.length c) l.length (l.flatMap lcC) ∧ l.length ≤ 8 ∧ p < w.heap.size ∧ gM < w.heap.size ∧ (∀ k, w.frozen? ⟨gM, k, none⟩ = false) ∧ gM ∈ S := by
  have hlen := h.inv.len
  have h8' := h.inv.loc
  obtain ⟨AM, cM, m, lv, D, rfl, h2, h3, h4, h5, h6, h7, h8, h9⟩ := h
  obtain ⟨gM, rfl⟩ := slice_some h4 (by omega)
  obtain ⟨q, hq⟩ : ∃ q, st.1[i]? = some q := ⟨_, List.getElem?_eq_getElem hi⟩
  obtain ⟨l, hl⟩ : ∃ l, st.2[i]? = some l := ⟨_, List.getElem?_eq_getElem (by omega)⟩
  obtain ⟨A, c, e, ho⟩ := h8 i l hl
  have hat := fun k hk => mm_at (k := k) hq e hk
  refine ⟨gM, cM, c, A, q, l, (h3.cell 0).trans rfl, hq, hl, own_cellN h4 (hat 0 (by decide)), own_cellN h4 (hat 1 (by decide)), own_cellN h4 (hat 2 (by decide)), own_cellN h4 (hat 3 (by decide)), own_cellN h4 (hat 4 (by decide)), ho, h8' l (List.mem_of_getElem? hl), h3.lt, own_lt h4 rfl, fun k => ?_, by rw [obI_some rfl]; simp⟩
  rcases h4.2 with ⟨e, -⟩ | ⟨g', cap, cur, e, -, hb, -⟩
  · cases e
  · injection e with e2
    injection e2 with e2
    injection e2 with e2
    subst e2
    exact Blk.frozen hb _
end
end Go.Proofs.Ytabbclocgkhnhaa

namespace Go.Proofs.Ytabbclocgkhnhaa
open Go.RowKit Go.Maps
set_option linter.unusedVariables false

set_option maxHeartbeats 1000000 in
theorem member_at (p gM n cM i : Nat) (port : Int) (hn : n ≤ 8) (hi : i < n) (hp : port = (i : Int) + 1) (w : World) (c0 : w.cell? ⟨p, 0, none⟩ = some (.slice (some ⟨gM, 0, none⟩) n cM)) :
    Calls Try.prog 40 #[.pointer (some ⟨p, 0, none⟩), .int .i64 port] w fun e w' => e = .returned (.pointer (some ⟨gM, i * 5, none⟩)) ∧ w = w' := by
  have p1 : ¬ port < 1 := by omega
  have p2 : ¬ (n : Int) < port := by omega
  have j1 : IntKind.i64.wrap (port - 1) = (i : Int) := by rw [IntKind.wrap_i64]; omega
  have i0 : (0 : Int) ≤ (i : Int) := by omega
  have i1 : (i : Int) < (n : Int) := by omega
  clear hp hi hn
  go_enter Try.func40, Try.ntmps40
  go_wp2
  go_ret
  exact ⟨rfl, rfl⟩
set_option maxHeartbeats 1000000 in
theorem member_no (p n cM : Nat) (AM : Option Addr) (port : Int) (hp : ¬ (1 ≤ port ∧ port ≤ (n : Int))) (w : World) (c0 : w.cell? ⟨p, 0, none⟩ = some (.slice AM n cM)) :
    Calls Try.prog 40 #[.pointer (some ⟨p, 0, none⟩), .int .i64 port] w fun e w' => e = .returned (.pointer none) ∧ w = w' := by
  by_cases p1 : port < 1
  · clear hp
    go_enter Try.func40, Try.ntmps40
    go_wp2
    go_ret
    exact ⟨rfl, rfl⟩
  · have p2 : (n : Int) < port := by omega
    clear hp
    go_enter Try.func40, Try.ntmps40
    go_wp2
    go_ret
    exact ⟨rfl, rfl⟩
theorem there_no {st : StI} {port : Int} (h : thereI st port = false) : ¬ (1 ≤ port ∧ port ≤ (st.1.length : Int)) := by unfold thereI at h; simpa using h
theorem pmember_no (p : Nat) (S : List Nat) (st : StI) (port : Int) (ht : thereI st port = false) (w : World) (h : IfP w p S st) :
    Calls Try.prog 40 #[.pointer (some ⟨p, 0, none⟩), .int .i64 port] w fun e w' => e = .returned (.pointer none) ∧ w = w' := by
  obtain ⟨AM, cM, m, D, c0, -⟩ := h.head
  exact member_no p _ cM AM port (there_no ht) w c0
/-- All that is read of a port that is there. -/
theorem IfP.is {w : World} {p : Nat} {S : List Nat} {st : StI} (h : IfP w p S st) {port : Int} (ht : thereI st port = true) : ∃ (gM cM c i n : Nat) (A : Option Addr) (q : Prt) (l : List Loc), w.cell? ⟨p, 0, none⟩ = some (.slice (some ⟨gM, 0, none⟩) n cM) ∧
    st.1[i]? = some q ∧ st.2[i]? = some l ∧ w.cell? ⟨gM, i * 5, none⟩ = some (.string q.1) ∧ w.cell? ⟨gM, i * 5 + 1, none⟩ = some (.int .u64 q.2.1) ∧ w.cell? ⟨gM, i * 5 + 2, none⟩ = some (.int .i64 q.2.2.1) ∧
    w.cell? ⟨gM, i * 5 + 3, none⟩ = some (.bool q.2.2.2) ∧ w.cell? ⟨gM, i * 5 + 4, none⟩ = some (.slice A l.length c) ∧ w.ownsRow 0 42 4 (.slice A l.length c) l.length (l.flatMap lcC) ∧ l.length ≤ 8 ∧ p < w.heap.size ∧ gM < w.heap.size ∧ (∀ k, w.frozen? ⟨gM, k, none⟩ = false) ∧ gM ∈ S ∧
    n = st.1.length ∧ n ≤ 8 ∧ i < n ∧ port = (i : Int) + 1 ∧ idxI port = i := by
  obtain ⟨q', l', -, -, -, -, hlt, hpe⟩ := locI_at h.inv ht
  obtain ⟨gM, cM, c, A, q, l, h1, h2, h3, h4, h5, h6, h7, h8, h9, h10, h11, h12, h13, h14⟩ := h.at_ hlt
  exact ⟨gM, cM, c, idxI port, st.1.length, A, q, l, h1, h2, h3, h4, h5, h6, h7, h8, h9, h10, h11, h12, h13, h14, rfl, h.few, hlt, hpe, rfl⟩
theorem there_idx {st : StI} {port : Int} {i : Nat} (h : idxI port = i) {q : Prt} {l : List Loc} (hq : st.1[i]? = some q) (hl : st.2[i]? = some l) (ht : thereI st port = true) : portI st port = q ∧ localsI st port = l ∧ locI st port = l ∧ mtuI st port = q.2.2.1 := by
  subst h
  refine ⟨by unfold portI; rw [ht, hq]; rfl, by unfold localsI locI; rw [ht, hl]; rfl, by unfold locI; rw [hl]; rfl, by unfold mtuI; rw [hq]; rfl⟩
set_option maxRecDepth 100000 in
set_option maxHeartbeats 1000000 in
/-- The program's own locals: the row in the set's own memory. -/
theorem plocals_any (p : Nat) (S : List Nat) (st : StI) (port : Int) (w : World) (h : IfP w p S st) :
    Calls Try.prog 39 #[.pointer (some ⟨p, 0, none⟩), .int .i64 port] w fun e w' => ∃ A c, e = .returned (.slice A (localsI st port).length c) ∧ w.ownsRow 0 42 4 (.slice A (localsI st port).length c) (localsI st port).length ((localsI st port).flatMap lcC) ∧ w = w' := by
  cases hth : thereI st port with
  | false =>
    have HM := Lib.hid (pmember_no p S st port hth w h)
    have e1 : localsI st port = [] := by unfold localsI; rw [hth]; rfl
    rw [e1]
    clear h e1 hth
    go_enter Try.func39, Try.ntmps39
    go_wp2_with fail
    refine Calls.mono HM.out ?_
    rintro e w' ⟨rfl, rfl⟩
    go_wp2
    go_ret
    exact ⟨none, 0, rfl, ⟨rfl, .inl ⟨rfl, rfl⟩⟩, rfl⟩
  | true =>
    obtain ⟨gM, cM, c, i, n, A, q, l, c0, hq, hl, x0, x1, x2, x3, x4, hO, hl8, hpl, hgl, hfz, hgS, hnn, hn8, hin, hpe, hix⟩ := h.is hth
    have HM := Lib.hid (member_at p gM n cM i port hn8 hin hpe w c0)
    rw [(there_idx hix hq hl hth).2.1]
    have HO := Lib.hid hO
    obtain ⟨m, hm⟩ : ∃ m, l.length = m := ⟨_, rfl⟩
    rw [hm] at x4 HO ⊢
    clear h c0 hq hl x0 x1 x2 x3 hO hl8 hpl hgl hfz hgS hnn hn8 hin hpe hix hth hm
    go_enter Try.func39, Try.ntmps39
    go_wp2_with fail
    refine Calls.mono HM.out ?_
    rintro e w' ⟨rfl, rfl⟩
    go_wp2
    go_ret
    exact ⟨A, c, rfl, HO.out, rfl⟩
set_option maxRecDepth 100000 in
set_option maxHeartbeats 1000000 in
theorem portP (p : Nat) (S : List Nat) (st : StI) (port : Int) (hi : I64 port) (w : World) (h : IfP w p S st) :
    Calls Try.prog 16 #[.pointer (some ⟨p, 0, none⟩), .int .i64 port] w fun e w' => e = .returned (.tuple #[.agg (prC (portI st port)).toArray, .bool (thereI st port)]) ∧ IfP w' p S st ∧ Tch w w' S := by
  obtain ⟨xb, hxb⟩ : ∃ xb, w.heap.size = xb := ⟨_, rfl⟩
  obtain ⟨W0, hW0⟩ : ∃ W, w.alloc (.cells #[.string ⟨#[]⟩, .int .u64 0, .int .i64 0, .bool false] 46) = W := ⟨_, rfl⟩
  have HX : Hid (Blk W0 xb 46 #[.string ⟨#[]⟩, .int .u64 0, .int .i64 0, .bool false]) := Lib.hid (hW0 ▸ hxb ▸ Blk.new _ _ _)
  have HT0 : Hid (Tch w W0 []) := Lib.hid (hW0 ▸ (Tch.refl w []).alloc _)
  have hD0 := h.tch HT0.out (by simp)
  have HP0 := Lib.hid h
  have HW0 := Lib.hid (And.intro hW0 hxb)
  have HXb : Hid (w.heap.size ≤ xb) := Lib.hid (by omega)
  cases hth : thereI st port with
  | false =>
    have HM := Lib.hid (pmember_no p S st port hth W0 hD0)
    have HE : Hid (portI st port = (⟨#[]⟩, 0, 0, false)) := Lib.hid (by unfold portI; rw [hth]; rfl)
    clear hW0 hxb h hD0 hth hi
    go_enter Try.func16, Try.ntmps16
    go_wp2_with fail
    rw [HW0.out.1, HW0.out.2]
    refine Calls.mono HM.out ?_
    rintro e w' ⟨rfl, rfl⟩
    go_wp2_with (refine wpList_sta rfl 46 (.tmp 4) (.tmp 12) rfl xb 0 #[.string ⟨#[]⟩, .int .u64 0, .int .i64 0, .bool false] rfl rfl 46 #[.string ⟨#[]⟩, .int .u64 0, .int .i64 0, .bool false] HX.out 4 sizePt rfl (by decide) (by simp [Value.oneCell']) ?_; intro w4 hs4; have HS4 := Lib.hid hs4; clear hs4)
    obtain ⟨⟨cur', k1, k2, k3, k4⟩, hT4⟩ := HS4.out
    have z0 := (k1.cell 0).trans ((k4 0 (by decide)).trans rfl)
    have z1 := (k1.cell 1).trans ((k4 1 (by decide)).trans rfl)
    have z2 := (k1.cell 2).trans ((k4 2 (by decide)).trans rfl)
    have z3 := (k1.cell 3).trans ((k4 3 (by decide)).trans rfl)
    have hTT : Tch w w4 [] := HT0.out.trans_fre hT4 (by simp; exact HXb.out)
    exact bodyPost_ret (v := .tuple #[.agg #[.string ⟨#[]⟩, .int .u64 0, .int .i64 0, .bool false], .bool false]) (by simp [results, Try.results16, go_sem, z0, z1, z2, z3]) rfl ⟨by rw [HE.out]; rfl, HP0.out.tch hTT (by simp), hTT.mono (by simp)⟩
  | true =>
    obtain ⟨gM, cM, c, i, n, A, q, l, c0, hq, hl, x0, x1, x2, x3, x4, hO, hl8, hpl, hgl, hfz, hgS, hnn, hn8, hin, hpe, hix⟩ := hD0.is hth
    have HM := Lib.hid (member_at p gM n cM i port hn8 hin hpe W0 c0)
    have HE : Hid (portI st port = q) := Lib.hid (there_idx hix hq hl hth).1
    obtain ⟨pn, pm, pt, pu⟩ := q
    clear hW0 hxb h hD0 c0 hq hl x4 hO hl8 hpl hgl hfz hgS hnn hn8 hin hpe hix hth hi
    go_enter Try.func16, Try.ntmps16
    go_wp2_with fail
    rw [HW0.out.1, HW0.out.2]
    refine Calls.mono HM.out ?_
    rintro e w' ⟨rfl, rfl⟩
    go_wp2_with (refine wpList_sta rfl 46 (.tmp 4) (.tmp 16) rfl xb 0 #[.string pn, .int .u64 pm, .int .i64 pt, .bool pu] rfl rfl 46 #[.string ⟨#[]⟩, .int .u64 0, .int .i64 0, .bool false] HX.out 4 sizePt rfl (by decide) (by simp [Value.oneCell']) ?_; intro w4 hs4; have HS4 := Lib.hid hs4; clear hs4)
    obtain ⟨⟨cur', k1, k2, k3, k4⟩, hT4⟩ := HS4.out
    have z0 := (k1.cell 0).trans ((k4 0 (by simp)).trans rfl)
    have z1 := (k1.cell 1).trans ((k4 1 (by simp)).trans rfl)
    have z2 := (k1.cell 2).trans ((k4 2 (by simp)).trans rfl)
    have z3 := (k1.cell 3).trans ((k4 3 (by simp)).trans rfl)
    have hTT : Tch w w4 [] := HT0.out.trans_fre hT4 (by simp; exact HXb.out)
    exact bodyPost_ret (v := .tuple #[.agg #[.string pn, .int .u64 pm, .int .i64 pt, .bool pu], .bool true]) (by simp [results, Try.results16, go_sem, z0, z1, z2, z3]) rfl ⟨by rw [HE.out]; rfl, HP0.out.tch hTT (by simp), hTT.mono (by simp)⟩
/-- One port set anew. -/
theorem IfP.setUp {w : World} {p : Nat} {S : List Nat} {st : StI} (h : IfP w p S st) {i gM cM : Nat} {q q' : Prt} (hc : w.cell? ⟨p, 0, none⟩ = some (.slice (some ⟨gM, 0, none⟩) st.1.length cM)) (hq : st.1[i]? = some q) {k : Nat} {u : Value} (hk : k < 4) (hu : (prC q).set k u = prC q') (hnm : q'.1 = q.1) (hinv : InvI (st.1.set i q', st.2)) :
    IfP (w.setCell ⟨gM, i * 5 + k, none⟩ u) p S (st.1.set i q', st.2) ∧ Tch w (w.setCell ⟨gM, i * 5 + k, none⟩ u) S := by
  obtain ⟨AM, cM', m, lv, D, rfl, h2, h3, h4, h5, h6, h7, h8, h9⟩ := h
  rw [(h3.cell 0).trans (show _ = some (Value.slice AM st.1.length cM') by rfl)] at hc
  injection hc with hc
  injection hc with hc hcn hcc
  subst hc hcc
  have hil := (List.getElem?_eq_some_iff.1 hq).1
  obtain ⟨l, hl⟩ : ∃ l, st.2[i]? = some l := ⟨_, List.getElem?_eq_getElem (by have := h9.len; omega)⟩
  obtain ⟨A, c, e, ho⟩ := h8 i l hl
  have ob0 : obI (.slice (some ⟨gM, 0, none⟩) st.1.length cM') = [gM] := rfl
  have hT : Tch w (w.setCell ⟨gM, i * 5 + k, none⟩ u) [gM] := (Tch.refl w [gM]).set_ (p := ⟨gM, i * 5 + k, none⟩) (by simp) _
  have hnd := h2
  rw [ob0, List.nodup_cons, List.nodup_cons, List.singleton_append, List.nodup_cons] at hnd
  obtain ⟨n1, n2, n3, n4⟩ := hnd
  have hlen : (st.1.set i q').length = st.1.length := by simp
  have hset := own_setN h4 (i := i * 5 + k) (by omega) u
  rw [mm_set (v' := .slice A l.length c) (p' := q') h7 hq e (by omega) (by rw [List.set_append_left _ _ (by simp [prC]; omega), hu]), (show lv.set i (.slice A l.length c) = lv from by
    apply List.ext_getElem?
    intro j
    rw [List.getElem?_set]
    split
    · rename_i hj; subst hj
      rw [e]; simp; omega
    · rfl)] at hset
  have hnm2 : ∀ nm, namedI (st.1.set i q') nm = namedI st.1 nm := by
    intro nm
    unfold namedI
    have e1 : (st.1.set i q').map (·.1) = st.1.map (·.1) := by
      rw [List.map_set, hnm]
      apply List.ext_getElem?
      intro j
      rw [List.getElem?_set]
      split
      · rename_i hj; subst hj
        rw [List.getElem?_map, hq]; simp; omega
      · rfl
    have key : ∀ (P Q : List Prt), P.map (·.1) = Q.map (·.1) → fndI (fun x : Prt => decide (x.1 = nm)) P = fndI (fun x : Prt => decide (x.1 = nm)) Q := by
      intro P
      induction P with
      | nil => intro Q hQ; cases Q with | nil => rfl | cons _ _ => simp at hQ
      | cons y r ih =>
        intro Q hQ
        cases Q with
        | nil => simp at hQ
        | cons z s =>
          rw [List.map_cons, List.map_cons] at hQ
          injection hQ with e2 e3
          unfold fndI
          rw [ih s e3, e2]
    exact key _ _ e1
  refine ⟨⟨some ⟨gM, 0, none⟩, cM', m, lv, D, by simp only [hlen], h2, ?_, ?_, ?_, fun nm => ?_, ?_, fun j l2 hj => ?_, hinv⟩, hT.mono (by rw [ob0]; simp)⟩
  · simp only [hlen]; exact hT.blk h3 (fun hm => n1 (by simp at hm; simp [hm]))
  · simp only [hlen]; exact hset
  · simp only [hlen]; exact map_tch h5 hT (fun hm => n2 (by simp at hm; simp [hm]))
  · rw [h6 nm, hnm2 nm]
  · simp only [hlen]; exact h7
  · obtain ⟨A2, c2, e2, ho2⟩ := h8 j l2 hj
    exact ⟨A2, c2, e2, own_tch ho2 hT (fun s hs hm => n3 (by rw [List.mem_singleton.1 hm] at hs; exact List.mem_flatMap.2 ⟨_, List.mem_of_getElem? e2, hs⟩))⟩
set_option maxRecDepth 100000 in
set_option maxHeartbeats 1000000 in
theorem turnP (p : Nat) (S : List Nat) (st : StI) (port : Int) (up : Bool) (hi : I64 port) (w : World) (h : IfP w p S st) :
    Calls Try.prog 23 #[.pointer (some ⟨p, 0, none⟩), .int .i64 port, .bool up] w fun e w' => e = .returned (.int .i64 (turnI st port up).2) ∧ ∃ S', IfP w' p S' (turnI st port up).1 ∧ Goes w w' S S' := by
  have hinv := h.inv.turn port up
  have HP0 := Lib.hid h
  cases hth : thereI st port with
  | false =>
    have HM := Lib.hid (pmember_no p S st port hth w h)
    have HE : Hid (turnI st port up = (st, 132)) := Lib.hid (by unfold turnI; rw [hth]; rfl)
    clear h hinv hth hi
    go_enter Try.func23, Try.ntmps23
    go_wp2_with fail
    refine Calls.mono HM.out ?_
    rintro e w' ⟨rfl, rfl⟩
    go_wp2
    go_ret
    rw [HE.out]
    exact ⟨rfl, S, HP0.out, Goes.of_tch (Tch.refl _ _)⟩
  | true =>
    obtain ⟨gM, cM, c, i, n, A, q, l, c0, hq, hl, x0, x1, x2, x3, x4, hO, hl8, hpl, hgl, hfz, hgS, hnn, hn8, hin, hpe, hix⟩ := h.is hth
    have HM := Lib.hid (member_at p gM n cM i port hn8 hin hpe w c0)
    have e1 : turnI st port up = ((st.1.set i (q.1, q.2.1, q.2.2.1, up), st.2), 0) := by
      unfold turnI
      rw [hth, hix]
      have := modI_set hq (fun p => (p.1, p.2.1, p.2.2.1, up))
      rw [this]; rfl
    rw [e1] at hinv ⊢
    obtain ⟨k1, k2⟩ := h.setUp (k := 3) (u := .bool up) (by rw [hnn] at c0; exact c0) hq (by decide) (q' := (q.1, q.2.1, q.2.2.1, up)) rfl rfl hinv
    have HK := Lib.hid (And.intro k1 k2)
    have f3 := hfz (i * 5 + 3)
    clear h c0 hq hl x0 x1 x2 x4 hO hl8 hpl hgl hfz hgS hnn hn8 hin hpe hix hth hi hinv e1 k1 k2
    go_enter Try.func23, Try.ntmps23
    go_wp2_with fail
    refine Calls.mono HM.out ?_
    rintro e w' ⟨rfl, rfl⟩
    go_wp2
    go_ret
    exact ⟨rfl, S, HK.out.1, Goes.of_tch HK.out.2⟩
theorem lawN : Keyed Try.prog 9 := string_keyed Try.underlying9
theorem zeroN (w : World) : (zeroValue 3).run Try.prog w = .ok (.int .i64 0) w := by kernel_rfl
set_option maxRecDepth 100000 in
set_option maxHeartbeats 1000000 in
theorem pnamed_any (p : Nat) (S : List Nat) (st : StI) (nm : ByteArray) (hs : nm.size ≤ 9223372036854775807) (w : World) (h : IfP w p S st) :
    Calls Try.prog 17 #[.pointer (some ⟨p, 0, none⟩), .string nm] w fun e w' => e = .returned (.int .i64 (namedI st.1 nm : Int)) ∧ w = w' := by
  obtain ⟨AM, cM, m, D, c0, c1, hM, hN, hpl⟩ := h.head
  have hkey := WideMaps.keyOf_string_mk Try.underlying9 (s := nm) (by unfold maxLen; omega)
  have HNm := Lib.hid (hN nm)
  have HO := Lib.hid hM
  clear h hM hN hpl c0 hs
  go_enter Try.func17, Try.ntmps17
  go_wp2_with (at_lookup; refine wpList_lookup_own_int _ rfl _ _ 60 rfl 9 3 .i64 lawN Try.underlying60 Try.underlying3 (zeroN _) m _ D rfl HO.out _ _ rfl hkey ?_; intro c hat hwc; have HC := Lib.hid hat; clear hat hwc)
  go_ret
  have e5 := HC.out
  rw [HNm.out] at e5
  injection e5 with e5
  injection e5 with e6 e7
  exact ⟨by rw [e7]; rfl, rfl⟩
theorem namedP (p : Nat) (S : List Nat) (st : StI) (nm : ByteArray) (hs : nm.size ≤ 9223372036854775807) (w : World) (h : IfP w p S st) :
    Calls Try.prog 17 #[.pointer (some ⟨p, 0, none⟩), .string nm] w fun e w' => e = .returned (.int .i64 (namedI st.1 nm : Int)) ∧ IfP w' p S st ∧ Tch w w' S := by
  refine Calls.mono (pnamed_any p S st nm hs w h) ?_
  rintro e w' ⟨rfl, rfl⟩
  exact ⟨rfl, h, Tch.refl _ _⟩
end Go.Proofs.Ytabbclocgkhnhaa

namespace Go.Proofs.Ytabbclocgkhnhaa
open Go.RowKit Go.Maps
set_option linter.unusedVariables false

theorem eqA_eql (t : TypeId) (x y : Array Value) {b : Bool} (h : ∀ W, (Op.equalIn 10000 t (.agg x) (.agg y)).run Try.prog W = .ok b W) (W : World) : (binOp .eql t (.agg x) (.agg y)).run Try.prog W = .ok (.bool b) W := by
  have := h W
  simp [binOp, Op.equal, Op.maxDepth, this]
theorem infoMm : (Try.prog.info? 74).map (fun i => (i.zero, i.size, i.bytes)) = some (some (.agg #[.string ⟨#[]⟩, .int .u64 0, .int .i64 0, .bool false, .slice none 0 0]), 5, 64) := by kernel_rfl
theorem own_none {w : World} {base e size n c : Nat} {xs : List Value} (h : w.ownsRow base e size (.slice none n c) n xs) : n = 0 ∧ c = 0 := by
  rcases h.2 with ⟨e, h0⟩ | ⟨g, cap, cur, e, -⟩
  · injection e with e1 e2 e3
    exact ⟨e2, e3⟩
  · cases e
set_option maxRecDepth 100000 in
set_option maxHeartbeats 1000000 in
/-- slices.Clone of a row of locals. -/
theorem clone_lc (A : Option Addr) (n c : Nat) (l : List Loc) (hn : n ≤ 1000) (w : World) (h : w.ownsRow 0 42 4 (.slice A n c) n (l.flatMap lcC)) :
    Calls Try.prog 38 #[.slice A n c] w fun e w' => ∃ A' c', e = .returned (.slice A' n c') ∧ w'.ownsRow w.heap.size 42 4 (.slice A' n c') n (l.flatMap lcC) ∧ Tch w w' [] := by
  cases A with
  | none =>
    obtain ⟨rfl, rfl⟩ := own_none h
    have q : ∀ (w : World), (binOp .eql 39 (.slice none 0 0) (.slice none 0 0)).run Try.prog w = .ok (.bool true) w := fun w => Lib.run_eql_slice_nil w _ _ none 0 0 0 0 Try.underlying39
    have h1 : l.flatMap lcC = [] := List.eq_nil_of_length_eq_zero (by rw [h.1])
    rw [h1]
    clear h hn h1
    go_enter Try.func38, Try.ntmps38
    go_wp2
    go_ret
    exact ⟨none, 0, rfl, ⟨rfl, .inl ⟨rfl, rfl⟩⟩, Tch.refl _ _⟩
  | some ad =>
    have q : ∀ (w : World), (binOp .eql 39 (.slice (some ad) n c) (.slice none 0 0)).run Try.prog w = .ok (.bool false) w := fun w => Lib.run_eql_slice_nil w _ _ (some ad) n c 0 0 Try.underlying39
    have HM0 : Hid ((w.alloc (.cells #[] 42)).ownsRow w.heap.size 42 4 (.slice (some ⟨w.heap.size, 0, none⟩) 0 0) 0 []) := Lib.hid (World.ownsRow_made w #[] 0 (Nat.le_refl _) (Nat.zero_le _) rfl)
    have HR := Lib.hid (h.alloc (.cells #[] 42))
    have HS : Hid (0 + n ≤ 1000000) := Lib.hid (by omega)
    clear h hn
    go_enter Try.func38, Try.ntmps38
    go_wp2_with (at_builtin; (refine wpList_apm 39 42 (.agg #[.bool false, .int .u64 0, .int .u64 0, .int .i64 0]) 4 32 Try.underlying39 infoLc rfl (by decide) (by decide) _ rfl (.tmp 5) (.tmp 6) rfl w.heap.size (.slice (some ⟨w.heap.size, 0, none⟩) 0 0) 0 [] rfl HM0.out 0 (.slice (some ad) n c) n (l.flatMap lcC) rfl HR.out (lcC_one l) HS.out (by simp) ?_; intro v9 w5 hown hg hv; have hT5 : Tch w w5 [] := (((Tch.refl w []).alloc _).trans_fre (Tch.of_grown' (S := [w.heap.size]) hg (fun g e => by simp [Value.ownBlock] at e; simp [e])) (by simp)); have HT5 := Lib.hid hT5; have HO5 := Lib.hid hown; clear hown hg hv hT5))
    go_ret
    obtain ⟨A', c', e, -, -⟩ := own_sl HO5.out
    rw [Nat.zero_add] at e
    subst e
    exact ⟨A', c', rfl, by have := HO5.out; rw [Nat.zero_add] at this; simpa using this, HT5.out⟩
set_option maxRecDepth 100000 in
set_option maxHeartbeats 1000000 in
theorem localsP (p : Nat) (S : List Nat) (st : StI) (port : Int) (hi : I64 port) (w : World) (h : IfP w p S st) :
    Calls Try.prog 14 #[.pointer (some ⟨p, 0, none⟩), .int .i64 port] w fun e w' => ∃ A c, e = .returned (.slice A (localsI st port).length c) ∧
      w'.ownsRow w.heap.size 42 4 (.slice A (localsI st port).length c) (localsI st port).length ((localsI st port).flatMap lcC) ∧ IfP w' p S st ∧ Tch w w' S := by
  have HL := Lib.hid (plocals_any p S st port w h)
  have HH := Lib.hid h
  have hl8 : (localsI st port).length ≤ 8 := by
    unfold localsI
    split
    · simp
    · unfold locI
      cases hc : st.2[idxI port]? with
      | none => simp
      | some l => exact h.inv.loc l (List.mem_of_getElem? hc)
  obtain ⟨l, hl⟩ : ∃ l, localsI st port = l := ⟨_, rfl⟩
  rw [hl] at HL hl8 ⊢
  obtain ⟨n, hn⟩ : ∃ n, l.length = n := ⟨_, rfl⟩
  rw [hn] at HL hl8 ⊢
  have HC := Lib.hid (fun A c hW => clone_lc A n c l (by omega) w hW)
  clear h hi hl hn hl8
  go_enter Try.func14, Try.ntmps14
  go_wp2_with fail
  refine Calls.mono HL.out ?_
  rintro e w' ⟨A, c, rfl, ho, rfl⟩
  have HO := Lib.hid ho
  clear ho
  go_wp2_with fail
  refine Calls.mono (HC.out A c HO.out) ?_
  rintro e w' ⟨A', c', rfl, ho', hT⟩
  have HO' := Lib.hid ho'
  have HT := Lib.hid hT
  clear ho' hT
  go_wp2
  go_ret
  exact ⟨A', c', rfl, HO'.out, HH.out.tch HT.out (by simp), HT.out.mono (by simp)⟩
/-- A local, an address as a value. -/
abbrev lcV (x : Loc) : Value := .agg #[.bool x.1.1, .int .u64 (x.1.2.1 : Int), .int .u64 (x.1.2.2 : Int), .int .i64 x.2]
set_option maxRecDepth 100000 in
set_option maxHeartbeats 1000000 in
/-- find's own question of a local. -/
theorem find1_any (a : AdI) (xb : Nat) (x : Loc) (w : World) (hB : Blk w xb 34 #[.bool a.1, .int .u64 (a.2.1 : Int), .int .u64 (a.2.2 : Int)]) :
    Calls Try.prog 60 #[lcV x, .pointer (some ⟨xb, 0, none⟩)] w fun e w' => e = .returned (.bool (isA a x)) ∧ Tch w w' [] := by
  obtain ⟨b, hb⟩ : ∃ b, decide (x.1 = a) = b := ⟨_, rfl⟩
  have HQ := eqA_eql 34 _ _ (eq_adI x.1 a hb)
  have HE : Hid (isA a x = b) := Lib.hid hb
  obtain ⟨⟨xs, xh, xl⟩, xbt⟩ := x
  obtain ⟨s, ah, al⟩ := a
  have HQ : ∀ W, (binOp .eql 34 (.agg #[.bool xs, .int .u64 (xh : Int), .int .u64 (xl : Int)]) (.agg #[.bool s, .int .u64 (ah : Int), .int .u64 (al : Int)])).run Try.prog W = .ok (.bool b) W := HQ
  have HT0 : Hid (Tch w (w.alloc (.cells #[.bool xs, .int .u64 (xh : Int), .int .u64 (xl : Int), .int .i64 xbt] 42)) []) := Lib.hid ((Tch.refl w []).alloc _)
  have hX := HT0.out.blk hB (by simp)
  have x0 := (hX.cell 0).trans (show _ = some (Value.bool s) by rfl)
  have x1 := (hX.cell 1).trans (show _ = some (Value.int .u64 (ah : Int)) by rfl)
  have x2 := (hX.cell 2).trans (show _ = some (Value.int .u64 (al : Int)) by rfl)
  clear hB hb hX
  go_enter Try.func60, Try.ntmps60
  go_wp2
  go_ret
  exact ⟨by rw [HE.out]; rfl, HT0.out⟩
theorem fndI_any {α : Type} {p : α → Bool} {l : List α} : (decide ((0 : Int) ≤ ((fndI p l : Nat) : Int) - 1)) = l.any p := by
  have h := fndI_zero (p := p) (l := l)
  cases hb : l.any p with
  | false =>
    rw [List.any_eq_false] at hb
    have : fndI p l = 0 := h.2 fun i x hx => by simpa using hb x (List.mem_of_getElem? hx)
    rw [this]; rfl
  | true =>
    rw [decide_eq_true_eq]
    have : fndI p l ≠ 0 := fun e => by
      obtain ⟨x, hx, hp⟩ := List.any_eq_true.1 hb
      obtain ⟨i, hi⟩ := List.mem_iff_getElem?.1 hx
      rw [h.1 e i x hi] at hp
      cases hp
    omega
set_option maxRecDepth 100000 in
set_option maxHeartbeats 4000000 in
/-- slices.IndexFunc over locals with find's own question. -/
theorem idx_lc (a : AdI) (xb : Nat) (A : Option Addr) (n c : Nat) (l : List Loc) (hl : l.length = n) (hn : n ≤ 1000) (w : World) (hB : Blk w xb 34 #[.bool a.1, .int .u64 (a.2.1 : Int), .int .u64 (a.2.2 : Int)]) (h : w.ownsRow 0 42 4 (.slice A n c) n (l.flatMap lcC)) :
    Calls Try.prog 59 #[.slice A n c, .func (.func 60) #[] #[.pointer (some ⟨xb, 0, none⟩)]] w fun e w' => e = .returned (.int .i64 (((fndI (isA a) l : Nat) : Int) - 1)) ∧ Tch w w' [] := by
  have eg : ∀ args W, (callFunc 60 args).run Try.prog W = .ok (.enter 60 args) W := enters_of Try.func60 (by kernel_rfl) rfl
  have HL := Lib.hid hl
  have HF := Lib.hid (fun x W hT => find1_any a xb x W (Tch.blk (S := []) (w := w) hT hB (by simp)))
  have HO := Lib.hid h
  clear hB h hl
  go_enter Try.func59, Try.ntmps59
  go_wp2
  go_loopw [5, 8] (fun _ kv wr => ∃ k : Nat, kv = .int .i64 (k : Int) ∧ k ≤ n ∧ Hid (∀ (j : Nat) (x : Loc), j < k → l[j]? = some x → isA a x = false) ∧ Hid (Tch w wr [])) (fun _ kv _ => n - (intOf kv).toNat)
  case atStart => exact ⟨0, rfl, Nat.zero_le _, Lib.hid (fun j x hj => absurd hj (by omega)), Lib.hid (Tch.refl _ _)⟩
  case round =>
    obtain ⟨k, rfl, hk, hA, hT⟩ := hrel
    have k1 : IntKind.i64.wrap ((k : Int) + 1) = (k : Int) + 1 := by rw [IntKind.wrap_i64]; omega
    by_cases hkn : k < n
    · have kI : (k : Int) < (n : Int) := by omega
      have k0 : (0 : Int) ≤ (k : Int) := by omega
      obtain ⟨x, hx⟩ : ∃ x, l[k]? = some x := ⟨_, List.getElem?_eq_getElem (by rw [HL.out]; exact hkn)⟩
      have d3 := own_tch HO.out hT.out (by simp)
      obtain ⟨gx, rfl⟩ := slice_some d3 (by omega)
      have x0 : wr.cell? ⟨gx, k * 4, none⟩ = some (.bool x.1.1) := own_cellN d3 ((flat4_at (f := lcC) (fun _ => rfl) hx (k := 0) (by decide)).trans rfl)
      have x1 := own_cellN d3 ((flat4_at (f := lcC) (fun _ => rfl) hx (k := 1) (by decide)).trans (show _ = some (Value.int .u64 (x.1.2.1 : Int)) by rfl))
      have x2 := own_cellN d3 ((flat4_at (f := lcC) (fun _ => rfl) hx (k := 2) (by decide)).trans (show _ = some (Value.int .u64 (x.1.2.2 : Int)) by rfl))
      have x3 := own_cellN d3 ((flat4_at (f := lcC) (fun _ => rfl) hx (k := 3) (by decide)).trans (show _ = some (Value.int .i64 x.2) by rfl))
      have HC := Lib.hid (HF.out x wr hT.out)
      have Hx := Lib.hid hx
      obtain ⟨b, hb⟩ : ∃ b, isA a x = b := ⟨_, rfl⟩
      rw [hb] at HC
      have HBb := Lib.hid hb
      clear d3 hx hb
      cases b with
      | true =>
        have HR : Hid (fndI (isA a) l = k + 1) := Lib.hid (fndI_succ.2 ⟨⟨x, Hx.out, HBb.out⟩, hA.out⟩)
        go_wp2_with (go_at_fn 60; refine Calls.mono HC.out ?_; rintro e w' ⟨rfl, hT'⟩; have HT' := Lib.hid hT'; clear hT')
        go_ret
        exact ⟨by rw [HR.out]; simp, hT.out.trans HT'.out⟩
      | false =>
        go_wp2_with (go_at_fn 60; refine Calls.mono HC.out ?_; rintro e w' ⟨rfl, hT'⟩; have HT' := Lib.hid hT'; clear hT')
        go_roundw
        case rel => exact ⟨k + 1, by go_num, hkn, Lib.hid (fun j y hj hy => by
          rcases Nat.lt_or_ge j k with h1 | h1
          · exact hA.out j y h1 hy
          · obtain rfl : j = k := by omega
            rw [Hx.out] at hy
            injection hy with hy
            subst hy
            exact HBb.out), Lib.hid (hT.out.trans HT'.out)⟩
        case measure => simp [intOf]; omega
    · obtain rfl : k = n := by omega
      have kI : ¬ (k : Int) < (k : Int) := by omega
      have HR : Hid (fndI (isA a) l = 0) := Lib.hid (fndI_zero.2 fun j y hy => hA.out j y (by rw [← HL.out]; exact (List.getElem?_eq_some_iff.1 hy).1) hy)
      clear hkn hk
      go_wp2
      go_ret
      exact ⟨by rw [HR.out]; rfl, hT.out⟩
end Go.Proofs.Ytabbclocgkhnhaa

namespace Go.Proofs.Ytabbclocgkhnhaa
open Go.RowKit Go.Maps
set_option linter.unusedVariables false

/-- A port with its row, as a value. -/
abbrev mmV (q : Prt) (v : Value) : Value := .agg #[.string q.1, .int .u64 q.2.1, .int .i64 q.2.2.1, .bool q.2.2.2, v]
set_option maxRecDepth 100000 in
set_option maxHeartbeats 1000000 in
theorem find_any (q : Prt) (a : AdI) (A : Option Addr) (n c : Nat) (l : List Loc) (hl : l.length = n) (hn : n ≤ 1000) (w : World) (h : w.ownsRow 0 42 4 (.slice A n c) n (l.flatMap lcC)) :
    Calls Try.prog 43 #[mmV q (.slice A n c), adV a] w fun e w' => e = .returned (.int .i64 (((fndI (isA a) l : Nat) : Int) - 1)) ∧ Tch w w' [] := by
  have HI := Lib.hid (fun W xb (hT : Tch w W []) hB => idx_lc a xb A n c l hl hn W hB (own_tch h hT (by simp)))
  obtain ⟨s, ah, al⟩ := a
  obtain ⟨qn, qm, qt, qu⟩ := q
  have HB : Hid (Blk ((w.alloc (.cells #[.string qn, .int .u64 qm, .int .i64 qt, .bool qu, .slice A n c] 74)).alloc (.cells #[.bool s, .int .u64 (ah : Int), .int .u64 (al : Int)] 34)) (w.heap.size + 1) 34 #[.bool s, .int .u64 (ah : Int), .int .u64 (al : Int)]) := Lib.hid (by
    have := Blk.new (w.alloc (.cells #[.string qn, .int .u64 qm, .int .i64 qt, .bool qu, .slice A n c] 74)) 34 #[.bool s, .int .u64 (ah : Int), .int .u64 (al : Int)]
    rw [World.size_alloc] at this
    exact this)
  clear h hl hn
  go_enter Try.func43, Try.ntmps43
  go_wp2_with fail
  refine Calls.mono (HI.out _ _ (((Tch.refl w []).alloc _).alloc _) HB.out) ?_
  rintro e w' ⟨rfl, hT⟩
  have HT := Lib.hid hT
  clear hT
  go_wp2
  go_ret
  exact ⟨rfl, (((Tch.refl w []).alloc _).alloc _).trans HT.out⟩
set_option maxRecDepth 100000 in
set_option maxHeartbeats 1000000 in
theorem mine1_any (q : Prt) (a : AdI) (xb : Nat) (A : Option Addr) (n c : Nat) (l : List Loc) (hl : l.length = n) (hn : n ≤ 1000) (w : World) (hB : Blk w xb 34 #[.bool a.1, .int .u64 (a.2.1 : Int), .int .u64 (a.2.2 : Int)]) (h : w.ownsRow 0 42 4 (.slice A n c) n (l.flatMap lcC)) :
    Calls Try.prog 42 #[mmV q (.slice A n c), .pointer (some ⟨xb, 0, none⟩)] w fun e w' => e = .returned (.bool (l.any (isA a))) ∧ Tch w w' [] := by
  have HI := Lib.hid (fun W (hT : Tch w W []) => find_any q a A n c l hl hn W (own_tch h hT (by simp)))
  obtain ⟨z, hz⟩ : ∃ z : Int, ((fndI (isA a) l : Nat) : Int) - 1 = z := ⟨_, rfl⟩
  have HZ : Hid (decide ((0 : Int) ≤ z) = l.any (isA a)) := Lib.hid (by rw [← hz]; exact fndI_any)
  rw [hz] at HI
  obtain ⟨s, ah, al⟩ := a
  obtain ⟨qn, qm, qt, qu⟩ := q
  have HT0 : Hid (Tch w (w.alloc (.cells #[.string qn, .int .u64 qm, .int .i64 qt, .bool qu, .slice A n c] 74)) []) := Lib.hid ((Tch.refl w []).alloc _)
  have hX := HT0.out.blk hB (by simp)
  have x0 := (hX.cell 0).trans (show _ = some (Value.bool s) by rfl)
  have x1 := (hX.cell 1).trans (show _ = some (Value.int .u64 (ah : Int)) by rfl)
  have x2 := (hX.cell 2).trans (show _ = some (Value.int .u64 (al : Int)) by rfl)
  clear h hl hn hz hB hX
  go_enter Try.func42, Try.ntmps42
  go_wp2_with fail
  refine Calls.mono (HI.out _ HT0.out) ?_
  rintro e w' ⟨rfl, hT⟩
  have HT := Lib.hid (HT0.out.trans hT)
  clear hT x0 x1 x2
  go_wp2
  go_ret
  exact ⟨by rw [← HZ.out]; rfl, HT.out⟩
set_option maxRecDepth 100000 in
set_option maxHeartbeats 4000000 in
/-- slices.IndexFunc over the ports with Mine's own question. -/
theorem idx_mm (p : Nat) (S : List Nat) (st : StI) (a : AdI) (xb : Nat) (AM : Option Addr) (cM n : Nat) (hn : st.1.length = n) (w : World) (h : IfP w p S st) (hB : Blk w xb 34 #[.bool a.1, .int .u64 (a.2.1 : Int), .int .u64 (a.2.2 : Int)]) (c0 : w.cell? ⟨p, 0, none⟩ = some (.slice AM n cM)) :
    Calls Try.prog 41 #[.slice AM n cM, .func (.func 42) #[] #[.pointer (some ⟨xb, 0, none⟩)]] w fun e w' => e = .returned (.int .i64 (((mineI st.2 a : Nat) : Int) - 1)) ∧ Tch w w' [] := by
  have eg : ∀ args W, (callFunc 42 args).run Try.prog W = .ok (.enter 42 args) W := enters_of Try.func42 (by kernel_rfl) rfl
  have hf : n ≤ 8 := by rw [← hn]; exact h.few
  have HN2 : Hid (st.2.length = n) := Lib.hid (by rw [← hn]; exact h.inv.len.symm)
  have HN := Lib.hid hn
  have HC0 := Lib.hid c0
  have HH := Lib.hid h
  have HF := Lib.hid (fun q A c l W (hT : Tch w W []) (hl : List.length l ≤ 8) hO => mine1_any q a xb A l.length c l rfl (by omega) W (hT.blk hB (by simp)) hO)
  have HPl : Hid (p < w.heap.size) := Lib.hid (h.lt p h.pin)
  clear hB h c0 hn
  go_enter Try.func41, Try.ntmps41
  go_wp2
  go_loopw [5, 8] (fun _ kv wr => ∃ k : Nat, kv = .int .i64 (k : Int) ∧ k ≤ n ∧ Hid (∀ (j : Nat) (l : List Loc), j < k → st.2[j]? = some l → l.any (isA a) = false) ∧ Hid (Tch w wr [])) (fun _ kv _ => n - (intOf kv).toNat)
  case atStart => exact ⟨0, rfl, Nat.zero_le _, Lib.hid (fun j x hj => absurd hj (by omega)), Lib.hid (Tch.refl _ _)⟩
  case round =>
    obtain ⟨k, rfl, hk, hA, hT⟩ := hrel
    have k1 : IntKind.i64.wrap ((k : Int) + 1) = (k : Int) + 1 := by rw [IntKind.wrap_i64]; omega
    by_cases hkn : k < n
    · have kI : (k : Int) < (n : Int) := by omega
      have k0 : (0 : Int) ≤ (k : Int) := by omega
      obtain ⟨gM, cM', c, A, q, l, d0, hq, hl, x0, x1, x2, x3, x4, hO, hl8, hpl, hgl, hfz, hgS⟩ := (HH.out.tch hT.out (by simp)).at_ (i := k) (by rw [HN.out]; exact hkn)
      rw [(hT.out.cell (p := ⟨p, 0, none⟩) HPl.out (by simp)).trans HC0.out] at d0
      injection d0 with d0
      injection d0 with d1 d2 d3
      subst d1
      have HC := Lib.hid (HF.out q A c l wr hT.out hl8 hO)
      have Hl := Lib.hid hl
      obtain ⟨m, hm⟩ : ∃ m, l.length = m := ⟨_, rfl⟩
      rw [hm] at x4 HC
      obtain ⟨b, hb⟩ : ∃ b, l.any (isA a) = b := ⟨_, rfl⟩
      rw [hb] at HC
      have HBb := Lib.hid hb
      obtain ⟨qn, qm, qt, qu⟩ := q
      clear hq hl hO hl8 hpl hgl hfz hgS hb hm d2 d3
      cases b with
      | true =>
        have HR : Hid (mineI st.2 a = k + 1) := Lib.hid (fndI_succ.2 ⟨⟨l, Hl.out, HBb.out⟩, hA.out⟩)
        go_wp2_with (go_at_fn 42; refine Calls.mono HC.out ?_; rintro e w' ⟨rfl, hT'⟩; have HT' := Lib.hid hT'; clear hT')
        go_ret
        exact ⟨by rw [HR.out]; simp, hT.out.trans HT'.out⟩
      | false =>
        go_wp2_with (go_at_fn 42; refine Calls.mono HC.out ?_; rintro e w' ⟨rfl, hT'⟩; have HT' := Lib.hid hT'; clear hT')
        go_roundw
        case rel => exact ⟨k + 1, by go_num, hkn, Lib.hid (fun j y hj hy => by
          rcases Nat.lt_or_ge j k with h1 | h1
          · exact hA.out j y h1 hy
          · obtain rfl : j = k := by omega
            rw [Hl.out] at hy
            injection hy with hy
            subst hy
            exact HBb.out), Lib.hid (hT.out.trans HT'.out)⟩
        case measure => simp [intOf]; omega
    · obtain rfl : k = n := by omega
      have kI : ¬ (k : Int) < (k : Int) := by omega
      have HR : Hid (mineI st.2 a = 0) := Lib.hid (fndI_zero.2 fun j y hy => hA.out j y (by rw [← HN2.out]; exact (List.getElem?_eq_some_iff.1 hy).1) hy)
      clear hkn hk
      go_wp2
      go_ret
      exact ⟨by rw [HR.out]; rfl, hT.out⟩
set_option maxRecDepth 100000 in
set_option maxHeartbeats 1000000 in
theorem pmine_any (p : Nat) (S : List Nat) (st : StI) (a : AdI) (w : World) (h : IfP w p S st) :
    Calls Try.prog 18 #[.pointer (some ⟨p, 0, none⟩), adV a] w fun e w' => e = .returned (.int .i64 (mineI st.2 a : Int)) ∧ Tch w w' [] := by
  obtain ⟨W0, hW0⟩ : ∃ W, w.alloc (.cells #[.bool a.1, .int .u64 (a.2.1 : Int), .int .u64 (a.2.2 : Int)] 34) = W := ⟨_, rfl⟩
  obtain ⟨xb, hxb⟩ : ∃ xb, w.heap.size = xb := ⟨_, rfl⟩
  have hX : Blk W0 xb 34 #[.bool a.1, .int .u64 (a.2.1 : Int), .int .u64 (a.2.2 : Int)] := hW0 ▸ hxb ▸ Blk.new _ _ _
  have HT0 : Hid (Tch w W0 []) := Lib.hid (hW0 ▸ (Tch.refl w []).alloc _)
  have hD0 := h.tch HT0.out (by simp)
  obtain ⟨AM, cM, m, D, c0, -⟩ := hD0.head
  obtain ⟨n, hn⟩ : ∃ n, st.1.length = n := ⟨_, rfl⟩
  rw [hn] at c0
  have HI := Lib.hid (idx_mm p S st a xb AM cM n hn W0 hD0 hX c0)
  obtain ⟨z, hz⟩ : ∃ z : Int, ((mineI st.2 a : Nat) : Int) - 1 = z := ⟨_, rfl⟩
  rw [hz] at HI
  obtain ⟨M, hM⟩ : ∃ M : Int, ((mineI st.2 a : Nat) : Int) = M := ⟨_, rfl⟩
  have hlt : mineI st.2 a ≤ st.2.length := fndI_le _ _
  have j1 : IntKind.i64.wrap (1 + z) = M := by have := h.inv.len; have := h.few; rw [IntKind.wrap_i64]; omega
  rw [hM]
  have c0 : (w.alloc (.cells #[.bool a.1, .int .u64 (a.2.1 : Int), .int .u64 (a.2.2 : Int)] 34)).cell? ⟨p, 0, none⟩ = some (.slice AM n cM) := by rw [hW0]; exact c0
  have HW0 := Lib.hid (And.intro hW0 hxb)
  obtain ⟨s, ah, al⟩ := a
  clear h hD0 hn hz hM hlt hX hW0 hxb
  go_enter Try.func18, Try.ntmps18
  go_wp2_with fail
  rw [HW0.out.1, HW0.out.2]
  refine Calls.mono HI.out ?_
  rintro e w' ⟨rfl, hT⟩
  have HT := Lib.hid (HT0.out.trans hT)
  clear hT c0
  go_wp2
  go_ret
  exact ⟨rfl, HT.out⟩
theorem mineP (p : Nat) (S : List Nat) (st : StI) (a : AdI) (ha : N64 a.2.1 ∧ N64 a.2.2) (w : World) (h : IfP w p S st) :
    Calls Try.prog 18 #[.pointer (some ⟨p, 0, none⟩), adV a] w fun e w' => e = .returned (.int .i64 (mineI st.2 a : Int)) ∧ IfP w' p S st ∧ Tch w w' S := by
  refine Calls.mono (pmine_any p S st a w h) ?_
  rintro e w' ⟨rfl, hT⟩
  exact ⟨rfl, h.tch hT (by simp), hT.mono (by simp)⟩
end Go.Proofs.Ytabbclocgkhnhaa
