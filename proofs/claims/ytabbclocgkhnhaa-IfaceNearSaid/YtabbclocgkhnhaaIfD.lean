/-
  The document's own set of ports (layer 14): what it looks like in memory; there, Turn, Port, Locals, Named, Mine.
-/
import Derived.Test.YtabbclocgkhnhaaOwn
import Derived.Test.YtabbclocgkhnhaaIfN
namespace Go.Proofs.Ytabbclocgkhnhaa
open Go.RowKit
set_option linter.unusedVariables false

theorem str_ne {s t : ByteArray} (h : ¬ s = t) : (s.toList == t.toList) = false := by
  have h1 : ¬ s.toList = t.toList := fun e => h (by rw [ByteArray.toList_eq, ByteArray.toList_eq] at e; apply ByteArray.ext; exact Array.toList_inj.1 e)
  simpa using h1
theorem str_eq (s : ByteArray) : (s.toList == s.toList) = true := by simp
def prC (p : Prt) : List Value := [.string p.1, .int .u64 p.2.1, .int .i64 p.2.2.1, .bool p.2.2.2]
def lcC (x : Loc) : List Value := [.bool x.1.1, .int .u64 (x.1.2.1 : Int), .int .u64 (x.1.2.2 : Int), .int .i64 x.2]
theorem flat4_len {α : Type} {f : α → List Value} (hf : ∀ x, (f x).length = 4) (l : List α) : (l.flatMap f).length = l.length * 4 := by
  induction l with
  | nil => rfl
  | cons y r ih => rw [List.flatMap_cons, List.length_append, hf, ih, List.length_cons]; omega
theorem flat4_at {α : Type} {f : α → List Value} (hf : ∀ x, (f x).length = 4) {l : List α} {i : Nat} {x : α} (hx : l[i]? = some x) {k : Nat} (hk : k < 4) : (l.flatMap f)[i * 4 + k]? = (f x)[k]? := by
  induction l generalizing i with
  | nil => simp at hx
  | cons y r ih =>
    rw [List.flatMap_cons]
    cases i with
    | zero =>
      simp at hx; subst hx
      rw [List.getElem?_append_left (by rw [hf]; omega)]
      congr 1; omega
    | succ i =>
      rw [List.getElem?_append_right (by rw [hf]; omega), hf, show (i + 1) * 4 + k - 4 = i * 4 + k by omega]
      exact ih (by simpa using hx)
theorem own_cellN {w : World} {base g n c sz : Nat} {t : TypeId} {xs : List Value} (h : w.ownsRow base t sz (.slice (some ⟨g, 0, none⟩) n c) n xs) {j : Nat} {u : Value} (hu : xs[j]? = some u) : w.cell? ⟨g, j, none⟩ = some u := by
  obtain ⟨A, c', e, -, h1⟩ := own_sl h
  injection e with e1 e2 e3
  subst e1
  have hl := h.1
  have hj := (List.getElem?_eq_some_iff.1 hu).1
  have hn : 0 < n := by
    rcases Nat.eq_zero_or_pos n with h0 | h0
    · rw [h0, Nat.zero_mul] at hl; omega
    · exact h0
  obtain ⟨g', e, -, -, h2⟩ := h1 hn
  injection e with e
  injection e with e
  subst e
  exact h2 j u hu
theorem own_setN {w : World} {base g n c i sz : Nat} {t : TypeId} {xs : List Value} (h : w.ownsRow base t sz (.slice (some ⟨g, 0, none⟩) n c) n xs) (hi : i < n * sz) (u : Value) :
    (w.setCell ⟨g, i, none⟩ u).ownsRow base t sz (.slice (some ⟨g, 0, none⟩) n c) n (xs.set i u) := by
  rcases h.2 with ⟨e, -⟩ | ⟨g', cap, cur, e, h1, h2, h3, h4, h5, h6⟩
  · cases e
  · injection e with e1 e2 e3
    injection e1 with e1
    injection e1 with e1
    subst e1 e3
    have hb : Blk w g t cur := h2
    refine ⟨by have := h.1; simpa using this, .inr ⟨g, c, cur.setIfInBounds i u, rfl, h1, hb.set_ i u, h3, h4, by simpa using h5, ?_⟩⟩
    rw [← h6]
    simp [Array.toList_setIfInBounds, List.take_set]
/-- A slice's block, if it has one. -/
def obI (v : Value) : List Nat := match v.ownBlock with | some k => [k] | none => []
theorem obI_some {v : Value} {k : Nat} (h : v.ownBlock = some k) : obI v = [k] := by unfold obI; rw [h]
theorem own_tch {w w' : World} {base e size n : Nat} {v : Value} {xs : List Value} {T : List Nat} (h : w.ownsRow base e size v n xs) (ht : Tch w w' T) (hn : ∀ s ∈ obI v, s ∉ T) : w'.ownsRow base e size v n xs :=
  ht.own h (fun k hk => hn k (by rw [obI_some hk]; simp))
theorem own_lts {w : World} {base e size n : Nat} {v : Value} {xs : List Value} (h : w.ownsRow base e size v n xs) : ∀ s ∈ obI v, s < w.heap.size := by
  intro s hs
  unfold obI at hs
  cases hb : v.ownBlock with
  | none => rw [hb] at hs; cases hs
  | some k => rw [hb] at hs; rw [List.mem_singleton.1 hs]; exact own_lt h hb
/-- The document's set: t its block, S all its blocks. -/
def IfD (w : World) (t : Nat) (S : List Nat) (st : StI) : Prop := ∃ (AP AL : Option Addr) (cP cL : Nat) (lv : List Value),
  S = t :: (obI (.slice AP st.1.length cP) ++ (obI (.slice AL st.1.length cL) ++ lv.flatMap obI)) ∧ S.Nodup ∧
  Blk w t 67 #[.slice AP st.1.length cP, .slice AL st.1.length cL] ∧
  w.ownsRow 0 46 4 (.slice AP st.1.length cP) st.1.length (st.1.flatMap prC) ∧ w.ownsRow 0 39 1 (.slice AL st.1.length cL) st.1.length lv ∧
  lv.length = st.1.length ∧ (∀ (i : Nat) (l : List Loc), st.2[i]? = some l → ∃ A c, lv[i]? = some (.slice A l.length c) ∧ w.ownsRow 0 42 4 (.slice A l.length c) l.length (l.flatMap lcC)) ∧ InvI st
section
variable {w w' : World} {t : Nat} {S T : List Nat} {st : StI}
theorem IfD.inv (h : IfD w t S st) : InvI st := by
  obtain ⟨AP, AL, cP, cL, lv, h1, h2, h3, h4, h5, h6, h7, h8⟩ := h
  exact h8
theorem IfD.lt (h : IfD w t S st) : ∀ s ∈ S, s < w.heap.size := by
  obtain ⟨AP, AL, cP, cL, lv, rfl, h2, h3, h4, h5, h6, h7, h8⟩ := h
  intro s hs
  rcases List.mem_cons.1 hs with h | h
  · subst h; exact h3.lt
  rcases List.mem_append.1 h with h | h
  · exact own_lts h4 s h
  rcases List.mem_append.1 h with h | h
  · exact own_lts h5 s h
  obtain ⟨v, hv, hs⟩ := List.mem_flatMap.1 h
  obtain ⟨i, hi⟩ := List.mem_iff_getElem?.1 hv
  have hil := (List.getElem?_eq_some_iff.1 hi).1
  obtain ⟨A, c, e, ho⟩ := h7 i _ (List.getElem?_eq_getElem (by rw [← h8.len]; omega))
  rw [hi] at e
  injection e with e
  subst e
  exact own_lts ho s hs
theorem IfD.tch (h : IfD w t S st) (ht : Tch w w' T) (hn : ∀ s ∈ S, s ∉ T) : IfD w' t S st := by
  obtain ⟨AP, AL, cP, cL, lv, rfl, h2, h3, h4, h5, h6, h7, h8⟩ := h
  refine ⟨AP, AL, cP, cL, lv, rfl, h2, ht.blk h3 (hn t (by simp)), own_tch h4 ht (fun s hs => hn s (by simp [hs])), own_tch h5 ht (fun s hs => hn s (by simp [hs])), h6, fun i l hl => ?_, h8⟩
  obtain ⟨A, c, e, ho⟩ := h7 i l hl
  refine ⟨A, c, e, own_tch ho ht (fun s hs => hn s ?_)⟩
  have : s ∈ lv.flatMap obI := List.mem_flatMap.2 ⟨_, List.mem_of_getElem? e, hs⟩
  simp only [List.mem_cons, List.mem_append]
  exact .inr (.inr (.inr this))
end
theorem IfD.few {w : World} {t : Nat} {S : List Nat} {st : StI} (h : IfD w t S st) : st.1.length ≤ 8 := h.inv.few
set_option maxHeartbeats 1000000 in
theorem there_any (t : Nat) (S : List Nat) (st : StI) (port : Int) (w : World) (h : IfD w t S st) :
    Calls Try.prog 54 #[.pointer (some ⟨t, 0, none⟩), .int .i64 port] w fun e w' => e = .returned (.bool (thereI st port)) ∧ w = w' := by
  have hf := h.few
  obtain ⟨AP, AL, cP, cL, lv, h1, h2, h3, h4, h5, h6, h7, h8⟩ := h
  have c0 := (h3.cell 0).trans (show _ = some (Value.slice AP st.1.length cP) by rfl)
  have hT : Hid (thereI st port = decide (1 ≤ port ∧ port ≤ (st.1.length : Int))) := Lib.hid rfl
  obtain ⟨n, hn⟩ : ∃ n, st.1.length = n := ⟨_, rfl⟩
  rw [hn] at c0 hT hf
  clear h1 h2 h3 h4 h5 h6 h7 h8 hn
  by_cases p1 : 1 ≤ port
  · by_cases p2 : port ≤ (n : Int)
    · have HR : Hid (thereI st port = true) := Lib.hid (by rw [hT.out]; exact decide_eq_true ⟨p1, p2⟩)
      go_enter Try.func54, Try.ntmps54
      go_wp2
      go_ret
      exact ⟨by rw [HR.out]; rfl, rfl⟩
    · have HR : Hid (thereI st port = false) := Lib.hid (by rw [hT.out]; exact decide_eq_false (fun x => p2 x.2))
      go_enter Try.func54, Try.ntmps54
      go_wp2
      go_ret
      exact ⟨by rw [HR.out]; rfl, rfl⟩
  · have HR : Hid (thereI st port = false) := Lib.hid (by rw [hT.out]; exact decide_eq_false (fun x => p1 x.1))
    go_enter Try.func54, Try.ntmps54
    go_wp2
    go_ret
    exact ⟨by rw [HR.out]; rfl, rfl⟩
theorem flat4_modify {P : List Prt} {i : Nat} {p : Prt} (hp : P[i]? = some p) (up : Bool) : (P.modify i fun p => (p.1, p.2.1, p.2.2.1, up)).flatMap prC = (P.flatMap prC).set (i * 4 + 3) (.bool up) := by
  induction P generalizing i with
  | nil => simp at hp
  | cons y r ih =>
    cases i with
    | zero =>
      simp at hp; subst hp
      rw [List.modify_zero_cons, List.flatMap_cons, List.flatMap_cons]
      simp [prC]
    | succ i =>
      rw [List.modify_succ_cons, List.flatMap_cons, List.flatMap_cons, ih (by simpa using hp), show (i + 1) * 4 + 3 = (prC y).length + (i * 4 + 3) by simp [prC]; omega, List.set_append_right _ _ (by omega)]
      congr 1
      rw [Nat.add_sub_cancel_left]
theorem slice_some {w : World} {base size n c : Nat} {A : Option Addr} {e : TypeId} {xs : List Value} (h : w.ownsRow base e size (.slice A n c) n xs) (hn : 0 < n) : ∃ g, A = some ⟨g, 0, none⟩ := by
  obtain ⟨A', c', e, -, h1⟩ := own_sl h
  injection e with e1 e2 e3
  subst e1
  obtain ⟨g, e, -⟩ := h1 hn
  exact ⟨g, e⟩
set_option maxRecDepth 100000 in
set_option maxHeartbeats 1000000 in
theorem turnD (t : Nat) (S : List Nat) (st : StI) (port : Int) (up : Bool) (w : World) (h : IfD w t S st) :
    Calls Try.prog 28 #[.pointer (some ⟨t, 0, none⟩), .int .i64 port, .bool up] w fun e w' => e = .returned (.int .i64 (turnI st port up).2) ∧ IfD w' t S (turnI st port up).1 ∧ Tch w w' S := by
  have HTh := Lib.hid (there_any t S st port w h)
  have HI2 := h.inv.turn port up
  cases hth : thereI st port with
  | false =>
    rw [hth] at HTh
    have e1 : turnI st port up = (st, 132) := by unfold turnI; rw [hth]; rfl
    rw [e1]
    have HH := Lib.hid h
    clear h HI2 e1 hth
    go_enter Try.func28, Try.ntmps28
    go_wp2_with fail
    refine Calls.mono HTh.out ?_
    rintro e w' ⟨rfl, rfl⟩
    go_wp2
    go_ret
    exact ⟨rfl, HH.out, Tch.refl _ _⟩
  | true =>
    rw [hth] at HTh
    obtain ⟨p, l, hp, -, -, -, hlt, hpe⟩ := locI_at h.inv hth
    have hf := h.few
    have e1 : turnI st port up = ((st.1.modify (idxI port) fun p => (p.1, p.2.1, p.2.2.1, up), st.2), 0) := by unfold turnI; rw [hth]; rfl
    rw [e1] at HI2 ⊢
    obtain ⟨AP, AL, cP, cL, lv, rfl, h2, h3, h4, h5, h6, h7, h8⟩ := h
    obtain ⟨gP, rfl⟩ := slice_some h4 (by omega)
    obtain ⟨i, hi⟩ : ∃ i, idxI port = i := ⟨_, rfl⟩
    rw [hi] at hp hlt hpe HI2 ⊢
    have c0 := (h3.cell 0).trans (show _ = some (Value.slice (some ⟨gP, 0, none⟩) st.1.length cP) by rfl)
    have hat := flat4_at (f := prC) (fun _ => rfl) hp (k := 3) (by decide)
    have c3 := own_cellN h4 hat
    have o3 : w.frozen? ⟨gP, i * 4 + 3, none⟩ = false := by
      rcases h4.2 with ⟨e, -⟩ | ⟨g', cap, cur, e, -, hb, -⟩
      · cases e
      · injection e with e2
        injection e2 with e2
        injection e2 with e2
        subst e2
        exact Blk.frozen hb _
    have hset := own_setN h4 (i := i * 4 + 3) (by omega) (.bool up)
    rw [← flat4_modify hp up] at hset
    have hm : (st.1.modify i fun p => (p.1, p.2.1, p.2.2.1, up)).length = st.1.length := by simp
    have hT : Tch w (w.setCell ⟨gP, i * 4 + 3, none⟩ (.bool up)) [gP] := (Tch.refl w [gP]).set_ (p := ⟨gP, i * 4 + 3, none⟩) (by simp) _
    have hnd := h2
    rw [List.nodup_cons] at hnd
    have ob0 : obI (.slice (some ⟨gP, 0, none⟩) st.1.length cP) = [gP] := rfl
    rw [ob0, List.singleton_append, List.nodup_cons] at hnd
    have hne1 : t ≠ gP := fun e => hnd.1 (by simp [e])
    have hrest : ∀ s ∈ obI (.slice AL st.1.length cL) ++ lv.flatMap obI, s ∉ [gP] := fun s hs hm => hnd.2.1 (by rw [List.mem_singleton.1 hm] at hs; exact hs)
    have HN := Lib.hid (show IfD (w.setCell ⟨gP, i * 4 + 3, none⟩ (.bool up)) t (t :: (obI (.slice (some ⟨gP, 0, none⟩) st.1.length cP) ++ (obI (.slice AL st.1.length cL) ++ lv.flatMap obI))) (st.1.modify i fun p => (p.1, p.2.1, p.2.2.1, up), st.2) from by
      refine ⟨some ⟨gP, 0, none⟩, AL, cP, cL, lv, ?_, h2, ?_, ?_, ?_, ?_, fun j m hj => ?_, HI2⟩
      · simp only [hm]
      · simp only [hm]; exact hT.blk h3 (nin1 hne1)
      · simp only [hm]; exact hset
      · simp only [hm]; exact own_tch h5 hT (fun s hs => hrest s (by simp [hs]))
      · simp only [hm]; exact h6
      · obtain ⟨A, c, e, ho⟩ := h7 j m hj
        refine ⟨A, c, e, own_tch ho hT (fun s hs => hrest s ?_)⟩
        exact List.mem_append_right _ (List.mem_flatMap.2 ⟨_, List.mem_of_getElem? e, hs⟩))
    have HTc := Lib.hid (hT.mono (T := t :: (obI (.slice (some ⟨gP, 0, none⟩) st.1.length cP) ++ (obI (.slice AL st.1.length cL) ++ lv.flatMap obI))) (by rw [ob0]; simp))
    obtain ⟨n, hn⟩ : ∃ n, st.1.length = n := ⟨_, rfl⟩
    rw [hn] at c0 hlt hf
    have j1 : IntKind.i64.wrap (port - 1) = (i : Int) := by rw [IntKind.wrap_i64]; omega
    have i0 : (0 : Int) ≤ (i : Int) := by omega
    have i1 : (i : Int) < (n : Int) := by omega
    obtain ⟨old, hold⟩ : ∃ v, (prC p)[3]? = some v := ⟨_, rfl⟩
    rw [hold] at hat
    have c3 : w.cell? ⟨gP, i * 4 + 3, none⟩ = some old := by rw [c3]; exact hold
    clear h2 h3 h4 h5 h6 h7 h8 hat hset hm hT hnd ob0 hne1 hrest hn hold hp hi e1 hth hpe HI2
    go_enter Try.func28, Try.ntmps28
    go_wp2_with fail
    refine Calls.mono HTh.out ?_
    rintro e w' ⟨rfl, rfl⟩
    go_wp2
    go_ret
    exact ⟨rfl, HN.out, HTc.out⟩
end Go.Proofs.Ytabbclocgkhnhaa
