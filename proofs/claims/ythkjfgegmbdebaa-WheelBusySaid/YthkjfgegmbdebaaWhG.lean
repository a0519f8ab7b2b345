/-
  The program's own wheel (layer 17): put within what holds of the slots; New, Add.
-/
import Derived.Test.YthkjfgegmbdebaaWhF
import Derived.Test.YthkjfgegmbdebaaGap
namespace Go.Proofs.Ythkjfgegmbdebaa
open Go.RowKit
set_option linter.unusedVariables false

theorem Goes.trans_ {w w1 w2 : World} {S S1 S2 : List Nat} (h : Goes w w1 S S1) (k : Goes w1 w2 S1 S2) : Goes w w2 S S2 :=
  ⟨h.tch.trans_fre k.tch (fun s hs => h.fre s hs), fun s hs => by
    rcases k.fre s hs with h1 | h1
    · exact h.fre s h1
    · exact .inr (Nat.le_trans h.tch.size h1)⟩
theorem Goes.of_nil {w w1 : World} (h : Tch w w1 []) (S : List Nat) : Goes w w1 S S := .of_tch (h.mono (by simp))
theorem Goes.set_ {w w1 : World} {S S' : List Nat} (h : Goes w w1 S S') {p : Addr} (hp : p.block ∈ S) (u : Value) : Goes w (w1.setCell p u) S S' := ⟨h.tch.set_ hp u, h.fre⟩
/-- What a wheel's blocks are. -/
def ftW (p m : Nat) (lv : List Value) : List Nat := p :: m :: lv.flatMap obI
theorem ft_set {p m k : Nat} {lv : List Value} {v v0 : Value} {B : Nat} (hk : lv[k]? = some v0) (hb : ∀ s ∈ obI v, s ∈ obI v0 ∨ B ≤ s) : ∀ s ∈ ftW p m (lv.set k v), s ∈ ftW p m lv ∨ B ≤ s := by
  intro s hs
  unfold ftW at *
  rcases List.mem_cons.1 hs with h | hs
  · exact .inl (by simp [h])
  · rcases List.mem_cons.1 hs with h | hs
    · exact .inl (by simp [h])
    · obtain ⟨u, hu, hs⟩ := List.mem_flatMap.1 hs
      obtain ⟨i, hi⟩ := List.mem_iff_getElem?.1 hu
      rw [List.getElem?_set] at hi
      by_cases e : k = i
      · rw [if_pos e] at hi
        split at hi
        · injection hi with hi; subst hi
          rcases hb s hs with h1 | h1
          · exact .inl (List.mem_cons_of_mem _ (List.mem_cons_of_mem _ (List.mem_flatMap.2 ⟨v0, List.mem_of_getElem? hk, h1⟩)))
          · exact .inr h1
        · cases hi
      · rw [if_neg e] at hi
        exact .inl (List.mem_cons_of_mem _ (List.mem_cons_of_mem _ (List.mem_flatMap.2 ⟨u, List.mem_of_getElem? hi, hs⟩)))
theorem InvC.few_ {j t : Nat} {ll : List (List TmI)} {A : List TmI} {M : List (Int × Value)} {L : List TmI} (h : InvC j t ll A M L) {k : Nat} {l : List TmI} (hl : ll[k]? = some l) : l.length ≤ L.length := by
  refine nodup_le ?_ fun x hx => (h.mem x).2 (.inr ⟨k, l, hl, hx⟩)
  show l.Pairwise fun a b => a ≠ b
  rw [List.pairwise_iff_getElem]
  intro a b ha hb hab e
  have := h.one hl (List.getElem?_eq_getElem ha) hl (List.getElem?_eq_getElem hb) (by rw [e])
  omega
section
variable {w : World} {p m t a j : Nat} {lv : List Value} {ll : List (List TmI)} {A : List TmI} {M : List (Int × Value)} {L : List TmI}
/-- put: one that was in the air lies in its slot. -/
theorem putI (h : WhM w p m t a lv ll M) {x : TmI} (hI : InvC j t ll (x :: A) M L) (hL : L.length ≤ 1001) (ht : t ≤ 100000000) :
    Calls Try.prog 25 #[ptrV p, tmV x] w fun e w' => e = .returned (.tuple #[]) ∧ ∃ lv' ll' v, WhM w' p m t a lv' ll' (mpPut M x.1 v) ∧ InvC j t ll' A (mpPut M x.1 v) L ∧ Goes w w' (ftW p m lv) (ftW p m lv') := by
  have hd := hI.due x ((hI.mem x).2 (.inl (by simp)))
  have hk := (posI_lt t x.2.1).1
  obtain ⟨v, hv⟩ : ∃ v, lv[posI t x.2.1]? = some v := ⟨_, List.getElem?_eq_getElem (by rw [h.n48]; exact hk)⟩
  obtain ⟨l, hl⟩ : ∃ l, ll[posI t x.2.1]? = some l := ⟨_, List.getElem?_eq_getElem (by rw [h.l48]; exact hk)⟩
  have hn := hI.few_ hl
  refine (put_any h x hd ht hv hl (by omega)).mono ?_
  rintro e w' ⟨rfl, v', h1, h2, h3⟩
  refine ⟨rfl, _, _, _, h1, hI.put h.map.nodup hl, h3.mono (fun s hs => ?_), ft_set hv h2⟩
  unfold ftW
  simp only [List.mem_cons] at hs ⊢
  rcases hs with hs | hs | hs
  · exact .inl hs
  · exact .inr (.inl hs)
  · exact .inr (.inr (List.mem_flatMap.2 ⟨v, List.mem_of_getElem? hv, hs⟩))
end
/-- A wheel at rest: its blocks F. -/
def WhP (w : World) (p t a : Nat) (L : List TmI) (F : List Nat) : Prop :=
  ∃ (m : Nat) (lv : List Value) (ll : List (List TmI)) (M : List (Int × Value)), WhM w p m t a lv ll M ∧ InvC 3 t ll [] M L ∧ InvM M L ∧ RowI t a L ∧ F = ftW p m lv
section
variable {w w' : World} {p t a : Nat} {L : List TmI} {F : List Nat}
theorem WhP.tch {T : List Nat} (h : WhP w p t a L F) (ht : Tch w w' T) (hn : ∀ s ∈ F, s ∉ T) : WhP w' p t a L F := by
  obtain ⟨m, lv, ll, M, h1, h2, h3, h4, rfl⟩ := h
  exact ⟨m, lv, ll, M, h1.tch ht hn, h2, h3, h4, rfl⟩
theorem WhP.lt (h : WhP w p t a L F) : ∀ s ∈ F, s < w.heap.size := by
  obtain ⟨m, lv, ll, M, h1, h2, h3, h4, rfl⟩ := h
  exact h1.lt
theorem WhP.row (h : WhP w p t a L F) : RowI t a L := by
  obtain ⟨m, lv, ll, M, h1, h2, h3, h4, rfl⟩ := h
  exact h4
theorem nowP (h : WhP w p t a L F) : Calls Try.prog 21 #[ptrV p] w fun e w' => e = .returned (.int .i64 (t : Int)) ∧ w' = w := by
  obtain ⟨m, lv, ll, M, h1, h2, h3, h4, rfl⟩ := h
  exact now_any h1
theorem lenP (h : WhP w p t a L F) : Calls Try.prog 22 #[ptrV p] w fun e w' => e = .returned (.int .i64 (L.length : Int)) ∧ w' = w := by
  obtain ⟨m, lv, ll, M, h1, h2, h3, h4, rfl⟩ := h
  rw [← h3.len]
  exact len_any h1
theorem leftP (h : WhP w p t a L F) (id : Int) (ht : t ≤ 100000000) : Calls Try.prog 19 #[ptrV p, .int .i64 id] w fun e w' => e = .returned (.tuple #[.int .i64 (lftV L t id), .bool (decide (wAt L id ≠ 0))]) ∧ Tch w w' [] := by
  obtain ⟨m, lv, ll, M, h1, h2, h3, h4, rfl⟩ := h
  exact left_any h1 h2 h3 id (by omega)
theorem nextP (h : WhP w p t a L F) (ht : t ≤ 100000000) : Calls Try.prog 23 #[ptrV p] w fun e w' => e = .returned (.int .i64 (nxtV L t : Int)) ∧ Tch w w' [] := by
  obtain ⟨m, lv, ll, M, h1, h2, h3, h4, rfl⟩ := h
  exact next_any h1 h2 (fun x hx => (h4.due x hx).1) h4.len ht
set_option maxRecDepth 100000 in
set_option maxHeartbeats 4000000 in
theorem addP (h : WhP w p t a L F) (id after : Int) (ht : t ≤ 100000000) (ha : a ≤ 100000000) :
    Calls Try.prog 11 #[ptrV p, .int .i64 id, .int .i64 after] w fun e w' => e = .returned (.int .i64 (addE L id after)) ∧ ∃ F', WhP w' p t (addA L a id after) (addL L t a id after) F' ∧ Goes w w' F F' := by
  have HP := Lib.hid h
  obtain ⟨m, lv, ll, M, h1, h2, h3, h4, rfl⟩ := h
  have hp := h1.places
  have hlk := h1.map.lookup2 keyI Try.underlying46 (zeroPl w) id
  by_cases g1 : after < 1
  · have HE : Hid (addE L id after = 1) := Lib.hid (by unfold addE; rw [if_pos (.inl g1)])
    clear h1 h2 h3 h4 hp hlk
    go_enter Try.func11, Try.ntmps11
    go_wp2
    go_ret
    exact ⟨by rw [HE.out]; rfl, _, by unfold addA addL; rw [HE.out, if_neg (by decide), if_neg (by decide)]; exact HP.out, Goes.of_nil (Tch.refl _ _) _⟩
  by_cases g2 : 4095 < after
  · have HE : Hid (addE L id after = 1) := Lib.hid (by unfold addE; rw [if_pos (.inr g2)])
    clear h1 h2 h3 h4 hp hlk
    go_enter Try.func11, Try.ntmps11
    go_wp2
    go_ret
    exact ⟨by rw [HE.out]; rfl, _, by unfold addA addL; rw [HE.out, if_neg (by decide), if_neg (by decide)]; exact HP.out, Goes.of_nil (Tch.refl _ _) _⟩
  cases hv : valG id M with
  | some v =>
    obtain ⟨k, l, i, x, hl, hi, hx, rfl, hxL⟩ := h2.find h3 hv
    have HE : Hid (addE L id after = 160) := Lib.hid (by unfold addE; rw [if_neg (by omega), if_pos (fun e => wAt_zero.1 e x hxL hx)])
    obtain ⟨e1, e2⟩ := pl_is (z := .agg #[.int .i64 0, .int .i64 0, .int .i64 0]) hv
    rw [e1, e2] at hlk
    unfold plV at hlk
    have HZ : Hid (∀ o, Tch w (w.alloc o) []) := Lib.hid (fun o => (Tch.refl w []).alloc o)
    clear h1 h2 h3 h4 hl hi hx hxL hv e1 e2
    go_enter Try.func11, Try.ntmps11
    go_wp2
    go_ret
    exact ⟨by rw [HE.out]; rfl, _, by unfold addA addL; rw [HE.out, if_neg (by decide), if_neg (by decide)]; exact HP.out.tch (HZ.out _) (by simp), Goes.of_nil (HZ.out _) _⟩
  | none =>
    obtain ⟨e1, e2⟩ := pl_no (z := .agg #[.int .i64 0, .int .i64 0, .int .i64 0]) hv
    rw [e1, e2] at hlk
    have hno := (h3.keys id).1 hv
    have h0 : wAt L id = 0 := wAt_zero.2 hno
    have HT1 : Hid (Tch w (w.alloc (.cells #[.int .i64 0, .int .i64 0, .int .i64 0] 53)) []) := Lib.hid ((Tch.refl w []).alloc _)
    have hp1 := (h1.tch HT1.out (by simp)).places
    have hln := (h1.tch HT1.out (by simp)).map.len Try.underlying46 3
    by_cases g3 : 1000 ≤ L.length
    · have HE : Hid (addE L id after = 161) := Lib.hid (by unfold addE; rw [if_neg (by omega), if_neg (by omega), if_pos g3])
      have hM := h3.len
      have g4 : (1000 : Int) ≤ (M.length : Int) := by omega
      obtain ⟨ml, hml⟩ : ∃ ml, M.length = ml := ⟨_, rfl⟩
      rw [hml] at hln g4
      clear h1 h2 h3 h4 hv e1 e2 hno h0 hM hml
      go_enter Try.func11, Try.ntmps11
      go_wp2
      go_ret
      exact ⟨by rw [HE.out]; rfl, _, by unfold addA addL; rw [HE.out, if_neg (by decide), if_neg (by decide)]; exact HP.out.tch HT1.out (by simp), Goes.of_nil HT1.out _⟩
    · have HE : Hid (addE L id after = 0) := Lib.hid (by unfold addE; rw [if_neg (by omega), if_neg (by omega), if_neg g3])
      have hM := h3.len
      have g4 : ¬ (1000 : Int) ≤ (M.length : Int) := by omega
      obtain ⟨ml, hml⟩ : ∃ ml, M.length = ml := ⟨_, rfl⟩
      rw [hml] at hln g4
      obtain ⟨af, haf⟩ : ∃ af : Nat, after = (af : Int) := ⟨after.toNat, by omega⟩
      subst haf
      have HAd := Lib.hid (h4.add id (af : Int))
      have HAE : Hid (addA L a id (af : Int) = a + 1 ∧ addL L t a id (af : Int) = L ++ [(id, t + af, a)]) := Lib.hid (by unfold addA addL; rw [HE.out, if_pos rfl, if_pos rfl]; exact ⟨rfl, rfl⟩)
      rw [HAE.out.1, HAE.out.2] at HAd
      rw [HE.out, HAE.out.1, HAE.out.2]
      have hI := h2.fresh (x := (id, t + af, a)) hno (by simp only; omega)
      have HIM := Lib.hid (fun v => h3.add h1.map.nodup (x := (id, t + af, a)) hno v)
      have w1 : IntKind.i64.wrap ((t : Int) + (af : Int)) = (t : Int) + (af : Int) := by rw [IntKind.wrap_i64]; omega
      have w2 : IntKind.i64.wrap ((a : Int) + 1) = ((a + 1 : Nat) : Int) := by rw [IntKind.wrap_i64]; omega
      obtain ⟨W1, hW1⟩ : ∃ W, w.alloc (.cells #[.int .i64 0, .int .i64 0, .int .i64 0] 53) = W := ⟨_, rfl⟩
      have HW1 := Lib.hid hW1
      have hT1 := HT1.out
      rw [hW1] at hT1 hp1 hln
      have HT1 := Lib.hid hT1
      have HT2 : Hid (Tch w W1.drew []) := Lib.hid hT1.drew
      have h1d := h1.tch HT2.out (by simp)
      have HS : Hid (W1.drew.cell? ⟨p, 0, none⟩ = some (.int .i64 (t : Int)) ∧ W1.drew.cell? ⟨p, 1, none⟩ = some (.int .i64 (a : Int))) := Lib.hid ⟨h1d.now, h1d.added⟩
      have hput := putI h1d hI (by rw [List.length_append]; simp; omega) ht
      rw [show tmV (id, t + af, a) = .agg #[.int .i64 id, .int .i64 ((t : Int) + (af : Int)), .int .i64 (a : Int)] from by simp] at hput
      have HPut := Lib.hid hput
      clear h1 h2 h3 h4 hv e1 e2 hno h0 hM hml hI hW1 hT1 h1d hput
      go_enter Try.func11, Try.ntmps11
      rw [← HW1.out] at hp1 hln
      go_wp2
      rw [HW1.out]
      clear hp1 hln hp hlk
      obtain ⟨s0, s1⟩ := HS.out
      refine wp_region_held_drew (S := (fun W => W.cell? ⟨p, 0, none⟩ = some (.int .i64 (t : Int)) ∧ W.cell? ⟨p, 1, none⟩ = some (.int .i64 (a : Int)))) (by kernel_rfl) ?_ (fun hHeld => ?_)
      · (first | exact HS.out | exact And.intro HW2.out.now HW2.out.added)
      refine wpAnyH_take (i := 0) (oi := { dst := some 31, op := Go.Op.move (Go.Operand.tmp 0), type := 24, pos := "wheel.go:44", after := #[], guard := none }) (v := ?_) rfl (by kernel_rfl) (by kernel_rfl) (by kernel_rfl) (fun _ _ _ h => h) (Or.inl ⟨by rfl, ?_⟩) (by assumption) ?_
      rotate_left
      · intro w hSw
        (try dsimp only at hSw)
        go_simp
        try (with_reducible rfl)
      try simp only [Act.put, List.setIfInBounds_toArray, List.set_cons_zero, List.set_cons_succ]
      refine wpAnyH_take (i := 1) (oi := { dst := some 32, op := Go.Op.move (Go.Operand.tmp 1), type := 3, pos := "wheel.go:44", after := #[], guard := none }) (v := ?_) rfl (by kernel_rfl) (by kernel_rfl) (by kernel_rfl) (fun _ _ _ h => h) (Or.inl ⟨by rfl, ?_⟩) (by assumption) ?_
      rotate_left
      · intro w hSw
        (try dsimp only at hSw)
        go_simp
        try (with_reducible rfl)
      try simp only [Act.put, List.setIfInBounds_toArray, List.set_cons_zero, List.set_cons_succ]
      refine wpAnyH_take (i := 2) (oi := { dst := some 33, op := Go.Op.move (Go.Operand.tmp 0), type := 24, pos := "wheel.go:44", after := #[], guard := none }) (v := ?_) rfl (by kernel_rfl) (by kernel_rfl) (by kernel_rfl) (fun _ _ _ h => h) (Or.inl ⟨by rfl, ?_⟩) (by assumption) ?_
      rotate_left
      · intro w hSw
        (try dsimp only at hSw)
        go_simp
        try (with_reducible rfl)
      try simp only [Act.put, List.setIfInBounds_toArray, List.set_cons_zero, List.set_cons_succ]
      refine wpAnyH_take (i := 3) (oi := { dst := some 34, op := Go.Op.nilCheck (Go.Operand.tmp 33), type := 0, pos := "wheel.go:44", after := #[{ on := 2, ground := Go.Ground.data }], guard := none }) (v := ?_) rfl (by kernel_rfl) (by kernel_rfl) (by kernel_rfl) (fun _ _ _ h => h) (Or.inl ⟨by rfl, ?_⟩) (by assumption) ?_
      rotate_left
      · intro w hSw
        (try dsimp only at hSw)
        go_simp
        try (with_reducible rfl)
      try simp only [Act.put, List.setIfInBounds_toArray, List.set_cons_zero, List.set_cons_succ]
      refine wpAnyH_take (i := 4) (oi := { dst := some 35, op := Go.Op.fieldAddr 51 (Go.Operand.tmp 34) 0, type := 0, pos := "wheel.go:44", after := #[{ on := 3, ground := Go.Ground.data }], guard := none }) (v := ?_) rfl (by kernel_rfl) (by kernel_rfl) (by kernel_rfl) (fun _ _ _ h => h) (Or.inl ⟨by rfl, ?_⟩) (by assumption) ?_
      rotate_left
      · intro w hSw
        (try dsimp only at hSw)
        go_simp
        try (with_reducible rfl)
      try simp only [Act.put, List.setIfInBounds_toArray, List.set_cons_zero, List.set_cons_succ]
      refine wpAnyH_take (i := 5) (oi := { dst := some 36, op := Go.Op.load 3 (Go.Operand.tmp 35), type := 3, pos := "wheel.go:44", after := #[{ on := 4, ground := Go.Ground.data }], guard := none }) (v := ?_) rfl (by kernel_rfl) (by kernel_rfl) (by kernel_rfl) (fun _ _ _ h => h) (Or.inl ⟨by rfl, ?_⟩) (by assumption) ?_
      rotate_left
      · intro w hSw
        (try dsimp only at hSw)
        go_simp
        try (with_reducible rfl)
      try simp only [Act.put, List.setIfInBounds_toArray, List.set_cons_zero, List.set_cons_succ]
      refine wpAnyH_take (i := 6) (oi := { dst := some 37, op := Go.Op.move (Go.Operand.tmp 2), type := 3, pos := "wheel.go:44", after := #[], guard := none }) (v := ?_) rfl (by kernel_rfl) (by kernel_rfl) (by kernel_rfl) (fun _ _ _ h => h) (Or.inl ⟨by rfl, ?_⟩) (by assumption) ?_
      rotate_left
      · intro w hSw
        (try dsimp only at hSw)
        go_simp
        try (with_reducible rfl)
      try simp only [Act.put, List.setIfInBounds_toArray, List.set_cons_zero, List.set_cons_succ]
      refine wpAnyH_take (i := 7) (oi := { dst := some 38, op := Go.Op.binOp Go.BinOp.add 3 (Go.Operand.tmp 36) (Go.Operand.tmp 37) 3, type := 3, pos := "wheel.go:44", after := #[{ on := 5, ground := Go.Ground.data }, { on := 6, ground := Go.Ground.data }], guard := none }) (v := ?_) rfl (by kernel_rfl) (by kernel_rfl) (by kernel_rfl) (fun _ _ _ h => h) (Or.inl ⟨by rfl, ?_⟩) (by assumption) ?_
      rotate_left
      · intro w hSw
        (try dsimp only at hSw)
        go_simp
        try (with_reducible rfl)
      try simp only [Act.put, List.setIfInBounds_toArray, List.set_cons_zero, List.set_cons_succ]
      refine wpAnyH_take (i := 8) (oi := { dst := some 39, op := Go.Op.move (Go.Operand.tmp 0), type := 24, pos := "wheel.go:44", after := #[], guard := none }) (v := ?_) rfl (by kernel_rfl) (by kernel_rfl) (by kernel_rfl) (fun _ _ _ h => h) (Or.inl ⟨by rfl, ?_⟩) (by assumption) ?_
      rotate_left
      · intro w hSw
        (try dsimp only at hSw)
        go_simp
        try (with_reducible rfl)
      try simp only [Act.put, List.setIfInBounds_toArray, List.set_cons_zero, List.set_cons_succ]
      refine wpAnyH_take (i := 9) (oi := { dst := some 40, op := Go.Op.nilCheck (Go.Operand.tmp 39), type := 0, pos := "wheel.go:44", after := #[{ on := 8, ground := Go.Ground.data }], guard := none }) (v := ?_) rfl (by kernel_rfl) (by kernel_rfl) (by kernel_rfl) (fun _ _ _ h => h) (Or.inl ⟨by rfl, ?_⟩) (by assumption) ?_
      rotate_left
      · intro w hSw
        (try dsimp only at hSw)
        go_simp
        try (with_reducible rfl)
      try simp only [Act.put, List.setIfInBounds_toArray, List.set_cons_zero, List.set_cons_succ]
      refine wpAnyH_take (i := 10) (oi := { dst := some 41, op := Go.Op.fieldAddr 51 (Go.Operand.tmp 40) 1, type := 0, pos := "wheel.go:44", after := #[{ on := 9, ground := Go.Ground.data }], guard := none }) (v := ?_) rfl (by kernel_rfl) (by kernel_rfl) (by kernel_rfl) (fun _ _ _ h => h) (Or.inl ⟨by rfl, ?_⟩) (by assumption) ?_
      rotate_left
      · intro w hSw
        (try dsimp only at hSw)
        go_simp
        try (with_reducible rfl)
      try simp only [Act.put, List.setIfInBounds_toArray, List.set_cons_zero, List.set_cons_succ]
      refine wpAnyH_take (i := 11) (oi := { dst := some 42, op := Go.Op.load 3 (Go.Operand.tmp 41), type := 3, pos := "wheel.go:44", after := #[{ on := 10, ground := Go.Ground.data }], guard := none }) (v := ?_) rfl (by kernel_rfl) (by kernel_rfl) (by kernel_rfl) (fun _ _ _ h => h) (Or.inl ⟨by rfl, ?_⟩) (by assumption) ?_
      rotate_left
      · intro w hSw
        (try dsimp only at hSw)
        go_simp
        try (with_reducible rfl)
      try simp only [Act.put, List.setIfInBounds_toArray, List.set_cons_zero, List.set_cons_succ]
      refine wpAnyH_take (i := 12) (oi := { dst := some 43, op := Go.Op.build 57 #[(0, Go.Operand.tmp 32), (1, Go.Operand.tmp 38), (2, Go.Operand.tmp 42)], type := 57, pos := "wheel.go:44", after := #[{ on := 1, ground := Go.Ground.data }, { on := 7, ground := Go.Ground.data }, { on := 11, ground := Go.Ground.data }], guard := none }) (v := ?_) rfl (by kernel_rfl) (by kernel_rfl) (by kernel_rfl) (fun _ _ _ h => h) (Or.inl ⟨by rfl, ?_⟩) (by assumption) ?_
      rotate_left
      · intro w hSw
        (try dsimp only at hSw)
        go_simp
        try (with_reducible rfl)
      try simp only [Act.put, List.setIfInBounds_toArray, List.set_cons_zero, List.set_cons_succ]
      refine wpAnyH_ready (rs := [13]) (by kernel_rfl) (by simp) ?_
      refine AllReadyH.cons (o := { dst := some 44, op := Go.Op.call { callee := Go.Callee.value (Go.Operand.func 25), args := #[Go.Operand.tmp 31, Go.Operand.tmp 43], argTypes := #[24, 57] }, type := 0, pos := "wheel.go:44", after := #[{ on := 0, ground := Go.Ground.data }, { on := 12, ground := Go.Ground.data }], guard := none }) rfl (fun K hK => ?_) AllReadyH.nil
      go_simp
      (go_at_call 25; (with_reducible refine Calls.mono HPut.out ?_); rintro e W2 ⟨rfl, lv', ll', v, hW2, hI2, hG2⟩; have HW2 := Lib.hid hW2; have HI2 := Lib.hid hI2; have HG2 := Lib.hid hG2; clear hW2 hI2 hG2)
      go_wp2_with fail
      refine hK.out _ _ ?_ (fun hHeld => ?_)
      · (first | exact HS.out | exact And.intro HW2.out.now HW2.out.added)
      clear hK K
      try simp only [Act.put, List.setIfInBounds_toArray, List.set_cons_zero, List.set_cons_succ]
      refine wpAnyH_done (by kernel_rfl) ?_ _
      clear s0 s1
      have s1 := HW2.out.added
      have f1 := HW2.out.frozen 1
      go_wp2
      go_ret
      obtain ⟨h5, h6⟩ := HW2.out.setAdded (a + 1)
      exact ⟨rfl, _, ⟨m, lv', ll', _, h5, HI2.out, HIM.out v, HAd.out, rfl⟩, (((Goes.of_nil HT2.out _).trans_ HG2.out).trans_ (.of_tch (h6.mono (by simp [ftW]))))⟩
end
end Go.Proofs.Ythkjfgegmbdebaa
