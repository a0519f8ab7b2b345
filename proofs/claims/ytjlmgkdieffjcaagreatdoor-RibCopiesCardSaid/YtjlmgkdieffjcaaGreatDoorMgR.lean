/-
  Several texts in one: App, RefPut, RBytes, RLess.
-/
import Derived.Test.YtjlmgkdieffjcaaGreatDoorMgV
import Derived.Maps.AppendAt
import Derived.Laws.AppendOwnNone
import Derived.Deep.RegionHeld3

namespace Go.Proofs.YtjlmgkdieffjcaaGreatDoor
open Go.RowKit
set_option linter.unusedVariables false

theorem RI.cells_at {w : World} {B m : Nat} {A : Option Addr} {zs : List Int} (h : RI .u8 w B A m zs) {ad : Addr} (e : A = some ad) : ∀ j u, (zs.map (Value.int .u8))[j]? = some u → w.cell? (ad.add j) = some u := by
  intro j u hu
  by_cases h0 : 0 < (zs.map (Value.int .u8)).length
  · obtain ⟨_, ad', e', hc⟩ := cs_at h 0 h0
    rw [e] at e'
    injection e' with e'
    subst e'
    exact hc j u hu
  · have e0 : zs.map (Value.int .u8) = [] := List.length_eq_zero_iff.1 (by omega)
    rw [e0] at hu
    simp at hu

/-- 'append(v, x...)', v the call's own row of bytes, x whatever reads as bytes: nil, empty or not. -/
theorem wpList_app (w : World) {ops : Array Oper} {rest : List Oper} {o : Oper} {a : Act} {Q : Exit → Act → World → Prop} (hgd : o.guard = none) (s x : Operand)
    (ho : o.op = .call { callee := .builtin .append, args := #[s, x], argTypes := #[139, 139] })
    (base : Nat) (v : Value) (n : Nat) (ys : List Int) (hs : a.eval s = v) (hown : w.ownsRow base 5 1 v n (ys.map (Value.int .u8)))
    (B : Nat) (A : Option Addr) (m c : Nat) (zs : List Int) (hx : a.eval x = .slice A m c) (hA : A = none → c = 0) (hr : RI .u8 w B A m zs)
    (hsz : n + m ≤ 140737488355328) (hbase : base ≤ w.heap.size)
    (h : ∀ v' w', w'.ownsRow base 5 1 v' (n + m) ((ys ++ zs).map (Value.int .u8)) → w.grownBy w' v.ownBlock → (v'.ownBlock = v.ownBlock ∨ v'.ownBlock = some w.heap.size) → wpList Tryz.prog ops Q rest (a.put o.dst v') w') :
    wpList Tryz.prog ops Q (o :: rest) a w := by
  obtain ⟨i0, hi, hz0, hz1, hz2⟩ := info_parts Tryz.info5
  rcases A with _ | ad
  · obtain rfl := hA rfl
    have hm : m = 0 := by
      rcases Nat.eq_zero_or_pos m with h0 | h0
      · exact h0
      · obtain ⟨_, _, e, _⟩ := hr.2.1 h0
        cases e
    subst hm
    obtain rfl : zs = [] := List.eq_nil_of_length_eq_zero hr.1
    refine wpList_append_own_none hgd s x 139 ho base 5 i0 1 Tryz.underlying139 hi v n _ hs hown hx ?_
    exact h v w (by simpa using hown) (World.grownBy.refl w _) (.inl rfl)
  · refine wpList_append_own_at w hgd s x 139 ho base 5 i0 (.int .u8 0) 1 1 Tryz.underlying139 hi hz0 hz1 hz2 rfl (by decide) v n _ hs hown ad m c (zs.map (Value.int .u8)) hx (by simp [hr.1]) (hr.cells_at rfl) bytes_oneCell (by unfold maxLen; omega) (by omega) hbase ?_
    intro v' w' h1 h2 h3 h4
    exact h v' w' (by simpa using h1) h2 h4

/-- The same where the new row has an element: the value is known. -/
theorem wpList_app1 (w : World) {ops : Array Oper} {rest : List Oper} {o : Oper} {a : Act} {Q : Exit → Act → World → Prop} (hgd : o.guard = none) (s x : Operand)
    (ho : o.op = .call { callee := .builtin .append, args := #[s, x], argTypes := #[139, 139] })
    (base : Nat) (v : Value) (n : Nat) (ys : List Int) (hs : a.eval s = v) (hown : w.ownsRow base 5 1 v n (ys.map (Value.int .u8)))
    (B : Nat) (A : Option Addr) (m c : Nat) (zs : List Int) (hx : a.eval x = .slice A m c) (hA : A = none → c = 0) (hr : RI .u8 w B A m zs)
    (hsz : n + m ≤ 140737488355328) (hbase : base ≤ w.heap.size) (hpos : 0 < n + m)
    (h : ∀ g cap w', w'.ownsRow base 5 1 (.slice (some ⟨g, 0, none⟩) (n + m) cap) (n + m) ((ys ++ zs).map (Value.int .u8)) → w.grownBy w' v.ownBlock → (some g = v.ownBlock ∨ g = w.heap.size) → wpList Tryz.prog ops Q rest (a.put o.dst (.slice (some ⟨g, 0, none⟩) (n + m) cap)) w') :
    wpList Tryz.prog ops Q (o :: rest) a w := by
  refine wpList_app w hgd s x ho base v n ys hs hown B A m c zs hx hA hr hsz hbase fun v' w' h1 h2 h3 => ?_
  obtain ⟨g, cap, rfl, _, _⟩ := h1.form hpos
  exact h g cap w' h1 h2 (by simpa [Value.ownBlock] using h3)


/-- 'append(nil, x...)', x with an element: new memory that begins with x. -/
theorem wpList_app0 (w : World) {ops : Array Oper} {rest : List Oper} {o : Oper} {a : Act} {Q : Exit → Act → World → Prop} (hgd : o.guard = none) (s x : Operand)
    (ho : o.op = .call { callee := .builtin .append, args := #[s, x], argTypes := #[139, 139] })
    (base : Nat) (hs : a.eval s = .slice none 0 0)
    (B : Nat) (A : Option Addr) (m c : Nat) (zs : List Int) (hx : a.eval x = .slice A m c) (hr : RI .u8 w B A m zs)
    (hsz : m ≤ 140737488355328) (hbase : base ≤ w.heap.size) (hpos : 0 < m)
    (h : ∀ g cap w', w'.ownsRow base 5 1 (.slice (some ⟨g, 0, none⟩) m cap) m (zs.map (Value.int .u8)) → w.grownBy w' none → g = w.heap.size → wpList Tryz.prog ops Q rest (a.put o.dst (.slice (some ⟨g, 0, none⟩) m cap)) w') :
    wpList Tryz.prog ops Q (o :: rest) a w := by
  have hA : A = none → c = 0 := fun e => by
    obtain ⟨_, _, e', _⟩ := hr.2.1 hpos
    rw [e] at e'; cases e'
  refine wpList_app1 w hgd s x ho base (.slice none 0 0) 0 [] hs ⟨by simp, .inl ⟨rfl, rfl⟩⟩ B A m c zs hx hA hr (by omega) hbase (by omega) fun g cap w' h1 h2 h3 => ?_
  rw [Nat.zero_add] at h1 ⊢
  exact h g cap w' (by simpa using h1) (by simpa [Value.ownBlock] using h2) (by simpa [Value.ownBlock] using h3)
end Go.Proofs.YtjlmgkdieffjcaaGreatDoor

namespace Go.Proofs.YtjlmgkdieffjcaaGreatDoor
open Go.RowKit
set_option linter.unusedVariables false

theorem putOf_get (k : Nat) : ∀ (v : Int) (i : Nat), i < k → (putOf k v)[k - 1 - i]? = some (v / 256 ^ i % 256) := by
  induction k with
  | zero => intro v i h; omega
  | succ k ih =>
    intro v i h
    rw [putOf_cons]
    by_cases he : i = k
    · subst he; simp
    · rw [show k + 1 - 1 - i = (k - 1 - i) + 1 by omega, List.getElem?_cons_succ]
      exact ih v i (by omega)
theorem putOf_take (k : Nat) (v : Int) (i : Nat) (h : i < k) : (putOf k v).take (k - i) = (putOf k v).take (k - (i + 1)) ++ [v / 256 ^ i % 256] := by
  have e := putOf_get k v i h
  rw [show k - i = (k - (i + 1)) + 1 by omega, List.take_add_one]
  rw [show k - 1 - i = k - (i + 1) by omega] at e
  rw [e]; rfl

theorem own_base {w : World} {base e size n : Nat} {v : Value} {xs : List Value} (h : w.ownsRow base e size v n xs) : ∀ k, v.ownBlock = some k → base ≤ k := by
  intro k hk
  rcases h.2 with ⟨rfl, _⟩ | ⟨g, cap, cur, rfl, h1, _⟩
  · simp [Value.ownBlock] at hk
  · simp [Value.ownBlock] at hk; omega

/-- What the document's Put hands back. -/
def RefPut (w : World) (n : Nat) (zs : List Int) (e : Ending) (w' : World) : Prop :=
  ∃ A c, e = .returned (.slice A n c) ∧ RI .u8 w' w'.heap.size A n zs ∧ (∀ x, A = some x → w.heap.size ≤ x.block) ∧ Below w.heap.size w w'

theorem refPut_of {w w' : World} {n : Nat} {zs : List Int} {v : Value} (hw : ∀ z ∈ zs, (Lit.int .u8 z).wf = true) (hown : w'.ownsRow w.heap.size 5 1 v n (zs.map (Value.int .u8))) (hB : Below w.heap.size w w') : RefPut w n zs (.returned v) w' := by
  have hl : zs.length = n := by simpa using hown.1
  rcases hown.2 with ⟨rfl, rfl⟩ | ⟨g, cap, cur, rfl, h1, h2, h3, h4, h5, h6⟩
  · obtain rfl : zs = [] := List.eq_nil_of_length_eq_zero hl
    exact ⟨none, 0, rfl, RI.nil_, (fun _ h => by cases h), hB⟩
  · have hb : Blk w' g 5 cur := h2
    refine ⟨some ⟨g, 0, none⟩, cap, rfl, ⟨hl, fun _ => ⟨g, 0, rfl, hb.lt, fun j z hz => ?_⟩, hw⟩, (fun x hx => by injection hx with hx; rw [← hx]; exact h1), hB⟩
    rw [Nat.zero_add, hb.cell]
    have hj : j < n := by rw [← hl]; exact (List.getElem?_eq_some_iff.1 hz).1
    have e : (cur.toList.take (n * 1))[j]? = some (.int .u8 z) := by rw [h6, List.getElem?_map, hz]; rfl
    rw [List.getElem?_take, if_pos (by omega)] at e
    simpa using e

theorem div_step (v : Int) (t : Nat) (hv : 0 ≤ v) : (v / 256 ^ t) / 256 = v / 256 ^ (t + 1) := by rw [Int.pow_succ, Int.ediv_ediv_of_nonneg (Int.le_of_lt (pow256_pos t))]
theorem div_bd (v : Int) (t : Nat) (h0 : 0 ≤ v) (h1 : v ≤ 18446744073709551615) : 0 ≤ v / 256 ^ t ∧ v / 256 ^ t ≤ 18446744073709551615 := by
  have hp := pow256_pos t
  exact ⟨Int.ediv_nonneg h0 (by omega), Int.le_trans (Int.ediv_le_self _ h0) h1⟩

set_option maxHeartbeats 1000000 in
theorem refPut_at (w : World) (B : Nat) (A : Option Addr) (n c k : Nat) (v width x : Int) (zs : List Int) (hz : RI .u8 w B A n zs) (hA : A = none → c = 0) (hB : B ≤ w.heap.size) (hk : k ≤ 8) (hn : n + 9 ≤ 140737488355328)
    (hv0 : 0 ≤ v) (hv1 : v ≤ 18446744073709551615) (hx : (if width < 0 then 0 else width) = x) (hm : (if 8 < x then 8 else x) = (k : Int)) :
    Calls Tryz.prog 118 #[.slice A n c, .int .i64 width, .int .u64 v] w (RefPut w (n + k) (zs ++ putOf k v)) := by
  have HZ := Lib.hid hz
  have HA := Lib.hid hA
  clear hz hA
  go_enter Tryz.func118, Tryz.ntmps118
  go_wp2_with (first
    | (at_builtin; refine wpList_app _ rfl (.tmp 11) (.tmp 12) rfl w.heap.size (.slice none 0 0) 0 [] rfl ⟨by simp, .inl ⟨rfl, rfl⟩⟩ B A n c zs rfl HA.out HZ.out (by omega) (Nat.le_refl _) ?_; intro v1 w1 hown1 hg1 hat1; have HB1 : Below w.heap.size w w1 := (Below.refl _ _).grown hg1 (Nat.le_refl _) (fun k hk => by simp [Value.ownBlock] at hk); have HO1 := Lib.hid hown1; clear hown1 hat1 hg1))
  go_loopw [7, 8, 9, 10] (fun v' i _ _ wr => ∃ m : Nat, m ≤ k ∧ i = .int .i64 ((m : Int) - 1) ∧ wr.ownsRow w.heap.size 5 1 v' (n + (k - m)) ((zs ++ (putOf k v).take (k - m)).map (Value.int .u8)) ∧ Below w.heap.size w wr) (fun _ i _ _ _ => (intOf i + 1).toNat)
  case atStart => exact ⟨k, Nat.le_refl _, rfl, by have := HO1.out; simpa using this, HB1⟩
  case round =>
    obtain ⟨m, hmk, hi, hown, hbel⟩ := hrel
    rcases m with _ | i'
    · have hi' := hi.trans (show Value.int .i64 (((0 : Nat) : Int) - 1) = .int .i64 (-1) by congr 1)
      clear hi
      subst hi'
      have HO := Lib.hid hown
      clear hown
      go_wp2
      go_ret
      exact refPut_of (by
        intro z hz
        rcases List.mem_append.1 hz with h | h
        · exact HZ.out.2.2 z h
        · exact wf_u8 (putOf_by k v z h)) (by have := HO.out; rw [Nat.sub_zero, List.take_of_length_le (by rw [putOf_len]; exact Nat.le_refl _)] at this; exact this) hbel
    · have hi' := hi.trans (show Value.int .i64 (((i' + 1 : Nat) : Int) - 1) = .int .i64 (i' : Int) by congr 1; omega)
      clear hi
      subst hi'
      have HO := Lib.hid hown
      clear hown
      go_wp2_with fail
      go_loop [9, 10] (fun q t => ∃ t' : Nat, t' ≤ i' ∧ t = .int .i64 t' ∧ q = .int .u64 (v / 256 ^ t')) (fun _ t => i' - (intOf t).toNat)
      case atStart => exact ⟨0, Nat.zero_le _, rfl, by simp⟩
      case round =>
        obtain ⟨t, ht, rfl, rfl⟩ := hrel
        by_cases hlt : t < i'
        · have HD := Lib.hid (div_step v t hv0)
          obtain ⟨d0, d1⟩ := div_bd v t hv0 hv1
          go_wp2
          go_round
          case rel => exact ⟨t + 1, by omega, by go_num, u64_eq HD.out⟩
          case measure => simp [intOf]; omega
        · obtain rfl : t = i' := by omega
          obtain ⟨d0, d1⟩ := div_bd v t hv0 hv1
          obtain ⟨X, hX⟩ : ∃ X, X = v / 256 ^ t := ⟨_, rfl⟩
          rw [← hX] at d0 d1 ⊢
          have HX := Lib.hid hX
          clear hX
          have hwX : ∀ z ∈ [X % 256], (Lit.int .u8 z).wf = true := by
            intro z hz
            rw [List.mem_singleton] at hz
            subst hz
            exact wf_u8 (by omega)
          have HW := Lib.hid hwX
          clear hwX
          go_wp2_with (first
            | (at_builtin; refine wpList_app _ rfl (.tmp 30) (.tmp 34) rfl w.heap.size u7 (n + (k - (t + 1))) (zs ++ (putOf k v).take (k - (t + 1))) rfl (HO.out.alloc _) (wr.heap.size + 1) (some ⟨wr.heap.size, 0, none⟩) 1 1 [X % 256] rfl (fun h => by cases h) (Blk.reads (zs := [X % 256]) (Blk.new _ _ _) HW.out (Nat.lt_succ_self _)) (by omega) (by have := hbel.size; simp; omega) ?_; intro v2 w2 hown2 hg2 hat2; have HO2 := Lib.hid hown2; have HB2 : Below w.heap.size w w2 := (hbel.alloc hbel.size _).grown hg2 (by have := hbel.size; simp; omega) (own_base HO.out); clear hown2 hg2 hat2))
          go_roundw
          case rel => exact ⟨t, by omega, by first | rfl | go_num, by have := HO2.out; rw [HX.out, List.append_assoc, ← putOf_take k v t hmk, show n + (k - (t + 1)) + 1 = n + (k - t) by omega] at this; exact this, HB2⟩
          case measure => simp [intOf]
theorem refPut_any (w : World) (B : Nat) (A : Option Addr) (n c : Nat) (v width : Int) (zs : List Int) (hz : RI .u8 w B A n zs) (hA : A = none → c = 0) (hB : B ≤ w.heap.size) (hn : n + 9 ≤ 140737488355328)
    (hv0 : 0 ≤ v) (hv1 : v ≤ 18446744073709551615) :
    Calls Tryz.prog 118 #[.slice A n c, .int .i64 width, .int .u64 v] w (RefPut w (n + wide width) (zs ++ putOf (wide width) v)) :=
  refPut_at w B A n c (wide width) v width _ zs hz hA hB (wide_le width) hn hv0 hv1 rfl (wide_eq width)

end Go.Proofs.YtjlmgkdieffjcaaGreatDoor

namespace Go.Proofs.YtjlmgkdieffjcaaGreatDoor
open Go.RowKit
set_option linter.unusedVariables false

/-- A slice of bytes that reads as zs, in a world in which all that was ahead of W stands. -/
def RB (w W : World) (A : Option Addr) (n c : Nat) (zs : List Int) : Prop := RI .u8 w w.heap.size A n zs ∧ (A = none → c = 0) ∧ Below W.heap.size W w ∧ (∀ x, A = some x → W.heap.size ≤ x.block)
/-- The contract of one call of the document's Put onto such a slice. -/
def RBStep (W : World) (n n' k : Nat) (width v : Int) : Prop := ∀ (w : World) (A : Option Addr) (c : Nat) (zs : List Int), RB w W A n c zs →
    Calls Tryz.prog 118 #[.slice A n c, .int .i64 width, .int .u64 v] w fun e w' => ∃ A' c', e = .returned (.slice A' n' c') ∧ RB w' W A' n' c' (zs ++ putOf k v)
theorem rbStep (W : World) (n n' k : Nat) (width v : Int) (hk : k ≤ 8) (hw : width = (k : Int)) (hn : n + k = n') (h0 : 0 < n') (hn2 : n ≤ 1000) (hv : U6 v) : RBStep W n n' k width v := by
  intro w A c zs h
  have e : wide width = k := by
    subst hw
    unfold wide; split <;> split <;> omega
  have hp := refPut_any w w.heap.size A n c v width zs h.1 h.2.1 (Nat.le_refl _) (by omega) hv.1 hv.2
  rw [e, hn] at hp
  refine Calls.mono hp ?_
  rintro e w' ⟨A', c', rfl, h1, h2, h3⟩
  obtain ⟨b, o, e, _⟩ := h1.2.1 h0
  exact ⟨A', c', rfl, h1, (fun h => by rw [e] at h; cases h), h.2.2.1.trans (h3.mono h.2.2.1.size), fun x hx => Nat.le_trans h.2.2.1.size (h2 x hx)⟩
theorem RB.start (w : World) : RB w.drew w none 0 0 [] := ⟨RI.nil_, fun _ => rfl, (Below.refl _ _).drew, fun _ h => by cases h⟩
theorem RB.start0 (w : World) : RB w w none 0 0 [] := ⟨RI.nil_, fun _ => rfl, Below.refl _ _, fun _ h => by cases h⟩

/-- What hands back bytes that read as zs, in memory of the call's own. -/
def OutR (w : World) (zs : List Int) (e : Ending) (w' : World) : Prop :=
  ∃ A c, e = .returned (.slice A zs.length c) ∧ RI .u8 w' w'.heap.size A zs.length zs ∧ (A = none → c = 0) ∧ (∀ g, A = some g → w.heap.size ≤ g.block) ∧ Below w.heap.size w w'

set_option maxRecDepth 100000 in
set_option maxHeartbeats 2000000 in
theorem rbytes_any (s : Bool) (h l : Int) (hh : U6 h) (hl : U6 l) (w : World) :
    Calls Tryz.prog 115 #[adr s h l] w (OutR w (byts s h l)) := by
  obtain ⟨V, hV⟩ : ∃ V, vld s h l = V := ⟨_, rfl⟩
  have HVa := Lib.hid (rvalid_at s h l (w.alloc (.cells #[.bool s, .int .u64 h, .int .u64 l] 30)) hV)
  cases V
  · have e : byts s h l = [] := by unfold byts; rw [hV]; rfl
    rw [e]
    clear hV e
    go_enter Tryz.func115, Tryz.ntmps115
    go_wp2_with fail
    refine Calls.mono HVa.out ?_
    rintro e w1 ⟨rfl, hb⟩
    have L1 := ((Below.refl _ w).alloc (Nat.le_refl _) _).trans (hb.mono (by simp only [World.size_alloc]; omega))
    clear hb
    go_wp2
    go_ret
    exact ⟨none, 0, rfl, RI.nil_, fun _ => rfl, (fun g e => by cases e), L1⟩
  · cases s
    · have e : byts false h l = putOf 4 l := by unfold byts; rw [hV]; rfl
      rw [e]
      clear hV e
      have HL := Lib.hid hl
      go_enter Tryz.func115, Tryz.ntmps115
      go_wp2_with fail
      refine Calls.mono HVa.out ?_
      rintro e w1 ⟨rfl, hb⟩
      have R1 := Lib.hid ((Blk.new w 30 _).below hb (by simp only [World.size_alloc]; omega))
      have L1 := Lib.hid (((Below.refl _ w).alloc (Nat.le_refl _) _).trans (hb.mono (by simp only [World.size_alloc]; omega)))
      obtain ⟨g1, g2, g3⟩ := R1.out.c3
      have HS := Lib.hid (rbStep w1 0 4 4 4 l (by decide) rfl rfl (by decide) (by decide) HL.out w1 none 0 [] (RB.start0 w1))
      clear hb
      go_wp2_with fail
      refine Calls.mono HS.out ?_
      rintro e w2 ⟨A, c, rfl, q1, q2, q3, q4⟩
      have Q := Lib.hid (And.intro q1 (And.intro q2 (And.intro q3 q4)))
      clear q1 q2 q3 q4 g1 g2 g3
      go_wp2
      go_ret
      obtain ⟨q1, q2, q3, q4⟩ := Q.out
      refine ⟨A, c, ?_, ?_, q2, fun g e => Nat.le_trans L1.out.size (q4 g e), L1.out.trans (q3.mono L1.out.size)⟩
      · rw [putOf_len]; rfl
      · rw [putOf_len]; exact q1
    · have e : byts true h l = putOf 8 h ++ putOf 8 l := by unfold byts; rw [hV]; rfl
      rw [e]
      clear hV e
      have HL := Lib.hid hl
      have HH := Lib.hid hh
      go_enter Tryz.func115, Tryz.ntmps115
      go_wp2_with fail
      refine Calls.mono HVa.out ?_
      rintro e w1 ⟨rfl, hb⟩
      have R1 := Lib.hid ((Blk.new w 30 _).below hb (by simp only [World.size_alloc]; omega))
      have L1 := Lib.hid (((Below.refl _ w).alloc (Nat.le_refl _) _).trans (hb.mono (by simp only [World.size_alloc]; omega)))
      have hs1 : w.heap.size < w1.heap.size := by have := hb.size; simp only [World.size_alloc] at this; omega
      have HC : Hid (∀ W', Below w1.heap.size w1 W' → W'.cell? ⟨w.heap.size, 1, none⟩ = some (.int .u64 h) ∧ W'.cell? ⟨w.heap.size, 2, none⟩ = some (.int .u64 l)) := by
        show ∀ W', _ → _
        intro W' hB
        have := (R1.out.below hB hs1).c3
        exact ⟨this.2.1, this.2.2⟩
      obtain ⟨g1, g2, g3⟩ := R1.out.c3
      have hR := RB.start w1
      have H1 := Lib.hid (rbStep w1 0 8 8 8 h (by decide) rfl rfl (by decide) (by decide) HH.out)
      have H2 := Lib.hid (rbStep w1 8 16 8 8 l (by decide) rfl rfl (by decide) (by decide) HL.out)
      clear hb
      go_wp2
      go_region_held3 (fun w' => w'.cell? ⟨w.heap.size, 1, none⟩ = some (.int .u64 h) ∧ w'.cell? ⟨w.heap.size, 2, none⟩ = some (.int .u64 l))
        (first | exact HC.out _ hR.2.2.1 | go_keep)
        ((go_at_call 118; (first
            | (have hc := H1.out _ _ _ _ hR; (with_reducible refine Calls.mono hc ?_); clear hc)
            | (have hc := H2.out _ _ _ _ hR; (with_reducible refine Calls.mono hc ?_); clear hc)); rintro e W' ⟨A', c', rfl, hR⟩))
      all_goals
        have Q := Lib.hid hR
        clear hR
        go_wp2
        go_ret
        obtain ⟨q1, q2, q3, q4⟩ := Q.out
        have el : (putOf 8 h ++ putOf 8 l).length = 16 := by rw [List.length_append, putOf_len, putOf_len]
        refine ⟨_, _, ?_, ?_, q2, fun g e => Nat.le_trans L1.out.size (q4 g e), L1.out.trans (q3.mono L1.out.size)⟩
        · rw [el]; rfl
        · rw [el]; exact q1
end Go.Proofs.YtjlmgkdieffjcaaGreatDoor

namespace Go.Proofs.YtjlmgkdieffjcaaGreatDoor
open Go.RowKit
set_option linter.unusedVariables false

set_option maxHeartbeats 1000000 in
theorem rless_any (s : Bool) (h l : Int) (s' : Bool) (h' l' : Int) (w : World) :
    Calls Tryz.prog 75 #[adr s h l, adr s' h' l'] w fun e w' => e = .returned (.bool (lss s h l s' h' l')) ∧ Below w.heap.size w w' := by
  obtain ⟨V1, hV1⟩ : ∃ v, vld s h l = v := ⟨_, rfl⟩
  obtain ⟨V2, hV2⟩ : ∃ v, vld s' h' l' = v := ⟨_, rfl⟩
  obtain ⟨R, hR⟩ : ∃ v, lss s h l s' h' l' = v := ⟨_, rfl⟩
  have HR := Lib.hid hR
  rw [hR]
  have H1 := Lib.hid (fun W => rvalid_at s h l W hV1)
  have H2 := Lib.hid (fun W => rvalid_at s' h' l' W hV2)
  have G1 := Lib.hid hV1
  have G2 := Lib.hid hV2
  clear hR hV1 hV2
  cases V1
  · go_enter Tryz.func75, Tryz.ntmps75
    go_wp2_with fail
    refine Calls.mono (H1.out _) ?_
    rintro e w1 ⟨rfl, hb⟩
    go_wp2
    go_ret
    exact ⟨by rw [← HR.out]; simp [lss, G1.out], (((Below.refl _ _).alloc (Nat.le_refl _) _).alloc (by simp) _).trans (hb.mono (by simp; omega))⟩
  · cases V2
    · go_enter Tryz.func75, Tryz.ntmps75
      go_wp2_with fail
      refine Calls.mono (H1.out _) ?_
      rintro e w1 ⟨rfl, hb⟩
      obtain ⟨hc, hf⟩ := bcell hb
      go_wp2_with fail
      refine Calls.mono (H2.out _) ?_
      rintro e w2 ⟨rfl, hb2⟩
      go_wp2
      go_ret
      have B1 := (((Below.refl _ w).alloc (Nat.le_refl _) _).alloc (by simp) _).trans (hb.mono (by simp; omega))
      exact ⟨by rw [← HR.out]; simp [lss, G1.out, G2.out], B1.trans (hb2.mono B1.size)⟩
    · rcases s with _ | _ <;> rcases s' with _ | _
      all_goals first | (by_cases hh : h = h'; subst hh; try (have h9 : ¬ h < h := by omega)) | skip
      all_goals first | (by_cases h8 : h < h') | skip
      all_goals
        go_enter Tryz.func75, Tryz.ntmps75
        go_wp2_with fail
        refine Calls.mono (H1.out _) ?_
        rintro e w1 ⟨rfl, hb⟩
        obtain ⟨hc, hf⟩ := bcell hb
        go_wp2_with fail
        refine Calls.mono (H2.out _) ?_
        rintro e w2 ⟨rfl, hb2⟩
        obtain ⟨c0, c1, c2⟩ := ((((Blk.new w 30 _).alloc _).below hb (by simp only [World.size_alloc]; omega)).below hb2 (by have := hb.size; simp at this; omega)).c3
        obtain ⟨d0, d1, d2⟩ := (((Blk.new (w.alloc _) 30 _).below hb (by simp only [World.size_alloc]; omega)).below hb2 (by have := hb.size; simp at this ⊢; omega)).c3
        rw [World.size_alloc] at d0 d1 d2
        have B1 := Lib.hid ((((Below.refl _ w).alloc (Nat.le_refl _) _).alloc (by simp) _).trans (hb.mono (by simp; omega)))
        have B2 := Lib.hid (B1.out.trans (hb2.mono B1.out.size))
        go_wp2
        go_ret
        exact ⟨ret_bool (by rw [← HR.out]; simp [lss, G1.out, G2.out, *]), B2.out⟩
end Go.Proofs.YtjlmgkdieffjcaaGreatDoor
