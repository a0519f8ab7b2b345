/-
  What the law's own words 'lent' and 'whole' answer: bytes with two marks behind them, of which the slice says nothing; and whether they are as they were.
-/
import Derived.Test.YtigkikoogolkkaaIn
import Derived.Maps.AppendAt
import Derived.Laws.AppendOwnNone
namespace Go.Proofs.Ytigkikoogolkkaa
open Go.RowKit
set_option linter.unusedVariables false

theorem RI.cells_at {w : World} {B m : Nat} {A : Option Addr} {zs : List Int} (h : RI .u8 w B A m zs) {ad : Addr} (e : A = some ad) : ∀ j u, (zs.map (Value.int .u8))[j]? = some u → w.cell? (ad.add j) = some u := by
  intro j u hu
  by_cases h0 : 0 < (zs.map (Value.int .u8)).length
  · obtain ⟨_, ad', e', hc⟩ := cs_at h 0 h0
    rw [e] at e'
    injection e' with e'
    subst e'
    exact hc j u hu
  · have e0 : zs.map (Value.int .u8) = [] := List.length_eq_zero_iff.1 (by omega)
    rw [e0] at hu
    simp at hu

/-- 'append(v, x...)', v the call's own row of bytes, x whatever reads as bytes: nil, empty or not. -/
theorem wpList_app (w : World) {ops : Array Oper} {rest : List Oper} {o : Oper} {a : Act} {Q : Exit → Act → World → Prop} (hgd : o.guard = none) (s x : Operand)
    (ho : o.op = .call { callee := .builtin .append, args := #[s, x], argTypes := #[22, 22] })
    (base : Nat) (v : Value) (n : Nat) (ys : List Int) (hs : a.eval s = v) (hown : w.ownsRow base 5 1 v n (ys.map (Value.int .u8)))
    (B : Nat) (A : Option Addr) (m c : Nat) (zs : List Int) (hx : a.eval x = .slice A m c) (hA : A = none → c = 0) (hr : RI .u8 w B A m zs)
    (hsz : n + m ≤ 140737488355328) (hbase : base ≤ w.heap.size)
    (h : ∀ v' w', w'.ownsRow base 5 1 v' (n + m) ((ys ++ zs).map (Value.int .u8)) → w.grownBy w' v.ownBlock → (v'.ownBlock = v.ownBlock ∨ v'.ownBlock = some w.heap.size) → wpList Try.prog ops Q rest (a.put o.dst v') w') :
    wpList Try.prog ops Q (o :: rest) a w := by
  obtain ⟨i0, hi, hz0, hz1, hz2⟩ := info_parts Try.info5
  rcases A with _ | ad
  · obtain rfl := hA rfl
    have hm : m = 0 := by
      rcases Nat.eq_zero_or_pos m with h0 | h0
      · exact h0
      · obtain ⟨_, _, e, _⟩ := hr.2.1 h0
        cases e
    subst hm
    obtain rfl : zs = [] := List.eq_nil_of_length_eq_zero hr.1
    refine wpList_append_own_none hgd s x 22 ho base 5 i0 1 Try.underlying22 hi v n _ hs hown hx ?_
    exact h v w (by simpa using hown) (World.grownBy.refl w _) (.inl rfl)
  · refine wpList_append_own_at w hgd s x 22 ho base 5 i0 (.int .u8 0) 1 1 Try.underlying22 hi hz0 hz1 hz2 rfl (by decide) v n _ hs hown ad m c (zs.map (Value.int .u8)) hx (by simp [hr.1]) (hr.cells_at rfl) bytes_oneCell (by unfold maxLen; omega) (by omega) hbase ?_
    intro v' w' h1 h2 h3 h4
    exact h v' w' (by simpa using h1) h2 h4

/-- The same where the new row has an element: the value is known. -/
theorem wpList_app1 (w : World) {ops : Array Oper} {rest : List Oper} {o : Oper} {a : Act} {Q : Exit → Act → World → Prop} (hgd : o.guard = none) (s x : Operand)
    (ho : o.op = .call { callee := .builtin .append, args := #[s, x], argTypes := #[22, 22] })
    (base : Nat) (v : Value) (n : Nat) (ys : List Int) (hs : a.eval s = v) (hown : w.ownsRow base 5 1 v n (ys.map (Value.int .u8)))
    (B : Nat) (A : Option Addr) (m c : Nat) (zs : List Int) (hx : a.eval x = .slice A m c) (hA : A = none → c = 0) (hr : RI .u8 w B A m zs)
    (hsz : n + m ≤ 140737488355328) (hbase : base ≤ w.heap.size) (hpos : 0 < n + m)
    (h : ∀ g cap w', w'.ownsRow base 5 1 (.slice (some ⟨g, 0, none⟩) (n + m) cap) (n + m) ((ys ++ zs).map (Value.int .u8)) → w.grownBy w' v.ownBlock → (some g = v.ownBlock ∨ g = w.heap.size) → wpList Try.prog ops Q rest (a.put o.dst (.slice (some ⟨g, 0, none⟩) (n + m) cap)) w') :
    wpList Try.prog ops Q (o :: rest) a w := by
  refine wpList_app w hgd s x ho base v n ys hs hown B A m c zs hx hA hr hsz hbase fun v' w' h1 h2 h3 => ?_
  obtain ⟨g, cap, rfl, _, _⟩ := h1.form hpos
  exact h g cap w' h1 h2 (by simpa [Value.ownBlock] using h3)

/-- Block g holds n bytes and the two marks behind them; the slice has room for cap. -/
def Lent (w : World) (g n cap : Nat) (zs : List Int) : Prop :=
  ∃ cur : Array Value, Blk w g 5 cur ∧ cur.size = cap ∧ n + 2 ≤ cap ∧ cap ≤ 9223372036854775807 ∧ zs.length = n ∧ (∀ z ∈ zs, (Lit.int .u8 z).wf = true) ∧ cur.toList.take (n + 2) = (zs ++ [201, 202]).map (Value.int .u8)

theorem Lent.keep {w w' : World} {g n cap : Nat} {zs : List Int} (h : Lent w g n cap zs) (hk : w'.heap[g]? = w.heap[g]?) : Lent w' g n cap zs := by
  obtain ⟨cur, h1, h2⟩ := h
  exact ⟨cur, hk.trans h1, h2⟩
theorem Lent.lt {w : World} {g n cap : Nat} {zs : List Int} (h : Lent w g n cap zs) : g < w.heap.size := by
  obtain ⟨cur, h1, h2⟩ := h
  exact h1.lt
theorem Lent.cell {w : World} {g n cap j : Nat} {zs : List Int} {z : Int} (h : Lent w g n cap zs) (hz : (zs ++ [201, 202])[j]? = some z) : w.cell? ⟨g, j, none⟩ = some (.int .u8 z) := by
  obtain ⟨cur, h1, h2, h3, h4, h5, h6, h7⟩ := h
  rw [h1.cell]
  have hj : j < n + 2 := by have := (List.getElem?_eq_some_iff.1 hz).1; simp at this; omega
  have e : (cur.toList.take (n + 2))[j]? = some (.int .u8 z) := by rw [h7, List.getElem?_map, hz]; rfl
  rw [List.getElem?_take, if_pos hj] at e
  simpa using e
theorem Lent.ri {w : World} {g n cap : Nat} {zs : List Int} (h : Lent w g n cap zs) {B : Nat} (hB : g < B) : RI .u8 w B (some ⟨g, 0, none⟩) n zs := by
  have h0 := h
  obtain ⟨cur, h1, h2, h3, h4, h5, h6, h7⟩ := h0
  refine ⟨h5, fun _ => ⟨g, 0, rfl, hB, fun j z hz => ?_⟩, h6⟩
  rw [Nat.zero_add]
  exact h.cell (by rw [List.getElem?_append_left (List.getElem?_eq_some_iff.1 hz).1]; exact hz)
theorem Lent.mark0 {w : World} {g n cap : Nat} {zs : List Int} (h : Lent w g n cap zs) : w.cell? ⟨g, n, none⟩ = some (.int .u8 201) := by
  have h0 := h
  obtain ⟨cur, h1, h2, h3, h4, h5, h6, h7⟩ := h0
  exact h.cell (by rw [List.getElem?_append_right (by omega)]; simp [h5])
theorem Lent.mark1 {w : World} {g n cap : Nat} {zs : List Int} (h : Lent w g n cap zs) : w.cell? ⟨g, n + 1, none⟩ = some (.int .u8 202) := by
  have h0 := h
  obtain ⟨cur, h1, h2, h3, h4, h5, h6, h7⟩ := h0
  exact h.cell (by rw [List.getElem?_append_right (by omega)]; simp [h5])

/-- What lent hands back. -/
def LentOut (w : World) (n : Nat) (zs : List Int) (e : Ending) (w' : World) : Prop :=
  ∃ g cap, e = .returned (.slice (some ⟨g, 0, none⟩) n cap) ∧ w.heap.size ≤ g ∧ Lent w' g n cap zs ∧ Below w.heap.size w w'

theorem own_cap {w : World} {base e size g n n' cap : Nat} {xs : List Value} (h : w.ownsRow base e size (.slice (some ⟨g, 0, none⟩) n cap) n' xs) : n ≤ cap := by
  rcases h.2 with ⟨h0, _⟩ | ⟨g', cap', cur, hv', h1, h2, h3, h4, h5, h6⟩
  · cases h0
  · injection hv' with e1 e2 e3
    omega

theorem lent_of {w w1 w2 : World} {n g cap : Nat} {zs : List Int} {v : Value} (hl : zs.length = n) (hw : ∀ z ∈ zs, (Lit.int .u8 z).wf = true) (hb1 : Below w.heap.size w w1) (hv : ∀ k, v.ownBlock = some k → w.heap.size ≤ k)
    (hown : w2.ownsRow w.heap.size 5 1 (.slice (some ⟨g, 0, none⟩) (n + 2) cap) (n + 2) ((zs ++ [201, 202]).map (Value.int .u8))) (o : Obj) (hg : (w1.alloc o).grownBy w2 v.ownBlock) :
    LentOut w n zs (.returned (.slice (some ⟨g, 0, none⟩) n cap)) w2 := by
  obtain ⟨g', cap', hv', hb, hlt⟩ := hown.form (by omega)
  injection hv' with e1 e2 e3
  injection e1 with e1
  injection e1 with e1
  subst e1 e3
  rcases hown.2 with ⟨h0, _⟩ | ⟨g', cap', cur, hv', h1, h2, h3, h4, h5, h6⟩
  · cases h0
  · injection hv' with e1 e2 e3
    injection e1 with e1
    injection e1 with e1
    subst e1 e3
    exact ⟨g, cap, rfl, h1, ⟨cur, h2, by omega, h3, h4, hl, hw, by simpa using h6⟩, (hb1.alloc hb1.size _).grown hg (by have := hb1.size; simp; omega) (fun k hk => hv k hk)⟩

set_option maxHeartbeats 1000000 in
theorem lent_any (w : World) (B : Nat) (A : Option Addr) (n c : Nat) (zs : List Int) (hz : RI .u8 w B A n zs) (hA : A = none → c = 0) (hB : B ≤ w.heap.size) (hn : n + 2 ≤ 140737488355328) :
    Calls Try.prog 10 #[.slice A n c] w (LentOut w n zs) := by
  have HZ := Lib.hid hz
  have HA := Lib.hid hA
  clear hz hA
  go_enter Try.func10, Try.ntmps10
  go_wp2_with (first
    | (at_builtin; refine wpList_app _ rfl (.tmp 4) (.tmp 5) rfl w.heap.size (.slice none 0 0) 0 [] rfl ⟨by simp, .inl ⟨rfl, rfl⟩⟩ B A n c zs rfl HA.out HZ.out (by omega) (Nat.le_refl _) ?_; intro v1 w1 hown1 hg1 hat1; have HB1 : Below w.heap.size w w1 := (Below.refl _ _).grown hg1 (Nat.le_refl _) (fun k hk => by simp [Value.ownBlock] at hk); have HO1 := Lib.hid hown1; have HT1 := Lib.hid hat1; clear hown1 hat1 hg1)
    | (at_builtin; refine wpList_app1 _ rfl (.tmp 7) (.tmp 8) rfl w.heap.size v1 (0 + n) ([] ++ zs) rfl (HO1.out.alloc _) (w1.heap.size + 1) (some ⟨w1.heap.size, 0, none⟩) 2 2 [201, 202] rfl (fun h => by cases h) (Blk.reads (zs := [201, 202]) (Blk.new _ _ _) (by decide) (Nat.lt_succ_self _)) (by omega) (by have := HB1.size; simp; omega) (by omega) ?_; intro g cap w2 hown2 hg2 hat2; have HO2 := Lib.hid hown2; have HG2 := Lib.hid hg2; have hcap : n ≤ cap := (by have := own_cap hown2; omega); clear hown2 hat2 hg2))
  go_ret
  exact lent_of HZ.out.1 HZ.out.2.2 HB1 (fun k hk => by rcases HT1.out with e | e <;> rw [e] at hk <;> simp [Value.ownBlock] at hk; omega) (by have := HO2.out; simpa using this) _ HG2.out
set_option maxHeartbeats 1000000 in
theorem whole_yes (w : World) (B g n cap c : Nat) (A : Option Addr) (zs : List Int) (h : Lent w g n cap zs) (hz : RI .u8 w B A n zs) :
    Calls Try.prog 14 #[.slice (some ⟨g, 0, none⟩) n cap, .slice A n c] w fun e w' => e = .returned (.bool true) ∧ ∃ m, w' = w.drewN m := by
  have m0 := h.mark0
  have m1 := h.mark1
  have hn : n + 2 ≤ cap ∧ cap ≤ 9223372036854775807 := by obtain ⟨cur, h1, h2, h3, h4, h5⟩ := h; omega
  have HS := Lib.hid (same_yes w (g + 1) B (some ⟨g, 0, none⟩) A n cap c zs (h.ri (Nat.lt_succ_self _)) hz (by omega))
  obtain ⟨hn1, hn2⟩ := hn
  clear h hz
  go_enter Try.func14, Try.ntmps14
  go_wp2_with (first | (go_at_call 13; refine (Calls.mono HS.out ?_); rintro e w' ⟨rfl, m, rfl⟩))
  go_ret
  exact ⟨rfl, _, rfl⟩

end Go.Proofs.Ytigkikoogolkkaa
