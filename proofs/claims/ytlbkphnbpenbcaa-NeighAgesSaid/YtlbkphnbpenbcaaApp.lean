/-
  'append' onto a row of bytes of the call's own, whatever the source reads as: nil, empty or not.
-/
import Derived.Test.YtlbkphnbpenbcaaMake
import Derived.Maps.AppendAt
import Derived.Laws.AppendOwnNone
namespace Go.Proofs.Ytlbkphnbpenbcaa
open Go.RowKit
set_option linter.unusedVariables false

theorem RI.cells_at {w : World} {B m : Nat} {A : Option Addr} {zs : List Int} (h : RI .u8 w B A m zs) {ad : Addr} (e : A = some ad) : ∀ j u, (zs.map (Value.int .u8))[j]? = some u → w.cell? (ad.add j) = some u := by
  intro j u hu
  by_cases h0 : 0 < (zs.map (Value.int .u8)).length
  · obtain ⟨_, ad', e', hc⟩ := cs_at h 0 h0
    rw [e] at e'
    injection e' with e'
    subst e'
    exact hc j u hu
  · have e0 : zs.map (Value.int .u8) = [] := List.length_eq_zero_iff.1 (by omega)
    rw [e0] at hu
    simp at hu

/-- 'append(v, x...)', v the call's own row of bytes, x whatever reads as bytes: nil, empty or not. -/
theorem wpList_app (w : World) {ops : Array Oper} {rest : List Oper} {o : Oper} {a : Act} {Q : Exit → Act → World → Prop} (hgd : o.guard = none) (s x : Operand)
    (ho : o.op = .call { callee := .builtin .append, args := #[s, x], argTypes := #[96, 96] })
    (base : Nat) (v : Value) (n : Nat) (ys : List Int) (hs : a.eval s = v) (hown : w.ownsRow base 5 1 v n (ys.map (Value.int .u8)))
    (B : Nat) (A : Option Addr) (m c : Nat) (zs : List Int) (hx : a.eval x = .slice A m c) (hA : A = none → c = 0) (hr : RI .u8 w B A m zs)
    (hsz : n + m ≤ 140737488355328) (hbase : base ≤ w.heap.size)
    (h : ∀ v' w', w'.ownsRow base 5 1 v' (n + m) ((ys ++ zs).map (Value.int .u8)) → w.grownBy w' v.ownBlock → (v'.ownBlock = v.ownBlock ∨ v'.ownBlock = some w.heap.size) → wpList Try.prog ops Q rest (a.put o.dst v') w') :
    wpList Try.prog ops Q (o :: rest) a w := by
  obtain ⟨i0, hi, hz0, hz1, hz2⟩ := info_parts Try.info5
  rcases A with _ | ad
  · obtain rfl := hA rfl
    have hm : m = 0 := by
      rcases Nat.eq_zero_or_pos m with h0 | h0
      · exact h0
      · obtain ⟨_, _, e, _⟩ := hr.2.1 h0
        cases e
    subst hm
    obtain rfl : zs = [] := List.eq_nil_of_length_eq_zero hr.1
    refine wpList_append_own_none hgd s x 96 ho base 5 i0 1 Try.underlying96 hi v n _ hs hown hx ?_
    exact h v w (by simpa using hown) (World.grownBy.refl w _) (.inl rfl)
  · refine wpList_append_own_at w hgd s x 96 ho base 5 i0 (.int .u8 0) 1 1 Try.underlying96 hi hz0 hz1 hz2 rfl (by decide) v n _ hs hown ad m c (zs.map (Value.int .u8)) hx (by simp [hr.1]) (hr.cells_at rfl) bytes_oneCell (by unfold maxLen; omega) (by omega) hbase ?_
    intro v' w' h1 h2 h3 h4
    exact h v' w' (by simpa using h1) h2 h4

/-- The same where the new row has an element: the value is known. -/
theorem wpList_app1 (w : World) {ops : Array Oper} {rest : List Oper} {o : Oper} {a : Act} {Q : Exit → Act → World → Prop} (hgd : o.guard = none) (s x : Operand)
    (ho : o.op = .call { callee := .builtin .append, args := #[s, x], argTypes := #[96, 96] })
    (base : Nat) (v : Value) (n : Nat) (ys : List Int) (hs : a.eval s = v) (hown : w.ownsRow base 5 1 v n (ys.map (Value.int .u8)))
    (B : Nat) (A : Option Addr) (m c : Nat) (zs : List Int) (hx : a.eval x = .slice A m c) (hA : A = none → c = 0) (hr : RI .u8 w B A m zs)
    (hsz : n + m ≤ 140737488355328) (hbase : base ≤ w.heap.size) (hpos : 0 < n + m)
    (h : ∀ g cap w', w'.ownsRow base 5 1 (.slice (some ⟨g, 0, none⟩) (n + m) cap) (n + m) ((ys ++ zs).map (Value.int .u8)) → w.grownBy w' v.ownBlock → (some g = v.ownBlock ∨ g = w.heap.size) → wpList Try.prog ops Q rest (a.put o.dst (.slice (some ⟨g, 0, none⟩) (n + m) cap)) w') :
    wpList Try.prog ops Q (o :: rest) a w := by
  refine wpList_app w hgd s x ho base v n ys hs hown B A m c zs hx hA hr hsz hbase fun v' w' h1 h2 h3 => ?_
  obtain ⟨g, cap, rfl, _, _⟩ := h1.form hpos
  exact h g cap w' h1 h2 (by simpa [Value.ownBlock] using h3)


/-- 'append(nil, x...)', x with an element: new memory that begins with x. -/
theorem wpList_app0 (w : World) {ops : Array Oper} {rest : List Oper} {o : Oper} {a : Act} {Q : Exit → Act → World → Prop} (hgd : o.guard = none) (s x : Operand)
    (ho : o.op = .call { callee := .builtin .append, args := #[s, x], argTypes := #[96, 96] })
    (base : Nat) (hs : a.eval s = .slice none 0 0)
    (B : Nat) (A : Option Addr) (m c : Nat) (zs : List Int) (hx : a.eval x = .slice A m c) (hr : RI .u8 w B A m zs)
    (hsz : m ≤ 140737488355328) (hbase : base ≤ w.heap.size) (hpos : 0 < m)
    (h : ∀ g cap w', w'.ownsRow base 5 1 (.slice (some ⟨g, 0, none⟩) m cap) m (zs.map (Value.int .u8)) → w.grownBy w' none → g = w.heap.size → wpList Try.prog ops Q rest (a.put o.dst (.slice (some ⟨g, 0, none⟩) m cap)) w') :
    wpList Try.prog ops Q (o :: rest) a w := by
  have hA : A = none → c = 0 := fun e => by
    obtain ⟨_, _, e', _⟩ := hr.2.1 hpos
    rw [e] at e'; cases e'
  refine wpList_app1 w hgd s x ho base (.slice none 0 0) 0 [] hs ⟨by simp, .inl ⟨rfl, rfl⟩⟩ B A m c zs hx hA hr (by omega) hbase (by omega) fun g cap w' h1 h2 h3 => ?_
  rw [Nat.zero_add] at h1 ⊢
  exact h g cap w' (by simpa using h1) (by simpa [Value.ownBlock] using h2) (by simpa [Value.ownBlock] using h3)
end Go.Proofs.Ytlbkphnbpenbcaa
