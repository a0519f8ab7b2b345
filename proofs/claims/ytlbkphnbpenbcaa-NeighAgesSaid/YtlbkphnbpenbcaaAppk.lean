/-
  'append' onto a row of integers of any kind that is the call's own, whatever the source reads as: nil, empty or not.
-/
import Derived.Test.YtlbkphnbpenbcaaWords
import Derived.Test.YtlbkphnbpenbcaaRows
import Derived.WalkKit
import Derived.Lib.Hide
import Derived.Deep.OwnRows
import Derived.Maps.AppendAt
import Derived.Laws.AppendOwnNone
namespace Go.Proofs.Ytlbkphnbpenbcaa
open Go.RowKit
set_option linter.unusedVariables false

theorem csk_at {k : IntKind} {w1 : World} {A : Option Addr} {n B : Nat} {zs : List Int} (h : RI k w1 B A n zs) {ad : Addr} (e : A = some ad) : ∀ j u, (zs.map (Value.int k))[j]? = some u → w1.cell? (ad.add j) = some u := by
  intro j u hu
  rw [List.getElem?_map, Option.map_eq_some_iff] at hu
  obtain ⟨z, hz, rfl⟩ := hu
  obtain ⟨b, o, e', _, hc⟩ := h.2.1 (by have := h.1; have := (List.getElem?_eq_some_iff.1 hz).1; omega)
  rw [e] at e'
  injection e' with e'
  subst e'
  rw [← hc j z hz]
  simp only [Addr.add]
  split
  · rename_i h0; simp [h0]
  · rfl

theorem Blk.readsk {k : IntKind} {w : World} {g : Nat} {t : TypeId} {zs : List Int} (h : Blk w g t ((zs.map (Value.int k)).toArray)) (hw : ∀ z ∈ zs, (Lit.int k z).wf = true) {B : Nat} (hB : g < B) : RI k w B (some ⟨g, 0, none⟩) zs.length zs :=
  ⟨rfl, fun _ => ⟨g, 0, rfl, hB, fun j z hz => by rw [h.cell]; simp [hz]⟩, hw⟩

/-- The same as wpList_app, for integers of kind k: slice type tS over element type tE, of 'by' bytes. -/
theorem wpList_appk (k : IntKind) (tS tE : TypeId) (by_ : Nat) (hu : Try.prog.underlying tS = some (.slice tE)) (hinf : (Try.prog.info? tE).map (fun i => (i.zero, i.size, i.bytes)) = some (some (.int k 0), 1, by_))
    (w : World) {ops : Array Oper} {rest : List Oper} {o : Oper} {a : Act} {Q : Exit → Act → World → Prop} (hgd : o.guard = none) (s x : Operand)
    (ho : o.op = .call { callee := .builtin .append, args := #[s, x], argTypes := #[tS, tS] })
    (base : Nat) (v : Value) (n : Nat) (ys : List Int) (hs : a.eval s = v) (hown : w.ownsRow base tE 1 v n (ys.map (Value.int k)))
    (B : Nat) (A : Option Addr) (m c : Nat) (zs : List Int) (hx : a.eval x = .slice A m c) (hA : A = none → c = 0) (hr : RI k w B A m zs)
    (hsz : (n + m) * by_ ≤ 140737488355328) (hsz2 : n + m ≤ 140737488355328) (hbase : base ≤ w.heap.size)
    (h : ∀ v' w', w'.ownsRow base tE 1 v' (n + m) ((ys ++ zs).map (Value.int k)) → w.grownBy w' v.ownBlock → (v'.ownBlock = v.ownBlock ∨ v'.ownBlock = some w.heap.size) → wpList Try.prog ops Q rest (a.put o.dst v') w') :
    wpList Try.prog ops Q (o :: rest) a w := by
  obtain ⟨i0, hi, hz0, hz1, hz2⟩ := info_parts hinf
  rcases A with _ | ad
  · obtain rfl := hA rfl
    have hm : m = 0 := by
      rcases Nat.eq_zero_or_pos m with h0 | h0
      · exact h0
      · obtain ⟨_, _, e, _⟩ := hr.2.1 h0
        cases e
    subst hm
    obtain rfl : zs = [] := List.eq_nil_of_length_eq_zero hr.1
    refine wpList_append_own_none hgd s x tS ho base tE i0 1 hu hi v n _ hs hown hx ?_
    exact h v w (by simpa using hown) (World.grownBy.refl w _) (.inl rfl)
  · refine wpList_append_own_at w hgd s x tS ho base tE i0 (.int k 0) 1 by_ hu hi hz0 hz1 hz2 rfl (by decide) v n _ hs hown ad m c (zs.map (Value.int k)) hx (by simp [hr.1]) (csk_at hr rfl) (ints_oneCell k zs) (by unfold maxLen; omega) hsz hbase ?_
    intro v' w' h1 h2 h3 h4
    exact h v' w' (by simpa using h1) h2 h4

theorem own_basek {w : World} {base e size n : Nat} {v : Value} {xs : List Value} (h : w.ownsRow base e size v n xs) : ∀ k, v.ownBlock = some k → base ≤ k := by
  intro k hk
  rcases h.2 with ⟨rfl, _⟩ | ⟨g, cap, cur, rfl, h1, _⟩
  · simp [Value.ownBlock] at hk
  · simp [Value.ownBlock] at hk; omega

/-- A row of the call's own, as a slice that reads. -/
theorem own_ri {k : IntKind} {w : World} {base n : Nat} {t : TypeId} {zs : List Int} {v : Value} (hw : ∀ z ∈ zs, (Lit.int k z).wf = true) (hown : w.ownsRow base t 1 v n (zs.map (Value.int k))) :
    ∃ A c, v = .slice A n c ∧ RI k w w.heap.size A n zs ∧ (A = none → c = 0) ∧ (∀ x, A = some x → base ≤ x.block) ∧ n ≤ c ∧ c ≤ 9223372036854775807 := by
  have hl : zs.length = n := by simpa using hown.1
  rcases hown.2 with ⟨rfl, rfl⟩ | ⟨g, cap, cur, rfl, h1, h2, h3, h4, h5, h6⟩
  · obtain rfl : zs = [] := List.eq_nil_of_length_eq_zero hl
    exact ⟨none, 0, rfl, RI.nil_, (fun _ => rfl), (fun _ h => by cases h), Nat.le_refl _, by decide⟩
  · have hb : Blk w g t cur := h2
    refine ⟨some ⟨g, 0, none⟩, cap, rfl, ⟨hl, fun _ => ⟨g, 0, rfl, hb.lt, fun j z hz => ?_⟩, hw⟩, (fun h => by cases h), (fun x hx => by injection hx with hx; rw [← hx]; exact h1), by omega, h4⟩
    rw [Nat.zero_add, hb.cell]
    have hj : j < n := by rw [← hl]; exact (List.getElem?_eq_some_iff.1 hz).1
    have e : (cur.toList.take (n * 1))[j]? = some (.int k z) := by rw [h6, List.getElem?_map, hz]; rfl
    rw [List.getElem?_take, if_pos (by omega)] at e
    simpa using e
end Go.Proofs.Ytlbkphnbpenbcaa
