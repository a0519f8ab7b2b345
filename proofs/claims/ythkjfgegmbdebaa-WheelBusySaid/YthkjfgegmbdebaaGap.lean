/-
  Appends of some elements of any row; beginnings and ends of rows.
-/
import Derived.Test.YthkjfgegmbdebaaGen
namespace Go.Proofs.Ythkjfgegmbdebaa
open Go.RowKit
set_option linter.unusedVariables false

/-- 'append' of some elements, wherever they are read, onto a row of the call's own. -/
theorem wpList_apx (tS tE : TypeId) (zv : Value) (sz by_ : Nat) (hu : Try.prog.underlying tS = some (.slice tE)) (hinf : (Try.prog.info? tE).map (fun i => (i.zero, i.size, i.bytes)) = some (some zv, sz, by_)) (hzs : zv.cells.size = sz) (hsz : 0 < sz) (hby : by_ ≤ 1000)
    (w : World) {ops : Array Oper} {rest : List Oper} {o : Oper} {a : Act} {Q : Exit → Act → World → Prop} (hgd : o.guard = none) (s x : Operand)
    (ho : o.op = .call { callee := .builtin .append, args := #[s, x], argTypes := #[tS, tS] })
    (base : Nat) (v : Value) (n : Nat) (xs : List Value) (hs : a.eval s = v) (hown : w.ownsRow base tE sz v n xs)
    (ad : Addr) (m c : Nat) (e : List Value) (hx : a.eval x = .slice (some ad) m c) (hl : e.length = m * sz) (hc : ∀ j u, e[j]? = some u → w.cell? (ad.add j) = some u) (h1 : ∀ u ∈ e, u.oneCell' = true)
    (hn : n + m ≤ 1000000) (hbase : base ≤ w.heap.size)
    (h : ∀ v' w', w'.ownsRow base tE sz v' (n + m) (xs ++ e) → w.grownBy w' v.ownBlock → (v'.ownBlock = v.ownBlock ∨ v'.ownBlock = some w.heap.size) → wpList Try.prog ops Q rest (a.put o.dst v') w') :
    wpList Try.prog ops Q (o :: rest) a w := by
  obtain ⟨i0, hi, hz0, hz1, hz2⟩ := info_parts hinf
  have hb : (n + m) * by_ ≤ 1000000 * 1000 := Nat.mul_le_mul hn hby
  refine wpList_append_own_at w hgd s x tS ho base tE i0 zv sz by_ hu hi hz0 hz1 hz2 hzs hsz v n xs hs hown ad m c e hx hl hc h1 (by unfold maxLen; omega) (by omega) hbase ?_
  intro v' w' h1 h2 h3 h4
  exact h v' w' h1 h2 h4
theorem own_take {w : World} {g n c sz k : Nat} {t : TypeId} {xs : List Value} (h : w.ownsRow 0 t sz (.slice (some ⟨g, 0, none⟩) n c) n xs) (hk : k ≤ n) : w.ownsRow 0 t sz (.slice (some ⟨g, 0, none⟩) k c) k (xs.take (k * sz)) := by
  have hl := h.1
  have hm : k * sz ≤ n * sz := Nat.mul_le_mul_right _ hk
  rcases h.2 with ⟨e, -⟩ | ⟨g', cap, cur, e, h1, h2, h3, h4, h5, h6⟩
  · cases e
  · injection e with e1 e2 e3
    injection e1 with e1
    injection e1 with e1
    subst e1 e3
    exact ⟨by rw [List.length_take, hl, Nat.min_eq_left hm], .inr ⟨g, c, cur, rfl, h1, h2, by omega, h4, h5, by rw [← h6, List.take_take, Nat.min_eq_left hm]⟩⟩
theorem flatk_take {α : Type} {f : α → List Value} {sz : Nat} (hf : ∀ x, (f x).length = sz) : ∀ (l : List α) (k : Nat), (l.flatMap f).take (k * sz) = (l.take k).flatMap f
  | [], k => by simp
  | x :: r, 0 => by simp
  | x :: r, k + 1 => by
    rw [List.flatMap_cons, List.take_succ_cons, List.flatMap_cons, ← flatk_take hf r k, List.take_append, List.take_of_length_le (l := f x) (by rw [hf, Nat.succ_mul]; omega), hf, show (k + 1) * sz - sz = k * sz by rw [Nat.succ_mul]; omega]
theorem flatk_drop {α : Type} {f : α → List Value} {sz : Nat} (hf : ∀ x, (f x).length = sz) : ∀ (l : List α) (k : Nat), (l.flatMap f).drop (k * sz) = (l.drop k).flatMap f
  | [], k => by simp
  | x :: r, 0 => by simp
  | x :: r, k + 1 => by
    have e : (f x).drop ((k + 1) * sz) = [] := List.drop_of_length_le (by rw [hf, Nat.succ_mul]; omega)
    rw [List.flatMap_cons, List.drop_succ_cons, ← flatk_drop hf r k, List.drop_append, e, List.nil_append, hf, show (k + 1) * sz - sz = k * sz by rw [Nat.succ_mul]; omega]
/-- The rest of a row behind the first k. -/
theorem row_rest {α : Type} {f : α → List Value} {sz : Nat} (hf : ∀ x, (f x).length = sz) {w : World} {g n c k : Nat} {t : TypeId} {L : List α} (h : w.ownsRow 0 t sz (.slice (some ⟨g, 0, none⟩) n c) n (L.flatMap f)) (hn : L.length = n) (hk : k ≤ n) : ∃ A : Addr, (if c = k then (some ⟨g, 0, none⟩ : Option Addr) else some ⟨g, k * sz, none⟩) = some A ∧ (∀ W, Tch w W [] → ∀ j u, ((L.drop k).flatMap f)[j]? = some u → W.cell? (A.add j) = some u) ∧ ((L.drop k).flatMap f).length = (n - k) * sz := by
  obtain ⟨A', c', e, hnc, -⟩ := own_sl h
  injection e with e1 e2 e3
  subst e3
  have hlen : ((L.drop k).flatMap f).length = (n - k) * sz := by rw [flatk_len hf, List.length_drop, hn]
  by_cases hck : c = k
  · refine ⟨_, if_pos hck, fun W hT j u hj => ?_, hlen⟩
    have h1 := (List.getElem?_eq_some_iff.1 hj).1
    have h2 : n - k = 0 := by omega
    rw [hlen, h2, Nat.zero_mul] at h1
    omega
  · refine ⟨_, if_neg hck, fun W hT j u hj => ?_, hlen⟩
    rw [← flatk_drop hf, List.getElem?_drop] at hj
    rw [show (⟨g, k * sz, none⟩ : Addr).add j = ⟨g, k * sz + j, none⟩ by unfold Addr.add; split <;> simp_all]
    exact own_cellN (own_tch h hT (by simp)) hj
end Go.Proofs.Ythkjfgegmbdebaa
