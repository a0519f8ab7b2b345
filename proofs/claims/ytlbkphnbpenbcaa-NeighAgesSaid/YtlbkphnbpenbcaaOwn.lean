/-
  'append' of one element onto a row of the call's own; such a row as a slice that reads.
-/
import Derived.Test.YtlbkphnbpenbcaaSta
import Derived.Test.YtlbkphnbpenbcaaAppk
import Derived.WalkSpells
import Derived.WalkLawsBesides
import Derived.Outline
import Derived.BigQuiet
import Derived.Deep.QuietTactic
import Derived.Deep.RegionHeld
import Derived.Deep.RegionHeld3
import Derived.StillTailTactics
namespace Go.Proofs.Ytlbkphnbpenbcaa
open Go.RowKit
set_option linter.unusedVariables false

theorem wpList_apc (tS tE : TypeId) (zv : Value) (sz by_ : Nat) (hu : Try.prog.underlying tS = some (.slice tE)) (hinf : (Try.prog.info? tE).map (fun i => (i.zero, i.size, i.bytes)) = some (some zv, sz, by_)) (hzs : zv.cells.size = sz) (hsz : 0 < sz) (hby : by_ ≤ 1000)
    (w : World) {ops : Array Oper} {rest : List Oper} {o : Oper} {a : Act} {Q : Exit → Act → World → Prop} (hgd : o.guard = none) (s x : Operand)
    (ho : o.op = .call { callee := .builtin .append, args := #[s, x], argTypes := #[tS, tS] })
    (base : Nat) (v : Value) (n : Nat) (xs : List Value) (hs : a.eval s = v) (hown : w.ownsRow base tE sz v n xs)
    (ad : Addr) (c : Nat) (e : List Value) (hx : a.eval x = .slice (some ad) 1 c) (hl : e.length = sz) (hc : ∀ j u, e[j]? = some u → w.cell? (ad.add j) = some u) (h1 : ∀ u ∈ e, u.oneCell' = true)
    (hn : n ≤ 1000000) (hbase : base ≤ w.heap.size)
    (h : ∀ v' w', w'.ownsRow base tE sz v' (n + 1) (xs ++ e) → w.grownBy w' v.ownBlock → (v'.ownBlock = v.ownBlock ∨ v'.ownBlock = some w.heap.size) → wpList Try.prog ops Q rest (a.put o.dst v') w') :
    wpList Try.prog ops Q (o :: rest) a w := by
  obtain ⟨i0, hi, hz0, hz1, hz2⟩ := info_parts hinf
  have hb : (n + 1) * by_ ≤ 1000001 * 1000 := Nat.mul_le_mul (by omega) hby
  refine wpList_append_own_at w hgd s x tS ho base tE i0 zv sz by_ hu hi hz0 hz1 hz2 hzs hsz v n xs hs hown ad 1 c e hx (by rw [hl, Nat.one_mul]) hc h1 (by unfold maxLen; omega) (by omega) hbase ?_
  intro v' w' h1 h2 h3 h4
  exact h v' w' h1 h2 h4
theorem own_sl {w : World} {base n sz : Nat} {t : TypeId} {v : Value} {xs : List Value} (h : w.ownsRow base t sz v n xs) :
    ∃ A c, v = .slice A n c ∧ n ≤ c ∧ (0 < n → ∃ g, A = some ⟨g, 0, none⟩ ∧ base ≤ g ∧ g < w.heap.size ∧ ∀ j u, xs[j]? = some u → w.cell? ⟨g, j, none⟩ = some u) := by
  have hc := fun g hg => h.cells (g := g) hg
  rcases h.2 with ⟨rfl, h0⟩ | ⟨g, cap, cur, rfl, h1, h2, h3, h4, h5, h6⟩
  · subst h0
    exact ⟨none, 0, rfl, Nat.le_refl _, fun h => absurd h (by omega)⟩
  · refine ⟨_, cap, rfl, h3, fun _ => ⟨g, rfl, h1, (Array.getElem?_eq_some_iff.1 h2).1, fun j u hu => ?_⟩⟩
    have := hc g rfl j u hu
    rwa [show (⟨g, 0, none⟩ : Addr).add j = ⟨g, j, none⟩ by unfold Addr.add; split <;> simp_all] at this
theorem src_new (w : World) (t : TypeId) (e : List Value) : ∀ j u, e[j]? = some u → (w.alloc (.cells e.toArray t)).cell? ((⟨w.heap.size, 0, none⟩ : Addr).add j) = some u := by
  intro j u hu
  rw [show (⟨w.heap.size, 0, none⟩ : Addr).add j = ⟨w.heap.size, j, none⟩ by unfold Addr.add; split <;> simp_all, (Blk.new w t e.toArray).cell]
  simpa using hu
theorem own_lt {w : World} {base n sz : Nat} {t : TypeId} {v : Value} {xs : List Value} (h : w.ownsRow base t sz v n xs) {g : Nat} (hg : v.ownBlock = some g) : g < w.heap.size := (h.lt g hg).2
theorem Tch.of_grown' {w w' : World} {S : List Nat} {row : Option Nat} (h : w.grownBy w' row) (hg : ∀ g, row = some g → g ∈ S) : Tch w w' S :=
  ⟨h.os, h.tape, h.output, h.size, fun k hk hn => h.block k hk (fun e => hn (hg k e.symm))⟩
theorem app_res {w w' : World} {g n c : Nat} {t : TypeId} {v' : Value} {xs : List Value} (hown : w'.ownsRow 0 t 1 v' (n + 1) xs) (hg : w.grownBy w' (Value.slice (some ⟨g, 0, none⟩) n c).ownBlock)
    (hv : v'.ownBlock = (Value.slice (some ⟨g, 0, none⟩) n c).ownBlock ∨ v'.ownBlock = some w.heap.size) : ∃ g' c', v' = .slice (some ⟨g', 0, none⟩) (n + 1) c' ∧ (g' = g ∨ g' = w.heap.size) ∧ g' < w'.heap.size ∧ Tch w w' [g] := by
  obtain ⟨A, c', rfl, hc, hr⟩ := own_sl hown
  obtain ⟨g', rfl, -, hl, -⟩ := hr (by omega)
  refine ⟨g', c', rfl, ?_, hl, Tch.of_grown' hg (fun k hk => by simp [Value.ownBlock] at hk; simp [hk])⟩
  rcases hv with hv | hv
  · simp [Value.ownBlock] at hv; exact .inl hv
  · simp [Value.ownBlock] at hv; exact .inr hv
/-- One element of a row of the call's own set anew. -/
theorem own_set1 {w : World} {base g n c i : Nat} {t : TypeId} {xs : List Value} (h : w.ownsRow base t 1 (.slice (some ⟨g, 0, none⟩) n c) n xs) (hi : i < n) (u : Value) :
    (w.setCell ⟨g, i, none⟩ u).ownsRow base t 1 (.slice (some ⟨g, 0, none⟩) n c) n (xs.set i u) := by
  rcases h.2 with ⟨e, -⟩ | ⟨g', cap, cur, e, h1, h2, h3, h4, h5, h6⟩
  · cases e
  · injection e with e1 e2 e3
    injection e1 with e1
    injection e1 with e1
    subst e1 e3
    have hb : Blk w g t cur := h2
    refine ⟨by have := h.1; simpa using this, .inr ⟨g, c, cur.setIfInBounds i u, rfl, h1, hb.set_ i u, h3, h4, by simpa using h5, ?_⟩⟩
    rw [← h6]
    simp [Array.toList_setIfInBounds, List.take_set]
theorem own_blk {w : World} {base g n c : Nat} {t : TypeId} {xs : List Value} (h : w.ownsRow base t 1 (.slice (some ⟨g, 0, none⟩) n c) n xs) : ∃ cur, Blk w g t cur := by
  rcases h.2 with ⟨e, -⟩ | ⟨g', cap, cur, e, h1, h2, -⟩
  · cases e
  · injection e with e1 e2 e3
    injection e1 with e1
    injection e1 with e1
    subst e1
    exact ⟨cur, h2⟩
theorem own_frozen {w : World} {base g n c : Nat} {t : TypeId} {xs : List Value} (h : w.ownsRow base t 1 (.slice (some ⟨g, 0, none⟩) n c) n xs) (i : Nat) : w.frozen? ⟨g, i, none⟩ = false := by
  obtain ⟨cur, hb⟩ := own_blk h
  exact hb.frozen i
theorem nown {w : World} {S : List Nat} {g n c : Nat} (hg : g ∉ S) : ∀ k, (Value.slice (some ⟨g, 0, none⟩) n c).ownBlock = some k → k ∉ S := fun k hk => by simp [Value.ownBlock] at hk; subst hk; exact hg
theorem nin1 {a b : Nat} (h : a ≠ b) : a ∉ [b] := by simpa using h
theorem own_cell {w : World} {base g n c : Nat} {t : TypeId} {xs : List Value} (h : w.ownsRow base t 1 (.slice (some ⟨g, 0, none⟩) n c) n xs) {j : Nat} {u : Value} (hu : xs[j]? = some u) : w.cell? ⟨g, j, none⟩ = some u := by
  obtain ⟨A, c', e, -, h1⟩ := own_sl h
  injection e with e1 e2 e3
  subst e1
  have hl : xs.length = n := by simpa using h.1
  obtain ⟨g', e, -, -, h2⟩ := h1 (by have := (List.getElem?_eq_some_iff.1 hu).1; omega)
  injection e with e
  injection e with e
  subst e
  exact h2 j u hu
theorem own_mono {w : World} {base base' size n : Nat} {t : TypeId} {v : Value} {xs : List Value} (h : w.ownsRow base t size v n xs) (hb : base' ≤ base) : w.ownsRow base' t size v n xs := by
  refine ⟨h.1, ?_⟩
  rcases h.2 with h1 | ⟨g, cap, cur, e, h1, h2⟩
  · exact .inl h1
  · exact .inr ⟨g, cap, cur, e, by omega, h2⟩
end Go.Proofs.Ytlbkphnbpenbcaa
