/-
  'append' of one element onto a row of the call's own; such a row as a slice that reads (layer 12).
-/
import Derived.Test.YtogbchahfkphoaaRgA
namespace Go.Proofs.Ytogbchahfkphoaa
open Go.RowKit
set_option linter.unusedVariables false

theorem wpList_apc (tS tE : TypeId) (zv : Value) (sz by_ : Nat) (hu : Try.prog.underlying tS = some (.slice tE)) (hinf : (Try.prog.info? tE).map (fun i => (i.zero, i.size, i.bytes)) = some (some zv, sz, by_)) (hzs : zv.cells.size = sz) (hsz : 0 < sz) (hby : by_ ≤ 1000)
    (w : World) {ops : Array Oper} {rest : List Oper} {o : Oper} {a : Act} {Q : Exit → Act → World → Prop} (hgd : o.guard = none) (s x : Operand)
    (ho : o.op = .call { callee := .builtin .append, args := #[s, x], argTypes := #[tS, tS] })
    (base : Nat) (v : Value) (n : Nat) (xs : List Value) (hs : a.eval s = v) (hown : w.ownsRow base tE sz v n xs)
    (ad : Addr) (c : Nat) (e : List Value) (hx : a.eval x = .slice (some ad) 1 c) (hl : e.length = sz) (hc : ∀ j u, e[j]? = some u → w.cell? (ad.add j) = some u) (h1 : ∀ u ∈ e, u.oneCell' = true)
    (hn : n ≤ 1000000) (hbase : base ≤ w.heap.size)
    (h : ∀ v' w', w'.ownsRow base tE sz v' (n + 1) (xs ++ e) → w.grownBy w' v.ownBlock → (v'.ownBlock = v.ownBlock ∨ v'.ownBlock = some w.heap.size) → wpList Try.prog ops Q rest (a.put o.dst v') w') :
    wpList Try.prog ops Q (o :: rest) a w := by
  obtain ⟨i0, hi, hz0, hz1, hz2⟩ := info_parts hinf
  have hb : (n + 1) * by_ ≤ 1000001 * 1000 := Nat.mul_le_mul (by omega) hby
  refine wpList_append_own_at w hgd s x tS ho base tE i0 zv sz by_ hu hi hz0 hz1 hz2 hzs hsz v n xs hs hown ad 1 c e hx (by rw [hl, Nat.one_mul]) hc h1 (by unfold maxLen; omega) (by omega) hbase ?_
  intro v' w' h1 h2 h3 h4
  exact h v' w' h1 h2 h4
theorem own_sl {w : World} {base n sz : Nat} {t : TypeId} {v : Value} {xs : List Value} (h : w.ownsRow base t sz v n xs) :
    ∃ A c, v = .slice A n c ∧ n ≤ c ∧ (0 < n → ∃ g, A = some ⟨g, 0, none⟩ ∧ base ≤ g ∧ g < w.heap.size ∧ ∀ j u, xs[j]? = some u → w.cell? ⟨g, j, none⟩ = some u) := by
  have hc := fun g hg => h.cells (g := g) hg
  rcases h.2 with ⟨rfl, h0⟩ | ⟨g, cap, cur, rfl, h1, h2, h3, h4, h5, h6⟩
  · subst h0
    exact ⟨none, 0, rfl, Nat.le_refl _, fun h => absurd h (by omega)⟩
  · refine ⟨_, cap, rfl, h3, fun _ => ⟨g, rfl, h1, (Array.getElem?_eq_some_iff.1 h2).1, fun j u hu => ?_⟩⟩
    have := hc g rfl j u hu
    rwa [show (⟨g, 0, none⟩ : Addr).add j = ⟨g, j, none⟩ by unfold Addr.add; split <;> simp_all] at this
theorem src_new (w : World) (t : TypeId) (e : List Value) : ∀ j u, e[j]? = some u → (w.alloc (.cells e.toArray t)).cell? ((⟨w.heap.size, 0, none⟩ : Addr).add j) = some u := by
  intro j u hu
  rw [show (⟨w.heap.size, 0, none⟩ : Addr).add j = ⟨w.heap.size, j, none⟩ by unfold Addr.add; split <;> simp_all, (Blk.new w t e.toArray).cell]
  simpa using hu
theorem own_lt {w : World} {base n sz : Nat} {t : TypeId} {v : Value} {xs : List Value} (h : w.ownsRow base t sz v n xs) {g : Nat} (hg : v.ownBlock = some g) : g < w.heap.size := (h.lt g hg).2
theorem Tch.of_grown' {w w' : World} {S : List Nat} {row : Option Nat} (h : w.grownBy w' row) (hg : ∀ g, row = some g → g ∈ S) : Tch w w' S :=
  ⟨h.os, h.tape, h.output, h.size, fun k hk hn => h.block k hk (fun e => hn (hg k e.symm))⟩
end Go.Proofs.Ytogbchahfkphoaa
