/-
  The document's own arena (layer 10): how it lies beside another one; what it chooses.
-/
import Derived.Test.YtiocdojdncomhaaDoorATw
namespace Go.Proofs.YtiocdojdncomhaaDoor
open Go.RowKit Go.Maps
set_option linter.unusedVariables false

/-- The document's arena, all of it from block D on. -/
def ArE (w : World) (D rd O : Nat) (L : List Bl) : Prop := ∃ A n c, Blk w rd 57 #[.int .i64 (O : Int), .slice A n c] ∧ RBk w A n L ∧ n ≤ c ∧ D ≤ rd ∧
  ((A = none ∧ n = 0 ∧ c = 0) ∨ ∃ g, A = some ⟨g, 0, none⟩ ∧ D ≤ g ∧ g < w.heap.size ∧ g ≠ rd)
theorem ArE.ard {w : World} {D rd O : Nat} {L : List Bl} (h : ArE w D rd O L) : ArD w rd O L := by
  obtain ⟨A, n, c, h1, h2, h3, -⟩ := h
  exact ⟨A, n, c, h1, h2, h3⟩
theorem ArE.kept {w w' : World} {D rd O : Nat} {L : List Bl} (h : ArE w D rd O L) (hs : w.heap.size ≤ w'.heap.size) (hk : ∀ k, k < w.heap.size → D ≤ k → w'.heap[k]? = w.heap[k]?) : ArE w' D rd O L := by
  obtain ⟨A, n, c, h1, h2, h3, h4, h5⟩ := h
  refine ⟨A, n, c, (hk rd h1.lt h4).trans h1, ?_, h3, h4, ?_⟩
  · refine ⟨h2.1, fun h0 => ?_⟩
    obtain ⟨b, o, e, hlt, hc⟩ := h2.2 h0
    rcases h5 with ⟨e2, -, -⟩ | ⟨g, e2, hg, -, -⟩
    · rw [e2] at e; cases e
    · rw [e2] at e
      injection e with e
      injection e with e3 e4 e5
      subst e3 e4
      refine ⟨g, 0, e2, by omega, fun j x hx => ?_⟩
      obtain ⟨c1, c2⟩ := hc j x hx
      have hb := hk g hlt hg
      unfold World.cell? at c1 c2 ⊢
      rw [hb]
      exact ⟨c1, c2⟩
  · rcases h5 with h5 | ⟨g, e2, hg, hl, hne⟩
    · exact .inl h5
    · exact .inr ⟨g, e2, hg, by omega, hne⟩
theorem ArE.below {w w' : World} {D rd O : Nat} {L : List Bl} (h : ArE w D rd O L) (hb : Below w.heap.size w w') : ArE w' D rd O L := h.kept hb.size fun k hk _ => hb.block k hk
theorem ArE.tou {w w' : World} {D rd O r bm bn : Nat} {L : List Bl} (h : ArE w D rd O L) (ht : Tou w w' r bm bn) (h1 : r < D) (h2 : bm < D) (h3 : bn < D) : ArE w' D rd O L := h.kept ht.size fun k hk hD => ht.block k hk (by omega) (by omega) (by omega)
theorem AS.doc {w W W' : World} {r bm bn N rd D : Nat} {L : List Bl} (h : AS w W r bm bn N L) (hg : W.grownBy W' (some rd)) (hD : D ≤ rd) (h1 : r < D) (h2 : bm < D) (h3 : bn < D) (h4 : w.heap.size ≤ D) : AS w W' r bm bn N L := by
  have hb : Below w.heap.size W W' := ⟨hg.os, hg.tape, hg.output, hg.size, fun k hk => hg.block k (by have := h.bel.size; omega) (fun e => by injection e with e; omega)⟩
  obtain ⟨l1, l2, l3⟩ := h.ar.lt
  exact ⟨h.ar.kept (hg.block r l1 (fun e => by injection e with e; omega)) (hg.block bm l2 (fun e => by injection e with e; omega)) (hg.block bn l3 (fun e => by injection e with e; omega)), h.env.below hb h.pos, h.bel.trans hb, h.pos, h.hr, h.hm, h.hn⟩
theorem own_rbk2 {w : World} {base n : Nat} {l : List Bl} {v : Value} (hn : l.length = n) (h : w.ownsRow base 59 2 v n (bcells l)) : ∃ A c, v = .slice A n c ∧ RBk w A n l ∧ n ≤ c ∧ ((A = none ∧ n = 0 ∧ c = 0) ∨ ∃ g, A = some ⟨g, 0, none⟩ ∧ base ≤ g ∧ g < w.heap.size) := by
  have h' := h
  rcases h.2 with ⟨rfl, h0⟩ | ⟨g, cap, cur, rfl, h1, h2, h3, h4, h5, h6⟩
  · subst h0
    exact ⟨none, 0, rfl, ⟨hn, fun h => absurd h (by omega)⟩, Nat.le_refl _, .inl ⟨rfl, rfl, rfl⟩⟩
  · obtain ⟨A, c, e, hr, hc, -, -⟩ := own_rbk hn h'
    injection e with e1 e2 e3
    subst e1 e3
    exact ⟨_, _, rfl, hr, hc, .inr ⟨g, rfl, h1, (Array.getElem?_eq_some_iff.1 h2).1⟩⟩
theorem RBk.take {w : World} {A : Option Addr} {n k : Nat} {L : List Bl} (h : RBk w A n L) (hk : k ≤ n) : RBk w A k (L.take k) := by
  refine ⟨by rw [List.length_take, h.1]; omega, fun h0 => ?_⟩
  obtain ⟨b, o, e, hlt, hc⟩ := h.2 (by omega)
  refine ⟨b, o, e, hlt, fun j x hx => hc j x ?_⟩
  rw [List.getElem?_take] at hx
  split at hx
  · exact hx
  · cases hx
theorem RBk.drop {w : World} {g n k : Nat} {L : List Bl} (h : RBk w (some ⟨g, 0, none⟩) n L) (hk : k ≤ n) : RBk w (some ⟨g, k * 2, none⟩) (n - k) (L.drop k) := by
  refine ⟨by rw [List.length_drop, h.1], fun h0 => ?_⟩
  obtain ⟨b, o, e, hlt, hc⟩ := h.2 (by omega)
  injection e with e
  injection e with e1 e2 e3
  subst e1 e2
  refine ⟨g, k * 2, rfl, hlt, fun j x hx => ?_⟩
  rw [List.getElem?_drop] at hx
  have := hc (k + j) x hx
  rw [show k * 2 + j * 2 = 0 + (k + j) * 2 by omega]
  exact this
/-- What the first so many free blocks leave to choose from. -/
theorem bst_cons_none {o : Nat} {x : Bl} {r : List Bl} : bst o none (x :: r) = bst o (if o ≤ x.2 then some x else none) r := rfl
theorem bst_cons_some {o : Nat} {g x : Bl} {r : List Bl} : bst o (some g) (x :: r) = bst o (if o ≤ x.2 ∧ x.2 < g.2 then some x else some g) r := rfl
set_option maxRecDepth 100000 in
set_option maxHeartbeats 4000000 in
theorem rtake_bad (rd O : Nat) (L : List Bl) (o : Int) (ho : ¬ (0 ≤ o ∧ o ≤ (O : Int))) (w : World) (h : ArD w rd O L) :
    Calls Tryd.prog 16 #[.pointer (some ⟨rd, 0, none⟩), .int .i64 o] w fun e w' => e = .returned (.tuple #[.int .i64 0, .int .i64 1]) ∧ w = w' := by
  obtain ⟨A, n, c, h1, -⟩ := h
  have c0 := (h1.cell 0).trans (show _ = some (Value.int .i64 (O : Int)) by rfl)
  clear h1
  by_cases h0 : o < 0
  · clear ho
    go_enter Tryd.func16, Tryd.ntmps16
    go_wp2
    exact bodyPost_ret (v := .tuple #[.int .i64 0, .int .i64 1]) (by simp [results, Tryd.results16, go_sem]) rfl ⟨rfl, rfl⟩
  · have h2 : (O : Int) < o := by omega
    clear ho
    go_enter Tryd.func16, Tryd.ntmps16
    go_wp2
    exact bodyPost_ret (v := .tuple #[.int .i64 0, .int .i64 1]) (by simp [results, Tryd.results16, go_sem]) rfl ⟨rfl, rfl⟩
end Go.Proofs.YtiocdojdncomhaaDoor
