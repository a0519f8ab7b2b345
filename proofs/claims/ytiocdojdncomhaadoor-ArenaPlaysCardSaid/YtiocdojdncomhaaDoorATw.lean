/-
  Two arenas among a call's own memory; what a give leaves (layer 10).
-/
import Derived.Test.YtiocdojdncomhaaDoorAAw
namespace Go.Proofs.YtiocdojdncomhaaDoor
open Go.RowKit Go.Maps
set_option linter.unusedVariables false

/-- One arena's blocks lie ahead of D, the other one's from D on. -/
structure Sep (D r bm bn r' bm' bn' : Nat) : Prop where
  a1 : r < D
  a2 : bm < D
  a3 : bn < D
  b1 : D ≤ r'
  b2 : D ≤ bm'
  b3 : D ≤ bn'
theorem AS.far {w W W' : World} {D r bm bn r' bm' bn' N N' : Nat} {L L' : List Bl} (h : AS w W r bm bn N L) (h' : AS w W r' bm' bn' N' L') (hs : Sep D r bm bn r' bm' bn') (ht : Tou W W' r' bm' bn') : AS w W' r bm bn N L := by
  have hb : Below w.heap.size W W' := ht.below h.bel.size h'.hr h'.hm h'.hn
  obtain ⟨s1, s2, s3, s4, s5, s6⟩ := hs
  exact ⟨h.ar.far ht (by omega) (by omega) (by omega), h.env.below hb h.pos, h.bel.trans hb, h.pos, h.hr, h.hm, h.hn⟩
theorem AS.far2 {w W W' : World} {D r bm bn r' bm' bn' N N' : Nat} {L L' : List Bl} (h : AS w W r bm bn N L) (h' : AS w W r' bm' bn' N' L') (hs : Sep D r bm bn r' bm' bn') (ht : Tou W W' r bm bn) : AS w W' r' bm' bn' N' L' := by
  have hb : Below w.heap.size W W' := ht.below h.bel.size h.hr h.hm h.hn
  obtain ⟨s1, s2, s3, s4, s5, s6⟩ := hs
  exact ⟨h'.ar.far ht (by omega) (by omega) (by omega), h'.env.below hb h'.pos, h'.bel.trans hb, h'.pos, h'.hr, h'.hm, h'.hn⟩
/-- A second arena, made behind the first one. -/
theorem as_new2 (N : Nat) (hN : N ≤ 16) {w W : World} {r bm bn N' : Nat} {L : List Bl} (h : AS w W r bm bn N' L) : Calls Tryd.prog 9 #[.int .i64 (N : Int)] W fun e W' => ∃ r' bm' bn', e = .returned (.tuple #[.pointer (some ⟨r', 0, none⟩), .int .i64 0]) ∧ AS w W' r bm bn N' L ∧ AS w W' r' bm' bn' N [] ∧ Sep W.heap.size r bm bn r' bm' bn' := by
  refine (pnew_ok N hN W).mono ?_
  rintro e W' ⟨r', bm', bn', h1, h2, h3, h4, h5, h6⟩
  have hs := h.bel.size
  obtain ⟨l1, l2, l3⟩ := h.ar.lt
  have hA := h.below h3
  exact ⟨r', bm', bn', h1, hA, ⟨h2, hA.env, hA.bel, h.pos, by omega, by omega, by omega⟩, ⟨l1, l2, l3, h4, h5, h6⟩⟩
theorem gv_len {N K : Nat} {M : List Bl} {b : Bl} (hI : InvA N M) (hb : M[K]? = some b) : ∃ M', gvF M (b.1 : Int) = (0, M') ∧ M'.length + 1 = M.length := by
  have hm := List.mem_of_getElem? hb
  obtain ⟨p, o⟩ := b
  obtain ⟨M', e, -, -⟩ := gvS_mem hI hm
  refine ⟨M', gvF_yes e, ?_⟩
  unfold gvS at e
  split at e
  · injection e with e
    rw [← e, List.length_eraseP_of_mem hm (by simp)]
    have := List.length_pos_of_mem hm
    omega
  · cases e
theorem ats_at {M : List Bl} {K : Nat} (h : K < M.length) : ∃ b, M[K]? = some b ∧ (ats M)[K]? = some (b.1 : Int) := by
  refine ⟨M[K], List.getElem?_eq_getElem h, ?_⟩
  unfold ats
  rw [List.getElem?_map, List.getElem?_eq_getElem h]
  rfl
theorem IsRow.at {k : IntKind} {w W : World} {a : Option Addr} {l c j : Nat} {z : List Int} (h : IsRow k w a l c z) (hb : Below w.heap.size w W) (hj : j < l) : ∃ b o v, a = some ⟨b, o, none⟩ ∧ W.cell? ⟨b, o + j, none⟩ = some (.int k v) ∧ (Lit.int k v).wf = true := by
  obtain ⟨hri, hl, -⟩ := h.ri
  obtain ⟨b, o, e, hlt, hc⟩ := hri.2.1 (by omega)
  have hlen := hri.1
  obtain ⟨v, hv⟩ : ∃ v, (z.take l)[j]? = some v := ⟨_, List.getElem?_eq_getElem (by omega)⟩
  exact ⟨b, o, v, e, (hb.cell (p := ⟨b, o + j, none⟩) hlt).trans (hc j v hv), hri.2.2 v (List.mem_of_getElem? hv)⟩
end Go.Proofs.YtiocdojdncomhaaDoor
