/-
  The document's own rib (layer 15): what it looks like in memory; '==' of prefixes and of paths as one fact.
-/
import Derived.Test.YtjlmgkdieffjcaaGreatDoorRbEq
namespace Go.Proofs.YtjlmgkdieffjcaaGreatDoor
open Go.RowKit
set_option linter.unusedVariables false

def tdC (t : TdI) : List Value := pfC t.1 ++ paC t.2
theorem td_eleven (t : TdI) : (tdC t).length = 11 := rfl
theorem td_one (t : TdI) : ∀ u ∈ tdC t, u.oneCell' = true := by
  intro u hu
  rcases List.mem_append.1 hu with h | h
  · exact pf_one _ u h
  · exact pa_one _ u h
def NumT (t : TdI) : Prop := (N64 t.1.1.2.1 ∧ N64 t.1.1.2.2) ∧ (N64 t.2.2.2.1.2.1 ∧ N64 t.2.2.2.1.2.2)
/-- The document's rib: t its block, S all its blocks. -/
def RbD (w : World) (t : Nat) (S : List Nat) (L : List TdI) : Prop := ∃ (A : Option Addr) (c : Nat),
  S = t :: obI (.slice A L.length c) ∧ S.Nodup ∧ Blk w t 64 #[.slice A L.length c] ∧ w.ownsRow 0 86 11 (.slice A L.length c) L.length (L.flatMap tdC) ∧ ∀ u ∈ L, NumT u
section
variable {w w' : World} {t : Nat} {S T : List Nat} {L : List TdI}
theorem RbD.num (h : RbD w t S L) : ∀ u ∈ L, NumT u := by
  obtain ⟨A, c, h1, h2, h3, h4, h5⟩ := h
  exact h5
theorem RbD.lt (h : RbD w t S L) : ∀ s ∈ S, s < w.heap.size := by
  obtain ⟨A, c, rfl, h2, h3, h4, h5⟩ := h
  intro s hs
  rcases List.mem_cons.1 hs with h | h
  · subst h; exact h3.lt
  · exact own_lts h4 s h
theorem RbD.tch (h : RbD w t S L) (ht : Tch w w' T) (hn : ∀ s ∈ S, s ∉ T) : RbD w' t S L := by
  obtain ⟨A, c, rfl, h2, h3, h4, h5⟩ := h
  exact ⟨A, c, rfl, h2, ht.blk h3 (hn t (by simp)), own_tch h4 ht (fun s hs => hn s (by simp [hs])), h5⟩
theorem RbD.tin (h : RbD w t S L) : t ∈ S := by
  obtain ⟨A, c, rfl, -⟩ := h
  simp
/-- A new row, whole. -/
theorem RbD.set_ {W : World} {M : List TdI} {A : Option Addr} {c : Nat} (h : RbD w t S L) (hT : Tch w W []) (hown : W.ownsRow w.heap.size 86 11 (.slice A M.length c) M.length (M.flatMap tdC)) (hM : ∀ u ∈ M, NumT u) :
    (∃ u, W.cell? ⟨t, 0, none⟩ = some u) ∧ W.frozen? ⟨t, 0, none⟩ = false ∧ ∃ S', RbD (W.setCell ⟨t, 0, none⟩ (.slice A M.length c)) t S' M ∧ Goes w (W.setCell ⟨t, 0, none⟩ (.slice A M.length c)) S S' := by
  have hlt := h.lt t h.tin
  obtain ⟨A0, c0, rfl, h2, h3, h4, h5⟩ := h
  have b := hT.blk h3 (by simp)
  have hg := own_geI hown
  have hTs : Tch W (W.setCell ⟨t, 0, none⟩ (.slice A M.length c)) [t] := (Tch.refl W [t]).set_ (p := ⟨t, 0, none⟩) (by simp) _
  refine ⟨⟨_, b.cell 0⟩, b.frozen 0, t :: obI (.slice A M.length c), ⟨A, c, rfl, ?_, b.set_ 0 _, own_tch (own_mono hown (Nat.zero_le _)) hTs (fun s hs hm => ?_), hM⟩, ⟨(hT.mono (by simp)).trans (hTs.mono (by simp)), fun s hs => ?_⟩⟩
  · rw [List.nodup_cons]
    refine ⟨fun hm => ?_, ?_⟩
    · have := (hg t hm).1; omega
    · unfold obI; cases (Value.slice A M.length c).ownBlock <;> simp
  · have h1 := List.mem_singleton.1 hm
    have := (hg s hs).1
    omega
  · rcases List.mem_cons.1 hs with k | k
    · exact .inl (by rw [k]; simp)
    · exact .inr (hg s k).1
/-- What is read of it. -/
theorem RbD.head (h : RbD w t S L) : ∃ (A : Option Addr) (c : Nat), w.cell? ⟨t, 0, none⟩ = some (.slice A L.length c) ∧ w.ownsRow 0 86 11 (.slice A L.length c) L.length (L.flatMap tdC) ∧ t < w.heap.size ∧ w.frozen? ⟨t, 0, none⟩ = false := by
  obtain ⟨A, c, rfl, h2, h3, h4, h5⟩ := h
  exact ⟨A, c, (h3.cell 0).trans rfl, h4, h3.lt, h3.frozen 0⟩
end
/-- The cells of one that is told. -/
theorem td_cells {w : World} {g n c k : Nat} {L : List TdI} (h : w.ownsRow 0 86 11 (.slice (some ⟨g, 0, none⟩) n c) n (L.flatMap tdC)) {u : TdI} (hu : L[k]? = some u) :
    w.cell? ⟨g, k * 11, none⟩ = some (.bool u.1.1.1) ∧ w.cell? ⟨g, k * 11 + 1, none⟩ = some (.int .u64 (u.1.1.2.1 : Int)) ∧ w.cell? ⟨g, k * 11 + 2, none⟩ = some (.int .u64 (u.1.1.2.2 : Int)) ∧ w.cell? ⟨g, k * 11 + 3, none⟩ = some (.int .i64 u.1.2) ∧
    w.cell? ⟨g, k * 11 + 4, none⟩ = some (.int .i64 u.2.1) ∧ w.cell? ⟨g, k * 11 + 5, none⟩ = some (.int .i64 u.2.2.1) ∧ w.cell? ⟨g, k * 11 + 6, none⟩ = some (.bool u.2.2.2.1.1) ∧ w.cell? ⟨g, k * 11 + 7, none⟩ = some (.int .u64 (u.2.2.2.1.2.1 : Int)) ∧
    w.cell? ⟨g, k * 11 + 8, none⟩ = some (.int .u64 (u.2.2.2.1.2.2 : Int)) ∧ w.cell? ⟨g, k * 11 + 9, none⟩ = some (.int .i64 u.2.2.2.2.1) ∧ w.cell? ⟨g, k * 11 + 10, none⟩ = some (.bool u.2.2.2.2.2) := by
  refine ⟨?_, ?_, ?_, ?_, ?_, ?_, ?_, ?_, ?_, ?_, ?_⟩
  · exact own_cellN h ((flatk_at (f := tdC) td_eleven hu (k := 0) (by decide)).trans rfl)
  · exact own_cellN h ((flatk_at (f := tdC) td_eleven hu (k := 1) (by decide)).trans rfl)
  · exact own_cellN h ((flatk_at (f := tdC) td_eleven hu (k := 2) (by decide)).trans rfl)
  · exact own_cellN h ((flatk_at (f := tdC) td_eleven hu (k := 3) (by decide)).trans rfl)
  · exact own_cellN h ((flatk_at (f := tdC) td_eleven hu (k := 4) (by decide)).trans rfl)
  · exact own_cellN h ((flatk_at (f := tdC) td_eleven hu (k := 5) (by decide)).trans rfl)
  · exact own_cellN h ((flatk_at (f := tdC) td_eleven hu (k := 6) (by decide)).trans rfl)
  · exact own_cellN h ((flatk_at (f := tdC) td_eleven hu (k := 7) (by decide)).trans rfl)
  · exact own_cellN h ((flatk_at (f := tdC) td_eleven hu (k := 8) (by decide)).trans rfl)
  · exact own_cellN h ((flatk_at (f := tdC) td_eleven hu (k := 9) (by decide)).trans rfl)
  · exact own_cellN h ((flatk_at (f := tdC) td_eleven hu (k := 10) (by decide)).trans rfl)
theorem infoTd : (Tryz.prog.info? 86).map (fun i => (i.zero, i.size, i.bytes)) = some (some (.agg #[.bool false, .int .u64 0, .int .u64 0, .int .i64 0, .int .i64 0, .int .i64 0, .bool false, .int .u64 0, .int .u64 0, .int .i64 0, .bool false]), 11, 88) := by kernel_rfl
set_option maxHeartbeats 1000000 in
theorem newR (w : World) : Calls Tryz.prog 7 #[] w fun e w' => ∃ t S, e = .returned (.pointer (some ⟨t, 0, none⟩)) ∧ RbD w' t S [] ∧ Below w.heap.size w w' ∧ ∀ s ∈ S, w.heap.size ≤ s := by
  have HI : Hid (RbD (w.alloc (.cells #[.slice none 0 0] 64)) w.heap.size [w.heap.size] []) := Lib.hid ⟨none, 0, rfl, by simp, Blk.new _ _ _, ⟨rfl, .inl ⟨rfl, rfl⟩⟩, by simp⟩
  go_enter Tryz.func7, Tryz.ntmps7
  go_wp2
  go_ret
  exact ⟨_, _, rfl, HI.out, (Below.refl _ w).alloc (Nat.le_refl _) _, by simp⟩
end Go.Proofs.YtjlmgkdieffjcaaGreatDoor
