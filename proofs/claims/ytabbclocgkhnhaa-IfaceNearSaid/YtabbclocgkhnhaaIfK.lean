/-
  The document's own set of ports (layer 14): a row of its own grows.
-/
import Derived.Test.YtabbclocgkhnhaaIfJ
namespace Go.Proofs.Ytabbclocgkhnhaa
open Go.RowKit
set_option linter.unusedVariables false

/-- The set in memory, its two rows each at its own length. -/
structure RepI (w : World) (t : Nat) (vP : Value) (nP : Nat) (pr : List Value) (vL : Value) (nL : Nat) (lv : List Value) (L : List (List Loc)) : Prop where
  nod : (t :: (obI vP ++ (obI vL ++ lv.flatMap obI))).Nodup
  blk : Blk w t 67 #[vP, vL]
  rowP : w.ownsRow 0 46 4 vP nP pr
  rowL : w.ownsRow 0 39 1 vL nL lv
  inn : ∀ (i : Nat) (l : List Loc), L[i]? = some l → ∃ A c, lv[i]? = some (.slice A l.length c) ∧ w.ownsRow 0 42 4 (.slice A l.length c) l.length (l.flatMap lcC)
section
variable {w w1 : World} {t nP nL : Nat} {vP vL v : Value} {pr lv : List Value} {L : List (List Loc)}
theorem RepI.lts (h : RepI w t vP nP pr vL nL lv L) (hl : lv.length = L.length) : ∀ s ∈ t :: (obI vP ++ (obI vL ++ lv.flatMap obI)), s < w.heap.size := by
  intro s hs
  rcases List.mem_cons.1 hs with h1 | h1
  · subst h1; exact h.blk.lt
  rcases List.mem_append.1 h1 with h1 | h1
  · exact own_lts h.rowP s h1
  rcases List.mem_append.1 h1 with h1 | h1
  · exact own_lts h.rowL s h1
  obtain ⟨v, hv, hs⟩ := List.mem_flatMap.1 h1
  obtain ⟨i, hi⟩ := List.mem_iff_getElem?.1 hv
  have hil := (List.getElem?_eq_some_iff.1 hi).1
  obtain ⟨A, c, e, ho⟩ := h.inn i _ (List.getElem?_eq_getElem (by omega))
  rw [hi] at e
  injection e with e
  subst e
  exact own_lts ho s hs
theorem obI_new {B : Nat} (hv : v.ownBlock = vP.ownBlock ∨ v.ownBlock = some B) : obI v = obI vP ∨ obI v = [B] := by
  rcases hv with h | h
  · exact .inl (by unfold obI; rw [h])
  · exact .inr (obI_some h)
/-- A row grew: what else there is stays. -/
theorem grown_tch {o : Obj} (hg : (w.alloc o).grownBy w1 v.ownBlock) : Tch w w1 (obI v) := ((Tch.refl w _).alloc o).trans (Tch.of_grown' hg (fun g e => by rw [obI_some e]; simp))
theorem RepI.growP {o : Obj} {e : List Value} (h : RepI w t vP nP pr vL nL lv L) (hl : lv.length = L.length) (ho : w1.ownsRow 0 46 4 v (nP + 1) (pr ++ e)) (hg : (w.alloc o).grownBy w1 vP.ownBlock)
    (hv : v.ownBlock = vP.ownBlock ∨ v.ownBlock = some (w.alloc o).heap.size) :
    RepI (w1.setCell ⟨t, 0, none⟩ v) t v (nP + 1) (pr ++ e) vL nL lv L ∧ Goes w (w1.setCell ⟨t, 0, none⟩ v) (t :: (obI vP ++ (obI vL ++ lv.flatMap obI))) (t :: (obI v ++ (obI vL ++ lv.flatMap obI))) ∧ w1.frozen? ⟨t, 0, none⟩ = false ∧ ∃ u, w1.cell? ⟨t, 0, none⟩ = some u := by
  have hlt := h.lts hl
  have hT := grown_tch hg
  have hnd := h.nod
  rw [List.nodup_cons, List.nodup_append] at hnd
  obtain ⟨n1, n2, n3, n4⟩ := hnd
  have hob := obI_new hv
  rw [World.size_alloc] at hob
  have ht : t ∉ obI vP := fun hm => n1 (List.mem_append_left _ hm)
  have hrest : ∀ s ∈ obI vL ++ lv.flatMap obI, s ∉ obI vP := fun s hs hm => n4 s hm s hs rfl
  have hB := hT.blk h.blk ht
  have htv : t ∉ obI v := by
    rcases hob with e1 | e1
    · rw [e1]; exact ht
    · rw [e1, List.mem_singleton]; have := h.blk.lt; omega
  have hrv : ∀ s ∈ obI vL ++ lv.flatMap obI, s ∉ obI v := fun s hs => by
    rcases hob with e1 | e1
    · rw [e1]; exact hrest s hs
    · rw [e1, List.mem_singleton]
      have := hlt s (List.mem_cons_of_mem _ (List.mem_append_right _ hs))
      omega
  have hTs : Tch w1 (w1.setCell ⟨t, 0, none⟩ v) [t] := (Tch.refl w1 [t]).set_ (p := ⟨t, 0, none⟩) (by simp) v
  have htr : ∀ s ∈ obI vL ++ lv.flatMap obI, s ∉ [t] := fun s hs hm => n1 (by rw [List.mem_singleton.1 hm] at hs; exact List.mem_append_right _ hs)
  refine ⟨⟨?_, hB.set_ 0 _, own_tch ho hTs (fun s hs hm => htv (by rw [List.mem_singleton.1 hm] at hs; exact hs)), own_tch (own_tch h.rowL hT (fun s hs => hrest s (List.mem_append_left _ hs))) hTs (fun s hs => htr s (List.mem_append_left _ hs)), fun i l hl2 => ?_⟩, ⟨?_, fun s hs => ?_⟩, hB.frozen 0, _, hB.cell 0⟩
  · rw [List.nodup_cons, List.nodup_append]
    refine ⟨fun hm => ?_, ?_, n3, fun a ha b hb e => hrv b hb (e ▸ ha)⟩
    · rcases List.mem_append.1 hm with h1 | h1
      · exact htv h1
      · exact n1 (List.mem_append_right _ h1)
    · rcases hob with e1 | e1
      · rw [e1]; exact n2
      · rw [e1]; simp
  · obtain ⟨A, c, e2, ho2⟩ := h.inn i l hl2
    have hm : ∀ s ∈ obI (.slice A l.length c), s ∈ obI vL ++ lv.flatMap obI := fun s hs => List.mem_append_right _ (List.mem_flatMap.2 ⟨_, List.mem_of_getElem? e2, hs⟩)
    exact ⟨A, c, e2, own_tch (own_tch ho2 hT (fun s hs => hrest s (hm s hs))) hTs (fun s hs => htr s (hm s hs))⟩
  · exact (hT.mono (fun s hs => List.mem_cons_of_mem _ (List.mem_append_left _ hs))).set_ (p := ⟨t, 0, none⟩) (by simp) _
  · rcases List.mem_cons.1 hs with h1 | h1
    · exact .inl (by rw [h1]; simp)
    rcases List.mem_append.1 h1 with h1 | h1
    · rcases hob with e1 | e1
      · rw [e1] at h1; exact .inl (List.mem_cons_of_mem _ (List.mem_append_left _ h1))
      · rw [e1, List.mem_singleton] at h1; exact .inr (by omega)
    · exact .inl (List.mem_cons_of_mem _ (List.mem_append_right _ h1))
/-- The row of rows grows by one that is nil. -/
theorem RepI.growL {o : Obj} (h : RepI w t vP nP pr vL nL lv L) (hl : lv.length = L.length) (ho : w1.ownsRow 0 39 1 v (nL + 1) (lv ++ [Value.slice none 0 0])) (hg : (w.alloc o).grownBy w1 vL.ownBlock)
    (hv : v.ownBlock = vL.ownBlock ∨ v.ownBlock = some (w.alloc o).heap.size) :
    RepI (w1.setCell ⟨t, 1, none⟩ v) t vP nP pr v (nL + 1) (lv ++ [Value.slice none 0 0]) (L ++ [[]]) ∧ Goes w (w1.setCell ⟨t, 1, none⟩ v) (t :: (obI vP ++ (obI vL ++ lv.flatMap obI))) (t :: (obI vP ++ (obI v ++ (lv ++ [Value.slice none 0 0]).flatMap obI))) ∧
      w1.frozen? ⟨t, 1, none⟩ = false ∧ ∃ u, w1.cell? ⟨t, 1, none⟩ = some u := by
  have hlt := h.lts hl
  have hT := grown_tch hg
  have hnd := h.nod
  have efl : (lv ++ [Value.slice none 0 0]).flatMap obI = lv.flatMap obI := by rw [List.flatMap_append]; simp [obI, Value.ownBlock]
  rw [efl]
  rw [List.nodup_cons, List.nodup_append, List.nodup_append] at hnd
  obtain ⟨n1, n2, ⟨n3, n5, n6⟩, n4⟩ := hnd
  have hob := obI_new hv
  rw [World.size_alloc] at hob
  have ht : t ∉ obI vL := fun hm => n1 (List.mem_append_right _ (List.mem_append_left _ hm))
  have hP : ∀ s ∈ obI vP, s ∉ obI vL := fun s hs hm => n4 s hs s (List.mem_append_left _ hm) rfl
  have hI : ∀ s ∈ lv.flatMap obI, s ∉ obI vL := fun s hs hm => n6 s hm s hs rfl
  have hB := hT.blk h.blk ht
  have hnew : ∀ s, s < w.heap.size → s ∉ obI vL → s ∉ obI v := fun s hs hn => by
    rcases hob with e1 | e1
    · rw [e1]; exact hn
    · rw [e1, List.mem_singleton]; omega
  have htv := hnew t h.blk.lt ht
  have hTs : Tch w1 (w1.setCell ⟨t, 1, none⟩ v) [t] := (Tch.refl w1 [t]).set_ (p := ⟨t, 1, none⟩) (by simp) v
  have hPt : ∀ s ∈ obI vP, s ∉ [t] := fun s hs hm => n1 (by rw [List.mem_singleton.1 hm] at hs; exact List.mem_append_left _ hs)
  have hIt : ∀ s ∈ lv.flatMap obI, s ∉ [t] := fun s hs hm => n1 (by rw [List.mem_singleton.1 hm] at hs; exact List.mem_append_right _ (List.mem_append_right _ hs))
  have hltP : ∀ s ∈ obI vP, s < w.heap.size := fun s hs => hlt s (List.mem_cons_of_mem _ (List.mem_append_left _ hs))
  have hltI : ∀ s ∈ lv.flatMap obI, s < w.heap.size := fun s hs => hlt s (List.mem_cons_of_mem _ (List.mem_append_right _ (List.mem_append_right _ hs)))
  refine ⟨⟨?_, hB.set_ 1 _, own_tch (own_tch h.rowP hT hP) hTs hPt, own_tch ho hTs (fun s hs hm => htv (by rw [List.mem_singleton.1 hm] at hs; exact hs)), fun i l hl2 => ?_⟩, ⟨?_, fun s hs => ?_⟩, hB.frozen 1, _, hB.cell 1⟩
  · rw [efl, List.nodup_cons, List.nodup_append, List.nodup_append]
    refine ⟨fun hm => ?_, n2, ⟨?_, n5, fun a ha b hb e => hnew b (hltI b hb) (hI b hb) (e ▸ ha)⟩, fun a ha b hb e => ?_⟩
    · rcases List.mem_append.1 hm with h1 | h1
      · exact n1 (List.mem_append_left _ h1)
      rcases List.mem_append.1 h1 with h1 | h1
      · exact htv h1
      · exact n1 (List.mem_append_right _ (List.mem_append_right _ h1))
    · rcases hob with e1 | e1
      · rw [e1]; exact n3
      · rw [e1]; simp
    · subst e
      rcases List.mem_append.1 hb with h1 | h1
      · exact hnew a (hltP a ha) (hP a ha) h1
      · exact n4 a ha a (List.mem_append_right _ h1) rfl
  · rcases Nat.lt_or_ge i L.length with h1 | h1
    · rw [List.getElem?_append_left h1] at hl2
      obtain ⟨A, c, e2, ho2⟩ := h.inn i l hl2
      have hm : ∀ s ∈ obI (.slice A l.length c), s ∈ lv.flatMap obI := fun s hs => List.mem_flatMap.2 ⟨_, List.mem_of_getElem? e2, hs⟩
      exact ⟨A, c, by rw [List.getElem?_append_left (by omega)]; exact e2, own_tch (own_tch ho2 hT (fun s hs => hI s (hm s hs))) hTs (fun s hs => hIt s (hm s hs))⟩
    · rw [List.getElem?_append_right h1] at hl2
      have hi : i = L.length := by have := (List.getElem?_eq_some_iff.1 hl2).1; simp at this; omega
      subst hi
      simp at hl2
      subst hl2
      exact ⟨none, 0, by rw [List.getElem?_append_right (by omega), hl]; simp, ⟨rfl, .inl ⟨rfl, rfl⟩⟩⟩
  · exact (hT.mono (fun s hs => List.mem_cons_of_mem _ (List.mem_append_right _ (List.mem_append_left _ hs)))).set_ (p := ⟨t, 1, none⟩) (by simp) _
  · rcases List.mem_cons.1 hs with h1 | h1
    · exact .inl (by rw [h1]; simp)
    rcases List.mem_append.1 h1 with h1 | h1
    · exact .inl (List.mem_cons_of_mem _ (List.mem_append_left _ h1))
    rcases List.mem_append.1 h1 with h1 | h1
    · rcases hob with e1 | e1
      · rw [e1] at h1; exact .inl (List.mem_cons_of_mem _ (List.mem_append_right _ (List.mem_append_left _ h1)))
      · rw [e1, List.mem_singleton] at h1; exact .inr (by omega)
    · exact .inl (List.mem_cons_of_mem _ (List.mem_append_right _ (List.mem_append_right _ h1)))
end
end Go.Proofs.Ytabbclocgkhnhaa
