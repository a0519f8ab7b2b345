/-
  The document's own set of ports (layer 14): one of its inner rows set anew.
-/
import Derived.Test.YtabbclocgkhnhaaIfU
namespace Go.Proofs.Ytabbclocgkhnhaa
open Go.RowKit
set_option linter.unusedVariables false

theorem obI_nodup (v : Value) : (obI v).Nodup := by
  unfold obI
  cases v.ownBlock <;> simp
theorem flat_set {lv : List Value} {v : Value} {B i : Nat} (h : (lv.flatMap obI).Nodup) (hlt : ∀ s ∈ lv.flatMap obI, s < B) (hv : ∀ s ∈ obI v, B ≤ s) : ((lv.set i v).flatMap obI).Nodup ∧ ∀ s ∈ (lv.set i v).flatMap obI, s ∈ lv.flatMap obI ∨ s ∈ obI v := by
  induction lv generalizing i with
  | nil => simp
  | cons y r ih =>
    rw [List.flatMap_cons, List.nodup_append] at h
    rw [List.flatMap_cons] at hlt
    obtain ⟨h1, h2, h3⟩ := h
    cases i with
    | zero =>
      rw [List.set_cons_zero, List.flatMap_cons, List.flatMap_cons, List.nodup_append]
      refine ⟨⟨obI_nodup v, h2, fun a ha b hb e => ?_⟩, fun s hs => ?_⟩
      · have := hv a ha
        have := hlt b (List.mem_append_right _ hb)
        omega
      · rcases List.mem_append.1 hs with h4 | h4
        · exact .inr h4
        · exact .inl (List.mem_append_right _ h4)
    | succ i =>
      obtain ⟨k1, k2⟩ := ih (i := i) h2 (fun s hs => hlt s (List.mem_append_right _ hs))
      rw [List.set_cons_succ, List.flatMap_cons, List.flatMap_cons, List.nodup_append]
      refine ⟨⟨h1, k1, fun a ha b hb e => ?_⟩, fun s hs => ?_⟩
      · rcases k2 b hb with h4 | h4
        · exact h3 a ha b h4 e
        · have := hv b h4
          have := hlt a (List.mem_append_left _ ha)
          omega
      · rcases List.mem_append.1 hs with h4 | h4
        · exact .inl (List.mem_append_left _ h4)
        · rcases k2 s h4 with h5 | h5
          · exact .inl (List.mem_append_right _ h5)
          · exact .inr h5
theorem IfD.inner {w W : World} {t i : Nat} {S : List Nat} {st : StI} {A' : Option Addr} {c' : Nat} {l' : List Loc} (h : IfD w t S st) (hi : i < st.1.length) (hT : Tch w W []) (hown : W.ownsRow w.heap.size 42 4 (.slice A' l'.length c') l'.length (l'.flatMap lcC)) (hinv : InvI (st.1, st.2.set i l')) :
    ∃ (gL cL : Nat) (S' : List Nat), W.cell? ⟨t, 1, none⟩ = some (.slice (some ⟨gL, 0, none⟩) st.1.length cL) ∧ W.frozen? ⟨gL, i, none⟩ = false ∧ (∃ u, W.cell? ⟨gL, i, none⟩ = some u) ∧
      IfD (W.setCell ⟨gL, i, none⟩ (.slice A' l'.length c')) t S' (st.1, st.2.set i l') ∧ Goes w (W.setCell ⟨gL, i, none⟩ (.slice A' l'.length c')) S S' := by
  have hlt := h.lt
  obtain ⟨AP, AL, cP, cL, lv, rfl, h2, h3, h4, h5, h6, h7, h8⟩ := h
  obtain ⟨gL, rfl⟩ := slice_some h5 (by omega)
  have eL : obI (.slice (some ⟨gL, 0, none⟩) st.1.length cL) = [gL] := obI_some rfl
  rw [eL] at h2 hlt ⊢
  have hv : ∀ s ∈ obI (.slice A' l'.length c'), w.heap.size ≤ s := by
    intro s hs
    unfold obI at hs
    cases hb : (Value.slice A' l'.length c').ownBlock with
    | none => rw [hb] at hs; cases hs
    | some k => rw [hb] at hs; rw [List.mem_singleton.1 hs]; exact own_basek hown k hb
  rw [List.nodup_cons, List.nodup_append, List.nodup_append] at h2
  obtain ⟨n1, n2, ⟨n3, n5, n6⟩, n4⟩ := h2
  have hltI : ∀ s ∈ lv.flatMap obI, s < w.heap.size := fun s hs => hlt s (List.mem_cons_of_mem _ (List.mem_append_right _ (List.mem_append_right _ hs)))
  obtain ⟨f1, f2⟩ := flat_set (i := i) (v := .slice A' l'.length c') n5 hltI hv
  have hgl : gL < w.heap.size := hlt gL (by simp)
  have tP : ∀ s ∈ obI (.slice AP st.1.length cP), s ∉ [gL] := fun s hs hm => n4 s hs gL (by simp) (List.mem_singleton.1 hm)
  have tt : t ∉ [gL] := fun hm => n1 (by rw [List.mem_singleton.1 hm]; simp)
  have tI : ∀ s ∈ lv.flatMap obI, s ∉ [gL] := fun s hs hm => n6 gL (by simp) s hs (List.mem_singleton.1 hm).symm
  have hTs : Tch W (W.setCell ⟨gL, i, none⟩ (.slice A' l'.length c')) [gL] := (Tch.refl W [gL]).set_ (p := ⟨gL, i, none⟩) (by simp) _
  have r5 := own_tch h5 hT (fun s _ => by simp)
  have hfr := own_frozen r5 i
  have hce := own_cell r5 (List.getElem?_eq_getElem (l := lv) (i := i) (by omega))
  have hlen := h8.len
  refine ⟨gL, cL, t :: (obI (.slice AP st.1.length cP) ++ ([gL] ++ (lv.set i (.slice A' l'.length c')).flatMap obI)), ((hT.blk h3 (by simp)).cell 1).trans rfl, hfr, ⟨_, hce⟩, ⟨AP, some ⟨gL, 0, none⟩, cP, cL, lv.set i (.slice A' l'.length c'), by rw [eL], ?_, hTs.blk (hT.blk h3 (by simp)) tt, own_tch (own_tch h4 hT (fun s _ => by simp)) hTs tP, own_set1 r5 hi _, by simp [h6], fun j l hl => ?_, hinv⟩, ⟨?_, fun s hs => ?_⟩⟩
  · rw [List.nodup_cons, List.nodup_append, List.nodup_append]
    refine ⟨fun hm => ?_, n2, ⟨n3, f1, fun a ha b hb e => ?_⟩, fun a ha b hb e => ?_⟩
    · rcases List.mem_append.1 hm with k | k
      · exact n1 (List.mem_append_left _ k)
      rcases List.mem_append.1 k with k | k
      · exact n1 (List.mem_append_right _ (List.mem_append_left _ k))
      · rcases f2 t k with k | k
        · exact n1 (List.mem_append_right _ (List.mem_append_right _ k))
        · have := hv t k; have := h3.lt; omega
    · rcases f2 b hb with k | k
      · exact n6 a ha b k e
      · have := hv b k; have := List.mem_singleton.1 ha; omega
    · rcases List.mem_append.1 hb with k | k
      · exact n4 a ha b (List.mem_append_left _ k) e
      · rcases f2 b k with k | k
        · exact n4 a ha b (List.mem_append_right _ k) e
        · have := hv b k
          have := hlt a (List.mem_cons_of_mem _ (List.mem_append_left _ ha))
          omega
  · by_cases hj : j = i
    · subst hj
      have hl : (st.2.set j l')[j]? = some l := hl
      rw [List.getElem?_set_self (by omega)] at hl
      injection hl with hl
      subst hl
      exact ⟨A', c', by rw [List.getElem?_set_self (by omega)], own_mono (own_tch hown hTs (fun s hs hm => by have := hv s hs; have := List.mem_singleton.1 hm; omega)) (Nat.zero_le _)⟩
    · have hl : (st.2.set i l')[j]? = some l := hl
      rw [List.getElem?_set_ne (fun e => hj e.symm)] at hl
      obtain ⟨A, c, e, ho⟩ := h7 j l hl
      exact ⟨A, c, by rw [List.getElem?_set_ne (fun e => hj e.symm)]; exact e, own_tch (own_tch ho hT (fun s _ => by simp)) hTs (fun s hs => tI s (List.mem_flatMap.2 ⟨_, List.mem_of_getElem? e, hs⟩))⟩
  · exact (hT.mono (by simp)).set_ (p := ⟨gL, i, none⟩) (by simp) _
  · rcases List.mem_cons.1 hs with k | k
    · exact .inl (by rw [k]; simp)
    rcases List.mem_append.1 k with k | k
    · exact .inl (List.mem_cons_of_mem _ (List.mem_append_left _ k))
    rcases List.mem_append.1 k with k | k
    · exact .inl (List.mem_cons_of_mem _ (List.mem_append_right _ (List.mem_append_left _ k)))
    · rcases f2 s k with k | k
      · exact .inl (List.mem_cons_of_mem _ (List.mem_append_right _ (List.mem_append_right _ k)))
      · exact .inr (hv s k)
end Go.Proofs.Ytabbclocgkhnhaa
