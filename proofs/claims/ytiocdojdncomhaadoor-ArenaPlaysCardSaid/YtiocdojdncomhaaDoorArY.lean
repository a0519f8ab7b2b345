/-
  The program's own arena (layer 10): how it lies in memory; what its map of taken blocks says; Taken, Order, Free, Greatest.
-/
import Derived.Test.YtiocdojdncomhaaDoorArX
import Derived.Test.YtiocdojdncomhaaDoorArT
import Derived.Maps.OwnSet
import Derived.Shelf.SlIterI.Nil
namespace Go.Proofs.YtiocdojdncomhaaDoor
open Go.RowKit Go.Maps
set_option linter.unusedVariables false

/-- What the map of taken blocks says. -/
structure MapIs (D : DataW Unit) (L : List Bl) : Prop where
  yes : ∀ b ∈ L, Maps.has D (.int .i64 (b.1 : Int)) = true ∧ D.atKey (.int .i64 (b.1 : Int)) (.lit (.int .i64 0)) = .lit (.int .i64 (b.2 : Int))
  no : ∀ p : Int, (∀ b ∈ L, (b.1 : Int) ≠ p) → Maps.has D (.int .i64 p) = false
theorem keyI (p : Int) : WideAt.IsKeyLit (.int .i64 p) := by simp [WideAt.IsKeyLit]
theorem lit_ne {p q : Int} (h : p ≠ q) : (Lit.int .i64 p) ≠ .int .i64 q := fun e => h (by injection e)
theorem MapIs.nil : MapIs (.map []) [] := ⟨(fun b hb => by cases hb), fun p _ => rfl⟩
theorem MapIs.put {D : DataW Unit} {L M : List Bl} {p o : Nat} (h : MapIs D L) (hD : IsMap D) (hM : ∀ x, x ∈ M ↔ x = (p, o) ∨ x ∈ L) (hn : ∀ b ∈ L, b.1 ≠ p) : MapIs (D.put (.int .i64 (p : Int)) (.lit (.int .i64 (o : Int)))) M := by
  refine ⟨fun b hb => ?_, fun q hq => ?_⟩
  · rcases (hM b).1 hb with e | e
    · subst e
      exact ⟨Maps.has_put_same hD (keyI _) _, Maps.atKey_put_same hD (keyI _) _ _⟩
    · have hne : (b.1 : Int) ≠ (p : Int) := fun e2 => hn b e (by omega)
      obtain ⟨h1, h2⟩ := h.yes b e
      exact ⟨by rw [Maps.has_put_other (lit_ne hne)]; exact h1, by rw [Maps.atKey_put_other (lit_ne hne)]; exact h2⟩
  · have hne : q ≠ (p : Int) := fun e => hq (p, o) ((hM _).2 (.inl rfl)) e.symm
    rw [Maps.has_put_other (lit_ne hne)]
    exact h.no q fun b hb => hq b ((hM b).2 (.inr hb))
theorem MapIs.del {D : DataW Unit} {L M : List Bl} {p : Nat} (h : MapIs D L) (hM : ∀ x, x ∈ M ↔ x ∈ L ∧ x.1 ≠ p) : MapIs (D.del (.int .i64 (p : Int))) M := by
  refine ⟨fun b hb => ?_, fun q hq => ?_⟩
  · obtain ⟨h1, h2⟩ := (hM b).1 hb
    have hne : (b.1 : Int) ≠ (p : Int) := by omega
    obtain ⟨h3, h4⟩ := h.yes b h1
    exact ⟨by rw [Maps.has_del_other (lit_ne hne)]; exact h3, by rw [Maps.atKey_del_other (lit_ne hne)]; exact h4⟩
  · by_cases e : q = (p : Int)
    · subst e; exact Maps.has_del_same
    · rw [Maps.has_del_other (lit_ne e)]
      refine h.no q fun b hb e2 => ?_
      exact hq b ((hM b).2 ⟨hb, fun e3 => e (by omega)⟩) e2
theorem row_nodup : ∀ {L : List Bl}, L.Pairwise (fun a b => a.1 + 2 ^ a.2 ≤ b.1) → (ats L).Pairwise (fun a b => a < b)
  | [], _ => by simp [ats]
  | b :: L, h => by
    obtain ⟨h1, h2⟩ := List.pairwise_cons.1 h
    have hb := two_pos b.2
    simp only [ats, List.map_cons, List.pairwise_cons]
    refine ⟨fun x hx => ?_, row_nodup h2⟩
    obtain ⟨c, hc, rfl⟩ := List.mem_map.1 hx
    have := h1 c hc
    omega
/-- The keys, sorted, are where the blocks begin. -/
theorem MapIs.sorted {D : DataW Unit} {L : List Bl} {O : Nat} {w : World} {R : Value → Option (DataW Unit × List MemPlace)} {bm n : Nat} (h : MapIs D L) (hI : InvA O L) (hown : w.ownsMap Tryd.prog 3 R bm n D) {ss : List Int} (hp : ss.Perm (intKeys D)) :
    ss.mergeSort (fun x y => decide (x ≤ y)) = ats L ∧ ss.length = L.length := by
  have K : Keyed Tryd.prog 3 := int_keyed Tryd.underlying3
  obtain ⟨es, hD, hpw, _⟩ := hown.entries K
  obtain ⟨es', hD', hko⟩ := hown.keysOf
  obtain rfl : es = es' := by rw [hD] at hD'; simpa using hD'
  subst hD
  have hr := row_nodup hI.row
  have hnd : (ats L).Nodup := hr.imp (fun {a b} hab => by omega)
  have hm : ∀ x, x ∈ ats L ↔ Maps.has (.map es) (.int .i64 x) = true := by
    intro x
    constructor
    · intro hx
      obtain ⟨b, hb, rfl⟩ := List.mem_map.1 hx
      exact (h.yes b hb).1
    · intro hx
      apply Classical.byContradiction
      intro hn
      rw [h.no x fun b hb e => hn (List.mem_map.2 ⟨b, hb, e⟩)] at hx
      cases hx
  have hq := perm_intKeys hpw (fun p hp => by obtain ⟨v, hv⟩ := hko p hp; obtain ⟨x, _, hx, _⟩ := Maps.keyOf_i64 Tryd.underlying3 hv; exact ⟨x, hx⟩) hnd hm
  have hpl : ss.Perm (ats L) := hp.trans hq.symm
  refine ⟨?_, by rw [hpl.length_eq]; simp [ats]⟩
  have e1 := mergeSort_of_perm_i hpl
  unfold leI at e1
  rw [e1]
  exact List.mergeSort_of_pairwise (hr.imp fun {a b} hab => by simp; omega)
theorem own_tight {w : World} {P : Program} {k : TypeId} {R : Value → Option (DataW Unit × List MemPlace)} {b n : Nat} {D : DataW Unit} (h : w.ownsMap P k R b n D) : w.ownsMap P k R b (Maps.size D) D := by
  obtain ⟨es, clock, hb, F, hs, rfl⟩ := h
  exact ⟨es, clock, hb, F, by simp [Maps.size, length_sorted], rfl⟩
/-- Nothing else than three blocks has turned. -/
structure Tou (w w' : World) (r bm bn : Nat) : Prop where
  os : w'.os = w.os
  tape : w'.tape = w.tape
  output : w'.output = w.output
  size : w.heap.size ≤ w'.heap.size
  block : ∀ k, k < w.heap.size → k ≠ r → k ≠ bm → k ≠ bn → w'.heap[k]? = w.heap[k]?
theorem Tou.below {w w' : World} {r bm bn B : Nat} (h : Tou w w' r bm bn) (hB : B ≤ w.heap.size) (h1 : B ≤ r) (h2 : B ≤ bm) (h3 : B ≤ bn) : Below B w w' := ⟨h.os, h.tape, h.output, h.size, fun k hk => h.block k (by omega) (by omega) (by omega) (by omega)⟩
theorem Tou.of_below {w w' : World} (r bm bn : Nat) (h : Below w.heap.size w w') : Tou w w' r bm bn := ⟨h.os, h.tape, h.output, h.size, fun k hk _ _ _ => h.block k hk⟩
theorem Tou.trans {w w' w'' : World} {r bm bn : Nat} (h : Tou w w' r bm bn) (k : Tou w' w'' r bm bn) : Tou w w'' r bm bn :=
  ⟨k.os.trans h.os, k.tape.trans h.tape, k.output.trans h.output, Nat.le_trans h.size k.size, fun i hi a b c => (k.block i (Nat.lt_of_lt_of_le hi h.size) a b c).trans (h.block i hi a b c)⟩
theorem Tou.of_grown {w w' : World} {r bm bn x : Nat} (h : w.grownBy w' (some x)) (hx : x = r ∨ x = bm ∨ x = bn) : Tou w w' r bm bn :=
  ⟨h.os, h.tape, h.output, h.size, fun k hk a b c => h.block k hk (fun e => by injection e with e; subst e; rcases hx with e2 | e2 | e2 <;> omega)⟩
/-- An arena of 2^N cells in memory, of which L are taken. -/
def ArP (w : World) (r bm bn N : Nat) (L : List Bl) : Prop := ∃ (f : Nat → Nat) (D : DataW Unit),
  Blk w r 54 #[.int .i64 (N : Int), .map (some bm), .int .i64 (N : Int), .slice (some ⟨bn, 0, none⟩) (2 ^ (N + 1)) (2 ^ (N + 1)), .int .i64 ((2 ^ N - sumB L : Nat) : Int)] ∧
  Blk w bn 69 (nds N f) ∧ w.ownsMap Tryd.prog 3 (plainElem Tryd.prog 3) bm (Maps.size D) D ∧ TrO N L f N 0 ∧ MapIs D L ∧ InvA N L
theorem ArP.lt {w : World} {r bm bn N : Nat} {L : List Bl} (h : ArP w r bm bn N L) : r < w.heap.size ∧ bm < w.heap.size ∧ bn < w.heap.size := by
  obtain ⟨f, D, h1, h2, h3, -⟩ := h
  exact ⟨h1.lt, h3.lt, h2.lt⟩
theorem ArP.inv {w : World} {r bm bn N : Nat} {L : List Bl} (h : ArP w r bm bn N L) : InvA N L := by
  obtain ⟨f, D, -, -, -, -, -, h1⟩ := h
  exact h1
theorem ArP.ne {w : World} {r bm bn N : Nat} {L : List Bl} (h : ArP w r bm bn N L) : r ≠ bm ∧ r ≠ bn ∧ bm ≠ bn := by
  obtain ⟨f, D, h1, h2, h3, -⟩ := h
  obtain ⟨es, clock, h4, -⟩ := h3
  unfold Blk at h1 h2
  refine ⟨?_, ?_, ?_⟩
  · intro e; subst e; rw [h1] at h4; cases h4
  · intro e; subst e; rw [h1] at h2; injection h2 with e; injection e with e1 e2; cases e2
  · intro e; subst e; rw [h2] at h4; cases h4
theorem ArP.kept {w w' : World} {r bm bn N : Nat} {L : List Bl} (h : ArP w r bm bn N L) (hr : w'.heap[r]? = w.heap[r]?) (hm : w'.heap[bm]? = w.heap[bm]?) (hn : w'.heap[bn]? = w.heap[bn]?) : ArP w' r bm bn N L := by
  obtain ⟨f, D, h1, h2, h3, h4⟩ := h
  obtain ⟨es, clock, h5, h6⟩ := h3
  exact ⟨f, D, by unfold Blk; rw [hr]; exact h1, by unfold Blk; rw [hn]; exact h2, ⟨es, clock, by rw [hm]; exact h5, h6⟩, h4⟩
theorem ArP.below {w w' : World} {r bm bn N : Nat} {L : List Bl} (h : ArP w r bm bn N L) (hb : Below w.heap.size w w') : ArP w' r bm bn N L := by
  obtain ⟨a, b, c⟩ := h.lt
  exact h.kept (hb.block r a) (hb.block bm b) (hb.block bn c)
theorem ArP.far {w w' : World} {r bm bn N r' bm' bn' : Nat} {L : List Bl} (h : ArP w r bm bn N L) (ht : Tou w w' r' bm' bn') (h1 : r ≠ r' ∧ r ≠ bm' ∧ r ≠ bn') (h2 : bm ≠ r' ∧ bm ≠ bm' ∧ bm ≠ bn') (h3 : bn ≠ r' ∧ bn ≠ bm' ∧ bn ≠ bn') : ArP w' r bm bn N L := by
  obtain ⟨a, b, c⟩ := h.lt
  exact h.kept (ht.block r a h1.1 h1.2.1 h1.2.2) (ht.block bm b h2.1 h2.2.1 h2.2.2) (ht.block bn c h3.1 h3.2.1 h3.2.2)
theorem row_len {N : Nat} {L : List Bl} (hI : InvA N L) : L.length ≤ sumB L := by
  clear hI
  induction L with
  | nil => simp [sumB]
  | cons b L ih =>
    rw [sumB_cons, List.length_cons]
    have := two_pos b.2
    omega
theorem inv_sml {N : Nat} {L : List Bl} (hN : N ≤ 16) (hI : InvA N L) : Sml L := by
  have h1 := sumB_le hI
  have h2 := row_len hI
  have h3 := (pow16 hN).2
  refine ⟨by omega, fun b hb => ?_⟩
  obtain ⟨h4, h5⟩ := hI.each b hb
  have h6 := two_pos b.2
  have h7 : b.2 ≤ N := by
    apply Nat.le_of_not_lt
    intro hlt
    have := Nat.pow_lt_pow_right (a := 2) (by decide) hlt
    omega
  exact ⟨by omega, by omega⟩
theorem MapIs.size {D : DataW Unit} {L : List Bl} {O : Nat} {w : World} {R : Value → Option (DataW Unit × List MemPlace)} {bm n : Nat} (h : MapIs D L) (hI : InvA O L) (hown : w.ownsMap Tryd.prog 3 R bm n D) : Maps.size D = L.length := by
  have h1 := (h.sorted hI hown (ss := intKeys D) (List.Perm.refl _)).2
  rw [← h1]
  obtain ⟨es, hD, -⟩ := hown.entries (int_keyed Tryd.underlying3)
  subst hD
  simp [Maps.size, intKeys]
theorem taken_sortsA (m : Nat) : AnyZI.SortsIn Tryd.prog Tryd.sortedA_ren Fence.wide m :=
  ⟨fun blk off cap ss W hH hblk hsz => callsIn_wide.2 (Tryd.slices_Sort_int blk off cap ss W hH hblk hsz),
   fun p cap W => callsIn_wide.2 (Tryd.slices_Sort_int_none p cap W)⟩
set_option maxRecDepth 100000 in
set_option maxHeartbeats 4000000 in
theorem ptaken_any (r bm bn N : Nat) (hN : N ≤ 16) (L : List Bl) (w : World) (h : ArP w r bm bn N L) :
    Calls Tryd.prog 20 #[.pointer (some ⟨r, 0, none⟩)] w fun e w' => ∃ v, e = .returned v ∧ w'.ownsRow w.heap.size 3 1 v L.length ((ats L).map (Value.int .i64)) ∧ Below w.heap.size w w' := by
  obtain ⟨f, D, h1, h2, hown, h4, h5, hI⟩ := h
  have hsm := inv_sml hN hI
  have hsz := h5.size hI hown
  have hmax : Maps.size D ≤ maxLen := by unfold maxLen; have := hsm.1; omega
  have hbytes : Maps.size D * 8 ≤ 140737488355328 := by have := hsm.1; omega
  have c1 := (h1.cell 1).trans (show _ = some (Value.map (some bm)) by rfl)
  refine (callsIn_wide (n := 6)).1 ?_
  have hbl := hown.lt
  have hseq : SeqGives Fence.wide 2 Tryd.prog 45 #[.pointer (some ⟨w.heap.size, 0, none⟩)] encZ (fun ss => ss.Perm (intKeys D)) (Maps.size D) (w.alloc (.cells #[.map (some bm)] 48)) :=
    AnyZI.keys_gives (ρ := Tryd.keysA_ren) { Tryd.keysA with } Fence.wide _ trivial rfl (by omega) w.heap.size bm (Maps.size D) D _ (by simp) (by simp) (by
      obtain ⟨es, clock, hb, Ft, hs, hD⟩ := hown
      exact ⟨es, clock, (Below.heap_alloc _ _ bm hbl).trans hb, Ft, hs, hD⟩)
  have cK : ∀ mb W, CallsIn Fence.wide 5 Tryd.prog 35 #[.map mb] W fun e w' => e = .returned (.func (.func 45) #[] #[.pointer (some ⟨W.heap.size, 0, none⟩)]) ∧ w' = W.alloc (.cells #[.map mb] 48) := fun mb W => AnyZI.keys_in Tryd.keysA Fence.wide 5 trivial rfl mb W
  have cS := AnyZI.sorted_in Tryd.sortedA Fence.wide 5 trivial trivial trivial trivial rfl (by omega) (taken_sortsA _) (enters_of Tryd.func44 (by kernel_rfl) rfl) 45 #[.pointer (some ⟨w.heap.size, 0, none⟩)] trivial (enters_of Tryd.func45 (by kernel_rfl) rfl) _ _ hmax hbytes _ hseq
  change CallsIn _ _ Tryd.prog 34 _ _ _ at cS
  have hfK : Fence.wide.fn 35 := trivial
  have hfS : Fence.wide.fn 34 := trivial
  have HM : Hid (∀ ss : List Int, ss.Perm (intKeys D) → ss.mergeSort (fun x y => decide (x ≤ y)) = ats L ∧ ss.length = L.length) := Lib.hid (fun ss hp => h5.sorted hI hown hp)
  clear h1 h2 h4 h5 hI hown hsz hsm hmax hbytes hseq
  refine callsIn_of_wp Tryd.func20 rfl trivial ?_ rfl
  simp only [Tryd.ntmps20, List.size_toArray, List.length_cons, List.length_nil, Nat.reduceAdd, Nat.reduceSub, Array.replicate_succ, Array.replicate_zero, List.push_toArray, List.append_toArray, List.nil_append, List.cons_append]
  gi_wp2_with (first
    | (gi_at_call 35; refine (cK _ _).mono ?_; rintro e w' ⟨rfl, rfl⟩)
    | (gi_at_call 34; refine cS.mono ?_; rintro e w' ⟨v, ss, rfl, hS, hrow, hnil, hb⟩))
  go_ret
  obtain ⟨e1, e2⟩ := HM.out ss hS
  rw [e1, e2] at hrow
  exact ⟨v, rfl, ownsRow_base_a hrow (by simp), ((Below.refl _ w).alloc (Nat.le_refl _) _).trans (hb.mono (by simp))⟩
end Go.Proofs.YtiocdojdncomhaaDoor
