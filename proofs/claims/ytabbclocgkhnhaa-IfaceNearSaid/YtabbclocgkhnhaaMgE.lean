/-
  Several texts in one: IpP, IpQ, IfI.
-/
import Derived.Test.YtabbclocgkhnhaaMgA
import Derived.Laws.Externs
import Derived.MapKept
import Derived.Test.YtabbclocgkhnhaaMgD
import Derived.Test.YtabbclocgkhnhaaMgH
import Derived.Test.YtabbclocgkhnhaaMgB
import Derived.Test.YtabbclocgkhnhaaMgC

namespace Go.Proofs.Ytabbclocgkhnhaa
open Go.RowKit Go.Maps
set_option linter.unusedVariables false

theorem eq_map_in {P : Program} (d : Nat) (t k e : TypeId) (p : Option Nat) (h : P.underlying t = some (.map k e)) (w : World) : (Op.equalIn (d + 1) t (.map p) (.map none)).run P w = .ok p.isNone w := by
  cases p <;> simp [Op.equalIn, run_underlying h]
theorem eq_map_nil {P : Program} (t k e : TypeId) (p : Option Nat) (h : P.underlying t = some (.map k e)) (w : World) : (binOp .eql t (.map p) (.map none)).run P w = .ok (.bool p.isNone) w := by
  have h1 := eq_map_in (P := P) 9999 t k e p h w
  simp only [binOp]
  simp [show Op.equal t (.map p) (.map none) = Op.equalIn (9999 + 1) t (.map p) (.map none) from rfl, h1]
theorem run_mclone {P : Program} (w : World) {r : Nat} {es : Array MapEntry} {clock : Nat} (t : TypeId) (hb : w.heap[r]? = some (.map es clock)) :
    (Extern.MapsClone.clone #[.iface t (.map (some r))]).run P w = .ok (.iface t (.map (some w.heap.size))) (w.alloc (.map es clock)) := by
  have e : Extern.MapsClone.clone #[.iface t (.map (some r))] = (getObj r >>= fun o => match o with
      | .map entries clock => (newObj (.map entries clock) >>= fun n => pure (.iface t (.map (some n))))
      | _ => stuck "maps.clone: a map expected") := rfl
  rw [e]
  simp [MapKept.run_getObj_map hb, Result.andThen, go_sem]
theorem assert_map {P : Program} (w : World) (t xT k e : TypeId) (v : Value) (h : P.underlying t = some (.map k e)) : (Instr.typeAssert (.iface t v) xT t false).run P w = .ok v w := by
  simp [Instr.typeAssert, run_underlying h, go_sem, Result.andThen]
set_option maxRecDepth 100000 in
set_option maxHeartbeats 2000000 in
theorem mclone_any (m n : Nat) (D : DataW Unit) (w : World) (h : w.ownsMap Try.prog 9 (plainElem Try.prog 3) m n D) :
    Calls Try.prog 47 #[.map (some m)] w fun e w' => e = .returned (.map (some w.heap.size)) ∧ w'.ownsMap Try.prog 9 (plainElem Try.prog 3) w.heap.size n D ∧ Below w.heap.size w w' ∧ w'.heap.size = w.heap.size + 1 := by
  have hlt := h.lt
  obtain ⟨es, clock, hb, F, hs, hD⟩ := h
  have hq := fun w => eq_map_nil 60 _ _ (some m) Try.underlying60 w
  have hB : Below w.heap.size w (w.alloc (.map es clock)) := (Below.refl _ w).alloc (Nat.le_refl _) _
  have HO : Hid ((w.alloc (.map es clock)).ownsMap Try.prog 9 (plainElem Try.prog 3) w.heap.size n D ∧ Below w.heap.size w (w.alloc (.map es clock)) ∧ (w.alloc (.map es clock)).heap.size = w.heap.size + 1) := Lib.hid ⟨⟨es, clock, (MapKept.heap_alloc w _).1, F, hs, hD⟩, hB, by simp⟩
  clear F hs hD hB hlt
  go_enter Try.func47, Try.ntmps47
  go_wp2
  rw [run_callFunc_extern Try.func62 (by kernel_rfl) (by kernel_rfl) (by kernel_rfl) (e := Extern.MapsClone.clone) (by kernel_rfl), run_mclone w 60 hb]
  simp only [Result.andThen]
  rw [Oper.upon_value]
  go_wp2
  rw [assert_map _ 60 _ _ _ _ Try.underlying60]
  simp only [Result.andThen]
  rw [Oper.upon_value]
  go_wp2
  go_ret
  exact ⟨rfl, HO.out⟩
set_option maxRecDepth 100000 in
set_option maxHeartbeats 1000000 in
/-- slices.Clone of the ports. -/
theorem clone_mm (A : Option Addr) (n c : Nat) (xs : List Value) (h1 : ∀ u ∈ xs, u.oneCell' = true) (hn : n ≤ 1000) (w : World) (h : w.ownsRow 0 74 5 (.slice A n c) n xs) :
    Calls Try.prog 46 #[.slice A n c] w fun e w' => ∃ A' c', e = .returned (.slice A' n c') ∧ w'.ownsRow w.heap.size 74 5 (.slice A' n c') n xs ∧ Tch w w' [] := by
  cases A with
  | none =>
    obtain ⟨rfl, rfl⟩ := own_none h
    have q : ∀ (w : World), (binOp .eql 61 (.slice none 0 0) (.slice none 0 0)).run Try.prog w = .ok (.bool true) w := fun w => Lib.run_eql_slice_nil w _ _ none 0 0 0 0 Try.underlying61
    have h2 : xs = [] := List.eq_nil_of_length_eq_zero (by rw [h.1])
    subst h2
    clear h hn h1
    go_enter Try.func46, Try.ntmps46
    go_wp2
    go_ret
    exact ⟨none, 0, rfl, ⟨rfl, .inl ⟨rfl, rfl⟩⟩, Tch.refl _ _⟩
  | some ad =>
    have q : ∀ (w : World), (binOp .eql 61 (.slice (some ad) n c) (.slice none 0 0)).run Try.prog w = .ok (.bool false) w := fun w => Lib.run_eql_slice_nil w _ _ (some ad) n c 0 0 Try.underlying61
    have HM0 : Hid ((w.alloc (.cells #[] 74)).ownsRow w.heap.size 74 5 (.slice (some ⟨w.heap.size, 0, none⟩) 0 0) 0 []) := Lib.hid (World.ownsRow_made w #[] 0 (Nat.le_refl _) (Nat.zero_le _) rfl)
    have HR := Lib.hid (h.alloc (.cells #[] 74))
    have HS : Hid (0 + n ≤ 1000000) := Lib.hid (by omega)
    have H1 := Lib.hid h1
    clear h hn h1
    go_enter Try.func46, Try.ntmps46
    go_wp2_with (at_builtin; (refine wpList_apm 61 74 (.agg #[.string ⟨#[]⟩, .int .u64 0, .int .i64 0, .bool false, .slice none 0 0]) 5 64 Try.underlying61 infoMm rfl (by decide) (by decide) _ rfl (.tmp 5) (.tmp 6) rfl w.heap.size (.slice (some ⟨w.heap.size, 0, none⟩) 0 0) 0 [] rfl HM0.out 0 (.slice (some ad) n c) n xs rfl HR.out H1.out HS.out (by simp) ?_; intro v9 w5 hown hg hv; have hT5 : Tch w w5 [] := (((Tch.refl w []).alloc _).trans_fre (Tch.of_grown' (S := [w.heap.size]) hg (fun g e => by simp [Value.ownBlock] at e; simp [e])) (by simp)); have HT5 := Lib.hid hT5; have HO5 := Lib.hid hown; clear hown hg hv hT5))
    go_ret
    obtain ⟨A', c', e, -, -⟩ := own_sl HO5.out
    rw [Nat.zero_add] at e
    subst e
    exact ⟨A', c', rfl, by have := HO5.out; rw [Nat.zero_add] at this; simpa using this, HT5.out⟩
theorem mm_one {P : List Prt} {lv : List Value} (hv : ∀ v ∈ lv, v.oneCell' = true) : ∀ u ∈ mmC P lv, u.oneCell' = true := by
  intro u hu
  unfold mmC at hu
  obtain ⟨⟨q, v⟩, hx, hu⟩ := List.mem_flatMap.1 hu
  have h2 := hv v (List.of_mem_zip hx).2
  simp [prC] at hu
  rcases hu with rfl | rfl | rfl | rfl | rfl
  · rfl
  · rfl
  · rfl
  · rfl
  · exact h2
end Go.Proofs.Ytabbclocgkhnhaa

namespace Go.Proofs.Ytabbclocgkhnhaa
open Go.RowKit Go.Maps
set_option linter.unusedVariables false

theorem own_geI {w : World} {base e size n : Nat} {v : Value} {xs : List Value} (h : w.ownsRow base e size v n xs) : ∀ s ∈ obI v, base ≤ s ∧ s < w.heap.size := by
  intro s hs
  unfold obI at hs
  cases hb : v.ownBlock with
  | none => rw [hb] at hs; cases hs
  | some k => rw [hb] at hs; rw [List.mem_singleton.1 hs]; exact h.lt k hb
/-- What Copy has made after k ports: the first k rows are its own. -/
structure CqI (w wr : World) (d m2 : Nat) (A2 : Option Addr) (c2 n : Nat) (st : StI) (lv0 : List Value) (k : Nat) (lvk : List Value) : Prop where
  blk : Blk wr d 63 #[.slice A2 n c2, .map (some m2)]
  row : wr.ownsRow 0 74 5 (.slice A2 n c2) n (mmC st.1 lvk)
  mp : ∃ D, wr.ownsMap Try.prog 9 (plainElem Try.prog 3) m2 n D ∧ NmIs D st.1
  len : lvk.length = n
  old : ∀ i, k ≤ i → lvk[i]? = lv0[i]?
  new : ∀ (i : Nat) (l : List Loc), i < k → st.2[i]? = some l → ∃ A c, lvk[i]? = some (.slice A l.length c) ∧ wr.ownsRow 0 42 4 (.slice A l.length c) l.length (l.flatMap lcC)
  nd : (d :: m2 :: (obI (.slice A2 n c2) ++ (lvk.take k).flatMap obI)).Nodup
  ge : ∀ s ∈ d :: m2 :: (obI (.slice A2 n c2) ++ (lvk.take k).flatMap obI), w.heap.size ≤ s ∧ s < wr.heap.size
  tch : Tch w wr []
theorem CqI.step {w wr w5 : World} {d m2 g2 c2 n k : Nat} {st : StI} {lv0 lvk : List Value} (h : CqI w wr d m2 (some ⟨g2, 0, none⟩) c2 n st lv0 k lvk) (hn : st.1.length = n) (hk : k < n) {l : List Loc} (hl : st.2[k]? = some l) {v0 : Value} (hv0 : lv0[k]? = some v0)
    (hT : Tch wr w5 []) {A' : Option Addr} {c' m : Nat} (hm : l.length = m) (hown : w5.ownsRow wr.heap.size 42 4 (.slice A' m c') m (l.flatMap lcC)) :
    (∃ u, w5.cell? ⟨g2, k * 5 + 4, none⟩ = some u) ∧ w5.frozen? ⟨g2, k * 5 + 4, none⟩ = false ∧ CqI w (w5.setCell ⟨g2, k * 5 + 4, none⟩ (.slice A' m c')) d m2 (some ⟨g2, 0, none⟩) c2 n st lv0 (k + 1) (lvk.set k (.slice A' m c')) := by
  subst hm
  obtain ⟨q, hq⟩ : ∃ q, st.1[k]? = some q := ⟨_, List.getElem?_eq_getElem (by omega)⟩
  have hvk : lvk[k]? = some v0 := (h.old k (Nat.le_refl _)).trans hv0
  have ob0 : obI (.slice (some ⟨g2, 0, none⟩) n c2) = [g2] := rfl
  have hnd := h.nd
  have hge := h.ge
  rw [ob0] at hnd hge
  rw [List.nodup_cons, List.nodup_cons, List.singleton_append, List.nodup_cons] at hnd
  obtain ⟨n1, n2, n3, n4⟩ := hnd
  have hdg : d ≠ g2 := fun x => n1 (by simp [x])
  have hmg : m2 ≠ g2 := fun x => n2 (by simp [x])
  have gv := own_geI hown
  have hTs : Tch w5 (w5.setCell ⟨g2, k * 5 + 4, none⟩ (.slice A' l.length c')) [g2] := (Tch.refl w5 [g2]).set_ (p := ⟨g2, k * 5 + 4, none⟩) (by simp) _
  have r5 := own_tch h.row hT (fun s _ => by simp)
  have x5 := own_cellN r5 ((mm_at (k := 4) hq hvk (by decide)).trans rfl)
  have fz : w5.frozen? ⟨g2, k * 5 + 4, none⟩ = false := by
    rcases r5.2 with ⟨e, -⟩ | ⟨g', cap, cur, e, -, hb, -⟩
    · cases e
    · injection e with e2
      injection e2 with e2
      injection e2 with e2
      subst e2
      exact Blk.frozen hb _
  have hset := own_setN r5 (i := k * 5 + 4) (by omega) (.slice A' l.length c')
  rw [mm_set (p' := q) (v' := .slice A' l.length c') (by rw [h.len, hn]) hq hvk (by decide) rfl, set_same hq] at hset
  have htk : (lvk.set k (.slice A' l.length c')).take (k + 1) = lvk.take k ++ [.slice A' l.length c'] := by
    rw [List.take_add_one, List.getElem?_set_self (by rw [h.len]; exact hk)]
    congr 1
    rw [List.take_set_of_le (Nat.le_refl _)]
  have hfm : (lvk.take k ++ [Value.slice A' l.length c']).flatMap obI = (lvk.take k).flatMap obI ++ obI (.slice A' l.length c') := by simp
  have hin : ∀ (i : Nat) (v : Value), i < k → lvk[i]? = some v → ∀ s ∈ obI v, s ∈ (lvk.take k).flatMap obI := fun i v hi hv s hs => List.mem_flatMap.2 ⟨v, List.mem_of_getElem? (i := i) (by rw [List.getElem?_take, if_pos hi]; exact hv), hs⟩
  have hsz : (w5.setCell ⟨g2, k * 5 + 4, none⟩ (.slice A' l.length c')).heap.size = w5.heap.size := World.size_setCell ..
  have hs5 := hT.size
  have htw := h.tch.size
  refine ⟨⟨_, x5⟩, fz, ⟨hTs.blk (hT.blk h.blk (by simp)) (by simpa using hdg), hset, ?_, by simp [h.len], fun i hi => ?_, fun i l2 hi hj => ?_, ?_, fun s hs => ?_, ?_⟩⟩
  · obtain ⟨D, hM, hN⟩ := h.mp
    exact ⟨D, map_tch (map_tch hM hT (by simp)) hTs (by simpa using hmg), hN⟩
  · rw [List.getElem?_set_ne (by omega)]
    exact h.old i (by omega)
  · by_cases hik : i = k
    · subst hik
      rw [hl] at hj
      injection hj with hj
      subst hj
      refine ⟨A', c', by rw [List.getElem?_set_self (by rw [h.len]; exact hk)], own_mono (own_tch hown hTs (fun s hs hm => ?_)) (Nat.zero_le _)⟩
      have h1 := List.mem_singleton.1 hm
      have h2 := gv s hs
      have h3 := hge g2 (by simp)
      omega
    · obtain ⟨A2, c3, e2, ho2⟩ := h.new i l2 (by omega) hj
      refine ⟨A2, c3, by rw [List.getElem?_set_ne (fun e => hik e.symm)]; exact e2, own_tch (own_tch ho2 hT (fun s _ => by simp)) hTs (fun s hs hm => n3 ?_)⟩
      rw [List.mem_singleton.1 hm] at hs
      exact hin i _ (by omega) e2 _ hs
  · rw [htk, hfm, ob0, List.nodup_cons, List.nodup_cons, List.singleton_append, List.nodup_cons, List.nodup_append]
    have hfr : ∀ s ∈ obI (.slice A' l.length c'), wr.heap.size ≤ s := fun s hs => (gv s hs).1
    have hlt : ∀ s ∈ (lvk.take k).flatMap obI, s < wr.heap.size := fun s hs => (hge s (List.mem_cons_of_mem _ (List.mem_cons_of_mem _ (List.mem_append_right _ hs)))).2
    have ld := (hge d (by simp)).2
    have lm := (hge m2 (by simp)).2
    have lg := (hge g2 (by simp)).2
    refine ⟨fun hm => ?_, fun hm => ?_, fun hm => ?_, n4, obI_nodup _, fun a ha b hb e => ?_⟩
    · rcases List.mem_cons.1 hm with k1 | k1
      · exact n1 (by rw [k1]; simp)
      rcases List.mem_cons.1 k1 with k1 | k1
      · exact hdg k1
      rcases List.mem_append.1 k1 with k1 | k1
      · exact n1 (List.mem_cons_of_mem _ (List.mem_cons_of_mem _ k1))
      · have := hfr d k1; omega
    · rcases List.mem_cons.1 hm with k1 | k1
      · exact hmg k1
      rcases List.mem_append.1 k1 with k1 | k1
      · exact n2 (List.mem_cons_of_mem _ k1)
      · have := hfr m2 k1; omega
    · rcases List.mem_append.1 hm with k1 | k1
      · exact n3 k1
      · have := hfr g2 k1; omega
    · have := hlt a ha
      have := hfr b hb
      omega
  · rw [htk, hfm, ob0] at hs
    rw [hsz]
    rcases List.mem_cons.1 hs with k1 | k1
    · have := hge d (by simp); subst k1; omega
    rcases List.mem_cons.1 k1 with k1 | k1
    · have := hge m2 (by simp); subst k1; omega
    rcases List.mem_append.1 k1 with k1 | k1
    · have := hge g2 (by simp); rw [List.mem_singleton.1 k1]; omega
    rcases List.mem_append.1 k1 with k1 | k1
    · have := hge s (List.mem_cons_of_mem _ (List.mem_cons_of_mem _ (List.mem_append_right _ k1))); omega
    · have := gv s k1; omega
  · exact (h.tch.trans hT).trans_fre hTs (fun t ht => .inr (by rw [List.mem_singleton.1 ht]; exact (hge g2 (by simp)).1))
theorem CqI.done {w wr : World} {d m2 c2 n : Nat} {A2 : Option Addr} {st : StI} {lv0 lvk : List Value} (h : CqI w wr d m2 A2 c2 n st lv0 n lvk) (hn : st.1.length = n) (hI : InvI st) : IfP wr d (d :: m2 :: (obI (.slice A2 n c2) ++ lvk.flatMap obI)) st ∧ ∀ s ∈ d :: m2 :: (obI (.slice A2 n c2) ++ lvk.flatMap obI), w.heap.size ≤ s := by
  subst hn
  have ht : lvk.take st.1.length = lvk := List.take_of_length_le (Nat.le_of_eq h.len)
  obtain ⟨D, hM, hN⟩ := h.mp
  have hnd := h.nd
  have hge := h.ge
  rw [ht] at hnd hge
  refine ⟨⟨A2, c2, m2, lvk, D, rfl, hnd, h.blk, h.row, hM, hN, h.len, fun i l hl => ?_, hI⟩, fun s hs => (hge s hs).1⟩
  exact h.new i l (by have := (List.getElem?_eq_some_iff.1 hl).1; rw [hI.len]; exact this) hl
theorem CqI.start {w w1 w2 : World} {m2 c2 n : Nat} {A2 : Option Addr} {st : StI} {lv0 : List Value} {D : DataW Unit} (hT1 : Tch w w1 []) (hrow : w1.ownsRow w.heap.size 74 5 (.slice A2 n c2) n (mmC st.1 lv0)) (hlen : lv0.length = n) (hm2 : m2 = w1.heap.size) (hM : w2.ownsMap Try.prog 9 (plainElem Try.prog 3) m2 n D) (hN : NmIs D st.1) (hb : Below w1.heap.size w1 w2) (hsz : w2.heap.size = w1.heap.size + 1) :
    CqI w (w2.alloc (.cells #[.slice A2 n c2, .map (some m2)] 63)) w2.heap.size m2 A2 c2 n st lv0 0 lv0 := by
  have hT2 := Tch.of_below [] hb
  have hg := own_geI hrow
  have hs1 := hT1.size
  refine ⟨Blk.new _ _ _, (own_mono (own_tch hrow hT2 (fun s _ => by simp)) (Nat.zero_le _)).alloc _, ⟨D, hM.alloc _, hN⟩, hlen, fun _ _ => rfl, fun i l hi => absurd hi (by omega), ?_, fun s hs => ?_, (hT1.trans hT2).alloc _⟩
  · rw [List.take_zero, List.flatMap_nil, List.append_nil, List.nodup_cons, List.nodup_cons]
    refine ⟨fun hm => ?_, fun hm => ?_, obI_nodup _⟩
    · rcases List.mem_cons.1 hm with k | k
      · omega
      · have := hg _ k; omega
    · have := hg _ hm; omega
  · rw [List.take_zero, List.flatMap_nil, List.append_nil] at hs
    rw [World.size_alloc]
    rcases List.mem_cons.1 hs with k | k
    · omega
    rcases List.mem_cons.1 k with k | k
    · omega
    · have := hg _ k; omega
set_option maxRecDepth 100000 in
set_option maxHeartbeats 4000000 in
theorem copyP (p : Nat) (S : List Nat) (st : StI) (w : World) (h : IfP w p S st) :
    Calls Try.prog 20 #[.pointer (some ⟨p, 0, none⟩)] w fun e w' => ∃ d S', e = .returned (.pointer (some ⟨d, 0, none⟩)) ∧ IfP w' d S' st ∧ IfP w' p S st ∧ Tch w w' S ∧ ∀ s ∈ S', w.heap.size ≤ s := by
  have HP := Lib.hid h
  have HI := Lib.hid h.inv
  have hf := h.few
  obtain ⟨AM, cM, m, lv, D, hS, -, h3, h4, h5, h6, h7, h8, -⟩ := h
  obtain ⟨n, hn⟩ : ∃ n, st.1.length = n := ⟨_, rfl⟩
  rw [hn] at h3 h4 h5 h7 hf
  have HN := Lib.hid hn
  have HB := Lib.hid h3
  have HM := Lib.hid h5
  have HNm := Lib.hid h6
  have HRows := Lib.hid h8
  have HLen := Lib.hid h7
  have HRow : Hid (∀ W, Tch w W [] → W.ownsRow 0 74 5 (.slice AM n cM) n (mmC st.1 lv)) := Lib.hid (fun W hT => own_tch h4 hT (by simp))
  have hone : ∀ v ∈ lv, v.oneCell' = true := by
    intro v hv
    obtain ⟨i, hi⟩ := List.mem_iff_getElem?.1 hv
    have hil := (List.getElem?_eq_some_iff.1 hi).1
    obtain ⟨A, c, e, -⟩ := h8 i _ (List.getElem?_eq_getElem (by rw [← HI.out.len]; omega))
    rw [hi] at e
    injection e with e
    subst e
    rfl
  have HCl : Hid (∀ W, Tch w W [] → Calls Try.prog 46 #[.slice AM n cM] W fun e w' => ∃ A' c', e = .returned (.slice A' n c') ∧ w'.ownsRow W.heap.size 74 5 (.slice A' n c') n (mmC st.1 lv) ∧ Tch W w' []) := Lib.hid (fun W hT => clone_mm AM n cM (mmC st.1 lv) (mm_one hone) (by omega) W (HRow.out W hT))
  have HMc : Hid (∀ W, Tch w W [] → Calls Try.prog 47 #[.map (some m)] W fun e w' => e = .returned (.map (some W.heap.size)) ∧ w'.ownsMap Try.prog 9 (plainElem Try.prog 3) W.heap.size n D ∧ Below W.heap.size W w' ∧ w'.heap.size = W.heap.size + 1) := Lib.hid (fun W hT => mclone_any m n D W (map_tch HM.out hT (by simp)))
  have HCells : Hid (∀ W, Tch w W [] → W.cell? ⟨p, 0, none⟩ = some (.slice AM n cM) ∧ W.cell? ⟨p, 1, none⟩ = some (.map (some m))) := Lib.hid (fun W hT => ⟨((hT.blk HB.out (by simp)).cell 0).trans rfl, ((hT.blk HB.out (by simp)).cell 1).trans rfl⟩)
  have HX := Lib.hid (HCells.out w (Tch.refl _ _))
  have HTd : Hid (Tch w w.drew []) := Lib.hid (Tch.refl w []).drew
  clear hS h3 h4 h5 h6 h7 h8 hone hn
  go_enter Try.func20, Try.ntmps20
  go_wp2
  refine wp_region_held_drew (S := (fun W => W.cell? ⟨p, 0, none⟩ = some (Value.slice AM n cM) ∧ W.cell? ⟨p, 1, none⟩ = some (Value.map (some m)))) (by kernel_rfl) ?_ (fun hHeld => ?_)
  · (first | exact HX.out | exact HCells.out _ HT2.out | exact HCells.out _ HT1.out)
  refine wpAnyH_take (i := 0) (oi := { dst := some 5, op := Go.Op.move (Go.Operand.tmp 0), type := 24, pos := "iface.go:143", after := #[], guard := none }) (v := ?_) rfl (by kernel_rfl) (by kernel_rfl) (by kernel_rfl) (fun _ _ _ h => h) (Or.inl ⟨by rfl, ?_⟩) (by assumption) ?_
  rotate_left
  · intro w hSw
    (try dsimp only at hSw)
    go_simp
    try (with_reducible rfl)
  try simp only [Act.put, List.setIfInBounds_toArray, List.set_cons_zero, List.set_cons_succ]
  refine wpAnyH_take (i := 1) (oi := { dst := some 6, op := Go.Op.nilCheck (Go.Operand.tmp 5), type := 0, pos := "iface.go:143", after := #[{ on := 0, ground := Go.Ground.data }], guard := none }) (v := ?_) rfl (by kernel_rfl) (by kernel_rfl) (by kernel_rfl) (fun _ _ _ h => h) (Or.inl ⟨by rfl, ?_⟩) (by assumption) ?_
  rotate_left
  · intro w hSw
    (try dsimp only at hSw)
    go_simp
    try (with_reducible rfl)
  try simp only [Act.put, List.setIfInBounds_toArray, List.set_cons_zero, List.set_cons_succ]
  refine wpAnyH_take (i := 2) (oi := { dst := some 7, op := Go.Op.fieldAddr 63 (Go.Operand.tmp 6) 0, type := 0, pos := "iface.go:143", after := #[{ on := 1, ground := Go.Ground.data }], guard := none }) (v := ?_) rfl (by kernel_rfl) (by kernel_rfl) (by kernel_rfl) (fun _ _ _ h => h) (Or.inl ⟨by rfl, ?_⟩) (by assumption) ?_
  rotate_left
  · intro w hSw
    (try dsimp only at hSw)
    go_simp
    try (with_reducible rfl)
  try simp only [Act.put, List.setIfInBounds_toArray, List.set_cons_zero, List.set_cons_succ]
  refine wpAnyH_take (i := 3) (oi := { dst := some 8, op := Go.Op.load 61 (Go.Operand.tmp 7), type := 61, pos := "iface.go:143", after := #[{ on := 2, ground := Go.Ground.data }], guard := none }) (v := ?_) rfl (by kernel_rfl) (by kernel_rfl) (by kernel_rfl) (fun _ _ _ h => h) (Or.inl ⟨by rfl, ?_⟩) (by assumption) ?_
  rotate_left
  · intro w hSw
    (try dsimp only at hSw)
    go_simp
    try (with_reducible rfl)
  try simp only [Act.put, List.setIfInBounds_toArray, List.set_cons_zero, List.set_cons_succ]
  refine wpAnyH_take (i := 5) (oi := { dst := some 10, op := Go.Op.move (Go.Operand.tmp 0), type := 24, pos := "iface.go:143", after := #[], guard := none }) (v := ?_) rfl (by kernel_rfl) (by kernel_rfl) (by kernel_rfl) (fun _ _ _ h => h) (Or.inl ⟨by rfl, ?_⟩) (by assumption) ?_
  rotate_left
  · intro w hSw
    (try dsimp only at hSw)
    go_simp
    try (with_reducible rfl)
  try simp only [Act.put, List.setIfInBounds_toArray, List.set_cons_zero, List.set_cons_succ]
  refine wpAnyH_take (i := 6) (oi := { dst := some 11, op := Go.Op.nilCheck (Go.Operand.tmp 10), type := 0, pos := "iface.go:143", after := #[{ on := 5, ground := Go.Ground.data }], guard := none }) (v := ?_) rfl (by kernel_rfl) (by kernel_rfl) (by kernel_rfl) (fun _ _ _ h => h) (Or.inl ⟨by rfl, ?_⟩) (by assumption) ?_
  rotate_left
  · intro w hSw
    (try dsimp only at hSw)
    go_simp
    try (with_reducible rfl)
  try simp only [Act.put, List.setIfInBounds_toArray, List.set_cons_zero, List.set_cons_succ]
  refine wpAnyH_take (i := 7) (oi := { dst := some 12, op := Go.Op.fieldAddr 63 (Go.Operand.tmp 11) 1, type := 0, pos := "iface.go:143", after := #[{ on := 6, ground := Go.Ground.data }], guard := none }) (v := ?_) rfl (by kernel_rfl) (by kernel_rfl) (by kernel_rfl) (fun _ _ _ h => h) (Or.inl ⟨by rfl, ?_⟩) (by assumption) ?_
  rotate_left
  · intro w hSw
    (try dsimp only at hSw)
    go_simp
    try (with_reducible rfl)
  try simp only [Act.put, List.setIfInBounds_toArray, List.set_cons_zero, List.set_cons_succ]
  refine wpAnyH_take (i := 8) (oi := { dst := some 13, op := Go.Op.load 60 (Go.Operand.tmp 12), type := 60, pos := "iface.go:143", after := #[{ on := 7, ground := Go.Ground.data }], guard := none }) (v := ?_) rfl (by kernel_rfl) (by kernel_rfl) (by kernel_rfl) (fun _ _ _ h => h) (Or.inl ⟨by rfl, ?_⟩) (by assumption) ?_
  rotate_left
  · intro w hSw
    (try dsimp only at hSw)
    go_simp
    try (with_reducible rfl)
  try simp only [Act.put, List.setIfInBounds_toArray, List.set_cons_zero, List.set_cons_succ]
  refine wpAnyH_ready (rs := [4]) (by kernel_rfl) (by simp) ?_
  refine AllReadyH.cons (o := { dst := some 9, op := Go.Op.call { callee := Go.Callee.value (Go.Operand.func 46), args := #[Go.Operand.tmp 8], argTypes := #[61] }, type := 61, pos := "iface.go:143", after := #[{ on := 3, ground := Go.Ground.data }], guard := none }) rfl (fun K hK => ?_) AllReadyH.nil
  go_simp
  (go_at_call 46; (with_reducible refine Calls.mono (HCl.out _ HTd.out) ?_); rintro e w1 ⟨A2, c2, rfl, ho1, hT1⟩; have HO1 := Lib.hid ho1; have HT1 := Lib.hid (HTd.out.trans hT1); clear ho1 hT1)
  go_wp2_with fail
  refine hK.out _ _ ?_ (fun hHeld => ?_)
  · (first | exact HX.out | exact HCells.out _ HT2.out | exact HCells.out _ HT1.out)
  clear hK K
  try simp only [Act.put, List.setIfInBounds_toArray, List.set_cons_zero, List.set_cons_succ]
  refine wpAnyH_ready (rs := [9]) (by kernel_rfl) (by simp) ?_
  refine AllReadyH.cons (o := { dst := some 14, op := Go.Op.call { callee := Go.Callee.value (Go.Operand.func 47), args := #[Go.Operand.tmp 13], argTypes := #[60] }, type := 60, pos := "iface.go:143", after := #[{ on := 8, ground := Go.Ground.data }, { on := 4, ground := Go.Ground.chain }], guard := none }) rfl (fun K hK => ?_) AllReadyH.nil
  go_simp
  (go_at_call 47; (with_reducible refine Calls.mono (HMc.out _ HT1.out) ?_); rintro e w2 ⟨rfl, ho2, hb2, hz2⟩; have HO2 := Lib.hid (And.intro ho2 (And.intro hb2 hz2)); have HT2 := Lib.hid (HT1.out.trans (Tch.of_below [] hb2)); clear ho2 hb2 hz2)
  go_wp2_with fail
  refine hK.out _ _ ?_ (fun hHeld => ?_)
  · (first | exact HX.out | exact HCells.out _ HT2.out | exact HCells.out _ HT1.out)
  clear hK K
  try simp only [Act.put, List.setIfInBounds_toArray, List.set_cons_zero, List.set_cons_succ]
  refine wpAnyH_take (i := 10) (oi := { dst := some 15, op := Go.Op.build 63 #[(0, Go.Operand.tmp 9), (1, Go.Operand.tmp 14)], type := 63, pos := "iface.go:143", after := #[{ on := 4, ground := Go.Ground.data }, { on := 9, ground := Go.Ground.data }], guard := none }) (v := ?_) rfl (by kernel_rfl) (by kernel_rfl) (by kernel_rfl) (fun _ _ _ h => h) (Or.inl ⟨by rfl, ?_⟩) (by assumption) ?_
  rotate_left
  · intro w hSw
    (try dsimp only at hSw)
    go_simp
    try (with_reducible rfl)
  try simp only [Act.put, List.setIfInBounds_toArray, List.set_cons_zero, List.set_cons_succ]
  refine wpAnyH_ready (rs := [11]) (by kernel_rfl) (by simp) ?_
  refine AllReadyH.cons (o := { dst := some 16, op := Go.Op.box 63 (Go.Operand.tmp 15), type := 24, pos := "iface.go:143", after := #[{ on := 10, ground := Go.Ground.data }], guard := none }) rfl (fun K hK => ?_) AllReadyH.nil
  go_simp
  refine hK.out _ _ ?_ (fun hHeld => ?_)
  · (exact HCells.out _ (HT2.out.alloc _))
  clear hK K
  try simp only [Act.put, List.setIfInBounds_toArray, List.set_cons_zero, List.set_cons_succ]
  refine wpAnyH_take (i := 12) (oi := { dst := some 3, op := Go.Op.assign (Go.Operand.tmp 16), type := 24, pos := "iface.go:143", after := #[{ on := 11, ground := Go.Ground.data }, { on := 9, ground := Go.Ground.chain }, { on := 0, ground := Go.Ground.phase }, { on := 1, ground := Go.Ground.phase }, { on := 2, ground := Go.Ground.phase }, { on := 3, ground := Go.Ground.phase }, { on := 4, ground := Go.Ground.phase }, { on := 5, ground := Go.Ground.phase }, { on := 6, ground := Go.Ground.phase }, { on := 7, ground := Go.Ground.phase }, { on := 8, ground := Go.Ground.phase }, { on := 9, ground := Go.Ground.phase }, { on := 10, ground := Go.Ground.phase }, { on := 11, ground := Go.Ground.phase }], guard := none }) (v := ?_) rfl (by kernel_rfl) (by kernel_rfl) (by kernel_rfl) (fun _ _ _ h => h) (Or.inl ⟨by rfl, ?_⟩) (by assumption) ?_
  rotate_left
  · intro w hSw
    (try dsimp only at hSw)
    go_simp
    try (with_reducible rfl)
  try simp only [Act.put, List.setIfInBounds_toArray, List.set_cons_zero, List.set_cons_succ]
  refine wpAnyH_done (by kernel_rfl) ?_ _
  have hq0 := CqI.start HT1.out HO1.out HLen.out rfl HO2.out.1 HNm.out HO2.out.2.1 HO2.out.2.2
  obtain ⟨W3, hW3⟩ : ∃ W3, w2.alloc (.cells #[.slice A2 n c2, .map (some w1.heap.size)] 63) = W3 := ⟨_, rfl⟩
  obtain ⟨m2, hm2⟩ : ∃ m2, w1.heap.size = m2 := ⟨_, rfl⟩
  obtain ⟨d, hd⟩ : ∃ d, w2.heap.size = d := ⟨_, rfl⟩
  rw [hW3, hm2, hd] at hq0
  rw [hW3, hm2, hd]
  have HQ0 : Hid (∃ lvk, CqI w W3 d m2 A2 c2 n st lv 0 lvk) := Lib.hid ⟨_, hq0⟩
  have e0 := (hq0.blk.cell 0).trans (show _ = some (Value.slice A2 n c2) by rfl)
  clear hq0 hW3 hm2 hd
  go_wp2
  go_loopw [22] (fun kv wr => ∃ k : Nat, kv = .int .i64 (k : Int) ∧ k ≤ n ∧ Hid (∃ lvk, CqI w wr d m2 A2 c2 n st lv k lvk)) (fun kv _ => n - (intOf kv).toNat)
  case atStart => exact ⟨0, rfl, Nat.zero_le _, HQ0⟩
  case round =>
    obtain ⟨k, rfl, hk, hC⟩ := hrel
    obtain ⟨lvk, hC⟩ := hC.out
    have HC := Lib.hid hC
    have k1 : IntKind.i64.wrap ((k : Int) + 1) = (k : Int) + 1 := by rw [IntKind.wrap_i64]; omega
    by_cases hkn : k < n
    · have kI : (k : Int) < (n : Int) := by omega
      have k0 : (0 : Int) ≤ (k : Int) := by omega
      obtain ⟨g2, rfl⟩ := slice_some hC.row (by omega)
      obtain ⟨q, hq⟩ : ∃ q, st.1[k]? = some q := ⟨_, List.getElem?_eq_getElem (by rw [HN.out]; exact hkn)⟩
      obtain ⟨l, hl⟩ : ∃ l, st.2[k]? = some l := ⟨_, List.getElem?_eq_getElem (by rw [← HI.out.len, HN.out]; exact hkn)⟩
      obtain ⟨A, c, hv, ho⟩ := HRows.out k l hl
      have y0 := (hC.blk.cell 0).trans (show _ = some (Value.slice (some ⟨g2, 0, none⟩) n c2) by rfl)
      have y4 := own_cellN hC.row ((mm_at (k := 4) hq ((hC.old k (Nat.le_refl _)).trans hv) (by decide)).trans (show _ = some (Value.slice A l.length c) by rfl))
      have hl8 : l.length ≤ 8 := HI.out.loc l (List.mem_of_getElem? hl)
      have HOw := Lib.hid (own_tch ho hC.tch (by simp)).drew
      have HStp := Lib.hid (fun w5 (hT : Tch wr w5 []) A' c' m hm hown => CqI.step HC.out HN.out hkn hl hv hT (A' := A') (c' := c') (m := m) hm hown)
      obtain ⟨m, hm⟩ : ∃ m, l.length = m := ⟨_, rfl⟩
      rw [hm] at y4 HOw hl8
      have HCl := Lib.hid (clone_lc A m c l (by omega) wr.drew HOw.out)
      have HLm := Lib.hid hm
      have HY0 := Lib.hid y0
      clear hC hq hl hv ho hm
      go_wp2
      refine wp_region_held_drew (S := (fun W => W.cell? ⟨d, 0, none⟩ = some (Value.slice (some ⟨g2, 0, none⟩) n c2))) (by kernel_rfl) ?_ (fun hHeld => ?_)
      · (first | exact HY0.out | exact HY5.out)
      refine wpAnyH_take (i := 0) (oi := { dst := some 25, op := Go.Op.move (Go.Operand.tmp 3), type := 24, pos := "iface.go:145", after := #[], guard := none }) (v := ?_) rfl (by kernel_rfl) (by kernel_rfl) (by kernel_rfl) (fun _ _ _ h => h) (Or.inl ⟨by rfl, ?_⟩) (by assumption) ?_
      rotate_left
      · intro w hSw
        (try dsimp only at hSw)
        go_simp
        try (with_reducible rfl)
      try simp only [Act.put, List.setIfInBounds_toArray, List.set_cons_zero, List.set_cons_succ]
      refine wpAnyH_take (i := 1) (oi := { dst := some 26, op := Go.Op.nilCheck (Go.Operand.tmp 25), type := 0, pos := "iface.go:145", after := #[{ on := 0, ground := Go.Ground.data }], guard := none }) (v := ?_) rfl (by kernel_rfl) (by kernel_rfl) (by kernel_rfl) (fun _ _ _ h => h) (Or.inl ⟨by rfl, ?_⟩) (by assumption) ?_
      rotate_left
      · intro w hSw
        (try dsimp only at hSw)
        go_simp
        try (with_reducible rfl)
      try simp only [Act.put, List.setIfInBounds_toArray, List.set_cons_zero, List.set_cons_succ]
      refine wpAnyH_take (i := 2) (oi := { dst := some 27, op := Go.Op.fieldAddr 63 (Go.Operand.tmp 26) 0, type := 0, pos := "iface.go:145", after := #[{ on := 1, ground := Go.Ground.data }], guard := none }) (v := ?_) rfl (by kernel_rfl) (by kernel_rfl) (by kernel_rfl) (fun _ _ _ h => h) (Or.inl ⟨by rfl, ?_⟩) (by assumption) ?_
      rotate_left
      · intro w hSw
        (try dsimp only at hSw)
        go_simp
        try (with_reducible rfl)
      try simp only [Act.put, List.setIfInBounds_toArray, List.set_cons_zero, List.set_cons_succ]
      refine wpAnyH_take (i := 3) (oi := { dst := some 28, op := Go.Op.load 61 (Go.Operand.tmp 27), type := 61, pos := "iface.go:145", after := #[{ on := 2, ground := Go.Ground.data }], guard := none }) (v := ?_) rfl (by kernel_rfl) (by kernel_rfl) (by kernel_rfl) (fun _ _ _ h => h) (Or.inl ⟨by rfl, ?_⟩) (by assumption) ?_
      rotate_left
      · intro w hSw
        (try dsimp only at hSw)
        go_simp
        try (with_reducible rfl)
      try simp only [Act.put, List.setIfInBounds_toArray, List.set_cons_zero, List.set_cons_succ]
      refine wpAnyH_take (i := 4) (oi := { dst := some 29, op := Go.Op.move (Go.Operand.tmp 4), type := 3, pos := "iface.go:145", after := #[], guard := none }) (v := ?_) rfl (by kernel_rfl) (by kernel_rfl) (by kernel_rfl) (fun _ _ _ h => h) (Or.inl ⟨by rfl, ?_⟩) (by assumption) ?_
      rotate_left
      · intro w hSw
        (try dsimp only at hSw)
        go_simp
        try (with_reducible rfl)
      try simp only [Act.put, List.setIfInBounds_toArray, List.set_cons_zero, List.set_cons_succ]
      refine wpAnyH_take (i := 5) (oi := { dst := some 30, op := Go.Op.move (Go.Operand.tmp 3), type := 24, pos := "iface.go:145", after := #[], guard := none }) (v := ?_) rfl (by kernel_rfl) (by kernel_rfl) (by kernel_rfl) (fun _ _ _ h => h) (Or.inl ⟨by rfl, ?_⟩) (by assumption) ?_
      rotate_left
      · intro w hSw
        (try dsimp only at hSw)
        go_simp
        try (with_reducible rfl)
      try simp only [Act.put, List.setIfInBounds_toArray, List.set_cons_zero, List.set_cons_succ]
      refine wpAnyH_take (i := 6) (oi := { dst := some 31, op := Go.Op.nilCheck (Go.Operand.tmp 30), type := 0, pos := "iface.go:145", after := #[{ on := 5, ground := Go.Ground.data }], guard := none }) (v := ?_) rfl (by kernel_rfl) (by kernel_rfl) (by kernel_rfl) (fun _ _ _ h => h) (Or.inl ⟨by rfl, ?_⟩) (by assumption) ?_
      rotate_left
      · intro w hSw
        (try dsimp only at hSw)
        go_simp
        try (with_reducible rfl)
      try simp only [Act.put, List.setIfInBounds_toArray, List.set_cons_zero, List.set_cons_succ]
      refine wpAnyH_take (i := 7) (oi := { dst := some 32, op := Go.Op.fieldAddr 63 (Go.Operand.tmp 31) 0, type := 0, pos := "iface.go:145", after := #[{ on := 6, ground := Go.Ground.data }], guard := none }) (v := ?_) rfl (by kernel_rfl) (by kernel_rfl) (by kernel_rfl) (fun _ _ _ h => h) (Or.inl ⟨by rfl, ?_⟩) (by assumption) ?_
      rotate_left
      · intro w hSw
        (try dsimp only at hSw)
        go_simp
        try (with_reducible rfl)
      try simp only [Act.put, List.setIfInBounds_toArray, List.set_cons_zero, List.set_cons_succ]
      refine wpAnyH_take (i := 8) (oi := { dst := some 33, op := Go.Op.load 61 (Go.Operand.tmp 32), type := 61, pos := "iface.go:145", after := #[{ on := 7, ground := Go.Ground.data }], guard := none }) (v := ?_) rfl (by kernel_rfl) (by kernel_rfl) (by kernel_rfl) (fun _ _ _ h => h) (Or.inl ⟨by rfl, ?_⟩) (by assumption) ?_
      rotate_left
      · intro w hSw
        (try dsimp only at hSw)
        go_simp
        try (with_reducible rfl)
      try simp only [Act.put, List.setIfInBounds_toArray, List.set_cons_zero, List.set_cons_succ]
      refine wpAnyH_take (i := 9) (oi := { dst := some 34, op := Go.Op.move (Go.Operand.tmp 4), type := 3, pos := "iface.go:145", after := #[], guard := none }) (v := ?_) rfl (by kernel_rfl) (by kernel_rfl) (by kernel_rfl) (fun _ _ _ h => h) (Or.inl ⟨by rfl, ?_⟩) (by assumption) ?_
      rotate_left
      · intro w hSw
        (try dsimp only at hSw)
        go_simp
        try (with_reducible rfl)
      try simp only [Act.put, List.setIfInBounds_toArray, List.set_cons_zero, List.set_cons_succ]
      refine wpAnyH_take (i := 10) (oi := { dst := some 35, op := Go.Op.indexAddr 61 (Go.Operand.tmp 33) (Go.Operand.tmp 34), type := 0, pos := "iface.go:145", after := #[{ on := 8, ground := Go.Ground.data }, { on := 9, ground := Go.Ground.data }], guard := none }) (v := ?_) rfl (by kernel_rfl) (by kernel_rfl) (by kernel_rfl) (fun _ _ _ h => h) (Or.inl ⟨by rfl, ?_⟩) (by assumption) ?_
      rotate_left
      · intro w hSw
        (try dsimp only at hSw)
        go_simp
        try (with_reducible rfl)
      try simp only [Act.put, List.setIfInBounds_toArray, List.set_cons_zero, List.set_cons_succ]
      refine wpAnyH_take (i := 11) (oi := { dst := some 36, op := Go.Op.fieldAddr 74 (Go.Operand.tmp 35) 1, type := 0, pos := "iface.go:145", after := #[{ on := 10, ground := Go.Ground.data }], guard := none }) (v := ?_) rfl (by kernel_rfl) (by kernel_rfl) (by kernel_rfl) (fun _ _ _ h => h) (Or.inl ⟨by rfl, ?_⟩) (by assumption) ?_
      rotate_left
      · intro w hSw
        (try dsimp only at hSw)
        go_simp
        try (with_reducible rfl)
      try simp only [Act.put, List.setIfInBounds_toArray, List.set_cons_zero, List.set_cons_succ]
      refine wpAnyH_ready (rs := [12]) (by kernel_rfl) (by simp) ?_
      refine AllReadyH.cons (o := { dst := some 37, op := Go.Op.load 39 (Go.Operand.tmp 36), type := 39, pos := "iface.go:145", after := #[{ on := 11, ground := Go.Ground.data }], guard := none }) rfl (fun K hK => ?_) AllReadyH.nil
      go_simp
      refine hK.out _ _ ?_ (fun hHeld => ?_)
      · (first | exact HY0.out | exact (HC6.out.blk.cell 0).trans rfl)
      clear hK K
      try simp only [Act.put, List.setIfInBounds_toArray, List.set_cons_zero, List.set_cons_succ]
      refine wpAnyH_ready (rs := [13]) (by kernel_rfl) (by simp) ?_
      refine AllReadyH.cons (o := { dst := some 38, op := Go.Op.call { callee := Go.Callee.value (Go.Operand.func 38), args := #[Go.Operand.tmp 37], argTypes := #[39] }, type := 39, pos := "iface.go:145", after := #[{ on := 12, ground := Go.Ground.data }], guard := none }) rfl (fun K hK => ?_) AllReadyH.nil
      go_simp
      (go_at_call 38; (with_reducible refine Calls.mono HCl.out ?_); rintro e w5 ⟨A5, c5, rfl, ho5, hT5⟩; have hT5 := Tch.of_drew hT5; obtain ⟨⟨u5, k5⟩, f5, hC6⟩ := HStp.out w5 hT5 A5 c5 m HLm.out ho5; have HC6 := Lib.hid hC6; have HY5 := Lib.hid ((hT5.cell (p := ⟨d, 0, none⟩) (HC.out.ge d (by simp)).2 (by simp)).trans HY0.out); clear ho5 hT5 hC6)
      go_wp2_with fail
      refine hK.out _ _ ?_ (fun hHeld => ?_)
      · (first | exact HY0.out | exact HY5.out)
      clear hK K
      try simp only [Act.put, List.setIfInBounds_toArray, List.set_cons_zero, List.set_cons_succ]
      refine wpAnyH_take (i := 14) (oi := { dst := some 39, op := Go.Op.indexAddr 61 (Go.Operand.tmp 28) (Go.Operand.tmp 29), type := 0, pos := "iface.go:145", after := #[{ on := 3, ground := Go.Ground.data }, { on := 4, ground := Go.Ground.data }, { on := 0, ground := Go.Ground.phase }, { on := 1, ground := Go.Ground.phase }, { on := 2, ground := Go.Ground.phase }, { on := 3, ground := Go.Ground.phase }, { on := 4, ground := Go.Ground.phase }, { on := 5, ground := Go.Ground.phase }, { on := 6, ground := Go.Ground.phase }, { on := 7, ground := Go.Ground.phase }, { on := 8, ground := Go.Ground.phase }, { on := 9, ground := Go.Ground.phase }, { on := 10, ground := Go.Ground.phase }, { on := 11, ground := Go.Ground.phase }, { on := 12, ground := Go.Ground.phase }, { on := 13, ground := Go.Ground.phase }], guard := none }) (v := ?_) rfl (by kernel_rfl) (by kernel_rfl) (by kernel_rfl) (fun _ _ _ h => h) (Or.inl ⟨by rfl, ?_⟩) (by assumption) ?_
      rotate_left
      · intro w hSw
        (try dsimp only at hSw)
        go_simp
        try (with_reducible rfl)
      try simp only [Act.put, List.setIfInBounds_toArray, List.set_cons_zero, List.set_cons_succ]
      refine wpAnyH_take (i := 15) (oi := { dst := some 40, op := Go.Op.fieldAddr 74 (Go.Operand.tmp 39) 1, type := 0, pos := "iface.go:145", after := #[{ on := 14, ground := Go.Ground.data }, { on := 0, ground := Go.Ground.phase }, { on := 1, ground := Go.Ground.phase }, { on := 2, ground := Go.Ground.phase }, { on := 3, ground := Go.Ground.phase }, { on := 4, ground := Go.Ground.phase }, { on := 5, ground := Go.Ground.phase }, { on := 6, ground := Go.Ground.phase }, { on := 7, ground := Go.Ground.phase }, { on := 8, ground := Go.Ground.phase }, { on := 9, ground := Go.Ground.phase }, { on := 10, ground := Go.Ground.phase }, { on := 11, ground := Go.Ground.phase }, { on := 12, ground := Go.Ground.phase }, { on := 13, ground := Go.Ground.phase }], guard := none }) (v := ?_) rfl (by kernel_rfl) (by kernel_rfl) (by kernel_rfl) (fun _ _ _ h => h) (Or.inl ⟨by rfl, ?_⟩) (by assumption) ?_
      rotate_left
      · intro w hSw
        (try dsimp only at hSw)
        go_simp
        try (with_reducible rfl)
      try simp only [Act.put, List.setIfInBounds_toArray, List.set_cons_zero, List.set_cons_succ]
      refine wpAnyH_ready (rs := [16]) (by kernel_rfl) (by simp) ?_
      refine AllReadyH.cons (o := { dst := none, op := Go.Op.store 39 (Go.Operand.tmp 40) (Go.Operand.tmp 38), type := 0, pos := "iface.go:145", after := #[{ on := 15, ground := Go.Ground.data }, { on := 13, ground := Go.Ground.data }, { on := 13, ground := Go.Ground.chain }, { on := 0, ground := Go.Ground.phase }, { on := 1, ground := Go.Ground.phase }, { on := 2, ground := Go.Ground.phase }, { on := 3, ground := Go.Ground.phase }, { on := 4, ground := Go.Ground.phase }, { on := 5, ground := Go.Ground.phase }, { on := 6, ground := Go.Ground.phase }, { on := 7, ground := Go.Ground.phase }, { on := 8, ground := Go.Ground.phase }, { on := 9, ground := Go.Ground.phase }, { on := 10, ground := Go.Ground.phase }, { on := 11, ground := Go.Ground.phase }, { on := 12, ground := Go.Ground.phase }, { on := 13, ground := Go.Ground.phase }], guard := none }) rfl (fun K hK => ?_) AllReadyH.nil
      go_simp
      refine hK.out _ _ ?_ (fun hHeld => ?_)
      · (first | exact HY0.out | exact (HC6.out.blk.cell 0).trans rfl)
      clear hK K
      try simp only [Act.put, List.setIfInBounds_toArray, List.set_cons_zero, List.set_cons_succ]
      refine wpAnyH_done (by kernel_rfl) ?_ _
      have HQ6 : Hid (∃ lvk, CqI w (w5.setCell ⟨g2, k * 5 + 4, none⟩ (.slice A5 m c5)) d m2 (some ⟨g2, 0, none⟩) c2 n st lv (k + 1) lvk) := Lib.hid ⟨_, HC6.out⟩
      clear y0 y4 k5 f5
      go_wp2
      go_roundw
      case rel => exact ⟨k + 1, by go_num, hkn, HQ6⟩
      case measure => simp [intOf]; omega
    · obtain rfl : k = n := by omega
      have kI : ¬ (k : Int) < (k : Int) := by omega
      obtain ⟨hI2, hge⟩ := hC.done HN.out HI.out
      have hT := hC.tch
      clear hkn hk hC
      go_wp2
      go_ret
      exact ⟨d, rfl, _, hI2, HP.out.tch hT (by simp), hT.mono (by simp), hge⟩
end Go.Proofs.Ytabbclocgkhnhaa


