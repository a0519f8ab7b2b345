/-
  The document's own wheel (layer 17): New, at, Add, Cancel, Tick, Left, Next.
-/
import Derived.Test.YthkjfgegmbdebaaWhK
import Derived.Test.YthkjfgegmbdebaaGap
namespace Go.Proofs.Ythkjfgegmbdebaa
open Go.RowKit
set_option linter.unusedVariables false

def dtC (x : TmI) : List Value := [.int .i64 x.1, .int .i64 (x.2.1 : Int)]
theorem dt_two (x : TmI) : (dtC x).length = 2 := rfl
theorem dt_one (x : TmI) : ∀ u ∈ dtC x, u.oneCell' = true := by
  intro u hu; simp [dtC] at hu; rcases hu with rfl | rfl <;> rfl
theorem dts_one (l : List TmI) : ∀ u ∈ l.flatMap dtC, u.oneCell' = true := fun u hu => by
  obtain ⟨x, hx, hu⟩ := List.mem_flatMap.1 hu
  exact dt_one x u hu
theorem infoDt : (Try.prog.info? 60).map (fun i => (i.zero, i.size, i.bytes)) = some (some (.agg #[.int .i64 0, .int .i64 0]), 2, 16) := by kernel_rfl
theorem dt_cells {w : World} {g n c : Nat} {l : List TmI} (h : w.ownsRow 0 60 2 (.slice (some ⟨g, 0, none⟩) n c) n (l.flatMap dtC)) {i : Nat} {x : TmI} (hx : l[i]? = some x) :
    w.cell? ⟨g, i * 2, none⟩ = some (.int .i64 x.1) ∧ w.cell? ⟨g, i * 2 + 1, none⟩ = some (.int .i64 (x.2.1 : Int)) := by
  have e := fun k (hk : k < 2) => flatk_at dt_two hx hk
  exact ⟨own_cellN h (by have := e 0 (by decide); rw [Nat.add_zero] at this; rw [this]; rfl), own_cellN h (by rw [e 1 (by decide)]; rfl)⟩
/-- The document's wheel in memory. -/
structure WDM (w : World) (d t : Nat) (A : Option Addr) (n c : Nat) (L : List TmI) : Prop where
  blk : Blk w d 42 #[.int .i64 (t : Int), .slice A n c]
  row : w.ownsRow 0 60 2 (.slice A n c) n (L.flatMap dtC)
  len : L.length = n
  non : d ∉ obI (.slice A n c)
def WD (w : World) (d t : Nat) (L : List TmI) (F : List Nat) : Prop := ∃ A n c, WDM w d t A n c L ∧ F = d :: obI (.slice A n c)
section
variable {w w' : World} {d t n c : Nat} {A : Option Addr} {L : List TmI} {F : List Nat}
theorem WDM.tch {T : List Nat} (h : WDM w d t A n c L) (ht : Tch w w' T) (hn : ∀ s ∈ d :: obI (.slice A n c), s ∉ T) : WDM w' d t A n c L :=
  ⟨ht.blk h.blk (hn d (by simp)), own_tch h.row ht (fun s hs => hn s (List.mem_cons_of_mem _ hs)), h.len, h.non⟩
theorem WD.tch {T : List Nat} (h : WD w d t L F) (ht : Tch w w' T) (hn : ∀ s ∈ F, s ∉ T) : WD w' d t L F := by
  obtain ⟨A, n, c, h1, rfl⟩ := h
  exact ⟨A, n, c, h1.tch ht hn, rfl⟩
theorem WDM.lt (h : WDM w d t A n c L) : ∀ s ∈ d :: obI (.slice A n c), s < w.heap.size := by
  intro s hs
  rcases List.mem_cons.1 hs with rfl | hs
  · exact h.blk.lt
  · exact own_lts h.row s hs
theorem WD.lt (h : WD w d t L F) : ∀ s ∈ F, s < w.heap.size := by
  obtain ⟨A, n, c, h1, rfl⟩ := h
  exact h1.lt
theorem WDM.c0 (h : WDM w d t A n c L) : w.cell? ⟨d, 0, none⟩ = some (.int .i64 (t : Int)) := (h.blk.cell 0).trans rfl
theorem WDM.c1 (h : WDM w d t A n c L) : w.cell? ⟨d, 1, none⟩ = some (.slice A n c) := (h.blk.cell 1).trans rfl
/-- Another row put in its place. -/
theorem WDM.set_ (h : WDM w d t A n c L) (hT : Tch w w' (obI (.slice A n c))) {A' : Option Addr} {n' c' : Nat} {L' : List TmI} (hr : w'.ownsRow 0 60 2 (.slice A' n' c') n' (L'.flatMap dtC)) (hl : L'.length = n') (hb : ∀ s ∈ obI (.slice A' n' c'), s ∈ obI (.slice A n c) ∨ w.heap.size ≤ s) :
    WDM (w'.setCell ⟨d, 1, none⟩ (.slice A' n' c')) d t A' n' c' L' ∧ Goes w (w'.setCell ⟨d, 1, none⟩ (.slice A' n' c')) (d :: obI (.slice A n c)) (d :: obI (.slice A' n' c')) := by
  have hT1 : Tch w' (w'.setCell ⟨d, 1, none⟩ (.slice A' n' c')) [d] := (Tch.refl w' [d]).set_ (by simp) _
  have hnd : d ∉ obI (.slice A' n' c') := fun e => by
    rcases hb d e with h1 | h1
    · exact h.non h1
    · have := h.blk.lt; omega
  refine ⟨⟨(hT.blk h.blk h.non).set_ 1 _, own_tch hr hT1 (fun s hs e => hnd (by rw [List.mem_singleton.1 e] at hs; exact hs)), hl, hnd⟩, (hT.mono (fun s hs => List.mem_cons_of_mem _ hs)).trans (hT1.mono (by simp)), fun s hs => ?_⟩
  rcases List.mem_cons.1 hs with e | hs
  · exact .inl (by simp [e])
  · rcases hb s hs with h1 | h1
    · exact .inl (List.mem_cons_of_mem _ h1)
    · exact .inr h1
set_option maxRecDepth 100000 in
theorem rnewW (w : World) : Calls Try.prog 10 #[] w fun e w' => ∃ d F, e = .returned (ptrV d) ∧ WD w' d 0 [] F ∧ (∀ s ∈ F, w.heap.size ≤ s) ∧ Tch w w' [] := by
  have HT : Hid (Tch w (w.alloc (.cells #[.int .i64 0, .slice none 0 0] 42)) []) := Lib.hid ((Tch.refl w []).alloc _)
  have HB := Lib.hid (Blk.new w 42 #[.int .i64 0, .slice none 0 0])
  go_enter Try.func10, Try.ntmps10
  go_wp2
  go_ret
  refine ⟨w.heap.size, [w.heap.size], rfl, ⟨none, 0, 0, ⟨HB.out, ⟨rfl, .inl ⟨rfl, rfl⟩⟩, rfl, by simp [obI, Value.ownBlock]⟩, by simp [obI, Value.ownBlock]⟩, by simp, HT.out⟩
set_option maxRecDepth 100000 in
set_option maxHeartbeats 1000000 in
theorem at_any (h : WDM w d t A n c L) (hn : n ≤ 1000) (id : Int) : Calls Try.prog 26 #[ptrV d, .int .i64 id] w fun e w' => e = .returned (.int .i64 ((wAt L id : Int) - 1)) ∧ w' = w := by
  have c1 := h.c1
  have HR := Lib.hid h.row
  have HL := Lib.hid h.len
  have HN := Lib.hid hn
  have HF : Hid (∀ (i : Nat) (x : TmI), L[i]? = some x → x.1 = id → (∀ (j : Nat) (y : TmI), j < i → L[j]? = some y → y.1 ≠ id) → (wAt L id : Int) - 1 = (i : Int)) := Lib.hid (fun i x hx e hlt => by
    have : wAt L id = i + 1 := fndI_succ.2 ⟨⟨x, hx, by simpa using e⟩, fun j y hj hy => by simpa using hlt j y hj hy⟩
    omega)
  have HG : Hid ((∀ (j : Nat) (y : TmI), L[j]? = some y → y.1 ≠ id) → (wAt L id : Int) - 1 = -1) := Lib.hid (fun h => by
    have : wAt L id = 0 := wAt_zero.2 fun x hx e => by
      obtain ⟨i, hi⟩ := List.mem_iff_getElem?.1 hx
      exact h i x hi e
    omega)
  clear h hn
  go_enter Try.func26, Try.ntmps26
  go_wp2
  go_loopw [5] (fun iv wr => ∃ i : Nat, iv = .int .i64 (i : Int) ∧ i ≤ n ∧ wr = w ∧ Hid (∀ (j : Nat) (y : TmI), j < i → L[j]? = some y → y.1 ≠ id)) (fun iv _ => n - (intOf iv).toNat)
  case atStart => exact ⟨0, rfl, Nat.zero_le _, rfl, Lib.hid (fun j y hj => by omega)⟩
  case round =>
    obtain ⟨i, rfl, hi, rfl, hJ⟩ := hrel
    by_cases hin : i < n
    · have iI : (i : Int) < (n : Int) := by omega
      have i0 : (0 : Int) ≤ (i : Int) := by omega
      have i1 : IntKind.i64.wrap ((i : Int) + 1) = (i : Int) + 1 := by have := HN.out; rw [IntKind.wrap_i64]; omega
      obtain ⟨x, hx⟩ : ∃ x, L[i]? = some x := ⟨_, List.getElem?_eq_getElem (by rw [HL.out]; exact hin)⟩
      obtain ⟨g, rfl⟩ := slice_some HR.out (by omega)
      obtain ⟨e0, e1⟩ := dt_cells HR.out hx
      have HX := Lib.hid hx
      by_cases he : x.1 = id
      · have q : (x.1 == id) = true := by simpa using he
        have HE := Lib.hid (HF.out i x hx he hJ.out)
        clear hx he
        go_wp2
        go_ret
        exact ⟨by rw [HE.out]; rfl, rfl⟩
      · have q : (x.1 == id) = false := by simpa using he
        have HE := Lib.hid he
        clear hx he
        go_wp2
        go_roundw
        case rel =>
          refine ⟨i + 1, by go_num, hin, trivial, Lib.hid (fun j y hj hy => ?_)⟩
          by_cases e : j = i
          · subst e; rw [HX.out] at hy; injection hy with hy; subst hy; exact HE.out
          · exact hJ.out j y (by omega) hy
        case measure => simp [intOf]; omega
    · have iI : ¬ (i : Int) < (n : Int) := by omega
      have HE := Lib.hid (HG.out (fun j y hy => hJ.out j y (by have := (List.getElem?_eq_some_iff.1 hy).1; have := HL.out; omega) hy))
      go_wp2
      go_ret
      exact ⟨by rw [HE.out]; rfl, rfl⟩
set_option maxRecDepth 100000 in
set_option maxHeartbeats 1000000 in
theorem rleftW (h : WD w d t L F) (hn : L.length ≤ 1000) (hd : ∀ x ∈ L, t < x.2.1 ∧ x.2.1 ≤ t + 4095) (ht : t ≤ 100000000) (id : Int) :
    Calls Try.prog 20 #[ptrV d, .int .i64 id] w fun e w' => e = .returned (.tuple #[.int .i64 (lftV L t id), .bool (decide (wAt L id ≠ 0))]) ∧ Tch w w' [] := by
  obtain ⟨A, n, c, h, rfl⟩ := h
  have HA := Lib.hid (at_any h (by rw [← h.len]; exact hn) id)
  have c0 := h.c0
  have c1 := h.c1
  obtain ⟨z, hz⟩ : ∃ z : Int, (wAt L id : Int) - 1 = z := ⟨_, rfl⟩
  rw [hz] at HA
  have HT := Lib.hid (Tch.refl w [])
  by_cases h0 : wAt L id = 0
  · have HE := Lib.hid (And.intro (lft_no (t := t) h0) h0)
    have z0 : z < 0 := by omega
    clear h hn hd hz h0
    go_enter Try.func20, Try.ntmps20
    go_wp2_with fail
    refine Calls.mono HA.out ?_
    rintro e w' ⟨rfl, rfl⟩
    go_wp2
    go_ret2
    exact ⟨by rw [HE.out.1]; simp [HE.out.2], HT.out⟩
  · obtain ⟨i, hi⟩ : ∃ i, wAt L id = i + 1 := ⟨wAt L id - 1, by omega⟩
    obtain ⟨x, hx, ex⟩ := wAt_pos hi
    have hin := (List.getElem?_eq_some_iff.1 hx).1
    rw [h.len] at hin
    obtain ⟨g, rfl⟩ := slice_some h.row (by omega)
    obtain ⟨e0, e1⟩ := dt_cells h.row hx
    have hdx := hd x (List.mem_of_getElem? hx)
    have HE : Hid (lftV L t id = (x.2.1 : Int) - (t : Int) ∧ wAt L id ≠ 0) := Lib.hid ⟨by
      unfold lftV; rw [hi, Nat.add_sub_cancel, hx]; simp, h0⟩
    obtain rfl : z = (i : Int) := by omega
    have z0 : ¬ (i : Int) < 0 := by omega
    have z1 : (0 : Int) ≤ (i : Int) := by omega
    have z2 : (i : Int) < (n : Int) := by omega
    have w1 : IntKind.i64.wrap ((x.2.1 : Int) - (t : Int)) = (x.2.1 : Int) - (t : Int) := by rw [IntKind.wrap_i64]; omega
    clear h hn hd hz h0 hi hx ex hin hdx
    go_enter Try.func20, Try.ntmps20
    go_wp2_with fail
    refine Calls.mono HA.out ?_
    rintro e w' ⟨rfl, rfl⟩
    go_wp2
    go_quiet (fail)
    go_wp2
    go_ret2
    exact ⟨by rw [HE.out.1]; simp [HE.out.2], HT.out.drewN _⟩
set_option maxRecDepth 100000 in
set_option maxHeartbeats 2000000 in
theorem rnextW (h : WD w d t L F) (hn : L.length ≤ 1000) (hd : ∀ x ∈ L, t < x.2.1 ∧ x.2.1 ≤ t + 4095) (ht : t ≤ 100000000) :
    Calls Try.prog 24 #[ptrV d] w fun e w' => e = .returned (.int .i64 (nxtV L t : Int)) ∧ Tch w w' [] := by
  obtain ⟨A, n, c, h, rfl⟩ := h
  have HH := Lib.hid (fun W (hT : Tch w W []) => h.tch hT (by simp))
  have HN : Hid (L.length = n ∧ n ≤ 1000) := Lib.hid ⟨h.len, by rw [← h.len]; exact hn⟩
  have HD := Lib.hid (And.intro hd ht)
  have HZ := Lib.hid (Tch.refl w [])
  have HS : Hid (∀ (i : Nat) (x : TmI), L[i]? = some x → (L.take (i + 1)).foldl (nxtF t) 0 = nxtF t ((L.take i).foldl (nxtF t) 0) x) := Lib.hid (fun i x hx => by
    obtain ⟨h1, h2⟩ := List.getElem?_eq_some_iff.1 hx
    rw [← h2, List.take_succ_eq_append_getElem h1, List.foldl_append]; rfl)
  have HEnd : Hid ((L.take n).foldl (nxtF t) 0 = nxtV L t) := Lib.hid (by rw [List.take_of_length_le (by rw [h.len]; exact Nat.le_refl _)]; rfl)
  clear h hn hd ht
  go_enter Try.func24, Try.ntmps24
  go_wp2
  go_loopw [3, 4] (fun nv iv wr => ∃ (i m : Nat), nv = .int .i64 (m : Int) ∧ iv = .int .i64 (i : Int) ∧ i ≤ n ∧ m ≤ 4095 ∧ Hid ((L.take i).foldl (nxtF t) 0 = m) ∧ Hid (Tch w wr [])) (fun _ iv _ => n - (intOf iv).toNat)
  case atStart => exact ⟨0, 0, rfl, rfl, Nat.zero_le _, by decide, Lib.hid rfl, HZ⟩
  case round =>
    obtain ⟨i, m, rfl, rfl, hi, hm9, hM, hT⟩ := hrel
    have hh := HH.out wr hT.out
    have c0 := hh.c0
    have c1 := hh.c1
    by_cases hin : i < n
    · have iI : (i : Int) < (n : Int) := by omega
      have i0 : (0 : Int) ≤ (i : Int) := by omega
      have i1 : IntKind.i64.wrap ((i : Int) + 1) = (i : Int) + 1 := by have := HN.out; rw [IntKind.wrap_i64]; omega
      obtain ⟨x, hx⟩ : ∃ x, L[i]? = some x := ⟨_, List.getElem?_eq_getElem (by rw [HN.out.1]; exact hin)⟩
      obtain ⟨g, rfl⟩ := slice_some hh.row (by omega)
      obtain ⟨e0, e1⟩ := dt_cells hh.row hx
      have hdx := HD.out.1 x (List.mem_of_getElem? hx)
      have ht := HD.out.2
      have w1 : IntKind.i64.wrap ((x.2.1 : Int) - (t : Int)) = ((x.2.1 - t : Nat) : Int) := by rw [IntKind.wrap_i64]; omega
      have hst := HS.out i x hx
      rw [hM.out] at hst
      obtain ⟨y, hy⟩ : ∃ y, x.2.1 - t = y := ⟨_, rfl⟩
      have hF : nxtF t m x = if m = 0 ∨ y < m then y else m := by unfold nxtF; rw [hy]
      rw [hF] at hst
      rw [hy] at w1
      have hy9 : y ≤ 4095 := by omega
      have HCl : Hid (∀ W, Tch wr W [] → W.cell? ⟨d, 0, none⟩ = some (.int .i64 (t : Int)) ∧ W.cell? ⟨d, 1, none⟩ = some (.slice (some ⟨g, 0, none⟩) n c) ∧ W.cell? ⟨g, i * 2 + 1, none⟩ = some (.int .i64 (x.2.1 : Int))) := Lib.hid (fun W hW => by
        have h9 := hh.tch hW (by simp)
        exact ⟨h9.c0, h9.c1, (dt_cells h9.row hx).2⟩)
      clear hh hx hdx ht hy hF
      by_cases hm0 : m = 0
      · subst hm0
        rw [if_pos (.inl rfl)] at hst
        have HSt := Lib.hid hst
        have HY := Lib.hid hy9
        have g1 : ((0 : Int) == 0) = true := rfl
        clear hst
        go_wp2
        go_quiet (fail)
        obtain ⟨W1, hW1⟩ : ∃ W, wr.drewN nq = W := ⟨_, rfl⟩
        have HT1 : Hid (Tch wr W1 []) := Lib.hid (hW1 ▸ (Tch.refl wr []).drewN nq)
        rw [hW1]
        clear hW1 c0 c1 e0 e1
        obtain ⟨c0, c1, e1⟩ := HCl.out W1 HT1.out
        go_wp2
        go_quiet (fail)
        go_wp2
        go_roundw
        case rel => exact ⟨i + 1, y, rfl, by go_num, hin, HY.out, HSt, Lib.hid ((hT.out.trans HT1.out).drewN _)⟩
        case measure => simp [intOf]; omega
      · have g1 : ((m : Int) == 0) = false := by simp; omega
        by_cases hlt : y < m
        · have g2 : decide ((y : Int) < (m : Int)) = true := by simp; omega
          have g4 : decide (y < m) = true := by simpa using hlt
          rw [if_pos (.inr hlt)] at hst
          have HSt := Lib.hid hst
          have HY := Lib.hid hy9
          clear hst hm0 hlt
          go_wp2
          go_quiet (fail)
          obtain ⟨W1, hW1⟩ : ∃ W, wr.drewN nq = W := ⟨_, rfl⟩
          have HT1 : Hid (Tch wr W1 []) := Lib.hid (hW1 ▸ (Tch.refl wr []).drewN nq)
          rw [hW1]
          clear hW1 c0 c1 e0 e1
          obtain ⟨c0, c1, e1⟩ := HCl.out W1 HT1.out
          go_wp2
          go_quiet (fail)
          go_wp2
          go_roundw
          case rel => exact ⟨i + 1, y, rfl, by go_num, hin, HY.out, HSt, Lib.hid ((hT.out.trans HT1.out).drewN _)⟩
          case measure => simp [intOf]; omega
        · have g2 : decide ((y : Int) < (m : Int)) = false := by simp; omega
          have g4 : decide (y < m) = false := by simpa using hlt
          rw [if_neg (by omega)] at hst
          have HSt := Lib.hid hst
          have HY := Lib.hid hm9
          clear hst hm0 hlt
          go_wp2
          go_quiet (fail)
          go_wp2
          go_roundw
          case rel => exact ⟨i + 1, m, rfl, by go_num, hin, HY.out, HSt, Lib.hid (hT.out.drewN _)⟩
          case measure => simp [intOf]; omega
    · have iI : ¬ (i : Int) < (n : Int) := by omega
      obtain rfl : i = n := by omega
      have HE := Lib.hid (hM.out.symm.trans HEnd.out)
      clear hh
      go_wp2
      go_ret
      exact ⟨by rw [← HE.out]; rfl, hT.out⟩
end
end Go.Proofs.Ythkjfgegmbdebaa
