/-
  crosswaylaw17.WheelFull returns true for every input, and leaves its arguments alone.
  Conditions: none of our own.
-/
import Derived.Test.YthkjfgegmbdebaaWhK
import Derived.Deep.DeepCutAuto
namespace Go.Proofs.Ythkjfgegmbdebaa
open Go.ChangeShapes Go.WideShapes Go.ChangeAt Go.RowKit
set_option linter.unusedVariables false
namespace WFul
/-- The first n of the thousand. -/
def fl (n : Nat) : List TmI := (List.range n).map fun (i : Nat) => ((i : Int), 1 + i * 7 % 4095, i)
theorem fl_len (n : Nat) : (fl n).length = n := by simp [fl]
theorem fl_succ (n : Nat) : fl (n + 1) = fl n ++ [((n : Int), 1 + n * 7 % 4095, n)] := by unfold fl; rw [List.range_succ, List.map_append]; rfl
theorem fl_mem {n : Nat} {x : TmI} : x ∈ fl n ↔ ∃ i, i < n ∧ x = ((i : Int), 1 + i * 7 % 4095, i) := by
  unfold fl
  rw [List.mem_map]
  constructor
  · rintro ⟨i, hi, rfl⟩; exact ⟨i, List.mem_range.1 hi, rfl⟩
  · rintro ⟨i, hi, rfl⟩; exact ⟨i, List.mem_range.2 hi, rfl⟩
theorem fl_at {n : Nat} {id : Int} : wAt (fl n) id ≠ 0 ↔ 0 ≤ id ∧ id < n := by
  rw [ne_eq, wAt_zero]
  constructor
  · intro h
    refine Classical.byContradiction fun hc => h fun x hx e => ?_
    obtain ⟨i, hi, rfl⟩ := fl_mem.1 hx
    simp only at e
    exact hc (by omega)
  · intro h h2
    exact h2 _ (fl_mem.2 ⟨id.toNat, by omega, rfl⟩) (by simp only; omega)
theorem fl_add {n : Nat} (hn : n < 1000) : addE (fl n) n (1 + ((n * 7 % 4095 : Nat) : Int)) = 0 ∧ addL (fl n) 0 n n (1 + ((n * 7 % 4095 : Nat) : Int)) = fl (n + 1) ∧ addA (fl n) n n (1 + ((n * 7 % 4095 : Nat) : Int)) = n + 1 := by
  have h0 : n * 7 % 4095 < 4095 := Nat.mod_lt _ (by decide)
  have he : addE (fl n) n (1 + ((n * 7 % 4095 : Nat) : Int)) = 0 := by
    unfold addE
    rw [if_neg (by omega), if_neg, if_neg (by rw [fl_len]; omega)]
    intro h
    exact absurd (fl_at.1 h).2 (Int.lt_irrefl _)
  refine ⟨he, ?_, ?_⟩
  · unfold addL
    rw [if_pos he, fl_succ, show 0 + (1 + ((n * 7 % 4095 : Nat) : Int)).toNat = 1 + n * 7 % 4095 by omega]
  · unfold addA; rw [if_pos he]
theorem fl_next : nxtV (fl 1000) 0 = 1 := by
  refine nxtV_eq (fun x hx => ?_) ⟨((0 : Nat), 1 + 0 * 7 % 4095, 0), fl_mem.2 ⟨0, by decide, rfl⟩, rfl⟩ fun x hx => ?_
  · obtain ⟨i, hi, rfl⟩ := fl_mem.1 hx; simp only; omega
  · obtain ⟨i, hi, rfl⟩ := fl_mem.1 hx; simp only; omega
theorem fl_more (id after : Int) (h : 1 ≤ after ∧ after ≤ 4095) : addE (fl 1000) id after = (if 0 ≤ id ∧ id < 1000 then 160 else 161) ∧ addL (fl 1000) 0 1000 id after = fl 1000 ∧ addA (fl 1000) 1000 id after = 1000 := by
  have he : addE (fl 1000) id after = (if 0 ≤ id ∧ id < 1000 then 160 else 161) := by
    unfold addE
    rw [if_neg (by omega)]
    by_cases hc : 0 ≤ id ∧ id < 1000
    · rw [if_pos hc, if_pos (fl_at.2 (by omega))]
    · rw [if_neg hc, if_neg (fun e => hc (by have := fl_at.1 e; omega)), if_pos (by rw [fl_len]; exact Nat.le_refl _)]
  have h0 : ¬ addE (fl 1000) id after = 0 := by rw [he]; split <;> decide
  exact ⟨he, by unfold addL; rw [if_neg h0], by unfold addA; rw [if_neg h0]⟩
/-- A thousand that wait. -/
structure Thou (L1 : List TmI) : Prop where
  nd : (L1.map Prod.fst).Nodup
  len : L1.length = 1000
  pos : ∀ x ∈ L1, 0 ≤ x.1
  ids : ∀ k : Nat, k < 1000 → ∃ x ∈ L1, x.1 = (k : Int)
  nxt : nxtV L1 0 = 1
  more : ∀ id after : Int, 1 ≤ after ∧ after ≤ 4095 → addE L1 id after = (if 0 ≤ id ∧ id < 1000 then 160 else 161) ∧ addL L1 0 1000 id after = L1 ∧ addA L1 1000 id after = 1000
theorem thou : Thou (fl 1000) := by
  refine ⟨?_, fl_len _, fun x hx => ?_, fun k hk => ⟨_, fl_mem.2 ⟨k, hk, rfl⟩, rfl⟩, fl_next, fun id after h => fl_more id after h⟩
  · unfold fl
    rw [List.map_map]
    refine List.Pairwise.map _ ?_ (List.nodup_range)
    intro a b hab e
    exact hab (Int.ofNat.inj e)
  · obtain ⟨i, hi, rfl⟩ := fl_mem.1 hx
    simp only; omega
/-- One let go, one more added. -/
structure Aft (L1 : List TmI) (k after : Nat) (L2 L3 : List TmI) : Prop where
  l2 : canL L1 (k : Int) = L2
  w1 : decide (wAt L1 (k : Int) ≠ 0) = true
  e2 : addE L2 (-7) (after : Int) = 0
  l3 : addL L2 0 1000 (-7) (after : Int) = L3
  a3 : addA L2 1000 (-7) (after : Int) = 1001
  e3 : addE L3 (-8) (after : Int) = 161
  l4 : addL L3 0 1001 (-8) (after : Int) = L3
  a4 : addA L3 1001 (-8) (after : Int) = 1001
  lf : lftV L3 0 (-7) = (after : Int)
  wt : decide (wAt L3 (-7) ≠ 0) = true
  ln : L3.length = 1000
theorem aft {L1 : List TmI} (h1 : Thou L1) (k after : Nat) (hk : k < 1000) (ha : 1 ≤ after ∧ after ≤ 4095) : ∃ L2 L3, Aft L1 k after L2 L3 := by
  obtain ⟨hnd, hlen1, hm1, hids, -, -⟩ := h1
  obtain ⟨xk, hxk, exk⟩ := hids k hk
  have hw1 : decide (wAt L1 (k : Int) ≠ 0) = true := by
    simp
    exact fun e => wAt_zero.1 e xk hxk exk
  have hlen : (canL L1 (k : Int)).length + 1 = 1000 := by
    have := can_len hnd hxk
    rw [exk, hlen1] at this
    exact this
  have hm : ∀ x ∈ canL L1 (k : Int), 0 ≤ x.1 := fun x hx => hm1 x (canL_iff.1 hx).1
  have hnd2 : ((canL L1 (k : Int) ++ [((-7 : Int), after, 1000)]).map Prod.fst).Nodup := by
    rw [List.map_append, List.nodup_append]
    refine ⟨hnd.sublist (List.filter_sublist.map _), by simp, fun a ha b hb e => ?_⟩
    obtain ⟨x, hx, rfl⟩ := List.mem_map.1 ha
    have := hm x hx
    simp at hb
    omega
  obtain ⟨L2, hL2⟩ : ∃ L2, canL L1 (k : Int) = L2 := ⟨_, rfl⟩
  rw [hL2] at hlen hm hnd2
  have e2 : addE L2 (-7) (after : Int) = 0 := by
    unfold addE
    rw [if_neg (by omega), if_neg, if_neg (by omega)]
    intro h
    exact h (wAt_zero.2 fun x hx e => by have := hm x hx; omega)
  have l3 : addL L2 0 1000 (-7) (after : Int) = L2 ++ [(-7, after, 1000)] := by
    unfold addL; rw [if_pos e2]; simp
  have ln : (L2 ++ [((-7 : Int), after, 1000)]).length = 1000 := by rw [List.length_append]; exact hlen
  have e3 : addE (L2 ++ [((-7 : Int), after, 1000)]) (-8) (after : Int) = 161 := by
    unfold addE
    rw [if_neg (by omega), if_neg, if_pos (by omega)]
    intro h
    refine h (wAt_zero.2 fun x hx e => ?_)
    rcases List.mem_append.1 hx with hx | hx
    · have := hm x hx; omega
    · simp at hx; rw [hx] at e; simp at e
  have hlf := lft_is (t := 0) hnd2 (x := (-7, after, 1000)) (by simp)
  refine ⟨L2, L2 ++ [(-7, after, 1000)], hL2, hw1, e2, l3, by unfold addA; rw [if_pos e2], e3, by unfold addL; rw [e3]; rfl, by unfold addA; rw [e3]; rfl, ?_, ?_, ln⟩
  · rw [hlf.1]; simp
  · simpa using hlf.2
set_option maxRecDepth 100000 in
set_option maxHeartbeats 8000000 in
theorem walk (w : World) (a0 : Int) (w0 : (Lit.int .i64 a0).wf = true) (a1 : Int) (w1 : (Lit.int .i64 a1).wf = true) (a2 : Int) (w2 : (Lit.int .i64 a2).wf = true) :
    Calls Try.prog 6 #[.int .i64 a0, .int .i64 a1, .int .i64 a2] w fun e w' => e = .returned (.bool true) ∧ Below w.heap.size w w' := by
  have hb1 := i64_bd w1
  have hb2 := i64_bd w2
  have hn1 := fun h => abs_neg (c := a1) w1 h
  have hn2 := fun h => abs_neg (c := a2) w2 h
  have hp1 := fun h => abs_pos (c := a1) h
  have hp2 := fun h => abs_pos (c := a2) h
  have hl1 := absI_le w1
  have hl2 := absI_le w2
  obtain ⟨y1, hy1⟩ : ∃ y, absI a1 = y := ⟨_, rfl⟩
  obtain ⟨y2, hy2⟩ : ∃ y, absI a2 = y := ⟨_, rfl⟩
  rw [hy1] at hn1 hp1 hl1
  rw [hy2] at hn2 hp2 hl2
  obtain ⟨q, hq⟩ : ∃ q, y1 % 4095 = q := ⟨_, rfl⟩
  have hq9 : q < 4095 := by rw [← hq]; exact Nat.mod_lt _ (by decide)
  obtain ⟨k, hk⟩ : ∃ k, y2 % 1000 = k := ⟨_, rfl⟩
  have hk9 : k < 1000 := by rw [← hk]; exact Nat.mod_lt _ (by decide)
  have r1 : Int.tmod (y1 : Int) 4095 = (q : Int) := by rw [show (4095 : Int) = ((4095 : Nat) : Int) from rfl, rem_nat, hq]
  have r2 : Int.tmod (y2 : Int) 1000 = (k : Int) := by rw [show (1000 : Int) = ((1000 : Nat) : Int) from rfl, rem_nat, hk]
  have r3 : IntKind.i64.wrap (q : Int) = (q : Int) := by rw [IntKind.wrap_i64]; omega
  have r4 : IntKind.i64.wrap (1 + (q : Int)) = ((q + 1 : Nat) : Int) := by rw [IntKind.wrap_i64]; omega
  have r5 : IntKind.i64.wrap (k : Int) = (k : Int) := by rw [IntKind.wrap_i64]; omega
  obtain ⟨af, haf⟩ : ∃ af, q + 1 = af := ⟨_, rfl⟩
  rw [haf] at r4
  have haf9 : 1 ≤ af ∧ af ≤ 4095 := by omega
  have HTh : ∃ L1, Hid (fl 1000 = L1) ∧ Hid (Thou L1) := ⟨_, Lib.hid rfl, Lib.hid thou⟩
  obtain ⟨L1, HL1, HTh⟩ := HTh
  obtain ⟨L2, L3, hAf⟩ := aft HTh.out k af hk9 haf9
  have HAf := Lib.hid hAf
  obtain ⟨mo, hmo⟩ : ∃ mo : Int, (if 0 ≤ a0 ∧ a0 < 1000 then 160 else 161) = mo := ⟨_, rfl⟩
  have HMo := Lib.hid (HTh.out.more a0 (af : Int) (by omega))
  rw [hmo] at HMo
  have HM := Lib.hid hmo
  have HRs := Lib.hid (And.intro r2 r5)
  have HRt := Lib.hid (And.intro r1 (And.intro r3 r4))
  clear hb1 hb2 w0 w1 w2 hl1 hl2 hy1 hy2 hq hk hq9 hk9 haf haf9 hAf hmo r2 r5
  go_enter Try.func6, Try.ntmps6
  go_wp2_with fail
  refine Calls.mono (awake_yes w) ?_
  rintro e x1 ⟨rfl, hb1⟩
  have B1 := Lib.hid hb1
  have HNw := Lib.hid (newS x1)
  clear hb1
  go_wp2_with fail
  refine Calls.mono HNw.out ?_
  rintro e x2 ⟨p, F2, rfl, hE⟩
  have E2 : Hid (Std w x2 p 0 0 (fl 0) F2) := Lib.hid ⟨hE.wh, B1.out.trans (hE.bel.mono B1.out.size), fun s h => Nat.le_trans B1.out.size (hE.abv s h)⟩
  clear hE HNw
  go_upto_if 29 with fail
  go_cut [1] (fun s1 wx => s1 = .int .i64 (y1 : Int) ∧ wx = x2)
  case first =>
    by_cases c1 : a1 < 0
    · obtain ⟨u1, u2⟩ := hn1 c1
      go_wp2_with fail
      go_meet
      exact ⟨rfl, rfl⟩
    · have u5 := hp1 (by omega)
      subst u5
      go_wp2_with fail
      go_meet
      exact ⟨rfl, rfl⟩
  case rest =>
  obtain ⟨rfl, rfl⟩ := hcut
  clear hn1 hp1
  go_upto_if 37 with fail
  go_cut [2] (fun s2 wx => s2 = .int .i64 (y2 : Int) ∧ wx = wc)
  case first =>
    by_cases c2 : a2 < 0
    · obtain ⟨u1, u2⟩ := hn2 c2
      go_wp2_with fail
      go_meet
      exact ⟨rfl, rfl⟩
    · have u5 := hp2 (by omega)
      subst u5
      go_wp2_with fail
      go_meet
      exact ⟨rfl, rfl⟩
  case rest =>
  obtain ⟨rfl, rfl⟩ := hcut
  clear hn2 hp2 r1 r3 r4
  go_wp2
  go_loopw [9] (fun iv wr => ∃ (j : Nat) (F : List Nat), iv = .int .i64 (j : Int) ∧ j ≤ 1000 ∧ Hid (Std w wr p 0 j (fl j) F)) (fun iv _ => 1000 - (intOf iv).toNat)
  case atStart => exact ⟨0, F2, rfl, Nat.zero_le _, E2⟩
  case round =>
    obtain ⟨j, F, rfl, hj, hE⟩ := hrel
    by_cases hlt : j < 1000
    · have jI : (j : Int) < 1000 := by omega
      obtain ⟨d, hd⟩ : ∃ d, j * 7 % 4095 = d := ⟨_, rfl⟩
      have hd9 : d < 4095 := by rw [← hd]; exact Nat.mod_lt _ (by decide)
      have s0 : IntKind.i64.wrap ((j : Int) * 7) = (j : Int) * 7 := by rw [IntKind.wrap_i64]; omega
      have s1 : Int.tmod ((j : Int) * 7) 4095 = (d : Int) := by rw [show (j : Int) * 7 = ((j * 7 : Nat) : Int) by omega, show (4095 : Int) = ((4095 : Nat) : Int) from rfl, rem_nat, hd]
      have s2 : IntKind.i64.wrap (d : Int) = (d : Int) := by rw [IntKind.wrap_i64]; omega
      have s3 : IntKind.i64.wrap (1 + (d : Int)) = 1 + (d : Int) := by rw [IntKind.wrap_i64]; omega
      have s4 : IntKind.i64.wrap ((j : Int) + 1) = (j : Int) + 1 := by rw [IntKind.wrap_i64]; omega
      have hfa := fl_add hlt
      rw [hd] at hfa
      have hA := hE.out.add (j : Int) (1 + (d : Int)) (by decide) (by omega)
      rw [hfa.1, hfa.2.1, hfa.2.2] at hA
      have HA := Lib.hid hA
      clear hd hfa hA
      go_wp2_with fail
      refine Calls.mono HA.out ?_
      rintro e w3 ⟨rfl, F3, hE3, -⟩
      have E3 := Lib.hid hE3
      clear hE3 HA
      go_wp2
      go_roundw
      case rel => exact ⟨j + 1, F3, by go_num, hlt, E3⟩
      case measure => simp [intOf]; omega
    · have jI : ¬ (j : Int) < 1000 := by omega
      have hE3 : Std w wr p 0 1000 L1 F := by have := hE.out; rw [show j = 1000 by omega, HL1.out] at this; exact this
      have HNx := hE3.next (by decide)
      rw [HTh.out.nxt] at HNx
      have HNx := Lib.hid HNx
      clear hE3
      go_wp2_with fail
      refine Calls.mono HNx.out ?_
      rintro e w4 ⟨rfl, hE4, -⟩
      have hA := hE4.add a0 (af : Int) (by decide) (by decide)
      rw [HMo.out.1, HMo.out.2.1, HMo.out.2.2] at hA
      have HA := Lib.hid hA
      clear hE4 HNx hA
      obtain ⟨ob, hob⟩ : ∃ ob : Bool, decide (a0 < 0 ∨ 1000 ≤ a0) = ob := ⟨_, rfl⟩
      have HOb := Lib.hid hob
      clear hob
      go_upto_region 17 with fail
      go_cut [12] (fun s12 wx => s12 = .bool ob ∧ wx = w4)
      case first =>
        by_cases d1 : a0 < 0
        · go_wp2_with fail
          go_meet
          exact ⟨by rw [← HOb.out, decide_eq_true (.inl d1)], rfl⟩
        · by_cases d2 : 1000 ≤ a0
          · go_wp2_with fail
            go_meet
            exact ⟨by rw [← HOb.out, decide_eq_true (.inr d2)], rfl⟩
          · go_wp2_with fail
            go_meet
            exact ⟨by rw [← HOb.out, decide_eq_false (by omega)], rfl⟩
      case rest =>
      obtain ⟨rfl, rfl⟩ := hcut
      have hmo : mo = if ob then 161 else 160 := by
        rw [← HM.out, ← HOb.out]
        by_cases d : a0 < 0 ∨ 1000 ≤ a0
        · rw [decide_eq_true d, if_neg (by omega)]; rfl
        · rw [decide_eq_false d, if_pos (by omega)]; rfl
      have HMb := Lib.hid hmo
      clear hmo
      go_wp2_with fail
      refine Calls.mono HA.out ?_
      rintro e w5 ⟨rfl, F5, hE5, -⟩
      have hC := hE5.cancel (k : Int) (by decide)
      rw [HAf.out.w1, HAf.out.l2] at hC
      have HC := Lib.hid hC
      have r2 := HRs.out.1
      have r5 := HRs.out.2
      clear hE5 HA hC
      go_wp2_with fail
      refine Calls.mono HC.out ?_
      rintro e w6 ⟨rfl, F6, hE6, -⟩
      have hA := hE6.add (-7) (af : Int) (by decide) (by decide)
      rw [HAf.out.e2, HAf.out.l3, HAf.out.a3] at hA
      have HA := Lib.hid hA
      clear hE6 HC r2 r5 hA
      go_wp2_with fail
      refine Calls.mono HA.out ?_
      rintro e w7 ⟨rfl, F7, hE7, -⟩
      have hA2 := hE7.add (-8) (af : Int) (by decide) (by decide)
      rw [HAf.out.e3, HAf.out.l4, HAf.out.a4] at hA2
      have HA2 := Lib.hid hA2
      clear hE7 HA hA2
      go_wp2_with fail
      refine Calls.mono HA2.out ?_
      rintro e w8 ⟨rfl, F8, hE8, -⟩
      have hLf := hE8.left (-7) (by decide)
      rw [HAf.out.lf, HAf.out.wt] at hLf
      have HLf := Lib.hid hLf
      clear hE8 HA2 hLf
      go_wp2_with fail
      refine Calls.mono HLf.out ?_
      rintro e w9 ⟨rfl, hE9, -⟩
      have E9 := Lib.hid hE9
      have hLn := hE9.len
      rw [HAf.out.ln] at hLn
      have HLn := Lib.hid hLn
      clear hE9 HLf hLn
      cases ob
      · have hmo : mo = 160 := HMb.out
        subst hmo
        go_wp2_with fail
        refine Calls.mono HLn.out ?_
        rintro e w10 ⟨rfl, rfl⟩
        go_wp2
        go_ret
        exact ⟨rfl, E9.out.bel⟩
      · have hmo : mo = 161 := HMb.out
        subst hmo
        go_wp2_with fail
        refine Calls.mono HLn.out ?_
        rintro e w10 ⟨rfl, rfl⟩
        go_wp2
        go_ret
        exact ⟨rfl, E9.out.bel⟩
set_option maxRecDepth 100000 in
theorem contract (H : Type) (enc : TypeId × Value → H) (W : World) (base : Nat) (args : Array Value) (ds gs : List (DataW H)) (before : List MemPlace)
    (hval0 : ∀ (j : Nat) t v, Try.f6.params[j]? = some t → args[j]? = some v → Value.okWide Try.prog W .any base t v)
    (hW : DataW.Whole enc Try.prog Try.f6.params.toList Rows.wheelFullSpec.vars false W args.toList ds gs before)
    (hsz0 : (DataW.weightsEach Try.prog (Try.f6.params.toList ++ Rows.wheelFullSpec.plain.varTypes Try.prog) (ds ++ gs)).all (· ≤ reachBytes) = true) :
    Calls Try.prog 6 args W fun e W' => ∃ v, e = .returned v ∧ Rows.wheelFullSpec.post enc Try.prog Try.f6 false true false false W args v W' := by
  have hsz := hsz0
  clear hsz0
  have hval := hval0
  clear hval0
  have hW' := hW
  obtain ⟨p, q, hA0, hV, rfl, hfz, hnd⟩ := hW
  have hA : DataW.TrodAll enc Try.prog W 0 (fun _ => true) true Try.f6.params.toList args.toList ds p := hA0
  rw [Try.params6] at hA hval hsz
  obtain ⟨v0, vs0, d0, ds0, p0, q0, hargs, rfl, rfl, h0, r0⟩ := trodAll_cons hA
  obtain ⟨v1, vs1, d1, ds1, p1, q1, rfl, rfl, rfl, h1, r1⟩ := trodAll_cons r0
  obtain ⟨v2, vs2, d2, ds2, p2, q2, rfl, rfl, rfl, h2, r2⟩ := trodAll_cons r1
  obtain ⟨rfl, rfl, rfl⟩ := trodAll_nil r2
  obtain rfl : args = #[v0, v1, v2] := by cases args; simp_all
  obtain ⟨rfl, rfl⟩ := trodVars_none hV
  obtain ⟨a0, rfl, rfl, rfl, w0⟩ := open_int Try.underlying3 (hval 0 3 v0 rfl rfl) h0
  obtain ⟨a1, rfl, rfl, rfl, w1⟩ := open_int Try.underlying3 (hval 1 3 v1 rfl rfl) h1
  obtain ⟨a2, rfl, rfl, rfl, w2⟩ := open_int Try.underlying3 (hval 2 3 v2 rfl rfl) h2
  clear hA0
  refine (walk W a0 w0 a1 w1 a2 w2).mono fun e W' ⟨he, bel⟩ => ?_
  subst he
  exact ⟨_, rfl, _, _, _, [], _, [], hW', trodAll_mk1 (shut_bool Try.underlying4 _), (trodAll_cons_mk (shut_int Try.underlying3 w0) (trodAll_cons_mk (shut_int Try.underlying3 w1) (trodAll_cons_mk (shut_int Try.underlying3 w2) trodAll_mk0))), rfl, bel.frame _, fun h => by cases h⟩

set_option maxRecDepth 100000 in
theorem lifted (os : Os) (started : os.Started) (H : Type) (enc : TypeId × Value → H) :
    ReturnsInHanded {} Try.checked os 6 .any (Rows.wheelFullSpec.pre6 enc Try.prog Try.f6 Rows.wheelFullRow.domain false) (Rows.wheelFullSpec.post enc Try.prog Try.f6 false true false false) := by
  refine returnsInHanded_of_change_sized (C := Try.checked) own started (by kernel_rfl) Try.func6
    (ChangeSpec.witness6 (enc := enc) (C := Try.checked) false ⟨#[], #[.int .i64 0, .int .i64 0, .int .i64 0], []⟩ 8 (by kernel_rfl) (by kernel_rfl) (by kernel_rfl) (by kernel_rfl)) ?_
  intro W base args ds gs before hval hW _ hsz _
  exact contract H enc W base args ds gs before hval hW hsz

theorem over : Rows.wheelFullRow.holds Try.pinned (OpenSpec.ofChange Rows.wheelFullSpec) :=
  OpenClaim.holds_of_wide 6 Try.f6 rfl rfl rfl rfl rfl rfl rfl ⟨rfl, rfl, rfl, rfl, rfl⟩ rfl rfl rfl rfl rfl (by kernel_rfl) Try.func6 (by kernel_rfl)
    (of_decide_eq_true (by kernel_rfl)) (by unfold Func.isWrapper; first | (rw [if_pos (by decide +kernel)]; kernel_rfl) | (rw [if_neg (by decide +kernel)]; exact ⟨rfl, rfl⟩))
    (fun os started H enc _ => lifted os started H enc)

theorem proved : Rows.WheelFullSaid := over
#print axioms proved
end WFul
end Go.Proofs.Ythkjfgegmbdebaa
