/-
  crosswaylaw17.WheelBusy returns true for every input, and leaves its arguments alone.
  Conditions: none of our own.
-/
import Derived.Test.YthkjfgegmbdebaaWhK
import Derived.Deep.DeepCutAuto
namespace Go.Proofs.Ythkjfgegmbdebaa
open Go.ChangeShapes Go.WideShapes Go.ChangeAt Go.RowKit
set_option linter.unusedVariables false
namespace WBus
/-- Those from c on that wait, of N. -/
def bl (T s c N : Nat) : List TmI := (List.range' c (N - c)).map fun (j : Nat) => ((j : Int), T + 1 + j * s, j)
theorem bl_mem {T s c N : Nat} {x : TmI} : x ∈ bl T s c N ↔ ∃ j, c ≤ j ∧ j < N ∧ x = ((j : Int), T + 1 + j * s, j) := by
  unfold bl
  rw [List.mem_map]
  constructor
  · rintro ⟨j, hj, rfl⟩
    have := List.mem_range'_1.1 hj
    exact ⟨j, by omega, by omega, rfl⟩
  · rintro ⟨j, h1, h2, rfl⟩
    exact ⟨j, List.mem_range'_1.2 ⟨h1, by omega⟩, rfl⟩
theorem bl_nil (T s N : Nat) : bl T s N N = [] := by unfold bl; rw [Nat.sub_self]; rfl
theorem bl_cons {T s c N : Nat} (h : c < N) : bl T s c N = ((c : Int), T + 1 + c * s, c) :: bl T s (c + 1) N := by
  unfold bl
  rw [show N - c = (N - (c + 1)) + 1 by omega, List.range'_succ]
  rfl
theorem bl_app {T s N : Nat} : bl T s 0 (N + 1) = bl T s 0 N ++ [((N : Int), T + 1 + N * s, N)] := by
  unfold bl
  rw [show N + 1 - 0 = N + 1 by omega, Nat.sub_zero, List.range'_1_concat, List.map_append, Nat.zero_add]
  rfl
theorem bl_len (T s c N : Nat) : (bl T s c N).length = N - c := by unfold bl; simp
theorem bl_add {T s k : Nat} (hk : k < 200) (hz : 1 + k * s ≤ 4095) : addE (bl T s 0 k) k (1 + ((k * s : Nat) : Int)) = 0 ∧ addL (bl T s 0 k) T k k (1 + ((k * s : Nat) : Int)) = bl T s 0 (k + 1) ∧ addA (bl T s 0 k) k k (1 + ((k * s : Nat) : Int)) = k + 1 := by
  obtain ⟨z, hzz⟩ : ∃ z, k * s = z := ⟨_, rfl⟩
  have he : addE (bl T s 0 k) k (1 + ((k * s : Nat) : Int)) = 0 := by
    unfold addE
    rw [if_neg (by omega), if_neg, if_neg (by rw [bl_len]; omega)]
    intro h
    refine h (wAt_zero.2 fun x hx e => ?_)
    obtain ⟨j, h1, h2, rfl⟩ := bl_mem.1 hx
    simp only at e
    omega
  refine ⟨he, ?_, ?_⟩
  · unfold addL
    rw [if_pos he, bl_app, show T + (1 + ((k * s : Nat) : Int)).toNat = T + 1 + k * s by omega]
  · unfold addA; rw [if_pos he]
theorem bl_off {T s c N t : Nat} (h : c < N → t < T + 1 + c * s) : dueL (bl T s c N) t = [] ∧ tikL (bl T s c N) t = bl T s c N := by
  have h1 : ∀ x ∈ bl T s c N, x.2.1 ≠ t := fun x hx e => by
    obtain ⟨j, h1, h2, rfl⟩ := bl_mem.1 hx
    simp only at e
    have h3 := Nat.mul_le_mul_right s h1
    have := h (by omega)
    omega
  constructor
  · unfold dueL; rw [List.filter_eq_nil_iff]; intro x hx; simpa using h1 x hx
  · unfold tikL; rw [List.filter_eq_self]; intro x hx; simpa using h1 x hx
theorem bl_on {T s c N t : Nat} (hs : 1 ≤ s) (h : c < N) (ht : t = T + 1 + c * s) : dueL (bl T s c N) t = [((c : Int), T + 1 + c * s, c)] ∧ tikL (bl T s c N) t = bl T s (c + 1) N := by
  subst ht
  have h9 : (c + 1) * s = c * s + s := Nat.succ_mul c s
  obtain ⟨o1, o2⟩ := bl_off (T := T) (s := s) (c := c + 1) (N := N) (t := T + 1 + c * s) (fun _ => by omega)
  rw [bl_cons h]
  unfold dueL tikL at *
  constructor
  · rw [List.filter_cons_of_pos (by simp), o1]
  · rw [List.filter_cons_of_neg (by simp), o2]
set_option maxRecDepth 100000 in
set_option maxHeartbeats 8000000 in
theorem walk (w : World) (a0 : Int) (w0 : (Lit.int .i64 a0).wf = true) (a1 : Int) (w1 : (Lit.int .i64 a1).wf = true) :
    Calls Try.prog 7 #[.int .i64 a0, .int .i64 a1] w fun e w' => e = .returned (.bool true) ∧ Below w.heap.size w w' := by
  have hb1 := i64_bd w0
  have hb2 := i64_bd w1
  have hn1 := fun h => abs_neg (c := a0) w0 h
  have hn2 := fun h => abs_neg (c := a1) w1 h
  have hp1 := fun h => abs_pos (c := a0) h
  have hp2 := fun h => abs_pos (c := a1) h
  have hl1 := absI_le w0
  have hl2 := absI_le w1
  obtain ⟨y1, hy1⟩ : ∃ y, absI a0 = y := ⟨_, rfl⟩
  obtain ⟨y2, hy2⟩ : ∃ y, absI a1 = y := ⟨_, rfl⟩
  rw [hy1] at hn1 hp1 hl1
  rw [hy2] at hn2 hp2 hl2
  obtain ⟨T, hT⟩ : ∃ q, y1 % 5000 = q := ⟨_, rfl⟩
  have hT9 : T < 5000 := by rw [← hT]; exact Nat.mod_lt _ (by decide)
  obtain ⟨q, hq⟩ : ∃ k, y2 % 300 = k := ⟨_, rfl⟩
  have hq9 : q < 300 := by rw [← hq]; exact Nat.mod_lt _ (by decide)
  obtain ⟨s, hs⟩ : ∃ s, q + 1 = s := ⟨_, rfl⟩
  have r1 : Int.tmod (y1 : Int) 5000 = (T : Int) := by rw [show (5000 : Int) = ((5000 : Nat) : Int) from rfl, rem_nat, hT]
  have r2 : Int.tmod (y2 : Int) 300 = (q : Int) := by rw [show (300 : Int) = ((300 : Nat) : Int) from rfl, rem_nat, hq]
  have r3 : IntKind.i64.wrap (T : Int) = (T : Int) := by rw [IntKind.wrap_i64]; omega
  have r4 : IntKind.i64.wrap (q : Int) = (q : Int) := by rw [IntKind.wrap_i64]; omega
  have r5 : IntKind.i64.wrap (1 + (q : Int)) = (s : Int) := by rw [IntKind.wrap_i64]; omega
  have HC := Lib.hid (And.intro hT9 (show 1 ≤ s ∧ s ≤ 300 by omega))
  have HRs := Lib.hid (And.intro r2 (And.intro r4 r5))
  have HRt := Lib.hid (And.intro r1 r3)
  clear hb1 hb2 w0 w1 hl1 hl2 hy1 hy2 hT hq hT9 hq9 hs r1 r2 r3 r4 r5
  go_enter Try.func7, Try.ntmps7
  go_wp2_with fail
  refine Calls.mono (awake_yes w) ?_
  rintro e x1 ⟨rfl, hb1⟩
  have B1 := Lib.hid hb1
  have HNw := Lib.hid (newS x1)
  clear hb1
  go_wp2_with fail
  refine Calls.mono HNw.out ?_
  rintro e x2 ⟨p, F2, rfl, hE⟩
  have E2 : Hid (Std w x2 p 0 0 [] F2) := Lib.hid ⟨hE.wh, B1.out.trans (hE.bel.mono B1.out.size), fun s h => Nat.le_trans B1.out.size (hE.abv s h)⟩
  clear hE HNw
  go_upto_if 23 with fail
  go_cut [0] (fun s1 wx => s1 = .int .i64 (y1 : Int) ∧ wx = x2)
  case first =>
    by_cases c1 : a0 < 0
    · obtain ⟨u1, u2⟩ := hn1 c1
      go_wp2_with fail
      go_meet
      exact ⟨rfl, rfl⟩
    · have u5 := hp1 (by omega)
      subst u5
      go_wp2_with fail
      go_meet
      exact ⟨rfl, rfl⟩
  case rest =>
  obtain ⟨rfl, rfl⟩ := hcut
  clear hn1 hp1
  go_upto_if 28 with fail
  go_cut [1] (fun s2 wx => s2 = .int .i64 (y2 : Int) ∧ wx = wc)
  case first =>
    by_cases c2 : a1 < 0
    · obtain ⟨u1, u2⟩ := hn2 c2
      go_wp2_with fail
      go_meet
      exact ⟨rfl, rfl⟩
    · have u5 := hp2 (by omega)
      subst u5
      go_wp2_with fail
      go_meet
      exact ⟨rfl, rfl⟩
  case rest =>
  obtain ⟨rfl, rfl⟩ := hcut
  clear hn2 hp2
  go_wp2
  go_loopw [7] (fun iv wr => ∃ (j : Nat) (F : List Nat), iv = .int .i64 (j : Int) ∧ j ≤ T ∧ Hid (Std w wr p j 0 [] F)) (fun iv _ => T - (intOf iv).toNat)
  case atStart => exact ⟨0, F2, rfl, Nat.zero_le _, E2⟩
  case round =>
    obtain ⟨j, F, rfl, hj, hE⟩ := hrel
    have r1 := HRt.out.1
    have r3 := HRt.out.2
    by_cases hlt : j < T
    · have jI : (j : Int) < (T : Int) := by omega
      have j1 : IntKind.i64.wrap ((j : Int) + 1) = (j : Int) + 1 := by have := HC.out; rw [IntKind.wrap_i64]; omega
      have HTi := Lib.hid (hE.out.tick (by have := HC.out; omega))
      go_wp2_with fail
      refine Calls.mono HTi.out ?_
      rintro e w5 ⟨A5, c5, F5, rfl, hE5, -, -⟩
      have E5 : Hid (Std w w5 p (j + 1) 0 [] F5) := Lib.hid hE5
      clear hE5 HTi
      have d0 : (dueL [] (j + 1)).length = 0 := rfl
      rw [d0]
      go_wp2
      go_roundw
      case rel => exact ⟨j + 1, F5, by go_num, hlt, E5⟩
      case measure => simp [intOf]; omega
    · have jI : ¬ (j : Int) < (T : Int) := by omega
      have r2 := HRs.out.1
      have r4 := HRs.out.2.1
      have r5 := HRs.out.2.2
      have E0 : Hid (Std w wr p T 0 (bl T s 0 0) F) := Lib.hid (by have := hE.out; rw [show j = T by omega] at this; exact this)
      clear hE
      go_wp2
      clear r1 r3 r2 r4 r5 jI
      go_loopw [8, 9] (fun nv kv wr2 => ∃ (k : Nat) (F : List Nat), nv = .int .i64 (k : Int) ∧ kv = .int .i64 (k : Int) ∧ k ≤ 200 ∧ Hid (∀ j, j < k → 1 + j * s ≤ 4095) ∧ Hid (Std w wr2 p T k (bl T s 0 k) F)) (fun _ kv _ => 200 - (intOf kv).toNat)
      case atStart => exact ⟨0, F, rfl, rfl, Nat.zero_le _, Lib.hid (fun j hj => by omega), E0⟩
      case round =>
        obtain ⟨k, F, rfl, rfl, hk, hJ, hE⟩ := hrel
        have hks : k * s ≤ 200 * 300 := Nat.mul_le_mul hk HC.out.2.2
        obtain ⟨z, hz⟩ : ∃ z, k * s = z := ⟨_, rfl⟩
        rw [hz] at hks
        have s1 : IntKind.i64.wrap ((k : Int) * (s : Int)) = (z : Int) := by
          have : ((k : Int) * (s : Int)) = ((k * s : Nat) : Int) := by rw [Int.natCast_mul]
          rw [this, hz, IntKind.wrap_i64]; omega
        have s2 : IntKind.i64.wrap (1 + (z : Int)) = 1 + (z : Int) := by rw [IntKind.wrap_i64]; omega
        have s3 : IntKind.i64.wrap ((k : Int) + 1) = (k : Int) + 1 := by rw [IntKind.wrap_i64]; omega
        by_cases hgo : k < 200 ∧ 1 + z ≤ 4095
        · obtain ⟨g1, g2⟩ := hgo
          have kI : (k : Int) < 200 := by omega
          have zI : 1 + (z : Int) ≤ 4095 := by omega
          have hfa := bl_add (T := T) (s := s) g1 (by rw [hz]; exact g2)
          rw [hz] at hfa
          have hA := hE.out.add (k : Int) (1 + (z : Int)) (by have := HC.out; omega) (by omega)
          rw [hfa.1, hfa.2.1, hfa.2.2] at hA
          have HA := Lib.hid hA
          have HJ2 : Hid (∀ j, j < k + 1 → 1 + j * s ≤ 4095) := Lib.hid (fun j hj => by
            by_cases e : j = k
            · rw [e, hz]; exact g2
            · exact hJ.out j (by omega))
          clear hfa hA hz hks
          go_wp2_with fail
          refine Calls.mono HA.out ?_
          rintro e w3 ⟨rfl, F3, hE3, -⟩
          have E3 := Lib.hid hE3
          clear hE3 HA
          go_wp2
          go_roundw
          case rel => exact ⟨k + 1, F3, by go_num, by go_num, g1, HJ2, E3⟩
          case measure => simp [intOf]; omega
        · have hE0 := hE
          have HN : Hid (1 ≤ k ∧ k ≤ 200) := Lib.hid ⟨by
            refine Nat.pos_of_ne_zero fun e => hgo ?_
            rw [e, Nat.zero_mul] at hz
            omega, hk⟩
          by_cases g1 : k < 200
          · have kI : (k : Int) < 200 := by omega
            have zI : ¬ 1 + (z : Int) ≤ 4095 := by omega
            clear hgo hz hks
            go_wp2
            clear kI zI s1 s2 s3 g1
            go_loopw [11, 12] (fun cv iv wr3 => ∃ (c i : Nat) (F : List Nat), cv = .int .i64 (c : Int) ∧ iv = .int .i64 (i : Int) ∧ c ≤ k ∧ 1 ≤ i ∧ i ≤ 4096 ∧ Hid ((c < k → i ≤ c * s + 1) ∧ (∀ c', c = c' + 1 → c' * s + 1 < i)) ∧ Hid (Std w wr3 p (T + (i - 1)) k (bl T s c k) F)) (fun _ iv _ => 4097 - (intOf iv).toNat)
            case atStart => exact ⟨0, 1, F, rfl, rfl, Nat.zero_le _, by decide, by decide, Lib.hid ⟨fun _ => by omega, fun c' h => by omega⟩, hE0⟩
            case round =>
              obtain ⟨c, i, F, rfl, rfl, hck, hi1, hi2, hB, hE⟩ := hrel
              by_cases hc : c < k
              · have cI : (c : Int) < (k : Int) := by omega
                have hz := hJ.out c hc
                have hb := hB.out.1 hc
                obtain ⟨z, hzz⟩ : ∃ z, c * s = z := ⟨_, rfl⟩
                rw [hzz] at hz hb
                have iI : (i : Int) < 4097 := by omega
                obtain ⟨i1, hi11⟩ : ∃ i1, i - 1 = i1 := ⟨_, rfl⟩
                have s1 : IntKind.i64.wrap ((i : Int) - 1) = (i1 : Int) := by rw [IntKind.wrap_i64]; omega
                have s2 : IntKind.i64.wrap ((i : Int) + 1) = (i : Int) + 1 := by rw [IntKind.wrap_i64]; omega
                have s0 : ¬ (s : Int) = 0 := by have := HC.out; omega
                have hT := hE.out.tick (by have := HC.out; omega)
                rw [hi11] at hT
                obtain ⟨r, hr⟩ : ∃ r, i1 % s = r := ⟨_, rfl⟩
                have hrs : r < s := by rw [← hr]; exact Nat.mod_lt _ (by have := HC.out; omega)
                have s4 : Int.tmod (i1 : Int) (s : Int) = (r : Int) := by rw [rem_nat, hr]
                have s5 : IntKind.i64.wrap (r : Int) = (r : Int) := by have := HC.out; rw [IntKind.wrap_i64]; omega
                have HI := Lib.hid (And.intro hi11 (And.intro hzz (And.intro hz hb)))
                by_cases hon : i = z + 1
                · have hr0 : r = 0 := by
                    have : i1 = c * s := by omega
                    rw [← hr, this, Nat.mul_mod_left]
                  subst hr0
                  have s6 : Int.tdiv (i1 : Int) (s : Int) = (c : Int) := by
                    have : i1 = c * s := by omega
                    rw [div_nat, this, Nat.mul_div_cancel _ (by have := HC.out; omega)]
                  have s7 : IntKind.i64.wrap (c : Int) = (c : Int) := by have := HN.out; rw [IntKind.wrap_i64]; omega
                  have s8 : IntKind.i64.wrap ((c : Int) + 1) = (c : Int) + 1 := by have := HN.out; rw [IntKind.wrap_i64]; omega
                  obtain ⟨o1, o2⟩ := bl_on (T := T) (s := s) (c := c) (N := k) (t := T + i1 + 1) HC.out.2.1 hc (by omega)
                  rw [o1, o2] at hT
                  have HTi := Lib.hid hT
                  have HOn := Lib.hid hon
                  clear hT o1 o2 hr hrs hzz hz hb hi11 hon
                  go_wp2_with fail
                  refine Calls.mono HTi.out ?_
                  rintro e w5 ⟨A5, c5, F5, rfl, hE5, -, hK5⟩
                  have E5 := Lib.hid hE5
                  have HTd : Hid (Tch w5 (w5.alloc (.cells #[.int .i64 (c : Int)] 3)) []) := Lib.hid ((Tch.refl w5 []).alloc _)
                  have H := same_any A5 (some ⟨w5.heap.size, 0, none⟩) 1 1 c5 1 [(c : Int)] [(c : Int)] (by decide) (by decide) _ (hK5.tch0 HTd.out).sl (SlI.of_blk (zs := [(c : Int)]) (Blk.new w5 3 (ints [(c : Int)]).toArray))
                  rw [show decide (([(c : Int)] : List Int) = [(c : Int)]) = true from decide_eq_true rfl] at H
                  have HS := Lib.hid H
                  clear hE5 HTi H hK5
                  go_wp2_with fail
                  refine Calls.mono HS.out ?_
                  rintro e w6 ⟨rfl, hT6⟩
                  have E6 := Lib.hid (E5.out.tch0 (HTd.out.trans hT6))
                  clear hT6 HS
                  go_wp2
                  go_roundw
                  case rel =>
                    refine ⟨c + 1, i + 1, F5, by go_num, by go_num, hc, by omega, by have := HI.out; omega, Lib.hid ⟨fun h => ?_, fun c' h => ?_⟩, Lib.hid ?_⟩
                    · have h1 := HI.out; have h2 := HOn.out; have h3 := HC.out; rw [Nat.succ_mul, h1.2.1]; omega
                    · have h1 := HI.out; have h2 := HOn.out; obtain rfl : c' = c := by omega
                      rw [h1.2.1]; omega
                    · have h1 := HI.out
                      have := E6.out
                      rwa [show T + i1 + 1 = T + (i + 1 - 1) by omega] at this
                  case measure => simp [intOf]; omega
                · have hr0 : r ≠ 0 := by
                    intro e
                    subst e
                    have hdv : s ∣ i1 := Nat.dvd_of_mod_eq_zero hr
                    obtain ⟨q, hq⟩ := hdv
                    rw [Nat.mul_comm] at hq
                    have hqc : q < c := by
                      refine Nat.lt_of_not_le fun hcq => ?_
                      have := Nat.mul_le_mul_right s hcq
                      omega
                    obtain ⟨c', hc'⟩ : ∃ c', c = c' + 1 := ⟨c - 1, by omega⟩
                    have h2 := hB.out.2 c' hc'
                    have h3 := Nat.mul_le_mul_right s (show q ≤ c' by omega)
                    omega
                  have s6 : ((r : Int) == 0) = false := by simp; omega
                  obtain ⟨o1, o2⟩ := bl_off (T := T) (s := s) (c := c) (N := k) (t := T + i1 + 1) (fun _ => by omega)
                  rw [o1, o2] at hT
                  have HTi := Lib.hid hT
                  have HOn := Lib.hid hon
                  clear hT o1 o2 hr hrs hzz hz hb hi11 hon hr0
                  go_wp2_with fail
                  refine Calls.mono HTi.out ?_
                  rintro e w5 ⟨A5, c5, F5, rfl, hE5, -, -⟩
                  have E5 := Lib.hid hE5
                  clear hE5 HTi
                  go_wp2
                  go_roundw
                  case rel =>
                    refine ⟨c, i + 1, F5, rfl, by go_num, hck, by omega, by have := HI.out; omega, Lib.hid ⟨fun h => ?_, fun c' h => ?_⟩, Lib.hid ?_⟩
                    · have h1 := HI.out; have h2 := HOn.out; rw [h1.2.1]; omega
                    · have := hB.out.2 c' h; omega
                    · have h1 := HI.out
                      have := E5.out
                      rwa [show T + i1 + 1 = T + (i + 1 - 1) by omega] at this
                  case measure => simp [intOf]; omega
              · obtain rfl : c = k := by omega
                have cI : ¬ (c : Int) < (c : Int) := by omega
                have hL := hE.out.len
                rw [bl_nil] at hL
                have HLn := Lib.hid hL
                clear hL
                go_wp2_with fail
                refine Calls.mono HLn.out ?_
                rintro e w6 ⟨rfl, rfl⟩
                go_wp2
                go_ret
                exact ⟨rfl, hE.out.bel⟩
          · have kI : ¬ (k : Int) < 200 := by omega
            clear hgo hz hks
            go_wp2
            clear kI s1 s2 s3 g1
            go_loopw [11, 12] (fun cv iv wr3 => ∃ (c i : Nat) (F : List Nat), cv = .int .i64 (c : Int) ∧ iv = .int .i64 (i : Int) ∧ c ≤ k ∧ 1 ≤ i ∧ i ≤ 4096 ∧ Hid ((c < k → i ≤ c * s + 1) ∧ (∀ c', c = c' + 1 → c' * s + 1 < i)) ∧ Hid (Std w wr3 p (T + (i - 1)) k (bl T s c k) F)) (fun _ iv _ => 4097 - (intOf iv).toNat)
            case atStart => exact ⟨0, 1, F, rfl, rfl, Nat.zero_le _, by decide, by decide, Lib.hid ⟨fun _ => by omega, fun c' h => by omega⟩, hE0⟩
            case round =>
              obtain ⟨c, i, F, rfl, rfl, hck, hi1, hi2, hB, hE⟩ := hrel
              by_cases hc : c < k
              · have cI : (c : Int) < (k : Int) := by omega
                have hz := hJ.out c hc
                have hb := hB.out.1 hc
                obtain ⟨z, hzz⟩ : ∃ z, c * s = z := ⟨_, rfl⟩
                rw [hzz] at hz hb
                have iI : (i : Int) < 4097 := by omega
                obtain ⟨i1, hi11⟩ : ∃ i1, i - 1 = i1 := ⟨_, rfl⟩
                have s1 : IntKind.i64.wrap ((i : Int) - 1) = (i1 : Int) := by rw [IntKind.wrap_i64]; omega
                have s2 : IntKind.i64.wrap ((i : Int) + 1) = (i : Int) + 1 := by rw [IntKind.wrap_i64]; omega
                have s0 : ¬ (s : Int) = 0 := by have := HC.out; omega
                have hT := hE.out.tick (by have := HC.out; omega)
                rw [hi11] at hT
                obtain ⟨r, hr⟩ : ∃ r, i1 % s = r := ⟨_, rfl⟩
                have hrs : r < s := by rw [← hr]; exact Nat.mod_lt _ (by have := HC.out; omega)
                have s4 : Int.tmod (i1 : Int) (s : Int) = (r : Int) := by rw [rem_nat, hr]
                have s5 : IntKind.i64.wrap (r : Int) = (r : Int) := by have := HC.out; rw [IntKind.wrap_i64]; omega
                have HI := Lib.hid (And.intro hi11 (And.intro hzz (And.intro hz hb)))
                by_cases hon : i = z + 1
                · have hr0 : r = 0 := by
                    have : i1 = c * s := by omega
                    rw [← hr, this, Nat.mul_mod_left]
                  subst hr0
                  have s6 : Int.tdiv (i1 : Int) (s : Int) = (c : Int) := by
                    have : i1 = c * s := by omega
                    rw [div_nat, this, Nat.mul_div_cancel _ (by have := HC.out; omega)]
                  have s7 : IntKind.i64.wrap (c : Int) = (c : Int) := by have := HN.out; rw [IntKind.wrap_i64]; omega
                  have s8 : IntKind.i64.wrap ((c : Int) + 1) = (c : Int) + 1 := by have := HN.out; rw [IntKind.wrap_i64]; omega
                  obtain ⟨o1, o2⟩ := bl_on (T := T) (s := s) (c := c) (N := k) (t := T + i1 + 1) HC.out.2.1 hc (by omega)
                  rw [o1, o2] at hT
                  have HTi := Lib.hid hT
                  have HOn := Lib.hid hon
                  clear hT o1 o2 hr hrs hzz hz hb hi11 hon
                  go_wp2_with fail
                  refine Calls.mono HTi.out ?_
                  rintro e w5 ⟨A5, c5, F5, rfl, hE5, -, hK5⟩
                  have E5 := Lib.hid hE5
                  have HTd : Hid (Tch w5 (w5.alloc (.cells #[.int .i64 (c : Int)] 3)) []) := Lib.hid ((Tch.refl w5 []).alloc _)
                  have H := same_any A5 (some ⟨w5.heap.size, 0, none⟩) 1 1 c5 1 [(c : Int)] [(c : Int)] (by decide) (by decide) _ (hK5.tch0 HTd.out).sl (SlI.of_blk (zs := [(c : Int)]) (Blk.new w5 3 (ints [(c : Int)]).toArray))
                  rw [show decide (([(c : Int)] : List Int) = [(c : Int)]) = true from decide_eq_true rfl] at H
                  have HS := Lib.hid H
                  clear hE5 HTi H hK5
                  go_wp2_with fail
                  refine Calls.mono HS.out ?_
                  rintro e w6 ⟨rfl, hT6⟩
                  have E6 := Lib.hid (E5.out.tch0 (HTd.out.trans hT6))
                  clear hT6 HS
                  go_wp2
                  go_roundw
                  case rel =>
                    refine ⟨c + 1, i + 1, F5, by go_num, by go_num, hc, by omega, by have := HI.out; omega, Lib.hid ⟨fun h => ?_, fun c' h => ?_⟩, Lib.hid ?_⟩
                    · have h1 := HI.out; have h2 := HOn.out; have h3 := HC.out; rw [Nat.succ_mul, h1.2.1]; omega
                    · have h1 := HI.out; have h2 := HOn.out; obtain rfl : c' = c := by omega
                      rw [h1.2.1]; omega
                    · have h1 := HI.out
                      have := E6.out
                      rwa [show T + i1 + 1 = T + (i + 1 - 1) by omega] at this
                  case measure => simp [intOf]; omega
                · have hr0 : r ≠ 0 := by
                    intro e
                    subst e
                    have hdv : s ∣ i1 := Nat.dvd_of_mod_eq_zero hr
                    obtain ⟨q, hq⟩ := hdv
                    rw [Nat.mul_comm] at hq
                    have hqc : q < c := by
                      refine Nat.lt_of_not_le fun hcq => ?_
                      have := Nat.mul_le_mul_right s hcq
                      omega
                    obtain ⟨c', hc'⟩ : ∃ c', c = c' + 1 := ⟨c - 1, by omega⟩
                    have h2 := hB.out.2 c' hc'
                    have h3 := Nat.mul_le_mul_right s (show q ≤ c' by omega)
                    omega
                  have s6 : ((r : Int) == 0) = false := by simp; omega
                  obtain ⟨o1, o2⟩ := bl_off (T := T) (s := s) (c := c) (N := k) (t := T + i1 + 1) (fun _ => by omega)
                  rw [o1, o2] at hT
                  have HTi := Lib.hid hT
                  have HOn := Lib.hid hon
                  clear hT o1 o2 hr hrs hzz hz hb hi11 hon hr0
                  go_wp2_with fail
                  refine Calls.mono HTi.out ?_
                  rintro e w5 ⟨A5, c5, F5, rfl, hE5, -, -⟩
                  have E5 := Lib.hid hE5
                  clear hE5 HTi
                  go_wp2
                  go_roundw
                  case rel =>
                    refine ⟨c, i + 1, F5, rfl, by go_num, hck, by omega, by have := HI.out; omega, Lib.hid ⟨fun h => ?_, fun c' h => ?_⟩, Lib.hid ?_⟩
                    · have h1 := HI.out; have h2 := HOn.out; rw [h1.2.1]; omega
                    · have := hB.out.2 c' h; omega
                    · have h1 := HI.out
                      have := E5.out
                      rwa [show T + i1 + 1 = T + (i + 1 - 1) by omega] at this
                  case measure => simp [intOf]; omega
              · obtain rfl : c = k := by omega
                have cI : ¬ (c : Int) < (c : Int) := by omega
                have hL := hE.out.len
                rw [bl_nil] at hL
                have HLn := Lib.hid hL
                clear hL
                go_wp2_with fail
                refine Calls.mono HLn.out ?_
                rintro e w6 ⟨rfl, rfl⟩
                go_wp2
                go_ret
                exact ⟨rfl, hE.out.bel⟩
set_option maxRecDepth 100000 in
theorem contract (H : Type) (enc : TypeId × Value → H) (W : World) (base : Nat) (args : Array Value) (ds gs : List (DataW H)) (before : List MemPlace)
    (hval0 : ∀ (j : Nat) t v, Try.f7.params[j]? = some t → args[j]? = some v → Value.okWide Try.prog W .any base t v)
    (hW : DataW.Whole enc Try.prog Try.f7.params.toList Rows.wheelBusySpec.vars false W args.toList ds gs before)
    (hsz0 : (DataW.weightsEach Try.prog (Try.f7.params.toList ++ Rows.wheelBusySpec.plain.varTypes Try.prog) (ds ++ gs)).all (· ≤ reachBytes) = true) :
    Calls Try.prog 7 args W fun e W' => ∃ v, e = .returned v ∧ Rows.wheelBusySpec.post enc Try.prog Try.f7 false true false false W args v W' := by
  have hsz := hsz0
  clear hsz0
  have hval := hval0
  clear hval0
  have hW' := hW
  obtain ⟨p, q, hA0, hV, rfl, hfz, hnd⟩ := hW
  have hA : DataW.TrodAll enc Try.prog W 0 (fun _ => true) true Try.f7.params.toList args.toList ds p := hA0
  rw [Try.params7] at hA hval hsz
  obtain ⟨v0, vs0, d0, ds0, p0, q0, hargs, rfl, rfl, h0, r0⟩ := trodAll_cons hA
  obtain ⟨v1, vs1, d1, ds1, p1, q1, rfl, rfl, rfl, h1, r1⟩ := trodAll_cons r0
  obtain ⟨rfl, rfl, rfl⟩ := trodAll_nil r1
  obtain rfl : args = #[v0, v1] := by cases args; simp_all
  obtain ⟨rfl, rfl⟩ := trodVars_none hV
  obtain ⟨a0, rfl, rfl, rfl, w0⟩ := open_int Try.underlying3 (hval 0 3 v0 rfl rfl) h0
  obtain ⟨a1, rfl, rfl, rfl, w1⟩ := open_int Try.underlying3 (hval 1 3 v1 rfl rfl) h1
  clear hA0
  refine (walk W a0 w0 a1 w1).mono fun e W' ⟨he, bel⟩ => ?_
  subst he
  exact ⟨_, rfl, _, _, _, [], _, [], hW', trodAll_mk1 (shut_bool Try.underlying4 _), (trodAll_cons_mk (shut_int Try.underlying3 w0) (trodAll_cons_mk (shut_int Try.underlying3 w1) trodAll_mk0)), rfl, bel.frame _, fun h => by cases h⟩

set_option maxRecDepth 100000 in
theorem lifted (os : Os) (started : os.Started) (H : Type) (enc : TypeId × Value → H) :
    ReturnsInHanded {} Try.checked os 7 .any (Rows.wheelBusySpec.pre6 enc Try.prog Try.f7 Rows.wheelBusyRow.domain false) (Rows.wheelBusySpec.post enc Try.prog Try.f7 false true false false) := by
  refine returnsInHanded_of_change_sized (C := Try.checked) own started (by kernel_rfl) Try.func7
    (ChangeSpec.witness6 (enc := enc) (C := Try.checked) false ⟨#[], #[.int .i64 0, .int .i64 0], []⟩ 8 (by kernel_rfl) (by kernel_rfl) (by kernel_rfl) (by kernel_rfl)) ?_
  intro W base args ds gs before hval hW _ hsz _
  exact contract H enc W base args ds gs before hval hW hsz

theorem over : Rows.wheelBusyRow.holds Try.pinned (OpenSpec.ofChange Rows.wheelBusySpec) :=
  OpenClaim.holds_of_wide 7 Try.f7 rfl rfl rfl rfl rfl rfl rfl ⟨rfl, rfl, rfl, rfl, rfl⟩ rfl rfl rfl rfl rfl (by kernel_rfl) Try.func7 (by kernel_rfl)
    (of_decide_eq_true (by kernel_rfl)) (by unfold Func.isWrapper; first | (rw [if_pos (by decide +kernel)]; kernel_rfl) | (rw [if_neg (by decide +kernel)]; exact ⟨rfl, rfl⟩))
    (fun os started H enc _ => lifted os started H enc)

theorem proved : Rows.WheelBusySaid := over
#print axioms proved
end WBus
end Go.Proofs.Ythkjfgegmbdebaa
