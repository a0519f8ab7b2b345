/-
  ether.TakeArp of any text: its numbers.
-/
import Derived.Test.YtnhlgonldffgoaaDoorECopy
import Derived.Test.YtnhlgonldffgoaaDoorETk
import Derived.Test.YtnhlgonldffgoaaDoorEq
import Derived.Deep.RegionHeld3
namespace Go.Proofs.YtnhlgonldffgoaaDoor
open Go.RowKit
set_option linter.unusedVariables false

/-- The nine numbers. -/
def nums9 (l : List Int) : List Int := [nAt l 0 2, nAt l 2 2, nAt l 4 1, nAt l 5 1, nAt l 6 2, nAt l 8 6, nAt l 14 4, nAt l 18 6, nAt l 24 4]
theorem nums9_at (l : List Int) (j a k : Nat) (h : plc[j]? = some ((a : Int), (k : Int))) : (nums9 l)[j]? = some (nAt l a k) := by
  have e : nums9 l = plc.map fun z => nAt l z.1.toNat z.2.toNat := rfl
  rw [e, List.getElem?_map, h]; rfl
theorem nAt_u64 {l : List Int} {a k : Nat} (h : a + k ≤ l.length) (hk : k ≤ 7) (hb : By l) : (Lit.int .u64 (nAt l a k)).wf = true := by
  have := nAt_bd h hb
  have h2 := pow256_le k hk
  have e : (256 : Int) ^ 7 = 72057594037927936 := by decide
  simp [Lit.wf, IntKind.min, IntKind.max, IntKind.bits, IntKind.signed]
  omega
theorem nums9_wf {l : List Int} (hl : 28 ≤ l.length) (hb : By l) : ∀ z ∈ nums9 l, (Lit.int .u64 z).wf = true := by
  intro z hz
  simp only [nums9, List.mem_cons, List.not_mem_nil, or_false] at hz
  rcases hz with rfl | rfl | rfl | rfl | rfl | rfl | rfl | rfl | rfl <;> exact nAt_u64 (by omega) (by decide) hb
theorem head6 {l : List Int} (hl : 28 ≤ l.length) (hb : By l) : (nAt l 0 2 = 1 ∧ nAt l 2 2 = 2048 ∧ nAt l 4 1 = 6 ∧ nAt l 5 1 = 4) ↔ l.take 6 = [0, 1, 8, 0, 6, 4] := by
  match l, hl, hb with
  | a :: b :: c :: d :: e :: f :: r, _, hb =>
    have ha := hb a (by simp)
    have hb' := hb b (by simp)
    have hc := hb c (by simp)
    have hd := hb d (by simp)
    have he := hb e (by simp)
    have hf := hb f (by simp)
    simp [nAt, numOf]
    omega
theorem ar_is {l : List Int} (hl : 28 ≤ l.length) (hb : By l) : arB (nAt l 6 2) (nAt l 8 6) false 0 (nAt l 14 4) (nAt l 18 6) false 0 (nAt l 24 4) = (decide (nAt l 6 2 = 1) || decide (nAt l 6 2 = 2)) := by
  have p6 : (256 : Int) ^ 6 = 281474976710656 := by decide
  have p4 : (256 : Int) ^ 4 = 4294967296 := by decide
  have h1 := nAt_bd (l := l) (a := 8) (k := 6) (by omega) hb
  have h2 := nAt_bd (l := l) (a := 14) (k := 4) (by omega) hb
  have h3 := nAt_bd (l := l) (a := 18) (k := 6) (by omega) hb
  have h4 := nAt_bd (l := l) (a := 24) (k := 4) (by omega) hb
  rw [p6] at h1 h3
  rw [p4] at h2 h4
  have e1 : mcB (nAt l 8 6) = true := by simp [mcB]; omega
  have e2 : foB false 0 (nAt l 14 4) = true := by simp [foB]; omega
  have e3 : mcB (nAt l 18 6) = true := by simp [mcB]; omega
  have e4 : foB false 0 (nAt l 24 4) = true := by simp [foB]; omega
  unfold arB
  rw [e1, e2, e3, e4]
  simp
theorem eq_nums (l : List Int) (hl : 28 ≤ l.length) (hb : By l) {b : Bool} (h : decide (l.take 6 = [0, 1, 8, 0, 6, 4]) = b) (W : World) :
    (Op.equalIn 10000 90 (nums (nAt l 0 2) (nAt l 2 2) (nAt l 4 1) (nAt l 5 1) (nAt l 6 2) (nAt l 8 6) (nAt l 14 4) (nAt l 18 6) (nAt l 24 4)) (nums 1 2048 6 4 (nAt l 6 2) (nAt l 8 6) (nAt l 14 4) (nAt l 18 6) (nAt l 24 4))).run Tryd.prog W = .ok b W := by
  refine eq_ints (n := 9) Tryd.underlying90 Tryd.underlying23 (by kernel_rfl) (by kernel_rfl) (by kernel_rfl) (nums9 l) [1, 2048, 6, 4, nAt l 6 2, nAt l 8 6, nAt l 14 4, nAt l 18 6, nAt l 24 4] rfl rfl (nums9_wf hl hb)
    (fun z hz => by
      simp only [List.mem_cons, List.not_mem_nil, or_false] at hz
      rcases hz with rfl | rfl | rfl | rfl | rfl | rfl | rfl | rfl | rfl
      all_goals first | exact nAt_u64 (by omega) (by decide) hb | decide) ?_ W
  rw [← h]
  have e := head6 hl hb
  by_cases h6 : l.take 6 = [0, 1, 8, 0, 6, 4]
  · obtain ⟨a, b, c, d⟩ := e.2 h6
    simp [nums9, h6, a, b, c, d]
  · have : ¬ (nums9 l = [1, 2048, 6, 4, nAt l 6 2, nAt l 8 6, nAt l 14 4, nAt l 18 6, nAt l 24 4]) := fun x => h6 (e.1 (by simpa [nums9] using x))
    simp [h6, this]
theorem taV_bad {s : ByteArray} (h : 28 ≤ s.size) (hk : okA (byt s) = false) : taV s = .tuple #[noArp, .int .i64 40] := by unfold taV; rw [if_neg (by omega), if_pos hk]
theorem taV_ok {s : ByteArray} (h : 28 ≤ s.size) (hk : okA (byt s) = true) : taV s = .tuple #[arpv (nAt (byt s) 6 2) (nAt (byt s) 8 6) false 0 (nAt (byt s) 14 4) (nAt (byt s) 18 6) false 0 (nAt (byt s) 24 4), .int .i64 0] := by unfold taV; rw [if_neg (by omega), hk, if_neg (by decide)]
/-- The cells behind j numbers. -/
def numJ (l : List Int) (j : Nat) : List Int := (nums9 l).take j ++ List.replicate (9 - j) 0
theorem numJ_step (l : List Int) (j : Nat) (v : Int) (hj : j < 9) (h : (nums9 l)[j]? = some v) : (((numJ l j).map (Value.int .u64)).toArray).setIfInBounds j (.int .u64 v) = ((numJ l (j + 1)).map (Value.int .u64)).toArray := by
  have e1 : (nums9 l).take (j + 1) = (nums9 l).take j ++ [v] := by rw [List.take_add_one, h]; rfl
  have e2 : ((nums9 l).take j).length = j := by rw [List.length_take]; show min j 9 = j; omega
  have key : ∀ (A R : List Value) (x y : Value) (n : Nat) (h : A.length = n), ((A ++ x :: R).toArray).setIfInBounds n y = (A ++ y :: R).toArray := by
    intro A R x y n h; subst h; simp
  unfold numJ
  rw [e1, show 9 - j = (9 - (j + 1)) + 1 by omega, List.replicate_succ, List.map_append, List.map_append, List.map_append, List.map_cons, List.map_cons, List.append_assoc]
  exact key _ _ _ _ _ (by rw [List.length_map, e2])

set_option maxRecDepth 100000 in
set_option maxHeartbeats 4000000 in
theorem takeArp_any (s : ByteArray) (w : World) (hE : EnvE w) :
    Calls Tryd.prog 36 #[.string s] w fun e w' => e = .returned (taV s) ∧ Below w.heap.size w w' := by
  by_cases h28 : s.size < 28
  · have HX := Lib.hid (ta_short h28)
    have hi : (s.size : Int) < 28 := by omega
    clear h28 hE
    go_enter Tryd.func36, Tryd.ntmps36
    go_wp2
    exact bodyPost_ret (v := .tuple #[noArp, .int .i64 41]) (by simp [results, Tryd.results36, go_sem]) rfl ⟨by rw [HX.out], (Below.refl _ _).alloc (Nat.le_refl _) _⟩
  · have hi : ¬ (s.size : Int) < 28 := by omega
    have hi3 : (28 : Int) ≤ s.size := by omega
    have H28 := Lib.hid (Nat.le_of_not_lt h28)
    obtain ⟨E, hEx⟩ : ∃ E, s.extract 0 28 = E := ⟨_, rfl⟩
    have hE28 : E.size = 28 := by rw [← hEx, ByteArray.size_extract]; omega
    have bE : byt E = (byt s).take 28 := by rw [← hEx, byt_extract]; rfl
    have hcv := fun W => conv_bytes W E
    rw [hE28] at hcv
    obtain ⟨L, hL⟩ : ∃ L, L = byt s := ⟨_, rfl⟩
    have hL28 : 28 ≤ L.length := by rw [hL, byt_len]; omega
    have hbL : By L := by rw [hL]; exact byt_by s
    have HL := Lib.hid hL
    have HL28 := Lib.hid hL28
    have HbL := Lib.hid hbL
    rw [← hL] at bE
    have HBE := Lib.hid bE
    have HEE := Lib.hid hE
    have hRI := bytesWorld_ri (w.alloc (.cells #[.int .i64 0, .int .u64 0, .bool false, .int .u64 0, .int .u64 0, .int .u64 0, .bool false, .int .u64 0, .int .u64 0] 45)) E
    rw [hE28, World.size_alloc] at hRI
    obtain ⟨W1, hW1⟩ : ∃ W1, W1 = Lib.bytesWorld (w.alloc (.cells #[.int .i64 0, .int .u64 0, .bool false, .int .u64 0, .int .u64 0, .int .u64 0, .bool false, .int .u64 0, .int .u64 0] 45)) 5 E := ⟨_, rfl⟩
    have hB1 : Below (w.alloc (.cells #[.int .i64 0, .int .u64 0, .bool false, .int .u64 0, .int .u64 0, .int .u64 0, .bool false, .int .u64 0, .int .u64 0] 45)).heap.size (w.alloc (.cells #[.int .i64 0, .int .u64 0, .bool false, .int .u64 0, .int .u64 0, .int .u64 0, .bool false, .int .u64 0, .int .u64 0] 45)) W1 := by rw [hW1]; exact bytesWorld_below _ _
    have hs1 : W1.heap.size = w.heap.size + 2 := by rw [hW1, Lib.bytesWorld_size, World.size_alloc]
    have hcv1 := hcv (w.alloc (.cells #[.int .i64 0, .int .u64 0, .bool false, .int .u64 0, .int .u64 0, .int .u64 0, .bool false, .int .u64 0, .int .u64 0] 45))
    rw [← hW1] at hcv1 hRI
    rw [World.size_alloc] at hcv1
    obtain ⟨cap, hcap⟩ : ∃ c, grownCap (w.alloc (.cells #[.int .i64 0, .int .u64 0, .bool false, .int .u64 0, .int .u64 0, .int .u64 0, .bool false, .int .u64 0, .int .u64 0] 45)) 28 0 5 = c := ⟨_, rfl⟩
    rw [hcap] at hcv1
    have L1 := Lib.hid (((Below.refl _ w).alloc (Nat.le_refl _) _).trans (hB1.mono (by simp only [World.size_alloc]; omega)))
    have K1 := Lib.hid ((Blk.new w 45 #[.int .i64 0, .int .u64 0, .bool false, .int .u64 0, .int .u64 0, .int .u64 0, .bool false, .int .u64 0, .int .u64 0]).below hB1 (by simp only [World.size_alloc]; omega))
    have HRI : Hid (RI .u8 W1 (w.heap.size + 2) (some ⟨w.heap.size + 1, 0, none⟩) 28 (L.take 28)) := Lib.hid (by rw [← bE, ← hs1]; exact hRI)
    have HS1 := Lib.hid hs1
    have HRG := Lib.hid ((HEE.out.below L1.out).alloc (.cells #[.int .u64 0, .int .u64 0, .int .u64 0, .int .u64 0, .int .u64 0, .int .u64 0, .int .u64 0, .int .u64 0, .int .u64 0] 90)).range
    clear h28 hcv hL hL28 hbL bE hE hRI hW1 hB1 hcap hE28 hs1
    go_enter Tryd.func36, Tryd.ntmps36
    go_wp2_with (with_reducible refine wpList_load_mid rfl 94 (.global 0) rfl 0 0 rfl plcCells.toList _ HRG.out Tryd.underlying94 rfl infoPl ?_)
    --ROUNDS
    clear hcv1 hEx
    obtain ⟨N, hN⟩ : ∃ N, W1.heap.size = N := ⟨_, rfl⟩
    have hN2 : N = w.heap.size + 2 := by rw [← hN]; exact HS1.out
    rw [hN]
    go_loopw [17] (fun i wr => ∃ j : Nat, j ≤ 9 ∧ i = .int .i64 (j : Int) ∧ Hid (Blk wr N 90 (((numJ L j).map (Value.int .u64)).toArray) ∧ RI .u8 wr (w.heap.size + 2) (some ⟨w.heap.size + 1, 0, none⟩) 28 (L.take 28) ∧ Blk wr w.heap.size 45 #[.int .i64 0, .int .u64 0, .bool false, .int .u64 0, .int .u64 0, .int .u64 0, .bool false, .int .u64 0, .int .u64 0] ∧ Below w.heap.size w wr)) (fun i _ => 9 - (intOf i).toNat)
    case atStart =>
      refine ⟨0, by decide, rfl, Lib.hid ⟨?_, HRI.out.alloc (by omega) _, K1.out.alloc _, L1.out.alloc L1.out.size _⟩⟩
      have := Blk.new W1 90 #[.int .u64 0, .int .u64 0, .int .u64 0, .int .u64 0, .int .u64 0, .int .u64 0, .int .u64 0, .int .u64 0, .int .u64 0]
      rw [hN] at this
      exact this
    case round =>
      obtain ⟨j, hj, rfl, hh⟩ := hrel
      have HN2 := Lib.hid hN2
      by_cases hlt : j < 9
      · obtain ⟨a, k, -, hpl, -, -, -, hak, hk8, hk0, ha, hix⟩ := pcs_at 0 0 0 0 0 j hlt
        have hv := nums9_at L j a k hpl
        obtain ⟨hB, hRI, hA0, hLL⟩ := hh.out
        have hNlt : N < wr.heap.size := hB.lt
        have hne : wr.heap.size ≠ N := by omega
        have hj1 : (j : Int) < 9 := by omega
        have hj0 : (0 : Int) ≤ (j : Int) := by omega
        have HG := get_yes (wr.alloc (.cells #[.int .i64 (a : Int), .int .i64 (k : Int)] 93)) (w.heap.size + 2) (some ⟨w.heap.size + 1, 0, none⟩) 28 cap a k (L.take 28) (hRI.alloc (by omega) _) hk8 hak (by decide)
        have hnt : numOf (((L.take 28).drop a).take k) = nAt L a k := nAt_take hak
        rw [hnt] at HG
        obtain ⟨v, hve⟩ : ∃ v, nAt L a k = v := ⟨_, rfl⟩
        rw [hve] at HG hv
        have hcl : j < ((numJ L j).map (Value.int .u64)).length := by
          rw [List.length_map]; unfold numJ; rw [List.length_append, List.length_take, List.length_replicate]; show j < min j 9 + _; omega
        obtain ⟨u, hu⟩ : ∃ u, wr.cell? ⟨N, j, none⟩ = some u := ⟨_, (hB.cell j).trans (by rw [List.getElem?_toArray, List.getElem?_eq_getElem hcl])⟩
        have hf := hB.frozen j
        have hB' := hB.alloc (.cells #[.int .i64 (a : Int), .int .i64 (k : Int)] 93)
        have hu2 : (wr.alloc (.cells #[.int .i64 (a : Int), .int .i64 (k : Int)] 93)).cell? ⟨N, j, none⟩ = some u := (World.cell?_alloc_lt wr _ _ hNlt).trans hu
        have hf2 := hB'.frozen j
        have HX1 : Hid (Blk ((wr.setCell ⟨N, j, none⟩ (.int .u64 v)).alloc (.cells #[.int .i64 (a : Int), .int .i64 (k : Int)] 93)) N 90 (((numJ L (j + 1)).map (Value.int .u64)).toArray) ∧ RI .u8 ((wr.setCell ⟨N, j, none⟩ (.int .u64 v)).alloc (.cells #[.int .i64 (a : Int), .int .i64 (k : Int)] 93)) (w.heap.size + 2) (some ⟨w.heap.size + 1, 0, none⟩) 28 (L.take 28) ∧ Blk ((wr.setCell ⟨N, j, none⟩ (.int .u64 v)).alloc (.cells #[.int .i64 (a : Int), .int .i64 (k : Int)] 93)) w.heap.size 45 #[.int .i64 0, .int .u64 0, .bool false, .int .u64 0, .int .u64 0, .int .u64 0, .bool false, .int .u64 0, .int .u64 0] ∧ Below w.heap.size w ((wr.setCell ⟨N, j, none⟩ (.int .u64 v)).alloc (.cells #[.int .i64 (a : Int), .int .i64 (k : Int)] 93))) := Lib.hid (by
          have s1 := hB.set_ j (.int .u64 v)
          rw [numJ_step L j v hlt hv] at s1
          have hsz : (wr.setCell ⟨N, j, none⟩ (.int .u64 v)).heap.size = wr.heap.size := by simp [World.setCell]
          have s4 : Below w.heap.size w (wr.setCell ⟨N, j, none⟩ (.int .u64 v)) := hLL.setCell (p := ⟨N, j, none⟩) (by show w.heap.size ≤ N; omega) _
          refine ⟨s1.alloc _, RI.alloc (hRI.keep fun p hp => World.cell?_setCell_far wr _ _ _ (by show N ≠ p.block; omega)) (by omega) _, (hA0.far (p := ⟨N, j, none⟩) (by show w.heap.size ≠ N; omega) _).alloc _, s4.alloc s4.size _⟩)
        have HGG := Lib.hid HG
        clear hh hB hB' hRI hA0 hLL HG hnt hve hcl hpl hv hN2
        go_wp2_with fail
        refine Calls.mono HGG.out ?_
        rintro e w' ⟨rfl, rfl⟩
        go_wp2
        go_roundw
        case rel => exact ⟨j + 1, by omega, by go_num, HX1⟩
        case measure => simp [intOf]; omega
      · obtain rfl : j = 9 := by omega
        obtain ⟨hB, -, hA0, hLL⟩ := hh.out
        have e9 : numJ L 9 = nums9 L := by unfold numJ; rw [List.take_of_length_le (by show 9 ≤ 9; decide)]; simp
        rw [e9] at hB
        have hb2 := nAt_bd (l := L) (a := 6) (k := 2) (by have := HL28.out; omega) HbL.out
        rw [show (256 : Int) ^ 2 = 65536 by decide] at hb2
        obtain ⟨V, hV⟩ : ∃ V, (decide (nAt L 6 2 = 1) || decide (nAt L 6 2 = 2)) = V := ⟨_, rfl⟩
        obtain ⟨B6, hB6⟩ : ∃ V, decide (L.take 6 = [0, 1, 8, 0, 6, 4]) = V := ⟨_, rfl⟩
        have hok : okA L = (B6 && V) := by rw [← hV, ← hB6]; rfl
        have hEQ := fun W => eq_nums L HL28.out HbL.out hB6 W
        have hIS := (ar_is HL28.out HbL.out).trans hV
        have hT0 : okA (byt s) = false → taV s = .tuple #[noArp, .int .i64 40] := fun h => taV_bad H28.out h
        have hT1 : okA (byt s) = true → taV s = _ := fun h => taV_ok H28.out h
        rw [← HL.out, hok] at hT0 hT1
        unfold nums9 at hB
        simp only [List.map_cons, List.map_nil] at hB
        obtain ⟨n0, e0⟩ : ∃ x, nAt L 0 2 = x := ⟨_, rfl⟩
        obtain ⟨n1, e1⟩ : ∃ x, nAt L 2 2 = x := ⟨_, rfl⟩
        obtain ⟨n2, e2⟩ : ∃ x, nAt L 4 1 = x := ⟨_, rfl⟩
        obtain ⟨n3, e3⟩ : ∃ x, nAt L 5 1 = x := ⟨_, rfl⟩
        obtain ⟨n4, e4⟩ : ∃ x, nAt L 6 2 = x := ⟨_, rfl⟩
        obtain ⟨n5, e5⟩ : ∃ x, nAt L 8 6 = x := ⟨_, rfl⟩
        obtain ⟨n6, e6⟩ : ∃ x, nAt L 14 4 = x := ⟨_, rfl⟩
        obtain ⟨n7, e7⟩ : ∃ x, nAt L 18 6 = x := ⟨_, rfl⟩
        obtain ⟨n8, e8⟩ : ∃ x, nAt L 24 4 = x := ⟨_, rfl⟩
        rw [e0, e1, e2, e3, e4, e5, e6, e7, e8] at hB hEQ
        rw [e4, e5, e6, e7, e8] at hIS hT1
        rw [e4] at hb2
        obtain ⟨b20, b21⟩ := hb2
        have b22 : n4 ≤ 65535 := by omega
        have HA := Lib.hid (fun W => arp_any n0 n1 n2 n3 n4 n5 n6 n7 n8 b20 b22 W)
        have HI := Lib.hid (fun W => isArp_at n4 n5 false 0 n6 n7 false 0 n8 hIS W)
        have HNO := Lib.hid (fun W => numbersOf_any n4 n5 false 0 n6 n7 false 0 n8 b20 b22 W)
        obtain ⟨q1, q2, q3, q4, q5, q6, q7, q8, q9⟩ := Blk.c9 hB
        have HBB := Lib.hid hB
        have HA0 := Lib.hid hA0
        have HLL := Lib.hid hLL
        have HT0 := Lib.hid hT0
        have HT1 := Lib.hid hT1
        have HEQ := Lib.hid hEQ
        clear hh hB hA0 hLL hIS hok hV hB6 hT0 hT1 hEQ e0 e1 e2 e3 e4 e5 e6 e7 e8 e9 b21 hN2
        go_wp2_with fail
        refine Calls.mono (HA.out _) ?_
        rintro e w5 ⟨rfl, hb⟩
        obtain ⟨w6, hw6⟩ : ∃ W, W = w5.alloc (.cells #[.int .i64 n4, .int .u64 n5, .bool false, .int .u64 0, .int .u64 n6, .int .u64 n7, .bool false, .int .u64 0, .int .u64 n8] 45) := ⟨_, rfl⟩
        obtain ⟨M, hM⟩ : ∃ M, w5.heap.size = M := ⟨_, rfl⟩
        have KM : Blk w6 M 45 #[.int .i64 n4, .int .u64 n5, .bool false, .int .u64 0, .int .u64 n6, .int .u64 n7, .bool false, .int .u64 0, .int .u64 n8] := by rw [hw6, ← hM]; exact Blk.new _ _ _
        have KN : Blk w6 N 90 #[.int .u64 n0, .int .u64 n1, .int .u64 n2, .int .u64 n3, .int .u64 n4, .int .u64 n5, .int .u64 n6, .int .u64 n7, .int .u64 n8] := by rw [hw6]; exact (HBB.out.below hb HBB.out.lt).alloc _
        have KA := Lib.hid (show Blk w6 w.heap.size 45 #[.int .i64 0, .int .u64 0, .bool false, .int .u64 0, .int .u64 0, .int .u64 0, .bool false, .int .u64 0, .int .u64 0] by rw [hw6]; exact (HA0.out.below hb HA0.out.lt).alloc _)
        have L6 := Lib.hid (show Below w.heap.size w w6 by rw [hw6]; exact (HLL.out.trans (hb.mono HLL.out.size)).alloc (HLL.out.trans (hb.mono HLL.out.size)).size _)
        have HC : Hid (∀ W', Below w6.heap.size w6 W' → W'.cell? ⟨M, 0, none⟩ = some (.int .i64 n4) ∧ W'.cell? ⟨M, 1, none⟩ = some (.int .u64 n5) ∧ W'.cell? ⟨M, 2, none⟩ = some (.bool false) ∧ W'.cell? ⟨M, 3, none⟩ = some (.int .u64 0) ∧ W'.cell? ⟨M, 4, none⟩ = some (.int .u64 n6) ∧ W'.cell? ⟨M, 5, none⟩ = some (.int .u64 n7) ∧ W'.cell? ⟨M, 6, none⟩ = some (.bool false) ∧ W'.cell? ⟨M, 7, none⟩ = some (.int .u64 0) ∧ W'.cell? ⟨M, 8, none⟩ = some (.int .u64 n8) ∧ W'.cell? ⟨N, 0, none⟩ = some (.int .u64 n0) ∧ W'.cell? ⟨N, 1, none⟩ = some (.int .u64 n1) ∧ W'.cell? ⟨N, 2, none⟩ = some (.int .u64 n2) ∧ W'.cell? ⟨N, 3, none⟩ = some (.int .u64 n3) ∧ W'.cell? ⟨N, 4, none⟩ = some (.int .u64 n4) ∧ W'.cell? ⟨N, 5, none⟩ = some (.int .u64 n5) ∧ W'.cell? ⟨N, 6, none⟩ = some (.int .u64 n6) ∧ W'.cell? ⟨N, 7, none⟩ = some (.int .u64 n7) ∧ W'.cell? ⟨N, 8, none⟩ = some (.int .u64 n8)) := Lib.hid fun W' hb => by
          obtain ⟨g1, g2, g3, g4, g5, g6, g7, g8, g9⟩ := (KM.below hb KM.lt).c9
          obtain ⟨k1, k2, k3, k4, k5, k6, k7, k8, k9⟩ := (KN.below hb KN.lt).c9
          exact ⟨g1, g2, g3, g4, g5, g6, g7, g8, g9, k1, k2, k3, k4, k5, k6, k7, k8, k9⟩
        have hR : Below w6.heap.size w6 w6.drew := (Below.refl _ _).drew
        have HW6 := Lib.hid hw6
        have HMM := Lib.hid hM
        have HKM := Lib.hid KM
        clear hb hw6 KM KN hM q1 q2 q3 q4 q5 q6 q7 q8 q9
        go_wp2
        rw [HMM.out]
        first | rw [← HW6.out] | (rw [← HMM.out, ← HW6.out, HMM.out])
        cases V
        · refine wp_region_held_drew (S := (fun w' => w'.cell? ⟨M, 0, none⟩ = some (.int .i64 n4) ∧ w'.cell? ⟨M, 1, none⟩ = some (.int .u64 n5) ∧ w'.cell? ⟨M, 2, none⟩ = some (.bool false) ∧ w'.cell? ⟨M, 3, none⟩ = some (.int .u64 0) ∧ w'.cell? ⟨M, 4, none⟩ = some (.int .u64 n6) ∧ w'.cell? ⟨M, 5, none⟩ = some (.int .u64 n7) ∧ w'.cell? ⟨M, 6, none⟩ = some (.bool false) ∧ w'.cell? ⟨M, 7, none⟩ = some (.int .u64 0) ∧ w'.cell? ⟨M, 8, none⟩ = some (.int .u64 n8) ∧ w'.cell? ⟨N, 0, none⟩ = some (.int .u64 n0) ∧ w'.cell? ⟨N, 1, none⟩ = some (.int .u64 n1) ∧ w'.cell? ⟨N, 2, none⟩ = some (.int .u64 n2) ∧ w'.cell? ⟨N, 3, none⟩ = some (.int .u64 n3) ∧ w'.cell? ⟨N, 4, none⟩ = some (.int .u64 n4) ∧ w'.cell? ⟨N, 5, none⟩ = some (.int .u64 n5) ∧ w'.cell? ⟨N, 6, none⟩ = some (.int .u64 n6) ∧ w'.cell? ⟨N, 7, none⟩ = some (.int .u64 n7) ∧ w'.cell? ⟨N, 8, none⟩ = some (.int .u64 n8))) (by kernel_rfl) ?_ (fun hHeld => ?_)
          · exact HC.out _ hR
          refine wpAnyH_take (i := 0) (oi := { dst := some 35, op := Go.Op.load 45 (Go.Operand.tmp 8), type := 45, pos := "arp.go:107", after := #[], guard := none }) (v := ?_) rfl (by kernel_rfl) (by kernel_rfl) (by kernel_rfl) (fun _ _ _ h => h) (Or.inl ⟨by rfl, ?_⟩) (by assumption) ?_
          rotate_left
          · intro w hSw
            (try dsimp only at hSw)
            go_simp
            try (with_reducible rfl)
          try simp only [Act.put, List.setIfInBounds_toArray, List.set_cons_zero, List.set_cons_succ]
          refine wpAnyH_ready (rs := [1]) (by kernel_rfl) (by simp) ?_
          refine AllReadyH.cons (o := { dst := some 36, op := Go.Op.call { callee := Go.Callee.value (Go.Operand.func 68), args := #[Go.Operand.tmp 35], argTypes := #[45] }, type := 4, pos := "arp.go:107", after := #[{ on := 0, ground := Go.Ground.data }], guard := none }) rfl (fun K hK => ?_) AllReadyH.nil
          go_simp
          (go_at_call 68; (with_reducible refine Calls.mono (HI.out _) ?_); rintro e W' ⟨rfl, hb⟩; replace hR := hR.trans (hb.mono hR.size); clear hb)
          go_wp2_with fail
          refine hK.out _ _ ?_ (fun hHeld => ?_)
          · exact HC.out _ hR
          clear hK K
          try simp only [Act.put, List.setIfInBounds_toArray, List.set_cons_zero, List.set_cons_succ]
          refine wpAnyH_take (i := 2) (oi := { dst := some 37, op := Go.Op.unOp Go.UnOp.not 4 (Go.Operand.tmp 36), type := 4, pos := "arp.go:107", after := #[{ on := 1, ground := Go.Ground.data }], guard := none }) (v := ?_) rfl (by kernel_rfl) (by kernel_rfl) (by kernel_rfl) (fun _ _ _ h => h) (Or.inl ⟨by rfl, ?_⟩) (by assumption) ?_
          rotate_left
          · intro w hSw
            (try dsimp only at hSw)
            go_simp
            try (with_reducible rfl)
          try simp only [Act.put, List.setIfInBounds_toArray, List.set_cons_zero, List.set_cons_succ]
          refine wpAnyH_take (i := 3) (oi := { dst := some 38, op := Go.Op.move (Go.Operand.tmp 37), type := 4, pos := "arp.go:107", after := #[{ on := 2, ground := Go.Ground.data }, { on := 1, ground := Go.Ground.chain }], guard := none }) (v := ?_) rfl (by kernel_rfl) (by kernel_rfl) (by kernel_rfl) (fun _ _ _ h => h) (Or.inl ⟨by rfl, ?_⟩) (by assumption) ?_
          rotate_left
          · intro w hSw
            (try dsimp only at hSw)
            go_simp
            try (with_reducible rfl)
          try simp only [Act.put, List.setIfInBounds_toArray, List.set_cons_zero, List.set_cons_succ]
          refine wpAnyH_take (i := 4) (oi := { dst := some 39, op := Go.Op.load 90 (Go.Operand.tmp 5), type := 90, pos := "arp.go:107", after := #[{ on := 3, ground := Go.Ground.guard }], guard := some (3, false) }) (v := undef) rfl (by kernel_rfl) (by kernel_rfl) (by kernel_rfl) (fun _ _ _ h => h) (Or.inr ⟨by rfl, rfl⟩) (by assumption) ?_
          try simp only [Act.put, List.setIfInBounds_toArray, List.set_cons_zero, List.set_cons_succ]
          refine wpAnyH_take (i := 5) (oi := { dst := some 40, op := Go.Op.load 45 (Go.Operand.tmp 8), type := 45, pos := "arp.go:107", after := #[{ on := 3, ground := Go.Ground.guard }], guard := some (3, false) }) (v := undef) rfl (by kernel_rfl) (by kernel_rfl) (by kernel_rfl) (fun _ _ _ h => h) (Or.inr ⟨by rfl, rfl⟩) (by assumption) ?_
          try simp only [Act.put, List.setIfInBounds_toArray, List.set_cons_zero, List.set_cons_succ]
          refine wpAnyH_take (i := 6) (oi := { dst := some 41, op := Go.Op.call { callee := Go.Callee.value (Go.Operand.func 69), args := #[Go.Operand.tmp 40], argTypes := #[45] }, type := 90, pos := "arp.go:107", after := #[{ on := 5, ground := Go.Ground.data }, { on := 3, ground := Go.Ground.chain }, { on := 3, ground := Go.Ground.guard }], guard := some (3, false) }) (v := undef) rfl (by kernel_rfl) (by kernel_rfl) (by kernel_rfl) (fun _ _ _ h => h) (Or.inr ⟨by rfl, rfl⟩) (by assumption) ?_
          try simp only [Act.put, List.setIfInBounds_toArray, List.set_cons_zero, List.set_cons_succ]
          refine wpAnyH_take (i := 7) (oi := { dst := some 42, op := Go.Op.binOp Go.BinOp.neq 90 (Go.Operand.tmp 39) (Go.Operand.tmp 41) 90, type := 4, pos := "arp.go:107", after := #[{ on := 4, ground := Go.Ground.data }, { on := 6, ground := Go.Ground.data }, { on := 3, ground := Go.Ground.guard }], guard := some (3, false) }) (v := undef) rfl (by kernel_rfl) (by kernel_rfl) (by kernel_rfl) (fun _ _ _ h => h) (Or.inr ⟨by rfl, rfl⟩) (by assumption) ?_
          try simp only [Act.put, List.setIfInBounds_toArray, List.set_cons_zero, List.set_cons_succ]
          refine wpAnyH_take (i := 8) (oi := { dst := some 43, op := Go.Op.pick (Go.Operand.tmp 38) (Go.Operand.const (Go.Value.bool true)) (Go.Operand.tmp 42), type := 4, pos := "arp.go:107", after := #[{ on := 3, ground := Go.Ground.data }, { on := 7, ground := Go.Ground.data }], guard := none }) (v := ?_) rfl (by kernel_rfl) (by kernel_rfl) (by kernel_rfl) (fun _ _ _ h => h) (Or.inl ⟨by rfl, ?_⟩) (by assumption) ?_
          rotate_left
          · intro w hSw
            (try dsimp only at hSw)
            go_simp
            try (with_reducible rfl)
          try simp only [Act.put, List.setIfInBounds_toArray, List.set_cons_zero, List.set_cons_succ]
          refine wpAnyH_done (by kernel_rfl) ?_ _
          have L9 := Lib.hid (L6.out.trans (hR.mono L6.out.size))
          have A9 := Lib.hid (KA.out.below hR KA.out.lt)
          obtain ⟨c0, c1, c2, c3, c4, c5, c6, c7, c8⟩ := A9.out.c9
          have z0 := A9.out.frozen 0
          have z1 := A9.out.frozen 1
          have z2 := A9.out.frozen 2
          have z3 := A9.out.frozen 3
          have z4 := A9.out.frozen 4
          have z5 := A9.out.frozen 5
          have z6 := A9.out.frozen 6
          have z7 := A9.out.frozen 7
          have z8 := A9.out.frozen 8
          clear hR
          go_wp2
          exact bodyPost_ret (v := .tuple #[noArp, .int .i64 40]) (by simp [results, Tryd.results36, go_sem, c0, c1, c2, c3, c4, c5, c6, c7, c8]) rfl ⟨by rw [HT0.out (by simp)], (((((((((L9.out.setCell (p := ⟨w.heap.size, 0, none⟩) (Nat.le_refl _) _).setCell (p := ⟨w.heap.size, 1, none⟩) (Nat.le_refl _) _).setCell (p := ⟨w.heap.size, 2, none⟩) (Nat.le_refl _) _).setCell (p := ⟨w.heap.size, 3, none⟩) (Nat.le_refl _) _).setCell (p := ⟨w.heap.size, 4, none⟩) (Nat.le_refl _) _).setCell (p := ⟨w.heap.size, 5, none⟩) (Nat.le_refl _) _).setCell (p := ⟨w.heap.size, 6, none⟩) (Nat.le_refl _) _).setCell (p := ⟨w.heap.size, 7, none⟩) (Nat.le_refl _) _).setCell (p := ⟨w.heap.size, 8, none⟩) (Nat.le_refl _) _)⟩
        · cases B6
          all_goals have hEQ := HEQ.out
          · refine wp_region_held_drew (S := (fun w' => w'.cell? ⟨M, 0, none⟩ = some (.int .i64 n4) ∧ w'.cell? ⟨M, 1, none⟩ = some (.int .u64 n5) ∧ w'.cell? ⟨M, 2, none⟩ = some (.bool false) ∧ w'.cell? ⟨M, 3, none⟩ = some (.int .u64 0) ∧ w'.cell? ⟨M, 4, none⟩ = some (.int .u64 n6) ∧ w'.cell? ⟨M, 5, none⟩ = some (.int .u64 n7) ∧ w'.cell? ⟨M, 6, none⟩ = some (.bool false) ∧ w'.cell? ⟨M, 7, none⟩ = some (.int .u64 0) ∧ w'.cell? ⟨M, 8, none⟩ = some (.int .u64 n8) ∧ w'.cell? ⟨N, 0, none⟩ = some (.int .u64 n0) ∧ w'.cell? ⟨N, 1, none⟩ = some (.int .u64 n1) ∧ w'.cell? ⟨N, 2, none⟩ = some (.int .u64 n2) ∧ w'.cell? ⟨N, 3, none⟩ = some (.int .u64 n3) ∧ w'.cell? ⟨N, 4, none⟩ = some (.int .u64 n4) ∧ w'.cell? ⟨N, 5, none⟩ = some (.int .u64 n5) ∧ w'.cell? ⟨N, 6, none⟩ = some (.int .u64 n6) ∧ w'.cell? ⟨N, 7, none⟩ = some (.int .u64 n7) ∧ w'.cell? ⟨N, 8, none⟩ = some (.int .u64 n8))) (by kernel_rfl) ?_ (fun hHeld => ?_)
            · exact HC.out _ hR
            refine wpAnyH_take (i := 0) (oi := { dst := some 35, op := Go.Op.load 45 (Go.Operand.tmp 8), type := 45, pos := "arp.go:107", after := #[], guard := none }) (v := ?_) rfl (by kernel_rfl) (by kernel_rfl) (by kernel_rfl) (fun _ _ _ h => h) (Or.inl ⟨by rfl, ?_⟩) (by assumption) ?_
            rotate_left
            · intro w hSw
              (try dsimp only at hSw)
              go_simp
              try (with_reducible rfl)
            try simp only [Act.put, List.setIfInBounds_toArray, List.set_cons_zero, List.set_cons_succ]
            refine wpAnyH_ready (rs := [1]) (by kernel_rfl) (by simp) ?_
            refine AllReadyH.cons (o := { dst := some 36, op := Go.Op.call { callee := Go.Callee.value (Go.Operand.func 68), args := #[Go.Operand.tmp 35], argTypes := #[45] }, type := 4, pos := "arp.go:107", after := #[{ on := 0, ground := Go.Ground.data }], guard := none }) rfl (fun K hK => ?_) AllReadyH.nil
            go_simp
            (go_at_call 68; (with_reducible refine Calls.mono (HI.out _) ?_); rintro e W' ⟨rfl, hb⟩; replace hR := hR.trans (hb.mono hR.size); clear hb)
            go_wp2_with fail
            refine hK.out _ _ ?_ (fun hHeld => ?_)
            · exact HC.out _ hR
            clear hK K
            try simp only [Act.put, List.setIfInBounds_toArray, List.set_cons_zero, List.set_cons_succ]
            refine wpAnyH_take (i := 2) (oi := { dst := some 37, op := Go.Op.unOp Go.UnOp.not 4 (Go.Operand.tmp 36), type := 4, pos := "arp.go:107", after := #[{ on := 1, ground := Go.Ground.data }], guard := none }) (v := ?_) rfl (by kernel_rfl) (by kernel_rfl) (by kernel_rfl) (fun _ _ _ h => h) (Or.inl ⟨by rfl, ?_⟩) (by assumption) ?_
            rotate_left
            · intro w hSw
              (try dsimp only at hSw)
              go_simp
              try (with_reducible rfl)
            try simp only [Act.put, List.setIfInBounds_toArray, List.set_cons_zero, List.set_cons_succ]
            refine wpAnyH_take (i := 3) (oi := { dst := some 38, op := Go.Op.move (Go.Operand.tmp 37), type := 4, pos := "arp.go:107", after := #[{ on := 2, ground := Go.Ground.data }, { on := 1, ground := Go.Ground.chain }], guard := none }) (v := ?_) rfl (by kernel_rfl) (by kernel_rfl) (by kernel_rfl) (fun _ _ _ h => h) (Or.inl ⟨by rfl, ?_⟩) (by assumption) ?_
            rotate_left
            · intro w hSw
              (try dsimp only at hSw)
              go_simp
              try (with_reducible rfl)
            try simp only [Act.put, List.setIfInBounds_toArray, List.set_cons_zero, List.set_cons_succ]
            refine wpAnyH_take (i := 4) (oi := { dst := some 39, op := Go.Op.load 90 (Go.Operand.tmp 5), type := 90, pos := "arp.go:107", after := #[{ on := 3, ground := Go.Ground.guard }], guard := some (3, false) }) (v := ?_) rfl (by kernel_rfl) (by kernel_rfl) (by kernel_rfl) (fun _ _ _ h => h) (Or.inl ⟨by rfl, ?_⟩) (by assumption) ?_
            rotate_left
            · intro w hSw
              (try dsimp only at hSw)
              go_simp
              try (with_reducible rfl)
            try simp only [Act.put, List.setIfInBounds_toArray, List.set_cons_zero, List.set_cons_succ]
            refine wpAnyH_take (i := 5) (oi := { dst := some 40, op := Go.Op.load 45 (Go.Operand.tmp 8), type := 45, pos := "arp.go:107", after := #[{ on := 3, ground := Go.Ground.guard }], guard := some (3, false) }) (v := ?_) rfl (by kernel_rfl) (by kernel_rfl) (by kernel_rfl) (fun _ _ _ h => h) (Or.inl ⟨by rfl, ?_⟩) (by assumption) ?_
            rotate_left
            · intro w hSw
              (try dsimp only at hSw)
              go_simp
              try (with_reducible rfl)
            try simp only [Act.put, List.setIfInBounds_toArray, List.set_cons_zero, List.set_cons_succ]
            refine wpAnyH_ready (rs := [6]) (by kernel_rfl) (by simp) ?_
            refine AllReadyH.cons (o := { dst := some 41, op := Go.Op.call { callee := Go.Callee.value (Go.Operand.func 69), args := #[Go.Operand.tmp 40], argTypes := #[45] }, type := 90, pos := "arp.go:107", after := #[{ on := 5, ground := Go.Ground.data }, { on := 3, ground := Go.Ground.chain }, { on := 3, ground := Go.Ground.guard }], guard := some (3, false) }) rfl (fun K hK => ?_) AllReadyH.nil
            go_simp
            (go_at_call 69; (with_reducible refine Calls.mono (HNO.out _) ?_); rintro e W' ⟨rfl, hb⟩; replace hR := hR.trans (hb.mono hR.size); clear hb)
            go_wp2_with fail
            refine hK.out _ _ ?_ (fun hHeld => ?_)
            · exact HC.out _ hR
            clear hK K
            try simp only [Act.put, List.setIfInBounds_toArray, List.set_cons_zero, List.set_cons_succ]
            refine wpAnyH_take (i := 7) (oi := { dst := some 42, op := Go.Op.binOp Go.BinOp.neq 90 (Go.Operand.tmp 39) (Go.Operand.tmp 41) 90, type := 4, pos := "arp.go:107", after := #[{ on := 4, ground := Go.Ground.data }, { on := 6, ground := Go.Ground.data }, { on := 3, ground := Go.Ground.guard }], guard := some (3, false) }) (v := ?_) rfl (by kernel_rfl) (by kernel_rfl) (by kernel_rfl) (fun _ _ _ h => h) (Or.inl ⟨by rfl, ?_⟩) (by assumption) ?_
            rotate_left
            · intro w hSw
              (try dsimp only at hSw)
              go_simp
              try (with_reducible rfl)
            try simp only [Act.put, List.setIfInBounds_toArray, List.set_cons_zero, List.set_cons_succ]
            refine wpAnyH_take (i := 8) (oi := { dst := some 43, op := Go.Op.pick (Go.Operand.tmp 38) (Go.Operand.const (Go.Value.bool true)) (Go.Operand.tmp 42), type := 4, pos := "arp.go:107", after := #[{ on := 3, ground := Go.Ground.data }, { on := 7, ground := Go.Ground.data }], guard := none }) (v := ?_) rfl (by kernel_rfl) (by kernel_rfl) (by kernel_rfl) (fun _ _ _ h => h) (Or.inl ⟨by rfl, ?_⟩) (by assumption) ?_
            rotate_left
            · intro w hSw
              (try dsimp only at hSw)
              go_simp
              try (with_reducible rfl)
            try simp only [Act.put, List.setIfInBounds_toArray, List.set_cons_zero, List.set_cons_succ]
            refine wpAnyH_done (by kernel_rfl) ?_ _
            have L9 := Lib.hid (L6.out.trans (hR.mono L6.out.size))
            have A9 := Lib.hid (KA.out.below hR KA.out.lt)
            obtain ⟨c0, c1, c2, c3, c4, c5, c6, c7, c8⟩ := A9.out.c9
            have z0 := A9.out.frozen 0
            have z1 := A9.out.frozen 1
            have z2 := A9.out.frozen 2
            have z3 := A9.out.frozen 3
            have z4 := A9.out.frozen 4
            have z5 := A9.out.frozen 5
            have z6 := A9.out.frozen 6
            have z7 := A9.out.frozen 7
            have z8 := A9.out.frozen 8
            clear hR
            go_wp2
            exact bodyPost_ret (v := .tuple #[noArp, .int .i64 40]) (by simp [results, Tryd.results36, go_sem, c0, c1, c2, c3, c4, c5, c6, c7, c8]) rfl ⟨by rw [HT0.out (by simp)], (((((((((L9.out.setCell (p := ⟨w.heap.size, 0, none⟩) (Nat.le_refl _) _).setCell (p := ⟨w.heap.size, 1, none⟩) (Nat.le_refl _) _).setCell (p := ⟨w.heap.size, 2, none⟩) (Nat.le_refl _) _).setCell (p := ⟨w.heap.size, 3, none⟩) (Nat.le_refl _) _).setCell (p := ⟨w.heap.size, 4, none⟩) (Nat.le_refl _) _).setCell (p := ⟨w.heap.size, 5, none⟩) (Nat.le_refl _) _).setCell (p := ⟨w.heap.size, 6, none⟩) (Nat.le_refl _) _).setCell (p := ⟨w.heap.size, 7, none⟩) (Nat.le_refl _) _).setCell (p := ⟨w.heap.size, 8, none⟩) (Nat.le_refl _) _)⟩
          · refine wp_region_held_drew (S := (fun w' => w'.cell? ⟨M, 0, none⟩ = some (.int .i64 n4) ∧ w'.cell? ⟨M, 1, none⟩ = some (.int .u64 n5) ∧ w'.cell? ⟨M, 2, none⟩ = some (.bool false) ∧ w'.cell? ⟨M, 3, none⟩ = some (.int .u64 0) ∧ w'.cell? ⟨M, 4, none⟩ = some (.int .u64 n6) ∧ w'.cell? ⟨M, 5, none⟩ = some (.int .u64 n7) ∧ w'.cell? ⟨M, 6, none⟩ = some (.bool false) ∧ w'.cell? ⟨M, 7, none⟩ = some (.int .u64 0) ∧ w'.cell? ⟨M, 8, none⟩ = some (.int .u64 n8) ∧ w'.cell? ⟨N, 0, none⟩ = some (.int .u64 n0) ∧ w'.cell? ⟨N, 1, none⟩ = some (.int .u64 n1) ∧ w'.cell? ⟨N, 2, none⟩ = some (.int .u64 n2) ∧ w'.cell? ⟨N, 3, none⟩ = some (.int .u64 n3) ∧ w'.cell? ⟨N, 4, none⟩ = some (.int .u64 n4) ∧ w'.cell? ⟨N, 5, none⟩ = some (.int .u64 n5) ∧ w'.cell? ⟨N, 6, none⟩ = some (.int .u64 n6) ∧ w'.cell? ⟨N, 7, none⟩ = some (.int .u64 n7) ∧ w'.cell? ⟨N, 8, none⟩ = some (.int .u64 n8))) (by kernel_rfl) ?_ (fun hHeld => ?_)
            · exact HC.out _ hR
            refine wpAnyH_take (i := 0) (oi := { dst := some 35, op := Go.Op.load 45 (Go.Operand.tmp 8), type := 45, pos := "arp.go:107", after := #[], guard := none }) (v := ?_) rfl (by kernel_rfl) (by kernel_rfl) (by kernel_rfl) (fun _ _ _ h => h) (Or.inl ⟨by rfl, ?_⟩) (by assumption) ?_
            rotate_left
            · intro w hSw
              (try dsimp only at hSw)
              go_simp
              try (with_reducible rfl)
            try simp only [Act.put, List.setIfInBounds_toArray, List.set_cons_zero, List.set_cons_succ]
            refine wpAnyH_ready (rs := [1]) (by kernel_rfl) (by simp) ?_
            refine AllReadyH.cons (o := { dst := some 36, op := Go.Op.call { callee := Go.Callee.value (Go.Operand.func 68), args := #[Go.Operand.tmp 35], argTypes := #[45] }, type := 4, pos := "arp.go:107", after := #[{ on := 0, ground := Go.Ground.data }], guard := none }) rfl (fun K hK => ?_) AllReadyH.nil
            go_simp
            (go_at_call 68; (with_reducible refine Calls.mono (HI.out _) ?_); rintro e W' ⟨rfl, hb⟩; replace hR := hR.trans (hb.mono hR.size); clear hb)
            go_wp2_with fail
            refine hK.out _ _ ?_ (fun hHeld => ?_)
            · exact HC.out _ hR
            clear hK K
            try simp only [Act.put, List.setIfInBounds_toArray, List.set_cons_zero, List.set_cons_succ]
            refine wpAnyH_take (i := 2) (oi := { dst := some 37, op := Go.Op.unOp Go.UnOp.not 4 (Go.Operand.tmp 36), type := 4, pos := "arp.go:107", after := #[{ on := 1, ground := Go.Ground.data }], guard := none }) (v := ?_) rfl (by kernel_rfl) (by kernel_rfl) (by kernel_rfl) (fun _ _ _ h => h) (Or.inl ⟨by rfl, ?_⟩) (by assumption) ?_
            rotate_left
            · intro w hSw
              (try dsimp only at hSw)
              go_simp
              try (with_reducible rfl)
            try simp only [Act.put, List.setIfInBounds_toArray, List.set_cons_zero, List.set_cons_succ]
            refine wpAnyH_take (i := 3) (oi := { dst := some 38, op := Go.Op.move (Go.Operand.tmp 37), type := 4, pos := "arp.go:107", after := #[{ on := 2, ground := Go.Ground.data }, { on := 1, ground := Go.Ground.chain }], guard := none }) (v := ?_) rfl (by kernel_rfl) (by kernel_rfl) (by kernel_rfl) (fun _ _ _ h => h) (Or.inl ⟨by rfl, ?_⟩) (by assumption) ?_
            rotate_left
            · intro w hSw
              (try dsimp only at hSw)
              go_simp
              try (with_reducible rfl)
            try simp only [Act.put, List.setIfInBounds_toArray, List.set_cons_zero, List.set_cons_succ]
            refine wpAnyH_take (i := 4) (oi := { dst := some 39, op := Go.Op.load 90 (Go.Operand.tmp 5), type := 90, pos := "arp.go:107", after := #[{ on := 3, ground := Go.Ground.guard }], guard := some (3, false) }) (v := ?_) rfl (by kernel_rfl) (by kernel_rfl) (by kernel_rfl) (fun _ _ _ h => h) (Or.inl ⟨by rfl, ?_⟩) (by assumption) ?_
            rotate_left
            · intro w hSw
              (try dsimp only at hSw)
              go_simp
              try (with_reducible rfl)
            try simp only [Act.put, List.setIfInBounds_toArray, List.set_cons_zero, List.set_cons_succ]
            refine wpAnyH_take (i := 5) (oi := { dst := some 40, op := Go.Op.load 45 (Go.Operand.tmp 8), type := 45, pos := "arp.go:107", after := #[{ on := 3, ground := Go.Ground.guard }], guard := some (3, false) }) (v := ?_) rfl (by kernel_rfl) (by kernel_rfl) (by kernel_rfl) (fun _ _ _ h => h) (Or.inl ⟨by rfl, ?_⟩) (by assumption) ?_
            rotate_left
            · intro w hSw
              (try dsimp only at hSw)
              go_simp
              try (with_reducible rfl)
            try simp only [Act.put, List.setIfInBounds_toArray, List.set_cons_zero, List.set_cons_succ]
            refine wpAnyH_ready (rs := [6]) (by kernel_rfl) (by simp) ?_
            refine AllReadyH.cons (o := { dst := some 41, op := Go.Op.call { callee := Go.Callee.value (Go.Operand.func 69), args := #[Go.Operand.tmp 40], argTypes := #[45] }, type := 90, pos := "arp.go:107", after := #[{ on := 5, ground := Go.Ground.data }, { on := 3, ground := Go.Ground.chain }, { on := 3, ground := Go.Ground.guard }], guard := some (3, false) }) rfl (fun K hK => ?_) AllReadyH.nil
            go_simp
            (go_at_call 69; (with_reducible refine Calls.mono (HNO.out _) ?_); rintro e W' ⟨rfl, hb⟩; replace hR := hR.trans (hb.mono hR.size); clear hb)
            go_wp2_with fail
            refine hK.out _ _ ?_ (fun hHeld => ?_)
            · exact HC.out _ hR
            clear hK K
            try simp only [Act.put, List.setIfInBounds_toArray, List.set_cons_zero, List.set_cons_succ]
            refine wpAnyH_take (i := 7) (oi := { dst := some 42, op := Go.Op.binOp Go.BinOp.neq 90 (Go.Operand.tmp 39) (Go.Operand.tmp 41) 90, type := 4, pos := "arp.go:107", after := #[{ on := 4, ground := Go.Ground.data }, { on := 6, ground := Go.Ground.data }, { on := 3, ground := Go.Ground.guard }], guard := some (3, false) }) (v := ?_) rfl (by kernel_rfl) (by kernel_rfl) (by kernel_rfl) (fun _ _ _ h => h) (Or.inl ⟨by rfl, ?_⟩) (by assumption) ?_
            rotate_left
            · intro w hSw
              (try dsimp only at hSw)
              go_simp
              try (with_reducible rfl)
            try simp only [Act.put, List.setIfInBounds_toArray, List.set_cons_zero, List.set_cons_succ]
            refine wpAnyH_take (i := 8) (oi := { dst := some 43, op := Go.Op.pick (Go.Operand.tmp 38) (Go.Operand.const (Go.Value.bool true)) (Go.Operand.tmp 42), type := 4, pos := "arp.go:107", after := #[{ on := 3, ground := Go.Ground.data }, { on := 7, ground := Go.Ground.data }], guard := none }) (v := ?_) rfl (by kernel_rfl) (by kernel_rfl) (by kernel_rfl) (fun _ _ _ h => h) (Or.inl ⟨by rfl, ?_⟩) (by assumption) ?_
            rotate_left
            · intro w hSw
              (try dsimp only at hSw)
              go_simp
              try (with_reducible rfl)
            try simp only [Act.put, List.setIfInBounds_toArray, List.set_cons_zero, List.set_cons_succ]
            refine wpAnyH_done (by kernel_rfl) ?_ _
            have L9 := Lib.hid (L6.out.trans (hR.mono L6.out.size))
            have A9 := Lib.hid (KA.out.below hR KA.out.lt)
            obtain ⟨c0, c1, c2, c3, c4, c5, c6, c7, c8⟩ := A9.out.c9
            have z0 := A9.out.frozen 0
            have z1 := A9.out.frozen 1
            have z2 := A9.out.frozen 2
            have z3 := A9.out.frozen 3
            have z4 := A9.out.frozen 4
            have z5 := A9.out.frozen 5
            have z6 := A9.out.frozen 6
            have z7 := A9.out.frozen 7
            have z8 := A9.out.frozen 8
            obtain ⟨y0, y1, y2, y3, y4, y5, y6, y7, y8⟩ := (HKM.out.below hR HKM.out.lt).c9
            clear hR
            go_wp2
            exact bodyPost_ret (v := .tuple #[arpv n4 n5 false 0 n6 n7 false 0 n8, .int .i64 0]) (by simp [results, Tryd.results36, go_sem, c0, c1, c2, c3, c4, c5, c6, c7, c8]) rfl ⟨by rw [HT1.out (by simp)], (((((((((L9.out.setCell (p := ⟨w.heap.size, 0, none⟩) (Nat.le_refl _) _).setCell (p := ⟨w.heap.size, 1, none⟩) (Nat.le_refl _) _).setCell (p := ⟨w.heap.size, 2, none⟩) (Nat.le_refl _) _).setCell (p := ⟨w.heap.size, 3, none⟩) (Nat.le_refl _) _).setCell (p := ⟨w.heap.size, 4, none⟩) (Nat.le_refl _) _).setCell (p := ⟨w.heap.size, 5, none⟩) (Nat.le_refl _) _).setCell (p := ⟨w.heap.size, 6, none⟩) (Nat.le_refl _) _).setCell (p := ⟨w.heap.size, 7, none⟩) (Nat.le_refl _) _).setCell (p := ⟨w.heap.size, 8, none⟩) (Nat.le_refl _) _)⟩
end Go.Proofs.YtnhlgonldffgoaaDoor
