/-
  ether.LayArp of any message.
-/
import Derived.Test.YtnhlgonldffgoaaDoorECopy
import Derived.Test.YtnhlgonldffgoaaDoorELay
import Derived.Deep.RegionHeld3
namespace Go.Proofs.YtnhlgonldffgoaaDoor
open Go.RowKit
set_option linter.unusedVariables false

theorem laV_no {op fm : Int} {s : Bool} {h l tm : Int} {s' : Bool} {h' l' : Int} (e : arB op fm s h l tm s' h' l' = false) : laV op fm s h l tm s' h' l' = .tuple #[.string ⟨#[]⟩, .int .i64 40] := by unfold laV; rw [if_pos e]
theorem laV_ok {op fm : Int} {s : Bool} {h l tm : Int} {s' : Bool} {h' l' : Int} (e : arB op fm s h l tm s' h' l' = true) : laV op fm s h l tm s' h' l' = .tuple #[.string (strOfNums (arL op fm l tm l')), .int .i64 0] := by unfold laV; rw [e, if_neg (by decide)]
theorem slice28 (g a : Nat) (ha : a < 28) (w : World) : (Instr.slice 30 (.slice (some ⟨g, 0, none⟩) 28 28) (some (.int .i64 (a : Int))) none none).run Tryd.prog w = .ok (.slice (some ⟨g, a, none⟩) (28 - a) (28 - a)) w := by
  rw [slice_from w _ 28 28 a (by omega) (Nat.le_refl _), if_neg (by omega)]
  simp only [Option.map_some, Addr.add]
  split
  · rename_i h; rw [h]
  · rw [Nat.zero_add]

set_option maxRecDepth 100000 in
set_option maxHeartbeats 4000000 in
theorem layArp_any (op fm : Int) (s : Bool) (h l tm : Int) (s' : Bool) (h' l' : Int) (f0 : 0 ≤ fm) (l0 : 0 ≤ l) (t0 : 0 ≤ tm) (m0 : 0 ≤ l') (w : World) (hE : EnvE w) :
    Calls Tryd.prog 32 #[arpv op fm s h l tm s' h' l'] w fun e w' => e = .returned (laV op fm s h l tm s' h' l') ∧ Below w.heap.size w w' := by
  obtain ⟨V, hV⟩ : ∃ V, arB op fm s h l tm s' h' l' = V := ⟨_, rfl⟩
  have H1 := Lib.hid (fun W => isArp_at op fm s h l tm s' h' l' hV W)
  cases V
  · have HX := Lib.hid (laV_no hV)
    clear hV
    go_enter Tryd.func32, Tryd.ntmps32
    go_wp2_with fail
    refine Calls.mono (H1.out _) ?_
    rintro e w1 ⟨rfl, hb⟩
    have L1 := ((Below.refl _ w).alloc (Nat.le_refl _) _).trans (hb.mono (by simp only [World.size_alloc]; omega))
    clear hb
    go_wp2
    go_ret2
    exact ⟨by rw [HX.out]; rfl, L1⟩
  · have HX := Lib.hid (laV_ok hV)
    obtain ⟨ho, -, rfl, rfl, -, -, rfl, rfl, -⟩ := arB_of hV
    have HN := Lib.hid (fun W => numbersOf_any op fm false 0 l tm false 0 l' (by omega) (by omega) W)
    have HPC := Lib.hid (pcs_at op fm l tm l')
    have hpos : ∀ v, v ∈ [1, 2048, 6, 4, op, fm, l, tm, l'] → 0 ≤ v := by
      intro v hv
      simp only [List.mem_cons, List.not_mem_nil, or_false] at hv
      omega
    have HPOS := Lib.hid hpos
    have HALL := Lib.hid (arJ_all op fm l tm l')
    obtain ⟨PS, hPS⟩ : ∃ x, pcs op fm l tm l' = x := ⟨_, rfl⟩
    rw [hPS] at HPC HALL
    have HPS := Lib.hid hPS
    have HE := Lib.hid hE
    clear hV hpos ho hPS hE
    go_enter Tryd.func32, Tryd.ntmps32
    go_wp2_with fail
    refine Calls.mono (H1.out _) ?_
    rintro e w1 ⟨rfl, hb⟩
    have K1 := Lib.hid ((Blk.new w 45 _).below hb (by simp only [World.size_alloc]; omega))
    have L1 := Lib.hid (((Below.refl _ w).alloc (Nat.le_refl _) _).trans (hb.mono (by simp only [World.size_alloc]; omega)))
    obtain ⟨g1, g2, g3, g4, g5, g6, g7, g8, g9⟩ := K1.out.c9
    clear hb
    go_wp2_with fail
    refine Calls.mono (HN.out _) ?_
    rintro e w2 ⟨rfl, hb⟩
    have L2 := Lib.hid (L1.out.trans (hb.mono L1.out.size))
    have E2 := Lib.hid (HE.out.below L2.out)
    clear hb g1 g2 g3 g4 g5 g6 g7 g8 g9 K1
    obtain ⟨U, hU⟩ : ∃ U, U = (w2.alloc (.cells #[.int .u64 1, .int .u64 2048, .int .u64 6, .int .u64 4, .int .u64 op, .int .u64 fm, .int .u64 l, .int .u64 tm, .int .u64 l'] 90)).alloc (.cells (madeCells #[.int .u8 0] 28) 5) := ⟨_, rfl⟩
    have hmk := make_nat 28 (by decide) (w2.alloc (.cells #[.int .u64 1, .int .u64 2048, .int .u64 6, .int .u64 4, .int .u64 op, .int .u64 fm, .int .u64 l, .int .u64 tm, .int .u64 l'] 90))
    rw [← hU, World.size_alloc] at hmk
    have hmk2 : (Instr.makeSlice 30 (.int .i64 28) (.int .i64 28)).run Tryd.prog (w2.alloc (.cells #[.int .u64 1, .int .u64 2048, .int .u64 6, .int .u64 4, .int .u64 op, .int .u64 fm, .int .u64 l, .int .u64 tm, .int .u64 l'] 90)) = .ok (.slice (some ⟨w2.heap.size + 1, 0, none⟩) 28 28) U := hmk
    have LU := Lib.hid (show Below w.heap.size w U by rw [hU]; exact (L2.out.alloc L2.out.size _).alloc (by have := L2.out.size; simp; omega) _)
    have NU := Lib.hid (show Blk U w2.heap.size 90 (([1, 2048, 6, 4, op, fm, l, tm, l'].map (Value.int .u64)).toArray) by rw [hU]; exact (Blk.new w2 90 _).alloc _)
    have BU := Lib.hid (show Blk U (w2.heap.size + 1) 5 (((arJ PS 0).map (Value.int .u8)).toArray) by
      rw [hU]
      have := Blk.new (w2.alloc (.cells #[.int .u64 1, .int .u64 2048, .int .u64 6, .int .u64 4, .int .u64 op, .int .u64 fm, .int .u64 l, .int .u64 tm, .int .u64 l'] 90)) 5 (madeCells #[.int .u8 0] 28)
      rw [World.size_alloc] at this
      have e0 : arJ PS 0 = List.replicate 28 0 := by simp [arJ, catP, sumP]
      rw [e0, List.map_replicate, ← made_list]
      exact this)
    have EU := E2.out.below (show Below w2.heap.size w2 U by rw [hU]; exact ((Below.refl _ w2).alloc (Nat.le_refl _) _).alloc (by simp) _)
    have HRG := Lib.hid EU.range
    have hs2 := L2.out.size
    clear hU hmk EU
    go_wp2_with (with_reducible refine wpList_load_mid rfl 94 (.global 0) rfl 0 0 rfl plcCells.toList _ HRG.out Tryd.underlying94 rfl infoPl ?_)
    clear hmk2
    go_loopw [15] (fun i wr => ∃ j : Nat, j ≤ 9 ∧ i = .int .i64 (j : Int) ∧ Hid (Blk wr (w2.heap.size + 1) 5 (((arJ PS j).map (Value.int .u8)).toArray) ∧ Blk wr w2.heap.size 90 (([1, 2048, 6, 4, op, fm, l, tm, l'].map (Value.int .u64)).toArray) ∧ Below w.heap.size w wr)) (fun i _ => 9 - (intOf i).toNat)
    case atStart => exact ⟨0, by decide, rfl, Lib.hid ⟨BU.out, NU.out, LU.out⟩⟩
    case round =>
      obtain ⟨j, hj, rfl, hh⟩ := hrel
      by_cases hlt : j < 9
      · obtain ⟨a, k, v, -, hp, hn, hsum, hak, hk8, hk0, ha, hix⟩ := HPC.out j hlt
        have hv := HPOS.out v (List.mem_of_getElem? hn)
        have hsr : w2.heap.size + 1 < wr.heap.size := hh.out.1.lt
        have hj1 : (j : Int) < 9 := by omega
        have hj0 : (0 : Int) ≤ (j : Int) := by omega
        have ha0 : (0 : Int) ≤ (a : Int) := by omega
        have ha1 : (a : Int) < 28 := by omega
        obtain ⟨V, hV⟩ : ∃ V, V = wr.alloc (.cells #[.int .i64 (a : Int), .int .i64 (k : Int)] 93) := ⟨_, rfl⟩
        have PV : Blk V wr.heap.size 93 #[.int .i64 (a : Int), .int .i64 (k : Int)] := by rw [hV]; exact Blk.new _ _ _
        have NV : Blk V w2.heap.size 90 (([1, 2048, 6, 4, op, fm, l, tm, l'].map (Value.int .u64)).toArray) := by rw [hV]; exact hh.out.2.1.alloc _
        have BV := Lib.hid (show Blk V (w2.heap.size + 1) 5 (((arJ PS j).map (Value.int .u8)).toArray) by rw [hV]; exact hh.out.1.alloc _)
        have LV := Lib.hid (show Below w.heap.size w V by rw [hV]; exact hh.out.2.2.alloc hh.out.2.2.size _)
        have hVs : V.heap.size = wr.heap.size + 1 := by rw [hV, World.size_alloc]
        have HC : Hid (∀ W', Below V.heap.size V W' → W'.cell? ⟨wr.heap.size, 0, none⟩ = some (.int .i64 (a : Int)) ∧ W'.cell? ⟨wr.heap.size, 1, none⟩ = some (.int .i64 (k : Int)) ∧ W'.cell? ⟨w2.heap.size, j, none⟩ = some (.int .u64 v)) := Lib.hid fun W' hb => by
          have p := PV.below hb PV.lt
          have n := NV.below hb NV.lt
          refine ⟨by rw [p.cell]; rfl, by rw [p.cell]; rfl, ?_⟩
          rw [n.cell, List.getElem?_toArray, List.getElem?_map, hn]; rfl
        have HD : Hid (∀ W', Below V.heap.size V W' → ∀ w3, Only W' w3 (w2.heap.size + 1) → w3.cell? ⟨wr.heap.size, 0, none⟩ = some (.int .i64 (a : Int)) ∧ w3.cell? ⟨wr.heap.size, 1, none⟩ = some (.int .i64 (k : Int)) ∧ w3.cell? ⟨w2.heap.size, j, none⟩ = some (.int .u64 v)) := Lib.hid fun W' hb w3 ho => by
          obtain ⟨c0, c1, c2⟩ := HC.out W' hb
          have e : ∀ b o, b ≠ w2.heap.size + 1 → w3.cell? ⟨b, o, none⟩ = W'.cell? ⟨b, o, none⟩ := fun b o hne => World.cell?_of_block (ho.2.2.2.2 b hne)
          exact ⟨by rw [e _ _ (by omega)]; exact c0, by rw [e _ _ (by omega)]; exact c1, by rw [e _ _ (by omega)]; exact c2⟩
        have HP := Lib.hid (fun W => put_nil k hk8 v hv W)
        have hsl := fun W => slice28 (w2.heap.size + 1) a ha W
        have HK := Lib.hid (And.intro hp (And.intro hsum (And.intro hak hk8)))
        have HNV := Lib.hid NV
        have HVe := Lib.hid hV
        have HVs := Lib.hid hVs
        have hLen := arJ_len PS j (by rw [hsum]; omega)
        have HLen := Lib.hid hLen
        have hR : Below V.heap.size V V.drew := (Below.refl _ _).drew
        clear hp hn hsum hV PV NV hVs hh hLen
        go_wp2
        rw [← HVe.out]
        go_region_held3 (fun w' => w'.cell? ⟨wr.heap.size, 0, none⟩ = some (.int .i64 (a : Int)) ∧ w'.cell? ⟨wr.heap.size, 1, none⟩ = some (.int .i64 (k : Int)) ∧ w'.cell? ⟨w2.heap.size, j, none⟩ = some (.int .u64 v)) (first | exact HC.out _ hR | exact HD.out _ hR _ ho3) (first
          | (go_at_call 65; (with_reducible refine Calls.mono (HP.out _) ?_); rintro e W' ⟨rfl, hr, hb⟩; have HRr := Lib.hid hr; replace hR := hR.trans (hb.mono hR.size); clear hr hb)
          | (refine step_copy_lay (o := ⟨some 29, _, _, _, _, _⟩) (by rfl) (.tmp 22) (.tmp 28) (by rfl) (28 - a) (28 - a) k k (w2.heap.size + 1) a V.heap.size (arJ PS j) (putOf k v) (by rfl) (by rfl) (putOf_len k v) (BV.out.below hR BV.out.lt) HRr.out (by omega) (by have := HLen.out; omega) ?_; intro w3 HB3 ho3))
        have HN1 : Hid (Blk w3 (w2.heap.size + 1) 5 (((arJ PS (j + 1)).map (Value.int .u8)).toArray) ∧ Blk w3 w2.heap.size 90 (([1, 2048, 6, 4, op, fm, l, tm, l'].map (Value.int .u64)).toArray) ∧ Below w.heap.size w w3) := Lib.hid (by
          obtain ⟨p1, p2, p3, p4⟩ := HK.out
          refine ⟨?_, (HNV.out.below hR HNV.out.lt).only2 ho3 (by omega), (LV.out.trans (hR.mono LV.out.size)).trans (ho3.below (by have := hs2; omega))⟩
          have := HB3.out
          rw [← p2, arJ_step PS j (k, v) p1 (by rw [p2]; exact p3)] at this
          exact this)
        clear HB3 ho3 hR HRr
        go_wp2
        go_roundw
        case rel => exact ⟨j + 1, by omega, by go_num, HN1⟩
        case measure => simp [intOf]; omega
      · obtain rfl : j = 9 := by omega
        obtain ⟨b1, b2, b3⟩ := hh.out
        rw [HALL.out] at b1
        have hcv := conv_str (c := 28) (b1.reads (arL_by op fm l tm l').wf b1.lt)
        rw [arL_len] at hcv
        have HL := Lib.hid b3
        clear hh b1 b2 b3
        go_wp2
        go_ret2
        exact ⟨by rw [HX.out]; rfl, HL.out⟩
end Go.Proofs.YtnhlgonldffgoaaDoor
