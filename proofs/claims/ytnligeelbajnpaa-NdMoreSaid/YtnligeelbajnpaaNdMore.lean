/-
  I4: what is told is taken as what was told, with options of other kinds behind it.
-/
import Derived.Test.YtnligeelbajnpaaNLw
import Derived.Test.YtnligeelbajnpaaNAz
import Derived.Test.YtnligeelbajnpaaFConv
namespace Go.Proofs.Ytnligeelbajnpaa.More
open Go.ChangeShapes Go.WideShapes Go.ChangeAt Go.RowKit
open Go.Proofs.Ytnligeelbajnpaa
set_option linter.unusedVariables false

def uN (z : Int) : UInt8 := UInt8.ofNat z.toNat
def prs (z1 z2 : List Int) : List (UInt8 × UInt8) := (z1.map uN).zip (z2.map uN)
def rowI (l : List (UInt8 × UInt8)) : List Int := (rowP l).map fun b => (b.toNat : Int)
theorem rowI_take {z1 z2 : List Int} {I k s : Nat} (hk : k < 256) (hs : s < 256) (h1 : z1[I]? = some (k : Int)) (h2 : z2[I]? = some (s : Int)) :
    rowI ((prs z1 z2).take (I + 1)) = (rowI ((prs z1 z2).take I) ++ [if k = 2 then 3 else (k : Int), ((1 + s % 4 : Nat) : Int)]) ++ List.replicate (8 * (1 + s % 4) - 2) 0 := by
  have e : (prs z1 z2)[I]? = some (uN k, uN s) := by
    unfold prs
    rw [List.getElem?_zip_eq_some]
    simp [h1, h2]
  have ek : (uN (k : Int)).toNat = k := by unfold uN; rw [UInt8.toNat_ofNat']; omega
  have es : (uN (s : Int)).toNat = s := by unfold uN; rw [UInt8.toNat_ofNat']; omega
  have em : (UInt8.ofNat (1 + s % 4)).toNat = 1 + s % 4 := by rw [UInt8.toNat_ofNat']; omega
  unfold rowI
  rw [List.take_add_one, e]
  show List.map _ (rowP (_ ++ [_])) = _
  rw [rowP_snoc]
  unfold oneP
  simp only [ek, es, List.map_append, List.map_cons, em, List.map_replicate]
  by_cases h : k = 2
  · simp [h]
  · simp [h, ek]
theorem rowP_len : ∀ l : List (UInt8 × UInt8), (rowP l).length ≤ 40 * l.length
  | [] => Nat.zero_le _
  | x :: l => by
    have h := rowP_len l
    have e : rowP (x :: l) = oneP x ++ rowP l := by simp [rowP]
    have ho : (oneP x).length = 2 + (8 * (1 + x.2.toNat % 4) - 2) := by unfold oneP; simp; omega
    rw [e, List.length_append, ho, List.length_cons]
    omega
theorem rowI_by (l : List (UInt8 × UInt8)) : By (rowI l) := by
  intro z hz
  unfold rowI at hz
  obtain ⟨b, _, rfl⟩ := List.mem_map.1 hz
  have := UInt8.toNat_lt b
  omega
theorem rowI_str (l : List (UInt8 × UInt8)) : strOfNums (rowI l) = ⟨(rowP l).toArray⟩ := by
  unfold rowI
  rw [← byt_mk, str_byt]

set_option maxRecDepth 100000 in
set_option maxHeartbeats 16000000 in
theorem walkM (y : Adv) (hy : U6 y.h ∧ U6 y.l ∧ U6 y.m) (w : World) (A1 A2 : Option Addr) (n1 n2 c1 c2 : Nat) (z1 z2 : List Int) (r1 : RI .u8 w w.heap.size A1 n1 z1) (r2 : RI .u8 w w.heap.size A2 n2 z2) (q1 : n1 ≤ 9223372036854775807) (q2 : n2 ≤ 9223372036854775807) :
    Calls Try.prog 6 #[y.val, .slice A1 n1 c1, .slice A2 n2 c2] w fun e w' => e = .returned (.bool true) ∧ Below w.heap.size w w' := by
  obtain ⟨W0, hW0⟩ : ∃ W0, W0 = w.alloc (.cells (advC y) 29) := ⟨_, rfl⟩
  have Y0 : Hid (Blk W0 w.heap.size 29 (advC y)) := Lib.hid (by rw [hW0]; exact Blk.new w _ _)
  have L0 : Hid (Below w.heap.size w W0) := Lib.hid (by rw [hW0]; exact (Below.refl _ w).alloc (Nat.le_refl _) _)
  have R1 := Lib.hid r1
  have R2 := Lib.hid r2
  have QQ := Lib.hid (And.intro q1 q2)
  have HA := Lib.hid (fun W => nawake_yes W)
  have HY := Lib.hid hy
  have H1 := Lib.hid (fun W => ntell_any y hy W)
  unfold telV at H1
  clear r1 r2 hy q1 q2
  rcases Bool.eq_false_or_eq_true (rgtB y.s y.h y.l y.y y.m) with ry | ry
  · have d0 : (telR y).2 = 0 := by unfold telR; rw [if_pos ry]
    rw [d0] at H1
    have H2 : Hid (∀ (l : List (UInt8 × UInt8)), l.length ≤ 20 → ∀ W : World, Calls Try.prog 17 #[Ms.val { (telR y).1 with d := (telR y).1.d ++ strOfNums (rowI l) }] W fun e w' => e = .returned (.tuple #[y.val, .int .i64 0]) ∧ Below W.heap.size W w') := Lib.hid (fun l hl W => by
      have h := tel_more ⟨HY.out.1, HY.out.2.1, HY.out.2.2.1⟩ ry (rowP l) (rowP_ops l).1 (rowP_ops l).2
      have hz : ({ (telR y).1 with d := (telR y).1.d ++ ⟨(rowP l).toArray⟩ } : Ms).d.size ≤ 70000 := by
        have h1 := tel_size y
        have h2 := rowP_len l
        show ((telR y).1.d ++ ⟨(rowP l).toArray⟩).size ≤ 70000
        rw [ByteArray.size_append]
        have h3 : (⟨(rowP l).toArray⟩ : ByteArray).size = (rowP l).length := by rw [Lib.size_eq]
        omega
      obtain ⟨p5, a5, o5, hr5⟩ := tel_r y
      have k := ntkt_any _ hz p5 a5 o5 hr5 W
      unfold tktV at k
      rw [h] at k
      rw [rowI_str]
      exact k)
    clear d0
    obtain ⟨M, hM⟩ : ∃ M, (telR y).1 = M := ⟨_, rfl⟩
    have HMs : Hid (M.d.size ≤ 24) := Lib.hid (by rw [← hM]; exact tel_size y)
    rw [hM] at H1 H2
    clear hM
    obtain ⟨N, hN⟩ : ∃ N, min (min n1 n2) 20 = N := ⟨_, rfl⟩
    have HN := Lib.hid hN
    clear hN
    go_enter Try.func6, Try.ntmps6
    go_wp2_with fail
    refine Calls.mono (HA.out _) ?_
    rintro e w1 ⟨rfl, hb⟩
    replace hb : Below W0.heap.size W0 w1 := by rw [hW0]; exact hb
    have Y1 := Lib.hid (Y0.out.below hb Y0.out.lt)
    have L1 := Lib.hid (L0.out.trans (hb.mono L0.out.size))
    clear hb hW0
    obtain ⟨f0, f1, f2, f3, f4, f5, f6, f7⟩ := Y1.out.ad8
    go_wp2_with fail
    refine Calls.mono (H1.out _) ?_
    rintro e w2 ⟨rfl, hb⟩
    have Y2 := Lib.hid ((Y1.out.below hb Y1.out.lt).alloc (.cells (mcs M) 32))
    have L2 := Lib.hid ((L1.out.trans (hb.mono L1.out.size)).alloc (L1.out.trans (hb.mono L1.out.size)).size (.cells (mcs M) 32))
    have A2_ := Lib.hid (Blk.new w2 32 (mcs M))
    have LT2 : Hid (w.heap.size < w2.heap.size) := Lib.hid (Y1.out.below hb Y1.out.lt).lt
    clear hb f0 f1 f2 f3 f4 f5 f6 f7
    go_wp2_with fail
    obtain ⟨W2, hW2⟩ : ∃ W2, w2.alloc (.cells (mcs M) 32) = W2 := ⟨_, rfl⟩
    obtain ⟨G2, hG2⟩ : ∃ G2, w2.heap.size = G2 := ⟨_, rfl⟩
    rw [hG2] at A2_ LT2
    rw [hW2] at Y2 A2_ L2
    rw [hW2, hG2]
    clear hW2 hG2
    go_loopw [10, 11] (fun v i wr => ∃ (I n : Nat), i = .int .i64 (I : Int) ∧ I ≤ N ∧ n ≤ 40 * I ∧ Hid (wr.ownsRow W2.heap.size 5 1 v n ((rowI ((prs z1 z2).take I)).map (Value.int .u8)) ∧ Below W2.heap.size W2 wr)) (fun _ i _ => (N - (intOf i).toNat))
    case atStart => exact ⟨0, 0, rfl, Nat.zero_le _, by omega, Lib.hid ⟨⟨rfl, .inl ⟨rfl, rfl⟩⟩, Below.refl _ _⟩⟩
    case round =>
      obtain ⟨I, n, rfl, hI, hn, hH⟩ := hrel
      have hNN := HN.out
      have hQ := QQ.out
      by_cases hlt : I < N
      · have hbw : Below w.heap.size w wr := L2.out.trans (hH.out.2.mono L2.out.size)
        obtain ⟨b1, o1, x1, hA1, hb1, hx1, hwf1, hc1⟩ := (R1.out.below hbw).at_ (j := I) (by omega)
        obtain ⟨b2, o2, x2, hA2, hb2, hx2, hwf2, hc2⟩ := (R2.out.below hbw).at_ (j := I) (by omega)
        have u1 := u8_bd hwf1
        have u2 := u8_bd hwf2
        obtain ⟨k, rfl⟩ : ∃ k : Nat, x1 = k := ⟨x1.toNat, by omega⟩
        obtain ⟨s, rfl⟩ : ∃ s : Nat, x2 = s := ⟨x2.toNat, by omega⟩
        have HT := Lib.hid (rowI_take (I := I) (by omega : k < 256) (by omega : s < 256) hx1 hx2)
        have d1 : (I : Int) < n1 := by omega
        have d2 : (I : Int) < n2 := by omega
        have d3 : (I : Int) < 20 := by omega
        have d0 : (0 : Int) ≤ I := by omega
        have HI := Lib.hid (And.intro hlt (And.intro hI hn))
        subst hA1 hA2
        have HC : Hid (((8 * (1 + s % 4) - 2 : Nat) : Int) = 8 * (1 + (s : Int) % 4) - 2) := Lib.hid (by omega)
        have hw9 : IntKind.i64.wrap ((I : Int) + 1) = (I : Int) + 1 := by rw [IntKind.wrap_i64]; omega
        have hcs : ((1 + s % 4 : Nat) : Int) = 1 + (s : Int) % 4 := by omega
        by_cases hk2 : k = 2
        · have d4 : ((k : Int) == 2) = true := by simp; omega
          have HT2 : Hid (rowI ((prs z1 z2).take (I + 1)) = ((rowI ((prs z1 z2).take I)) ++ [3, 1 + (s : Int) % 4]) ++ List.replicate (8 * (1 + s % 4) - 2) 0) := Lib.hid (by rw [HT.out, if_pos hk2, hcs])
          have WF : Hid (∀ z ∈ [(3 : Int), 1 + (s : Int) % 4], (Lit.int .u8 z).wf = true) := Lib.hid (by intro z hz; simp only [List.mem_cons, List.not_mem_nil, or_false] at hz; rcases hz with rfl | rfl <;> exact wf_u8 (by omega))
          clear hbw hwf1 hwf2 hx1 hx2 hNN hQ hb1 hb2 hlt hI hn hk2 hcs
          go_wp2_with (at_builtin; first | (refine wpList_app _ rfl (.tmp 54) (.tmp 58) rfl W2.heap.size u10 n (rowI ((prs z1 z2).take I)) rfl (hH.out.1.alloc _) (wr.heap.size + 1) (some ⟨wr.heap.size, 0, none⟩) 2 2 [3, 1 + (s : Int) % 4] rfl (fun h => by cases h) (Blk.readsk (zs := [3, 1 + (s : Int) % 4]) (Blk.new _ _ _) WF.out (Nat.lt_succ_self _)) (by have := HI.out; omega) (by have := hH.out.2.size; simp; omega) ?_; intro v4 w4 hown hg hat; have O4 := Lib.hid hown; have G4 := Lib.hid hg; have B4 : Hid (Below W2.heap.size W2 w4) := Lib.hid ((hH.out.2.alloc hH.out.2.size _).grown G4.out (by have := hH.out.2.size; (try simp only [World.size_alloc]); omega) (fun k hk => own_basek hH.out.1 k hk)); clear hown hg hat) | (refine wpList_appz8 _ rfl (.tmp 60) (.tmp 63) rfl W2.heap.size v4 (n + 2) ((rowI ((prs z1 z2).take I)) ++ [3, 1 + (s : Int) % 4]) rfl O4.out (8 * (1 + s % 4) - 2) (by rw [HC.out]; rfl) (by omega) (by have := HI.out; omega) B4.out.size ?_; intro v5 w5 hown hg; have O5 := Lib.hid hown; have G5 := Lib.hid hg; have B5 : Hid (Below W2.heap.size W2 w5) := Lib.hid (B4.out.grown G5.out B4.out.size (fun k hk => own_basek O4.out k hk)); clear hown hg))
          go_roundw
          case rel => exact ⟨I + 1, n + 2 + (8 * (1 + s % 4) - 2), rfl, HI.out.1, by have := HI.out; omega, Lib.hid ⟨by rw [HT2.out]; exact O5.out, B5.out⟩⟩
          case measure => simp [intOf]; have := HI.out; omega
        · have d4 : ((k : Int) == 2) = false := by simp; omega
          have HT2 : Hid (rowI ((prs z1 z2).take (I + 1)) = ((rowI ((prs z1 z2).take I)) ++ [(k : Int), 1 + (s : Int) % 4]) ++ List.replicate (8 * (1 + s % 4) - 2) 0) := Lib.hid (by rw [HT.out, if_neg hk2, hcs])
          have WF : Hid (∀ z ∈ [(k : Int), 1 + (s : Int) % 4], (Lit.int .u8 z).wf = true) := Lib.hid (by intro z hz; simp only [List.mem_cons, List.not_mem_nil, or_false] at hz; rcases hz with rfl | rfl <;> exact wf_u8 (by omega))
          clear hbw hwf1 hwf2 hx1 hx2 hNN hQ hb1 hb2 hlt hI hn hk2 hcs
          go_wp2_with (at_builtin; first | (refine wpList_app _ rfl (.tmp 54) (.tmp 58) rfl W2.heap.size u10 n (rowI ((prs z1 z2).take I)) rfl (hH.out.1.alloc _) (wr.heap.size + 1) (some ⟨wr.heap.size, 0, none⟩) 2 2 [(k : Int), 1 + (s : Int) % 4] rfl (fun h => by cases h) (Blk.readsk (zs := [(k : Int), 1 + (s : Int) % 4]) (Blk.new _ _ _) WF.out (Nat.lt_succ_self _)) (by have := HI.out; omega) (by have := hH.out.2.size; simp; omega) ?_; intro v4 w4 hown hg hat; have O4 := Lib.hid hown; have G4 := Lib.hid hg; have B4 : Hid (Below W2.heap.size W2 w4) := Lib.hid ((hH.out.2.alloc hH.out.2.size _).grown G4.out (by have := hH.out.2.size; (try simp only [World.size_alloc]); omega) (fun k hk => own_basek hH.out.1 k hk)); clear hown hg hat) | (refine wpList_appz8 _ rfl (.tmp 60) (.tmp 63) rfl W2.heap.size v4 (n + 2) ((rowI ((prs z1 z2).take I)) ++ [(k : Int), 1 + (s : Int) % 4]) rfl O4.out (8 * (1 + s % 4) - 2) (by rw [HC.out]; rfl) (by omega) (by have := HI.out; omega) B4.out.size ?_; intro v5 w5 hown hg; have O5 := Lib.hid hown; have G5 := Lib.hid hg; have B5 : Hid (Below W2.heap.size W2 w5) := Lib.hid (B4.out.grown G5.out B4.out.size (fun k hk => own_basek O4.out k hk)); clear hown hg))
          go_roundw
          case rel => exact ⟨I + 1, n + 2 + (8 * (1 + s % 4) - 2), rfl, HI.out.1, by have := HI.out; omega, Lib.hid ⟨by rw [HT2.out]; exact O5.out, B5.out⟩⟩
          case measure => simp [intOf]; have := HI.out; omega
      · have hbb := hH.out.2
        have Y3 := Lib.hid (Y2.out.below hbb Y2.out.lt)
        have A3 := Lib.hid (A2_.out.below hbb A2_.out.lt)
        have L3 := Lib.hid (L2.out.trans (hbb.mono L2.out.size))
        have GL := Lib.hid A2_.out.lt
        have GW : Hid (w.heap.size < W2.heap.size) := Lib.hid Y2.out.lt
        have HL : Hid (((prs z1 z2).take I).length ≤ 20) := Lib.hid (by rw [List.length_take]; omega)
        obtain ⟨A4, c4, rfl, r4, -⟩ := own_ri (rowI_by _).wf hH.out.1
        have hcv := conv_str (c := c4) r4
        obtain ⟨t0, t1, t2, t3, t4⟩ := A3.out.m5
        have hfz := A3.out.frozen 4
        have hQ1 := QQ.out
        clear r4 hbb
        have hcat : ¬ 9223372036854775807 < M.d.size + (strOfNums (rowI ((prs z1 z2).take I))).size := by
          have h1 := HMs.out
          have h2 := rowP_len ((prs z1 z2).take I)
          have h3 := HL.out
          have h4 : (rowI ((prs z1 z2).take I)).length = (rowP ((prs z1 z2).take I)).length := by unfold rowI; rw [List.length_map]
          rw [strOfNums_size]
          omega
        have SB : Hid (∀ u, Below w.heap.size w (wr.setCell ⟨G2, 4, none⟩ u)) := Lib.hid fun u => L3.out.setCell (by show w.heap.size ≤ G2; have := LT2.out; omega) u
        have YB : Hid (∀ u, Blk (wr.setCell ⟨G2, 4, none⟩ u) w.heap.size 29 (advC y)) := Lib.hid fun u => Y3.out.far (by show w.heap.size ≠ G2; have := LT2.out; omega) u
        rcases (by omega : ¬ I < n1 ∨ (I < n1 ∧ ¬ I < n2) ∨ (I < n1 ∧ I < n2 ∧ ¬ I < 20)) with g | ⟨g, g'⟩ | ⟨g, g', g''⟩
        · have d1 : ¬ (I : Int) < n1 := by omega
          clear g hlt hNN hQ hQ1 hI hn
          go_wp2_with fail
          refine Calls.mono (H2.out _ HL.out _) ?_
          rintro e w5 ⟨rfl, hb⟩
          have L5 := Lib.hid (((SB.out _).trans (hb.mono (SB.out _).size)).alloc ((SB.out _).trans (hb.mono (SB.out _).size)).size (.cells (advC y) 29))
          have Y5 := Lib.hid (((YB.out _).below hb (YB.out _).lt).alloc (.cells (advC y) 29))
          have N5 := Lib.hid (Blk.new w5 29 (advC y))
          clear hb t0 t1 t2 t3 t4 hfz hcv hcat
          obtain ⟨f0, f1, f2, f3, f4, f5, f6, f7⟩ := Y5.out.ad8
          obtain ⟨g0, g1, g2, g3, g4, g5, g6, g7⟩ := N5.out.ad8
          go_wp2
          go_ret
          exact ⟨rfl, L5.out⟩
        · have d1 : (I : Int) < n1 := by omega
          have d2 : ¬ (I : Int) < n2 := by omega
          clear g g' hlt hNN hQ hQ1 hI hn
          go_wp2_with fail
          refine Calls.mono (H2.out _ HL.out _) ?_
          rintro e w5 ⟨rfl, hb⟩
          have L5 := Lib.hid (((SB.out _).trans (hb.mono (SB.out _).size)).alloc ((SB.out _).trans (hb.mono (SB.out _).size)).size (.cells (advC y) 29))
          have Y5 := Lib.hid (((YB.out _).below hb (YB.out _).lt).alloc (.cells (advC y) 29))
          have N5 := Lib.hid (Blk.new w5 29 (advC y))
          clear hb t0 t1 t2 t3 t4 hfz hcv hcat
          obtain ⟨f0, f1, f2, f3, f4, f5, f6, f7⟩ := Y5.out.ad8
          obtain ⟨g0, g1, g2, g3, g4, g5, g6, g7⟩ := N5.out.ad8
          go_wp2
          go_ret
          exact ⟨rfl, L5.out⟩
        · have d1 : (I : Int) < n1 := by omega
          have d2 : (I : Int) < n2 := by omega
          have d3 : ¬ (I : Int) < 20 := by omega
          clear g g' g'' hlt hNN hQ hQ1 hI hn
          go_wp2_with fail
          refine Calls.mono (H2.out _ HL.out _) ?_
          rintro e w5 ⟨rfl, hb⟩
          have L5 := Lib.hid (((SB.out _).trans (hb.mono (SB.out _).size)).alloc ((SB.out _).trans (hb.mono (SB.out _).size)).size (.cells (advC y) 29))
          have Y5 := Lib.hid (((YB.out _).below hb (YB.out _).lt).alloc (.cells (advC y) 29))
          have N5 := Lib.hid (Blk.new w5 29 (advC y))
          clear hb t0 t1 t2 t3 t4 hfz hcv hcat
          obtain ⟨f0, f1, f2, f3, f4, f5, f6, f7⟩ := Y5.out.ad8
          obtain ⟨g0, g1, g2, g3, g4, g5, g6, g7⟩ := N5.out.ad8
          go_wp2
          go_ret
          exact ⟨rfl, L5.out⟩
  · have d0 : telR y = (⟨false, 0, 0, 0, ⟨#[]⟩⟩, 80) := by unfold telR; rw [if_neg (by rw [ry]; decide)]; rfl
    rw [d0] at H1
    go_enter Try.func6, Try.ntmps6
    go_wp2_with fail
    refine Calls.mono (HA.out _) ?_
    rintro e w1 ⟨rfl, hb⟩
    replace hb : Below W0.heap.size W0 w1 := by rw [hW0]; exact hb
    have Y1 := Lib.hid (Y0.out.below hb Y0.out.lt)
    have L1 := Lib.hid (L0.out.trans (hb.mono L0.out.size))
    clear hb hW0
    obtain ⟨f0, f1, f2, f3, f4, f5, f6, f7⟩ := Y1.out.ad8
    go_wp2_with fail
    refine Calls.mono (H1.out _) ?_
    rintro e w2 ⟨rfl, hb⟩
    have L2 := Lib.hid ((L1.out.trans (hb.mono L1.out.size)).alloc (L1.out.trans (hb.mono L1.out.size)).size (.cells (mcs ⟨false, 0, 0, 0, ⟨#[]⟩⟩) 32))
    clear hb
    go_wp2
    go_ret
    exact ⟨rfl, L2.out⟩
theorem walk (w : World) (a0_0 : Bool) (a0_1 : Int) (w0_1 : (Lit.int .u64 a0_1).wf = true) (a0_2 : Int) (w0_2 : (Lit.int .u64 a0_2).wf = true) (a0_3 : Bool) (a0_4 : Bool) (a0_5 : Bool) (a0_6 : Bool) (a0_7 : Int) (w0_7 : (Lit.int .u64 a0_7).wf = true) (a1 : Option Addr) (l1 c1 : Nat) (z1 : List Int) (w1 : IsRow .u8 w a1 l1 c1 z1) (s1 : c1 * 1 ≤ 140737488351232) (a2 : Option Addr) (l2 c2 : Nat) (z2 : List Int) (w2 : IsRow .u8 w a2 l2 c2 z2) (s2 : c2 * 1 ≤ 140737488351232) :
    Calls Try.prog 6 #[.agg #[.bool a0_0, .int .u64 a0_1, .int .u64 a0_2, .bool a0_3, .bool a0_4, .bool a0_5, .bool a0_6, .int .u64 a0_7], .slice a1 l1 c1, .slice a2 l2 c2] w fun e w' => e = .returned (.bool true) ∧ Below w.heap.size w w' := by
  obtain ⟨r1, p1, p2⟩ := w1.ri
  obtain ⟨r2, p3, p4⟩ := w2.ri
  exact walkM ⟨a0_0, a0_1, a0_2, a0_3, a0_4, a0_5, a0_6, a0_7⟩ ⟨wf_uI w0_1, wf_uI w0_2, wf_uI w0_7⟩ w a1 a2 l1 l2 c1 c2 _ _ r1 r2 (by omega) (by omega)
set_option maxRecDepth 100000 in
theorem contract (H : Type) (enc : TypeId × Value → H) (W : World) (base : Nat) (args : Array Value) (ds gs : List (DataW H)) (before : List MemPlace)
    (hval0 : ∀ (j : Nat) t v, Try.f6.params[j]? = some t → args[j]? = some v → Value.okWide Try.prog W .any base t v)
    (hW : DataW.Whole enc Try.prog Try.f6.params.toList Rows.ndMoreSpec.vars false W args.toList ds gs before)
    (hsz0 : (DataW.weightsEach Try.prog (Try.f6.params.toList ++ Rows.ndMoreSpec.plain.varTypes Try.prog) (ds ++ gs)).all (· ≤ reachBytes) = true) :
    Calls Try.prog 6 args W fun e W' => ∃ v, e = .returned v ∧ Rows.ndMoreSpec.post enc Try.prog Try.f6 false true false false W args v W' := by
  have hsz := hsz0
  clear hsz0
  have hval := hval0
  clear hval0
  have hW' := hW
  obtain ⟨p, q, hA0, hV, rfl, hfz, hnd⟩ := hW
  have hA : DataW.TrodAll enc Try.prog W 0 (fun _ => true) true Try.f6.params.toList args.toList ds p := hA0
  rw [Try.params6] at hA hval hsz
  obtain ⟨v0, vs0, d0, ds0, p0, q0, hargs, rfl, rfl, h0, r0⟩ := trodAll_cons hA
  obtain ⟨v1, vs1, d1, ds1, p1, q1, rfl, rfl, rfl, h1, r1⟩ := trodAll_cons r0
  obtain ⟨v2, vs2, d2, ds2, p2, q2, rfl, rfl, rfl, h2, r2⟩ := trodAll_cons r1
  obtain ⟨rfl, rfl, rfl⟩ := trodAll_nil r2
  obtain rfl : args = #[v0, v1, v2] := by cases args; simp_all
  obtain ⟨rfl, rfl⟩ := trodVars_none hV
  have k0 := h0
  have lt0 : ∀ x ∈ p0, x.block < W.heap.size := by obtain ⟨m, hm⟩ := k0; exact DataW.trod_lt m _ _ _ hm
  obtain ⟨a0_0, a0_1, a0_2, a0_3, a0_4, a0_5, a0_6, a0_7, rfl, w0_1, w0_2, w0_7, ep0⟩ := open_adv (hval 0 29 v0 rfl rfl) h0
  obtain ⟨a1, l1, c1, rfl⟩ := okWide_slice Try.underlying49 (hval 1 49 v1 rfl rfl)
  have k1 := h1
  have lt1 : ∀ x ∈ p1, x.block < W.heap.size := by obtain ⟨m, hm⟩ := k1; exact DataW.trod_lt m _ _ _ hm
  obtain ⟨z1, w1, s1⟩ : ∃ zs, IsRow .u8 W a1 l1 c1 zs ∧ c1 * 1 ≤ 140737488351232 := isRow_of Try.underlying49 Try.underlying5 (by kernel_rfl) (by kernel_rfl) h1 (fun hx => sized_slice hsz (j := 1) (t := 49) (e := 5) rfl (by rw [hx]; rfl) Try.underlying49)
  obtain ⟨a2, l2, c2, rfl⟩ := okWide_slice Try.underlying49 (hval 2 49 v2 rfl rfl)
  have k2 := h2
  have lt2 : ∀ x ∈ p2, x.block < W.heap.size := by obtain ⟨m, hm⟩ := k2; exact DataW.trod_lt m _ _ _ hm
  obtain ⟨z2, w2, s2⟩ : ∃ zs, IsRow .u8 W a2 l2 c2 zs ∧ c2 * 1 ≤ 140737488351232 := isRow_of Try.underlying49 Try.underlying5 (by kernel_rfl) (by kernel_rfl) h2 (fun hx => sized_slice hsz (j := 2) (t := 49) (e := 5) rfl (by rw [hx]; rfl) Try.underlying49)
  clear hA0
  refine (walk W a0_0 a0_1 w0_1 a0_2 w0_2 a0_3 a0_4 a0_5 a0_6 a0_7 w0_7 a1 l1 c1 z1 w1 s1 a2 l2 c2 z2 w2 s2).mono fun e W' ⟨he, bel⟩ => ?_
  subst he
  exact ⟨_, rfl, _, _, _, [], _, [], hW', trodAll_mk1 (shut_bool Try.underlying4 _), (trodAll_cons_mk (Below.trod laidOut (by kernel_rfl) (of_decide_eq_true (by kernel_rfl)) k0 bel lt0) (trodAll_cons_mk (Below.trod laidOut (by kernel_rfl) (of_decide_eq_true (by kernel_rfl)) k1 bel lt1) (trodAll_cons_mk (Below.trod laidOut (by kernel_rfl) (of_decide_eq_true (by kernel_rfl)) k2 bel lt2) trodAll_mk0))), rfl, bel.frame _, fun h => by cases h⟩

set_option maxRecDepth 100000 in
theorem lifted (os : Os) (started : os.Started) (H : Type) (enc : TypeId × Value → H) :
    ReturnsInHanded {} Try.checked os 6 .any (Rows.ndMoreSpec.pre6 enc Try.prog Try.f6 Rows.ndMoreRow.domain false) (Rows.ndMoreSpec.post enc Try.prog Try.f6 false true false false) := by
  refine returnsInHanded_of_change_sized (C := Try.checked) own started (by kernel_rfl) Try.func6
    (ChangeSpec.witness6 (enc := enc) (C := Try.checked) false ⟨#[], #[.agg #[.bool false, .int .u64 0, .int .u64 0, .bool false, .bool false, .bool false, .bool false, .int .u64 0], .slice none 0 0, .slice none 0 0], []⟩ 8 (by kernel_rfl) (by kernel_rfl) (by kernel_rfl) (by kernel_rfl)) ?_
  intro W base args ds gs before hval hW _ hsz _
  exact contract H enc W base args ds gs before hval hW hsz

theorem over : Rows.ndMoreRow.holds Try.pinned (OpenSpec.ofChange Rows.ndMoreSpec) :=
  OpenClaim.holds_of_wide 6 Try.f6 rfl rfl rfl rfl rfl rfl rfl ⟨rfl, rfl, rfl, rfl, rfl⟩ rfl rfl rfl rfl rfl (by kernel_rfl) Try.func6 (by kernel_rfl)
    (of_decide_eq_true (by kernel_rfl)) (by unfold Func.isWrapper; first | (rw [if_pos (by decide +kernel)]; kernel_rfl) | (rw [if_neg (by decide +kernel)]; exact ⟨rfl, rfl⟩))
    (fun os started H enc _ => lifted os started H enc)

theorem proved : Rows.NdMoreSaid := over
#print axioms proved
end Go.Proofs.Ytnligeelbajnpaa.More
