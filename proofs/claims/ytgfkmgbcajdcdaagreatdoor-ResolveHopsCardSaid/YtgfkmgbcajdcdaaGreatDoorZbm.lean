/-
  Several texts in one: RvW, RvIn, PFrame, REnv.
-/
import Derived.Test.YtgfkmgbcajdcdaaGreatDoorZbg
import Derived.Test.YtgfkmgbcajdcdaaGreatDoorZad
import Derived.Lib.SmallJoins
import Derived.Test.YtgfkmgbcajdcdaaGreatDoorZbb
import Derived.Test.YtgfkmgbcajdcdaaGreatDoorZai
import Derived.Test.YtgfkmgbcajdcdaaGreatDoorZag
import Derived.Test.YtgfkmgbcajdcdaaGreatDoorTie
import Derived.Test.YtgfkmgbcajdcdaaGreatDoorCards
import Derived.Lib.LaidTab
import Derived.Stop.LaidErr
import Derived.LaidLaws
import Derived.Deep.DeepHandedRow
import Derived.Lay
import Derived.SevenTiedAt
import Derived.Test.YtgfkmgbcajdcdaaGreatDoorZaa
set_option linter.unusedVariables false
set_option maxRecDepth 100000
set_option maxHeartbeats 16000000
namespace Go.Proofs.YtgfkmgbcajdcdaaGreatDoor
open Go.RowKit Ifs
namespace Vw
def nmA : ByteArray := ⟨#[97]⟩
def nmB : ByteArray := ⟨#[98]⟩
def i1 : StI := ([(nmA, 2, 1500, false)], [[]])
def i2 : StI := ([(nmA, 2, 1500, false), (nmB, 4, 1500, false)], [[], []])
def i3 : StI := ([(nmA, 2, 1500, true), (nmB, 4, 1500, false)], [[], []])
def pN : PfI := ((false, 0, 167772160), 24)
def pE (n : Nat) : PfI := ((false, 0, n), 8)
def x1 : PaI := (0, 0, zeroA, 1, false)
def x2 : PaI := (1, 0, (false, 0, 167772169), 0, false)
def x3 : PaI := (2, 0, (false, 0, 335610113), 0, false)
def x4 : PaI := (1, 0, zeroA, 2, false)
def x5 : PaI := (1, 0, zeroA, 0, true)
def x6 : PaI := (1, 0, (false, 0, 1006632961), 0, false)
def r1 : List TdI := [(pN, x1)]
def r2 : List TdI := [(pN, x1), (pE 335544320, x2)]
def r3 : List TdI := [(pN, x1), (pE 335544320, x2), (pE 503316480, x3)]
def r4 : List TdI := [(pN, x1), (pE 335544320, x2), (pE 503316480, x3), (pE 671088640, x4)]
def r5 : List TdI := [(pN, x1), (pE 335544320, x2), (pE 503316480, x3), (pE 671088640, x4), (pE 838860800, x5)]
def r6 : List TdI := [(pN, x1), (pE 335544320, x2), (pE 503316480, x3), (pE 671088640, x4), (pE 838860800, x5), (pE 1006632960, x6)]
theorem a1 : addI ([], []) nmA 2 1500 = (i1, 1, 0) := by kernel_rfl
theorem a2 : addI i1 nmB 4 1500 = (i2, 2, 0) := by kernel_rfl
theorem a3 : turnI i2 1 true = (i3, 0) := by kernel_rfl
theorem b1 : putR [] pN x1 = (r1, 0) := by kernel_rfl
theorem b2 : putR r1 (pE 335544320) x2 = (r2, 0) := by kernel_rfl
theorem b3 : putR r2 (pE 503316480) x3 = (r3, 0) := by kernel_rfl
theorem b4 : putR r3 (pE 671088640) x4 = (r4, 0) := by kernel_rfl
theorem b5 : putR r4 (pE 838860800) x5 = (r5, 0) := by kernel_rfl
theorem b6 : putR r5 (pE 1006632960) x6 = (r6, 0) := by kernel_rfl
theorem c1 : hopI r6 i3 (pE 503316480) = ((1, (false, 0, 167772169), false), 0) := by kernel_rfl
theorem c2 : hopI r6 i3 (pE 671088640) = (zeroH, 150) := by kernel_rfl
theorem c3 : hopI r6 i3 (pE 1006632960) = (zeroH, 151) := by kernel_rfl
def tb : List EnI := tabI r6 i3
theorem c4 : tb.length = 4 := by kernel_rfl
theorem c5 : (numI tb).2.length = 3 := by kernel_rfl
theorem c6 : (numI tb).1[2]? = some (pE 503316480, 2) := by kernel_rfl
theorem c7 : lookI tb (false, 0, 838926593) = some (0, zeroA, true) := by kernel_rfl
theorem c8 : pathI r6 i3 pN = some x1 := by kernel_rfl
theorem c9 : (chI [] tb).length = 4 := by rw [chI_nil, List.length_map]; exact c4
theorem pN_ok : PfOk pN := by unfold PfOk N64 I64 pN; decide
theorem pE_ok {n : Nat} (h : n ≤ 4294967295) : PfOk (pE n) := ⟨⟨(show N64 0 by unfold N64; decide), (show N64 n by unfold N64; omega)⟩, (show I64 8 by unfold I64; decide)⟩
theorem x1_ok : PaOk x1 := by unfold PaOk N64 I64 x1 zeroA; decide
theorem x2_ok : PaOk x2 := by unfold PaOk N64 I64 x2; decide
theorem x3_ok : PaOk x3 := by unfold PaOk N64 I64 x3; decide
theorem x4_ok : PaOk x4 := by unfold PaOk N64 I64 x4 zeroA; decide
theorem x5_ok : PaOk x5 := by unfold PaOk N64 I64 x5 zeroA; decide
theorem x6_ok : PaOk x6 := by unfold PaOk N64 I64 x6; decide
end Vw
open Vw
theorem awake16 (w : World) (hE : EnvR w) : Calls Tryz.prog 8 #[] w fun e w' => e = .returned (.bool true) ∧ Below w.heap.size w w' := by
 have HEn := lH hE
 have HNewI := lH (Ifs.newP w)
 clear hE
 go_enter Tryz.func8, Tryz.ntmps8
 go_wp2_with fail
 refine cZm HNewI.out ?_
 rintro e w1 ⟨p, T0, rfl, hP, hb, hs⟩
 have HI1 := lH hP
 have HB1 := lH (And.intro hb hs)
 have HNewR := lH (newP w1)
 clear hP hb hs
 go_wp2_with fail
 refine cZm HNewR.out ?_
 rintro e w2 ⟨t, S0, rfl, hP, hb, hs⟩
 have hT2 := Tch.of_below [] hb
 have Y2 : Hid (Bth w w2 t p S0 T0 [] ([], [])) := lH ⟨hP, HI1.out.tch hT2 (by simp), fun s h1 h2 => by have := hs s h1; have := HI1.out.lt s h2; omega, HB1.out.1.trans (hb.mono HB1.out.1.size), fun s h1 => Nat.le_trans HB1.out.1.size (hs s h1), HB1.out.2⟩
 clear hP hb hs hT2
 have HC2 := lH (Ifs.addP p T0 ([], []) nmA 2 1500 (by decide) (by decide) (by decide) w2 Y2.out.I)
 rw [a1] at HC2
 go_wp2_with fail
 refine cZm HC2.out ?_
 rintro e w3 ⟨rfl, T1, hP, hg⟩
 have Y3 := lH (Y2.out.goI hP hg)
 clear hP hg
 have HC3 := lH (Ifs.addP p T1 i1 nmB 4 1500 (by decide) (by decide) (by decide) w3 Y3.out.I)
 rw [a2] at HC3
 go_wp2_with fail
 refine cZm HC3.out ?_
 rintro e w4 ⟨rfl, T2, hP, hg⟩
 have Y4 := lH (Y3.out.goI hP hg)
 clear hP hg
 have HC4 := lH (Ifs.turnP p T2 i2 1 true (by decide) w4 Y4.out.I)
 rw [a3] at HC4
 go_wp2_with fail
 refine cZm HC4.out ?_
 rintro e w5 ⟨rfl, T3, hP, hg⟩
 have Y5 := lH (Y4.out.goI hP hg)
 clear hP hg
 have HNt := lH (fun W => net_any 10 0 0 0 167772160 (by decide) (by decide) (by decide) (by decide) (by decide) W)
 go_wp2_with fail
 refine cZm (HNt.out w5) ?_
 rintro e w6 ⟨rfl, hT⟩
 have Y6 := lH (Y5.out.tch0 hT)
 clear hT HNt
 obtain ⟨nb, hnb⟩ : ∃ nb, w6.heap.size = nb := ⟨_, rfl⟩
 obtain ⟨w7, hw7⟩ : ∃ W, w6.alloc (.cells #[.bool false, .int .u64 0, .int .u64 167772160, .int .i64 24] 30) = W := ⟨_, rfl⟩
 have K7 : Hid (OwnR w7 S0 nb 30 #[.bool false, .int .u64 0, .int .u64 167772160, .int .i64 24]) := lH (hw7 ▸ hnb ▸ OwnR.new Y6.out.R _ _)
 have Y7 : Hid (Bth w w7 t p S0 T3 [] i3) := lH (hw7 ▸ Y6.out.tch0 ((Tch.refl _ []).alloc _))
 have HW7 := lH (And.intro hw7 hnb)
 clear hw7 hnb
 have HC7 : Hid (Calls Tryz.prog 40 #[ptrV t, .agg #[.bool false, .int .u64 0, .int .u64 167772160, .int .i64 24], .agg #[.int .i64 0, .int .i64 0, .bool false, .int .u64 0, .int .u64 0, .int .i64 1, .bool false]] w7 _) := lH (putP t S0 [] pN x1 pN_ok x1_ok w7 (Y7.out.env HEn.out).1 (Y7.out.env HEn.out).2 Y7.out.R)
 rw [b1] at HC7
 obtain ⟨k0, k1, k2, k3⟩ := K7.out.blk.c4
 go_wp2_with fail
 rw [HW7.out.1, HW7.out.2]
 refine cZm HC7.out ?_
 rintro e w8 ⟨rfl, S1, hP, hg⟩
 have Y8 := lH (Y7.out.goR hP hg)
 have K8 := lH (K7.out.go hg)
 clear hP hg k0 k1 k2 k3
 have HC8 := lH (eight_any 20 335544320 (by decide) (by decide) w8)
 go_wp2_with fail
 refine cZm HC8.out ?_
 rintro e w9 ⟨rfl, hT⟩
 have Y9 := lH (Y8.out.tch0 hT)
 have K9 := lH (K8.out.tch0 hT)
 clear hT
 have HC9 := lH (net_any 10 0 0 9 167772169 (by decide) (by decide) (by decide) (by decide) (by decide) w9)
 go_wp2_with fail
 refine cZm HC9.out ?_
 rintro e w10 ⟨rfl, hT⟩
 have Y10 := lH (Y9.out.tch0 hT)
 have K10 := lH (K9.out.tch0 hT)
 clear hT
 have HC10 : Hid (Calls Tryz.prog 40 #[ptrV t, .agg #[.bool false, .int .u64 0, .int .u64 335544320, .int .i64 8], .agg #[.int .i64 1, .int .i64 0, .bool false, .int .u64 0, .int .u64 167772169, .int .i64 0, .bool false]] w10 _) := lH (putP t S1 r1 (pE 335544320) x2 (pE_ok (by decide)) x2_ok w10 (Y10.out.env HEn.out).1 (Y10.out.env HEn.out).2 Y10.out.R)
 rw [b2] at HC10
 go_wp2_with fail
 refine cZm HC10.out ?_
 rintro e w11 ⟨rfl, S2, hP, hg⟩
 have Y11 := lH (Y10.out.goR hP hg)
 have K11 := lH (K10.out.go hg)
 clear hP hg
 have HC11 := lH (eight_any 30 503316480 (by decide) (by decide) w11)
 go_wp2_with fail
 refine cZm HC11.out ?_
 rintro e w12 ⟨rfl, hT⟩
 have Y12 := lH (Y11.out.tch0 hT)
 have K12 := lH (K11.out.tch0 hT)
 clear hT
 have HC12 := lH (net_any 20 1 1 1 335610113 (by decide) (by decide) (by decide) (by decide) (by decide) w12)
 go_wp2_with fail
 refine cZm HC12.out ?_
 rintro e w13 ⟨rfl, hT⟩
 have Y13 := lH (Y12.out.tch0 hT)
 have K13 := lH (K12.out.tch0 hT)
 clear hT
 have HC13 : Hid (Calls Tryz.prog 40 #[ptrV t, .agg #[.bool false, .int .u64 0, .int .u64 503316480, .int .i64 8], .agg #[.int .i64 2, .int .i64 0, .bool false, .int .u64 0, .int .u64 335610113, .int .i64 0, .bool false]] w13 _) := lH (putP t S2 r2 (pE 503316480) x3 (pE_ok (by decide)) x3_ok w13 (Y13.out.env HEn.out).1 (Y13.out.env HEn.out).2 Y13.out.R)
 rw [b3] at HC13
 go_wp2_with fail
 refine cZm HC13.out ?_
 rintro e w14 ⟨rfl, S3, hP, hg⟩
 have Y14 := lH (Y13.out.goR hP hg)
 have K14 := lH (K13.out.go hg)
 clear hP hg
 have HC14 := lH (eight_any 40 671088640 (by decide) (by decide) w14)
 go_wp2_with fail
 refine cZm HC14.out ?_
 rintro e w15 ⟨rfl, hT⟩
 have Y15 := lH (Y14.out.tch0 hT)
 have K15 := lH (K14.out.tch0 hT)
 clear hT
 have HC15 : Hid (Calls Tryz.prog 40 #[ptrV t, .agg #[.bool false, .int .u64 0, .int .u64 671088640, .int .i64 8], .agg #[.int .i64 1, .int .i64 0, .bool false, .int .u64 0, .int .u64 0, .int .i64 2, .bool false]] w15 _) := lH (putP t S3 r3 (pE 671088640) x4 (pE_ok (by decide)) x4_ok w15 (Y15.out.env HEn.out).1 (Y15.out.env HEn.out).2 Y15.out.R)
 rw [b4] at HC15
 go_wp2_with fail
 refine cZm HC15.out ?_
 rintro e w16 ⟨rfl, S4, hP, hg⟩
 have Y16 := lH (Y15.out.goR hP hg)
 have K16 := lH (K15.out.go hg)
 clear hP hg
 have HC16 := lH (eight_any 50 838860800 (by decide) (by decide) w16)
 go_wp2_with fail
 refine cZm HC16.out ?_
 rintro e w17 ⟨rfl, hT⟩
 have Y17 := lH (Y16.out.tch0 hT)
 have K17 := lH (K16.out.tch0 hT)
 clear hT
 have HC17 : Hid (Calls Tryz.prog 40 #[ptrV t, .agg #[.bool false, .int .u64 0, .int .u64 838860800, .int .i64 8], .agg #[.int .i64 1, .int .i64 0, .bool false, .int .u64 0, .int .u64 0, .int .i64 0, .bool true]] w17 _) := lH (putP t S4 r4 (pE 838860800) x5 (pE_ok (by decide)) x5_ok w17 (Y17.out.env HEn.out).1 (Y17.out.env HEn.out).2 Y17.out.R)
 rw [b5] at HC17
 go_wp2_with fail
 refine cZm HC17.out ?_
 rintro e w18 ⟨rfl, S5, hP, hg⟩
 have Y18 := lH (Y17.out.goR hP hg)
 have K18 := lH (K17.out.go hg)
 clear hP hg
 have HC18 := lH (eight_any 60 1006632960 (by decide) (by decide) w18)
 go_wp2_with fail
 refine cZm HC18.out ?_
 rintro e w19 ⟨rfl, hT⟩
 have Y19 := lH (Y18.out.tch0 hT)
 have K19 := lH (K18.out.tch0 hT)
 clear hT
 have HC19 := lH (net_any 60 0 0 1 1006632961 (by decide) (by decide) (by decide) (by decide) (by decide) w19)
 go_wp2_with fail
 refine cZm HC19.out ?_
 rintro e w20 ⟨rfl, hT⟩
 have Y20 := lH (Y19.out.tch0 hT)
 have K20 := lH (K19.out.tch0 hT)
 clear hT
 have HC20 : Hid (Calls Tryz.prog 40 #[ptrV t, .agg #[.bool false, .int .u64 0, .int .u64 1006632960, .int .i64 8], .agg #[.int .i64 1, .int .i64 0, .bool false, .int .u64 0, .int .u64 1006632961, .int .i64 0, .bool false]] w20 _) := lH (putP t S5 r5 (pE 1006632960) x6 (pE_ok (by decide)) x6_ok w20 (Y20.out.env HEn.out).1 (Y20.out.env HEn.out).2 Y20.out.R)
 rw [b6] at HC20
 go_wp2_with fail
 refine cZm HC20.out ?_
 rintro e w21 ⟨rfl, S6, hP, hg⟩
 have Y21 := lH (Y20.out.goR hP hg)
 have K21 := lH (K20.out.go hg)
 clear hP hg
 have HK := lH (fun W (hW : Tch w21 W []) => (K21.out.tch0 hW).blk.c4)
 have HYb := lH (fun W (hW : Tch w21 W []) => Y21.out.tch0 hW)
 have HT21 : Hid (Tch w21 w21 []) := lH (Tch.refl _ _)
 clear K21
 have HC21 := lH (eight_any 30 503316480 (by decide) (by decide) w21)
 go_wp2_with fail
 refine cZm HC21.out ?_
 rintro e w22 ⟨rfl, hT⟩
 have HT22 := lH (HT21.out.trans hT)
 clear hT
 have HC22 : Hid (Calls Tryz.prog 12 #[ptrV t, ptrV p, .agg #[.bool false, .int .u64 0, .int .u64 503316480, .int .i64 8]] w22 _) := lH (rhop_any t p S6 T3 r6 i3 (pE 503316480) (pE_ok (by decide)) w22 (HYb.out w22 HT22.out).R (HYb.out w22 HT22.out).I)
 rw [c1] at HC22
 go_wp2_with fail
 refine cZm HC22.out ?_
 rintro e w23 ⟨rfl, hT⟩
 have HT23 := lH (HT22.out.trans hT)
 clear hT
 obtain ⟨ha, hha⟩ : ∃ b, w23.heap.size = b := ⟨_, rfl⟩
 obtain ⟨w24, hw24⟩ : ∃ W, w23.alloc (.cells #[.int .i64 1, .bool false, .int .u64 0, .int .u64 167772169, .bool false] 43) = W := ⟨_, rfl⟩
 have Hha : Hid (Blk w24 ha 43 #[.int .i64 1, .bool false, .int .u64 0, .int .u64 167772169, .bool false]) := lH (hw24 ▸ hha ▸ Blk.new _ _ _)
 have HT24 : Hid (Tch w21 w24 []) := lH (hw24 ▸ HT23.out.alloc _)
 have HW24 := lH (And.intro hw24 hha)
 clear hw24 hha
 have HTq24 : Hid (Tch w24 w24 []) := lH (Tch.refl _ _)
 have HC24 := lH (eight_any 40 671088640 (by decide) (by decide) w24)
 go_wp2_with fail
 rw [HW24.out.1, HW24.out.2]
 refine cZm HC24.out ?_
 rintro e w25 ⟨rfl, hT⟩
 have HT25 := lH (HT24.out.trans hT)
 have HTq25 := lH (HTq24.out.trans hT)
 clear hT
 have HC25 : Hid (Calls Tryz.prog 12 #[ptrV t, ptrV p, .agg #[.bool false, .int .u64 0, .int .u64 671088640, .int .i64 8]] w25 _) := lH (rhop_any t p S6 T3 r6 i3 (pE 671088640) (pE_ok (by decide)) w25 (HYb.out w25 HT25.out).R (HYb.out w25 HT25.out).I)
 rw [c2] at HC25
 go_wp2_with fail
 refine cZm HC25.out ?_
 rintro e w26 ⟨rfl, hT⟩
 have HT26 := lH (HT25.out.trans hT)
 have HTq26 := lH (HTq25.out.trans hT)
 clear hT
 simp only [zeroH, zeroA]
 obtain ⟨hb, hhb⟩ : ∃ b, w26.heap.size = b := ⟨_, rfl⟩
 obtain ⟨w27, hw27⟩ : ∃ W, w26.alloc (.cells #[.int .i64 0, .bool false, .int .u64 0, .int .u64 0, .bool false] 43) = W := ⟨_, rfl⟩
 have Hhb : Hid (Blk w27 hb 43 #[.int .i64 0, .bool false, .int .u64 0, .int .u64 0, .bool false]) := lH (hw27 ▸ hhb ▸ Blk.new _ _ _)
 have HT27 : Hid (Tch w21 w27 []) := lH (hw27 ▸ HT26.out.alloc _)
 have HTq27 : Hid (Tch w24 w27 []) := lH (hw27 ▸ HTq26.out.alloc _)
 have HW27 := lH (And.intro hw27 hhb)
 clear hw27 hhb
 have HC27 := lH (eight_any 60 1006632960 (by decide) (by decide) w27)
 go_wp2_with fail
 rw [HW27.out.1, HW27.out.2]
 refine cZm HC27.out ?_
 rintro e w28 ⟨rfl, hT⟩
 have HT28 := lH (HT27.out.trans hT)
 have HTq28 := lH (HTq27.out.trans hT)
 clear hT
 have HC28 : Hid (Calls Tryz.prog 12 #[ptrV t, ptrV p, .agg #[.bool false, .int .u64 0, .int .u64 1006632960, .int .i64 8]] w28 _) := lH (rhop_any t p S6 T3 r6 i3 (pE 1006632960) (pE_ok (by decide)) w28 (HYb.out w28 HT28.out).R (HYb.out w28 HT28.out).I)
 rw [c3] at HC28
 go_wp2_with fail
 refine cZm HC28.out ?_
 rintro e w29 ⟨rfl, hT⟩
 have HT29 := lH (HT28.out.trans hT)
 have HTq29 := lH (HTq28.out.trans hT)
 clear hT
 simp only [zeroH, zeroA]
 obtain ⟨hc, hhc⟩ : ∃ b, w29.heap.size = b := ⟨_, rfl⟩
 obtain ⟨w30, hw30⟩ : ∃ W, w29.alloc (.cells #[.int .i64 0, .bool false, .int .u64 0, .int .u64 0, .bool false] 43) = W := ⟨_, rfl⟩
 have Hhc : Hid (Blk w30 hc 43 #[.int .i64 0, .bool false, .int .u64 0, .int .u64 0, .bool false]) := lH (hw30 ▸ hhc ▸ Blk.new _ _ _)
 have HT30 : Hid (Tch w21 w30 []) := lH (hw30 ▸ HT29.out.alloc _)
 have HTq30 : Hid (Tch w24 w30 []) := lH (hw30 ▸ HTq29.out.alloc _)
 have HW30 := lH (And.intro hw30 hhc)
 clear hw30 hhc
 have HC30 := lH (rtable_any t p S6 T3 r6 i3 w30 (HYb.out w30 HT30.out).R (HYb.out w30 HT30.out).I)
 have HSr : Hid (SrtE tb) := lH (tabI_SrtE (HYb.out w30 HT30.out).R.inv.inv)
 rw [show tabI r6 i3 = tb from rfl, c4] at HC30
 go_wp2_with fail
 rw [HW30.out.1, HW30.out.2]
 refine cZm HC30.out ?_
 rintro e w31 ⟨A, c, rfl, ho, hT⟩
 have HRo := lH (fun W (hW : Tch w31 W []) => own_tch (own_mono ho (Nat.zero_le _)) hW (by simp))
 have HT31 := lH (HT30.out.trans hT)
 have HTq31 := lH (HTq30.out.trans hT)
 clear ho hT
 have HC31 := lH (rnumber_any A 4 c tb c4 (by decide) w31 (HRo.out w31 (Tch.refl _ _)))
 rw [c5] at HC31
 go_wp2_with fail
 refine cZm HC31.out ?_
 rintro e w32 ⟨A1, c1', A2, c2', rfl, hR, hH, -, hT⟩
 have HRt := lH (fun W (hW : Tch w32 W []) => own_tch hR hW (by simp))
 have HT32 := lH (HT31.out.trans hT)
 have HTq32 := lH (HTq31.out.trans hT)
 have HTt32 := lH hT
 clear hR hH hT
 have HC32 := lH (net_any 50 1 1 1 838926593 (by decide) (by decide) (by decide) (by decide) (by decide) w32)
 go_wp2_with fail
 refine cZm HC32.out ?_
 rintro e w33 ⟨rfl, hT⟩
 have HT33 := lH (HT32.out.trans hT)
 have HTq33 := lH (HTq32.out.trans hT)
 have HTt33 := lH (HTt32.out.trans hT)
 have HTr33 := lH hT
 clear hT
 have HC33 : Hid (Calls Tryz.prog 29 #[.slice A 4 c, .agg #[.bool false, .int .u64 0, .int .u64 838926593]] w33 _) := lH (rlook_any A 4 c tb c4 (by decide) (false, 0, 838926593) (by unfold N64; decide) w33 (HRo.out w33 HTt33.out))
 rw [c7] at HC33
 go_wp2_with fail
 refine cZm HC33.out ?_
 rintro e w34 ⟨rfl, hT⟩
 have HT34 := lH (HT33.out.trans hT)
 have HTq34 := lH (HTq33.out.trans hT)
 have HTt34 := lH (HTt33.out.trans hT)
 have HTr34 := lH (HTr33.out.trans hT)
 clear hT
 simp only [lookV, zeroA, Option.getD_some, Option.isSome_some]
 obtain ⟨hd, hhd⟩ : ∃ b, w34.heap.size = b := ⟨_, rfl⟩
 obtain ⟨w35, hw35⟩ : ∃ W, w34.alloc (.cells #[.int .i64 0, .bool false, .int .u64 0, .int .u64 0, .bool true] 43) = W := ⟨_, rfl⟩
 have Hhd : Hid (Blk w35 hd 43 #[.int .i64 0, .bool false, .int .u64 0, .int .u64 0, .bool true]) := lH (hw35 ▸ hhd ▸ Blk.new _ _ _)
 have HT35 : Hid (Tch w21 w35 []) := lH (hw35 ▸ HT34.out.alloc _)
 have HTq35 : Hid (Tch w24 w35 []) := lH (hw35 ▸ HTq34.out.alloc _)
 have HW35 := lH (And.intro hw35 hhd)
 clear hw35 hhd
 have HTt35 : Hid (Tch w31 w35 []) := lH (HW35.out.1 ▸ HTt34.out.alloc _)
 have HTr35 : Hid (Tch w32 w35 []) := lH (HW35.out.1 ▸ HTr34.out.alloc _)
 have hTk : Tch w21 (w34.alloc (.cells #[.int .i64 0, .bool false, .int .u64 0, .int .u64 0, .bool true] 43)) [] := HT34.out.alloc _
 obtain ⟨k0, k1, k2, k3⟩ := HK.out _ hTk
 have HC35 : Hid (Calls Tryz.prog 14 #[ptrV t, ptrV p, .agg #[.bool false, .int .u64 0, .int .u64 167772160, .int .i64 24]] w35 _) := lH (rpath_any t p S6 T3 r6 i3 pN pN_ok w35 (HYb.out w35 HT35.out).R (HYb.out w35 HT35.out).I)
 rw [c8] at HC35
 clear hTk
 go_wp2_with fail
 rw [HW35.out.1, HW35.out.2]
 refine cZm HC35.out ?_
 rintro e w36 ⟨rfl, hT⟩
 have HT36 := lH (HT35.out.trans hT)
 have HTq36 := lH (HTq35.out.trans hT)
 have HTt36 := lH (HTt35.out.trans hT)
 have HTr36 := lH (HTr35.out.trans hT)
 have HTd36 := lH hT
 clear hT k0 k1 k2 k3
 simp only [bestV, x1, zeroA, Option.getD_some, Option.isSome_some]
 obtain ⟨he, hhe⟩ : ∃ b, w36.heap.size = b := ⟨_, rfl⟩
 obtain ⟨w37, hw37⟩ : ∃ W, w36.alloc (.cells #[.int .i64 0, .int .i64 0, .bool false, .int .u64 0, .int .u64 0, .int .i64 1, .bool false] 49) = W := ⟨_, rfl⟩
 have Hhe : Hid (Blk w37 he 49 #[.int .i64 0, .int .i64 0, .bool false, .int .u64 0, .int .u64 0, .int .i64 1, .bool false]) := lH (hw37 ▸ hhe ▸ Blk.new _ _ _)
 have HT37 : Hid (Tch w21 w37 []) := lH (hw37 ▸ HT36.out.alloc _)
 have HTq37 : Hid (Tch w24 w37 []) := lH (hw37 ▸ HTq36.out.alloc _)
 have HW37 := lH (And.intro hw37 hhe)
 clear hw37 hhe
 have HTt37 : Hid (Tch w31 w37 []) := lH (HW37.out.1 ▸ HTt36.out.alloc _)
 have HTr37 : Hid (Tch w32 w37 []) := lH (HW37.out.1 ▸ HTr36.out.alloc _)
 have HTd37 : Hid (Tch w35 w37 []) := lH (HW37.out.1 ▸ HTd36.out.alloc _)
 have HTx : Hid (Tch w24 w37 []) := lH HTq37.out
 have HHa := lH (fun W (hW : Tch w24 W []) => (hW.blk Hha.out (by simp)).h5)
 have HTa37 : Hid (Tch w24 w37 []) := lH HTx.out
 have HA0 := lH (HHa.out _ (HTa37.out.drew))
 have HNe := lH (fun W => net_any 10 0 0 9 167772169 (by decide) (by decide) (by decide) (by decide) (by decide) W)
 have E1 := eqA_eql 43 _ _ (eq_hpR (1, (false, 0, 167772169), false) (1, (false, 0, 167772169), false) (decide_eq_true rfl))
 go_wp2
 rw [HW37.out.1, HW37.out.2]
 refine wp_region_held_drew (S := (fun W => W.cell? ⟨ha, 0, none⟩ = some (Value.int .i64 1) ∧ W.cell? ⟨ha, 1, none⟩ = some (Value.bool false) ∧ W.cell? ⟨ha, 2, none⟩ = some (Value.int .u64 0) ∧ W.cell? ⟨ha, 3, none⟩ = some (Value.int .u64 167772169) ∧ W.cell? ⟨ha, 4, none⟩ = some (Value.bool false))) (by kernel_rfl) ?_ (fun hHeld => ?_)
 ·(first | exact HA0.out | exact HA1.out)
 refine tkH 0 ?_
 refine tkH 1 ?_
 refine tkH 2 ?_
 refine tkH 3 ?_
 refine wpAnyH_ready (rs := [4]) (by kernel_rfl) (by simp) ?_
 refine AllReadyH.cons (o := { dst := some 120, op := Go.Op.call { callee := Go.Callee.value (Go.Operand.func 39), args := #[Go.Operand.const (Go.Value.int Go.IntKind.u64 10), Go.Operand.const (Go.Value.int Go.IntKind.u64 0), Go.Operand.const (Go.Value.int Go.IntKind.u64 0), Go.Operand.const (Go.Value.int Go.IntKind.u64 9)], argTypes := #[26, 26, 26, 26] }, type := 28, pos := "law.go:54", after := #[{ on := 2, ground := Go.Ground.chain }, { on := 2, ground := Go.Ground.guard }], guard := some (2, true) }) rfl (fun K hK => ?_) AllReadyH.nil
 go_simp
 (go_at_call 39; (with_reducible refine cZm (HNe.out _) ?_); rintro e wx ⟨rfl, hT⟩; have hTx : Tch w37 wx [] := (Tch.refl w37 []).drew.trans hT; have HTx := lH hTx; have HA1 := lH (HHa.out wx (HTa37.out.trans hTx)); clear hT hTx)
 go_wp2_with fail
 refine hK.out _ _ ?_ (fun hHeld => ?_)
 ·(first | exact HA0.out | exact HA1.out)
 clear hK K
 try simp only [Act.put, List.setIfInBounds_toArray, List.set_cons_zero, List.set_cons_succ]
 refine tkH 5 ?_
 refine tkH 6 ?_
 refine tkH 7 ?_
 refine tkH 8 ?_
 refine tkH 9 ?_
 refine tkH 10 ?_
 refine tkH 11 ?_
 refine tkH 12 ?_
 refine tkH 13 ?_
 refine tkH 14 ?_
 refine tkH 15 ?_
 refine tkH 16 ?_
 refine wpAnyH_done (by kernel_rfl) ?_ _
 obtain ⟨g1, rfl⟩ := slice_some (HRt.out wx (HTr37.out.trans HTx.out)) (by decide)
 have z2 := own_cellN (HRt.out wx (HTr37.out.trans HTx.out)) (flatk_at (n := 5) rt_five c6 (k := 4) (by decide))
 have z3 : wx.cell? ⟨g1, 14, none⟩ = some (Value.int .i64 2) := z2
 obtain ⟨d0, d1, d2, d3, d4⟩ := ((HTd37.out.trans HTx.out).blk Hhd.out (by simp)).h5
 obtain ⟨y0, y1, y2, y3, y4, y5, y6⟩ := (HTx.out.blk Hhe.out (by simp)).p7
 have E2 := eqA_eql 43 _ _ (eq_hpR (0, zeroA, true) (0, zeroA, true) (decide_eq_true rfl))
 have E3 := eqA_eql 49 _ _ (eq_paR (0, 0, zeroA, 1, false) (0, 0, zeroA, 1, false) (decide_eq_true rfl))
 simp only [zeroA] at E2 E3
 have HCh := lH (rchanges_any none A 0 4 0 c [] tb (by decide) (by decide) wx RE.nil (RE.of c4 (HRo.out wx (HTt37.out.trans HTx.out))) ⟨.nil, by simp⟩ HSr.out)
 rw [c9] at HCh
 have HTe : Hid (Tch w21 wx []) := lH (HT37.out.trans HTx.out)
 clear z2 E1
 go_wp2_with fail
 refine cZm HCh.out ?_
 rintro e wz ⟨A8, c8', rfl, -, hT⟩
 have HTz := lH (HTe.out.trans hT)
 clear hT z3 d0 d1 d2 d3 d4 y0 y1 y2 y3 y4 y5 y6 E2 E3
 go_wp2
 go_ret
 exact ⟨rfl, (HYb.out wz HTz.out).bel⟩
end Go.Proofs.YtgfkmgbcajdcdaaGreatDoor

namespace Go.Proofs.YtgfkmgbcajdcdaaGreatDoor
open Go.RowKit Ifs Go.ChangeShapes Go.WideShapes Go.ChangeAt

theorem slice_trod {H : Type} {enc : TypeId × Value → H} {W : World} {base n : Nat} {spare : Nat → Bool} {held : Bool} {t e : TypeId} {v : Value} {y : DataW H × List MemPlace} (ht : Tryz.prog.underlying t = some (.slice e)) (h : DataW.trod enc Tryz.prog W base spare held n t [v] = some y) : ∃ a l c, v = .slice a l c := by
 rcases Go.Deep.open_slice ht h with ⟨hc, -⟩ | ⟨a, l, c, -, -, -, -, hc, -⟩
 ·injection hc with hc
  exact ⟨_, _, _, hc⟩
 ·injection hc with hc
  exact ⟨_, _, _, hc⟩
theorem open_world {H : Type} {enc : TypeId × Value → H} {W : World} {r : Reach} {b0 : Nat} {v : Value} {d : DataW H} {p : List MemPlace} (hv : Value.okWide Tryz.prog W r b0 25 v) (h : DataW.Trod enc Tryz.prog W 0 (fun _ => true) true 25 v d p) :
  ∃ a b l c m e z y, v = .agg #[.slice a l c, .slice b m e] ∧ Ifs.IsStp W a l z ∧ IsStp W b m y := by
 obtain ⟨v0, v1, y0, y1, n, rfl, -, -, f0, f1⟩ := Go.Joins.open_agg2 Tryz.underlying25 (by kernel_rfl) (by kernel_rfl) hv h
 obtain ⟨a, l, c, rfl⟩ := slice_trod Tryz.underlying22 f0
 obtain ⟨b, m, e, rfl⟩ := slice_trod Tryz.underlying23 f1
 obtain ⟨z, hz⟩ := Ifs.isStp_of (c := c) (d := y0.1) (p := y0.2) ⟨n, f0⟩
 obtain ⟨y, hy⟩ := isStp_of (c := e) (d := y1.1) (p := y1.2) ⟨n, f1⟩
 exact ⟨a, b, l, c, m, e, z, y, rfl, hz, hy⟩
end Go.Proofs.YtgfkmgbcajdcdaaGreatDoor

namespace Go.Proofs.YtgfkmgbcajdcdaaGreatDoor
open Go.ChangeShapes Go.WideShapes Go.ChangeAt Go.RowKit

section
variable {H : Type} {enc : TypeId × Value → H} {W : World}
theorem open_pfx {b0 base : Nat} {spare : Nat → Bool} {held : Bool} {v : Value} {d : DataW H} {ps : List MemPlace}
  (hval : Value.okWide Tryz.prog W .any b0 30 v) (h : DataW.Trod enc Tryz.prog W base spare held 30 v d ps) :
  ∃ s x y b, v = pfx s x y b ∧ (Lit.int .u64 x).wf = true ∧ (Lit.int .u64 y).wf = true ∧ (Lit.int .i64 b).wf = true ∧ ps = [] := by
 obtain ⟨cs, rfl, hsz⟩ := okWide_struct Tryz.underlying30 hval
 have eC : Tryz.prog.cellsOf 30 = 4 := by kernel_rfl
 rw [eC] at hsz
 obtain ⟨c0, c1, c2, c3, rfl⟩ := Go.Joins.array4 hsz
 obtain ⟨fuel, hf⟩ := h
 obtain ⟨y0, y1, n, hx, _, h0, h1⟩ := trod_struct2 Tryz.underlying30 hf
 have e0 : Tryz.prog.cellsOf 28 = 3 := by kernel_rfl
 have e1 : Tryz.prog.cellsOf 3 = 1 := by kernel_rfl
 simp only [Value.cells, e0, e1, List.drop_zero, List.take_succ_cons, List.take_zero, List.drop_succ_cons] at h0 h1
 obtain ⟨z0, z1, z2, m, hz, _, g0, g1, g2⟩ := Go.Deep.trod_struct3 Tryz.underlying28 h0
 have e2 : Tryz.prog.cellsOf 4 = 1 := by kernel_rfl
 have e3 : Tryz.prog.cellsOf 26 = 1 := by kernel_rfl
 simp only [e2, e3, List.drop_zero, List.take_succ_cons, List.take_zero, List.drop_succ_cons] at g0 g1 g2
 obtain ⟨s, es, q0⟩ := DataW.trod_bool Tryz.underlying4 g0
 obtain ⟨x, ex, q1, w1⟩ := DataW.trod_int Tryz.underlying26 g1
 obtain ⟨y, ey, q2, w2⟩ := DataW.trod_int Tryz.underlying26 g2
 obtain ⟨b, eb, q3, w3⟩ := DataW.trod_int Tryz.underlying3 h1
 injection es with es _
 injection ex with ex _
 injection ey with ey _
 injection eb with eb _
 subst es ex ey eb
 refine ⟨s, x, y, b, rfl, w1, w2, w3, ?_⟩
 simp only [Prod.mk.injEq] at hx
 rw [hx.2, hz, q0, q1, q2, q3]
 rfl
end
theorem n64_of {x : Int} (h : (Lit.int .u64 x).wf = true) : ∃ n : Nat, x = n ∧ N64 n := by
 have : 0 ≤ x ∧ x ≤ 18446744073709551615 := by
  simp [Lit.wf, IntKind.min, IntKind.max, IntKind.bits, IntKind.signed] at h; omega
 exact ⟨x.toNat, by omega, by unfold N64; omega⟩
theorem i64_of {x : Int} (h : (Lit.int .i64 x).wf = true) : -9223372036854775808 ≤ x ∧ x ≤ 9223372036854775807 := by
 simp [Lit.wf, IntKind.min, IntKind.max, IntKind.bits, IntKind.signed] at h; omega
end Go.Proofs.YtgfkmgbcajdcdaaGreatDoor

namespace Go.Proofs.YtgfkmgbcajdcdaaGreatDoor
open Go.RowKit Go.ChangeShapes Go.WideShapes

theorem gDist : Tryz.prog.globalNamed "crossway/rib.distances" = some 0 := by kernel_rfl
theorem tDist : (Tryz.prog.globals[0]?).map (·.type) = some 255 := by kernel_rfl
def distA : List Int := [0, 1, 20, 110, 120]
theorem distA_at (j : Nat) (hj : j < 5) : (distA.map fun z => Value.int .i64 z)[j]? = some (.int .i64 (distT.getD j 0)) := by
 rcases (show j = 0 ∨ j = 1 ∨ j = 2 ∨ j = 3 ∨ j = 4 by omega) with rfl | rfl | rfl | rfl | rfl
 all_goals rfl
theorem envR_of {W : World} (hL : laidMet Tryz.prog [("crossway/rib.distances", Rows.laid_crossway_rib_distances)] W) : EnvR W := by
 have h : Lib.TabIs Tryz.prog W "crossway/rib.distances" .i64 distA := Lib.tabIs_of_head gDist tDist Tryz.underlying255 Tryz.underlying3 (by kernel_rfl) (by kernel_rfl) (rest := []) hL
 intro j hj
 have hc := World.var?_cell gDist h j
 rw [show (⟨0, j, none⟩ : Addr) = ⟨0, j, none⟩ from rfl, hc]
 have := distA_at j hj
 simpa using this
end Go.Proofs.YtgfkmgbcajdcdaaGreatDoor
