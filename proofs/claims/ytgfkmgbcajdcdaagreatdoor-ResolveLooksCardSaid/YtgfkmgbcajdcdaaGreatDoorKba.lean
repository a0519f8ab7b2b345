/-
  Several texts in one: RvW, RvIn, Ads.
-/
import Derived.Test.YtgfkmgbcajdcdaaGreatDoorKaz
import Derived.Lib.SmallJoins
import Derived.Deep.SlicePairs
namespace Go.Proofs.YtgfkmgbcajdcdaaGreatDoor
open Go.RowKit Ifs
set_option linter.unusedVariables false
namespace Vw
def nmA : ByteArray := ⟨#[97]⟩
def nmB : ByteArray := ⟨#[98]⟩
def i1 : StI := ([(nmA, 2, 1500, false)], [[]])
def i2 : StI := ([(nmA, 2, 1500, false), (nmB, 4, 1500, false)], [[], []])
def i3 : StI := ([(nmA, 2, 1500, true), (nmB, 4, 1500, false)], [[], []])
def pN : PfI := ((false, 0, 167772160), 24)
def pE (n : Nat) : PfI := ((false, 0, n), 8)
def x1 : PaI := (0, 0, zeroA, 1, false)
def x2 : PaI := (1, 0, (false, 0, 167772169), 0, false)
def x3 : PaI := (2, 0, (false, 0, 335610113), 0, false)
def x4 : PaI := (1, 0, zeroA, 2, false)
def x5 : PaI := (1, 0, zeroA, 0, true)
def x6 : PaI := (1, 0, (false, 0, 1006632961), 0, false)
def r1 : List TdI := [(pN, x1)]
def r2 : List TdI := [(pN, x1), (pE 335544320, x2)]
def r3 : List TdI := [(pN, x1), (pE 335544320, x2), (pE 503316480, x3)]
def r4 : List TdI := [(pN, x1), (pE 335544320, x2), (pE 503316480, x3), (pE 671088640, x4)]
def r5 : List TdI := [(pN, x1), (pE 335544320, x2), (pE 503316480, x3), (pE 671088640, x4), (pE 838860800, x5)]
def r6 : List TdI := [(pN, x1), (pE 335544320, x2), (pE 503316480, x3), (pE 671088640, x4), (pE 838860800, x5), (pE 1006632960, x6)]
theorem a1 : addI ([], []) nmA 2 1500 = (i1, 1, 0) := by kernel_rfl
theorem a2 : addI i1 nmB 4 1500 = (i2, 2, 0) := by kernel_rfl
theorem a3 : turnI i2 1 true = (i3, 0) := by kernel_rfl
theorem b1 : putR [] pN x1 = (r1, 0) := by kernel_rfl
theorem b2 : putR r1 (pE 335544320) x2 = (r2, 0) := by kernel_rfl
theorem b3 : putR r2 (pE 503316480) x3 = (r3, 0) := by kernel_rfl
theorem b4 : putR r3 (pE 671088640) x4 = (r4, 0) := by kernel_rfl
theorem b5 : putR r4 (pE 838860800) x5 = (r5, 0) := by kernel_rfl
theorem b6 : putR r5 (pE 1006632960) x6 = (r6, 0) := by kernel_rfl
theorem c1 : hopI r6 i3 (pE 503316480) = ((1, (false, 0, 167772169), false), 0) := by kernel_rfl
theorem c2 : hopI r6 i3 (pE 671088640) = (zeroH, 150) := by kernel_rfl
theorem c3 : hopI r6 i3 (pE 1006632960) = (zeroH, 151) := by kernel_rfl
def tb : List EnI := tabI r6 i3
theorem c4 : tb.length = 4 := by kernel_rfl
theorem c5 : (numI tb).2.length = 3 := by kernel_rfl
theorem c6 : (numI tb).1[2]? = some (pE 503316480, 2) := by kernel_rfl
theorem c7 : lookI tb (false, 0, 838926593) = some (0, zeroA, true) := by kernel_rfl
theorem c8 : pathI r6 i3 pN = some x1 := by kernel_rfl
theorem c9 : (chI [] tb).length = 4 := by rw [chI_nil, List.length_map]; exact c4
theorem pN_ok : PfOk pN := by unfold PfOk N64 I64 pN; decide
theorem pE_ok {n : Nat} (h : n ≤ 4294967295) : PfOk (pE n) := ⟨⟨(show N64 0 by unfold N64; decide), (show N64 n by unfold N64; omega)⟩, (show I64 8 by unfold I64; decide)⟩
theorem x1_ok : PaOk x1 := by unfold PaOk N64 I64 x1 zeroA; decide
theorem x2_ok : PaOk x2 := by unfold PaOk N64 I64 x2; decide
theorem x3_ok : PaOk x3 := by unfold PaOk N64 I64 x3; decide
theorem x4_ok : PaOk x4 := by unfold PaOk N64 I64 x4 zeroA; decide
theorem x5_ok : PaOk x5 := by unfold PaOk N64 I64 x5 zeroA; decide
theorem x6_ok : PaOk x6 := by unfold PaOk N64 I64 x6; decide
end Vw
open Vw
set_option maxRecDepth 100000 in
set_option maxHeartbeats 16000000 in
theorem awake16 (w : World) (hE : EnvR w) : Calls Tryz.prog 8 #[] w fun e w' => e = .returned (.bool true) ∧ Below w.heap.size w w' := by
  have HEn := Lib.hid hE
  have HNewI := Lib.hid (Ifs.newP w)
  clear hE
  go_enter Tryz.func8, Tryz.ntmps8
  go_wp2_with fail
  refine Calls.mono HNewI.out ?_
  rintro e w1 ⟨p, T0, rfl, hP, hb, hs⟩
  have HI1 := Lib.hid hP
  have HB1 := Lib.hid (And.intro hb hs)
  have HNewR := Lib.hid (newP w1)
  clear hP hb hs
  go_wp2_with fail
  refine Calls.mono HNewR.out ?_
  rintro e w2 ⟨t, S0, rfl, hP, hb, hs⟩
  have hT2 := Tch.of_below [] hb
  have Y2 : Hid (Bth w w2 t p S0 T0 [] ([], [])) := Lib.hid ⟨hP, HI1.out.tch hT2 (by simp), fun s h1 h2 => by have := hs s h1; have := HI1.out.lt s h2; omega, HB1.out.1.trans (hb.mono HB1.out.1.size), fun s h1 => Nat.le_trans HB1.out.1.size (hs s h1), HB1.out.2⟩
  clear hP hb hs hT2
  have HC2 := Lib.hid (Ifs.addP p T0 ([], []) nmA 2 1500 (by decide) (by decide) (by decide) w2 Y2.out.I)
  rw [a1] at HC2
  go_wp2_with fail
  refine Calls.mono HC2.out ?_
  rintro e w3 ⟨rfl, T1, hP, hg⟩
  have Y3 := Lib.hid (Y2.out.goI hP hg)
  clear hP hg
  have HC3 := Lib.hid (Ifs.addP p T1 i1 nmB 4 1500 (by decide) (by decide) (by decide) w3 Y3.out.I)
  rw [a2] at HC3
  go_wp2_with fail
  refine Calls.mono HC3.out ?_
  rintro e w4 ⟨rfl, T2, hP, hg⟩
  have Y4 := Lib.hid (Y3.out.goI hP hg)
  clear hP hg
  have HC4 := Lib.hid (Ifs.turnP p T2 i2 1 true (by decide) w4 Y4.out.I)
  rw [a3] at HC4
  go_wp2_with fail
  refine Calls.mono HC4.out ?_
  rintro e w5 ⟨rfl, T3, hP, hg⟩
  have Y5 := Lib.hid (Y4.out.goI hP hg)
  clear hP hg
  have HNt := Lib.hid (fun W => net_any 10 0 0 0 167772160 (by decide) (by decide) (by decide) (by decide) (by decide) W)
  go_wp2_with fail
  refine Calls.mono (HNt.out w5) ?_
  rintro e w6 ⟨rfl, hT⟩
  have Y6 := Lib.hid (Y5.out.tch0 hT)
  clear hT HNt
  obtain ⟨nb, hnb⟩ : ∃ nb, w6.heap.size = nb := ⟨_, rfl⟩
  obtain ⟨w7, hw7⟩ : ∃ W, w6.alloc (.cells #[.bool false, .int .u64 0, .int .u64 167772160, .int .i64 24] 30) = W := ⟨_, rfl⟩
  have K7 : Hid (OwnR w7 S0 nb 30 #[.bool false, .int .u64 0, .int .u64 167772160, .int .i64 24]) := Lib.hid (hw7 ▸ hnb ▸ OwnR.new Y6.out.R _ _)
  have Y7 : Hid (Bth w w7 t p S0 T3 [] i3) := Lib.hid (hw7 ▸ Y6.out.tch0 ((Tch.refl _ []).alloc _))
  have HW7 := Lib.hid (And.intro hw7 hnb)
  clear hw7 hnb
  have HC7 : Hid (Calls Tryz.prog 40 #[ptrV t, .agg #[.bool false, .int .u64 0, .int .u64 167772160, .int .i64 24], .agg #[.int .i64 0, .int .i64 0, .bool false, .int .u64 0, .int .u64 0, .int .i64 1, .bool false]] w7 _) := Lib.hid (putP t S0 [] pN x1 pN_ok x1_ok w7 (Y7.out.env HEn.out).1 (Y7.out.env HEn.out).2 Y7.out.R)
  rw [b1] at HC7
  obtain ⟨k0, k1, k2, k3⟩ := K7.out.blk.c4
  go_wp2_with fail
  rw [HW7.out.1, HW7.out.2]
  refine Calls.mono HC7.out ?_
  rintro e w8 ⟨rfl, S1, hP, hg⟩
  have Y8 := Lib.hid (Y7.out.goR hP hg)
  have K8 := Lib.hid (K7.out.go hg)
  clear hP hg k0 k1 k2 k3
  have HC8 := Lib.hid (eight_any 20 335544320 (by decide) (by decide) w8)
  go_wp2_with fail
  refine Calls.mono HC8.out ?_
  rintro e w9 ⟨rfl, hT⟩
  have Y9 := Lib.hid (Y8.out.tch0 hT)
  have K9 := Lib.hid (K8.out.tch0 hT)
  clear hT
  have HC9 := Lib.hid (net_any 10 0 0 9 167772169 (by decide) (by decide) (by decide) (by decide) (by decide) w9)
  go_wp2_with fail
  refine Calls.mono HC9.out ?_
  rintro e w10 ⟨rfl, hT⟩
  have Y10 := Lib.hid (Y9.out.tch0 hT)
  have K10 := Lib.hid (K9.out.tch0 hT)
  clear hT
  have HC10 : Hid (Calls Tryz.prog 40 #[ptrV t, .agg #[.bool false, .int .u64 0, .int .u64 335544320, .int .i64 8], .agg #[.int .i64 1, .int .i64 0, .bool false, .int .u64 0, .int .u64 167772169, .int .i64 0, .bool false]] w10 _) := Lib.hid (putP t S1 r1 (pE 335544320) x2 (pE_ok (by decide)) x2_ok w10 (Y10.out.env HEn.out).1 (Y10.out.env HEn.out).2 Y10.out.R)
  rw [b2] at HC10
  go_wp2_with fail
  refine Calls.mono HC10.out ?_
  rintro e w11 ⟨rfl, S2, hP, hg⟩
  have Y11 := Lib.hid (Y10.out.goR hP hg)
  have K11 := Lib.hid (K10.out.go hg)
  clear hP hg
  have HC11 := Lib.hid (eight_any 30 503316480 (by decide) (by decide) w11)
  go_wp2_with fail
  refine Calls.mono HC11.out ?_
  rintro e w12 ⟨rfl, hT⟩
  have Y12 := Lib.hid (Y11.out.tch0 hT)
  have K12 := Lib.hid (K11.out.tch0 hT)
  clear hT
  have HC12 := Lib.hid (net_any 20 1 1 1 335610113 (by decide) (by decide) (by decide) (by decide) (by decide) w12)
  go_wp2_with fail
  refine Calls.mono HC12.out ?_
  rintro e w13 ⟨rfl, hT⟩
  have Y13 := Lib.hid (Y12.out.tch0 hT)
  have K13 := Lib.hid (K12.out.tch0 hT)
  clear hT
  have HC13 : Hid (Calls Tryz.prog 40 #[ptrV t, .agg #[.bool false, .int .u64 0, .int .u64 503316480, .int .i64 8], .agg #[.int .i64 2, .int .i64 0, .bool false, .int .u64 0, .int .u64 335610113, .int .i64 0, .bool false]] w13 _) := Lib.hid (putP t S2 r2 (pE 503316480) x3 (pE_ok (by decide)) x3_ok w13 (Y13.out.env HEn.out).1 (Y13.out.env HEn.out).2 Y13.out.R)
  rw [b3] at HC13
  go_wp2_with fail
  refine Calls.mono HC13.out ?_
  rintro e w14 ⟨rfl, S3, hP, hg⟩
  have Y14 := Lib.hid (Y13.out.goR hP hg)
  have K14 := Lib.hid (K13.out.go hg)
  clear hP hg
  have HC14 := Lib.hid (eight_any 40 671088640 (by decide) (by decide) w14)
  go_wp2_with fail
  refine Calls.mono HC14.out ?_
  rintro e w15 ⟨rfl, hT⟩
  have Y15 := Lib.hid (Y14.out.tch0 hT)
  have K15 := Lib.hid (K14.out.tch0 hT)
  clear hT
  have HC15 : Hid (Calls Tryz.prog 40 #[ptrV t, .agg #[.bool false, .int .u64 0, .int .u64 671088640, .int .i64 8], .agg #[.int .i64 1, .int .i64 0, .bool false, .int .u64 0, .int .u64 0, .int .i64 2, .bool false]] w15 _) := Lib.hid (putP t S3 r3 (pE 671088640) x4 (pE_ok (by decide)) x4_ok w15 (Y15.out.env HEn.out).1 (Y15.out.env HEn.out).2 Y15.out.R)
  rw [b4] at HC15
  go_wp2_with fail
  refine Calls.mono HC15.out ?_
  rintro e w16 ⟨rfl, S4, hP, hg⟩
  have Y16 := Lib.hid (Y15.out.goR hP hg)
  have K16 := Lib.hid (K15.out.go hg)
  clear hP hg
  have HC16 := Lib.hid (eight_any 50 838860800 (by decide) (by decide) w16)
  go_wp2_with fail
  refine Calls.mono HC16.out ?_
  rintro e w17 ⟨rfl, hT⟩
  have Y17 := Lib.hid (Y16.out.tch0 hT)
  have K17 := Lib.hid (K16.out.tch0 hT)
  clear hT
  have HC17 : Hid (Calls Tryz.prog 40 #[ptrV t, .agg #[.bool false, .int .u64 0, .int .u64 838860800, .int .i64 8], .agg #[.int .i64 1, .int .i64 0, .bool false, .int .u64 0, .int .u64 0, .int .i64 0, .bool true]] w17 _) := Lib.hid (putP t S4 r4 (pE 838860800) x5 (pE_ok (by decide)) x5_ok w17 (Y17.out.env HEn.out).1 (Y17.out.env HEn.out).2 Y17.out.R)
  rw [b5] at HC17
  go_wp2_with fail
  refine Calls.mono HC17.out ?_
  rintro e w18 ⟨rfl, S5, hP, hg⟩
  have Y18 := Lib.hid (Y17.out.goR hP hg)
  have K18 := Lib.hid (K17.out.go hg)
  clear hP hg
  have HC18 := Lib.hid (eight_any 60 1006632960 (by decide) (by decide) w18)
  go_wp2_with fail
  refine Calls.mono HC18.out ?_
  rintro e w19 ⟨rfl, hT⟩
  have Y19 := Lib.hid (Y18.out.tch0 hT)
  have K19 := Lib.hid (K18.out.tch0 hT)
  clear hT
  have HC19 := Lib.hid (net_any 60 0 0 1 1006632961 (by decide) (by decide) (by decide) (by decide) (by decide) w19)
  go_wp2_with fail
  refine Calls.mono HC19.out ?_
  rintro e w20 ⟨rfl, hT⟩
  have Y20 := Lib.hid (Y19.out.tch0 hT)
  have K20 := Lib.hid (K19.out.tch0 hT)
  clear hT
  have HC20 : Hid (Calls Tryz.prog 40 #[ptrV t, .agg #[.bool false, .int .u64 0, .int .u64 1006632960, .int .i64 8], .agg #[.int .i64 1, .int .i64 0, .bool false, .int .u64 0, .int .u64 1006632961, .int .i64 0, .bool false]] w20 _) := Lib.hid (putP t S5 r5 (pE 1006632960) x6 (pE_ok (by decide)) x6_ok w20 (Y20.out.env HEn.out).1 (Y20.out.env HEn.out).2 Y20.out.R)
  rw [b6] at HC20
  go_wp2_with fail
  refine Calls.mono HC20.out ?_
  rintro e w21 ⟨rfl, S6, hP, hg⟩
  have Y21 := Lib.hid (Y20.out.goR hP hg)
  have K21 := Lib.hid (K20.out.go hg)
  clear hP hg
  have HK := Lib.hid (fun W (hW : Tch w21 W []) => (K21.out.tch0 hW).blk.c4)
  have HYb := Lib.hid (fun W (hW : Tch w21 W []) => Y21.out.tch0 hW)
  have HT21 : Hid (Tch w21 w21 []) := Lib.hid (Tch.refl _ _)
  clear K21
  have HC21 := Lib.hid (eight_any 30 503316480 (by decide) (by decide) w21)
  go_wp2_with fail
  refine Calls.mono HC21.out ?_
  rintro e w22 ⟨rfl, hT⟩
  have HT22 := Lib.hid (HT21.out.trans hT)
  clear hT
  have HC22 : Hid (Calls Tryz.prog 12 #[ptrV t, ptrV p, .agg #[.bool false, .int .u64 0, .int .u64 503316480, .int .i64 8]] w22 _) := Lib.hid (rhop_any t p S6 T3 r6 i3 (pE 503316480) (pE_ok (by decide)) w22 (HYb.out w22 HT22.out).R (HYb.out w22 HT22.out).I)
  rw [c1] at HC22
  go_wp2_with fail
  refine Calls.mono HC22.out ?_
  rintro e w23 ⟨rfl, hT⟩
  have HT23 := Lib.hid (HT22.out.trans hT)
  clear hT
  obtain ⟨ha, hha⟩ : ∃ b, w23.heap.size = b := ⟨_, rfl⟩
  obtain ⟨w24, hw24⟩ : ∃ W, w23.alloc (.cells #[.int .i64 1, .bool false, .int .u64 0, .int .u64 167772169, .bool false] 43) = W := ⟨_, rfl⟩
  have Hha : Hid (Blk w24 ha 43 #[.int .i64 1, .bool false, .int .u64 0, .int .u64 167772169, .bool false]) := Lib.hid (hw24 ▸ hha ▸ Blk.new _ _ _)
  have HT24 : Hid (Tch w21 w24 []) := Lib.hid (hw24 ▸ HT23.out.alloc _)
  have HW24 := Lib.hid (And.intro hw24 hha)
  clear hw24 hha
  have HTq24 : Hid (Tch w24 w24 []) := Lib.hid (Tch.refl _ _)
  have HC24 := Lib.hid (eight_any 40 671088640 (by decide) (by decide) w24)
  go_wp2_with fail
  rw [HW24.out.1, HW24.out.2]
  refine Calls.mono HC24.out ?_
  rintro e w25 ⟨rfl, hT⟩
  have HT25 := Lib.hid (HT24.out.trans hT)
  have HTq25 := Lib.hid (HTq24.out.trans hT)
  clear hT
  have HC25 : Hid (Calls Tryz.prog 12 #[ptrV t, ptrV p, .agg #[.bool false, .int .u64 0, .int .u64 671088640, .int .i64 8]] w25 _) := Lib.hid (rhop_any t p S6 T3 r6 i3 (pE 671088640) (pE_ok (by decide)) w25 (HYb.out w25 HT25.out).R (HYb.out w25 HT25.out).I)
  rw [c2] at HC25
  go_wp2_with fail
  refine Calls.mono HC25.out ?_
  rintro e w26 ⟨rfl, hT⟩
  have HT26 := Lib.hid (HT25.out.trans hT)
  have HTq26 := Lib.hid (HTq25.out.trans hT)
  clear hT
  simp only [zeroH, zeroA]
  obtain ⟨hb, hhb⟩ : ∃ b, w26.heap.size = b := ⟨_, rfl⟩
  obtain ⟨w27, hw27⟩ : ∃ W, w26.alloc (.cells #[.int .i64 0, .bool false, .int .u64 0, .int .u64 0, .bool false] 43) = W := ⟨_, rfl⟩
  have Hhb : Hid (Blk w27 hb 43 #[.int .i64 0, .bool false, .int .u64 0, .int .u64 0, .bool false]) := Lib.hid (hw27 ▸ hhb ▸ Blk.new _ _ _)
  have HT27 : Hid (Tch w21 w27 []) := Lib.hid (hw27 ▸ HT26.out.alloc _)
  have HTq27 : Hid (Tch w24 w27 []) := Lib.hid (hw27 ▸ HTq26.out.alloc _)
  have HW27 := Lib.hid (And.intro hw27 hhb)
  clear hw27 hhb
  have HC27 := Lib.hid (eight_any 60 1006632960 (by decide) (by decide) w27)
  go_wp2_with fail
  rw [HW27.out.1, HW27.out.2]
  refine Calls.mono HC27.out ?_
  rintro e w28 ⟨rfl, hT⟩
  have HT28 := Lib.hid (HT27.out.trans hT)
  have HTq28 := Lib.hid (HTq27.out.trans hT)
  clear hT
  have HC28 : Hid (Calls Tryz.prog 12 #[ptrV t, ptrV p, .agg #[.bool false, .int .u64 0, .int .u64 1006632960, .int .i64 8]] w28 _) := Lib.hid (rhop_any t p S6 T3 r6 i3 (pE 1006632960) (pE_ok (by decide)) w28 (HYb.out w28 HT28.out).R (HYb.out w28 HT28.out).I)
  rw [c3] at HC28
  go_wp2_with fail
  refine Calls.mono HC28.out ?_
  rintro e w29 ⟨rfl, hT⟩
  have HT29 := Lib.hid (HT28.out.trans hT)
  have HTq29 := Lib.hid (HTq28.out.trans hT)
  clear hT
  simp only [zeroH, zeroA]
  obtain ⟨hc, hhc⟩ : ∃ b, w29.heap.size = b := ⟨_, rfl⟩
  obtain ⟨w30, hw30⟩ : ∃ W, w29.alloc (.cells #[.int .i64 0, .bool false, .int .u64 0, .int .u64 0, .bool false] 43) = W := ⟨_, rfl⟩
  have Hhc : Hid (Blk w30 hc 43 #[.int .i64 0, .bool false, .int .u64 0, .int .u64 0, .bool false]) := Lib.hid (hw30 ▸ hhc ▸ Blk.new _ _ _)
  have HT30 : Hid (Tch w21 w30 []) := Lib.hid (hw30 ▸ HT29.out.alloc _)
  have HTq30 : Hid (Tch w24 w30 []) := Lib.hid (hw30 ▸ HTq29.out.alloc _)
  have HW30 := Lib.hid (And.intro hw30 hhc)
  clear hw30 hhc
  have HC30 := Lib.hid (rtable_any t p S6 T3 r6 i3 w30 (HYb.out w30 HT30.out).R (HYb.out w30 HT30.out).I)
  have HSr : Hid (SrtE tb) := Lib.hid (tabI_SrtE (HYb.out w30 HT30.out).R.inv.inv)
  rw [show tabI r6 i3 = tb from rfl, c4] at HC30
  go_wp2_with fail
  rw [HW30.out.1, HW30.out.2]
  refine Calls.mono HC30.out ?_
  rintro e w31 ⟨A, c, rfl, ho, hT⟩
  have HRo := Lib.hid (fun W (hW : Tch w31 W []) => own_tch (own_mono ho (Nat.zero_le _)) hW (by simp))
  have HT31 := Lib.hid (HT30.out.trans hT)
  have HTq31 := Lib.hid (HTq30.out.trans hT)
  clear ho hT
  have HC31 := Lib.hid (rnumber_any A 4 c tb c4 (by decide) w31 (HRo.out w31 (Tch.refl _ _)))
  rw [c5] at HC31
  go_wp2_with fail
  refine Calls.mono HC31.out ?_
  rintro e w32 ⟨A1, c1', A2, c2', rfl, hR, hH, -, hT⟩
  have HRt := Lib.hid (fun W (hW : Tch w32 W []) => own_tch hR hW (by simp))
  have HT32 := Lib.hid (HT31.out.trans hT)
  have HTq32 := Lib.hid (HTq31.out.trans hT)
  have HTt32 := Lib.hid hT
  clear hR hH hT
  have HC32 := Lib.hid (net_any 50 1 1 1 838926593 (by decide) (by decide) (by decide) (by decide) (by decide) w32)
  go_wp2_with fail
  refine Calls.mono HC32.out ?_
  rintro e w33 ⟨rfl, hT⟩
  have HT33 := Lib.hid (HT32.out.trans hT)
  have HTq33 := Lib.hid (HTq32.out.trans hT)
  have HTt33 := Lib.hid (HTt32.out.trans hT)
  have HTr33 := Lib.hid hT
  clear hT
  have HC33 : Hid (Calls Tryz.prog 29 #[.slice A 4 c, .agg #[.bool false, .int .u64 0, .int .u64 838926593]] w33 _) := Lib.hid (rlook_any A 4 c tb c4 (by decide) (false, 0, 838926593) (by unfold N64; decide) w33 (HRo.out w33 HTt33.out))
  rw [c7] at HC33
  go_wp2_with fail
  refine Calls.mono HC33.out ?_
  rintro e w34 ⟨rfl, hT⟩
  have HT34 := Lib.hid (HT33.out.trans hT)
  have HTq34 := Lib.hid (HTq33.out.trans hT)
  have HTt34 := Lib.hid (HTt33.out.trans hT)
  have HTr34 := Lib.hid (HTr33.out.trans hT)
  clear hT
  simp only [lookV, zeroA, Option.getD_some, Option.isSome_some]
  obtain ⟨hd, hhd⟩ : ∃ b, w34.heap.size = b := ⟨_, rfl⟩
  obtain ⟨w35, hw35⟩ : ∃ W, w34.alloc (.cells #[.int .i64 0, .bool false, .int .u64 0, .int .u64 0, .bool true] 43) = W := ⟨_, rfl⟩
  have Hhd : Hid (Blk w35 hd 43 #[.int .i64 0, .bool false, .int .u64 0, .int .u64 0, .bool true]) := Lib.hid (hw35 ▸ hhd ▸ Blk.new _ _ _)
  have HT35 : Hid (Tch w21 w35 []) := Lib.hid (hw35 ▸ HT34.out.alloc _)
  have HTq35 : Hid (Tch w24 w35 []) := Lib.hid (hw35 ▸ HTq34.out.alloc _)
  have HW35 := Lib.hid (And.intro hw35 hhd)
  clear hw35 hhd
  have HTt35 : Hid (Tch w31 w35 []) := Lib.hid (HW35.out.1 ▸ HTt34.out.alloc _)
  have HTr35 : Hid (Tch w32 w35 []) := Lib.hid (HW35.out.1 ▸ HTr34.out.alloc _)
  have hTk : Tch w21 (w34.alloc (.cells #[.int .i64 0, .bool false, .int .u64 0, .int .u64 0, .bool true] 43)) [] := HT34.out.alloc _
  obtain ⟨k0, k1, k2, k3⟩ := HK.out _ hTk
  have HC35 : Hid (Calls Tryz.prog 14 #[ptrV t, ptrV p, .agg #[.bool false, .int .u64 0, .int .u64 167772160, .int .i64 24]] w35 _) := Lib.hid (rpath_any t p S6 T3 r6 i3 pN pN_ok w35 (HYb.out w35 HT35.out).R (HYb.out w35 HT35.out).I)
  rw [c8] at HC35
  clear hTk
  go_wp2_with fail
  rw [HW35.out.1, HW35.out.2]
  refine Calls.mono HC35.out ?_
  rintro e w36 ⟨rfl, hT⟩
  have HT36 := Lib.hid (HT35.out.trans hT)
  have HTq36 := Lib.hid (HTq35.out.trans hT)
  have HTt36 := Lib.hid (HTt35.out.trans hT)
  have HTr36 := Lib.hid (HTr35.out.trans hT)
  have HTd36 := Lib.hid hT
  clear hT k0 k1 k2 k3
  simp only [bestV, x1, zeroA, Option.getD_some, Option.isSome_some]
  obtain ⟨he, hhe⟩ : ∃ b, w36.heap.size = b := ⟨_, rfl⟩
  obtain ⟨w37, hw37⟩ : ∃ W, w36.alloc (.cells #[.int .i64 0, .int .i64 0, .bool false, .int .u64 0, .int .u64 0, .int .i64 1, .bool false] 49) = W := ⟨_, rfl⟩
  have Hhe : Hid (Blk w37 he 49 #[.int .i64 0, .int .i64 0, .bool false, .int .u64 0, .int .u64 0, .int .i64 1, .bool false]) := Lib.hid (hw37 ▸ hhe ▸ Blk.new _ _ _)
  have HT37 : Hid (Tch w21 w37 []) := Lib.hid (hw37 ▸ HT36.out.alloc _)
  have HTq37 : Hid (Tch w24 w37 []) := Lib.hid (hw37 ▸ HTq36.out.alloc _)
  have HW37 := Lib.hid (And.intro hw37 hhe)
  clear hw37 hhe
  have HTt37 : Hid (Tch w31 w37 []) := Lib.hid (HW37.out.1 ▸ HTt36.out.alloc _)
  have HTr37 : Hid (Tch w32 w37 []) := Lib.hid (HW37.out.1 ▸ HTr36.out.alloc _)
  have HTd37 : Hid (Tch w35 w37 []) := Lib.hid (HW37.out.1 ▸ HTd36.out.alloc _)
  have HTx : Hid (Tch w24 w37 []) := Lib.hid HTq37.out
  have HHa := Lib.hid (fun W (hW : Tch w24 W []) => (hW.blk Hha.out (by simp)).h5)
  have HTa37 : Hid (Tch w24 w37 []) := Lib.hid HTx.out
  have HA0 := Lib.hid (HHa.out _ (HTa37.out.drew))
  have HNe := Lib.hid (fun W => net_any 10 0 0 9 167772169 (by decide) (by decide) (by decide) (by decide) (by decide) W)
  have E1 := eqA_eql 43 _ _ (eq_hpR (1, (false, 0, 167772169), false) (1, (false, 0, 167772169), false) (decide_eq_true rfl))
  go_wp2
  rw [HW37.out.1, HW37.out.2]
  refine wp_region_held_drew (S := (fun W => W.cell? ⟨ha, 0, none⟩ = some (Value.int .i64 1) ∧ W.cell? ⟨ha, 1, none⟩ = some (Value.bool false) ∧ W.cell? ⟨ha, 2, none⟩ = some (Value.int .u64 0) ∧ W.cell? ⟨ha, 3, none⟩ = some (Value.int .u64 167772169) ∧ W.cell? ⟨ha, 4, none⟩ = some (Value.bool false))) (by kernel_rfl) ?_ (fun hHeld => ?_)
  · (first | exact HA0.out | exact HA1.out)
  refine wpAnyH_take (i := 0) (oi := { dst := some 116, op := Go.Op.move (Go.Operand.tmp 5), type := 44, pos := "law.go:54", after := #[], guard := none }) (v := ?_) rfl (by kernel_rfl) (by kernel_rfl) (by kernel_rfl) (fun _ _ _ h => h) (Or.inl ⟨by rfl, ?_⟩) (by assumption) ?_
  rotate_left
  · intro w hSw
    (try dsimp only at hSw)
    go_simp
    try (with_reducible rfl)
  try simp only [Act.put, List.setIfInBounds_toArray, List.set_cons_zero, List.set_cons_succ]
  refine wpAnyH_take (i := 1) (oi := { dst := some 117, op := Go.Op.binOp Go.BinOp.eql 44 (Go.Operand.tmp 116) (Go.Operand.const (Go.Value.int Go.IntKind.i64 0)) 44, type := 4, pos := "law.go:54", after := #[{ on := 0, ground := Go.Ground.data }], guard := none }) (v := ?_) rfl (by kernel_rfl) (by kernel_rfl) (by kernel_rfl) (fun _ _ _ h => h) (Or.inl ⟨by rfl, ?_⟩) (by assumption) ?_
  rotate_left
  · intro w hSw
    (try dsimp only at hSw)
    go_simp
    try (with_reducible rfl)
  try simp only [Act.put, List.setIfInBounds_toArray, List.set_cons_zero, List.set_cons_succ]
  refine wpAnyH_take (i := 2) (oi := { dst := some 118, op := Go.Op.move (Go.Operand.tmp 117), type := 4, pos := "law.go:54", after := #[{ on := 1, ground := Go.Ground.data }], guard := none }) (v := ?_) rfl (by kernel_rfl) (by kernel_rfl) (by kernel_rfl) (fun _ _ _ h => h) (Or.inl ⟨by rfl, ?_⟩) (by assumption) ?_
  rotate_left
  · intro w hSw
    (try dsimp only at hSw)
    go_simp
    try (with_reducible rfl)
  try simp only [Act.put, List.setIfInBounds_toArray, List.set_cons_zero, List.set_cons_succ]
  refine wpAnyH_take (i := 3) (oi := { dst := some 119, op := Go.Op.load 43 (Go.Operand.tmp 4), type := 43, pos := "law.go:54", after := #[{ on := 2, ground := Go.Ground.guard }], guard := some (2, true) }) (v := ?_) rfl (by kernel_rfl) (by kernel_rfl) (by kernel_rfl) (fun _ _ _ h => h) (Or.inl ⟨by rfl, ?_⟩) (by assumption) ?_
  rotate_left
  · intro w hSw
    (try dsimp only at hSw)
    go_simp
    try (with_reducible rfl)
  try simp only [Act.put, List.setIfInBounds_toArray, List.set_cons_zero, List.set_cons_succ]
  refine wpAnyH_ready (rs := [4]) (by kernel_rfl) (by simp) ?_
  refine AllReadyH.cons (o := { dst := some 120, op := Go.Op.call { callee := Go.Callee.value (Go.Operand.func 39), args := #[Go.Operand.const (Go.Value.int Go.IntKind.u64 10), Go.Operand.const (Go.Value.int Go.IntKind.u64 0), Go.Operand.const (Go.Value.int Go.IntKind.u64 0), Go.Operand.const (Go.Value.int Go.IntKind.u64 9)], argTypes := #[26, 26, 26, 26] }, type := 28, pos := "law.go:54", after := #[{ on := 2, ground := Go.Ground.chain }, { on := 2, ground := Go.Ground.guard }], guard := some (2, true) }) rfl (fun K hK => ?_) AllReadyH.nil
  go_simp
  (go_at_call 39; (with_reducible refine Calls.mono (HNe.out _) ?_); rintro e wx ⟨rfl, hT⟩; have hTx : Tch w37 wx [] := (Tch.refl w37 []).drew.trans hT; have HTx := Lib.hid hTx; have HA1 := Lib.hid (HHa.out wx (HTa37.out.trans hTx)); clear hT hTx)
  go_wp2_with fail
  refine hK.out _ _ ?_ (fun hHeld => ?_)
  · (first | exact HA0.out | exact HA1.out)
  clear hK K
  try simp only [Act.put, List.setIfInBounds_toArray, List.set_cons_zero, List.set_cons_succ]
  refine wpAnyH_take (i := 5) (oi := { dst := some 121, op := Go.Op.build 43 #[(0, Go.Operand.const (Go.Value.int Go.IntKind.i64 1)), (1, Go.Operand.tmp 120)], type := 43, pos := "law.go:54", after := #[{ on := 4, ground := Go.Ground.data }, { on := 2, ground := Go.Ground.guard }], guard := some (2, true) }) (v := ?_) rfl (by kernel_rfl) (by kernel_rfl) (by kernel_rfl) (fun _ _ _ h => h) (Or.inl ⟨by rfl, ?_⟩) (by assumption) ?_
  rotate_left
  · intro w hSw
    (try dsimp only at hSw)
    go_simp
    try (with_reducible rfl)
  try simp only [Act.put, List.setIfInBounds_toArray, List.set_cons_zero, List.set_cons_succ]
  refine wpAnyH_take (i := 6) (oi := { dst := some 122, op := Go.Op.binOp Go.BinOp.eql 43 (Go.Operand.tmp 119) (Go.Operand.tmp 121) 43, type := 4, pos := "law.go:54", after := #[{ on := 3, ground := Go.Ground.data }, { on := 5, ground := Go.Ground.data }, { on := 2, ground := Go.Ground.guard }], guard := some (2, true) }) (v := ?_) rfl (by kernel_rfl) (by kernel_rfl) (by kernel_rfl) (fun _ _ _ h => h) (Or.inl ⟨by rfl, ?_⟩) (by assumption) ?_
  rotate_left
  · intro w hSw
    (try dsimp only at hSw)
    go_simp
    try (with_reducible rfl)
  try simp only [Act.put, List.setIfInBounds_toArray, List.set_cons_zero, List.set_cons_succ]
  refine wpAnyH_take (i := 7) (oi := { dst := some 123, op := Go.Op.pick (Go.Operand.tmp 118) (Go.Operand.tmp 122) (Go.Operand.const (Go.Value.bool false)), type := 4, pos := "law.go:54", after := #[{ on := 2, ground := Go.Ground.data }, { on := 6, ground := Go.Ground.data }], guard := none }) (v := ?_) rfl (by kernel_rfl) (by kernel_rfl) (by kernel_rfl) (fun _ _ _ h => h) (Or.inl ⟨by rfl, ?_⟩) (by assumption) ?_
  rotate_left
  · intro w hSw
    (try dsimp only at hSw)
    go_simp
    try (with_reducible rfl)
  try simp only [Act.put, List.setIfInBounds_toArray, List.set_cons_zero, List.set_cons_succ]
  refine wpAnyH_take (i := 8) (oi := { dst := some 124, op := Go.Op.move (Go.Operand.tmp 123), type := 4, pos := "law.go:54", after := #[{ on := 7, ground := Go.Ground.data }, { on := 4, ground := Go.Ground.chain }], guard := none }) (v := ?_) rfl (by kernel_rfl) (by kernel_rfl) (by kernel_rfl) (fun _ _ _ h => h) (Or.inl ⟨by rfl, ?_⟩) (by assumption) ?_
  rotate_left
  · intro w hSw
    (try dsimp only at hSw)
    go_simp
    try (with_reducible rfl)
  try simp only [Act.put, List.setIfInBounds_toArray, List.set_cons_zero, List.set_cons_succ]
  refine wpAnyH_take (i := 9) (oi := { dst := some 125, op := Go.Op.move (Go.Operand.tmp 7), type := 44, pos := "law.go:54", after := #[{ on := 8, ground := Go.Ground.guard }], guard := some (8, true) }) (v := ?_) rfl (by kernel_rfl) (by kernel_rfl) (by kernel_rfl) (fun _ _ _ h => h) (Or.inl ⟨by rfl, ?_⟩) (by assumption) ?_
  rotate_left
  · intro w hSw
    (try dsimp only at hSw)
    go_simp
    try (with_reducible rfl)
  try simp only [Act.put, List.setIfInBounds_toArray, List.set_cons_zero, List.set_cons_succ]
  refine wpAnyH_take (i := 10) (oi := { dst := some 126, op := Go.Op.binOp Go.BinOp.eql 44 (Go.Operand.tmp 125) (Go.Operand.const (Go.Value.int Go.IntKind.i64 150)) 44, type := 4, pos := "law.go:54", after := #[{ on := 9, ground := Go.Ground.data }, { on := 8, ground := Go.Ground.guard }], guard := some (8, true) }) (v := ?_) rfl (by kernel_rfl) (by kernel_rfl) (by kernel_rfl) (fun _ _ _ h => h) (Or.inl ⟨by rfl, ?_⟩) (by assumption) ?_
  rotate_left
  · intro w hSw
    (try dsimp only at hSw)
    go_simp
    try (with_reducible rfl)
  try simp only [Act.put, List.setIfInBounds_toArray, List.set_cons_zero, List.set_cons_succ]
  refine wpAnyH_take (i := 11) (oi := { dst := some 127, op := Go.Op.pick (Go.Operand.tmp 124) (Go.Operand.tmp 126) (Go.Operand.const (Go.Value.bool false)), type := 4, pos := "law.go:54", after := #[{ on := 8, ground := Go.Ground.data }, { on := 10, ground := Go.Ground.data }], guard := none }) (v := ?_) rfl (by kernel_rfl) (by kernel_rfl) (by kernel_rfl) (fun _ _ _ h => h) (Or.inl ⟨by rfl, ?_⟩) (by assumption) ?_
  rotate_left
  · intro w hSw
    (try dsimp only at hSw)
    go_simp
    try (with_reducible rfl)
  try simp only [Act.put, List.setIfInBounds_toArray, List.set_cons_zero, List.set_cons_succ]
  refine wpAnyH_take (i := 12) (oi := { dst := some 128, op := Go.Op.move (Go.Operand.tmp 127), type := 4, pos := "law.go:54", after := #[{ on := 11, ground := Go.Ground.data }, { on := 8, ground := Go.Ground.chain }], guard := none }) (v := ?_) rfl (by kernel_rfl) (by kernel_rfl) (by kernel_rfl) (fun _ _ _ h => h) (Or.inl ⟨by rfl, ?_⟩) (by assumption) ?_
  rotate_left
  · intro w hSw
    (try dsimp only at hSw)
    go_simp
    try (with_reducible rfl)
  try simp only [Act.put, List.setIfInBounds_toArray, List.set_cons_zero, List.set_cons_succ]
  refine wpAnyH_take (i := 13) (oi := { dst := some 129, op := Go.Op.move (Go.Operand.tmp 9), type := 44, pos := "law.go:54", after := #[{ on := 12, ground := Go.Ground.guard }], guard := some (12, true) }) (v := ?_) rfl (by kernel_rfl) (by kernel_rfl) (by kernel_rfl) (fun _ _ _ h => h) (Or.inl ⟨by rfl, ?_⟩) (by assumption) ?_
  rotate_left
  · intro w hSw
    (try dsimp only at hSw)
    go_simp
    try (with_reducible rfl)
  try simp only [Act.put, List.setIfInBounds_toArray, List.set_cons_zero, List.set_cons_succ]
  refine wpAnyH_take (i := 14) (oi := { dst := some 130, op := Go.Op.binOp Go.BinOp.eql 44 (Go.Operand.tmp 129) (Go.Operand.const (Go.Value.int Go.IntKind.i64 151)) 44, type := 4, pos := "law.go:54", after := #[{ on := 13, ground := Go.Ground.data }, { on := 12, ground := Go.Ground.guard }], guard := some (12, true) }) (v := ?_) rfl (by kernel_rfl) (by kernel_rfl) (by kernel_rfl) (fun _ _ _ h => h) (Or.inl ⟨by rfl, ?_⟩) (by assumption) ?_
  rotate_left
  · intro w hSw
    (try dsimp only at hSw)
    go_simp
    try (with_reducible rfl)
  try simp only [Act.put, List.setIfInBounds_toArray, List.set_cons_zero, List.set_cons_succ]
  refine wpAnyH_take (i := 15) (oi := { dst := some 131, op := Go.Op.pick (Go.Operand.tmp 128) (Go.Operand.tmp 130) (Go.Operand.const (Go.Value.bool false)), type := 4, pos := "law.go:54", after := #[{ on := 12, ground := Go.Ground.data }, { on := 14, ground := Go.Ground.data }], guard := none }) (v := ?_) rfl (by kernel_rfl) (by kernel_rfl) (by kernel_rfl) (fun _ _ _ h => h) (Or.inl ⟨by rfl, ?_⟩) (by assumption) ?_
  rotate_left
  · intro w hSw
    (try dsimp only at hSw)
    go_simp
    try (with_reducible rfl)
  try simp only [Act.put, List.setIfInBounds_toArray, List.set_cons_zero, List.set_cons_succ]
  refine wpAnyH_take (i := 16) (oi := { dst := some 17, op := Go.Op.assign (Go.Operand.tmp 131), type := 4, pos := "law.go:54", after := #[{ on := 15, ground := Go.Ground.data }, { on := 12, ground := Go.Ground.chain }, { on := 0, ground := Go.Ground.phase }, { on := 1, ground := Go.Ground.phase }, { on := 2, ground := Go.Ground.phase }, { on := 3, ground := Go.Ground.phase }, { on := 4, ground := Go.Ground.phase }, { on := 5, ground := Go.Ground.phase }, { on := 6, ground := Go.Ground.phase }, { on := 7, ground := Go.Ground.phase }, { on := 8, ground := Go.Ground.phase }, { on := 9, ground := Go.Ground.phase }, { on := 10, ground := Go.Ground.phase }, { on := 11, ground := Go.Ground.phase }, { on := 12, ground := Go.Ground.phase }, { on := 13, ground := Go.Ground.phase }, { on := 14, ground := Go.Ground.phase }, { on := 15, ground := Go.Ground.phase }], guard := none }) (v := ?_) rfl (by kernel_rfl) (by kernel_rfl) (by kernel_rfl) (fun _ _ _ h => h) (Or.inl ⟨by rfl, ?_⟩) (by assumption) ?_
  rotate_left
  · intro w hSw
    (try dsimp only at hSw)
    go_simp
    try (with_reducible rfl)
  try simp only [Act.put, List.setIfInBounds_toArray, List.set_cons_zero, List.set_cons_succ]
  refine wpAnyH_done (by kernel_rfl) ?_ _
  obtain ⟨g1, rfl⟩ := slice_some (HRt.out wx (HTr37.out.trans HTx.out)) (by decide)
  have z2 := own_cellN (HRt.out wx (HTr37.out.trans HTx.out)) (flatk_at (n := 5) rt_five c6 (k := 4) (by decide))
  have z3 : wx.cell? ⟨g1, 14, none⟩ = some (Value.int .i64 2) := z2
  obtain ⟨d0, d1, d2, d3, d4⟩ := ((HTd37.out.trans HTx.out).blk Hhd.out (by simp)).h5
  obtain ⟨y0, y1, y2, y3, y4, y5, y6⟩ := (HTx.out.blk Hhe.out (by simp)).p7
  have E2 := eqA_eql 43 _ _ (eq_hpR (0, zeroA, true) (0, zeroA, true) (decide_eq_true rfl))
  have E3 := eqA_eql 49 _ _ (eq_paR (0, 0, zeroA, 1, false) (0, 0, zeroA, 1, false) (decide_eq_true rfl))
  simp only [zeroA] at E2 E3
  have HCh := Lib.hid (rchanges_any none A 0 4 0 c [] tb (by decide) (by decide) wx RE.nil (RE.of c4 (HRo.out wx (HTt37.out.trans HTx.out))) ⟨.nil, by simp⟩ HSr.out)
  rw [c9] at HCh
  have HTe : Hid (Tch w21 wx []) := Lib.hid (HT37.out.trans HTx.out)
  clear z2 E1
  go_wp2_with fail
  refine Calls.mono HCh.out ?_
  rintro e wz ⟨A8, c8', rfl, -, hT⟩
  have HTz := Lib.hid (HTe.out.trans hT)
  clear hT z3 d0 d1 d2 d3 d4 y0 y1 y2 y3 y4 y5 y6 E2 E3
  go_wp2
  go_ret
  exact ⟨rfl, (HYb.out wz HTz.out).bel⟩
end Go.Proofs.YtgfkmgbcajdcdaaGreatDoor

namespace Go.Proofs.YtgfkmgbcajdcdaaGreatDoor
open Go.RowKit Ifs Go.ChangeShapes Go.WideShapes Go.ChangeAt
set_option linter.unusedVariables false

theorem slice_trod {H : Type} {enc : TypeId × Value → H} {W : World} {base n : Nat} {spare : Nat → Bool} {held : Bool} {t e : TypeId} {v : Value} {y : DataW H × List MemPlace} (ht : Tryz.prog.underlying t = some (.slice e)) (h : DataW.trod enc Tryz.prog W base spare held n t [v] = some y) : ∃ a l c, v = .slice a l c := by
  rcases Go.Deep.open_slice ht h with ⟨hc, -⟩ | ⟨a, l, c, -, -, -, -, hc, -⟩
  · injection hc with hc
    exact ⟨_, _, _, hc⟩
  · injection hc with hc
    exact ⟨_, _, _, hc⟩
set_option maxRecDepth 100000 in
theorem open_world {H : Type} {enc : TypeId × Value → H} {W : World} {r : Reach} {b0 : Nat} {v : Value} {d : DataW H} {p : List MemPlace} (hv : Value.okWide Tryz.prog W r b0 25 v) (h : DataW.Trod enc Tryz.prog W 0 (fun _ => true) true 25 v d p) :
    ∃ a b l c m e z y, v = .agg #[.slice a l c, .slice b m e] ∧ Ifs.IsStp W a l z ∧ IsStp W b m y := by
  obtain ⟨v0, v1, y0, y1, n, rfl, -, -, f0, f1⟩ := Go.Joins.open_agg2 Tryz.underlying25 (by kernel_rfl) (by kernel_rfl) hv h
  obtain ⟨a, l, c, rfl⟩ := slice_trod Tryz.underlying22 f0
  obtain ⟨b, m, e, rfl⟩ := slice_trod Tryz.underlying23 f1
  obtain ⟨z, hz⟩ := Ifs.isStp_of (c := c) (d := y0.1) (p := y0.2) ⟨n, f0⟩
  obtain ⟨y, hy⟩ := isStp_of (c := e) (d := y1.1) (p := y1.2) ⟨n, f1⟩
  exact ⟨a, b, l, c, m, e, z, y, rfl, hz, hy⟩
end Go.Proofs.YtgfkmgbcajdcdaaGreatDoor

namespace Go.Proofs.YtgfkmgbcajdcdaaGreatDoor
open Go.RowKit Ifs Go.ChangeShapes Go.WideShapes Go.ChangeAt
set_option linter.unusedVariables false

/-- A slice of addresses that came in. -/
def IsAds (w : World) (a : Option Addr) (l : Nat) (z : List AdR) : Prop :=
  z.length = l ∧ (∀ x ∈ z, N64 x.2.1 ∧ N64 x.2.2) ∧ (0 < l → ∃ b o, a = some ⟨b, o, none⟩ ∧ b < w.heap.size ∧ ∀ j x, z[j]? = some x → w.cell? ⟨b, o + j * 3, none⟩ = some (.bool x.1) ∧ w.cell? ⟨b, o + j * 3 + 1, none⟩ = some (.int .u64 (x.2.1 : Int)) ∧ w.cell? ⟨b, o + j * 3 + 2, none⟩ = some (.int .u64 (x.2.2 : Int)))
theorem IsAds.below {w w' : World} {a : Option Addr} {l : Nat} {z : List AdR} (h : IsAds w a l z) (hb : Below w.heap.size w w') : IsAds w' a l z := by
  refine ⟨h.1, h.2.1, fun h0 => ?_⟩
  obtain ⟨b, o, e, hlt, hc⟩ := h.2.2 h0
  refine ⟨b, o, e, by have := hb.size; omega, fun j x hx => ?_⟩
  obtain ⟨c1, c2, c3⟩ := hc j x hx
  exact ⟨(hb.cell (p := ⟨b, o + j * 3, none⟩) hlt).trans c1, (hb.cell (p := ⟨b, o + j * 3 + 1, none⟩) hlt).trans c2, (hb.cell (p := ⟨b, o + j * 3 + 2, none⟩) hlt).trans c3⟩
theorem addrFields : ∃ f0 f1 f2 : Field, Tryz.prog.underlying 28 = some (.struct #[f0, f1, f2]) ∧ (f0.type = 4 ∧ f0.offset = 0) ∧ (f1.type = 26 ∧ f1.offset = 1) ∧ (f2.type = 26 ∧ f2.offset = 2) :=
  ⟨_, _, _, Tryz.underlying28, ⟨rfl, rfl⟩, ⟨rfl, rfl⟩, ⟨rfl, rfl⟩⟩
set_option maxRecDepth 100000 in
theorem isAds_of {H : Type} {enc : TypeId × Value → H} {W : World} {a : Option Addr} {l c : Nat} {d : DataW H} {p : List MemPlace} (h : DataW.Trod enc Tryz.prog W 0 (fun _ => true) true 78 (.slice a l c) d p) : ∃ z, IsAds W a l z := by
  obtain ⟨fuel, hf⟩ := h
  obtain ⟨f0, f1, f2, hu, ⟨t0, o0⟩, ⟨t1, o1⟩, ⟨t2, o2⟩⟩ := addrFields
  have ce : Tryz.prog.cellsOf 28 = 3 := by kernel_rfl
  have ci : Tryz.prog.cellsOf 26 = 1 := by kernel_rfl
  have cb : Tryz.prog.cellsOf 4 = 1 := by kernel_rfl
  rcases Go.Deep.open_slice Tryz.underlying78 hf with ⟨hcs, _⟩ | ⟨ad, len, cap, m, n, D, Pl, hcs, _, hl, hm, hmm, _, hx⟩
  · simp [Value.cells] at hcs
    obtain ⟨rfl, rfl, rfl⟩ := hcs
    exact ⟨[], rfl, fun x hx => (by cases hx), fun h0 => absurd h0 (by omega)⟩
  · simp [Value.cells] at hcs
    obtain ⟨rfl, rfl, rfl⟩ := hcs
    simp only [if_true] at hmm
    have each : ∀ i, i < l → ∃ q : AdR, W.cell? (ad.add (i * 3)) = some (.bool q.1) ∧ W.cell? ((ad.add (i * 3)).add 1) = some (.int .u64 (q.2.1 : Int)) ∧ W.cell? ((ad.add (i * 3)).add 2) = some (.int .u64 (q.2.2 : Int)) ∧ N64 q.2.1 ∧ N64 q.2.2 := by
      intro i hi
      obtain ⟨cs', h1, h2⟩ := hx i (by omega)
      rw [ce] at h1
      obtain ⟨_, hlen, hcell⟩ := World.cells?_some h1
      obtain ⟨y0, y1, y2, n', _, hcl, g0, g1, g2⟩ := Go.Deep.trod_struct3 hu h2
      rw [t0, o0, cb] at g0
      rw [t1, o1, ci] at g1
      rw [t2, o2, ci] at g2
      match cs', hlen with
      | [v0, v1, v2], _ =>
        simp only [List.drop_zero, List.take_succ_cons, List.take_zero, List.drop_succ_cons] at g0 g1 g2
        obtain ⟨b0, e0, _⟩ := DataW.trod_bool Tryz.underlying4 g0
        obtain ⟨b1, e1, _, w1⟩ := DataW.trod_int Tryz.underlying26 g1
        obtain ⟨n2, e2, _, w2⟩ := DataW.trod_int Tryz.underlying26 g2
        injection e0 with e0 _
        injection e1 with e1 _
        injection e2 with e2 _
        subst e0 e1 e2
        have k0 := hcell 0 (by omega)
        have k1 := hcell 1 (by omega)
        have k2 := hcell 2 (by omega)
        have u1 := u64_bd w1
        have u2 := u64_bd w2
        refine ⟨(b0, b1.toNat, n2.toNat), by simpa [Addr.add] using k0, ?_, ?_, ?_, ?_⟩
        · rw [Int.toNat_of_nonneg u1.1]; simpa using k1
        · rw [Int.toNat_of_nonneg u2.1]; simpa using k2
        · unfold N64; simp only; omega
        · unfold N64; simp only; omega
    obtain ⟨q, hq⟩ := Go.Deep.choose_lt each
    refine ⟨(List.range l).map q, by simp, fun x hx => ?_, fun h0 => ?_⟩
    · obtain ⟨i, hi, rfl⟩ := List.mem_map.1 hx
      exact (hq i (List.mem_range.1 hi)).2.2.2
    · obtain ⟨b, off, spot⟩ := ad
      have hc := (hq 0 h0).1
      have hspot : spot = none := by simpa [Addr.add] using World.cell?_spot hc
      subst hspot
      refine ⟨b, off, rfl, by simpa [Addr.add] using World.block_lt_of_cell? W _ hc, fun j x hjx => ?_⟩
      rw [List.getElem?_map, Option.map_eq_some_iff] at hjx
      obtain ⟨i, hi, rfl⟩ := hjx
      have hil := (List.getElem?_eq_some_iff.1 hi).1
      have hij : i = j := by rw [List.getElem?_range (by simpa using hil)] at hi; injection hi with hi; exact hi.symm
      subst hij
      obtain ⟨k0, k1, k2, -⟩ := hq i (by simpa using hil)
      have ea : ∀ x : Nat, (⟨b, off, none⟩ : Addr).add x = ⟨b, off + x, none⟩ := fun x => by unfold Addr.add; split <;> simp_all
      have eb : ∀ y x : Nat, (⟨b, y, none⟩ : Addr).add x = ⟨b, y + x, none⟩ := fun y x => by unfold Addr.add; split <;> simp_all
      rw [ea] at k0 k1 k2
      rw [eb] at k1 k2
      exact ⟨k0, k1, k2⟩
/-- An address, in any world in which what came in lies as it lay. -/
theorem IsAds.step {w : World} {a : Option Addr} {l j : Nat} {z : List AdR} (h : IsAds w a l z) (hj : j < l) : ∃ g o x, a = some ⟨g, o, none⟩ ∧ g < w.heap.size ∧ z[j]? = some x ∧ N64 x.2.1 ∧ N64 x.2.2 ∧
    ∀ W, Below w.heap.size w W → W.cell? ⟨g, o + j * 3, none⟩ = some (.bool x.1) ∧ W.cell? ⟨g, o + j * 3 + 1, none⟩ = some (.int .u64 (x.2.1 : Int)) ∧ W.cell? ⟨g, o + j * 3 + 2, none⟩ = some (.int .u64 (x.2.2 : Int)) := by
  obtain ⟨b, o, e, hlt, hc⟩ := h.2.2 (by omega)
  have hlz : j < z.length := by rw [h.1]; exact hj
  have hz : z[j]? = some z[j] := List.getElem?_eq_getElem hlz
  obtain ⟨c1, c2, c3⟩ := hc j _ hz
  have hw := h.2.1 _ (List.mem_of_getElem? hz)
  exact ⟨b, o, z[j], e, hlt, hz, hw.1, hw.2, fun W hb => ⟨(hb.cell (p := ⟨b, o + j * 3, none⟩) hlt).trans c1, (hb.cell (p := ⟨b, o + j * 3 + 1, none⟩) hlt).trans c2, (hb.cell (p := ⟨b, o + j * 3 + 2, none⟩) hlt).trans c3⟩⟩
end Go.Proofs.YtgfkmgbcajdcdaaGreatDoor
