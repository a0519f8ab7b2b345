/-
  Several texts in one: TrW, TrV.
-/
import Derived.Test.YtgfkmgbcajdcdaaGreatDoorKbg
import Derived.Test.YtgfkmgbcajdcdaaGreatDoorKaq
import Derived.Test.YtgfkmgbcajdcdaaGreatDoorKaj
namespace Go.Proofs.YtgfkmgbcajdcdaaGreatDoor
open Go.RowKit Ifs
set_option linter.unusedVariables false
theorem or_cat (h l t : Nat) (ht : t ≤ 64) (hh : h < 2 ^ 64) (hl : l < 2 ^ 64) : bits .or .u64 (IntKind.u64.wrap ((h : Int) * 2 ^ t)) ((l : Int) / 2 ^ (64 - t)) = (((h * 2 ^ t % 2 ^ 64) + l / 2 ^ (64 - t) : Nat) : Int) := by
  have e1 : IntKind.u64.wrap ((h : Int) * 2 ^ t) = ((h * 2 ^ t % 2 ^ 64 : Nat) : Int) := by
    rw [IntKind.wrap_u64, show (h : Int) * 2 ^ t = ((h * 2 ^ t : Nat) : Int) by simp]
    omega
  have e2 : (l : Int) / 2 ^ (64 - t) = ((l / 2 ^ (64 - t) : Nat) : Int) := by simp
  have e3 : (2 : Nat) ^ 64 = 2 ^ (64 - t) * 2 ^ t := by rw [← Nat.pow_add]; congr 1; omega
  have hy : l / 2 ^ (64 - t) < 2 ^ t := Nat.div_lt_of_lt_mul (by rw [← e3]; exact hl)
  have hx : h * 2 ^ t % 2 ^ 64 < 18446744073709551616 := Nat.mod_lt _ (by decide)
  have hyl : l / 2 ^ (64 - t) < 18446744073709551616 := Nat.lt_of_le_of_lt (Nat.div_le_self _ _) hl
  rw [e1, e2, u64_or_nat _ _ hx hyl]
  congr 1
  rw [e3, Nat.mul_mod_mul_right, ← Nat.shiftLeft_eq, Nat.shiftLeft_add_eq_or_of_lt hy]
set_option maxHeartbeats 4000000 in
theorem grp_lo (h l d : Nat) (hd : d ≤ 10) (hh : h < 2 ^ 64) (hl : l < 2 ^ 64) : ((h * 2 ^ (6 * d) % 2 ^ 64) + l / 2 ^ (64 - 6 * d)) / 288230376151711744 = grpN (nm h l * 2 ^ 4) d := by
  unfold grpN nm
  have : d = 0 ∨ d = 1 ∨ d = 2 ∨ d = 3 ∨ d = 4 ∨ d = 5 ∨ d = 6 ∨ d = 7 ∨ d = 8 ∨ d = 9 ∨ d = 10 := by omega
  rcases this with rfl | rfl | rfl | rfl | rfl | rfl | rfl | rfl | rfl | rfl | rfl <;> · simp only [Nat.reduceMul, Nat.reduceSub, Nat.reducePow] at *; omega
set_option maxHeartbeats 4000000 in
theorem grp_hi (h l u d : Nat) (hu : 6 * d = 64 + u) (hd : d ≤ 21) (hh : h < 2 ^ 64) (hl : l < 2 ^ 64) : l * 2 ^ u % 2 ^ 64 / 288230376151711744 = grpN (nm h l * 2 ^ 4) d := by
  unfold grpN nm
  have : (d = 11 ∧ u = 2) ∨ (d = 12 ∧ u = 8) ∨ (d = 13 ∧ u = 14) ∨ (d = 14 ∧ u = 20) ∨ (d = 15 ∧ u = 26) ∨ (d = 16 ∧ u = 32) ∨ (d = 17 ∧ u = 38) ∨ (d = 18 ∧ u = 44) ∨ (d = 19 ∧ u = 50) ∨ (d = 20 ∧ u = 56) ∨ (d = 21 ∧ u = 62) := by omega
  rcases this with ⟨rfl, rfl⟩ | ⟨rfl, rfl⟩ | ⟨rfl, rfl⟩ | ⟨rfl, rfl⟩ | ⟨rfl, rfl⟩ | ⟨rfl, rfl⟩ | ⟨rfl, rfl⟩ | ⟨rfl, rfl⟩ | ⟨rfl, rfl⟩ | ⟨rfl, rfl⟩ | ⟨rfl, rfl⟩ <;> · simp only [Nat.reduceMul, Nat.reduceSub, Nat.reducePow] at *; omega
theorem numA_six (h l : Nat) : numA (true, h, l) = nm h l * 2 ^ 4 := by
  unfold numA wd; simp only [if_true, Nat.reduceSub]
theorem numA_four (h l : Nat) (ha : okAd (false, h, l)) : numA (false, h, l) = nm (l * 4294967296) 0 * 2 ^ 4 ∧ h = 0 ∧ l < 4294967296 := by
  obtain ⟨h1, h2⟩ := vld_four ha.1
  simp only at h1 h2
  refine ⟨?_, by omega, by omega⟩
  obtain rfl : h = 0 := by omega
  show nm 0 l * 2 ^ 100 = _
  unfold nm
  simp only [Nat.reducePow]; omega
theorem w64_grp (x g : Nat) (m d : Nat) (e : x / 288230376151711744 = grpN m d) : wrap64 (((x : Nat) : Int) / 288230376151711744) = ((grpN m d : Nat) : Int) := by
  have := grpN_lt m d
  rw [show ((x : Nat) : Int) / 288230376151711744 = ((x / 288230376151711744 : Nat) : Int) by simp, e]
  unfold wrap64; omega
theorem ret_i64' {a b : Int} (h : a = b) : Ending.returned (.int .i64 a) = .returned (.int .i64 b) := by rw [h]
set_option maxRecDepth 100000 in
set_option maxHeartbeats 4000000 in
theorem group_any (s : Bool) (h l d : Nat) (ha : okAd (s, h, l)) (hd : d ≤ 21) (w : World) :
    Calls Tryz.prog 114 #[adr s (h : Int) (l : Int), .int .i64 (d : Int)] w fun e w' => e = .returned (.int .i64 ((grpN (numA (s, h, l)) d : Nat) : Int)) ∧ Tch w w' [] := by
  have HA := Lib.hid ha
  obtain ⟨t, ht⟩ : ∃ t, 6 * d = t := ⟨_, rfl⟩
  have HT := Lib.hid ht
  have t1 : IntKind.i64.wrap (6 * (d : Int)) = (t : Int) := by rw [IntKind.wrap_i64]; omega
  have t2 : IntKind.i64.wrap ((t : Int) - 64) = (t : Int) - 64 := by rw [IntKind.wrap_i64]; omega
  have t3 : IntKind.i64.wrap (64 - (t : Int)) = 64 - (t : Int) := by rw [IntKind.wrap_i64]; omega
  have HTc : Hid (∀ q, Tch w ((w.alloc (.cells #[.bool s, .int .u64 (h : Int), .int .u64 (l : Int)] 28)).drewN q) []) := Lib.hid (fun q => ((Tch.refl w []).alloc _).drewN q)
  clear ha ht
  go_enter Tryz.func114, Tryz.ntmps114
  cases s with
  | true =>
    by_cases hc : t < 64
    · have HC := Lib.hid hc
      have c1 : (t : Int) < 64 := by omega
      have c2 : (t : Int) - 64 < 0 := by omega
      have c3 : ¬ (0 : Int) < (t : Int) - 64 := by omega
      have c4 : (0 : Int) ≤ 64 - (t : Int) := by omega
      go_wp2
      go_quiet (fail)
      go_wp2
      go_quiet (fail)
      go_wp2
      go_ret
      refine ⟨ret_i64' ?_, by first | exact HTc.out _ | exact (HTc.out _).drewN _⟩
      rw [or_cat h l t (by have := HC.out; omega) HA.out.2.1 HA.out.2.2, numA_six]
      exact w64_grp _ 0 _ _ (by rw [← HT.out]; exact grp_lo h l d (by have := HC.out; have := HT.out; omega) HA.out.2.1 HA.out.2.2)
    · have c1 : ¬ (t : Int) < 64 := by omega
      obtain ⟨u, hu⟩ : ∃ u, t = 64 + u := ⟨t - 64, by omega⟩
      have HU := Lib.hid hu
      have htl : t ≤ 126 := by have := HT.out; omega
      have t4 : IntKind.i64.wrap ((t : Int) - 64) = (u : Int) := by rw [IntKind.wrap_i64]; omega
      have m1 : max (u : Int) 0 = (u : Int) := by omega
      clear hu; clear t2
      go_wp2
      go_quiet (fail)
      go_wp2
      go_ret
      refine ⟨ret_i64' ?_, by first | exact HTc.out _ | exact (HTc.out _).drewN _⟩
      rw [show (l : Int) * 2 ^ min u 64 = ((l * 2 ^ u : Nat) : Int) by rw [Nat.min_eq_left (by have := HU.out; have := HT.out; omega)]; simp, numA_six, IntKind.wrap_u64, show ((l * 2 ^ u : Nat) : Int) % 18446744073709551616 = ((l * 2 ^ u % 2 ^ 64 : Nat) : Int) by omega]
      exact w64_grp _ 0 _ _ (grp_hi h l u d (by have := HT.out; have := HU.out; omega) hd HA.out.2.1 HA.out.2.2)
  | false =>
    by_cases hc : t < 64
    · have HC := Lib.hid hc
      have c1 : (t : Int) < 64 := by omega
      have c2 : (t : Int) - 64 < 0 := by omega
      have c3 : ¬ (0 : Int) < (t : Int) - 64 := by omega
      have c4 : (0 : Int) ≤ 64 - (t : Int) := by omega
      go_wp2
      go_quiet (fail)
      go_wp2
      go_quiet (fail)
      go_wp2
      go_ret
      refine ⟨ret_i64' ?_, by first | exact HTc.out _ | exact (HTc.out _).drewN _⟩
      obtain ⟨e1, rfl, e3⟩ := numA_four h l HA.out
      have e4 : IntKind.u64.wrap ((l : Int) * 4294967296) = ((l * 4294967296 : Nat) : Int) := by rw [IntKind.wrap_u64]; omega
      have e5 := or_cat (l * 4294967296) 0 t (by have := HC.out; omega) (by omega) (by decide)
      rw [show ((0 : Nat) : Int) / 2 ^ (64 - t) = 0 by simp] at e5
      rw [e4, e5, e1]
      exact w64_grp _ 0 _ _ (by rw [← HT.out]; exact grp_lo (l * 4294967296) 0 d (by have := HC.out; have := HT.out; omega) (by omega) (by decide))
    · have c1 : ¬ (t : Int) < 64 := by omega
      obtain ⟨u, hu⟩ : ∃ u, t = 64 + u := ⟨t - 64, by omega⟩
      have HU := Lib.hid hu
      have htl : t ≤ 126 := by have := HT.out; omega
      have t4 : IntKind.i64.wrap ((t : Int) - 64) = (u : Int) := by rw [IntKind.wrap_i64]; omega
      have m1 : max (u : Int) 0 = (u : Int) := by omega
      clear hu; clear t2
      go_wp2
      go_quiet (fail)
      go_wp2
      go_ret
      refine ⟨ret_i64' ?_, by first | exact HTc.out _ | exact (HTc.out _).drewN _⟩
      obtain ⟨e1, rfl, e3⟩ := numA_four h l HA.out
      have e6 := grp_hi (l * 4294967296) 0 u d (by have := HT.out; have := HU.out; omega) hd (by omega) (by decide)
      rw [Nat.zero_mul] at e6
      rw [e1, ← e6]; rfl
end Go.Proofs.YtgfkmgbcajdcdaaGreatDoor

namespace Go.Proofs.YtgfkmgbcajdcdaaGreatDoor
open Go.RowKit Ifs
set_option linter.unusedVariables false
set_option maxRecDepth 100000 in
set_option maxHeartbeats 4000000 in
theorem wrong_no (r : RtI) (hp : PvOk r.1) (h1 : 1 ≤ r.2) (h2 : r.2 ≤ 65535) (w : World) :
    Calls Tryz.prog 63 #[.agg #[.bool r.1.1.1, .int .u64 (r.1.1.2.1 : Int), .int .u64 (r.1.1.2.2 : Int), .int .i64 r.1.2, .int .i64 r.2]] w fun e w' => e = .returned (.bool false) ∧ Below w.heap.size w w' := by
  obtain ⟨⟨⟨s, h, l⟩, b⟩, nx⟩ := r
  have HV := Lib.hid (fun W => pvalid_at s h l b hp.2.2.1 hp.2.2.2 (v := true) hp.1 W)
  obtain ⟨xb, hxb⟩ : ∃ xb, w.heap.size = xb := ⟨_, rfl⟩
  obtain ⟨W0, hW0⟩ : ∃ W, w.alloc (.cells #[.bool s, .int .u64 (h : Int), .int .u64 (l : Int), .int .i64 b, .int .i64 nx] 101) = W := ⟨_, rfl⟩
  have HX : Hid (Blk W0 xb 101 #[.bool s, .int .u64 (h : Int), .int .u64 (l : Int), .int .i64 b, .int .i64 nx]) := Lib.hid (hW0 ▸ hxb ▸ Blk.new w _ _)
  have HB0 : Hid (Below w.heap.size w W0) := Lib.hid (hW0 ▸ (Below.refl _ w).alloc (Nat.le_refl _) _)
  have HW0 := Lib.hid (And.intro hW0 hxb)
  have n1 : ¬ nx < 1 := by simp only at h1; omega
  have n2 : ¬ (65535 : Int) < nx := by simp only at h2; omega
  have d1 : decide (nx < 1) = false := decide_eq_false n1
  have d2 : decide ((65535 : Int) < nx) = false := decide_eq_false n2
  clear hp h1 h2 hW0 hxb
  obtain ⟨t0, t1, t2, t3, t4⟩ := HX.out.h5
  go_enter Tryz.func63, Tryz.ntmps63
  go_wp2_with fail
  rw [HW0.out.1, HW0.out.2]
  go_wp2_with fail
  refine Calls.mono (HV.out _) ?_
  rintro e w1 ⟨rfl, hb1⟩
  have HB1 := Lib.hid (HB0.out.trans (hb1.mono HB0.out.size))
  obtain ⟨s0, s1, s2, s3, s4⟩ := (HX.out.below hb1 HX.out.lt).h5
  clear hb1 t0 t1 t2 t3 t4
  go_wp2
  go_ret
  exact ⟨rfl, HB1.out⟩
theorem rt_cells {w : World} {base g n c k : Nat} {l : List RtI} (h : RowT w base (some ⟨g, 0, none⟩) n c l) {e : RtI} (he : l[k]? = some e) :
    w.cell? ⟨g, k * 5, none⟩ = some (.bool e.1.1.1) ∧ w.cell? ⟨g, k * 5 + 1, none⟩ = some (.int .u64 (e.1.1.2.1 : Int)) ∧ w.cell? ⟨g, k * 5 + 2, none⟩ = some (.int .u64 (e.1.1.2.2 : Int)) ∧ w.cell? ⟨g, k * 5 + 3, none⟩ = some (.int .i64 e.1.2) ∧ w.cell? ⟨g, k * 5 + 4, none⟩ = some (.int .i64 e.2) := by
  have hat := fun q hq => flatk_at (n := 5) (f := rtC) (fun _ => rfl) he (k := q) hq
  exact ⟨own_cellN h (hat 0 (by decide)), own_cellN h (hat 1 (by decide)), own_cellN h (hat 2 (by decide)), own_cellN h (hat 3 (by decide)), own_cellN h (hat 4 (by decide))⟩
set_option maxRecDepth 100000 in
set_option maxHeartbeats 4000000 in
theorem twice_no (A : Option Addr) (n c : Nat) (l : List RtI) (hn : l.length = n) (hn9 : n ≤ 1000000) (hs : SrtR l) (w : World) (h : RowT w 0 A n c l) :
    Calls Tryz.prog 67 #[.slice A n c] w fun e w' => e = .returned (.bool false) ∧ Tch w w' [] := by
  have HR := Lib.hid (fun W (hT : Tch w W []) => own_tch h hT (by simp))
  have HN := Lib.hid hn
  have HS := Lib.hid hs
  clear hn h hs
  go_enter Tryz.func67, Tryz.ntmps67
  go_wp2
  go_loopw [3] (fun iv wr => ∃ i : Nat, iv = .int .i64 ((i : Int) + 1) ∧ Hid (Tch w wr [])) (fun iv _ => n - (intOf iv).toNat)
  case atStart => exact ⟨0, rfl, Lib.hid (Tch.refl _ _)⟩
  case round =>
    obtain ⟨i, rfl, hT⟩ := hrel
    by_cases hin : i + 1 < n
    · have iI : (i : Int) + 1 < (n : Int) := by omega
      have i0 : (0 : Int) ≤ (i : Int) + 1 := by omega
      have i1 : IntKind.i64.wrap ((i : Int) + 1 + 1) = (i : Int) + 2 := by rw [IntKind.wrap_i64]; omega
      have i2 : IntKind.i64.wrap ((i : Int) + 1 - 1) = (i : Int) := by rw [IntKind.wrap_i64]; omega
      have i3 : IntKind.i64.wrap (i : Int) = (i : Int) := by rw [IntKind.wrap_i64]; omega
      have i4 : (0 : Int) ≤ (i : Int) := by omega
      have i5 : (i : Int) < (n : Int) := by omega
      have i6 : ((i : Int) + 1).toNat = i + 1 := by omega
      obtain ⟨x, hx⟩ : ∃ x, l[i]? = some x := ⟨_, List.getElem?_eq_getElem (by rw [HN.out]; omega)⟩
      obtain ⟨y, hy⟩ : ∃ y, l[i + 1]? = some y := ⟨_, List.getElem?_eq_getElem (by rw [HN.out]; exact hin)⟩
      have hlt : ltP x.1 y.1 := by
        have h1 := List.pairwise_iff_getElem.1 HS.out.srt i (i + 1) (List.getElem?_eq_some_iff.1 hx).1 (List.getElem?_eq_some_iff.1 hy).1 (by omega)
        rw [(List.getElem?_eq_some_iff.1 hx).2, (List.getElem?_eq_some_iff.1 hy).2] at h1
        exact h1
      have hne : decide (x.1 = y.1) = false := decide_eq_false (fun e => ltP_irr y.1 (by rw [e] at hlt; exact hlt))
      have HQ := eqA_eql 30 _ _ (eq_pfR x.1 y.1 hne)
      have ho := HR.out wr hT.out
      obtain ⟨g, rfl⟩ := slice_some ho (by omega)
      obtain ⟨s0, s1, s2, s3, -⟩ := rt_cells ho hx
      obtain ⟨t0, t1, t2, t3, -⟩ := rt_cells ho hy
      obtain ⟨⟨⟨xs, xh, xl⟩, xn⟩, xx⟩ := x
      obtain ⟨⟨⟨ys, yh, yl⟩, yn⟩, yx⟩ := y
      clear hx hy hlt hne ho
      go_wp2
      go_quiet (fail)
      have HT9 : Hid (Tch w (wr.drewN nq) []) := Lib.hid (hT.out.drewN nq)
      clear s0 s1 s2 s3 t0 t1 t2 t3 HQ
      go_wp2
      go_roundw
      case rel => exact ⟨i + 1, by go_num, HT9⟩
      case measure => simp [intOf]; omega
    · have iI : ¬ (i : Int) + 1 < (n : Int) := by omega
      go_wp2
      go_ret
      exact ⟨rfl, hT.out⟩
end Go.Proofs.YtgfkmgbcajdcdaaGreatDoor
