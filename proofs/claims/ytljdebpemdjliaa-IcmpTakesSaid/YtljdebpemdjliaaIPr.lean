/-
  icmp: a message's bytes without their check; the sums of both families.
-/
import Derived.Test.YtljdebpemdjliaaIFn
namespace Go.Proofs.Ytljdebpemdjliaa
open Go.RowKit
set_option linter.unusedVariables false

theorem iown_form {w : World} {R n : Nat} {t : TypeId} {v : Value} {xs : List Value} (h : w.ownsRow R t 1 v n xs) : ∃ a c, v = .slice a n c := by
  rcases h.2 with ⟨hv, h0⟩ | ⟨g, cap, cur, hv, _⟩
  · exact ⟨none, 0, by rw [hv, h0]⟩
  · exact ⟨_, _, hv⟩
theorem iown_below {w w' : World} {R n : Nat} {t : TypeId} {v : Value} {xs : List Value} (h : w.ownsRow R t 1 v n xs) (hb : Below w.heap.size w w') : w'.ownsRow R t 1 v n xs := by
  refine ⟨h.1, h.2.imp id ?_⟩
  rintro ⟨g, cap, cur, a, b, c, d⟩
  refine ⟨g, cap, cur, a, b, ?_, d⟩
  rw [hb.block g ?_]
  · exact c
  · exact (show Blk w g t cur from c).lt
theorem iown_blk {w : World} {R g n : Nat} {zs : List Int} (h : Blk w g 5 ((zs.map (Value.int .u8)).toArray)) (hR : R ≤ g) (hl : zs.length = n) (hn : n ≤ 9223372036854775807) : w.ownsRow R 5 1 (.slice (some ⟨g, 0, none⟩) n n) n (zs.map (Value.int .u8)) :=
  ⟨by simp [hl], .inr ⟨g, n, _, rfl, hR, h, Nat.le_refl _, hn, by simp [hl], by rw [Nat.mul_one, List.toList_toArray, List.take_of_length_le (by simp [hl])]⟩⟩

/-- One call of Put onto bytes that are known whole. -/
theorem iput (k n m : Nat) (hk : k ≤ 8) (v : Int) (hv0 : 0 ≤ v) (hn : n ≤ 100) {zs ys : List Int} (hl : zs.length = n) (hm : n + k = m) (hy : zs ++ putOf k v = ys) (hb : By zs) (w : World) (g : Nat) (h : Blk w g 5 ((zs.map (Value.int .u8)).toArray)) :
    Calls Try.prog 21 #[.slice (some ⟨g, 0, none⟩) n n, .int .i64 (k : Int), .int .u64 v] w fun e w' => ∃ g', e = .returned (.slice (some ⟨g', 0, none⟩) m m) ∧ Blk w' g' 5 ((ys.map (Value.int .u8)).toArray) ∧ w.heap.size ≤ g' ∧ Below w.heap.size w w' := by
  subst hm hy
  have hr := h.reads hb.wf h.lt
  rw [hl] at hr
  refine (put_k k n hk v hv0 hn hr).mono fun e w' ⟨a, b, c⟩ => ⟨_, a, b, Nat.le_refl _, c⟩

set_option maxRecDepth 100000 in
set_option maxHeartbeats 4000000 in
theorem unch_any (m : Ms) (h : RgI m) (w : World) :
    Calls Try.prog 53 #[m.val] w fun e w' => ∃ v, e = .returned v ∧ w'.ownsRow w.heap.size 5 1 v (8 + m.d.size) ((allI m 0).map (Value.int .u8)) ∧ Below w.heap.size w w' := by
  have K0 := Lib.hid (Blk.new w 61 (mcs m))
  have L0 := Lib.hid ((Below.refl _ w).alloc (Nat.le_refl _) (.cells (mcs m) 61))
  obtain ⟨f0, f1, f2, f3, f4⟩ := K0.out.i5
  have hk : IntKind.u64.wrap m.k = m.k := by rw [IntKind.wrap_u64]; have := h.k; omega
  have hc : IntKind.u64.wrap m.c = m.c := by rw [IntKind.wrap_u64]; have := h.c; omega
  have hr : IntKind.u64.wrap m.r = m.r := by rw [IntKind.wrap_u64]; have := h.r; omega
  have H1 := Lib.hid (fun W => put_nil 1 (by decide) m.k h.k.1 W)
  have H2 := Lib.hid (fun W g => iput 1 1 2 (by decide) m.c h.c.1 (by decide) (zs := putOf 1 m.k) (putOf_len 1 _) rfl rfl (putOf_by 1 _) W g)
  have H3 := Lib.hid (fun W g => iput 2 2 4 (by decide) 0 (by decide) (by decide) (zs := putOf 1 m.k ++ putOf 1 m.c) (by simp [putOf_len]) rfl rfl ((putOf_by 1 _).app (putOf_by 1 _)) W g)
  have H4 := Lib.hid (fun W g => iput 4 4 8 (by decide) m.r h.r.1 (by decide) (zs := putOf 1 m.k ++ putOf 1 m.c ++ putOf 2 0) (by simp [putOf_len]) rfl (show _ = hdI m 0 by unfold hdI; rw [List.append_assoc (putOf 1 m.k ++ putOf 1 m.c)]) (((putOf_by 1 _).app (putOf_by 1 _)).app (putOf_by 2 _)) W g)
  have hd := h.d
  clear h
  go_enter Try.func53, Try.ntmps53
  go_wp2_with fail
  refine Calls.mono (H1.out _) ?_
  rintro e w1 ⟨rfl, hr1, hb⟩
  have L1 := Lib.hid (L0.out.trans (hb.mono L0.out.size))
  have K1 := Lib.hid (K0.out.below hb K0.out.lt)
  simp only [World.size_alloc] at hr1
  have R1 := Lib.hid hr1
  clear hb hr1 f0 f1 f2 f3 f4
  obtain ⟨f0, f1, f2, f3, f4⟩ := K1.out.i5
  go_wp2_with fail
  refine Calls.mono (H2.out _ _ R1.out) ?_
  rintro e w2 ⟨g2, rfl, hr2, hg2, hb⟩
  have L2 := Lib.hid (L1.out.trans (hb.mono L1.out.size))
  have K2 := Lib.hid (K1.out.below hb K1.out.lt)
  have R2 := Lib.hid hr2
  clear hb hr2 hg2 f0 f1 f2 f3 f4
  obtain ⟨f0, f1, f2, f3, f4⟩ := K2.out.i5
  go_wp2_with fail
  refine Calls.mono (H3.out _ _ R2.out) ?_
  rintro e w3 ⟨g3, rfl, hr3, hg3, hb⟩
  have L3 := Lib.hid (L2.out.trans (hb.mono L2.out.size))
  have K3 := Lib.hid (K2.out.below hb K2.out.lt)
  have R3 := Lib.hid hr3
  clear hb hr3 hg3 f0 f1 f2 f3 f4
  obtain ⟨f0, f1, f2, f3, f4⟩ := K3.out.i5
  go_wp2_with fail
  refine Calls.mono (H4.out _ _ R3.out) ?_
  rintro e w4 ⟨g4, rfl, hr4, hg4, hb⟩
  have L4 := Lib.hid (L3.out.trans (hb.mono L3.out.size))
  have K4 := Lib.hid (K3.out.below hb K3.out.lt)
  have S4 := Lib.hid L4.out.size
  have O4 := Lib.hid (iown_blk (R := w.heap.size) hr4 (by have := L3.out.size; omega) (hdI_len m 0) (by decide))
  have G4 : Hid (w.heap.size ≤ g4) := Lib.hid (by have := L3.out.size; omega)
  clear hb hr4 hg4 f0 f1 f2 f3 f4
  obtain ⟨f0, f1, f2, f3, f4⟩ := K4.out.i5
  go_wp2_with (at_builtin; go_loud (refine wpList_apps _ rfl (.tmp 20) (.tmp 22) rfl w.heap.size _ 8 (hdI m 0) rfl O4.out m.d rfl (by omega) S4.out ?_; intro v5 w5 hown5 hg5; obtain ⟨a5, k5, rfl⟩ := iown_form hown5; have O5 := Lib.hid hown5; have L5 := Lib.hid (L4.out.grown hg5 L4.out.size (fun k hk => own_basek O4.out k hk)); clear hown5 hg5))
  go_ret
  exact ⟨_, rfl, O5.out, L5.out⟩

theorem psI_four (a b : Ad) (n : Int) : psI false a b n = 0 := rfl
/-- What the sum of a message's bytes answers, with what is summed up beside. -/
def SumI (six : Bool) (a b : Ad) (n : Nat) (zs : List Int) : Int := fo (tot 0 zs + psI six a b n)
set_option maxHeartbeats 2000000 in
theorem isum4 (m : Ms) (a b : Ad) (B : Nat) (A : Option Addr) (n c : Nat) (zs : List Int) (hn : n ≤ 4611686018427387904) (w : World) (hz : RI .u8 w B A n zs) (hB : B ≤ w.heap.size) :
    Calls Try.prog 67 #[m.val, .slice A n c, a.val, b.val] w fun e w' => e = .returned (.int .u16 (SumI false a b n zs)) ∧ Below w.heap.size w w' := by
  have L0 := (((Below.refl _ w).alloc (Nat.le_refl _) (.cells (mcs m) 64)).alloc (by simp) (.cells (acs a) 26)).alloc (by simp; omega) (.cells (acs b) 26)
  have HS := sum_one _ B A n c zs (hz.below (L0.mono hB)) (Nat.le_trans hB L0.size) hn
  have LX := Lib.hid (L0.alloc L0.size (.cells #[.slice A n c] 39))
  simp only [World.size_alloc] at HS
  have HS' := Lib.hid HS
  clear HS L0 hz
  go_enter Try.func67, Try.ntmps67
  go_wp2_with fail
  refine Calls.mono HS'.out ?_
  rintro e w1 ⟨rfl, rfl⟩
  go_wp2
  go_ret
  exact ⟨ret_k (by unfold SumI; rw [psI_four, Int.add_zero]), LX.out⟩
set_option maxHeartbeats 2000000 in
theorem isum6 (m : Ms) (a b : Ad) (ha : WfA a) (hb : WfA b) (hs : a.s = true) (B : Nat) (A : Option Addr) (n c : Nat) (zs : List Int) (hn : n ≤ 4611686018427387904) (w : World) (hz : RI .u8 w B A n zs) (hB : B ≤ w.heap.size) :
    Calls Try.prog 58 #[m.val, .slice A n c, a.val, b.val] w fun e w' => e = .returned (.int .u16 (SumI true a b n zs)) ∧ Below w.heap.size w w' := by
  have k1 := ((Blk.new (w.alloc (.cells (mcs m) 63)) 26 (acs a)).alloc (.cells (acs b) 26)).i3
  have k2 := (Blk.new ((w.alloc (.cells (mcs m) 63)).alloc (.cells (acs a) 26)) 26 (acs b)).i3
  simp only [World.size_alloc] at k1 k2
  obtain ⟨f0, f1, f2⟩ := k1
  obtain ⟨g0, g1, g2⟩ := k2
  rw [hs] at f0
  have L0 := (((Below.refl _ w).alloc (Nat.le_refl _) (.cells (mcs m) 63)).alloc (by simp) (.cells (acs a) 26)).alloc (by simp; omega) (.cells (acs b) 26)
  have HZ := Lib.hid (fun W (hb : Below w.heap.size w W) => sum_one W B A n c zs (hz.below (hb.mono hB)) (Nat.le_trans hB hb.size) hn)
  have HL0 := Lib.hid L0
  have HP := Lib.hid (fun W => pseudo_six W a.h a.l b.h b.l n 58 b.s ha.h.1 ha.l.1 hb.h.1 hb.l.1)
  have HQ : Hid (psI true a b n = tot 0 (psd6 a.h a.l b.h b.l n 58)) := Lib.hid rfl
  obtain ⟨PS, hPS⟩ : ∃ x, tot 0 (psd6 a.h a.l b.h b.l n 58) = x := ⟨_, rfl⟩
  have hP0 : 0 ≤ PS := by rw [← hPS]; exact tot_nonneg (psd6_bys _ _ _ _ _ _) 0
  rw [hPS] at HP HQ
  have hT0 : 0 ≤ tot 0 zs := tot_nonneg hz.by_.bysI 0
  have HA := Lib.hid (fun W => add_any (fo PS) (fo (tot 0 zs)) (W16.fo hP0) (W16.fo hT0) W)
  have HF : Hid (ad (fo PS) (fo (tot 0 zs)) = SumI true a b n zs) := Lib.hid (by rw [ad_fo_fo hP0 hT0]; unfold SumI; rw [HQ.out, Int.add_comm])
  clear L0 hz hPS hP0 hT0 HQ
  go_enter Try.func58, Try.ntmps58
  go_wp2_with fail
  refine Calls.mono (HP.out _) ?_
  rintro e w1 ⟨rfl, hb1⟩
  have L1 := Lib.hid (HL0.out.trans (hb1.mono HL0.out.size))
  have HS := Lib.hid (HZ.out w1 L1.out)
  clear hb1 f0 f1 f2 g0 g1 g2
  go_wp2_with fail
  refine Calls.mono HS.out ?_
  rintro e w2 ⟨rfl, rfl⟩
  go_wp2_with fail
  refine Calls.mono (HA.out _) ?_
  rintro e w3 ⟨rfl, rfl⟩
  go_wp2
  go_ret
  exact ⟨ret_k HF.out, L1.out.alloc L1.out.size _⟩
end Go.Proofs.Ytljdebpemdjliaa
