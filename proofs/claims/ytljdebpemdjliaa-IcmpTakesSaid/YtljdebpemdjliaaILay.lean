/-
  icmp.Lay of any message between any two.
-/
import Derived.Test.YtljdebpemdjliaaIPr
import Derived.Test.YtljdebpemdjliaaFConv
import Derived.Deep.RegionHeld3
namespace Go.Proofs.Ytljdebpemdjliaa
open Go.RowKit
set_option linter.unusedVariables false

set_option maxRecDepth 100000 in
theorem slice_two (w : World) (g n c : Nat) (hn : 4 ≤ n) (hc : n ≤ c) :
    (Instr.slice 39 (.slice (some ⟨g, 0, none⟩) n c) (some (.int .i64 2)) none none).run Try.prog w = .ok (.slice (some ⟨g, 2, none⟩) (n - 2) (c - 2)) w := by
  have h := run_slice_l (P := Try.prog) (w := w) 39 (some ⟨g, 0, none⟩) n c Try.underlying39 .i64 (2 : Int) (by omega) (by omega)
  rw [h]
  have e : ¬ c = 2 := by omega
  simp [sliced, go_sem, e, Addr.add]
/-- The bytes with a check in its place. -/
theorem splice_I (m : Ms) (x : Int) : splice (allI m 0) 2 (putOf 2 x) = allI m x := by
  unfold splice allI hdI
  have h1 : (putOf 1 m.k ++ putOf 1 m.c).length = 2 := by simp [putOf_len]
  have e : ∀ y : Int, (putOf 1 m.k ++ putOf 1 m.c) ++ (putOf 2 y ++ putOf 4 m.r) ++ byt m.d = (putOf 1 m.k ++ putOf 1 m.c) ++ (putOf 2 y ++ (putOf 4 m.r ++ byt m.d)) := fun y => by simp only [List.append_assoc]
  rw [e, e, putOf_len, List.take_left' h1, ← List.append_assoc (putOf 1 m.k ++ putOf 1 m.c) (putOf 2 0), List.drop_left' (by rw [List.length_append, h1, putOf_len])]
/-- What Lay answers between two. -/
def lyIR (m : Ms) (a b : Ad) : ByteArray × Int := lyI m (a.s && b.s) (psI m.s a b ((8 + m.d.size : Nat) : Int))
def lyIV (m : Ms) (a b : Ad) : Value := .tuple #[.string (lyIR m a b).1, .int .i64 (lyIR m a b).2]
theorem lyI_no {m : Ms} {a b : Ad} (h : rgIB m = false) : lyIR m a b = (⟨#[]⟩, 70) := by unfold lyIR lyI; rw [if_pos (Or.inl h)]
theorem lyI_far {m : Ms} {a b : Ad} (hs : m.s = true) (h : (a.s && b.s) = false) : lyIR m a b = (⟨#[]⟩, 70) := by unfold lyIR lyI; rw [if_pos (Or.inr ⟨hs, h⟩)]
theorem lyI_yes {m : Ms} {a b : Ad} (h : rgIB m = true) (ho : m.s = true → (a.s && b.s) = true) : lyIR m a b = (strOfNums (allI m (chI m (psI m.s a b ((8 + m.d.size : Nat) : Int)))), 0) := by
  unfold lyIR lyI
  rw [if_neg]
  rintro (h1 | ⟨h1, h2⟩)
  · rw [h] at h1; cases h1
  · rw [ho h1] at h2; cases h2
theorem chI_sum (m : Ms) (a b : Ad) : chI m (psI m.s a b ((8 + m.d.size : Nat) : Int)) = 65535 - SumI m.s a b (8 + m.d.size) (allI m 0) := rfl
/-- The three variables that Lay's arguments come to stand in. -/
theorem i_args (m : Ms) (a b : Ad) (w : World) : ∃ W0, W0 = ((w.alloc (.cells (mcs m) 23)).alloc (.cells (acs a) 26)).alloc (.cells (acs b) 26) ∧ Blk W0 w.heap.size 23 (mcs m) ∧ Blk W0 (w.heap.size + 1) 26 (acs a) ∧ Blk W0 (w.heap.size + 2) 26 (acs b) ∧ Below w.heap.size w W0 ∧ W0.heap.size = w.heap.size + 3 := by
  refine ⟨_, rfl, ((Blk.new w _ _).alloc _).alloc _, ?_, ?_, (((Below.refl _ w).alloc (Nat.le_refl _) _).alloc (by simp) _).alloc (by simp; omega) _, by simp⟩
  · have := (Blk.new (w.alloc (.cells (mcs m) 23)) 26 (acs a)).alloc (.cells (acs b) 26)
    simpa using this
  · have := Blk.new ((w.alloc (.cells (mcs m) 23)).alloc (.cells (acs a) 26)) 26 (acs b)
    simpa using this

set_option maxRecDepth 100000 in
set_option maxHeartbeats 4000000 in
theorem ilay_no6 (m : Ms) (a b : Ad) (hs : m.s = true) (hr : rgIB m = false) (w : World) :
    Calls Try.prog 11 #[m.val, a.val, b.val] w fun e w' => e = .returned (lyIV m a b) ∧ Below w.heap.size w w' := by
  have H1 := Lib.hid (fun W => fam6 m hs W)
  have H2 := Lib.hid (fun W => isv_at m W)
  rw [hr] at H2
  have HX := Lib.hid (lyI_no (a := a) (b := b) hr)
  clear hs hr
  obtain ⟨W0, hW0, km, ka, kb, hL0, hsz⟩ := i_args m a b w
  have KM := Lib.hid km
  have KA := Lib.hid ka
  have KB := Lib.hid kb
  have L0 := Lib.hid hL0
  obtain ⟨f0, f1, f2, f3, f4⟩ := KM.out.i5
  clear km ka kb hL0
  go_enter Try.func11, Try.ntmps11
  go_wp2_with fail
  rw [← hW0]
  refine Calls.mono (H1.out _) ?_
  rintro e w1 ⟨rfl, hb⟩
  have KA1 := Lib.hid (KA.out.below hb KA.out.lt)
  have KB1 := Lib.hid (KB.out.below hb KB.out.lt)
  have L1 := Lib.hid (L0.out.trans (hb.mono L0.out.size))
  clear hb f0 f1 f2 f3 f4 KM KA KB
  go_wp2_with fail
  refine Calls.mono (H2.out _) ?_
  rintro e w2 ⟨rfl, hb⟩
  have KA2 := Lib.hid (KA1.out.below hb KA1.out.lt)
  have KB2 := Lib.hid (KB1.out.below hb KB1.out.lt)
  have L2 := Lib.hid (L1.out.trans (hb.mono L1.out.size))
  clear hb KA1 KB1
  go_wp2
  go_ret2
  exact ⟨by unfold lyIV; rw [HX.out]; rfl, L2.out⟩

set_option maxRecDepth 100000 in
set_option maxHeartbeats 4000000 in
theorem ilay_no4 (m : Ms) (a b : Ad) (hs : m.s = false) (hr : rgIB m = false) (w : World) :
    Calls Try.prog 11 #[m.val, a.val, b.val] w fun e w' => e = .returned (lyIV m a b) ∧ Below w.heap.size w w' := by
  have H1 := Lib.hid (fun W => fam4 m hs W)
  have H2 := Lib.hid (fun W => isv_at m W)
  rw [hr] at H2
  have HX := Lib.hid (lyI_no (a := a) (b := b) hr)
  clear hs hr
  obtain ⟨W0, hW0, km, ka, kb, hL0, hsz⟩ := i_args m a b w
  have KM := Lib.hid km
  have KA := Lib.hid ka
  have KB := Lib.hid kb
  have L0 := Lib.hid hL0
  obtain ⟨f0, f1, f2, f3, f4⟩ := KM.out.i5
  clear km ka kb hL0
  go_enter Try.func11, Try.ntmps11
  go_wp2_with fail
  rw [← hW0]
  refine Calls.mono (H1.out _) ?_
  rintro e w1 ⟨rfl, hb⟩
  have KA1 := Lib.hid (KA.out.below hb KA.out.lt)
  have KB1 := Lib.hid (KB.out.below hb KB.out.lt)
  have L1 := Lib.hid (L0.out.trans (hb.mono L0.out.size))
  clear hb f0 f1 f2 f3 f4 KM KA KB
  go_wp2_with fail
  refine Calls.mono (H2.out _) ?_
  rintro e w2 ⟨rfl, hb⟩
  have KA2 := Lib.hid (KA1.out.below hb KA1.out.lt)
  have KB2 := Lib.hid (KB1.out.below hb KB1.out.lt)
  have L2 := Lib.hid (L1.out.trans (hb.mono L1.out.size))
  clear hb KA1 KB1
  go_wp2
  go_ret2
  exact ⟨by unfold lyIV; rw [HX.out]; rfl, L2.out⟩

set_option maxRecDepth 100000 in
set_option maxHeartbeats 4000000 in
theorem ilay_far (m : Ms) (a b : Ad) (hs : m.s = true) (hr : rgIB m = true) (hf : (a.s && b.s) = false) (w : World) :
    Calls Try.prog 11 #[m.val, a.val, b.val] w fun e w' => e = .returned (lyIV m a b) ∧ Below w.heap.size w w' := by
  have H1 := Lib.hid (fun W => fam6 m hs W)
  have H2 := Lib.hid (fun W => isv_at m W)
  rw [hr] at H2
  have H3 := Lib.hid (fun W => may6 m a b W)
  rw [hf] at H3
  have HX := Lib.hid (lyI_far hs hf)
  clear hs hr hf
  obtain ⟨W0, hW0, km, ka, kb, hL0, hsz⟩ := i_args m a b w
  have KM := Lib.hid km
  have KA := Lib.hid ka
  have KB := Lib.hid kb
  have L0 := Lib.hid hL0
  obtain ⟨f0, f1, f2, f3, f4⟩ := KM.out.i5
  clear km ka kb hL0
  go_enter Try.func11, Try.ntmps11
  go_wp2_with fail
  rw [← hW0]
  refine Calls.mono (H1.out _) ?_
  rintro e w1 ⟨rfl, hb⟩
  have KA1 := Lib.hid (KA.out.below hb KA.out.lt)
  have KB1 := Lib.hid (KB.out.below hb KB.out.lt)
  have L1 := Lib.hid (L0.out.trans (hb.mono L0.out.size))
  clear hb f0 f1 f2 f3 f4 KM KA KB
  go_wp2_with fail
  refine Calls.mono (H2.out _) ?_
  rintro e w2 ⟨rfl, hb⟩
  have KA2 := Lib.hid (KA1.out.below hb KA1.out.lt)
  have KB2 := Lib.hid (KB1.out.below hb KB1.out.lt)
  have L2 := Lib.hid (L1.out.trans (hb.mono L1.out.size))
  clear hb KA1 KB1
  obtain ⟨f0, f1, f2⟩ := KA2.out.i3
  obtain ⟨g0, g1, g2⟩ := KB2.out.i3
  go_wp2_with fail
  refine Calls.mono (H3.out _) ?_
  rintro e w3 ⟨rfl, hb⟩
  have KA3 := Lib.hid (KA2.out.below hb KA2.out.lt)
  have KB3 := Lib.hid (KB2.out.below hb KB2.out.lt)
  have L3 := Lib.hid (L2.out.trans (hb.mono L2.out.size))
  clear hb f0 f1 f2 g0 g1 g2 KA2 KB2
  go_wp2
  go_ret2
  exact ⟨by unfold lyIV; rw [HX.out]; rfl, L3.out⟩

set_option maxRecDepth 100000 in
set_option maxHeartbeats 8000000 in
theorem ilay_yes4 (m : Ms) (a b : Ad) (hs : m.s = false) (hr : rgIB m = true) (w : World) :
    Calls Try.prog 11 #[m.val, a.val, b.val] w fun e w' => e = .returned (lyIV m a b) ∧ Below w.heap.size w w' := by
  have H1 := Lib.hid (fun W => fam4 m hs W)
  have H2 := Lib.hid (fun W => isv_at m W)
  rw [hr] at H2
  have H3 := Lib.hid (fun W => may4 m a b W)
  have H4 := Lib.hid (fun W => unch_any m (rgI_iff.1 hr) W)
  have hdl : 8 + m.d.size ≤ 65008 := by have := (rgI_iff.1 hr).d; omega
  have H5 := Lib.hid (fun A c V W (hz : RI .u8 V V.heap.size A (8 + m.d.size) (allI m 0)) (hB : Below V.heap.size V W) => isum4 m a b V.heap.size A (8 + m.d.size) c (allI m 0) (by omega) W (hz.below hB) hB.size)
  have HX0 := lyI_yes (a := a) (b := b) hr (fun h => by rw [hs] at h; cases h)
  rw [chI_sum, hs] at HX0
  have hck := chI_bd m (psI_nn m.s a b ((8 + m.d.size : Nat) : Int))
  rw [chI_sum, hs] at hck
  obtain ⟨SV, hSV⟩ : ∃ x, SumI false a b (8 + m.d.size) (allI m 0) = x := ⟨_, rfl⟩
  rw [hSV] at H5 HX0 hck
  obtain ⟨CK, hCK⟩ : ∃ x, 65535 - SV = x := ⟨_, rfl⟩
  rw [hCK] at HX0 hck
  have HX := Lib.hid HX0
  have H6 := Lib.hid (fun W => put_nil 2 (by decide) CK hck.1 W)
  obtain ⟨hk0, hk1⟩ := hck
  have hu : IntKind.u16.wrap (65535 - SV) = CK := by rw [hCK, IntKind.wrap_u16]; omega
  have hwk : IntKind.u64.wrap CK = CK := by rw [IntKind.wrap_u64]; omega
  clear hs hr HX0 hSV hCK
  obtain ⟨W0, hW0, km, ka, kb, hL0, hsz⟩ := i_args m a b w
  have KM := Lib.hid km
  have KA := Lib.hid ka
  have KB := Lib.hid kb
  have L0 := Lib.hid hL0
  obtain ⟨f0, f1, f2, f3, f4⟩ := KM.out.i5
  clear km ka kb hL0
  go_enter Try.func11, Try.ntmps11
  go_wp2_with fail
  rw [← hW0]
  refine Calls.mono (H1.out _) ?_
  rintro e w1 ⟨rfl, hb⟩
  have KA1 := Lib.hid (KA.out.below hb KA.out.lt)
  have KB1 := Lib.hid (KB.out.below hb KB.out.lt)
  have L1 := Lib.hid (L0.out.trans (hb.mono L0.out.size))
  clear hb f0 f1 f2 f3 f4 KM KA KB
  go_wp2_with fail
  refine Calls.mono (H2.out _) ?_
  rintro e w2 ⟨rfl, hb⟩
  have KA2 := Lib.hid (KA1.out.below hb KA1.out.lt)
  have KB2 := Lib.hid (KB1.out.below hb KB1.out.lt)
  have L2 := Lib.hid (L1.out.trans (hb.mono L1.out.size))
  clear hb KA1 KB1
  obtain ⟨f0, f1, f2⟩ := KA2.out.i3
  obtain ⟨g0, g1, g2⟩ := KB2.out.i3
  go_wp2_with fail
  refine Calls.mono (H3.out _) ?_
  rintro e w3 ⟨rfl, hb⟩
  have KA3 := Lib.hid (KA2.out.below hb KA2.out.lt)
  have KB3 := Lib.hid (KB2.out.below hb KB2.out.lt)
  have L3 := Lib.hid (L2.out.trans (hb.mono L2.out.size))
  clear hb f0 f1 f2 g0 g1 g2 KA2 KB2
  go_wp2_with fail
  refine Calls.mono (H4.out _) ?_
  rintro e V ⟨v, rfl, hown, hb⟩
  have KA4 := Lib.hid (KA3.out.below hb KA3.out.lt)
  have KB4 := Lib.hid (KB3.out.below hb KB3.out.lt)
  have L4 := Lib.hid (L3.out.trans (hb.mono L3.out.size))
  have HVO := Lib.hid hown
  have HBs : Hid (w.heap.size + 3 ≤ w3.heap.size) := Lib.hid (by have := KB3.out.lt; omega)
  clear hb KA3 KB3
  obtain ⟨A, c, rfl, VR, -, hA, hc, -⟩ := own_ri (allI_by m 0).wf hown
  obtain ⟨g, o, rfl, hgB, -⟩ := VR.2.1 (by omega)
  have ho : o = 0 := by
    rcases hown.2 with ⟨h1, _⟩ | ⟨g', cap, cur, h1, _⟩
    · cases h1
    · injection h1 with h1 _ _; injection h1 with h1; injection h1
  subst ho
  have hg3 : w3.heap.size ≤ g := hA _ rfl
  have hgn : w.heap.size + 3 ≤ g := Nat.le_trans HBs.out hg3
  have HVR := Lib.hid VR
  obtain ⟨N, hN⟩ : ∃ N, 8 + m.d.size = N := ⟨_, rfl⟩
  have HNN := Lib.hid hN
  rw [hN] at hdl hc HVO HVR H5
  have hN8 : 8 ≤ N := by omega
  have hsl := fun W => slice_two W g N c (by omega) hc
  have HKp : Hid (∀ W', Below V.heap.size V W' → W'.cell? ⟨w.heap.size + 1, 0, none⟩ = some (.bool a.s) ∧ W'.cell? ⟨w.heap.size + 1, 1, none⟩ = some (.int .u64 a.h) ∧ W'.cell? ⟨w.heap.size + 1, 2, none⟩ = some (.int .u64 a.l) ∧ W'.cell? ⟨w.heap.size + 2, 0, none⟩ = some (.bool b.s) ∧ W'.cell? ⟨w.heap.size + 2, 1, none⟩ = some (.int .u64 b.h) ∧ W'.cell? ⟨w.heap.size + 2, 2, none⟩ = some (.int .u64 b.l)) := Lib.hid fun W' hb => by
    obtain ⟨f0, f1, f2⟩ := (KA4.out.below hb KA4.out.lt).i3
    obtain ⟨g0, g1, g2⟩ := (KB4.out.below hb KB4.out.lt).i3
    exact ⟨f0, f1, f2, g0, g1, g2⟩
  have HKo : Hid (∀ W', Below V.heap.size V W' → ∀ w4 : World, (∀ k, k ≠ g → w4.heap[k]? = W'.heap[k]?) → w4.cell? ⟨w.heap.size + 1, 0, none⟩ = some (.bool a.s) ∧ w4.cell? ⟨w.heap.size + 1, 1, none⟩ = some (.int .u64 a.h) ∧ w4.cell? ⟨w.heap.size + 1, 2, none⟩ = some (.int .u64 a.l) ∧ w4.cell? ⟨w.heap.size + 2, 0, none⟩ = some (.bool b.s) ∧ w4.cell? ⟨w.heap.size + 2, 1, none⟩ = some (.int .u64 b.h) ∧ w4.cell? ⟨w.heap.size + 2, 2, none⟩ = some (.int .u64 b.l)) := Lib.hid fun W' hb w4 ho => by
    obtain ⟨f0, f1, f2⟩ := (show Blk w4 (w.heap.size + 1) 26 (acs a) from (ho _ (by omega)).trans (KA4.out.below hb KA4.out.lt)).i3
    obtain ⟨g0, g1, g2⟩ := (show Blk w4 (w.heap.size + 2) 26 (acs b) from (ho _ (by omega)).trans (KB4.out.below hb KB4.out.lt)).i3
    exact ⟨f0, f1, f2, g0, g1, g2⟩
  have hgV : g < V.heap.size := hgB
  have hR : Below V.heap.size V V.drew := (Below.refl _ _).drew
  rw [hN]
  clear VR hown hN hA hW0 hsz
  go_wp2_with fail
  go_region_held3 (fun w' => w'.cell? ⟨w.heap.size + 1, 0, none⟩ = some (.bool a.s) ∧ w'.cell? ⟨w.heap.size + 1, 1, none⟩ = some (.int .u64 a.h) ∧ w'.cell? ⟨w.heap.size + 1, 2, none⟩ = some (.int .u64 a.l) ∧ w'.cell? ⟨w.heap.size + 2, 0, none⟩ = some (.bool b.s) ∧ w'.cell? ⟨w.heap.size + 2, 1, none⟩ = some (.int .u64 b.h) ∧ w'.cell? ⟨w.heap.size + 2, 2, none⟩ = some (.int .u64 b.l)) (first | exact HKp.out _ hR | exact HKp.out _ hR1 | exact HKp.out _ hR2 | exact HKo.out _ hR2 _ hoth) (first
    | (go_invoke; go_at_call 67; (with_reducible refine Calls.mono (H5.out _ _ V _ HVR.out hR) ?_); rintro e W1 ⟨rfl, hb⟩; have hR1 := hR.trans (hb.mono hR.size); clear hb)
    | (go_at_call 67; (with_reducible refine Calls.mono (H5.out _ _ V _ HVR.out hR) ?_); rintro e W1 ⟨rfl, hb⟩; have hR1 := hR.trans (hb.mono hR.size); clear hb)
    | (go_at_call 21; (with_reducible refine Calls.mono (H6.out _) ?_); rintro e W2 ⟨rfl, hr, hb⟩; have HRr := Lib.hid hr; have hR2 := hR1.trans (hb.mono hR1.size); clear hr hb)
    | (refine step_copy_own (o := ⟨some 34, _, _, _, _, _⟩) (by rfl) (.tmp 25) (.tmp 33) (by rfl) N (N - 2) (c - 2) 2 2 g 2 W1.heap.size w3.heap.size (.slice (some ⟨g, 0, none⟩) N c) (allI m 0) (putOf 2 CK) (by rfl) (by rfl) (putOf_len 2 CK) (by rfl) (iown_below HVO.out hR2) (by simpa using HRr.out) (by omega) (by omega) ?_; intro w4 HO4 hb4 hoth))
  have HF : Hid ((convert 39 9 (.slice (some ⟨g, 0, none⟩) N c)).run Try.prog w4 = .ok (.string (strOfNums (allI m CK))) w4 ∧ Below w.heap.size w w4) := Lib.hid (by
    have h1 := HO4.out
    rw [splice_I] at h1
    obtain ⟨A2, c2, he, hr, -⟩ := own_ri (allI_by m CK).wf h1
    injection he with he1 he2 he3
    subst he1 he3
    exact ⟨conv_str hr, (L4.out.trans (hR2.mono L4.out.size)).trans (hb4.mono (by omega))⟩)
  have hcv := HF.out.1
  clear HO4 hb4 hoth hR hR1 hR2 HRr
  go_wp2
  go_ret2
  exact ⟨by unfold lyIV; rw [HX.out]; rfl, HF.out.2⟩

set_option maxRecDepth 100000 in
set_option maxHeartbeats 8000000 in
theorem ilay_yes6 (m : Ms) (a b : Ad) (ha : WfA a) (hb : WfA b) (hs : m.s = true) (hr : rgIB m = true) (hab : (a.s && b.s) = true) (w : World) :
    Calls Try.prog 11 #[m.val, a.val, b.val] w fun e w' => e = .returned (lyIV m a b) ∧ Below w.heap.size w w' := by
  have H1 := Lib.hid (fun W => fam6 m hs W)
  have H2 := Lib.hid (fun W => isv_at m W)
  rw [hr] at H2
  have H3 := Lib.hid (fun W => may6 m a b W)
  rw [hab] at H3
  have H4 := Lib.hid (fun W => unch_any m (rgI_iff.1 hr) W)
  have hsa : a.s = true := by revert hab; cases a.s <;> simp
  have hdl : 8 + m.d.size ≤ 65008 := by have := (rgI_iff.1 hr).d; omega
  have H5 := Lib.hid (fun A c V W (hz : RI .u8 V V.heap.size A (8 + m.d.size) (allI m 0)) (hB : Below V.heap.size V W) => isum6 m a b ha hb hsa V.heap.size A (8 + m.d.size) c (allI m 0) (by omega) W (hz.below hB) hB.size)
  have HX0 := lyI_yes hr (fun _ => hab)
  rw [chI_sum, hs] at HX0
  have hck := chI_bd m (psI_nn m.s a b ((8 + m.d.size : Nat) : Int))
  rw [chI_sum, hs] at hck
  obtain ⟨SV, hSV⟩ : ∃ x, SumI true a b (8 + m.d.size) (allI m 0) = x := ⟨_, rfl⟩
  rw [hSV] at H5 HX0 hck
  obtain ⟨CK, hCK⟩ : ∃ x, 65535 - SV = x := ⟨_, rfl⟩
  rw [hCK] at HX0 hck
  have HX := Lib.hid HX0
  have H6 := Lib.hid (fun W => put_nil 2 (by decide) CK hck.1 W)
  obtain ⟨hk0, hk1⟩ := hck
  have hu : IntKind.u16.wrap (65535 - SV) = CK := by rw [hCK, IntKind.wrap_u16]; omega
  have hwk : IntKind.u64.wrap CK = CK := by rw [IntKind.wrap_u64]; omega
  clear hs hr hab hsa ha hb HX0 hSV hCK
  obtain ⟨W0, hW0, km, ka, kb, hL0, hsz⟩ := i_args m a b w
  have KM := Lib.hid km
  have KA := Lib.hid ka
  have KB := Lib.hid kb
  have L0 := Lib.hid hL0
  obtain ⟨f0, f1, f2, f3, f4⟩ := KM.out.i5
  clear km ka kb hL0
  go_enter Try.func11, Try.ntmps11
  go_wp2_with fail
  rw [← hW0]
  refine Calls.mono (H1.out _) ?_
  rintro e w1 ⟨rfl, hb⟩
  have KA1 := Lib.hid (KA.out.below hb KA.out.lt)
  have KB1 := Lib.hid (KB.out.below hb KB.out.lt)
  have L1 := Lib.hid (L0.out.trans (hb.mono L0.out.size))
  clear hb f0 f1 f2 f3 f4 KM KA KB
  go_wp2_with fail
  refine Calls.mono (H2.out _) ?_
  rintro e w2 ⟨rfl, hb⟩
  have KA2 := Lib.hid (KA1.out.below hb KA1.out.lt)
  have KB2 := Lib.hid (KB1.out.below hb KB1.out.lt)
  have L2 := Lib.hid (L1.out.trans (hb.mono L1.out.size))
  clear hb KA1 KB1
  obtain ⟨f0, f1, f2⟩ := KA2.out.i3
  obtain ⟨g0, g1, g2⟩ := KB2.out.i3
  go_wp2_with fail
  refine Calls.mono (H3.out _) ?_
  rintro e w3 ⟨rfl, hb⟩
  have KA3 := Lib.hid (KA2.out.below hb KA2.out.lt)
  have KB3 := Lib.hid (KB2.out.below hb KB2.out.lt)
  have L3 := Lib.hid (L2.out.trans (hb.mono L2.out.size))
  clear hb f0 f1 f2 g0 g1 g2 KA2 KB2
  go_wp2_with fail
  refine Calls.mono (H4.out _) ?_
  rintro e V ⟨v, rfl, hown, hb⟩
  have KA4 := Lib.hid (KA3.out.below hb KA3.out.lt)
  have KB4 := Lib.hid (KB3.out.below hb KB3.out.lt)
  have L4 := Lib.hid (L3.out.trans (hb.mono L3.out.size))
  have HVO := Lib.hid hown
  have HBs : Hid (w.heap.size + 3 ≤ w3.heap.size) := Lib.hid (by have := KB3.out.lt; omega)
  clear hb KA3 KB3
  obtain ⟨A, c, rfl, VR, -, hA, hc, -⟩ := own_ri (allI_by m 0).wf hown
  obtain ⟨g, o, rfl, hgB, -⟩ := VR.2.1 (by omega)
  have ho : o = 0 := by
    rcases hown.2 with ⟨h1, _⟩ | ⟨g', cap, cur, h1, _⟩
    · cases h1
    · injection h1 with h1 _ _; injection h1 with h1; injection h1
  subst ho
  have hg3 : w3.heap.size ≤ g := hA _ rfl
  have hgn : w.heap.size + 3 ≤ g := Nat.le_trans HBs.out hg3
  have HVR := Lib.hid VR
  obtain ⟨N, hN⟩ : ∃ N, 8 + m.d.size = N := ⟨_, rfl⟩
  have HNN := Lib.hid hN
  rw [hN] at hdl hc HVO HVR H5
  have hN8 : 8 ≤ N := by omega
  have hsl := fun W => slice_two W g N c (by omega) hc
  have HKp : Hid (∀ W', Below V.heap.size V W' → W'.cell? ⟨w.heap.size + 1, 0, none⟩ = some (.bool a.s) ∧ W'.cell? ⟨w.heap.size + 1, 1, none⟩ = some (.int .u64 a.h) ∧ W'.cell? ⟨w.heap.size + 1, 2, none⟩ = some (.int .u64 a.l) ∧ W'.cell? ⟨w.heap.size + 2, 0, none⟩ = some (.bool b.s) ∧ W'.cell? ⟨w.heap.size + 2, 1, none⟩ = some (.int .u64 b.h) ∧ W'.cell? ⟨w.heap.size + 2, 2, none⟩ = some (.int .u64 b.l)) := Lib.hid fun W' hb => by
    obtain ⟨f0, f1, f2⟩ := (KA4.out.below hb KA4.out.lt).i3
    obtain ⟨g0, g1, g2⟩ := (KB4.out.below hb KB4.out.lt).i3
    exact ⟨f0, f1, f2, g0, g1, g2⟩
  have HKo : Hid (∀ W', Below V.heap.size V W' → ∀ w4 : World, (∀ k, k ≠ g → w4.heap[k]? = W'.heap[k]?) → w4.cell? ⟨w.heap.size + 1, 0, none⟩ = some (.bool a.s) ∧ w4.cell? ⟨w.heap.size + 1, 1, none⟩ = some (.int .u64 a.h) ∧ w4.cell? ⟨w.heap.size + 1, 2, none⟩ = some (.int .u64 a.l) ∧ w4.cell? ⟨w.heap.size + 2, 0, none⟩ = some (.bool b.s) ∧ w4.cell? ⟨w.heap.size + 2, 1, none⟩ = some (.int .u64 b.h) ∧ w4.cell? ⟨w.heap.size + 2, 2, none⟩ = some (.int .u64 b.l)) := Lib.hid fun W' hb w4 ho => by
    obtain ⟨f0, f1, f2⟩ := (show Blk w4 (w.heap.size + 1) 26 (acs a) from (ho _ (by omega)).trans (KA4.out.below hb KA4.out.lt)).i3
    obtain ⟨g0, g1, g2⟩ := (show Blk w4 (w.heap.size + 2) 26 (acs b) from (ho _ (by omega)).trans (KB4.out.below hb KB4.out.lt)).i3
    exact ⟨f0, f1, f2, g0, g1, g2⟩
  have hgV : g < V.heap.size := hgB
  have hR : Below V.heap.size V V.drew := (Below.refl _ _).drew
  rw [hN]
  clear VR hown hN hA hW0 hsz
  go_wp2_with fail
  go_region_held3 (fun w' => w'.cell? ⟨w.heap.size + 1, 0, none⟩ = some (.bool a.s) ∧ w'.cell? ⟨w.heap.size + 1, 1, none⟩ = some (.int .u64 a.h) ∧ w'.cell? ⟨w.heap.size + 1, 2, none⟩ = some (.int .u64 a.l) ∧ w'.cell? ⟨w.heap.size + 2, 0, none⟩ = some (.bool b.s) ∧ w'.cell? ⟨w.heap.size + 2, 1, none⟩ = some (.int .u64 b.h) ∧ w'.cell? ⟨w.heap.size + 2, 2, none⟩ = some (.int .u64 b.l)) (first | exact HKp.out _ hR | exact HKp.out _ hR1 | exact HKp.out _ hR2 | exact HKo.out _ hR2 _ hoth) (first
    | (go_invoke; go_at_call 58; (with_reducible refine Calls.mono (H5.out _ _ V _ HVR.out hR) ?_); rintro e W1 ⟨rfl, hb⟩; have hR1 := hR.trans (hb.mono hR.size); clear hb)
    | (go_at_call 58; (with_reducible refine Calls.mono (H5.out _ _ V _ HVR.out hR) ?_); rintro e W1 ⟨rfl, hb⟩; have hR1 := hR.trans (hb.mono hR.size); clear hb)
    | (go_at_call 21; (with_reducible refine Calls.mono (H6.out _) ?_); rintro e W2 ⟨rfl, hr, hb⟩; have HRr := Lib.hid hr; have hR2 := hR1.trans (hb.mono hR1.size); clear hr hb)
    | (refine step_copy_own (o := ⟨some 34, _, _, _, _, _⟩) (by rfl) (.tmp 25) (.tmp 33) (by rfl) N (N - 2) (c - 2) 2 2 g 2 W1.heap.size w3.heap.size (.slice (some ⟨g, 0, none⟩) N c) (allI m 0) (putOf 2 CK) (by rfl) (by rfl) (putOf_len 2 CK) (by rfl) (iown_below HVO.out hR2) (by simpa using HRr.out) (by omega) (by omega) ?_; intro w4 HO4 hb4 hoth))
  have HF : Hid ((convert 39 9 (.slice (some ⟨g, 0, none⟩) N c)).run Try.prog w4 = .ok (.string (strOfNums (allI m CK))) w4 ∧ Below w.heap.size w w4) := Lib.hid (by
    have h1 := HO4.out
    rw [splice_I] at h1
    obtain ⟨A2, c2, he, hr, -⟩ := own_ri (allI_by m CK).wf h1
    injection he with he1 he2 he3
    subst he1 he3
    exact ⟨conv_str hr, (L4.out.trans (hR2.mono L4.out.size)).trans (hb4.mono (by omega))⟩)
  have hcv := HF.out.1
  clear HO4 hb4 hoth hR hR1 hR2 HRr
  go_wp2
  go_ret2
  exact ⟨by unfold lyIV; rw [HX.out]; rfl, HF.out.2⟩

theorem ilay_any (m : Ms) (a b : Ad) (ha : WfA a) (hb : WfA b) (w : World) :
    Calls Try.prog 11 #[m.val, a.val, b.val] w fun e w' => e = .returned (lyIV m a b) ∧ Below w.heap.size w w' := by
  rcases Bool.eq_false_or_eq_true m.s with hs | hs
  · rcases Bool.eq_false_or_eq_true (rgIB m) with hr | hr
    · rcases Bool.eq_false_or_eq_true (a.s && b.s) with hf | hf
      · exact ilay_yes6 m a b ha hb hs hr hf w
      · exact ilay_far m a b hs hr hf w
    · exact ilay_no6 m a b hs hr w
  · rcases Bool.eq_false_or_eq_true (rgIB m) with hr | hr
    · exact ilay_yes4 m a b hs hr w
    · exact ilay_no4 m a b hs hr w
end Go.Proofs.Ytljdebpemdjliaa
