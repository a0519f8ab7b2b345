/-
  The document's own Lay of any message between any two.
-/
import Derived.Test.YtljdebpemdjliaaILay
import Derived.Test.YtljdebpemdjliaaIRf
import Derived.Deep.RegionHeld3
namespace Go.Proofs.Ytljdebpemdjliaa
open Go.RowKit
set_option linter.unusedVariables false

set_option maxRecDepth 100000 in
set_option maxHeartbeats 8000000 in
theorem rlay_no6 (k c r : Int) (d : ByteArray) (a b : Ad) (hr : rgIB ⟨true, k, c, r, d⟩ = false) (w : World) :
    Calls Try.prog 12 #[Ms.val ⟨true, k, c, r, d⟩, Ad.val a, Ad.val b] w fun e w' => e = .returned (lyIV ⟨true, k, c, r, d⟩ a b) ∧ Below w.heap.size w w' := by
  have H1 := Lib.hid (fun W => rright_any ⟨true, k, c, r, d⟩ W)
  rw [hr] at H1
  have HX := Lib.hid (lyI_no (a := a) (b := b) hr)
  clear hr
  obtain ⟨W0, hW0, km, ka, kb, hL0, hsz⟩ := i_args ⟨true, k, c, r, d⟩ a b w
  have KM := Lib.hid km
  have KA := Lib.hid ka
  have KB := Lib.hid kb
  have L0 := Lib.hid hL0
  obtain ⟨f0, f1, f2, f3, f4⟩ := KM.out.i5
  clear km ka kb hL0 hsz
  go_enter Try.func12, Try.ntmps12
  go_wp2_with fail
  rw [← hW0]
  refine Calls.mono (H1.out _) ?_
  rintro e V ⟨rfl, hb⟩
  have KM1 := Lib.hid (KM.out.below hb KM.out.lt)
  have KA1 := Lib.hid (KA.out.below hb KA.out.lt)
  have KB1 := Lib.hid (KB.out.below hb KB.out.lt)
  have L1 := Lib.hid (L0.out.trans (hb.mono L0.out.size))
  clear hb f0 f1 f2 f3 f4 KM KA KB L0 hW0
  obtain ⟨f0, f1, f2, f3, f4⟩ := KM1.out.i5
  obtain ⟨g0, g1, g2⟩ := KA1.out.i3
  obtain ⟨h0, h1, h2⟩ := KB1.out.i3
  go_wp2
  go_ret2
  exact ⟨by unfold lyIV; rw [HX.out]; rfl, L1.out⟩

set_option maxRecDepth 100000 in
set_option maxHeartbeats 8000000 in
theorem rlay_no4 (k c r : Int) (d : ByteArray) (a b : Ad) (hr : rgIB ⟨false, k, c, r, d⟩ = false) (w : World) :
    Calls Try.prog 12 #[Ms.val ⟨false, k, c, r, d⟩, Ad.val a, Ad.val b] w fun e w' => e = .returned (lyIV ⟨false, k, c, r, d⟩ a b) ∧ Below w.heap.size w w' := by
  have H1 := Lib.hid (fun W => rright_any ⟨false, k, c, r, d⟩ W)
  rw [hr] at H1
  have HX := Lib.hid (lyI_no (a := a) (b := b) hr)
  clear hr
  obtain ⟨W0, hW0, km, ka, kb, hL0, hsz⟩ := i_args ⟨false, k, c, r, d⟩ a b w
  have KM := Lib.hid km
  have KA := Lib.hid ka
  have KB := Lib.hid kb
  have L0 := Lib.hid hL0
  obtain ⟨f0, f1, f2, f3, f4⟩ := KM.out.i5
  clear km ka kb hL0 hsz
  go_enter Try.func12, Try.ntmps12
  go_wp2_with fail
  rw [← hW0]
  refine Calls.mono (H1.out _) ?_
  rintro e V ⟨rfl, hb⟩
  have KM1 := Lib.hid (KM.out.below hb KM.out.lt)
  have KA1 := Lib.hid (KA.out.below hb KA.out.lt)
  have KB1 := Lib.hid (KB.out.below hb KB.out.lt)
  have L1 := Lib.hid (L0.out.trans (hb.mono L0.out.size))
  clear hb f0 f1 f2 f3 f4 KM KA KB L0 hW0
  obtain ⟨f0, f1, f2, f3, f4⟩ := KM1.out.i5
  obtain ⟨g0, g1, g2⟩ := KA1.out.i3
  obtain ⟨h0, h1, h2⟩ := KB1.out.i3
  go_wp2
  go_ret2
  exact ⟨by unfold lyIV; rw [HX.out]; rfl, L1.out⟩

set_option maxRecDepth 100000 in
set_option maxHeartbeats 8000000 in
theorem rlay_far1 (k c r : Int) (d : ByteArray) (ah al : Int) (b : Ad) (hr : rgIB ⟨true, k, c, r, d⟩ = true) (w : World) :
    Calls Try.prog 12 #[Ms.val ⟨true, k, c, r, d⟩, Ad.val ⟨false, ah, al⟩, Ad.val b] w fun e w' => e = .returned (lyIV ⟨true, k, c, r, d⟩ ⟨false, ah, al⟩ b) ∧ Below w.heap.size w w' := by
  have H1 := Lib.hid (fun W => rright_any ⟨true, k, c, r, d⟩ W)
  rw [hr] at H1
  have HX := Lib.hid (lyI_far (m := ⟨true, k, c, r, d⟩) (a := ⟨false, ah, al⟩) (b := b) rfl rfl)
  clear hr
  obtain ⟨W0, hW0, km, ka, kb, hL0, hsz⟩ := i_args ⟨true, k, c, r, d⟩ ⟨false, ah, al⟩ b w
  have KM := Lib.hid km
  have KA := Lib.hid ka
  have KB := Lib.hid kb
  have L0 := Lib.hid hL0
  obtain ⟨f0, f1, f2, f3, f4⟩ := KM.out.i5
  clear km ka kb hL0 hsz
  go_enter Try.func12, Try.ntmps12
  go_wp2_with fail
  rw [← hW0]
  refine Calls.mono (H1.out _) ?_
  rintro e V ⟨rfl, hb⟩
  have KM1 := Lib.hid (KM.out.below hb KM.out.lt)
  have KA1 := Lib.hid (KA.out.below hb KA.out.lt)
  have KB1 := Lib.hid (KB.out.below hb KB.out.lt)
  have L1 := Lib.hid (L0.out.trans (hb.mono L0.out.size))
  clear hb f0 f1 f2 f3 f4 KM KA KB L0 hW0
  obtain ⟨f0, f1, f2, f3, f4⟩ := KM1.out.i5
  obtain ⟨g0, g1, g2⟩ := KA1.out.i3
  obtain ⟨h0, h1, h2⟩ := KB1.out.i3
  go_wp2
  go_ret2
  exact ⟨by unfold lyIV; rw [HX.out]; rfl, L1.out⟩

set_option maxRecDepth 100000 in
set_option maxHeartbeats 8000000 in
theorem rlay_far2 (k c r : Int) (d : ByteArray) (ah al bh bl : Int) (hr : rgIB ⟨true, k, c, r, d⟩ = true) (w : World) :
    Calls Try.prog 12 #[Ms.val ⟨true, k, c, r, d⟩, Ad.val ⟨true, ah, al⟩, Ad.val ⟨false, bh, bl⟩] w fun e w' => e = .returned (lyIV ⟨true, k, c, r, d⟩ ⟨true, ah, al⟩ ⟨false, bh, bl⟩) ∧ Below w.heap.size w w' := by
  have H1 := Lib.hid (fun W => rright_any ⟨true, k, c, r, d⟩ W)
  rw [hr] at H1
  have HX := Lib.hid (lyI_far (m := ⟨true, k, c, r, d⟩) (a := ⟨true, ah, al⟩) (b := ⟨false, bh, bl⟩) rfl rfl)
  clear hr
  obtain ⟨W0, hW0, km, ka, kb, hL0, hsz⟩ := i_args ⟨true, k, c, r, d⟩ ⟨true, ah, al⟩ ⟨false, bh, bl⟩ w
  have KM := Lib.hid km
  have KA := Lib.hid ka
  have KB := Lib.hid kb
  have L0 := Lib.hid hL0
  obtain ⟨f0, f1, f2, f3, f4⟩ := KM.out.i5
  clear km ka kb hL0 hsz
  go_enter Try.func12, Try.ntmps12
  go_wp2_with fail
  rw [← hW0]
  refine Calls.mono (H1.out _) ?_
  rintro e V ⟨rfl, hb⟩
  have KM1 := Lib.hid (KM.out.below hb KM.out.lt)
  have KA1 := Lib.hid (KA.out.below hb KA.out.lt)
  have KB1 := Lib.hid (KB.out.below hb KB.out.lt)
  have L1 := Lib.hid (L0.out.trans (hb.mono L0.out.size))
  clear hb f0 f1 f2 f3 f4 KM KA KB L0 hW0
  obtain ⟨f0, f1, f2, f3, f4⟩ := KM1.out.i5
  obtain ⟨g0, g1, g2⟩ := KA1.out.i3
  obtain ⟨h0, h1, h2⟩ := KB1.out.i3
  go_wp2
  go_ret2
  exact ⟨by unfold lyIV; rw [HX.out]; rfl, L1.out⟩

set_option maxRecDepth 100000 in
set_option maxHeartbeats 8000000 in
theorem rlay_yes6 (k c r : Int) (d : ByteArray) (ah al bh bl : Int) (ha : WfA ⟨true, ah, al⟩) (hb : WfA ⟨true, bh, bl⟩) (hr : rgIB ⟨true, k, c, r, d⟩ = true) (w : World) :
    Calls Try.prog 12 #[Ms.val ⟨true, k, c, r, d⟩, Ad.val ⟨true, ah, al⟩, Ad.val ⟨true, bh, bl⟩] w fun e w' => e = .returned (lyIV ⟨true, k, c, r, d⟩ ⟨true, ah, al⟩ ⟨true, bh, bl⟩) ∧ Below w.heap.size w w' := by
  have H1 := Lib.hid (fun W => rright_any ⟨true, k, c, r, d⟩ W)
  rw [hr] at H1
  have hrg := rgI_iff.1 hr
  have hdl : 8 + d.size ≤ 65008 := by have := hrg.d; show 8 + d.size ≤ _; have : d.size ≤ 65000 := this; omega
  have HZ := Lib.hid (fun W => rlaid_any ⟨true, k, c, r, d⟩ hrg 0 (by decide) (by decide) W)
  have HS := Lib.hid (fun W A c' (hz : RI .u8 W W.heap.size A (8 + d.size) (allI ⟨true, k, c, r, d⟩ 0)) => rsum_any true ⟨true, ah, al⟩ ⟨true, bh, bl⟩ ha hb (fun _ => rfl) W A (8 + d.size) c' (allI ⟨true, k, c, r, d⟩ 0) (by omega) hz)
  have HX0 := lyI_yes (m := ⟨true, k, c, r, d⟩) (a := ⟨true, ah, al⟩) (b := ⟨true, bh, bl⟩) hr (fun _ => rfl)
  rw [chI_sum] at HX0
  have hck := chI_bd ⟨true, k, c, r, d⟩ (psI_nn true ⟨true, ah, al⟩ ⟨true, bh, bl⟩ ((8 + d.size : Nat) : Int))
  replace hck : 0 ≤ 65535 - SumI true ⟨true, ah, al⟩ ⟨true, bh, bl⟩ (8 + d.size) (allI ⟨true, k, c, r, d⟩ 0) ∧ 65535 - SumI true ⟨true, ah, al⟩ ⟨true, bh, bl⟩ (8 + d.size) (allI ⟨true, k, c, r, d⟩ 0) ≤ 65535 := hck
  obtain ⟨SV, hSV⟩ : ∃ x, SumI true ⟨true, ah, al⟩ ⟨true, bh, bl⟩ (8 + d.size) (allI ⟨true, k, c, r, d⟩ 0) = x := ⟨_, rfl⟩
  replace HX0 : lyIR ⟨true, k, c, r, d⟩ ⟨true, ah, al⟩ ⟨true, bh, bl⟩ = (strOfNums (allI ⟨true, k, c, r, d⟩ (65535 - SumI true ⟨true, ah, al⟩ ⟨true, bh, bl⟩ (8 + d.size) (allI ⟨true, k, c, r, d⟩ 0))), 0) := HX0
  rw [hSV] at HS HX0 hck
  obtain ⟨CK, hCK⟩ : ∃ x, 65535 - SV = x := ⟨_, rfl⟩
  rw [hCK] at HX0 hck
  have HX := Lib.hid HX0
  have HC := Lib.hid (fun W => rlaid_any ⟨true, k, c, r, d⟩ hrg CK hck.1 hck.2 W)
  have hu : IntKind.u16.wrap (65535 - SV) = CK := by rw [hCK, IntKind.wrap_u16]; omega
  have BZ := Lib.hid (allI_by ⟨true, k, c, r, d⟩ 0)
  have BC := Lib.hid (allI_by ⟨true, k, c, r, d⟩ CK)
  clear hr hrg ha hb HX0 hSV hck hCK
  obtain ⟨W0, hW0, km, ka, kb, hL0, hsz⟩ := i_args ⟨true, k, c, r, d⟩ ⟨true, ah, al⟩ ⟨true, bh, bl⟩ w
  have KM := Lib.hid km
  have KA := Lib.hid ka
  have KB := Lib.hid kb
  have L0 := Lib.hid hL0
  obtain ⟨f0, f1, f2, f3, f4⟩ := KM.out.i5
  clear km ka kb hL0 hsz
  go_enter Try.func12, Try.ntmps12
  go_wp2_with fail
  rw [← hW0]
  refine Calls.mono (H1.out _) ?_
  rintro e V ⟨rfl, hb⟩
  have KM1 := Lib.hid (KM.out.below hb KM.out.lt)
  have KA1 := Lib.hid (KA.out.below hb KA.out.lt)
  have KB1 := Lib.hid (KB.out.below hb KB.out.lt)
  have L1 := Lib.hid (L0.out.trans (hb.mono L0.out.size))
  clear hb f0 f1 f2 f3 f4 KM KA KB L0 hW0
  obtain ⟨f0, f1, f2, f3, f4⟩ := KM1.out.i5
  obtain ⟨g0, g1, g2⟩ := KA1.out.i3
  obtain ⟨h0, h1, h2⟩ := KB1.out.i3
  have HKp : Hid (∀ W', Below V.heap.size V W' → W'.cell? ⟨w.heap.size, 0, none⟩ = some (.bool true) ∧ W'.cell? ⟨w.heap.size, 1, none⟩ = some (.int .i64 k) ∧ W'.cell? ⟨w.heap.size, 2, none⟩ = some (.int .i64 c) ∧ W'.cell? ⟨w.heap.size, 3, none⟩ = some (.int .i64 r) ∧ W'.cell? ⟨w.heap.size, 4, none⟩ = some (.string d) ∧ W'.cell? ⟨w.heap.size + 1, 0, none⟩ = some (.bool true) ∧ W'.cell? ⟨w.heap.size + 1, 1, none⟩ = some (.int .u64 ah) ∧ W'.cell? ⟨w.heap.size + 1, 2, none⟩ = some (.int .u64 al) ∧ W'.cell? ⟨w.heap.size + 2, 0, none⟩ = some (.bool true) ∧ W'.cell? ⟨w.heap.size + 2, 1, none⟩ = some (.int .u64 bh) ∧ W'.cell? ⟨w.heap.size + 2, 2, none⟩ = some (.int .u64 bl)) := Lib.hid fun W' hb => by
    obtain ⟨f0, f1, f2, f3, f4⟩ := (KM1.out.below hb KM1.out.lt).i5
    obtain ⟨g0, g1, g2⟩ := (KA1.out.below hb KA1.out.lt).i3
    obtain ⟨h0, h1, h2⟩ := (KB1.out.below hb KB1.out.lt).i3
    exact ⟨f0, f1, f2, f3, f4, g0, g1, g2, h0, h1, h2⟩
  have hR : Below V.heap.size V V.drew := (Below.refl _ _).drew
  clear KM1 KA1 KB1
  go_wp2_with fail
  clear f0 f1 f2 f3 f4 g0 g1 g2 h0 h1 h2
  refine wp_region_held_drew (S := (fun w' => w'.cell? ⟨w.heap.size, 0, none⟩ = some (.bool true) ∧ w'.cell? ⟨w.heap.size, 1, none⟩ = some (.int .i64 k) ∧ w'.cell? ⟨w.heap.size, 2, none⟩ = some (.int .i64 c) ∧ w'.cell? ⟨w.heap.size, 3, none⟩ = some (.int .i64 r) ∧ w'.cell? ⟨w.heap.size, 4, none⟩ = some (.string d) ∧ w'.cell? ⟨w.heap.size + 1, 0, none⟩ = some (.bool true) ∧ w'.cell? ⟨w.heap.size + 1, 1, none⟩ = some (.int .u64 ah) ∧ w'.cell? ⟨w.heap.size + 1, 2, none⟩ = some (.int .u64 al) ∧ w'.cell? ⟨w.heap.size + 2, 0, none⟩ = some (.bool true) ∧ w'.cell? ⟨w.heap.size + 2, 1, none⟩ = some (.int .u64 bh) ∧ w'.cell? ⟨w.heap.size + 2, 2, none⟩ = some (.int .u64 bl))) (by kernel_rfl) ?_ (fun hHeld => ?_)
  · exact HKp.out _ hR
  refine wpAnyH_take (i := 0) (oi := { dst := some 27, op := Go.Op.load 23 (Go.Operand.tmp 3), type := 23, pos := "ref.go:39", after := #[], guard := none }) (v := ?_) rfl (by kernel_rfl) (by kernel_rfl) (by kernel_rfl) (fun _ _ _ h => h) (Or.inl ⟨by rfl, ?_⟩) (by assumption) ?_
  rotate_left
  · intro w hSw
    (try dsimp only at hSw)
    go_simp
    try (with_reducible rfl)
  try simp only [Act.put, List.setIfInBounds_toArray, List.set_cons_zero, List.set_cons_succ]
  refine wpAnyH_take (i := 1) (oi := { dst := some 28, op := Go.Op.load 23 (Go.Operand.tmp 3), type := 23, pos := "ref.go:39", after := #[], guard := none }) (v := ?_) rfl (by kernel_rfl) (by kernel_rfl) (by kernel_rfl) (fun _ _ _ h => h) (Or.inl ⟨by rfl, ?_⟩) (by assumption) ?_
  rotate_left
  · intro w hSw
    (try dsimp only at hSw)
    go_simp
    try (with_reducible rfl)
  try simp only [Act.put, List.setIfInBounds_toArray, List.set_cons_zero, List.set_cons_succ]
  refine wpAnyH_take (i := 3) (oi := { dst := some 30, op := Go.Op.fieldAddr 23 (Go.Operand.tmp 3) 0, type := 0, pos := "ref.go:39", after := #[], guard := none }) (v := ?_) rfl (by kernel_rfl) (by kernel_rfl) (by kernel_rfl) (fun _ _ _ h => h) (Or.inl ⟨by rfl, ?_⟩) (by assumption) ?_
  rotate_left
  · intro w hSw
    (try dsimp only at hSw)
    go_simp
    try (with_reducible rfl)
  try simp only [Act.put, List.setIfInBounds_toArray, List.set_cons_zero, List.set_cons_succ]
  refine wpAnyH_take (i := 4) (oi := { dst := some 31, op := Go.Op.load 4 (Go.Operand.tmp 30), type := 4, pos := "ref.go:39", after := #[{ on := 3, ground := Go.Ground.data }], guard := none }) (v := ?_) rfl (by kernel_rfl) (by kernel_rfl) (by kernel_rfl) (fun _ _ _ h => h) (Or.inl ⟨by rfl, ?_⟩) (by assumption) ?_
  rotate_left
  · intro w hSw
    (try dsimp only at hSw)
    go_simp
    try (with_reducible rfl)
  try simp only [Act.put, List.setIfInBounds_toArray, List.set_cons_zero, List.set_cons_succ]
  refine wpAnyH_take (i := 5) (oi := { dst := some 32, op := Go.Op.load 26 (Go.Operand.tmp 4), type := 26, pos := "ref.go:39", after := #[], guard := none }) (v := ?_) rfl (by kernel_rfl) (by kernel_rfl) (by kernel_rfl) (fun _ _ _ h => h) (Or.inl ⟨by rfl, ?_⟩) (by assumption) ?_
  rotate_left
  · intro w hSw
    (try dsimp only at hSw)
    go_simp
    try (with_reducible rfl)
  try simp only [Act.put, List.setIfInBounds_toArray, List.set_cons_zero, List.set_cons_succ]
  refine wpAnyH_take (i := 6) (oi := { dst := some 33, op := Go.Op.load 26 (Go.Operand.tmp 5), type := 26, pos := "ref.go:39", after := #[], guard := none }) (v := ?_) rfl (by kernel_rfl) (by kernel_rfl) (by kernel_rfl) (fun _ _ _ h => h) (Or.inl ⟨by rfl, ?_⟩) (by assumption) ?_
  rotate_left
  · intro w hSw
    (try dsimp only at hSw)
    go_simp
    try (with_reducible rfl)
  try simp only [Act.put, List.setIfInBounds_toArray, List.set_cons_zero, List.set_cons_succ]
  refine wpAnyH_ready (rs := [2]) (by kernel_rfl) (by simp) ?_
  refine AllReadyH.cons (o := { dst := some 29, op := Go.Op.call { callee := Go.Callee.value (Go.Operand.func 23), args := #[Go.Operand.tmp 28, Go.Operand.const (Go.Value.int Go.IntKind.u16 0)], argTypes := #[23, 41] }, type := 39, pos := "ref.go:39", after := #[{ on := 1, ground := Go.Ground.data }], guard := none }) rfl (fun K hK => ?_) AllReadyH.nil
  go_simp
  (go_at_call 23; (with_reducible refine Calls.mono (HZ.out _) ?_); rintro e W1 ⟨v1, rfl, ho1, hb⟩; obtain ⟨A1, c1, rfl, r1, -⟩ := own_ri BZ.out.wf ho1; have R1 := Lib.hid r1; have hR1 := hR.trans (hb.mono hR.size); clear hb ho1 r1)
  go_wp2_with fail
  refine hK.out _ _ ?_ (fun hHeld => ?_)
  · first | exact HKp.out _ hR3 | exact HKp.out _ hR2 | exact HKp.out _ hR1 | exact HKp.out _ hR
  clear hK K
  try simp only [Act.put, List.setIfInBounds_toArray, List.set_cons_zero, List.set_cons_succ]
  refine wpAnyH_ready (rs := [7]) (by kernel_rfl) (by simp) ?_
  refine AllReadyH.cons (o := { dst := some 34, op := Go.Op.call { callee := Go.Callee.value (Go.Operand.func 24), args := #[Go.Operand.tmp 29, Go.Operand.tmp 31, Go.Operand.tmp 32, Go.Operand.tmp 33], argTypes := #[39, 4, 26, 26] }, type := 41, pos := "ref.go:39", after := #[{ on := 2, ground := Go.Ground.data }, { on := 4, ground := Go.Ground.data }, { on := 5, ground := Go.Ground.data }, { on := 6, ground := Go.Ground.data }, { on := 2, ground := Go.Ground.chain }], guard := none }) rfl (fun K hK => ?_) AllReadyH.nil
  go_simp
  (go_at_call 24; (with_reducible refine Calls.mono (HS.out _ _ _ R1.out) ?_); rintro e W2 ⟨rfl, hb⟩; have hR2 := hR1.trans (hb.mono hR1.size); clear hb)
  go_wp2_with fail
  refine hK.out _ _ ?_ (fun hHeld => ?_)
  · first | exact HKp.out _ hR3 | exact HKp.out _ hR2 | exact HKp.out _ hR1 | exact HKp.out _ hR
  clear hK K
  try simp only [Act.put, List.setIfInBounds_toArray, List.set_cons_zero, List.set_cons_succ]
  refine wpAnyH_take (i := 8) (oi := { dst := some 35, op := Go.Op.binOp Go.BinOp.sub 41 (Go.Operand.const (Go.Value.int Go.IntKind.u16 65535)) (Go.Operand.tmp 34) 41, type := 41, pos := "ref.go:39", after := #[{ on := 7, ground := Go.Ground.data }], guard := none }) (v := ?_) rfl (by kernel_rfl) (by kernel_rfl) (by kernel_rfl) (fun _ _ _ h => h) (Or.inl ⟨by rfl, ?_⟩) (by assumption) ?_
  rotate_left
  · intro w hSw
    (try dsimp only at hSw)
    go_simp
    try (with_reducible rfl)
  try simp only [Act.put, List.setIfInBounds_toArray, List.set_cons_zero, List.set_cons_succ]
  refine wpAnyH_ready (rs := [9]) (by kernel_rfl) (by simp) ?_
  refine AllReadyH.cons (o := { dst := some 36, op := Go.Op.call { callee := Go.Callee.value (Go.Operand.func 23), args := #[Go.Operand.tmp 27, Go.Operand.tmp 35], argTypes := #[23, 41] }, type := 39, pos := "ref.go:39", after := #[{ on := 0, ground := Go.Ground.data }, { on := 8, ground := Go.Ground.data }, { on := 7, ground := Go.Ground.chain }], guard := none }) rfl (fun K hK => ?_) AllReadyH.nil
  go_simp
  (go_at_call 23; (with_reducible refine Calls.mono (HC.out _) ?_); rintro e W3 ⟨v2, rfl, ho2, hb⟩; obtain ⟨A2, c2, rfl, r2, -⟩ := own_ri BC.out.wf ho2; have hcv := conv_str (c := c2) r2; have hR3 := hR2.trans (hb.mono hR2.size); clear hb ho2 r2)
  go_wp2_with fail
  refine hK.out _ _ ?_ (fun hHeld => ?_)
  · first | exact HKp.out _ hR3 | exact HKp.out _ hR2 | exact HKp.out _ hR1 | exact HKp.out _ hR
  clear hK K
  try simp only [Act.put, List.setIfInBounds_toArray, List.set_cons_zero, List.set_cons_succ]
  refine wpAnyH_ready (rs := [10]) (by kernel_rfl) (by simp) ?_
  refine AllReadyH.cons (o := { dst := some 37, op := Go.Op.convert 39 9 (Go.Operand.tmp 36), type := 9, pos := "ref.go:39", after := #[{ on := 9, ground := Go.Ground.data }], guard := none }) rfl (fun K hK => ?_) AllReadyH.nil
  go_simp
  refine hK.out _ _ ?_ (fun hHeld => ?_)
  · first | exact HKp.out _ hR3 | exact HKp.out _ hR2 | exact HKp.out _ hR1 | exact HKp.out _ hR
  clear hK K
  try simp only [Act.put, List.setIfInBounds_toArray, List.set_cons_zero, List.set_cons_succ]
  refine wpAnyH_take (i := 11) (oi := { dst := some 6, op := Go.Op.assign (Go.Operand.tmp 37), type := 9, pos := "ref.go:39", after := #[{ on := 10, ground := Go.Ground.data }, { on := 9, ground := Go.Ground.chain }, { on := 0, ground := Go.Ground.phase }, { on := 1, ground := Go.Ground.phase }, { on := 2, ground := Go.Ground.phase }, { on := 3, ground := Go.Ground.phase }, { on := 4, ground := Go.Ground.phase }, { on := 5, ground := Go.Ground.phase }, { on := 6, ground := Go.Ground.phase }, { on := 7, ground := Go.Ground.phase }, { on := 8, ground := Go.Ground.phase }, { on := 9, ground := Go.Ground.phase }, { on := 10, ground := Go.Ground.phase }], guard := none }) (v := ?_) rfl (by kernel_rfl) (by kernel_rfl) (by kernel_rfl) (fun _ _ _ h => h) (Or.inl ⟨by rfl, ?_⟩) (by assumption) ?_
  rotate_left
  · intro w hSw
    (try dsimp only at hSw)
    go_simp
    try (with_reducible rfl)
  try simp only [Act.put, List.setIfInBounds_toArray, List.set_cons_zero, List.set_cons_succ]
  refine wpAnyH_take (i := 12) (oi := { dst := some 7, op := Go.Op.assign (Go.Operand.const (Go.Value.int Go.IntKind.i64 0)), type := 30, pos := "ref.go:39", after := #[{ on := 11, ground := Go.Ground.chain }, { on := 0, ground := Go.Ground.phase }, { on := 1, ground := Go.Ground.phase }, { on := 2, ground := Go.Ground.phase }, { on := 3, ground := Go.Ground.phase }, { on := 4, ground := Go.Ground.phase }, { on := 5, ground := Go.Ground.phase }, { on := 6, ground := Go.Ground.phase }, { on := 7, ground := Go.Ground.phase }, { on := 8, ground := Go.Ground.phase }, { on := 9, ground := Go.Ground.phase }, { on := 10, ground := Go.Ground.phase }, { on := 11, ground := Go.Ground.phase }], guard := none }) (v := ?_) rfl (by kernel_rfl) (by kernel_rfl) (by kernel_rfl) (fun _ _ _ h => h) (Or.inl ⟨by rfl, ?_⟩) (by assumption) ?_
  rotate_left
  · intro w hSw
    (try dsimp only at hSw)
    go_simp
    try (with_reducible rfl)
  try simp only [Act.put, List.setIfInBounds_toArray, List.set_cons_zero, List.set_cons_succ]
  refine wpAnyH_done (by kernel_rfl) ?_ _
  go_wp2
  go_ret2
  exact ⟨by unfold lyIV; rw [HX.out]; rfl, L1.out.trans (hR3.mono L1.out.size)⟩

set_option maxRecDepth 100000 in
set_option maxHeartbeats 8000000 in
theorem rlay_yes4 (k c r : Int) (d : ByteArray) (a b : Ad) (ha : WfA a) (hb : WfA b) (hr : rgIB ⟨false, k, c, r, d⟩ = true) (w : World) :
    Calls Try.prog 12 #[Ms.val ⟨false, k, c, r, d⟩, Ad.val a, Ad.val b] w fun e w' => e = .returned (lyIV ⟨false, k, c, r, d⟩ a b) ∧ Below w.heap.size w w' := by
  have H1 := Lib.hid (fun W => rright_any ⟨false, k, c, r, d⟩ W)
  rw [hr] at H1
  have hrg := rgI_iff.1 hr
  have hdl : 8 + d.size ≤ 65008 := by have := hrg.d; show 8 + d.size ≤ _; have : d.size ≤ 65000 := this; omega
  have HZ := Lib.hid (fun W => rlaid_any ⟨false, k, c, r, d⟩ hrg 0 (by decide) (by decide) W)
  have HS := Lib.hid (fun W A c' (hz : RI .u8 W W.heap.size A (8 + d.size) (allI ⟨false, k, c, r, d⟩ 0)) => rsum_any false a b ha hb (fun h => by cases h) W A (8 + d.size) c' (allI ⟨false, k, c, r, d⟩ 0) (by omega) hz)
  have HX0 := lyI_yes (m := ⟨false, k, c, r, d⟩) (a := a) (b := b) hr (fun h => by cases h)
  rw [chI_sum] at HX0
  have hck := chI_bd ⟨false, k, c, r, d⟩ (psI_nn false a b ((8 + d.size : Nat) : Int))
  replace hck : 0 ≤ 65535 - SumI false a b (8 + d.size) (allI ⟨false, k, c, r, d⟩ 0) ∧ 65535 - SumI false a b (8 + d.size) (allI ⟨false, k, c, r, d⟩ 0) ≤ 65535 := hck
  obtain ⟨SV, hSV⟩ : ∃ x, SumI false a b (8 + d.size) (allI ⟨false, k, c, r, d⟩ 0) = x := ⟨_, rfl⟩
  replace HX0 : lyIR ⟨false, k, c, r, d⟩ a b = (strOfNums (allI ⟨false, k, c, r, d⟩ (65535 - SumI false a b (8 + d.size) (allI ⟨false, k, c, r, d⟩ 0))), 0) := HX0
  rw [hSV] at HS HX0 hck
  obtain ⟨CK, hCK⟩ : ∃ x, 65535 - SV = x := ⟨_, rfl⟩
  rw [hCK] at HX0 hck
  have HX := Lib.hid HX0
  have HC := Lib.hid (fun W => rlaid_any ⟨false, k, c, r, d⟩ hrg CK hck.1 hck.2 W)
  have hu : IntKind.u16.wrap (65535 - SV) = CK := by rw [hCK, IntKind.wrap_u16]; omega
  have BZ := Lib.hid (allI_by ⟨false, k, c, r, d⟩ 0)
  have BC := Lib.hid (allI_by ⟨false, k, c, r, d⟩ CK)
  clear hr hrg ha hb HX0 hSV hck hCK
  obtain ⟨W0, hW0, km, ka, kb, hL0, hsz⟩ := i_args ⟨false, k, c, r, d⟩ a b w
  have KM := Lib.hid km
  have KA := Lib.hid ka
  have KB := Lib.hid kb
  have L0 := Lib.hid hL0
  obtain ⟨f0, f1, f2, f3, f4⟩ := KM.out.i5
  clear km ka kb hL0 hsz
  go_enter Try.func12, Try.ntmps12
  go_wp2_with fail
  rw [← hW0]
  refine Calls.mono (H1.out _) ?_
  rintro e V ⟨rfl, hb⟩
  have KM1 := Lib.hid (KM.out.below hb KM.out.lt)
  have KA1 := Lib.hid (KA.out.below hb KA.out.lt)
  have KB1 := Lib.hid (KB.out.below hb KB.out.lt)
  have L1 := Lib.hid (L0.out.trans (hb.mono L0.out.size))
  clear hb f0 f1 f2 f3 f4 KM KA KB L0 hW0
  obtain ⟨f0, f1, f2, f3, f4⟩ := KM1.out.i5
  obtain ⟨g0, g1, g2⟩ := KA1.out.i3
  obtain ⟨h0, h1, h2⟩ := KB1.out.i3
  have HKp : Hid (∀ W', Below V.heap.size V W' → W'.cell? ⟨w.heap.size, 0, none⟩ = some (.bool false) ∧ W'.cell? ⟨w.heap.size, 1, none⟩ = some (.int .i64 k) ∧ W'.cell? ⟨w.heap.size, 2, none⟩ = some (.int .i64 c) ∧ W'.cell? ⟨w.heap.size, 3, none⟩ = some (.int .i64 r) ∧ W'.cell? ⟨w.heap.size, 4, none⟩ = some (.string d) ∧ W'.cell? ⟨w.heap.size + 1, 0, none⟩ = some (.bool a.s) ∧ W'.cell? ⟨w.heap.size + 1, 1, none⟩ = some (.int .u64 a.h) ∧ W'.cell? ⟨w.heap.size + 1, 2, none⟩ = some (.int .u64 a.l) ∧ W'.cell? ⟨w.heap.size + 2, 0, none⟩ = some (.bool b.s) ∧ W'.cell? ⟨w.heap.size + 2, 1, none⟩ = some (.int .u64 b.h) ∧ W'.cell? ⟨w.heap.size + 2, 2, none⟩ = some (.int .u64 b.l)) := Lib.hid fun W' hb => by
    obtain ⟨f0, f1, f2, f3, f4⟩ := (KM1.out.below hb KM1.out.lt).i5
    obtain ⟨g0, g1, g2⟩ := (KA1.out.below hb KA1.out.lt).i3
    obtain ⟨h0, h1, h2⟩ := (KB1.out.below hb KB1.out.lt).i3
    exact ⟨f0, f1, f2, f3, f4, g0, g1, g2, h0, h1, h2⟩
  have hR : Below V.heap.size V V.drew := (Below.refl _ _).drew
  clear KM1 KA1 KB1
  go_wp2_with fail
  clear f0 f1 f2 f3 f4 g0 g1 g2 h0 h1 h2
  refine wp_region_held_drew (S := (fun w' => w'.cell? ⟨w.heap.size, 0, none⟩ = some (.bool false) ∧ w'.cell? ⟨w.heap.size, 1, none⟩ = some (.int .i64 k) ∧ w'.cell? ⟨w.heap.size, 2, none⟩ = some (.int .i64 c) ∧ w'.cell? ⟨w.heap.size, 3, none⟩ = some (.int .i64 r) ∧ w'.cell? ⟨w.heap.size, 4, none⟩ = some (.string d) ∧ w'.cell? ⟨w.heap.size + 1, 0, none⟩ = some (.bool a.s) ∧ w'.cell? ⟨w.heap.size + 1, 1, none⟩ = some (.int .u64 a.h) ∧ w'.cell? ⟨w.heap.size + 1, 2, none⟩ = some (.int .u64 a.l) ∧ w'.cell? ⟨w.heap.size + 2, 0, none⟩ = some (.bool b.s) ∧ w'.cell? ⟨w.heap.size + 2, 1, none⟩ = some (.int .u64 b.h) ∧ w'.cell? ⟨w.heap.size + 2, 2, none⟩ = some (.int .u64 b.l))) (by kernel_rfl) ?_ (fun hHeld => ?_)
  · exact HKp.out _ hR
  refine wpAnyH_take (i := 0) (oi := { dst := some 27, op := Go.Op.load 23 (Go.Operand.tmp 3), type := 23, pos := "ref.go:39", after := #[], guard := none }) (v := ?_) rfl (by kernel_rfl) (by kernel_rfl) (by kernel_rfl) (fun _ _ _ h => h) (Or.inl ⟨by rfl, ?_⟩) (by assumption) ?_
  rotate_left
  · intro w hSw
    (try dsimp only at hSw)
    go_simp
    try (with_reducible rfl)
  try simp only [Act.put, List.setIfInBounds_toArray, List.set_cons_zero, List.set_cons_succ]
  refine wpAnyH_take (i := 1) (oi := { dst := some 28, op := Go.Op.load 23 (Go.Operand.tmp 3), type := 23, pos := "ref.go:39", after := #[], guard := none }) (v := ?_) rfl (by kernel_rfl) (by kernel_rfl) (by kernel_rfl) (fun _ _ _ h => h) (Or.inl ⟨by rfl, ?_⟩) (by assumption) ?_
  rotate_left
  · intro w hSw
    (try dsimp only at hSw)
    go_simp
    try (with_reducible rfl)
  try simp only [Act.put, List.setIfInBounds_toArray, List.set_cons_zero, List.set_cons_succ]
  refine wpAnyH_take (i := 3) (oi := { dst := some 30, op := Go.Op.fieldAddr 23 (Go.Operand.tmp 3) 0, type := 0, pos := "ref.go:39", after := #[], guard := none }) (v := ?_) rfl (by kernel_rfl) (by kernel_rfl) (by kernel_rfl) (fun _ _ _ h => h) (Or.inl ⟨by rfl, ?_⟩) (by assumption) ?_
  rotate_left
  · intro w hSw
    (try dsimp only at hSw)
    go_simp
    try (with_reducible rfl)
  try simp only [Act.put, List.setIfInBounds_toArray, List.set_cons_zero, List.set_cons_succ]
  refine wpAnyH_take (i := 4) (oi := { dst := some 31, op := Go.Op.load 4 (Go.Operand.tmp 30), type := 4, pos := "ref.go:39", after := #[{ on := 3, ground := Go.Ground.data }], guard := none }) (v := ?_) rfl (by kernel_rfl) (by kernel_rfl) (by kernel_rfl) (fun _ _ _ h => h) (Or.inl ⟨by rfl, ?_⟩) (by assumption) ?_
  rotate_left
  · intro w hSw
    (try dsimp only at hSw)
    go_simp
    try (with_reducible rfl)
  try simp only [Act.put, List.setIfInBounds_toArray, List.set_cons_zero, List.set_cons_succ]
  refine wpAnyH_take (i := 5) (oi := { dst := some 32, op := Go.Op.load 26 (Go.Operand.tmp 4), type := 26, pos := "ref.go:39", after := #[], guard := none }) (v := ?_) rfl (by kernel_rfl) (by kernel_rfl) (by kernel_rfl) (fun _ _ _ h => h) (Or.inl ⟨by rfl, ?_⟩) (by assumption) ?_
  rotate_left
  · intro w hSw
    (try dsimp only at hSw)
    go_simp
    try (with_reducible rfl)
  try simp only [Act.put, List.setIfInBounds_toArray, List.set_cons_zero, List.set_cons_succ]
  refine wpAnyH_take (i := 6) (oi := { dst := some 33, op := Go.Op.load 26 (Go.Operand.tmp 5), type := 26, pos := "ref.go:39", after := #[], guard := none }) (v := ?_) rfl (by kernel_rfl) (by kernel_rfl) (by kernel_rfl) (fun _ _ _ h => h) (Or.inl ⟨by rfl, ?_⟩) (by assumption) ?_
  rotate_left
  · intro w hSw
    (try dsimp only at hSw)
    go_simp
    try (with_reducible rfl)
  try simp only [Act.put, List.setIfInBounds_toArray, List.set_cons_zero, List.set_cons_succ]
  refine wpAnyH_ready (rs := [2]) (by kernel_rfl) (by simp) ?_
  refine AllReadyH.cons (o := { dst := some 29, op := Go.Op.call { callee := Go.Callee.value (Go.Operand.func 23), args := #[Go.Operand.tmp 28, Go.Operand.const (Go.Value.int Go.IntKind.u16 0)], argTypes := #[23, 41] }, type := 39, pos := "ref.go:39", after := #[{ on := 1, ground := Go.Ground.data }], guard := none }) rfl (fun K hK => ?_) AllReadyH.nil
  go_simp
  (go_at_call 23; (with_reducible refine Calls.mono (HZ.out _) ?_); rintro e W1 ⟨v1, rfl, ho1, hb⟩; obtain ⟨A1, c1, rfl, r1, -⟩ := own_ri BZ.out.wf ho1; have R1 := Lib.hid r1; have hR1 := hR.trans (hb.mono hR.size); clear hb ho1 r1)
  go_wp2_with fail
  refine hK.out _ _ ?_ (fun hHeld => ?_)
  · first | exact HKp.out _ hR3 | exact HKp.out _ hR2 | exact HKp.out _ hR1 | exact HKp.out _ hR
  clear hK K
  try simp only [Act.put, List.setIfInBounds_toArray, List.set_cons_zero, List.set_cons_succ]
  refine wpAnyH_ready (rs := [7]) (by kernel_rfl) (by simp) ?_
  refine AllReadyH.cons (o := { dst := some 34, op := Go.Op.call { callee := Go.Callee.value (Go.Operand.func 24), args := #[Go.Operand.tmp 29, Go.Operand.tmp 31, Go.Operand.tmp 32, Go.Operand.tmp 33], argTypes := #[39, 4, 26, 26] }, type := 41, pos := "ref.go:39", after := #[{ on := 2, ground := Go.Ground.data }, { on := 4, ground := Go.Ground.data }, { on := 5, ground := Go.Ground.data }, { on := 6, ground := Go.Ground.data }, { on := 2, ground := Go.Ground.chain }], guard := none }) rfl (fun K hK => ?_) AllReadyH.nil
  go_simp
  (go_at_call 24; (with_reducible refine Calls.mono (HS.out _ _ _ R1.out) ?_); rintro e W2 ⟨rfl, hb⟩; have hR2 := hR1.trans (hb.mono hR1.size); clear hb)
  go_wp2_with fail
  refine hK.out _ _ ?_ (fun hHeld => ?_)
  · first | exact HKp.out _ hR3 | exact HKp.out _ hR2 | exact HKp.out _ hR1 | exact HKp.out _ hR
  clear hK K
  try simp only [Act.put, List.setIfInBounds_toArray, List.set_cons_zero, List.set_cons_succ]
  refine wpAnyH_take (i := 8) (oi := { dst := some 35, op := Go.Op.binOp Go.BinOp.sub 41 (Go.Operand.const (Go.Value.int Go.IntKind.u16 65535)) (Go.Operand.tmp 34) 41, type := 41, pos := "ref.go:39", after := #[{ on := 7, ground := Go.Ground.data }], guard := none }) (v := ?_) rfl (by kernel_rfl) (by kernel_rfl) (by kernel_rfl) (fun _ _ _ h => h) (Or.inl ⟨by rfl, ?_⟩) (by assumption) ?_
  rotate_left
  · intro w hSw
    (try dsimp only at hSw)
    go_simp
    try (with_reducible rfl)
  try simp only [Act.put, List.setIfInBounds_toArray, List.set_cons_zero, List.set_cons_succ]
  refine wpAnyH_ready (rs := [9]) (by kernel_rfl) (by simp) ?_
  refine AllReadyH.cons (o := { dst := some 36, op := Go.Op.call { callee := Go.Callee.value (Go.Operand.func 23), args := #[Go.Operand.tmp 27, Go.Operand.tmp 35], argTypes := #[23, 41] }, type := 39, pos := "ref.go:39", after := #[{ on := 0, ground := Go.Ground.data }, { on := 8, ground := Go.Ground.data }, { on := 7, ground := Go.Ground.chain }], guard := none }) rfl (fun K hK => ?_) AllReadyH.nil
  go_simp
  (go_at_call 23; (with_reducible refine Calls.mono (HC.out _) ?_); rintro e W3 ⟨v2, rfl, ho2, hb⟩; obtain ⟨A2, c2, rfl, r2, -⟩ := own_ri BC.out.wf ho2; have hcv := conv_str (c := c2) r2; have hR3 := hR2.trans (hb.mono hR2.size); clear hb ho2 r2)
  go_wp2_with fail
  refine hK.out _ _ ?_ (fun hHeld => ?_)
  · first | exact HKp.out _ hR3 | exact HKp.out _ hR2 | exact HKp.out _ hR1 | exact HKp.out _ hR
  clear hK K
  try simp only [Act.put, List.setIfInBounds_toArray, List.set_cons_zero, List.set_cons_succ]
  refine wpAnyH_ready (rs := [10]) (by kernel_rfl) (by simp) ?_
  refine AllReadyH.cons (o := { dst := some 37, op := Go.Op.convert 39 9 (Go.Operand.tmp 36), type := 9, pos := "ref.go:39", after := #[{ on := 9, ground := Go.Ground.data }], guard := none }) rfl (fun K hK => ?_) AllReadyH.nil
  go_simp
  refine hK.out _ _ ?_ (fun hHeld => ?_)
  · first | exact HKp.out _ hR3 | exact HKp.out _ hR2 | exact HKp.out _ hR1 | exact HKp.out _ hR
  clear hK K
  try simp only [Act.put, List.setIfInBounds_toArray, List.set_cons_zero, List.set_cons_succ]
  refine wpAnyH_take (i := 11) (oi := { dst := some 6, op := Go.Op.assign (Go.Operand.tmp 37), type := 9, pos := "ref.go:39", after := #[{ on := 10, ground := Go.Ground.data }, { on := 9, ground := Go.Ground.chain }, { on := 0, ground := Go.Ground.phase }, { on := 1, ground := Go.Ground.phase }, { on := 2, ground := Go.Ground.phase }, { on := 3, ground := Go.Ground.phase }, { on := 4, ground := Go.Ground.phase }, { on := 5, ground := Go.Ground.phase }, { on := 6, ground := Go.Ground.phase }, { on := 7, ground := Go.Ground.phase }, { on := 8, ground := Go.Ground.phase }, { on := 9, ground := Go.Ground.phase }, { on := 10, ground := Go.Ground.phase }], guard := none }) (v := ?_) rfl (by kernel_rfl) (by kernel_rfl) (by kernel_rfl) (fun _ _ _ h => h) (Or.inl ⟨by rfl, ?_⟩) (by assumption) ?_
  rotate_left
  · intro w hSw
    (try dsimp only at hSw)
    go_simp
    try (with_reducible rfl)
  try simp only [Act.put, List.setIfInBounds_toArray, List.set_cons_zero, List.set_cons_succ]
  refine wpAnyH_take (i := 12) (oi := { dst := some 7, op := Go.Op.assign (Go.Operand.const (Go.Value.int Go.IntKind.i64 0)), type := 30, pos := "ref.go:39", after := #[{ on := 11, ground := Go.Ground.chain }, { on := 0, ground := Go.Ground.phase }, { on := 1, ground := Go.Ground.phase }, { on := 2, ground := Go.Ground.phase }, { on := 3, ground := Go.Ground.phase }, { on := 4, ground := Go.Ground.phase }, { on := 5, ground := Go.Ground.phase }, { on := 6, ground := Go.Ground.phase }, { on := 7, ground := Go.Ground.phase }, { on := 8, ground := Go.Ground.phase }, { on := 9, ground := Go.Ground.phase }, { on := 10, ground := Go.Ground.phase }, { on := 11, ground := Go.Ground.phase }], guard := none }) (v := ?_) rfl (by kernel_rfl) (by kernel_rfl) (by kernel_rfl) (fun _ _ _ h => h) (Or.inl ⟨by rfl, ?_⟩) (by assumption) ?_
  rotate_left
  · intro w hSw
    (try dsimp only at hSw)
    go_simp
    try (with_reducible rfl)
  try simp only [Act.put, List.setIfInBounds_toArray, List.set_cons_zero, List.set_cons_succ]
  refine wpAnyH_done (by kernel_rfl) ?_ _
  go_wp2
  go_ret2
  exact ⟨by unfold lyIV; rw [HX.out]; rfl, L1.out.trans (hR3.mono L1.out.size)⟩

theorem rlay_any (m : Ms) (a b : Ad) (ha : WfA a) (hb : WfA b) (w : World) :
    Calls Try.prog 12 #[m.val, a.val, b.val] w fun e w' => e = .returned (lyIV m a b) ∧ Below w.heap.size w w' := by
  obtain ⟨S, k, c, r, d⟩ := m
  cases S with
  | false =>
    rcases Bool.eq_false_or_eq_true (rgIB ⟨false, k, c, r, d⟩) with hr | hr
    · exact rlay_yes4 k c r d a b ha hb hr w
    · exact rlay_no4 k c r d a b hr w
  | true =>
    rcases Bool.eq_false_or_eq_true (rgIB ⟨true, k, c, r, d⟩) with hr | hr
    · obtain ⟨sa, ah, al⟩ := a
      obtain ⟨sb, bh, bl⟩ := b
      cases sa with
      | false => exact rlay_far1 k c r d ah al _ hr w
      | true =>
        cases sb with
        | false => exact rlay_far2 k c r d ah al bh bl hr w
        | true => exact rlay_yes6 k c r d ah al bh bl ha hb hr w
    · exact rlay_no6 k c r d a b hr w
end Go.Proofs.Ytljdebpemdjliaa
