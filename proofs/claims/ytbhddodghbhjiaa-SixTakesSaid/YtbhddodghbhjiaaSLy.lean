/-
  ip6.Lay of any packet.
-/
import Derived.Test.YtbhddodghbhjiaaSHd
import Derived.Test.YtbhddodghbhjiaaFConv
import Derived.Deep.RegionHeld3
namespace Go.Proofs.Ytbhddodghbhjiaa
open Go.RowKit
set_option linter.unusedVariables false

theorem ret_si {s t : ByteArray} {a b : Int} (h : (s, a) = (t, b)) : Ending.returned (.tuple #[.string s, .int .i64 a]) = .returned (.tuple #[.string t, .int .i64 b]) := by injection h with h1 h2; rw [h1, h2]
set_option maxRecDepth 100000 in
set_option maxHeartbeats 4000000 in
theorem slay_any (p : Sx) (hw : WfS p) (w : World) :
    Calls Try.prog 16 #[p.val] w fun e w' => e = .returned (lySV p) ∧ Below w.heap.size w w' := by
  obtain ⟨V, hV⟩ : ∃ V, rgSB p = V := ⟨_, rfl⟩
  have H1 := Lib.hid (fun W => spk_any p hV W)
  have K0 := Blk.new w 35 (scs p)
  have L0 := Lib.hid ((Below.refl _ w).alloc (Nat.le_refl _) (.cells (scs p) 35))
  obtain ⟨f0, f1, f2, f3, f4, f5, f6, f7, f8, f9, f10⟩ := K0.s11
  have HK0 := Lib.hid K0
  clear K0
  cases V
  · have HX := Lib.hid (lyS_no hV)
    clear hV
    go_enter Try.func16, Try.ntmps16
    go_wp2_with fail
    refine Calls.mono (H1.out _) ?_
    rintro e w1 ⟨rfl, hb⟩
    have L1 := Lib.hid (L0.out.trans (hb.mono L0.out.size))
    clear hb f0 f1 f2 f3 f4 f5 f6 f7 f8 f9 f10
    go_wp2
    go_ret2
    exact ⟨by unfold lySV; rw [HX.out]; rfl, L1.out⟩
  · by_cases ht : p.d.size ≤ 65535
    · have hrg := rgS_iff.1 hV
      have HX := Lib.hid (lyS_ok hV ht)
      have HH := Lib.hid (fun W => sheader_at p hrg hw ht W)
      obtain ⟨SS, hSS⟩ : ∃ SS, strOfNums (hdS p) = SS := ⟨_, rfl⟩
      have hssz : SS.size ≤ 100 := by rw [← hSS, strOfNums_size, hdS_len]; decide
      have hadd : ∀ W : World, (Op.stringOp .add SS p.d).run Try.prog W = .ok (.string (SS ++ p.d)) W := fun W => run_string_add_sum _ _ _ (by omega)
      have HX2 : Hid (lySR p = (SS ++ p.d, 0)) := Lib.hid (by rw [HX.out, ← hSS]; rfl)
      replace HX := HX2
      have HSS := Lib.hid hSS
      have HBY := Lib.hid (hdS_by p).wf
      have d0 : ¬ (65535 : Int) < p.d.size := by omega
      clear hV hrg hSS
      go_enter Try.func16, Try.ntmps16
      go_wp2_with fail
      refine Calls.mono (H1.out _) ?_
      rintro e w1 ⟨rfl, hb⟩
      have L1 := Lib.hid (L0.out.trans (hb.mono L0.out.size))
      have HK1 := Lib.hid (HK0.out.below hb HK0.out.lt)
      have HC : Hid (∀ w', Below w1.heap.size w1 w' → w'.cell? ⟨w.heap.size, 0, none⟩ = some (.int .i64 p.c) ∧ w'.cell? ⟨w.heap.size, 1, none⟩ = some (.int .i64 p.f) ∧ w'.cell? ⟨w.heap.size, 2, none⟩ = some (.int .i64 p.n) ∧ w'.cell? ⟨w.heap.size, 3, none⟩ = some (.int .i64 p.h) ∧ w'.cell? ⟨w.heap.size, 4, none⟩ = some (.bool p.s) ∧ w'.cell? ⟨w.heap.size, 5, none⟩ = some (.int .u64 p.a) ∧ w'.cell? ⟨w.heap.size, 6, none⟩ = some (.int .u64 p.b) ∧ w'.cell? ⟨w.heap.size, 7, none⟩ = some (.bool p.s') ∧ w'.cell? ⟨w.heap.size, 8, none⟩ = some (.int .u64 p.a') ∧ w'.cell? ⟨w.heap.size, 9, none⟩ = some (.int .u64 p.b') ∧ w'.cell? ⟨w.heap.size, 10, none⟩ = some (.string p.d)) := Lib.hid fun w' hb => (HK1.out.below hb HK1.out.lt).s11
      have hR : Below w1.heap.size w1 w1.drew := (Below.refl _ _).drew
      clear hb f0 f1 f2 f3 f4 f5 f6 f7 f8 f9 f10
      obtain ⟨f0, f1, f2, f3, f4, f5, f6, f7, f8, f9, f10⟩ := HK1.out.s11
      go_wp2
      refine wp_region_held_drew (S := (fun w' => w'.cell? ⟨w.heap.size, 0, none⟩ = some (.int .i64 p.c) ∧ w'.cell? ⟨w.heap.size, 1, none⟩ = some (.int .i64 p.f) ∧ w'.cell? ⟨w.heap.size, 2, none⟩ = some (.int .i64 p.n) ∧ w'.cell? ⟨w.heap.size, 3, none⟩ = some (.int .i64 p.h) ∧ w'.cell? ⟨w.heap.size, 4, none⟩ = some (.bool p.s) ∧ w'.cell? ⟨w.heap.size, 5, none⟩ = some (.int .u64 p.a) ∧ w'.cell? ⟨w.heap.size, 6, none⟩ = some (.int .u64 p.b) ∧ w'.cell? ⟨w.heap.size, 7, none⟩ = some (.bool p.s') ∧ w'.cell? ⟨w.heap.size, 8, none⟩ = some (.int .u64 p.a') ∧ w'.cell? ⟨w.heap.size, 9, none⟩ = some (.int .u64 p.b') ∧ w'.cell? ⟨w.heap.size, 10, none⟩ = some (.string p.d))) (by kernel_rfl) ?_ (fun hHeld => ?_)
      · exact HC.out _ hR
      refine wpAnyH_take (i := 0) (oi := { dst := some 13, op := Go.Op.load 35 (Go.Operand.tmp 1), type := 35, pos := "ip6.go:63", after := #[], guard := none }) (v := ?_) rfl (by kernel_rfl) (by kernel_rfl) (by kernel_rfl) (fun _ _ _ h => h) (Or.inl ⟨by rfl, ?_⟩) (by assumption) ?_
      rotate_left
      · intro w hSw
        (try dsimp only at hSw)
        go_simp
        try (with_reducible rfl)
      try simp only [Act.put, List.setIfInBounds_toArray, List.set_cons_zero, List.set_cons_succ]
      refine wpAnyH_take (i := 3) (oi := { dst := some 16, op := Go.Op.fieldAddr 35 (Go.Operand.tmp 1) 6, type := 0, pos := "ip6.go:63", after := #[], guard := none }) (v := ?_) rfl (by kernel_rfl) (by kernel_rfl) (by kernel_rfl) (fun _ _ _ h => h) (Or.inl ⟨by rfl, ?_⟩) (by assumption) ?_
      rotate_left
      · intro w hSw
        (try dsimp only at hSw)
        go_simp
        try (with_reducible rfl)
      try simp only [Act.put, List.setIfInBounds_toArray, List.set_cons_zero, List.set_cons_succ]
      refine wpAnyH_take (i := 4) (oi := { dst := some 17, op := Go.Op.load 9 (Go.Operand.tmp 16), type := 9, pos := "ip6.go:63", after := #[{ on := 3, ground := Go.Ground.data }], guard := none }) (v := ?_) rfl (by kernel_rfl) (by kernel_rfl) (by kernel_rfl) (fun _ _ _ h => h) (Or.inl ⟨by rfl, ?_⟩) (by assumption) ?_
      rotate_left
      · intro w hSw
        (try dsimp only at hSw)
        go_simp
        try (with_reducible rfl)
      try simp only [Act.put, List.setIfInBounds_toArray, List.set_cons_zero, List.set_cons_succ]
      refine wpAnyH_ready (rs := [1]) (by kernel_rfl) (by simp) ?_
      refine AllReadyH.cons (o := { dst := some 14, op := Go.Op.call { callee := Go.Callee.value (Go.Operand.func 43), args := #[Go.Operand.tmp 13], argTypes := #[35] }, type := 61, pos := "ip6.go:63", after := #[{ on := 0, ground := Go.Ground.data }], guard := none }) rfl (fun K hK => ?_) AllReadyH.nil
      go_simp
      (go_at_call 43; (with_reducible refine Calls.mono (HH.out _) ?_); rintro e w2 ⟨v, rfl, ho, hb⟩; obtain ⟨A, c, rfl, hri, -⟩ := own_ri HBY.out ho; have hcv := conv_str (c := c) hri; rw [HSS.out] at hcv; replace hR := hR.trans (hb.mono hR.size); clear hb ho hri)
      go_wp2_with fail
      refine hK.out _ _ ?_ (fun hHeld => ?_)
      · exact HC.out _ hR
      clear hK K
      try simp only [Act.put, List.setIfInBounds_toArray, List.set_cons_zero, List.set_cons_succ]
      refine wpAnyH_ready (rs := [2]) (by kernel_rfl) (by simp) ?_
      refine AllReadyH.cons (o := { dst := some 15, op := Go.Op.convert 61 9 (Go.Operand.tmp 14), type := 9, pos := "ip6.go:63", after := #[{ on := 1, ground := Go.Ground.data }], guard := none }) rfl (fun K hK => ?_) AllReadyH.nil
      go_simp
      refine hK.out _ _ ?_ (fun hHeld => ?_)
      · exact HC.out _ hR
      clear hK K
      try simp only [Act.put, List.setIfInBounds_toArray, List.set_cons_zero, List.set_cons_succ]
      refine wpAnyH_take (i := 5) (oi := { dst := some 18, op := Go.Op.binOp Go.BinOp.add 9 (Go.Operand.tmp 15) (Go.Operand.tmp 17) 9, type := 9, pos := "ip6.go:63", after := #[{ on := 2, ground := Go.Ground.data }, { on := 4, ground := Go.Ground.data }], guard := none }) (v := ?_) rfl (by kernel_rfl) (by kernel_rfl) (by kernel_rfl) (fun _ _ _ h => h) (Or.inl ⟨by rfl, ?_⟩) (by assumption) ?_
      rotate_left
      · intro w hSw
        (try dsimp only at hSw)
        go_simp
        try (with_reducible rfl)
      try simp only [Act.put, List.setIfInBounds_toArray, List.set_cons_zero, List.set_cons_succ]
      refine wpAnyH_take (i := 6) (oi := { dst := some 2, op := Go.Op.assign (Go.Operand.tmp 18), type := 9, pos := "ip6.go:63", after := #[{ on := 5, ground := Go.Ground.data }, { on := 1, ground := Go.Ground.chain }, { on := 0, ground := Go.Ground.phase }, { on := 1, ground := Go.Ground.phase }, { on := 2, ground := Go.Ground.phase }, { on := 3, ground := Go.Ground.phase }, { on := 4, ground := Go.Ground.phase }, { on := 5, ground := Go.Ground.phase }], guard := none }) (v := ?_) rfl (by kernel_rfl) (by kernel_rfl) (by kernel_rfl) (fun _ _ _ h => h) (Or.inl ⟨by rfl, ?_⟩) (by assumption) ?_
      rotate_left
      · intro w hSw
        (try dsimp only at hSw)
        go_simp
        try (with_reducible rfl)
      try simp only [Act.put, List.setIfInBounds_toArray, List.set_cons_zero, List.set_cons_succ]
      refine wpAnyH_take (i := 7) (oi := { dst := some 3, op := Go.Op.assign (Go.Operand.const (Go.Value.int Go.IntKind.i64 0)), type := 28, pos := "ip6.go:63", after := #[{ on := 6, ground := Go.Ground.chain }, { on := 0, ground := Go.Ground.phase }, { on := 1, ground := Go.Ground.phase }, { on := 2, ground := Go.Ground.phase }, { on := 3, ground := Go.Ground.phase }, { on := 4, ground := Go.Ground.phase }, { on := 5, ground := Go.Ground.phase }, { on := 6, ground := Go.Ground.phase }], guard := none }) (v := ?_) rfl (by kernel_rfl) (by kernel_rfl) (by kernel_rfl) (fun _ _ _ h => h) (Or.inl ⟨by rfl, ?_⟩) (by assumption) ?_
      rotate_left
      · intro w hSw
        (try dsimp only at hSw)
        go_simp
        try (with_reducible rfl)
      try simp only [Act.put, List.setIfInBounds_toArray, List.set_cons_zero, List.set_cons_succ]
      refine wpAnyH_done (by kernel_rfl) ?_ _

      clear f0 f1 f2 f3 f4 f5 f6 f7 f8 f9 f10 hcv
      go_wp2
      go_ret2
      exact ⟨by unfold lySV; rw [HX.out]; rfl, L1.out.trans (hR.mono L1.out.size)⟩
    · have hrg := rgS_iff.1 hV
      have HX := Lib.hid (lyS_long hV (by omega))
      have d0 : (65535 : Int) < p.d.size := by omega
      clear hV hrg
      go_enter Try.func16, Try.ntmps16
      go_wp2_with fail
      refine Calls.mono (H1.out _) ?_
      rintro e w1 ⟨rfl, hb⟩
      have L1 := Lib.hid (L0.out.trans (hb.mono L0.out.size))
      have HK1 := Lib.hid (HK0.out.below hb HK0.out.lt)
      clear hb f0 f1 f2 f3 f4 f5 f6 f7 f8 f9 f10
      obtain ⟨f0, f1, f2, f3, f4, f5, f6, f7, f8, f9, f10⟩ := HK1.out.s11
      go_wp2
      go_ret2
      exact ⟨by unfold lySV; rw [HX.out]; rfl, L1.out⟩
end Go.Proofs.Ytbhddodghbhjiaa
