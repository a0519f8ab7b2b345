/-
  The document's own Lay of any packet.
-/
import Derived.Test.YtbhddodghbhjiaaFRHd
import Derived.Test.YtbhddodghbhjiaaFLay
import Derived.Test.YtbhddodghbhjiaaFConv
import Derived.Test.YtbhddodghbhjiaaRefSum
namespace Go.Proofs.Ytbhddodghbhjiaa
open Go.RowKit
set_option linter.unusedVariables false

set_option maxRecDepth 100000 in
set_option maxHeartbeats 4000000 in
theorem rlay_any (p : Pk) (hs : p.o.size ≤ 4398046511104) (hd : p.d.size ≤ 140737488355328) (hw : Wf p) (w : World) :
    Calls Try.prog 40 #[p.val] w fun e w' => e = .returned (lyRV p) ∧ Below w.heap.size w w' := by
  obtain ⟨V, hV⟩ : ∃ V, rgB p = V := ⟨_, rfl⟩
  have H1 := Lib.hid (fun W => rright_any p hs hV W)
  have K0 := Blk.new w 27 (fcs p)
  have L0 := Lib.hid ((Below.refl _ w).alloc (Nat.le_refl _) (.cells (fcs p) 27))
  obtain ⟨f0, f1, f2, f3, f4, f5, f6, f7, f8, f9, f10, f11, f12, f13, f14⟩ := K0.f15
  have HK0 := Lib.hid K0
  clear K0
  cases V
  · have HX := Lib.hid (ly_no hV)
    clear hV
    go_enter Try.func40, Try.ntmps40
    go_wp2_with fail
    refine Calls.mono (H1.out _) ?_
    rintro e w1 ⟨rfl, hb⟩
    have L1 := Lib.hid (L0.out.trans (hb.mono L0.out.size))
    clear hb f0 f1 f2 f3 f4 f5 f6 f7 f8 f9 f10 f11 f12 f13 f14
    go_wp2
    go_ret2
    exact ⟨by unfold lyRV; rw [HX.out]; rfl, L1.out⟩
  · by_cases ht : 20 + p.o.size + p.d.size ≤ 65535
    · have hrg := rg_iff.1 hV
      have HX := Lib.hid (ly_ok hrg ht)
      have hcb := chk_bd p
      have HG0 := Lib.hid (fun W => rheader_at p hrg hw ht 0 (by decide) (by decide) W)
      have HH := Lib.hid (fun W => rheader_at p hrg hw ht (chk p) hcb.1 hcb.2 W)
      have hnl : 20 + p.o.size + 9 ≤ 140737488355328 := by omega
      have HCk := Lib.hid (fun W B A c hz hB => (refCheck_any W B A (20 + p.o.size) c (hdN p 0) hz hB hnl : Calls _ _ _ _ (fun e w' => e = .returned (.int .u16 (chk p)) ∧ Below W.heap.size W w')))
      have HBY0 := Lib.hid (hdN_by p 0).wf
      obtain ⟨SS, hSS⟩ : ∃ SS, strOfNums (hdN p (chk p)) = SS := ⟨_, rfl⟩
      have hssz : SS.size ≤ 100 := by rw [← hSS, strOfNums_size, hdN_len]; have := hrg.ol; omega
      have hadd : ∀ W : World, (Op.stringOp .add SS p.d).run Try.prog W = .ok (.string (SS ++ p.d)) W := fun W => run_string_add_sum _ _ _ (by omega)
      rw [hSS] at HX
      have HSS := Lib.hid hSS
      have HBY := Lib.hid (hdN_by p (chk p)).wf
      obtain ⟨C, hC⟩ : ∃ C, chk p = C := ⟨_, rfl⟩
      rw [hC] at HH HBY HSS
      rw [show (65535 - fo (tot 0 (hdN p 0)) : Int) = C from hC] at HCk
      have d0 : ¬ (65535 : Int) < 20 + p.o.size + p.d.size := by omega
      have d1 : (p.o.size : Int) ≤ 40 := by have := hrg.ol; omega
      clear hV hrg hSS hcb hC hnl
      go_enter Try.func40, Try.ntmps40
      go_wp2_with fail
      refine Calls.mono (H1.out _) ?_
      rintro e w1 ⟨rfl, hb⟩
      have L1 := Lib.hid (L0.out.trans (hb.mono L0.out.size))
      have HK1 := Lib.hid (HK0.out.below hb HK0.out.lt)
      clear hb f0 f1 f2 f3 f4 f5 f6 f7 f8 f9 f10 f11 f12 f13 f14
      obtain ⟨f0, f1, f2, f3, f4, f5, f6, f7, f8, f9, f10, f11, f12, f13, f14⟩ := HK1.out.f15
      go_wp2_with fail
      refine Calls.mono (HG0.out _) ?_
      rintro e w2 ⟨v, rfl, ho, hb⟩
      obtain ⟨A, c, rfl, hri, -⟩ := own_ri HBY0.out ho
      have HRI := Lib.hid hri
      have L2 := Lib.hid (L1.out.trans (hb.mono L1.out.size))
      have HK2 := Lib.hid (HK1.out.below hb HK1.out.lt)
      clear hb ho hri f0 f1 f2 f3 f4 f5 f6 f7 f8 f9 f10 f11 f12 f13 f14
      obtain ⟨f0, f1, f2, f3, f4, f5, f6, f7, f8, f9, f10, f11, f12, f13, f14⟩ := HK2.out.f15
      go_wp2_with fail
      refine Calls.mono (HCk.out _ _ _ _ HRI.out (Nat.le_refl _)) ?_
      rintro e w3 ⟨rfl, hb⟩
      have L3 := Lib.hid (L2.out.trans (hb.mono L2.out.size))
      have HK3 := Lib.hid (HK2.out.below hb HK2.out.lt)
      have HC : Hid (∀ w', Below w3.heap.size w3 w' → w'.cell? ⟨w.heap.size, 0, none⟩ = some (.int .i64 p.tos) ∧ w'.cell? ⟨w.heap.size, 1, none⟩ = some (.int .i64 p.id) ∧ w'.cell? ⟨w.heap.size, 2, none⟩ = some (.bool p.df) ∧ w'.cell? ⟨w.heap.size, 3, none⟩ = some (.bool p.mf) ∧ w'.cell? ⟨w.heap.size, 4, none⟩ = some (.int .i64 p.off) ∧ w'.cell? ⟨w.heap.size, 5, none⟩ = some (.int .i64 p.ttl) ∧ w'.cell? ⟨w.heap.size, 6, none⟩ = some (.int .i64 p.pro) ∧ w'.cell? ⟨w.heap.size, 7, none⟩ = some (.bool p.s) ∧ w'.cell? ⟨w.heap.size, 8, none⟩ = some (.int .u64 p.h) ∧ w'.cell? ⟨w.heap.size, 9, none⟩ = some (.int .u64 p.l) ∧ w'.cell? ⟨w.heap.size, 10, none⟩ = some (.bool p.s') ∧ w'.cell? ⟨w.heap.size, 11, none⟩ = some (.int .u64 p.h') ∧ w'.cell? ⟨w.heap.size, 12, none⟩ = some (.int .u64 p.l') ∧ w'.cell? ⟨w.heap.size, 13, none⟩ = some (.string p.o) ∧ w'.cell? ⟨w.heap.size, 14, none⟩ = some (.string p.d)) := Lib.hid fun w' hb => (HK3.out.below hb HK3.out.lt).f15
      have hR : Below w3.heap.size w3 w3.drew := (Below.refl _ _).drew
      clear hb f0 f1 f2 f3 f4 f5 f6 f7 f8 f9 f10 f11 f12 f13 f14
      obtain ⟨f0, f1, f2, f3, f4, f5, f6, f7, f8, f9, f10, f11, f12, f13, f14⟩ := HK3.out.f15
      go_wp2
      refine wp_region_held_drew (S := (fun w' => w'.cell? ⟨w.heap.size, 0, none⟩ = some (.int .i64 p.tos) ∧ w'.cell? ⟨w.heap.size, 1, none⟩ = some (.int .i64 p.id) ∧ w'.cell? ⟨w.heap.size, 2, none⟩ = some (.bool p.df) ∧ w'.cell? ⟨w.heap.size, 3, none⟩ = some (.bool p.mf) ∧ w'.cell? ⟨w.heap.size, 4, none⟩ = some (.int .i64 p.off) ∧ w'.cell? ⟨w.heap.size, 5, none⟩ = some (.int .i64 p.ttl) ∧ w'.cell? ⟨w.heap.size, 6, none⟩ = some (.int .i64 p.pro) ∧ w'.cell? ⟨w.heap.size, 7, none⟩ = some (.bool p.s) ∧ w'.cell? ⟨w.heap.size, 8, none⟩ = some (.int .u64 p.h) ∧ w'.cell? ⟨w.heap.size, 9, none⟩ = some (.int .u64 p.l) ∧ w'.cell? ⟨w.heap.size, 10, none⟩ = some (.bool p.s') ∧ w'.cell? ⟨w.heap.size, 11, none⟩ = some (.int .u64 p.h') ∧ w'.cell? ⟨w.heap.size, 12, none⟩ = some (.int .u64 p.l') ∧ w'.cell? ⟨w.heap.size, 13, none⟩ = some (.string p.o) ∧ w'.cell? ⟨w.heap.size, 14, none⟩ = some (.string p.d))) (by kernel_rfl) ?_ (fun hHeld => ?_)
      · exact HC.out _ hR
      refine wpAnyH_take (i := 0) (oi := { dst := some 22, op := Go.Op.load 27 (Go.Operand.tmp 1), type := 27, pos := "ref.go:61", after := #[], guard := none }) (v := ?_) rfl (by kernel_rfl) (by kernel_rfl) (by kernel_rfl) (fun _ _ _ h => h) (Or.inl ⟨by rfl, ?_⟩) (by assumption) ?_
      rotate_left
      · intro w hSw
        (try dsimp only at hSw)
        go_simp
        try (with_reducible rfl)
      try simp only [Act.put, List.setIfInBounds_toArray, List.set_cons_zero, List.set_cons_succ]
      refine wpAnyH_take (i := 1) (oi := { dst := some 23, op := Go.Op.move (Go.Operand.tmp 5), type := 62, pos := "ref.go:61", after := #[], guard := none }) (v := ?_) rfl (by kernel_rfl) (by kernel_rfl) (by kernel_rfl) (fun _ _ _ h => h) (Or.inl ⟨by rfl, ?_⟩) (by assumption) ?_
      rotate_left
      · intro w hSw
        (try dsimp only at hSw)
        go_simp
        try (with_reducible rfl)
      try simp only [Act.put, List.setIfInBounds_toArray, List.set_cons_zero, List.set_cons_succ]
      refine wpAnyH_take (i := 4) (oi := { dst := some 26, op := Go.Op.fieldAddr 27 (Go.Operand.tmp 1) 10, type := 0, pos := "ref.go:61", after := #[], guard := none }) (v := ?_) rfl (by kernel_rfl) (by kernel_rfl) (by kernel_rfl) (fun _ _ _ h => h) (Or.inl ⟨by rfl, ?_⟩) (by assumption) ?_
      rotate_left
      · intro w hSw
        (try dsimp only at hSw)
        go_simp
        try (with_reducible rfl)
      try simp only [Act.put, List.setIfInBounds_toArray, List.set_cons_zero, List.set_cons_succ]
      refine wpAnyH_take (i := 5) (oi := { dst := some 27, op := Go.Op.load 9 (Go.Operand.tmp 26), type := 9, pos := "ref.go:61", after := #[{ on := 4, ground := Go.Ground.data }], guard := none }) (v := ?_) rfl (by kernel_rfl) (by kernel_rfl) (by kernel_rfl) (fun _ _ _ h => h) (Or.inl ⟨by rfl, ?_⟩) (by assumption) ?_
      rotate_left
      · intro w hSw
        (try dsimp only at hSw)
        go_simp
        try (with_reducible rfl)
      try simp only [Act.put, List.setIfInBounds_toArray, List.set_cons_zero, List.set_cons_succ]
      refine wpAnyH_ready (rs := [2]) (by kernel_rfl) (by simp) ?_
      refine AllReadyH.cons (o := { dst := some 24, op := Go.Op.call { callee := Go.Callee.value (Go.Operand.func 71), args := #[Go.Operand.tmp 22, Go.Operand.tmp 23], argTypes := #[27, 62] }, type := 61, pos := "ref.go:61", after := #[{ on := 0, ground := Go.Ground.data }, { on := 1, ground := Go.Ground.data }], guard := none }) rfl (fun K hK => ?_) AllReadyH.nil
      go_simp
      (go_at_call 71; (with_reducible refine Calls.mono (HH.out _) ?_); rintro e w4 ⟨v, rfl, ho, hb⟩; obtain ⟨A, c, rfl, hri, -⟩ := own_ri HBY.out ho; have hcv := conv_str (c := c) hri; rw [HSS.out] at hcv; replace hR := hR.trans (hb.mono hR.size); clear hb ho hri)
      go_wp2_with fail
      refine hK.out _ _ ?_ (fun hHeld => ?_)
      · exact HC.out _ hR
      clear hK K
      try simp only [Act.put, List.setIfInBounds_toArray, List.set_cons_zero, List.set_cons_succ]
      refine wpAnyH_ready (rs := [3]) (by kernel_rfl) (by simp) ?_
      refine AllReadyH.cons (o := { dst := some 25, op := Go.Op.convert 61 9 (Go.Operand.tmp 24), type := 9, pos := "ref.go:61", after := #[{ on := 2, ground := Go.Ground.data }], guard := none }) rfl (fun K hK => ?_) AllReadyH.nil
      go_simp
      refine hK.out _ _ ?_ (fun hHeld => ?_)
      · exact HC.out _ hR
      clear hK K
      try simp only [Act.put, List.setIfInBounds_toArray, List.set_cons_zero, List.set_cons_succ]
      refine wpAnyH_take (i := 6) (oi := { dst := some 28, op := Go.Op.binOp Go.BinOp.add 9 (Go.Operand.tmp 25) (Go.Operand.tmp 27) 9, type := 9, pos := "ref.go:61", after := #[{ on := 3, ground := Go.Ground.data }, { on := 5, ground := Go.Ground.data }], guard := none }) (v := ?_) rfl (by kernel_rfl) (by kernel_rfl) (by kernel_rfl) (fun _ _ _ h => h) (Or.inl ⟨by rfl, ?_⟩) (by assumption) ?_
      rotate_left
      · intro w hSw
        (try dsimp only at hSw)
        go_simp
        try (with_reducible rfl)
      try simp only [Act.put, List.setIfInBounds_toArray, List.set_cons_zero, List.set_cons_succ]
      refine wpAnyH_take (i := 7) (oi := { dst := some 2, op := Go.Op.assign (Go.Operand.tmp 28), type := 9, pos := "ref.go:61", after := #[{ on := 6, ground := Go.Ground.data }, { on := 2, ground := Go.Ground.chain }, { on := 0, ground := Go.Ground.phase }, { on := 1, ground := Go.Ground.phase }, { on := 2, ground := Go.Ground.phase }, { on := 3, ground := Go.Ground.phase }, { on := 4, ground := Go.Ground.phase }, { on := 5, ground := Go.Ground.phase }, { on := 6, ground := Go.Ground.phase }], guard := none }) (v := ?_) rfl (by kernel_rfl) (by kernel_rfl) (by kernel_rfl) (fun _ _ _ h => h) (Or.inl ⟨by rfl, ?_⟩) (by assumption) ?_
      rotate_left
      · intro w hSw
        (try dsimp only at hSw)
        go_simp
        try (with_reducible rfl)
      try simp only [Act.put, List.setIfInBounds_toArray, List.set_cons_zero, List.set_cons_succ]
      refine wpAnyH_take (i := 8) (oi := { dst := some 3, op := Go.Op.assign (Go.Operand.const (Go.Value.int Go.IntKind.i64 0)), type := 28, pos := "ref.go:61", after := #[{ on := 7, ground := Go.Ground.chain }, { on := 0, ground := Go.Ground.phase }, { on := 1, ground := Go.Ground.phase }, { on := 2, ground := Go.Ground.phase }, { on := 3, ground := Go.Ground.phase }, { on := 4, ground := Go.Ground.phase }, { on := 5, ground := Go.Ground.phase }, { on := 6, ground := Go.Ground.phase }, { on := 7, ground := Go.Ground.phase }], guard := none }) (v := ?_) rfl (by kernel_rfl) (by kernel_rfl) (by kernel_rfl) (fun _ _ _ h => h) (Or.inl ⟨by rfl, ?_⟩) (by assumption) ?_
      rotate_left
      · intro w hSw
        (try dsimp only at hSw)
        go_simp
        try (with_reducible rfl)
      try simp only [Act.put, List.setIfInBounds_toArray, List.set_cons_zero, List.set_cons_succ]
      refine wpAnyH_done (by kernel_rfl) ?_ _

      clear f0 f1 f2 f3 f4 f5 f6 f7 f8 f9 f10 f11 f12 f13 f14 hcv
      go_wp2
      go_ret2
      exact ⟨by unfold lyRV; rw [HX.out]; rfl, L3.out.trans (hR.mono L3.out.size)⟩
    · have hrg := rg_iff.1 hV
      have HX := Lib.hid (ly_long hV (by omega))
      have d0 : (65535 : Int) < 20 + p.o.size + p.d.size := by omega
      have d1 : (p.o.size : Int) ≤ 40 := by have := hrg.ol; omega
      clear hV hrg
      go_enter Try.func40, Try.ntmps40
      go_wp2_with fail
      refine Calls.mono (H1.out _) ?_
      rintro e w1 ⟨rfl, hb⟩
      have L1 := Lib.hid (L0.out.trans (hb.mono L0.out.size))
      have HK1 := Lib.hid (HK0.out.below hb HK0.out.lt)
      clear hb f0 f1 f2 f3 f4 f5 f6 f7 f8 f9 f10 f11 f12 f13 f14
      obtain ⟨f0, f1, f2, f3, f4, f5, f6, f7, f8, f9, f10, f11, f12, f13, f14⟩ := HK1.out.f15
      go_wp2
      go_ret2
      exact ⟨by unfold lyRV; rw [HX.out]; rfl, L1.out⟩
end Go.Proofs.Ytbhddodghbhjiaa
