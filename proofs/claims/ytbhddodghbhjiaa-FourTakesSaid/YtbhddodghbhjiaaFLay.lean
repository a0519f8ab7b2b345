/-
  ip4.Lay of any packet.
-/
import Derived.Test.YtbhddodghbhjiaaFHd
import Derived.Test.YtbhddodghbhjiaaFConv
namespace Go.Proofs.Ytbhddodghbhjiaa
open Go.RowKit
set_option linter.unusedVariables false

theorem ly_no {p : Pk} (h : rgB p = false) : lyR p = (⟨#[]⟩, 50) := by unfold lyR; rw [if_pos h]
theorem ly_long {p : Pk} (h : rgB p = true) (ht : 65535 < 20 + p.o.size + p.d.size) : lyR p = (⟨#[]⟩, 53) := by unfold lyR; rw [h, if_neg (by decide), if_pos ht]
theorem ret_si {s t : ByteArray} {a b : Int} (h : (s, a) = (t, b)) : Ending.returned (.tuple #[.string s, .int .i64 a]) = .returned (.tuple #[.string t, .int .i64 b]) := by injection h with h1 h2; rw [h1, h2]
set_option maxRecDepth 100000 in
set_option maxHeartbeats 4000000 in
theorem lay_any (p : Pk) (hw : Wf p) (w : World) :
    Calls Try.prog 27 #[p.val] w fun e w' => e = .returned (lyRV p) ∧ Below w.heap.size w w' := by
  obtain ⟨V, hV⟩ : ∃ V, rgB p = V := ⟨_, rfl⟩
  have H1 := Lib.hid (fun W => ispk_any p hV W)
  have K0 := Blk.new w 27 (fcs p)
  have L0 := Lib.hid ((Below.refl _ w).alloc (Nat.le_refl _) (.cells (fcs p) 27))
  obtain ⟨f0, f1, f2, f3, f4, f5, f6, f7, f8, f9, f10, f11, f12, f13, f14⟩ := K0.f15
  have HK0 := Lib.hid K0
  clear K0
  cases V
  · have HX := Lib.hid (ly_no hV)
    clear hV
    go_enter Try.func27, Try.ntmps27
    go_wp2_with fail
    refine Calls.mono (H1.out _) ?_
    rintro e w1 ⟨rfl, hb⟩
    have L1 := Lib.hid (L0.out.trans (hb.mono L0.out.size))
    clear hb f0 f1 f2 f3 f4 f5 f6 f7 f8 f9 f10 f11 f12 f13 f14
    go_wp2
    go_ret2
    exact ⟨by unfold lyRV; rw [HX.out]; rfl, L1.out⟩
  · by_cases ht : 20 + p.o.size + p.d.size ≤ 65535
    · have hrg := rg_iff.1 hV
      have HX := Lib.hid (ly_ok hrg ht)
      have HH := Lib.hid (fun W => header_at p hrg hw ht W)
      obtain ⟨SS, hSS⟩ : ∃ SS, strOfNums (hdN p (chk p)) = SS := ⟨_, rfl⟩
      have hssz : SS.size ≤ 100 := by rw [← hSS, strOfNums_size, hdN_len]; have := hrg.ol; omega
      have hadd : ∀ W : World, (Op.stringOp .add SS p.d).run Try.prog W = .ok (.string (SS ++ p.d)) W := fun W => run_string_add_sum _ _ _ (by omega)
      rw [hSS] at HX
      have HSS := Lib.hid hSS
      have HBY := Lib.hid (hdN_by p (chk p)).wf
      have d0 : ¬ (65515 : Int) - p.o.size < p.d.size := by omega
      have d1 : (p.o.size : Int) ≤ 40 := by have := hrg.ol; omega
      clear hV hrg hSS
      go_enter Try.func27, Try.ntmps27
      go_wp2_with fail
      refine Calls.mono (H1.out _) ?_
      rintro e w1 ⟨rfl, hb⟩
      have L1 := Lib.hid (L0.out.trans (hb.mono L0.out.size))
      have HK1 := Lib.hid (HK0.out.below hb HK0.out.lt)
      have HC : Hid (∀ w', Below w1.heap.size w1 w' → w'.cell? ⟨w.heap.size, 0, none⟩ = some (.int .i64 p.tos) ∧ w'.cell? ⟨w.heap.size, 1, none⟩ = some (.int .i64 p.id) ∧ w'.cell? ⟨w.heap.size, 2, none⟩ = some (.bool p.df) ∧ w'.cell? ⟨w.heap.size, 3, none⟩ = some (.bool p.mf) ∧ w'.cell? ⟨w.heap.size, 4, none⟩ = some (.int .i64 p.off) ∧ w'.cell? ⟨w.heap.size, 5, none⟩ = some (.int .i64 p.ttl) ∧ w'.cell? ⟨w.heap.size, 6, none⟩ = some (.int .i64 p.pro) ∧ w'.cell? ⟨w.heap.size, 7, none⟩ = some (.bool p.s) ∧ w'.cell? ⟨w.heap.size, 8, none⟩ = some (.int .u64 p.h) ∧ w'.cell? ⟨w.heap.size, 9, none⟩ = some (.int .u64 p.l) ∧ w'.cell? ⟨w.heap.size, 10, none⟩ = some (.bool p.s') ∧ w'.cell? ⟨w.heap.size, 11, none⟩ = some (.int .u64 p.h') ∧ w'.cell? ⟨w.heap.size, 12, none⟩ = some (.int .u64 p.l') ∧ w'.cell? ⟨w.heap.size, 13, none⟩ = some (.string p.o) ∧ w'.cell? ⟨w.heap.size, 14, none⟩ = some (.string p.d)) := Lib.hid fun w' hb => (HK1.out.below hb HK1.out.lt).f15
      have hR : Below w1.heap.size w1 w1.drew := (Below.refl _ _).drew
      clear hb f0 f1 f2 f3 f4 f5 f6 f7 f8 f9 f10 f11 f12 f13 f14
      obtain ⟨f0, f1, f2, f3, f4, f5, f6, f7, f8, f9, f10, f11, f12, f13, f14⟩ := HK1.out.f15
      go_wp2
      refine wp_region_held_drew (S := (fun w' => w'.cell? ⟨w.heap.size, 0, none⟩ = some (.int .i64 p.tos) ∧ w'.cell? ⟨w.heap.size, 1, none⟩ = some (.int .i64 p.id) ∧ w'.cell? ⟨w.heap.size, 2, none⟩ = some (.bool p.df) ∧ w'.cell? ⟨w.heap.size, 3, none⟩ = some (.bool p.mf) ∧ w'.cell? ⟨w.heap.size, 4, none⟩ = some (.int .i64 p.off) ∧ w'.cell? ⟨w.heap.size, 5, none⟩ = some (.int .i64 p.ttl) ∧ w'.cell? ⟨w.heap.size, 6, none⟩ = some (.int .i64 p.pro) ∧ w'.cell? ⟨w.heap.size, 7, none⟩ = some (.bool p.s) ∧ w'.cell? ⟨w.heap.size, 8, none⟩ = some (.int .u64 p.h) ∧ w'.cell? ⟨w.heap.size, 9, none⟩ = some (.int .u64 p.l) ∧ w'.cell? ⟨w.heap.size, 10, none⟩ = some (.bool p.s') ∧ w'.cell? ⟨w.heap.size, 11, none⟩ = some (.int .u64 p.h') ∧ w'.cell? ⟨w.heap.size, 12, none⟩ = some (.int .u64 p.l') ∧ w'.cell? ⟨w.heap.size, 13, none⟩ = some (.string p.o) ∧ w'.cell? ⟨w.heap.size, 14, none⟩ = some (.string p.d))) (by kernel_rfl) ?_ (fun hHeld => ?_)
      · exact HC.out _ hR
      refine wpAnyH_take (i := 0) (oi := { dst := some 17, op := Go.Op.load 27 (Go.Operand.tmp 1), type := 27, pos := "ip4.go:112", after := #[], guard := none }) (v := ?_) rfl (by kernel_rfl) (by kernel_rfl) (by kernel_rfl) (fun _ _ _ h => h) (Or.inl ⟨by rfl, ?_⟩) (by assumption) ?_
      rotate_left
      · intro w hSw
        (try dsimp only at hSw)
        go_simp
        try (with_reducible rfl)
      try simp only [Act.put, List.setIfInBounds_toArray, List.set_cons_zero, List.set_cons_succ]
      refine wpAnyH_take (i := 3) (oi := { dst := some 20, op := Go.Op.fieldAddr 27 (Go.Operand.tmp 1) 10, type := 0, pos := "ip4.go:112", after := #[], guard := none }) (v := ?_) rfl (by kernel_rfl) (by kernel_rfl) (by kernel_rfl) (fun _ _ _ h => h) (Or.inl ⟨by rfl, ?_⟩) (by assumption) ?_
      rotate_left
      · intro w hSw
        (try dsimp only at hSw)
        go_simp
        try (with_reducible rfl)
      try simp only [Act.put, List.setIfInBounds_toArray, List.set_cons_zero, List.set_cons_succ]
      refine wpAnyH_take (i := 4) (oi := { dst := some 21, op := Go.Op.load 9 (Go.Operand.tmp 20), type := 9, pos := "ip4.go:112", after := #[{ on := 3, ground := Go.Ground.data }], guard := none }) (v := ?_) rfl (by kernel_rfl) (by kernel_rfl) (by kernel_rfl) (fun _ _ _ h => h) (Or.inl ⟨by rfl, ?_⟩) (by assumption) ?_
      rotate_left
      · intro w hSw
        (try dsimp only at hSw)
        go_simp
        try (with_reducible rfl)
      try simp only [Act.put, List.setIfInBounds_toArray, List.set_cons_zero, List.set_cons_succ]
      refine wpAnyH_ready (rs := [1]) (by kernel_rfl) (by simp) ?_
      refine AllReadyH.cons (o := { dst := some 18, op := Go.Op.call { callee := Go.Callee.value (Go.Operand.func 52), args := #[Go.Operand.tmp 17], argTypes := #[27] }, type := 61, pos := "ip4.go:112", after := #[{ on := 0, ground := Go.Ground.data }], guard := none }) rfl (fun K hK => ?_) AllReadyH.nil
      go_simp
      (go_at_call 52; (with_reducible refine Calls.mono (HH.out _) ?_); rintro e w2 ⟨v, rfl, ho, hb⟩; obtain ⟨A, c, rfl, hri, -⟩ := own_ri HBY.out ho; have hcv := conv_str (c := c) hri; rw [HSS.out] at hcv; replace hR := hR.trans (hb.mono hR.size); clear hb ho hri)
      go_wp2_with fail
      refine hK.out _ _ ?_ (fun hHeld => ?_)
      · exact HC.out _ hR
      clear hK K
      try simp only [Act.put, List.setIfInBounds_toArray, List.set_cons_zero, List.set_cons_succ]
      refine wpAnyH_ready (rs := [2]) (by kernel_rfl) (by simp) ?_
      refine AllReadyH.cons (o := { dst := some 19, op := Go.Op.convert 61 9 (Go.Operand.tmp 18), type := 9, pos := "ip4.go:112", after := #[{ on := 1, ground := Go.Ground.data }], guard := none }) rfl (fun K hK => ?_) AllReadyH.nil
      go_simp
      refine hK.out _ _ ?_ (fun hHeld => ?_)
      · exact HC.out _ hR
      clear hK K
      try simp only [Act.put, List.setIfInBounds_toArray, List.set_cons_zero, List.set_cons_succ]
      refine wpAnyH_take (i := 5) (oi := { dst := some 22, op := Go.Op.binOp Go.BinOp.add 9 (Go.Operand.tmp 19) (Go.Operand.tmp 21) 9, type := 9, pos := "ip4.go:112", after := #[{ on := 2, ground := Go.Ground.data }, { on := 4, ground := Go.Ground.data }], guard := none }) (v := ?_) rfl (by kernel_rfl) (by kernel_rfl) (by kernel_rfl) (fun _ _ _ h => h) (Or.inl ⟨by rfl, ?_⟩) (by assumption) ?_
      rotate_left
      · intro w hSw
        (try dsimp only at hSw)
        go_simp
        try (with_reducible rfl)
      try simp only [Act.put, List.setIfInBounds_toArray, List.set_cons_zero, List.set_cons_succ]
      refine wpAnyH_take (i := 6) (oi := { dst := some 2, op := Go.Op.assign (Go.Operand.tmp 22), type := 9, pos := "ip4.go:112", after := #[{ on := 5, ground := Go.Ground.data }, { on := 1, ground := Go.Ground.chain }, { on := 0, ground := Go.Ground.phase }, { on := 1, ground := Go.Ground.phase }, { on := 2, ground := Go.Ground.phase }, { on := 3, ground := Go.Ground.phase }, { on := 4, ground := Go.Ground.phase }, { on := 5, ground := Go.Ground.phase }], guard := none }) (v := ?_) rfl (by kernel_rfl) (by kernel_rfl) (by kernel_rfl) (fun _ _ _ h => h) (Or.inl ⟨by rfl, ?_⟩) (by assumption) ?_
      rotate_left
      · intro w hSw
        (try dsimp only at hSw)
        go_simp
        try (with_reducible rfl)
      try simp only [Act.put, List.setIfInBounds_toArray, List.set_cons_zero, List.set_cons_succ]
      refine wpAnyH_take (i := 7) (oi := { dst := some 3, op := Go.Op.assign (Go.Operand.const (Go.Value.int Go.IntKind.i64 0)), type := 28, pos := "ip4.go:112", after := #[{ on := 6, ground := Go.Ground.chain }, { on := 0, ground := Go.Ground.phase }, { on := 1, ground := Go.Ground.phase }, { on := 2, ground := Go.Ground.phase }, { on := 3, ground := Go.Ground.phase }, { on := 4, ground := Go.Ground.phase }, { on := 5, ground := Go.Ground.phase }, { on := 6, ground := Go.Ground.phase }], guard := none }) (v := ?_) rfl (by kernel_rfl) (by kernel_rfl) (by kernel_rfl) (fun _ _ _ h => h) (Or.inl ⟨by rfl, ?_⟩) (by assumption) ?_
      rotate_left
      · intro w hSw
        (try dsimp only at hSw)
        go_simp
        try (with_reducible rfl)
      try simp only [Act.put, List.setIfInBounds_toArray, List.set_cons_zero, List.set_cons_succ]
      refine wpAnyH_done (by kernel_rfl) ?_ _

      clear f0 f1 f2 f3 f4 f5 f6 f7 f8 f9 f10 f11 f12 f13 f14 hcv
      go_wp2
      go_ret2
      exact ⟨by unfold lyRV; rw [HX.out]; rfl, L1.out.trans (hR.mono L1.out.size)⟩
    · have hrg := rg_iff.1 hV
      have HX := Lib.hid (ly_long hV (by omega))
      have d0 : (65515 : Int) - p.o.size < p.d.size := by omega
      have d1 : (p.o.size : Int) ≤ 40 := by have := hrg.ol; omega
      clear hV hrg
      go_enter Try.func27, Try.ntmps27
      go_wp2_with fail
      refine Calls.mono (H1.out _) ?_
      rintro e w1 ⟨rfl, hb⟩
      have L1 := Lib.hid (L0.out.trans (hb.mono L0.out.size))
      have HK1 := Lib.hid (HK0.out.below hb HK0.out.lt)
      clear hb f0 f1 f2 f3 f4 f5 f6 f7 f8 f9 f10 f11 f12 f13 f14
      obtain ⟨f0, f1, f2, f3, f4, f5, f6, f7, f8, f9, f10, f11, f12, f13, f14⟩ := HK1.out.f15
      go_wp2
      go_ret2
      exact ⟨by unfold lyRV; rw [HX.out]; rfl, L1.out⟩
end Go.Proofs.Ytbhddodghbhjiaa
