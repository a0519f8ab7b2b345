/-
  crosswaylaw15.RibHistory returns true for every input, and leaves its arguments alone.
  Conditions: none of our own.
-/
import Derived.Test.YtjlmgkdieffjcaaDoorRbHi
import Derived.Test.YtjlmgkdieffjcaaDoorREnv
namespace Go.Proofs.YtjlmgkdieffjcaaDoor
open Go.ChangeShapes Go.WideShapes Go.ChangeAt Go.RowKit
set_option linter.unusedVariables false
namespace RHis
theorem remH {N x : Nat} (hN : 0 < N) : Int.tmod (x : Int) (N : Int) = ((x % N : Nat) : Int) := by
  rw [Int.tmod_eq_emod_of_nonneg (by omega)]; rfl
set_option maxRecDepth 100000 in
set_option maxHeartbeats 16000000 in
theorem walk (w : World) (hE : EnvR w) (a0 : Option Addr) (l0 c0 : Nat) (z0 : List Stp) (w0 : IsStp w a0 l0 z0) (a1 : Int) (w1 : (Lit.int .i64 a1).wf = true) :
    Calls Tryd.prog 4 #[.slice a0 l0 c0, .int .i64 a1] w fun e w' => e = .returned (.bool true) ∧ Below w.heap.size w w' := by
  have HEn := Lib.hid hE
  have HZ := Lib.hid w0
  have hb1 : -9223372036854775808 ≤ a1 ∧ a1 ≤ 9223372036854775807 := by simpa [Lit.wf, IntKind.min, IntKind.max, IntKind.bits, IntKind.signed] using w1
  obtain ⟨y1, hy1⟩ : ∃ y : Int, (if a1 < 0 then -(a1 + 1) else a1) = y := ⟨_, rfl⟩
  have hc1 : (a1 < 0 ∧ IntKind.i64.wrap (a1 + 1) = a1 + 1 ∧ wrap64 (-(a1 + 1)) = y1 ∧ IntKind.i64.wrap (-(a1 + 1)) = y1) ∨ (¬ a1 < 0 ∧ a1 = y1 ∧ True ∧ True) := by
    split at hy1
    · left; refine ⟨by assumption, ?_, ?_, ?_⟩
      · rw [IntKind.wrap_i64]; omega
      · unfold wrap64; omega
      · rw [IntKind.wrap_i64]; omega
    · right; exact ⟨by assumption, hy1, trivial, trivial⟩
  have hy10 : 0 ≤ y1 := by split at hy1 <;> omega
  obtain ⟨yn, hyn⟩ : ∃ yn : Nat, y1 = yn := ⟨y1.toNat, by omega⟩
  have HC := Lib.hid (And.intro hc1 hyn)
  clear hE w0 w1 hb1 hy1 hc1 hy10 hyn
  go_enter Tryd.func4, Tryd.ntmps4
  go_wp2_with fail
  refine Calls.mono (awake_yes w HEn.out) ?_
  rintro e x1 ⟨rfl, hb1⟩
  have B1 := Lib.hid hb1
  have HM := Lib.hid (made_any w a0 l0 c0 z0 HZ.out x1 hb1 HEn.out)
  clear hb1
  go_wp2_with fail
  refine Calls.mono HM.out ?_
  rintro e x2 ⟨p, Sp, rfl, hY⟩
  obtain ⟨L, hL⟩ : ∃ L, plR z0 (min l0 60) = L := ⟨_, rfl⟩
  rw [hL] at hY
  have Y2 : Hid (StdR w x2 p Sp L) := Lib.hid ⟨hY.P, B1.out.trans (hY.bel.mono B1.out.size), fun s hs => Nat.le_trans B1.out.size (hY.abv s hs)⟩
  have HI := Lib.hid Y2.out.P.inv
  have HOk : Hid (∀ u ∈ L, PfOk u.1 ∧ PaOk u.2) := Lib.hid (by obtain ⟨m0, M0, hr⟩ := Y2.out.P; exact hr.ok)
  clear hL hY
  go_wp2_with fail
  refine Calls.mono (newP x2) ?_
  rintro e x3 ⟨q, Sq0, rfl, hQ, hb, hs⟩
  have hT3 : Tch x2 x3 [] := Tch.of_below [] hb
  have D3 : Hid (DuoR w x3 p Sp L q Sq0 []) := Lib.hid ⟨Y2.out.tch0 hT3, ⟨hQ, Y2.out.bel.trans (hT3.below Y2.out.bel.size (by simp)), fun s h => Nat.le_trans Y2.out.bel.size (hs s h)⟩, fun s h hm => by have := Y2.out.P.lt s h; have := hs s hm; omega⟩
  have HPr := Lib.hid (prefsP p Sp L x3 D3.out.P.P)
  clear hQ hb hs hT3
  obtain ⟨l, hl⟩ : ∃ l, prefsI L = l := ⟨_, rfl⟩
  obtain ⟨n, hn⟩ : ∃ n, l.length = n := ⟨_, rfl⟩
  have hn90 : n ≤ 90 := by rw [← hn, ← hl]; exact HI.out.ninety
  have HNod : Hid l.Nodup := Lib.hid (hl ▸ prefsI_nodup HI.out.inv)
  rw [hl, hn] at HPr
  have HN := Lib.hid hn
  have Hl := Lib.hid hl
  obtain ⟨qq, hqq⟩ : ∃ qq, yn % n = qq := ⟨_, rfl⟩
  have HQq := Lib.hid hqq
  have HAll : Hid (L.filter (toldD (rotP l qq n) ((false, 0, 0), 0) []) = L) := Lib.hid (by rw [← hn, ← hl]; exact told_all HI.out.inv qq _)
  clear hn hl hqq
  go_wp2_with fail
  refine Calls.mono HPr.out ?_
  rintro e x4 ⟨A, c, rfl, ho, hP, hT⟩
  have D4 := Lib.hid (D3.out.readP hP hT)
  have R4 : Hid (RwO x4 Sp Sq0 37 4 (.slice A n c) n (l.flatMap pfC)) := Lib.hid (RwO.new D3.out ho)
  clear ho hP hT
  have hc1 := HC.out.1
  rcases hc1 with ⟨n1, f1, g1, k1⟩ | ⟨n1, f1, g1, k1⟩
  all_goals
    go_wp2
    go_loopw [9] (fun iv wr => ∃ (i : Nat) (Sq : List Nat), iv = .int .i64 (i : Int) ∧ i ≤ n ∧ Hid (DuoR w wr p Sp L q Sq (L.filter (toldD (rotP l qq i) ((false, 0, 0), 0) []))) ∧ Hid (RwO wr Sp Sq 37 4 (.slice A n c) n (l.flatMap pfC))) (fun iv _ => n - (intOf iv).toNat)
    case atStart => exact ⟨0, Sq0, rfl, Nat.zero_le _, by rw [show rotP l qq 0 = [] from rfl, told_none]; exact D4, R4⟩
    case round =>
      obtain ⟨i, Sq, rfl, hi, hD, hR⟩ := hrel
      have i1 : IntKind.i64.wrap ((i : Int) + 1) = (i : Int) + 1 := by rw [IntKind.wrap_i64]; omega
      by_cases hin : i < n
      · have iI : (i : Int) < (n : Int) := by omega
        have i0 : (0 : Int) ≤ (i : Int) := by omega
        have hqn : qq < n := by rw [← HQq.out]; exact Nat.mod_lt _ (by omega)
        have r0 : ((n : Int) == 0) = false := by simp; omega
        have r0' : ¬ (n : Int) = 0 := by omega
        have r1 : Int.tmod y1 (n : Int) = (qq : Int) := by rw [HC.out.2, remH (by omega), HQq.out]
        have r2 : IntKind.i64.wrap ((i : Int) + (qq : Int)) = (i : Int) + (qq : Int) := by rw [IntKind.wrap_i64]; omega
        obtain ⟨ii, hii⟩ : ∃ ii, (i + qq) % n = ii := ⟨_, rfl⟩
        have hiin : ii < n := by rw [← hii]; exact Nat.mod_lt _ (by omega)
        have r3 : Int.tmod ((i : Int) + (qq : Int)) (n : Int) = (ii : Int) := by rw [← Int.natCast_add, remH (by omega), hii]
        have r4 : IntKind.i64.wrap (qq : Int) = (qq : Int) := by rw [IntKind.wrap_i64]; omega
        have r5 : IntKind.i64.wrap (ii : Int) = (ii : Int) := by rw [IntKind.wrap_i64]; omega
        have iiI : (ii : Int) < (n : Int) := by omega
        have ii0 : (0 : Int) ≤ (ii : Int) := by omega
        obtain ⟨f, hf⟩ : ∃ f, l[ii]? = some f := ⟨_, List.getElem?_eq_getElem (by rw [HN.out]; exact hiin)⟩
        have hf' : l[(i + qq) % l.length]? = some f := by rw [HN.out, hii]; exact hf
        have HNot := Lib.hid (rotP_not HNod.out (by rw [HN.out]; exact hin) hf')
        have HSuc := Lib.hid (rotP_succ hf')
        have hfm : f ∈ prefsI L := by rw [Hl.out]; exact List.mem_of_getElem? hf
        obtain ⟨u, hu, hue⟩ := (prefsI_mem HI.out.inv).1 hfm
        have HFo : Hid (PfOk f) := Lib.hid (hue ▸ (HOk.out u hu).1)
        have HPt := Lib.hid (fun W (hW : RbP W p Sp L) => pathsP p Sp L f HFo.out W hW)
        have hm4 := HI.out.four f
        obtain ⟨r, hr⟩ : ∃ r, pathsI L f = r := ⟨_, rfl⟩
        have Hr := Lib.hid hr
        rw [hr] at HPt hm4
        obtain ⟨m, hm⟩ : ∃ m, r.length = m := ⟨_, rfl⟩
        rw [hm] at HPt hm4
        have HMl := Lib.hid hm
        have HXo : Hid (∀ y ∈ r, PaOk y) := Lib.hid (fun y hy => (HOk.out _ (pathsI_mem.1 (hr ▸ hy))).2)
        have hrow := hR.out.own
        obtain ⟨gl, rfl⟩ := slice_some hrow (by omega)
        obtain ⟨q0, q1, q2, q3⟩ := pf_cells hrow hf
        have HDs : Hid (DuoR w wr p Sp L q Sq (L.filter (toldD (rotP l qq i) f (r.drop m)))) := Lib.hid (by
          have e := told_other (L := L) (rotP l qq i) ((false, 0, 0), 0) f m (by rw [Hr.out, HMl.out]; exact Nat.le_refl _)
          rw [Hr.out] at e
          rw [← e]; exact hD.out)
        obtain ⟨⟨fs, fh, fl⟩, fb⟩ := f
        obtain ⟨kb, hkb⟩ : ∃ kb, wr.heap.size = kb := ⟨_, rfl⟩
        obtain ⟨W2, hW2⟩ : ∃ W, wr.alloc (.cells #[.bool fs, .int .u64 (fh : Int), .int .u64 (fl : Int), .int .i64 fb] 37) = W := ⟨_, rfl⟩
        have hT2 : Tch wr W2 [] := hW2 ▸ (Tch.refl wr []).alloc _
        have D5 := Lib.hid (HDs.out.tch0 hT2)
        have R5 := Lib.hid (hR.out.tch0 hT2)
        have K5 : Hid (OwnR W2 Sq kb 37 #[.bool fs, .int .u64 (fh : Int), .int .u64 (fl : Int), .int .i64 fb]) := Lib.hid (hW2 ▸ hkb ▸ OwnR.new hD.out.Q.P _ _)
        have HKp : Hid (kb ∉ Sp) := Lib.hid (fun hm => by have := hD.out.P.P.lt kb hm; omega)
        have HW2 := Lib.hid (And.intro hW2 hkb)
        clear hf hf' hfm hu hue hr hm hrow hT2 hW2 hkb hii
        go_wp2_with fail
        rw [HW2.out.1, HW2.out.2]
        clear q0 q1 q2 q3
        obtain ⟨q0, q1, q2, q3⟩ := K5.out.blk.c4
        go_wp2_with fail
        refine Calls.mono (HPt.out W2 D5.out.P.P) ?_
        rintro e w6 ⟨A6, c6, rfl, ho6, hP6, hT6⟩
        have D6 := Lib.hid (D5.out.readP hP6 hT6)
        have R6 := Lib.hid (R5.out.readP hT6)
        have X6 : Hid (RwO w6 Sp Sq 26 7 (.slice A6 m c6) m (r.flatMap paC)) := Lib.hid (RwO.new D5.out ho6)
        have K6 : Hid (OwnR w6 Sq kb 37 #[.bool fs, .int .u64 (fh : Int), .int .u64 (fl : Int), .int .i64 fb]) := Lib.hid ⟨hT6.blk K5.out.blk HKp.out, K5.out.non⟩
        have m1 : IntKind.i64.wrap ((m : Int) - 1) = (m : Int) - 1 := by rw [IntKind.wrap_i64]; omega
        clear ho6 hP6 hT6 q0 q1 q2 q3
        go_wp2
        go_loopw [12] (fun kv wr => ∃ (k : Nat) (Sq : List Nat), kv = .int .i64 ((k : Int) - 1) ∧ k ≤ m ∧ Hid (DuoR w wr p Sp L q Sq (L.filter (toldD (rotP l qq i) ((fs, fh, fl), fb) (r.drop k)))) ∧ Hid (RwO wr Sp Sq 37 4 (.slice (some ⟨gl, 0, none⟩) n c) n (l.flatMap pfC)) ∧ Hid (RwO wr Sp Sq 26 7 (.slice A6 m c6) m (r.flatMap paC)) ∧ Hid (OwnR wr Sq kb 37 #[.bool fs, .int .u64 (fh : Int), .int .u64 (fl : Int), .int .i64 fb])) (fun kv _ => (intOf kv + 1).toNat)
        case atStart => exact ⟨m, Sq, by first | rfl | go_num, Nat.le_refl _, D6, R6, X6, K6⟩
        case round =>
          obtain ⟨k, Sq, rfl, hk, hD, hR, hX, hK⟩ := hrel
          cases k with
          | zero =>
            have kI : ¬ (0 : Int) ≤ ((0 : Nat) : Int) - 1 := by omega
            have D9 : Hid (DuoR w wr p Sp L q Sq (L.filter (toldD (rotP l qq (i + 1)) ((false, 0, 0), 0) []))) := Lib.hid (by
              have e := told_row (L := L) (rotP l qq i) ((fs, fh, fl), fb) ((false, 0, 0), 0)
              rw [Hr.out] at e
              rw [HSuc.out, ← e]; exact hD.out)
            go_wp2
            go_roundw
            case rel => exact ⟨i + 1, Sq, by go_num, hin, D9, hR⟩
            case measure => simp [intOf] <;> omega
          | succ j =>
            have e0 : ((j + 1 : Nat) : Int) - 1 = (j : Int) := by omega
            have hjm : j < m := by omega
            have jI : (j : Int) < (m : Int) := by omega
            have j0 : (0 : Int) ≤ (j : Int) := by omega
            have j1 : IntKind.i64.wrap ((j : Int) - 1) = (j : Int) - 1 := by rw [IntKind.wrap_i64]; omega
            rw [e0]
            obtain ⟨y, hy⟩ : ∃ y, r[j]? = some y := ⟨_, List.getElem?_eq_getElem (by rw [HMl.out]; exact hjm)⟩
            have hxr := hX.out.own
            obtain ⟨gx, rfl⟩ := slice_some hxr (by omega)
            have hst := told_step HI.out (done := rotP l qq i) (p := ((fs, fh, fl), fb)) (x := y) (k := j) HNot.out (by rw [Hr.out]; exact hy)
            rw [Hr.out] at hst
            have HPu := Lib.hid (fun W (hW : DuoR w W p Sp L q Sq (L.filter (toldD (rotP l qq i) ((fs, fh, fl), fb) (r.drop (j + 1))))) => putP q Sq _ ((fs, fh, fl), fb) y HFo.out (HXo.out y (List.mem_of_getElem? hy)) W (hW.Q.env HEn.out).1 (hW.Q.env HEn.out).2 hW.Q.P)
            rw [hst] at HPu
            have Dd := Lib.hid (hD.out.tch0 (Tch.refl wr []).drew)
            have Rd := Lib.hid (hR.out.tch0 (Tch.refl wr []).drew)
            have Xd := Lib.hid (hX.out.tch0 (Tch.refl wr []).drew)
            have Kd := Lib.hid (hK.out.tch0 (Tch.refl wr []).drew)
            have HXc := Lib.hid (fun (W : World) (hW : W.ownsRow 0 26 7 (.slice (some ⟨gx, 0, none⟩) m c6) m (r.flatMap paC)) => pa_cells hW hy)
            obtain ⟨pr, me, ⟨vs, vh, vl⟩, po, aw⟩ := y
            clear hy hxr hst e0
            go_wp2
            refine wp_region_held_drew (S := (fun W => (W.cell? ⟨kb, 0, none⟩ = some (Value.bool fs) ∧ W.cell? ⟨kb, 1, none⟩ = some (Value.int .u64 (fh : Int)) ∧ W.cell? ⟨kb, 2, none⟩ = some (Value.int .u64 (fl : Int)) ∧ W.cell? ⟨kb, 3, none⟩ = some (Value.int .i64 fb)) ∧ (W.cell? ⟨gx, j * 7, none⟩ = some (Value.int .i64 pr) ∧ W.cell? ⟨gx, j * 7 + 1, none⟩ = some (Value.int .i64 me) ∧ W.cell? ⟨gx, j * 7 + 2, none⟩ = some (Value.bool vs) ∧ W.cell? ⟨gx, j * 7 + 3, none⟩ = some (Value.int .u64 (vh : Int)) ∧ W.cell? ⟨gx, j * 7 + 4, none⟩ = some (Value.int .u64 (vl : Int)) ∧ W.cell? ⟨gx, j * 7 + 5, none⟩ = some (Value.int .i64 po) ∧ W.cell? ⟨gx, j * 7 + 6, none⟩ = some (Value.bool aw)))) (by kernel_rfl) ?_ (fun hHeld => ?_)
            · (first | exact ⟨hK.out.blk.c4, HXc.out _ hX.out.own⟩ | exact ⟨Kd.out.blk.c4, HXc.out _ Xd.out.own⟩ | exact ⟨K7.out.blk.c4, HXc.out _ X7.out.own⟩)
            refine wpAnyH_take (i := 0) (oi := { dst := some 64, op := Go.Op.move (Go.Operand.tmp 7), type := 31, pos := "law.go:136", after := #[], guard := none }) (v := ?_) rfl (by kernel_rfl) (by kernel_rfl) (by kernel_rfl) (fun _ _ _ h => h) (Or.inl ⟨by rfl, ?_⟩) (by assumption) ?_
            rotate_left
            · intro w hSw
              (try dsimp only at hSw)
              go_simp
              try (with_reducible rfl)
            try simp only [Act.put, List.setIfInBounds_toArray, List.set_cons_zero, List.set_cons_succ]
            refine wpAnyH_take (i := 1) (oi := { dst := some 65, op := Go.Op.load 37 (Go.Operand.tmp 10), type := 37, pos := "law.go:136", after := #[], guard := none }) (v := ?_) rfl (by kernel_rfl) (by kernel_rfl) (by kernel_rfl) (fun _ _ _ h => h) (Or.inl ⟨by rfl, ?_⟩) (by assumption) ?_
            rotate_left
            · intro w hSw
              (try dsimp only at hSw)
              go_simp
              try (with_reducible rfl)
            try simp only [Act.put, List.setIfInBounds_toArray, List.set_cons_zero, List.set_cons_succ]
            refine wpAnyH_take (i := 2) (oi := { dst := some 66, op := Go.Op.move (Go.Operand.tmp 11), type := 38, pos := "law.go:136", after := #[], guard := none }) (v := ?_) rfl (by kernel_rfl) (by kernel_rfl) (by kernel_rfl) (fun _ _ _ h => h) (Or.inl ⟨by rfl, ?_⟩) (by assumption) ?_
            rotate_left
            · intro w hSw
              (try dsimp only at hSw)
              go_simp
              try (with_reducible rfl)
            try simp only [Act.put, List.setIfInBounds_toArray, List.set_cons_zero, List.set_cons_succ]
            refine wpAnyH_take (i := 3) (oi := { dst := some 67, op := Go.Op.move (Go.Operand.tmp 12), type := 3, pos := "law.go:136", after := #[], guard := none }) (v := ?_) rfl (by kernel_rfl) (by kernel_rfl) (by kernel_rfl) (fun _ _ _ h => h) (Or.inl ⟨by rfl, ?_⟩) (by assumption) ?_
            rotate_left
            · intro w hSw
              (try dsimp only at hSw)
              go_simp
              try (with_reducible rfl)
            try simp only [Act.put, List.setIfInBounds_toArray, List.set_cons_zero, List.set_cons_succ]
            refine wpAnyH_take (i := 4) (oi := { dst := some 68, op := Go.Op.indexAddr 38 (Go.Operand.tmp 66) (Go.Operand.tmp 67), type := 0, pos := "law.go:136", after := #[{ on := 2, ground := Go.Ground.data }, { on := 3, ground := Go.Ground.data }], guard := none }) (v := ?_) rfl (by kernel_rfl) (by kernel_rfl) (by kernel_rfl) (fun _ _ _ h => h) (Or.inl ⟨by rfl, ?_⟩) (by assumption) ?_
            rotate_left
            · intro w hSw
              (try dsimp only at hSw)
              go_simp
              try (with_reducible rfl)
            try simp only [Act.put, List.setIfInBounds_toArray, List.set_cons_zero, List.set_cons_succ]
            refine wpAnyH_take (i := 5) (oi := { dst := some 69, op := Go.Op.load 26 (Go.Operand.tmp 68), type := 26, pos := "law.go:136", after := #[{ on := 4, ground := Go.Ground.data }], guard := none }) (v := ?_) rfl (by kernel_rfl) (by kernel_rfl) (by kernel_rfl) (fun _ _ _ h => h) (Or.inl ⟨by rfl, ?_⟩) (by assumption) ?_
            rotate_left
            · intro w hSw
              (try dsimp only at hSw)
              go_simp
              try (with_reducible rfl)
            try simp only [Act.put, List.setIfInBounds_toArray, List.set_cons_zero, List.set_cons_succ]
            refine wpAnyH_ready (rs := [6]) (by kernel_rfl) (by simp) ?_
            refine AllReadyH.cons (o := { dst := some 70, op := Go.Op.call { callee := Go.Callee.value (Go.Operand.func 14), args := #[Go.Operand.tmp 64, Go.Operand.tmp 65, Go.Operand.tmp 69], argTypes := #[31, 37, 26] }, type := 40, pos := "law.go:136", after := #[{ on := 0, ground := Go.Ground.data }, { on := 1, ground := Go.Ground.data }, { on := 5, ground := Go.Ground.data }], guard := none }) rfl (fun K hK => ?_) AllReadyH.nil
            go_simp
            (go_at_call 14; (with_reducible refine Calls.mono (HPu.out _ Dd.out) ?_); rintro e w7 ⟨rfl, S7, hP7, hg7⟩; have D7 := Lib.hid (Dd.out.goQ hP7 hg7); have R7 := Lib.hid (Rd.out.goQ hg7); have X7 := Lib.hid (Xd.out.goQ hg7); have K7 := Lib.hid (Kd.out.go hg7); clear hP7 hg7)
            go_wp2_with fail
            refine hK.out _ _ ?_ (fun hHeld => ?_)
            · (first | exact ⟨hK.out.blk.c4, HXc.out _ hX.out.own⟩ | exact ⟨Kd.out.blk.c4, HXc.out _ Xd.out.own⟩ | exact ⟨K7.out.blk.c4, HXc.out _ X7.out.own⟩)
            clear hK K
            try simp only [Act.put, List.setIfInBounds_toArray, List.set_cons_zero, List.set_cons_succ]
            refine wpAnyH_take (i := 7) (oi := { dst := some 13, op := Go.Op.assign (Go.Operand.tmp 70), type := 40, pos := "law.go:136", after := #[{ on := 6, ground := Go.Ground.data }, { on := 6, ground := Go.Ground.chain }, { on := 0, ground := Go.Ground.phase }, { on := 1, ground := Go.Ground.phase }, { on := 2, ground := Go.Ground.phase }, { on := 3, ground := Go.Ground.phase }, { on := 4, ground := Go.Ground.phase }, { on := 5, ground := Go.Ground.phase }, { on := 6, ground := Go.Ground.phase }], guard := none }) (v := ?_) rfl (by kernel_rfl) (by kernel_rfl) (by kernel_rfl) (fun _ _ _ h => h) (Or.inl ⟨by rfl, ?_⟩) (by assumption) ?_
            rotate_left
            · intro w hSw
              (try dsimp only at hSw)
              go_simp
              try (with_reducible rfl)
            try simp only [Act.put, List.setIfInBounds_toArray, List.set_cons_zero, List.set_cons_succ]
            refine wpAnyH_done (by kernel_rfl) ?_ _
            go_wp2
            go_roundw
            case rel => exact ⟨j, S7, by first | rfl | go_num, by omega, D7, R7, X7, K7⟩
            case measure => simp [intOf] <;> omega
      · obtain rfl : i = n := by omega
        have iI : ¬ (i : Int) < (i : Int) := by omega
        have D8 : Hid (DuoR w wr p Sp L q Sq L) := Lib.hid (by have h9 := hD.out; rw [HAll.out] at h9; exact h9)
        clear hin hi
        have be : ((L.length : Int) != (L.length : Int)) = false := by simp
        go_wp2_with fail
        refine Calls.mono (countP p Sp L wr D8.out.P.P) ?_
        rintro e wa ⟨rfl, hPa, hTa⟩
        have Da := Lib.hid (D8.out.readP hPa hTa)
        have Ra := Lib.hid (hR.out.readP hTa)
        clear hPa hTa
        go_wp2_with fail
        refine Calls.mono (countP q Sq L wa Da.out.Q.P) ?_
        rintro e wb ⟨rfl, hPb, hTb⟩
        have Db := Lib.hid (Da.out.readQ hPb hTb)
        have Rb := Lib.hid (Ra.out.goQ (Goes.of_tch hTb))
        clear hPb hTb
        have HPq := Lib.hid (prefsP q Sq L wb Db.out.Q.P)
        rw [Hl.out, HN.out] at HPq
        go_wp2_with fail
        refine Calls.mono HPq.out ?_
        rintro e wc ⟨Ac, cc, rfl, hoc, hPc, hTc⟩
        have Dc := Lib.hid (Db.out.readQ hPc hTc)
        have Rc := Lib.hid (Rb.out.goQ (Goes.of_tch hTc))
        have HSm := Lib.hid (samePf A Ac i i c cc l l HN.out HN.out (by omega) (by omega) wc Rc.out.own (own_mono hoc (Nat.zero_le _)))
        rw [decide_eq_true rfl] at HSm
        clear hoc hPc hTc
        go_wp2_with fail
        refine Calls.mono HSm.out ?_
        rintro e wd ⟨rfl, hTd⟩
        have Dd := Lib.hid (Dc.out.tch0 hTd)
        have Rd := Lib.hid (Rc.out.tch0 hTd)
        clear hTd
        go_wp2
        go_loopw [14] (fun iv wr => ∃ (j : Nat), iv = .int .i64 (j : Int) ∧ j ≤ i ∧ Hid (DuoR w wr p Sp L q Sq L) ∧ Hid (RwO wr Sp Sq 37 4 (.slice A i c) i (l.flatMap pfC))) (fun iv _ => i - (intOf iv).toNat)
        case atStart => exact ⟨0, rfl, Nat.zero_le _, Dd, Rd⟩
        case round =>
          obtain ⟨j, rfl, hj, hD, hR⟩ := hrel
          have j1 : IntKind.i64.wrap ((j : Int) + 1) = (j : Int) + 1 := by rw [IntKind.wrap_i64]; omega
          by_cases hjl : j < i
          · have jI : (j : Int) < (i : Int) := by omega
            have j0 : (0 : Int) ≤ (j : Int) := by omega
            obtain ⟨f, hf⟩ : ∃ f, l[j]? = some f := ⟨_, List.getElem?_eq_getElem (by rw [HN.out]; exact hjl)⟩
            have hfm : f ∈ prefsI L := by rw [Hl.out]; exact List.mem_of_getElem? hf
            obtain ⟨u, hu, hue⟩ := (prefsI_mem HI.out.inv).1 hfm
            have HFo : Hid (PfOk f) := Lib.hid (hue ▸ (HOk.out u hu).1)
            have HPt := Lib.hid (fun W (hW : RbP W p Sp L) => pathsP p Sp L f HFo.out W hW)
            have HQt := Lib.hid (fun W (hW : RbP W q Sq L) => pathsP q Sq L f HFo.out W hW)
            have hm4 := HI.out.four f
            obtain ⟨r, hr⟩ : ∃ r, pathsI L f = r := ⟨_, rfl⟩
            rw [hr] at HPt HQt hm4
            obtain ⟨m, hm⟩ : ∃ m, r.length = m := ⟨_, rfl⟩
            rw [hm] at HPt HQt hm4
            have HMl := Lib.hid (And.intro hm (show m ≤ 1000 by omega))
            obtain ⟨gl, rfl⟩ := slice_some hR.out.own (by omega)
            have HLc := Lib.hid (fun (W : World) (hW : W.ownsRow 0 37 4 (.slice (some ⟨gl, 0, none⟩) i c) i (l.flatMap pfC)) => pf_cells hW hf)
            have D0 := Lib.hid (hD.out.tch0 (Tch.refl wr []).drew)
            have R0 := Lib.hid (hR.out.tch0 (Tch.refl wr []).drew)
            obtain ⟨⟨fs, fh, fl⟩, fb⟩ := f
            clear hf hfm hu hue hr hm
            go_wp2
            refine wp_region_held_drew (S := (fun W => W.cell? ⟨gl, j * 4, none⟩ = some (Value.bool fs) ∧ W.cell? ⟨gl, j * 4 + 1, none⟩ = some (Value.int .u64 (fh : Int)) ∧ W.cell? ⟨gl, j * 4 + 2, none⟩ = some (Value.int .u64 (fl : Int)) ∧ W.cell? ⟨gl, j * 4 + 3, none⟩ = some (Value.int .i64 fb))) (by kernel_rfl) ?_ (fun hHeld => ?_)
            · (first | exact HLc.out _ hR.out.own | exact HLc.out _ R0.out.own | exact HLc.out _ R1.out.own | exact HLc.out _ R2.out.own | exact HLc.out _ R3.out.own)
            refine wpAnyH_take (i := 0) (oi := { dst := some 91, op := Go.Op.move (Go.Operand.tmp 6), type := 31, pos := "law.go:146", after := #[], guard := none }) (v := ?_) rfl (by kernel_rfl) (by kernel_rfl) (by kernel_rfl) (fun _ _ _ h => h) (Or.inl ⟨by rfl, ?_⟩) (by assumption) ?_
            rotate_left
            · intro w hSw
              (try dsimp only at hSw)
              go_simp
              try (with_reducible rfl)
            try simp only [Act.put, List.setIfInBounds_toArray, List.set_cons_zero, List.set_cons_succ]
            refine wpAnyH_take (i := 1) (oi := { dst := some 92, op := Go.Op.move (Go.Operand.tmp 8), type := 34, pos := "law.go:146", after := #[], guard := none }) (v := ?_) rfl (by kernel_rfl) (by kernel_rfl) (by kernel_rfl) (fun _ _ _ h => h) (Or.inl ⟨by rfl, ?_⟩) (by assumption) ?_
            rotate_left
            · intro w hSw
              (try dsimp only at hSw)
              go_simp
              try (with_reducible rfl)
            try simp only [Act.put, List.setIfInBounds_toArray, List.set_cons_zero, List.set_cons_succ]
            refine wpAnyH_take (i := 2) (oi := { dst := some 93, op := Go.Op.move (Go.Operand.tmp 14), type := 3, pos := "law.go:146", after := #[], guard := none }) (v := ?_) rfl (by kernel_rfl) (by kernel_rfl) (by kernel_rfl) (fun _ _ _ h => h) (Or.inl ⟨by rfl, ?_⟩) (by assumption) ?_
            rotate_left
            · intro w hSw
              (try dsimp only at hSw)
              go_simp
              try (with_reducible rfl)
            try simp only [Act.put, List.setIfInBounds_toArray, List.set_cons_zero, List.set_cons_succ]
            refine wpAnyH_take (i := 3) (oi := { dst := some 94, op := Go.Op.indexAddr 34 (Go.Operand.tmp 92) (Go.Operand.tmp 93), type := 0, pos := "law.go:146", after := #[{ on := 1, ground := Go.Ground.data }, { on := 2, ground := Go.Ground.data }], guard := none }) (v := ?_) rfl (by kernel_rfl) (by kernel_rfl) (by kernel_rfl) (fun _ _ _ h => h) (Or.inl ⟨by rfl, ?_⟩) (by assumption) ?_
            rotate_left
            · intro w hSw
              (try dsimp only at hSw)
              go_simp
              try (with_reducible rfl)
            try simp only [Act.put, List.setIfInBounds_toArray, List.set_cons_zero, List.set_cons_succ]
            refine wpAnyH_take (i := 4) (oi := { dst := some 95, op := Go.Op.load 37 (Go.Operand.tmp 94), type := 37, pos := "law.go:146", after := #[{ on := 3, ground := Go.Ground.data }], guard := none }) (v := ?_) rfl (by kernel_rfl) (by kernel_rfl) (by kernel_rfl) (fun _ _ _ h => h) (Or.inl ⟨by rfl, ?_⟩) (by assumption) ?_
            rotate_left
            · intro w hSw
              (try dsimp only at hSw)
              go_simp
              try (with_reducible rfl)
            try simp only [Act.put, List.setIfInBounds_toArray, List.set_cons_zero, List.set_cons_succ]
            refine wpAnyH_take (i := 6) (oi := { dst := some 97, op := Go.Op.move (Go.Operand.tmp 7), type := 31, pos := "law.go:146", after := #[], guard := none }) (v := ?_) rfl (by kernel_rfl) (by kernel_rfl) (by kernel_rfl) (fun _ _ _ h => h) (Or.inl ⟨by rfl, ?_⟩) (by assumption) ?_
            rotate_left
            · intro w hSw
              (try dsimp only at hSw)
              go_simp
              try (with_reducible rfl)
            try simp only [Act.put, List.setIfInBounds_toArray, List.set_cons_zero, List.set_cons_succ]
            refine wpAnyH_take (i := 7) (oi := { dst := some 98, op := Go.Op.move (Go.Operand.tmp 8), type := 34, pos := "law.go:146", after := #[], guard := none }) (v := ?_) rfl (by kernel_rfl) (by kernel_rfl) (by kernel_rfl) (fun _ _ _ h => h) (Or.inl ⟨by rfl, ?_⟩) (by assumption) ?_
            rotate_left
            · intro w hSw
              (try dsimp only at hSw)
              go_simp
              try (with_reducible rfl)
            try simp only [Act.put, List.setIfInBounds_toArray, List.set_cons_zero, List.set_cons_succ]
            refine wpAnyH_take (i := 8) (oi := { dst := some 99, op := Go.Op.move (Go.Operand.tmp 14), type := 3, pos := "law.go:146", after := #[], guard := none }) (v := ?_) rfl (by kernel_rfl) (by kernel_rfl) (by kernel_rfl) (fun _ _ _ h => h) (Or.inl ⟨by rfl, ?_⟩) (by assumption) ?_
            rotate_left
            · intro w hSw
              (try dsimp only at hSw)
              go_simp
              try (with_reducible rfl)
            try simp only [Act.put, List.setIfInBounds_toArray, List.set_cons_zero, List.set_cons_succ]
            refine wpAnyH_take (i := 9) (oi := { dst := some 100, op := Go.Op.indexAddr 34 (Go.Operand.tmp 98) (Go.Operand.tmp 99), type := 0, pos := "law.go:146", after := #[{ on := 7, ground := Go.Ground.data }, { on := 8, ground := Go.Ground.data }], guard := none }) (v := ?_) rfl (by kernel_rfl) (by kernel_rfl) (by kernel_rfl) (fun _ _ _ h => h) (Or.inl ⟨by rfl, ?_⟩) (by assumption) ?_
            rotate_left
            · intro w hSw
              (try dsimp only at hSw)
              go_simp
              try (with_reducible rfl)
            try simp only [Act.put, List.setIfInBounds_toArray, List.set_cons_zero, List.set_cons_succ]
            refine wpAnyH_take (i := 10) (oi := { dst := some 101, op := Go.Op.load 37 (Go.Operand.tmp 100), type := 37, pos := "law.go:146", after := #[{ on := 9, ground := Go.Ground.data }], guard := none }) (v := ?_) rfl (by kernel_rfl) (by kernel_rfl) (by kernel_rfl) (fun _ _ _ h => h) (Or.inl ⟨by rfl, ?_⟩) (by assumption) ?_
            rotate_left
            · intro w hSw
              (try dsimp only at hSw)
              go_simp
              try (with_reducible rfl)
            try simp only [Act.put, List.setIfInBounds_toArray, List.set_cons_zero, List.set_cons_succ]
            refine wpAnyH_ready (rs := [5]) (by kernel_rfl) (by simp) ?_
            refine AllReadyH.cons (o := { dst := some 96, op := Go.Op.call { callee := Go.Callee.value (Go.Operand.func 13), args := #[Go.Operand.tmp 91, Go.Operand.tmp 95], argTypes := #[31, 37] }, type := 38, pos := "law.go:146", after := #[{ on := 0, ground := Go.Ground.data }, { on := 4, ground := Go.Ground.data }], guard := none }) rfl (fun K hK => ?_) AllReadyH.nil
            go_simp
            (go_at_call 13; (with_reducible refine Calls.mono (HPt.out _ D0.out.P.P) ?_); rintro e w1 ⟨A1, c1, rfl, ho1, hP1, hT1⟩; have D1 := Lib.hid (D0.out.readP hP1 hT1); have R1 := Lib.hid (R0.out.readP hT1); have X1 : Hid (RwO w1 Sp Sq 26 7 (.slice A1 m c1) m (r.flatMap paC)) := Lib.hid (RwO.new D0.out ho1); clear ho1 hP1 hT1)
            go_wp2_with fail
            refine hK.out _ _ ?_ (fun hHeld => ?_)
            · (first | exact HLc.out _ hR.out.own | exact HLc.out _ R0.out.own | exact HLc.out _ R1.out.own | exact HLc.out _ R2.out.own | exact HLc.out _ R3.out.own)
            clear hK K
            try simp only [Act.put, List.setIfInBounds_toArray, List.set_cons_zero, List.set_cons_succ]
            refine wpAnyH_ready (rs := [11]) (by kernel_rfl) (by simp) ?_
            refine AllReadyH.cons (o := { dst := some 102, op := Go.Op.call { callee := Go.Callee.value (Go.Operand.func 13), args := #[Go.Operand.tmp 97, Go.Operand.tmp 101], argTypes := #[31, 37] }, type := 38, pos := "law.go:146", after := #[{ on := 6, ground := Go.Ground.data }, { on := 10, ground := Go.Ground.data }, { on := 5, ground := Go.Ground.chain }], guard := none }) rfl (fun K hK => ?_) AllReadyH.nil
            go_simp
            (go_at_call 13; (with_reducible refine Calls.mono (HQt.out _ D1.out.Q.P) ?_); rintro e w2 ⟨A2, c2, rfl, ho2, hP2, hT2⟩; have D2 := Lib.hid (D1.out.readQ hP2 hT2); have R2 := Lib.hid (R1.out.goQ (Goes.of_tch hT2)); have X2 := Lib.hid (X1.out.goQ (Goes.of_tch hT2)); have HSa := Lib.hid (samePa A1 A2 m m c1 c2 r r HMl.out.1 HMl.out.1 HMl.out.2 HMl.out.2 w2 X2.out.own (own_mono ho2 (Nat.zero_le _))); rw [decide_eq_true rfl] at HSa; clear ho2 hP2 hT2)
            go_wp2_with fail
            refine hK.out _ _ ?_ (fun hHeld => ?_)
            · (first | exact HLc.out _ hR.out.own | exact HLc.out _ R0.out.own | exact HLc.out _ R1.out.own | exact HLc.out _ R2.out.own | exact HLc.out _ R3.out.own)
            clear hK K
            try simp only [Act.put, List.setIfInBounds_toArray, List.set_cons_zero, List.set_cons_succ]
            refine wpAnyH_ready (rs := [12]) (by kernel_rfl) (by simp) ?_
            refine AllReadyH.cons (o := { dst := some 103, op := Go.Op.call { callee := Go.Callee.value (Go.Operand.func 17), args := #[Go.Operand.tmp 96, Go.Operand.tmp 102], argTypes := #[38, 38] }, type := 4, pos := "law.go:146", after := #[{ on := 5, ground := Go.Ground.data }, { on := 11, ground := Go.Ground.data }, { on := 11, ground := Go.Ground.chain }], guard := none }) rfl (fun K hK => ?_) AllReadyH.nil
            go_simp
            (go_at_call 17; (with_reducible refine Calls.mono HSa.out ?_); rintro e w3 ⟨rfl, hT3⟩; have D3' := Lib.hid (D2.out.tch0 hT3); have R3 := Lib.hid (R2.out.tch0 hT3); clear hT3)
            go_wp2_with fail
            refine hK.out _ _ ?_ (fun hHeld => ?_)
            · (first | exact HLc.out _ hR.out.own | exact HLc.out _ R0.out.own | exact HLc.out _ R1.out.own | exact HLc.out _ R2.out.own | exact HLc.out _ R3.out.own)
            clear hK K
            try simp only [Act.put, List.setIfInBounds_toArray, List.set_cons_zero, List.set_cons_succ]
            refine wpAnyH_take (i := 13) (oi := { dst := some 104, op := Go.Op.unOp Go.UnOp.not 4 (Go.Operand.tmp 103), type := 4, pos := "law.go:146", after := #[{ on := 12, ground := Go.Ground.data }], guard := none }) (v := ?_) rfl (by kernel_rfl) (by kernel_rfl) (by kernel_rfl) (fun _ _ _ h => h) (Or.inl ⟨by rfl, ?_⟩) (by assumption) ?_
            rotate_left
            · intro w hSw
              (try dsimp only at hSw)
              go_simp
              try (with_reducible rfl)
            try simp only [Act.put, List.setIfInBounds_toArray, List.set_cons_zero, List.set_cons_succ]
            refine wpAnyH_done (by kernel_rfl) ?_ _
            go_wp2
            go_roundw
            case rel => exact ⟨j + 1, by go_num, hjl, D3', R3⟩
            case measure => simp [intOf] <;> omega
          · have BEL := Lib.hid hD.out.P.bel
            obtain rfl : j = i := by omega
            have jI : ¬ (j : Int) < (j : Int) := by omega
            clear hjl hj
            go_wp2
            go_ret
            exact ⟨rfl, BEL.out⟩
set_option maxRecDepth 100000 in
theorem contract (H : Type) (enc : TypeId × Value → H) (W : World) (base : Nat) (args : Array Value) (ds gs : List (DataW H)) (before : List MemPlace)
    (hval0 : ∀ (j : Nat) t v, Tryd.f4.params[j]? = some t → args[j]? = some v → Value.okWide Tryd.prog W .any base t v)
    (hW : DataW.Whole enc Tryd.prog Tryd.f4.params.toList Rows.ribHistorySpec.vars false W args.toList ds gs before)
    (hsz0 : (DataW.weightsEach Tryd.prog (Tryd.f4.params.toList ++ Rows.ribHistorySpec.plain.varTypes Tryd.prog) (ds ++ gs)).all (· ≤ reachBytes) = true) (hE : EnvR W) :
    Calls Tryd.prog 4 args W fun e W' => ∃ v, e = .returned v ∧ Rows.ribHistorySpec.post enc Tryd.prog Tryd.f4 false true false false W args v W' := by
  have hsz := hsz0
  clear hsz0
  have hval := hval0
  clear hval0
  have hW' := hW
  obtain ⟨p, q, hA0, hV, rfl, hfz, hnd⟩ := hW
  have hA : DataW.TrodAll enc Tryd.prog W 0 (fun _ => true) true Tryd.f4.params.toList args.toList ds p := hA0
  rw [Tryd.params4] at hA hval hsz
  obtain ⟨v0, vs0, d0, ds0, p0, q0, hargs, rfl, rfl, h0, r0⟩ := trodAll_cons hA
  obtain ⟨v1, vs1, d1, ds1, p1, q1, rfl, rfl, rfl, h1, r1⟩ := trodAll_cons r0
  obtain ⟨rfl, rfl, rfl⟩ := trodAll_nil r1
  obtain rfl : args = #[v0, v1] := by cases args; simp_all
  obtain ⟨rfl, rfl⟩ := trodVars_none hV
  obtain ⟨a0, l0, c0, rfl⟩ := okWide_slice Tryd.underlying30 (hval 0 30 v0 rfl rfl)
  have k0 := h0
  have lt0 : ∀ x ∈ p0, x.block < W.heap.size := by obtain ⟨m, hm⟩ := k0; exact DataW.trod_lt m _ _ _ hm
  obtain ⟨z0, w0⟩ := isStp_of h0
  obtain ⟨a1, rfl, rfl, rfl, w1⟩ := open_int Tryd.underlying3 (hval 1 3 v1 rfl rfl) h1
  clear hA0
  refine (walk W hE a0 l0 c0 z0 w0 a1 w1).mono fun e W' ⟨he, bel⟩ => ?_
  subst he
  exact ⟨_, rfl, _, _, _, [], _, [], hW', trodAll_mk1 (shut_bool Tryd.underlying4 _), (trodAll_cons_mk (Below.trod laidOut (by kernel_rfl) (of_decide_eq_true (by kernel_rfl)) k0 bel lt0) (trodAll_cons_mk (shut_int Tryd.underlying3 w1) trodAll_mk0)), rfl, bel.frame _, fun h => by cases h⟩

theorem laid_met (os : Os) (args : Array Value) : laidMet Tryd.prog Rows.ribHistoryRow.laid ((World.laidAll Tryd.prog os Rows.ribHistoryRow.laid).forCall (fun _ _ => 0) ⟨#[], args, []⟩).memory :=
  laidMet_laidAll _ (by kernel_rfl) (by kernel_rfl)
set_option maxRecDepth 100000 in
theorem pre_row (os : Os) {H : Type} (enc : TypeId × Value → H) :
    (OpenSpec.ofChange Rows.ribHistorySpec).preRow enc Tryd.prog Tryd.f4 Rows.ribHistoryRow.domain false Rows.ribHistoryRow.laid ((World.laidAll Tryd.prog os Rows.ribHistoryRow.laid).forCall (fun _ _ => 0) ⟨#[], #[.slice none 0 0, .int .i64 0], []⟩).memory #[.slice none 0 0, .int .i64 0] := by
  exact ⟨⟨ChangeSpec.pre_of_preB (fuel := 8) (by kernel_rfl), by rw [MakeChecks.laidMetH_plain _ _ _ (by kernel_rfl)]; exact laid_met os _⟩, sizedMet_of_sizedB (fuel := 8) (by kernel_rfl)⟩
set_option maxRecDepth 100000 in
theorem lifted (os : Os) (started : os.Started) (H : Type) (enc : TypeId × Value → H) (F : Stop.Interp) :
    ReturnsInHanded {} Tryd.checked os 4 .any ((OpenSpec.ofChange Rows.ribHistorySpec).preRow enc Tryd.prog Tryd.f4 Rows.ribHistoryRow.domain false Rows.ribHistoryRow.laid) (((OpenSpec.ofChange Rows.ribHistorySpec).at F).post enc Tryd.prog Tryd.f4 false true false false) := by
  refine returnsInHanded_of_row (C := Tryd.checked) (s := (OpenSpec.ofChange Rows.ribHistorySpec)) own started (by kernel_rfl) Tryd.func4
    ⟨World.laidAll Tryd.prog os Rows.ribHistoryRow.laid, fun _ _ => 0, ⟨#[], #[.slice none 0 0, .int .i64 0], []⟩, World.laidAll_os _ _ _, World.shaped_of_ZipB (by kernel_rfl) (by kernel_rfl), rfl, (Input.okWide_of_okWideB (by kernel_rfl)).2, pre_row os enc, (by simp only [Assume.holds]; exact ⟨by simp, by simp, fun _ => Modest.zero, by simp, by simp⟩)⟩ ?_
  intro W base args ds gs before hval hW _ hcond hsz hL hsh _
  rw [MakeChecks.laidMetH_plain _ _ _ (by kernel_rfl)] at hL
  exact contract H enc W base args ds gs before hval hW hsz (envR_of hL)

theorem over : Rows.ribHistoryRow.holds Tryd.pinned (OpenSpec.ofChange Rows.ribHistorySpec) :=
  OpenClaim.holds_of_cond 4 Tryd.f4 rfl rfl rfl rfl rfl rfl rfl ⟨rfl, rfl, rfl, rfl, rfl⟩ rfl rfl rfl rfl rfl (by kernel_rfl) Tryd.func4 (by kernel_rfl)
    (of_decide_eq_true (by kernel_rfl)) (by unfold Func.isWrapper; first | (rw [if_pos (by decide +kernel)]; kernel_rfl) | (rw [if_neg (by decide +kernel)]; exact ⟨rfl, rfl⟩))
    (fun os started H enc _ F => by rw [OpenClaim.pre_eq_preRow]; exact lifted os started H enc F)

theorem proved : Rows.RibHistoryCardSaid :=
  Claim7.holds_tied_plain_at .later [] Rows.ribHistoryCard.laidKinds true Rows.ribHistoryCard.stood.harness Rows.ribHistoryCard.stood.looks over (fun _ h => by cases h) (by kernel_rfl) (fun _ h => by cases h) ribHistory_row_tie rfl ⟨rfl, rfl⟩ (by kernel_rfl) rfl
    (fun f fn hf hfn => by
      obtain rfl : f = 4 := Option.some.inj ((show Tryd.prog.funcNamed Rows.ribHistoryRow.func = some 4 by kernel_rfl).symm.trans hf) |>.symm
      obtain rfl : fn = Tryd.f4 := (Option.some.inj (Tryd.func4.symm.trans hfn)).symm
      exact ⟨by kernel_rfl, fun j t ht => by
        rw [Tryd.params4] at ht
        have hm : t ∈ [30, 3] := by simpa using Array.mem_of_getElem? ht
        have hall : ([30, 3].all fun u => !Tryd.prog.wantsStandIn u) = true := by kernel_rfl
        exact (show Tryd.prog.wantsStandIn t = false by simpa using List.all_eq_true.1 hall t hm)⟩)
    (by kernel_rfl)
#print axioms proved
end RHis
end Go.Proofs.YtjlmgkdieffjcaaDoor
