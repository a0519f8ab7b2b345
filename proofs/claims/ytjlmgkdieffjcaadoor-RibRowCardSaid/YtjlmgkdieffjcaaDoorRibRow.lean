/-
  crosswaylaw15.RibRow returns true for every input, and leaves its argument alone.
  Conditions: none of our own.
-/
import Derived.Test.YtjlmgkdieffjcaaDoorMgL
import Derived.Test.YtjlmgkdieffjcaaDoorRbRo
import Derived.Test.YtjlmgkdieffjcaaDoorREnv
namespace Go.Proofs.YtjlmgkdieffjcaaDoor
open Go.ChangeShapes Go.WideShapes Go.ChangeAt Go.RowKit
set_option linter.unusedVariables false
namespace RRow
set_option maxRecDepth 100000 in
set_option maxHeartbeats 8000000 in
theorem walk (w : World) (hE : EnvR w) (a0 : Option Addr) (l0 c0 : Nat) (z0 : List Stp) (w0 : IsStp w a0 l0 z0) :
    Calls Tryd.prog 5 #[.slice a0 l0 c0] w fun e w' => e = .returned (.bool true) ∧ Below w.heap.size w w' := by
  have HEn := Lib.hid hE
  clear hE
  have HZ := Lib.hid w0
  clear w0
  go_enter Tryd.func5, Tryd.ntmps5
  go_wp2_with fail
  refine Calls.mono (awake_yes w HEn.out) ?_
  rintro e x1 ⟨rfl, hb1⟩
  have B1 := Lib.hid hb1
  have HM := Lib.hid (made_any w a0 l0 c0 z0 HZ.out x1 hb1 HEn.out)
  clear hb1
  go_wp2_with fail
  refine Calls.mono HM.out ?_
  rintro e x2 ⟨p, Sp, rfl, hY⟩
  obtain ⟨L, hL⟩ : ∃ L, plR z0 (min l0 60) = L := ⟨_, rfl⟩
  rw [hL] at hY
  have hY2 : StdR w x2 p Sp L := ⟨hY.P, B1.out.trans (hY.bel.mono B1.out.size), fun s hs => Nat.le_trans B1.out.size (hY.abv s hs)⟩
  have HPr := Lib.hid (prefsP p Sp L x2 hY2.P)
  have HI := Lib.hid hY2.P.inv
  have HOk : Hid (∀ u ∈ L, PfOk u.1 ∧ PaOk u.2) := Lib.hid (by obtain ⟨m0, M0, hr⟩ := hY2.P; exact hr.ok)
  have Y2 := Lib.hid hY2
  clear hL hY hY2
  obtain ⟨l, hl⟩ : ∃ l, prefsI L = l := ⟨_, rfl⟩
  obtain ⟨n, hn⟩ : ∃ n, l.length = n := ⟨_, rfl⟩
  have hn90 : n ≤ 90 := by rw [← hn, ← hl]; exact HI.out.ninety
  rw [hl, hn] at HPr
  have HN := Lib.hid hn
  have Hl := Lib.hid hl
  clear hn hl
  go_wp2_with fail
  refine Calls.mono HPr.out ?_
  rintro e x3 ⟨A, c, rfl, ho, hP, hT⟩
  have Y3 := Lib.hid (Y2.out.read hP hT)
  have HOn : Hid (∀ s ∈ obI (.slice A n c), s ∉ Sp) := Lib.hid (fun s hs hm => by have h1 := (own_geI ho s hs).1; have h2 := Y2.out.P.lt s hm; omega)
  have HOl := Lib.hid (own_mono ho (Nat.zero_le _))
  clear ho hP hT
  go_wp2
  go_loopw [6, 7] (fun sv iv wr => ∃ i : Nat, sv = .int .i64 ((sumR L i : Nat) : Int) ∧ iv = .int .i64 (i : Int) ∧ i ≤ n ∧ Hid (StdR w wr p Sp L) ∧ Hid (Tch x3 wr Sp)) (fun _ iv _ => n - (intOf iv).toNat)
  case atStart => exact ⟨0, by simp [sumR], rfl, Nat.zero_le _, Y3, Lib.hid (Tch.refl _ _)⟩
  case round =>
    obtain ⟨i, rfl, rfl, hi, hY, hT⟩ := hrel
    have i1 : IntKind.i64.wrap ((i : Int) + 1) = (i : Int) + 1 := by rw [IntKind.wrap_i64]; omega
    have hsl := sumR_le HI.out i
    by_cases hin : i < n
    · have iI : (i : Int) < (n : Int) := by omega
      have i0 : (0 : Int) ≤ (i : Int) := by omega
      obtain ⟨q, hq⟩ : ∃ q, l[i]? = some q := ⟨_, List.getElem?_eq_getElem (by rw [HN.out]; exact hin)⟩
      have hqm : q ∈ prefsI L := by rw [Hl.out]; exact List.mem_of_getElem? hq
      have hq' : (prefsI L)[i]? = some q := by rw [Hl.out]; exact hq
      have HSu := Lib.hid (sumR_succ hq')
      obtain ⟨u, hu, hue⟩ := (prefsI_mem HI.out.inv).1 hqm
      have HQo : Hid (PfOk q) := Lib.hid (hue ▸ (HOk.out u hu).1)
      have HQn : Hid (N64 q.1.2.1 ∧ N64 q.1.2.2) := Lib.hid (hue ▸ (HI.out.inv.ok u hu).n1)
      have hm1 : 0 < (pathsI L q).length := Nat.pos_of_ne_zero fun h0 => (paths_nil HI.out.inv).1 h0 hqm
      have hm4 := HI.out.four q
      have HSr := Lib.hid (paths_srt HI.out.inv q)
      have HOv := Lib.hid (over_own HI.out.inv hqm)
      have HFa := Lib.hid (over_fall HI.out.inv (a := q.1) HQn.out)
      have hol := over_len L q.1
      rw [Hl.out, HN.out] at hol
      have HXo : Hid (∀ y ∈ pathsI L q, PaOk y) := Lib.hid (fun y hy => (HOk.out _ (pathsI_mem.1 hy)).2)
      have HBe : Hid (bestI L q = (pathsI L q).head?) := Lib.hid rfl
      have HPt := Lib.hid (fun W (hW : StdR w W p Sp L) => pathsP p Sp L q HQo.out W hW.P)
      have HBs := Lib.hid (fun W (hW : StdR w W p Sp L) => bestP p Sp L q HQo.out W hW.P)
      have HOr := Lib.hid (fun W (hW : StdR w W p Sp L) => overP p Sp L q.1 HQn.out W hW.P)
      obtain ⟨r, hr⟩ : ∃ r, pathsI L q = r := ⟨_, rfl⟩
      obtain ⟨o, hoo⟩ : ∃ o, overI L q.1 = o := ⟨_, rfl⟩
      rw [hr] at hm1 hm4 HSu HSr HXo HBe HPt
      rw [hoo] at HOv HFa hol HOr
      obtain ⟨m, hm⟩ : ∃ m, r.length = m := ⟨_, rfl⟩
      obtain ⟨on, hon⟩ : ∃ on, o.length = on := ⟨_, rfl⟩
      rw [hm] at hm1 hm4 HSu HPt
      rw [hon] at hol HOr
      have HMl := Lib.hid hm
      have HOln := Lib.hid hon
      have Hq := Lib.hid hq
      obtain ⟨x, rr, hrr⟩ : ∃ x rr, r = x :: rr := by
        cases r with
        | nil => simp at hm; omega
        | cons x rr => exact ⟨x, rr, rfl⟩
      have Hx : Hid (r[0]? = some x) := Lib.hid (by rw [hrr]; rfl)
      have HBv : Hid (bestV (bestI L q) = .tuple #[paR x, .bool true]) := Lib.hid (by rw [HBe.out, hrr]; rfl)
      rw [HBv.out] at HBs
      have HLc : Hid (∀ W, Tch x3 W Sp → W.cell? ⟨(match A with | some a => a.block | none => 0), i * 4, none⟩ = some (.bool q.1.1) ∧ W.cell? ⟨(match A with | some a => a.block | none => 0), i * 4 + 1, none⟩ = some (.int .u64 (q.1.2.1 : Int)) ∧ W.cell? ⟨(match A with | some a => a.block | none => 0), i * 4 + 2, none⟩ = some (.int .u64 (q.1.2.2 : Int)) ∧ W.cell? ⟨(match A with | some a => a.block | none => 0), i * 4 + 3, none⟩ = some (.int .i64 q.2)) := Lib.hid (fun W hW => by
        have h1 := own_tch HOl.out hW HOn.out
        obtain ⟨gl, rfl⟩ := slice_some h1 (by omega)
        exact pf_cells h1 hq)
      obtain ⟨gl, rfl⟩ := slice_some (own_tch HOl.out hT.out HOn.out) (by omega)
      simp only at HLc
      clear hq hqm hq' hu hue hr hoo hm hon hrr
      obtain ⟨⟨qs, qh, ql⟩, qb⟩ := q
      obtain ⟨pr, me, ⟨vs, vh, vl⟩, po, aw⟩ := x
      obtain ⟨q0, q1, q2, q3⟩ := HLc.out wr hT.out
      go_wp2_with fail
      refine Calls.mono (HPt.out wr hY.out) ?_
      rintro e w1 ⟨A1, c1, rfl, ho1, hP1, hT1⟩
      have Y1 := Lib.hid (hY.out.read hP1 hT1)
      have HT1 := Lib.hid (hT.out.trans hT1)
      have HO1 := Lib.hid (own_mono ho1 (Nat.zero_le _))
      have HN1 : Hid (∀ s ∈ obI (.slice A1 m c1), s ∉ Sp) := Lib.hid (fun s hs hmm => by have h1 := (own_geI ho1 s hs).1; have h2 := hY.out.P.lt s hmm; omega)
      clear ho1 hP1 hT1 q0 q1 q2 q3
      obtain ⟨q0, q1, q2, q3⟩ := HLc.out w1 HT1.out
      go_wp2_with fail
      refine Calls.mono (HBs.out w1 Y1.out) ?_
      rintro e w2 ⟨rfl, hP2, hT2⟩
      have Y2' := Lib.hid (Y1.out.read hP2 hT2)
      have HT2 := Lib.hid (HT1.out.trans hT2)
      have HO2 := Lib.hid (own_tch HO1.out hT2 HN1.out)
      clear hP2 hT2 q0 q1 q2 q3
      obtain ⟨gx, rfl⟩ := slice_some HO2.out hm1
      obtain ⟨vb, hvb⟩ : ∃ vb, w2.heap.size = vb := ⟨_, rfl⟩
      obtain ⟨W3, hW3⟩ : ∃ W, w2.alloc (.cells #[.int .i64 pr, .int .i64 me, .bool vs, .int .u64 (vh : Int), .int .u64 (vl : Int), .int .i64 po, .bool aw] 26) = W := ⟨_, rfl⟩
      have hT3 : Tch w2 W3 [] := hW3 ▸ (Tch.refl w2 []).alloc _
      have HV3 : Hid (Blk W3 vb 26 #[.int .i64 pr, .int .i64 me, .bool vs, .int .u64 (vh : Int), .int .u64 (vl : Int), .int .i64 po, .bool aw]) := Lib.hid (hW3 ▸ hvb ▸ Blk.new w2 _ _)
      have Y3' := Lib.hid (Y2'.out.tch0 hT3)
      have HT3 := Lib.hid (HT2.out.trans (hT3.mono (by simp)))
      have HO3 := Lib.hid (own_tch HO2.out hT3 (by simp))
      have HW3 := Lib.hid (And.intro hW3 hvb)
      clear hT3 hW3 hvb
      go_wp2_with fail
      rw [HW3.out.1, HW3.out.2]
      obtain ⟨v0, v1, v2, v3, v4, v5, v6⟩ := HV3.out.p7
      obtain ⟨y0, y1, y2, y3, y4, y5, y6⟩ := pa_cells (k := 0) HO3.out Hx.out
      simp only [Nat.zero_mul, Nat.zero_add] at y0 y1 y2 y3 y4 y5 y6
      have bz : ((m : Int) == 0) = false := by simp; omega
      have b4 : decide ((m : Int) > 4) = false := by simp; omega
      have b4' : ¬ (4 : Int) < (m : Int) := by omega
      have nI : (0 : Int) < (m : Int) := by omega
      have E1 : ∀ W, (binOp .neq 26 (.agg #[.int .i64 pr, .int .i64 me, .bool vs, .int .u64 (vh : Int), .int .u64 (vl : Int), .int .i64 po, .bool aw]) (.agg #[.int .i64 pr, .int .i64 me, .bool vs, .int .u64 (vh : Int), .int .u64 (vl : Int), .int .i64 po, .bool aw])).run Tryd.prog W = .ok (.bool (!true)) W := eq_neq 26 _ _ (eq_paR (pr, me, (vs, vh, vl), po, aw) (pr, me, (vs, vh, vl), po, aw) (decide_eq_true rfl))
      simp only [Bool.not_true] at E1
      go_quiet (fail)
      obtain ⟨W4, hW4⟩ : ∃ W, W3.drewN nq = W := ⟨_, rfl⟩
      rw [hW4]
      have hT4 : Tch W3 W4 [] := hW4 ▸ (Tch.refl W3 []).drewN nq
      have Y4 := Lib.hid (Y3'.out.tch0 hT4)
      have HT4 := Lib.hid (HT3.out.trans (hT4.mono (by simp)))
      have HO4 := Lib.hid (own_tch HO3.out hT4 (by simp))
      clear hT4 hW4 v0 v1 v2 v3 v4 v5 v6 y0 y1 y2 y3 y4 y5 y6 E1 bz b4 b4'
      have sI : IntKind.i64.wrap (((sumR L i : Nat) : Int) + (m : Int)) = ((sumR L i : Nat) : Int) + (m : Int) := by rw [IntKind.wrap_i64]; omega
      obtain ⟨sm, hsm⟩ : ∃ sm, sumR L i = sm := ⟨_, rfl⟩
      rw [hsm] at HSu hsl sI ⊢
      clear hsm
      go_wp2
      go_loopw [11] (fun kv wr => ∃ k : Nat, kv = .int .i64 (k : Int) ∧ 1 ≤ k ∧ k ≤ m ∧ Hid (StdR w wr p Sp L) ∧ Hid (Tch W4 wr [])) (fun kv _ => m - (intOf kv).toNat)
      case atStart => exact ⟨1, rfl, Nat.le_refl _, hm1, Y4, Lib.hid (Tch.refl _ _)⟩
      case round =>
        obtain ⟨k, rfl, hk1, hkm, hYk, hTk⟩ := hrel
        have k1 : IntKind.i64.wrap ((k : Int) + 1) = (k : Int) + 1 := by rw [IntKind.wrap_i64]; omega
        by_cases hkl : k < m
        · have kI : (k : Int) < (m : Int) := by omega
          have k0 : (0 : Int) ≤ (k : Int) := by omega
          obtain ⟨j, hj⟩ : ∃ j, k = j + 1 := ⟨k - 1, by omega⟩
          have js : IntKind.i64.wrap ((k : Int) - 1) = (j : Int) := by rw [IntKind.wrap_i64]; omega
          have jI : (j : Int) < (m : Int) := by omega
          have j0 : (0 : Int) ≤ (j : Int) := by omega
          obtain ⟨ya, hya⟩ : ∃ y, r[j]? = some y := ⟨_, List.getElem?_eq_getElem (by rw [HMl.out]; omega)⟩
          obtain ⟨yb, hyb⟩ : ∃ y, r[k]? = some y := ⟨_, List.getElem?_eq_getElem (by rw [HMl.out]; omega)⟩
          have hbt : betI ya yb = true := by
            have h1 := List.pairwise_iff_getElem.1 HSr.out j k (by rw [HMl.out]; omega) (by rw [HMl.out]; omega) (by omega)
            rw [List.getElem?_eq_getElem (by rw [HMl.out]; omega)] at hya hyb
            injection hya with e1
            injection hyb with e2
            rw [e1, e2] at h1
            exact h1
          have HBt := Lib.hid (fun W (hE : EnvR W) => betterP ya yb (HXo.out ya (List.mem_of_getElem? hya)) (HXo.out yb (List.mem_of_getElem? hyb)) W hE)
          rw [hbt] at HBt
          have HRd : Hid (∀ W, Tch W4 W [] → W.ownsRow 0 26 7 (.slice (some ⟨gx, 0, none⟩) m c1) m (r.flatMap paC)) := Lib.hid (fun W hW => own_tch HO4.out hW (by simp))
          have HCa := Lib.hid (fun W hW => pa_cells (HRd.out W hW) hya)
          have HCb := Lib.hid (fun W hW => pa_cells (HRd.out W hW) hyb)
          obtain ⟨ar, ae, ⟨asx, ah, al⟩, ao, aa⟩ := ya
          obtain ⟨br, be, ⟨bs, bh, bl⟩, bo, ba⟩ := yb
          have HCc := Lib.hid (fun W hW => And.intro (HCa.out W hW) (HCb.out W hW))
          have HC1 := Lib.hid (HCc.out wr hTk.out)
          have HTd := Lib.hid hTk.out.drew
          have HC1d := Lib.hid (HCc.out _ HTd.out)
          clear hj hya hyb hbt
          go_wp2
          refine wp_region_held_drew (S := (fun W => (W.cell? ⟨gx, j * 7, none⟩ = some (Value.int .i64 ar) ∧ W.cell? ⟨gx, j * 7 + 1, none⟩ = some (Value.int .i64 ae) ∧ W.cell? ⟨gx, j * 7 + 2, none⟩ = some (Value.bool asx) ∧ W.cell? ⟨gx, j * 7 + 3, none⟩ = some (Value.int .u64 (ah : Int)) ∧ W.cell? ⟨gx, j * 7 + 4, none⟩ = some (Value.int .u64 (al : Int)) ∧ W.cell? ⟨gx, j * 7 + 5, none⟩ = some (Value.int .i64 ao) ∧ W.cell? ⟨gx, j * 7 + 6, none⟩ = some (Value.bool aa)) ∧ (W.cell? ⟨gx, k * 7, none⟩ = some (Value.int .i64 br) ∧ W.cell? ⟨gx, k * 7 + 1, none⟩ = some (Value.int .i64 be) ∧ W.cell? ⟨gx, k * 7 + 2, none⟩ = some (Value.bool bs) ∧ W.cell? ⟨gx, k * 7 + 3, none⟩ = some (Value.int .u64 (bh : Int)) ∧ W.cell? ⟨gx, k * 7 + 4, none⟩ = some (Value.int .u64 (bl : Int)) ∧ W.cell? ⟨gx, k * 7 + 5, none⟩ = some (Value.int .i64 bo) ∧ W.cell? ⟨gx, k * 7 + 6, none⟩ = some (Value.bool ba)))) (by kernel_rfl) ?_ (fun hHeld => ?_)
          · (first | exact HC1.out | exact HC1d.out | exact HC5.out)
          refine wpAnyH_take (i := 0) (oi := { dst := some 76, op := Go.Op.move (Go.Operand.tmp 8), type := 38, pos := "law.go:170", after := #[], guard := none }) (v := ?_) rfl (by kernel_rfl) (by kernel_rfl) (by kernel_rfl) (fun _ _ _ h => h) (Or.inl ⟨by rfl, ?_⟩) (by assumption) ?_
          rotate_left
          · intro w hSw
            (try dsimp only at hSw)
            go_simp
            try (with_reducible rfl)
          try simp only [Act.put, List.setIfInBounds_toArray, List.set_cons_zero, List.set_cons_succ]
          refine wpAnyH_take (i := 1) (oi := { dst := some 77, op := Go.Op.move (Go.Operand.tmp 11), type := 3, pos := "law.go:170", after := #[], guard := none }) (v := ?_) rfl (by kernel_rfl) (by kernel_rfl) (by kernel_rfl) (fun _ _ _ h => h) (Or.inl ⟨by rfl, ?_⟩) (by assumption) ?_
          rotate_left
          · intro w hSw
            (try dsimp only at hSw)
            go_simp
            try (with_reducible rfl)
          try simp only [Act.put, List.setIfInBounds_toArray, List.set_cons_zero, List.set_cons_succ]
          refine wpAnyH_take (i := 2) (oi := { dst := some 78, op := Go.Op.binOp Go.BinOp.sub 3 (Go.Operand.tmp 77) (Go.Operand.const (Go.Value.int Go.IntKind.i64 1)) 3, type := 3, pos := "law.go:170", after := #[{ on := 1, ground := Go.Ground.data }], guard := none }) (v := ?_) rfl (by kernel_rfl) (by kernel_rfl) (by kernel_rfl) (fun _ _ _ h => h) (Or.inl ⟨by rfl, ?_⟩) (by assumption) ?_
          rotate_left
          · intro w hSw
            (try dsimp only at hSw)
            go_simp
            try (with_reducible rfl)
          try simp only [Act.put, List.setIfInBounds_toArray, List.set_cons_zero, List.set_cons_succ]
          refine wpAnyH_take (i := 3) (oi := { dst := some 79, op := Go.Op.indexAddr 38 (Go.Operand.tmp 76) (Go.Operand.tmp 78), type := 0, pos := "law.go:170", after := #[{ on := 0, ground := Go.Ground.data }, { on := 2, ground := Go.Ground.data }], guard := none }) (v := ?_) rfl (by kernel_rfl) (by kernel_rfl) (by kernel_rfl) (fun _ _ _ h => h) (Or.inl ⟨by rfl, ?_⟩) (by assumption) ?_
          rotate_left
          · intro w hSw
            (try dsimp only at hSw)
            go_simp
            try (with_reducible rfl)
          try simp only [Act.put, List.setIfInBounds_toArray, List.set_cons_zero, List.set_cons_succ]
          refine wpAnyH_take (i := 4) (oi := { dst := some 80, op := Go.Op.load 26 (Go.Operand.tmp 79), type := 26, pos := "law.go:170", after := #[{ on := 3, ground := Go.Ground.data }], guard := none }) (v := ?_) rfl (by kernel_rfl) (by kernel_rfl) (by kernel_rfl) (fun _ _ _ h => h) (Or.inl ⟨by rfl, ?_⟩) (by assumption) ?_
          rotate_left
          · intro w hSw
            (try dsimp only at hSw)
            go_simp
            try (with_reducible rfl)
          try simp only [Act.put, List.setIfInBounds_toArray, List.set_cons_zero, List.set_cons_succ]
          refine wpAnyH_take (i := 5) (oi := { dst := some 81, op := Go.Op.move (Go.Operand.tmp 8), type := 38, pos := "law.go:170", after := #[], guard := none }) (v := ?_) rfl (by kernel_rfl) (by kernel_rfl) (by kernel_rfl) (fun _ _ _ h => h) (Or.inl ⟨by rfl, ?_⟩) (by assumption) ?_
          rotate_left
          · intro w hSw
            (try dsimp only at hSw)
            go_simp
            try (with_reducible rfl)
          try simp only [Act.put, List.setIfInBounds_toArray, List.set_cons_zero, List.set_cons_succ]
          refine wpAnyH_take (i := 6) (oi := { dst := some 82, op := Go.Op.move (Go.Operand.tmp 11), type := 3, pos := "law.go:170", after := #[], guard := none }) (v := ?_) rfl (by kernel_rfl) (by kernel_rfl) (by kernel_rfl) (fun _ _ _ h => h) (Or.inl ⟨by rfl, ?_⟩) (by assumption) ?_
          rotate_left
          · intro w hSw
            (try dsimp only at hSw)
            go_simp
            try (with_reducible rfl)
          try simp only [Act.put, List.setIfInBounds_toArray, List.set_cons_zero, List.set_cons_succ]
          refine wpAnyH_take (i := 7) (oi := { dst := some 83, op := Go.Op.indexAddr 38 (Go.Operand.tmp 81) (Go.Operand.tmp 82), type := 0, pos := "law.go:170", after := #[{ on := 5, ground := Go.Ground.data }, { on := 6, ground := Go.Ground.data }], guard := none }) (v := ?_) rfl (by kernel_rfl) (by kernel_rfl) (by kernel_rfl) (fun _ _ _ h => h) (Or.inl ⟨by rfl, ?_⟩) (by assumption) ?_
          rotate_left
          · intro w hSw
            (try dsimp only at hSw)
            go_simp
            try (with_reducible rfl)
          try simp only [Act.put, List.setIfInBounds_toArray, List.set_cons_zero, List.set_cons_succ]
          refine wpAnyH_take (i := 8) (oi := { dst := some 84, op := Go.Op.load 26 (Go.Operand.tmp 83), type := 26, pos := "law.go:170", after := #[{ on := 7, ground := Go.Ground.data }], guard := none }) (v := ?_) rfl (by kernel_rfl) (by kernel_rfl) (by kernel_rfl) (fun _ _ _ h => h) (Or.inl ⟨by rfl, ?_⟩) (by assumption) ?_
          rotate_left
          · intro w hSw
            (try dsimp only at hSw)
            go_simp
            try (with_reducible rfl)
          try simp only [Act.put, List.setIfInBounds_toArray, List.set_cons_zero, List.set_cons_succ]
          refine wpAnyH_ready (rs := [9]) (by kernel_rfl) (by simp) ?_
          refine AllReadyH.cons (o := { dst := some 85, op := Go.Op.call { callee := Go.Callee.value (Go.Operand.func 8), args := #[Go.Operand.tmp 80, Go.Operand.tmp 84], argTypes := #[26, 26] }, type := 4, pos := "law.go:170", after := #[{ on := 4, ground := Go.Ground.data }, { on := 8, ground := Go.Ground.data }], guard := none }) rfl (fun K hK => ?_) AllReadyH.nil
          go_simp
          (go_at_call 8; (with_reducible refine Calls.mono (HBt.out _ (HEn.out.below (hYk.out.tch0 ((Tch.refl wr []).drew)).bel)) ?_); rintro e w5 ⟨rfl, hT5⟩; have HT5 := Lib.hid (HTd.out.trans hT5); have HC5 := Lib.hid (HCc.out w5 HT5.out); have Y5 := Lib.hid ((hYk.out.tch0 ((Tch.refl wr []).drew)).tch0 hT5); clear hT5)
          go_wp2_with fail
          refine hK.out _ _ ?_ (fun hHeld => ?_)
          · (first | exact HC1.out | exact HC1d.out | exact HC5.out)
          clear hK K
          try simp only [Act.put, List.setIfInBounds_toArray, List.set_cons_zero, List.set_cons_succ]
          refine wpAnyH_take (i := 10) (oi := { dst := some 86, op := Go.Op.unOp Go.UnOp.not 4 (Go.Operand.tmp 85), type := 4, pos := "law.go:170", after := #[{ on := 9, ground := Go.Ground.data }], guard := none }) (v := ?_) rfl (by kernel_rfl) (by kernel_rfl) (by kernel_rfl) (fun _ _ _ h => h) (Or.inl ⟨by rfl, ?_⟩) (by assumption) ?_
          rotate_left
          · intro w hSw
            (try dsimp only at hSw)
            go_simp
            try (with_reducible rfl)
          try simp only [Act.put, List.setIfInBounds_toArray, List.set_cons_zero, List.set_cons_succ]
          refine wpAnyH_done (by kernel_rfl) ?_ _
          go_wp2
          go_roundw
          case rel => exact ⟨k + 1, by go_num, by omega, hkl, Y5, HT5⟩
          case measure => simp [intOf]; omega
        · obtain rfl : k = m := by omega
          have kI : ¬ (k : Int) < (k : Int) := by omega
          have HT6 := Lib.hid (HT4.out.trans (hTk.out.mono (by simp)))
          obtain ⟨q0, q1, q2, q3⟩ := HLc.out wr HT6.out
          clear hkl hkm hk1
          go_wp2_with fail
          refine Calls.mono (HOr.out wr hYk.out) ?_
          rintro e w7 ⟨A2, c2, rfl, ho2, hP2, hT2⟩
          have Y7 := Lib.hid (hYk.out.read hP2 hT2)
          have HT7 := Lib.hid (HT6.out.trans hT2)
          have HO7 := Lib.hid (own_mono ho2 (Nat.zero_le _))
          clear ho2 hP2 hT2 q0 q1 q2 q3
          go_wp2
          go_loopw [13, 14] (fun fv kv wr => ∃ j : Nat, fv = .bool (decide (((qs, qh, ql), qb) ∈ o.take j)) ∧ kv = .int .i64 (j : Int) ∧ j ≤ on ∧ Hid (StdR w wr p Sp L) ∧ Hid (Tch w7 wr [])) (fun _ kv _ => on - (intOf kv).toNat)
          case atStart => exact ⟨0, by simp, rfl, Nat.zero_le _, Y7, Lib.hid (Tch.refl _ _)⟩
          case round =>
            obtain ⟨j, rfl, rfl, hj, hYj, hTj⟩ := hrel
            have j1 : IntKind.i64.wrap ((j : Int) + 1) = (j : Int) + 1 := by rw [IntKind.wrap_i64]; omega
            obtain ⟨fd, hfd⟩ : ∃ fd, decide (((qs, qh, ql), qb) ∈ o.take j) = fd := ⟨_, rfl⟩
            rw [hfd]
            by_cases hjl : j < on
            · have jI : (j : Int) < (on : Int) := by omega
              have j0 : (0 : Int) ≤ (j : Int) := by omega
              obtain ⟨y, hy⟩ : ∃ y, o[j]? = some y := ⟨_, List.getElem?_eq_getElem (by rw [HOln.out]; exact hjl)⟩
              have hoj := own_tch HO7.out hTj.out (by simp)
              obtain ⟨go_, rfl⟩ := slice_some hoj (by omega)
              have HRo : Hid (∀ W, Tch w7 W [] → W.ownsRow 0 37 4 (.slice (some ⟨go_, 0, none⟩) on c2) on (o.flatMap pfC)) := Lib.hid (fun W hW => own_tch HO7.out hW (by simp))
              have hfd2 : decide (((qs, qh, ql), qb) ∈ o.take (j + 1)) = (fd || decide (y = ((qs, qh, ql), qb))) := by
                rw [← hfd, List.take_add_one, hy]
                by_cases h1 : ((qs, qh, ql), qb) ∈ o.take j <;> by_cases h2 : y = ((qs, qh, ql), qb) <;> simp [h1, h2, eq_comm] <;> simp_all [eq_comm]
              have Hfd2 := Lib.hid hfd2
              have HTj7 := Lib.hid (HT7.out.trans (hTj.out.mono (T := Sp) (by simp)))
              have HCy := Lib.hid (fun W (hW : Tch w7 W []) => pf_cells (HRo.out W hW) hy)
              have HFj : Hid (∀ i z, j = i + 1 → o[i]? = some z → y.2 < z.2) := Lib.hid (fun i z hi hz => by
                have h1 := List.pairwise_iff_getElem.1 HFa.out i j (by have := (List.getElem?_eq_some_iff.1 hz).1; exact this) (by rw [HOln.out]; exact hjl) (by omega)
                rw [List.getElem?_eq_getElem (by rw [HOln.out]; omega)] at hz hy
                injection hz with e1
                injection hy with e2
                rw [e1, e2] at h1
                exact h1)
              have HCz := Lib.hid (fun i z (hz : o[i]? = some z) W (hW : Tch w7 W []) => pf_cells (HRo.out W hW) hz)
              obtain ⟨eb, heb⟩ : ∃ eb, decide (y = ((qs, qh, ql), qb)) = eb := ⟨_, rfl⟩
              rw [heb] at Hfd2
              have HEq := Lib.hid (eqA_eql 37 _ _ (eq_pfR y ((qs, qh, ql), qb) heb))
              obtain ⟨⟨ys, yh, yl⟩, yb⟩ := y
              have E1 := HEq.out
              obtain ⟨y0, y1, y2, y3⟩ := HCy.out wr hTj.out
              obtain ⟨q0, q1, q2, q3⟩ := HLc.out wr HTj7.out
              simp only at E1
              clear hfd hfd2 heb hy hoj
              rcases Nat.eq_zero_or_pos j with hj0 | hj0
              · have b0 : decide ((0 : Int) < (j : Int)) = false := by simp; omega
                have b0' : ¬ (0 : Int) < (j : Int) := by omega
                have b1 : decide (0 < j) = false := by simp; omega
                have b2 : (!decide (0 < j)) = true := by simp; omega
                clear hj0
                cases fd with
                | true =>
                  go_wp2
                  go_quiet (fail)
                  obtain ⟨nq1, hnq1⟩ : ∃ x, nq = x := ⟨_, rfl⟩
                  rw [hnq1]
                  clear hnq1
                  go_wp2
                  go_quiet (fail)
                  generalize hW8 : (wr.drewN nq1).drewN nq = W8
                  have hT8 : Tch wr W8 [] := hW8 ▸ ((Tch.refl wr []).drewN nq1).drewN nq
                  have Y8 := Lib.hid (hYj.out.tch0 hT8)
                  have HT8 := Lib.hid (hTj.out.trans hT8)
                  clear hT8 hW8
                  go_wp2
                  go_roundw
                  case rel => exact ⟨j + 1, by rw [Hfd2.out]; rfl, by go_num, hjl, Y8, HT8⟩
                  case measure => simp [intOf]; omega
                | false =>
                  go_wp2
                  go_quiet (fail)
                  obtain ⟨nq1, hnq1⟩ : ∃ x, nq = x := ⟨_, rfl⟩
                  rw [hnq1]
                  clear hnq1
                  go_wp2
                  go_quiet (fail)
                  generalize hW8 : (wr.drewN nq1).drewN nq = W8
                  have hT8 : Tch wr W8 [] := hW8 ▸ ((Tch.refl wr []).drewN nq1).drewN nq
                  have Y8 := Lib.hid (hYj.out.tch0 hT8)
                  have HT8 := Lib.hid (hTj.out.trans hT8)
                  clear hT8 hW8
                  go_wp2
                  go_roundw
                  case rel => exact ⟨j + 1, by rw [Hfd2.out]; rfl, by go_num, hjl, Y8, HT8⟩
                  case measure => simp [intOf]; omega
              · have b0 : decide ((j : Int) > 0) = true := by simp; omega
                have b0' : (0 : Int) < (j : Int) := by omega
                obtain ⟨jp, hjp⟩ : ∃ jp, j = jp + 1 := ⟨j - 1, by omega⟩
                have js : IntKind.i64.wrap ((j : Int) - 1) = (jp : Int) := by rw [IntKind.wrap_i64]; omega
                have jpI : (jp : Int) < (on : Int) := by omega
                have jp0 : (0 : Int) ≤ (jp : Int) := by omega
                obtain ⟨z, hz⟩ : ∃ z, o[jp]? = some z := ⟨_, List.getElem?_eq_getElem (by rw [HOln.out]; omega)⟩
                have hlt := HFj.out jp z hjp hz
                obtain ⟨z0, z1, z2, z3⟩ := HCz.out jp z hz wr hTj.out
                obtain ⟨⟨zs, zh, zl⟩, zb⟩ := z
                simp only at hlt
                have hge : ¬ yb ≥ zb := by omega
                have hge' : ¬ zb ≤ yb := by omega
                clear hz hjp
                cases fd with
                | true =>
                  go_wp2
                  go_quiet (fail)
                  obtain ⟨nq1, hnq1⟩ : ∃ x, nq = x := ⟨_, rfl⟩
                  rw [hnq1]
                  clear hnq1
                  go_wp2
                  go_quiet (fail)
                  generalize hW8 : (wr.drewN nq1).drewN nq = W8
                  have hT8 : Tch wr W8 [] := hW8 ▸ ((Tch.refl wr []).drewN nq1).drewN nq
                  have Y8 := Lib.hid (hYj.out.tch0 hT8)
                  have HT8 := Lib.hid (hTj.out.trans hT8)
                  clear hT8 hW8
                  go_wp2
                  go_roundw
                  case rel => exact ⟨j + 1, by rw [Hfd2.out]; rfl, by go_num, hjl, Y8, HT8⟩
                  case measure => simp [intOf]; omega
                | false =>
                  go_wp2
                  go_quiet (fail)
                  obtain ⟨nq1, hnq1⟩ : ∃ x, nq = x := ⟨_, rfl⟩
                  rw [hnq1]
                  clear hnq1
                  go_wp2
                  go_quiet (fail)
                  generalize hW8 : (wr.drewN nq1).drewN nq = W8
                  have hT8 : Tch wr W8 [] := hW8 ▸ ((Tch.refl wr []).drewN nq1).drewN nq
                  have Y8 := Lib.hid (hYj.out.tch0 hT8)
                  have HT8 := Lib.hid (hTj.out.trans hT8)
                  clear hT8 hW8
                  go_wp2
                  go_roundw
                  case rel => exact ⟨j + 1, by rw [Hfd2.out]; rfl, by go_num, hjl, Y8, HT8⟩
                  case measure => simp [intOf]; omega
            · obtain rfl : j = on := by omega
              have jI : ¬ (j : Int) < (j : Int) := by omega
              have hft : fd = true := by
                rw [← hfd, List.take_of_length_le (by rw [HOln.out]; exact Nat.le_refl _)]
                exact decide_eq_true HOv.out
              subst hft
              have Y9 := Lib.hid hYj.out
              have HT9 := Lib.hid (HT7.out.trans (hTj.out.mono (T := Sp) (by simp)))
              clear hfd hjl hj
              go_wp2
              go_roundw
              case rel => exact ⟨i + 1, by rw [HSu.out]; exact congrArg (Value.int .i64) (by omega), by go_num, hin, Y9, HT9⟩
              case measure => simp [intOf]; omega
    · obtain rfl : i = n := by omega
      have iI : ¬ (i : Int) < (i : Int) := by omega
      have HCn := Lib.hid (countP p Sp L wr hY.out.P)
      have hall : sumR L i = L.length := by rw [← HN.out, ← Hl.out]; exact sumR_all HI.out.inv
      rw [hall]
      have hi90 : ¬ (90 : Int) < (i : Int) := by omega
      have hi90' : (i : Int) ≤ 90 := by omega
      clear hin hi hall hsl
      go_wp2_with fail
      refine Calls.mono HCn.out ?_
      rintro e w9 ⟨rfl, hP9, hT9⟩
      have Y9 := Lib.hid (hY.out.read hP9 hT9)
      clear hP9 hT9
      have be : ((L.length : Int) == (L.length : Int)) = true := by simp
      go_wp2
      go_ret
      exact ⟨rfl, Y9.out.bel⟩
set_option maxRecDepth 100000 in
theorem contract (H : Type) (enc : TypeId × Value → H) (W : World) (base : Nat) (args : Array Value) (ds gs : List (DataW H)) (before : List MemPlace)
    (hval0 : ∀ (j : Nat) t v, Tryd.f5.params[j]? = some t → args[j]? = some v → Value.okWide Tryd.prog W .any base t v)
    (hW : DataW.Whole enc Tryd.prog Tryd.f5.params.toList Rows.ribRowSpec.vars false W args.toList ds gs before)
    (hsz0 : (DataW.weightsEach Tryd.prog (Tryd.f5.params.toList ++ Rows.ribRowSpec.plain.varTypes Tryd.prog) (ds ++ gs)).all (· ≤ reachBytes) = true) (hE : EnvR W) :
    Calls Tryd.prog 5 args W fun e W' => ∃ v, e = .returned v ∧ Rows.ribRowSpec.post enc Tryd.prog Tryd.f5 false true false false W args v W' := by
  have hsz := hsz0
  clear hsz0
  have hval := hval0
  clear hval0
  have hW' := hW
  obtain ⟨p, q, hA0, hV, rfl, hfz, hnd⟩ := hW
  have hA : DataW.TrodAll enc Tryd.prog W 0 (fun _ => true) true Tryd.f5.params.toList args.toList ds p := hA0
  rw [Tryd.params5] at hA hval hsz
  obtain ⟨v0, vs0, d0, ds0, p0, q0, hargs, rfl, rfl, h0, r0⟩ := trodAll_cons hA
  obtain ⟨rfl, rfl, rfl⟩ := trodAll_nil r0
  obtain rfl : args = #[v0] := by cases args; simp_all
  obtain ⟨rfl, rfl⟩ := trodVars_none hV
  obtain ⟨a0, l0, c0, rfl⟩ := okWide_slice Tryd.underlying30 (hval 0 30 v0 rfl rfl)
  have k0 := h0
  have lt0 : ∀ x ∈ p0, x.block < W.heap.size := by obtain ⟨m, hm⟩ := k0; exact DataW.trod_lt m _ _ _ hm
  obtain ⟨z0, w0⟩ := isStp_of h0
  clear hA0
  refine (walk W hE a0 l0 c0 z0 w0).mono fun e W' ⟨he, bel⟩ => ?_
  subst he
  exact ⟨_, rfl, _, _, _, [], _, [], hW', trodAll_mk1 (shut_bool Tryd.underlying4 _), (trodAll_cons_mk (Below.trod laidOut (by kernel_rfl) (of_decide_eq_true (by kernel_rfl)) k0 bel lt0) trodAll_mk0), rfl, bel.frame _, fun h => by cases h⟩

theorem laid_met (os : Os) (args : Array Value) : laidMet Tryd.prog Rows.ribRowRow.laid ((World.laidAll Tryd.prog os Rows.ribRowRow.laid).forCall (fun _ _ => 0) ⟨#[], args, []⟩).memory :=
  laidMet_laidAll _ (by kernel_rfl) (by kernel_rfl)
set_option maxRecDepth 100000 in
theorem pre_row (os : Os) {H : Type} (enc : TypeId × Value → H) :
    (OpenSpec.ofChange Rows.ribRowSpec).preRow enc Tryd.prog Tryd.f5 Rows.ribRowRow.domain false Rows.ribRowRow.laid ((World.laidAll Tryd.prog os Rows.ribRowRow.laid).forCall (fun _ _ => 0) ⟨#[], #[.slice none 0 0], []⟩).memory #[.slice none 0 0] := by
  exact ⟨⟨ChangeSpec.pre_of_preB (fuel := 8) (by kernel_rfl), by rw [MakeChecks.laidMetH_plain _ _ _ (by kernel_rfl)]; exact laid_met os _⟩, sizedMet_of_sizedB (fuel := 8) (by kernel_rfl)⟩
set_option maxRecDepth 100000 in
theorem lifted (os : Os) (started : os.Started) (H : Type) (enc : TypeId × Value → H) (F : Stop.Interp) :
    ReturnsInHanded {} Tryd.checked os 5 .any ((OpenSpec.ofChange Rows.ribRowSpec).preRow enc Tryd.prog Tryd.f5 Rows.ribRowRow.domain false Rows.ribRowRow.laid) (((OpenSpec.ofChange Rows.ribRowSpec).at F).post enc Tryd.prog Tryd.f5 false true false false) := by
  refine returnsInHanded_of_row (C := Tryd.checked) (s := (OpenSpec.ofChange Rows.ribRowSpec)) own started (by kernel_rfl) Tryd.func5
    ⟨World.laidAll Tryd.prog os Rows.ribRowRow.laid, fun _ _ => 0, ⟨#[], #[.slice none 0 0], []⟩, World.laidAll_os _ _ _, World.shaped_of_ZipB (by kernel_rfl) (by kernel_rfl), rfl, (Input.okWide_of_okWideB (by kernel_rfl)).2, pre_row os enc, (by simp only [Assume.holds]; exact ⟨by simp, by simp, fun _ => Modest.zero, by simp, by simp⟩)⟩ ?_
  intro W base args ds gs before hval hW _ hcond hsz hL hsh _
  rw [MakeChecks.laidMetH_plain _ _ _ (by kernel_rfl)] at hL
  exact contract H enc W base args ds gs before hval hW hsz (envR_of hL)

theorem over : Rows.ribRowRow.holds Tryd.pinned (OpenSpec.ofChange Rows.ribRowSpec) :=
  OpenClaim.holds_of_cond 5 Tryd.f5 rfl rfl rfl rfl rfl rfl rfl ⟨rfl, rfl, rfl, rfl, rfl⟩ rfl rfl rfl rfl rfl (by kernel_rfl) Tryd.func5 (by kernel_rfl)
    (of_decide_eq_true (by kernel_rfl)) (by unfold Func.isWrapper; first | (rw [if_pos (by decide +kernel)]; kernel_rfl) | (rw [if_neg (by decide +kernel)]; exact ⟨rfl, rfl⟩))
    (fun os started H enc _ F => by rw [OpenClaim.pre_eq_preRow]; exact lifted os started H enc F)

theorem proved : Rows.RibRowCardSaid :=
  Claim7.holds_tied_plain_at .later [] Rows.ribRowCard.laidKinds true Rows.ribRowCard.stood.harness Rows.ribRowCard.stood.looks over (fun _ h => by cases h) (by kernel_rfl) (fun _ h => by cases h) ribRow_row_tie rfl ⟨rfl, rfl⟩ (by kernel_rfl) rfl
    (fun f fn hf hfn => by
      obtain rfl : f = 5 := Option.some.inj ((show Tryd.prog.funcNamed Rows.ribRowRow.func = some 5 by kernel_rfl).symm.trans hf) |>.symm
      obtain rfl : fn = Tryd.f5 := (Option.some.inj (Tryd.func5.symm.trans hfn)).symm
      exact ⟨by kernel_rfl, fun j t ht => by
        rw [Tryd.params5] at ht
        have hm : t ∈ [30] := by simpa using Array.mem_of_getElem? ht
        have hall : ([30].all fun u => !Tryd.prog.wantsStandIn u) = true := by kernel_rfl
        exact (show Tryd.prog.wantsStandIn t = false by simpa using List.all_eq_true.1 hall t hm)⟩)
    (by kernel_rfl)
#print axioms proved
end RRow
end Go.Proofs.YtjlmgkdieffjcaaDoor
