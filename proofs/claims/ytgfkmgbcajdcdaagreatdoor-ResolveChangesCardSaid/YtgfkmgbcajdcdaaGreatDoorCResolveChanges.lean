/-
  crosswaylaw16.ResolveChanges returns true for every input, and leaves its arguments alone.
  Conditions: none of our own.
-/
import Derived.Test.YtgfkmgbcajdcdaaGreatDoorCba
import Derived.Test.YtgfkmgbcajdcdaaGreatDoorCar
import Derived.Test.YtgfkmgbcajdcdaaGreatDoorCbb
import Derived.Test.YtgfkmgbcajdcdaaGreatDoorCbf
import Derived.Test.YtgfkmgbcajdcdaaGreatDoorCbg
namespace Go.Proofs.YtgfkmgbcajdcdaaGreatDoor
open Go.ChangeShapes Go.WideShapes Go.ChangeAt Go.RowKit Ifs
set_option linter.unusedVariables false
namespace VCg
theorem cg_ok {old now : List EnI} (ho : SrtE old) (hn : SrtE now) {x : CgI} (hx : x ∈ chI old now) : PvOk x.2.1 := by
  rcases (chI_mem ho hn x).1 hx with ⟨-, h, -⟩ | ⟨-, h, -⟩
  · exact ho.ok _ h
  · exact hn.ok _ h
set_option maxRecDepth 100000 in
set_option maxHeartbeats 16000000 in
theorem walk (w : World) (hE : EnvR w) (a0 b0 : Option Addr) (l0 c0 m0 d0_ : Nat) (z0 : List Ifs.Stp) (y0 : List Stp) (w0 : Ifs.IsStp w a0 l0 z0) (x0 : IsStp w b0 m0 y0) (a1 b1 : Option Addr) (l1 c1 m1 d1_ : Nat) (z1 : List Ifs.Stp) (y1 : List Stp) (w1 : Ifs.IsStp w a1 l1 z1) (x1 : IsStp w b1 m1 y1) :
    Calls Tryz.prog 7 #[.agg #[.slice a0 l0 c0, .slice b0 m0 d0_], .agg #[.slice a1 l1 c1, .slice b1 m1 d1_]] w fun e w' => e = .returned (.bool true) ∧ Below w.heap.size w w' := by
  have HEn := Lib.hid hE
  have HM := Lib.hid (fun W (hW : Below w.heap.size w W) => made16 w a0 b0 l0 c0 m0 d0_ z0 y0 w0 x0 W hW hE)
  have HM2 := Lib.hid (fun W (hW : Below w.heap.size w W) => made16 w a1 b1 l1 c1 m1 d1_ z1 y1 w1 x1 W hW hE)
  clear hE w0 x0 w1 x1
  obtain ⟨xb, hxb⟩ : ∃ xb, w.heap.size = xb := ⟨_, rfl⟩
  obtain ⟨W0, hW0⟩ : ∃ W, (w.alloc (.cells #[.slice a0 l0 c0, .slice b0 m0 d0_] 25)).alloc (.cells #[.slice a1 l1 c1, .slice b1 m1 d1_] 25) = W := ⟨_, rfl⟩
  have HX : Hid (Blk W0 xb 25 #[.slice a0 l0 c0, .slice b0 m0 d0_]) := Lib.hid (hW0 ▸ hxb ▸ ((Tch.refl _ []).alloc _).blk (Blk.new w _ _) (by simp))
  have HZ : Hid (Blk W0 (xb + 1) 25 #[.slice a1 l1 c1, .slice b1 m1 d1_]) := Lib.hid (by have h := Blk.new (w.alloc (.cells #[.slice a0 l0 c0, .slice b0 m0 d0_] 25)) 25 #[.slice a1 l1 c1, .slice b1 m1 d1_]; rw [World.size_alloc, hW0, hxb] at h; exact h)
  have HB0 : Hid (Below w.heap.size w W0) := Lib.hid (hW0 ▸ ((Below.refl _ w).alloc (Nat.le_refl _) _).alloc (by rw [World.size_alloc]; exact Nat.le_succ _) _)
  have HEn0 := Lib.hid (HEn.out.below HB0.out)
  have HW0 := Lib.hid (And.intro hW0 hxb)
  clear hW0 hxb
  go_enter Tryz.func7, Tryz.ntmps7
  go_wp2_with fail
  rw [HW0.out.1, HW0.out.2]
  refine Calls.mono (awake16 W0 HEn0.out) ?_
  rintro e v1 ⟨rfl, hb1⟩
  have HB1 := Lib.hid (HB0.out.trans (hb1.mono HB0.out.size))
  have HX1 := Lib.hid (HX.out.below hb1 HX.out.lt)
  have HZ1 := Lib.hid (HZ.out.below hb1 HZ.out.lt)
  clear hb1
  have q0 := (HX1.out.cell 0).trans (show _ = some (Value.slice a0 l0 c0) by rfl)
  have q1 := (HX1.out.cell 1).trans (show _ = some (Value.slice b0 m0 d0_) by rfl)
  go_wp2_with fail
  refine Calls.mono (HM.out v1 HB1.out) ?_
  rintro e v2 ⟨t, p, S, T, rfl, hY⟩
  clear q0 q1
  obtain ⟨L, hL⟩ : ∃ L, plR y0 (min m0 60) = L := ⟨_, rfl⟩
  obtain ⟨st, hst⟩ : ∃ st, plI z0 (min l0 60) = st := ⟨_, rfl⟩
  rw [hL, hst] at hY
  have HB2 := Lib.hid (HB1.out.trans (hY.bel.mono HB1.out.size))
  have HZ2 := Lib.hid (HZ1.out.below hY.bel HZ1.out.lt)
  have HYf := Lib.hid (fun W (hW : Tch v2 W []) => hY.tch0 hW)
  clear hL hst hY
  have q0 := (HZ2.out.cell 0).trans (show _ = some (Value.slice a1 l1 c1) by rfl)
  have q1 := (HZ2.out.cell 1).trans (show _ = some (Value.slice b1 m1 d1_) by rfl)
  go_wp2_with fail
  refine Calls.mono (HM2.out v2 HB2.out) ?_
  rintro e v3 ⟨t', p', S', T', rfl, hZ⟩
  clear q0 q1
  obtain ⟨M, hM⟩ : ∃ L, plR y1 (min m1 60) = L := ⟨_, rfl⟩
  obtain ⟨su, hsu⟩ : ∃ st, plI z1 (min l1 60) = st := ⟨_, rfl⟩
  rw [hM, hsu] at hZ
  have HB3 := Lib.hid (HB2.out.trans (hZ.bel.mono HB2.out.size))
  have HT23 : Hid (Tch v2 v3 []) := Lib.hid (Tch.of_below [] hZ.bel)
  have HZf := Lib.hid (fun W (hW : Tch v3 W []) => hZ.tch0 hW)
  clear hM hsu hZ
  have HSo : Hid (SrtE (tabI L st)) := Lib.hid (tabI_SrtE (HYf.out v3 HT23.out).R.inv.inv)
  have HSn : Hid (SrtE (tabI M su)) := Lib.hid (tabI_SrtE (HZf.out v3 (Tch.refl _ _)).R.inv.inv)
  have HTa := Lib.hid (rtable_any t p S T L st v3 (HYf.out v3 HT23.out).R (HYf.out v3 HT23.out).I)
  have HTb := Lib.hid (fun W (hW : Tch v3 W []) => rtable_any t' p' S' T' M su W (HZf.out W hW).R (HZf.out W hW).I)
  obtain ⟨n, hn⟩ : ∃ n, (tabI L st).length = n := ⟨_, rfl⟩
  obtain ⟨m, hm⟩ : ∃ m, (tabI M su).length = m := ⟨_, rfl⟩
  have HN9 : Hid (n ≤ 90) := Lib.hid (by have h1 := tabI_len L st; have h2 := (HYf.out v3 HT23.out).R.inv.ninety; rw [hn] at h1; omega)
  have HM9 : Hid (m ≤ 90) := Lib.hid (by have h1 := tabI_len M su; have h2 := (HZf.out v3 (Tch.refl _ _)).R.inv.ninety; rw [hm] at h1; omega)
  rw [hn] at HTa
  rw [hm] at HTb
  obtain ⟨old, hold⟩ : ∃ l, tabI L st = l := ⟨_, rfl⟩
  obtain ⟨now, hnow⟩ : ∃ l, tabI M su = l := ⟨_, rfl⟩
  rw [hold] at HTa HSo hn
  rw [hnow] at HTb HSn hm
  have HN := Lib.hid hn
  have HMm := Lib.hid hm
  clear hn hm hold hnow
  go_wp2_with fail
  refine Calls.mono HTa.out ?_
  rintro e v4 ⟨A, c, rfl, ho, hT4⟩
  have HT4 := Lib.hid hT4
  have HOo := Lib.hid (fun W (hW : Tch v4 W []) => own_tch (own_mono ho (Nat.zero_le _)) hW (by simp))
  clear ho hT4
  go_wp2_with fail
  refine Calls.mono (HTb.out v4 HT4.out) ?_
  rintro e v5 ⟨B, d, rfl, ho, hT5⟩
  have HT5 := Lib.hid hT5
  have HOn := Lib.hid (fun W (hW : Tch v5 W []) => own_tch (own_mono ho (Nat.zero_le _)) hW (by simp))
  have HRc := Lib.hid (fun W (hW : Tch v5 W []) => rchanges_any A B n m c d old now (by have := HN9.out; omega) (by have := HM9.out; omega) W (RE.of HN.out (HOo.out W (HT5.out.trans hW))) (RE.of HMm.out (HOn.out W hW)) HSo.out HSn.out)
  have HRs := Lib.hid (fun W (hW : Tch v5 W []) => rchanges_any B B m m d d now now (by have := HM9.out; omega) (by have := HM9.out; omega) W (RE.of HMm.out (HOn.out W hW)) (RE.of HMm.out (HOn.out W hW)) HSn.out HSn.out)
  have HRd := Lib.hid (fun W (hW : Tch v5 W []) => dchanges_any A B n m c d old now HN.out HMm.out (by have := HN9.out; omega) (by have := HM9.out; omega) W (HOo.out W (HT5.out.trans hW)) (HOn.out W hW) HSo.out HSn.out)
  rw [doc_chI HSo.out HSn.out] at HRd
  rw [chI_self now] at HRs
  have HAp := Lib.hid (ap_all HSo.out HSn.out)
  have HPc := Lib.hid (fun x (hx : x ∈ chI old now) => cg_ok HSo.out HSn.out hx)
  obtain ⟨C, hC⟩ : ∃ C, chI old now = C := ⟨_, rfl⟩
  have HCl : Hid (C.length ≤ 180) := Lib.hid (by have h1 := chI_len old now; rw [hC, HN.out, HMm.out] at h1; have := HN9.out; have := HM9.out; omega)
  rw [hC] at HRc HRd HAp HPc
  obtain ⟨m2, hm2⟩ : ∃ m, C.length = m := ⟨_, rfl⟩
  rw [hm2] at HRc HRd HCl
  have HC2 := Lib.hid hm2
  clear hC hm2 ho hT5
  go_wp2_with fail
  refine Calls.mono (HRc.out v5 (Tch.refl _ _)) ?_
  rintro e v6 ⟨A6, c6, rfl, ho, hT6⟩
  have HT6 := Lib.hid hT6
  have HOc := Lib.hid (fun W (hW : Tch v6 W []) => own_tch (own_mono ho (Nat.zero_le _)) hW (by simp))
  clear ho hT6
  go_wp2_with fail
  refine Calls.mono (HRs.out v6 HT6.out) ?_
  rintro e v7 ⟨A7, c7, rfl, -, hT7⟩
  have HT7 := Lib.hid hT7
  clear hT7
  simp only [List.length_nil]
  go_wp2_with fail
  refine Calls.mono (HRd.out v7 (HT6.out.trans HT7.out)) ?_
  rintro e v8 ⟨A8, c8, rfl, ho, hT8⟩
  have HT8 := Lib.hid (HT7.out.trans hT8)
  have HSa := Lib.hid (same_cg A6 A8 m2 c6 c8 C HC2.out (by have := HCl.out; omega) v8 (HOc.out v8 (HT7.out.trans hT8)) (own_mono ho (Nat.zero_le _)))
  clear ho hT8
  go_wp2_with fail
  refine Calls.mono HSa.out ?_
  rintro e v9 ⟨rfl, hT9⟩
  have HT9 := Lib.hid (HT8.out.trans hT9)
  have HTo := Lib.hid (HT5.out.trans (HT6.out.trans HT9.out))
  have HNil : Hid (v9.ownsRow v9.heap.size 70 9 (.slice none 0 0) 0 []) := Lib.hid ⟨rfl, .inl ⟨rfl, rfl⟩⟩
  have HOo9 := Lib.hid (HOo.out v9 HTo.out)
  have HNm : Hid (0 + n ≤ 1000000) := Lib.hid (by have := HN9.out; omega)
  clear hT9
  go_wp2_with (at_builtin; (refine wpList_apm 59 70 (.agg #[.bool false, .int .u64 0, .int .u64 0, .int .i64 0, .int .i64 0, .bool false, .int .u64 0, .int .u64 0, .bool false]) 9 72 Tryz.underlying59 infoEn rfl (by decide) (by decide) _ rfl (.tmp 71) (.tmp 72) rfl v9.heap.size (.slice none 0 0) 0 [] rfl HNil.out 0 (.slice A n c) n (old.flatMap enC) rfl HOo9.out (flat_one en_one _) HNm.out (Nat.le_refl _) ?_; intro u5 w9 hown hg hv; have hT9 : Tch v9 w9 [] := Tch.of_grown' hg (fun g e => by cases e); rw [Nat.zero_add] at hown; obtain ⟨A9, c9, e9, -, -⟩ := own_sl hown; subst e9; have HRi := Lib.hid hown; have HTi := Lib.hid hT9; clear hown hg hv hT9))
  go_loopw [14, 15] (fun lv iv wr => ∃ (i n : Nat) (A : Option Addr) (c : Nat) (l : List EnI), lv = .slice A n c ∧ iv = .int .i64 (i : Int) ∧ i ≤ m2 ∧ Hid (l.length = n) ∧ Hid ((C.take i).foldl apC old = l) ∧ Hid (RowE wr v9.heap.size A n c l) ∧ Hid (Tch v9 wr [])) (fun _ iv _ => m2 - (intOf iv).toNat)
  case atStart => exact ⟨0, n, A9, c9, old, rfl, rfl, Nat.zero_le _, HN, Lib.hid rfl, HRi, HTi⟩
  case round =>
    obtain ⟨i, nd, Ad, cd, l, rfl, rfl, hi, hln, hfo, hR, hT⟩ := hrel
    obtain ⟨wI, hwI⟩ : ∃ W, W = wr := ⟨_, rfl⟩
    subst hwI
    have HLn : Hid (nd ≤ 270) := Lib.hid (by have h1 := apF_len (C.take i) old; rw [hfo.out, hln.out, HN.out, List.length_take, HC2.out] at h1; have h2 := HN9.out; have h3 := HCl.out; omega)
    by_cases hin : i < m2
    · have iI : (i : Int) < (m2 : Int) := by omega
      have i0 : (0 : Int) ≤ (i : Int) := by omega
      have i1 : IntKind.i64.wrap ((i : Int) + 1) = (i : Int) + 1 := by rw [IntKind.wrap_i64]; have := HCl.out; omega
      obtain ⟨x, hx⟩ : ∃ x, C[i]? = some x := ⟨_, List.getElem?_eq_getElem (by rw [HC2.out]; exact hin)⟩
      have HXp := Lib.hid (HPc.out x (List.mem_of_getElem? hx))
      have HAi := Lib.hid (apF_succ (l := old) hx)
      rw [hfo.out, ← endA_ap] at HAi
      have HTc := Lib.hid (HT9.out.trans hT.out)
      obtain ⟨gC, hgC⟩ := slice_some (HOc.out wI HTc.out) (Nat.lt_of_le_of_lt (Nat.zero_le _) hin)
      subst hgC
      have HCx := Lib.hid (fun W (hW : Tch wI W []) => cg_cells (HOc.out W (HTc.out.trans hW)) hx)
      have HOd := Lib.hid (own_mono hR.out (Nat.zero_le _))
      have HRl := Lib.hid hR.out
      have HLi := Lib.hid hln.out
      have HOk : Hid (∀ e ∈ l, PvOk e.1) := Lib.hid (by rw [← hfo.out]; exact (apF_srt _ _ HSo.out (fun c hc => HPc.out c (List.mem_of_mem_take hc))).ok)
      obtain ⟨xg, ⟨⟨xs, xh, xl⟩, xn⟩, ⟨xo, ⟨ys, yh, yl⟩, xw⟩⟩ := x
      clear hx hR hln hfo
      obtain ⟨t0, -⟩ := HCx.out wI (Tch.refl _ _)
      go_wp2_with fail
      clear t0
      go_loopw [16, 17, 18] (fun lv pv kv wr => ∃ (k : Nat) (nx : List EnI) (pt : Bool) (f : Nat) (A : Option Addr) (c : Nat), lv = .slice A f c ∧ pv = .bool pt ∧ kv = .int .i64 (k : Int) ∧ k ≤ nd ∧ Hid ((l.take k).foldl (stepA (xg, (((xs, xh, xl), xn), (xo, (ys, yh, yl), xw)))) ([], xg) = (nx, pt)) ∧ Hid (nx.length = f) ∧ Hid (RowE wr wI.heap.size A f c nx) ∧ Hid (Tch wI wr [])) (fun _ _ kv _ => nd - (intOf kv).toNat)
      case atStart => exact ⟨0, [], xg, 0, none, 0, rfl, rfl, rfl, Nat.zero_le _, Lib.hid rfl, Lib.hid rfl, Lib.hid ⟨rfl, .inl ⟨rfl, rfl⟩⟩, Lib.hid (Tch.refl _ _)⟩
      case round =>
        obtain ⟨k, nx, pt, f, A1, c1, rfl, rfl, rfl, hk, hst, hnl, hRn, hTk⟩ := hrel
        have HFb : Hid (f ≤ 2 * nd) := Lib.hid (by have h1 := stepA_len (xg, (((xs, xh, xl), xn), (xo, (ys, yh, yl), xw))) (l.take k) ([], xg); rw [hst.out] at h1; simp only [List.length_nil, hnl.out, List.length_take, HLi.out] at h1; omega)
        by_cases hkn : k < nd
        · have kI : (k : Int) < (nd : Int) := by omega
          have k0 : (0 : Int) ≤ (k : Int) := by omega
          have k1 : IntKind.i64.wrap ((k : Int) + 1) = (k : Int) + 1 := by rw [IntKind.wrap_i64]; have := HLn.out; omega
          obtain ⟨y, hy⟩ : ∃ y, l[k]? = some y := ⟨_, List.getElem?_eq_getElem (by rw [HLi.out]; exact hkn)⟩
          have HSt := Lib.hid (stepA_succ (c := (xg, (((xs, xh, xl), xn), (xo, (ys, yh, yl), xw)))) (s := ([], xg)) hy)
          rw [hst.out] at HSt
          have hyo := HOk.out y (List.mem_of_getElem? hy)
          have hxo := HXp.out
          obtain ⟨gD, hgD⟩ := slice_some HOd.out (by omega)
          subst hgD
          have HCd := Lib.hid (fun W (hW : Tch wI W []) => en_cells (own_tch HOd.out hW (by simp)) hy)
          obtain ⟨⟨⟨ds, dh, dl⟩, dn⟩, ⟨do_, ⟨es, eh, el⟩, dw⟩⟩ := y
          obtain ⟨b, hb⟩ : ∃ b, lessI ((xs, xh, xl), xn) ((ds, dh, dl), dn) = b := ⟨_, rfl⟩
          obtain ⟨eq, heq⟩ : ∃ b, decide (((ds, dh, dl), dn) = ((xs, xh, xl), xn)) = b := ⟨_, rfl⟩
          have HEq := Lib.hid heq
          have HBb := Lib.hid hb
          have HLe := Lib.hid (fun W => rpless_at xs xh xl xn ds dh dl dn hxo.2.2.1 hxo.2.2.2 hyo.2.2.1 hyo.2.2.2 hb W)
          clear hy hyo hxo hb
          cases pt with
          | true =>
            have HC0 : Hid (Tch wI wr.drew []) := Lib.hid hTk.out.drew
            have HR0 : Hid (RowE wr.drew wI.heap.size A1 f c1 nx) := Lib.hid (own_tch hRn.out (Tch.refl wr []).drew (by simp))
            go_wp2
            refine wp_region_held_drew (S := (fun W => Tch wI W [])) (by kernel_rfl) ?_ (fun hHeld => ?_)
            · (exact HC0.out)
            refine wpAnyH_take (i := 0) (oi := { dst := some 91, op := Go.Op.move (Go.Operand.tmp 17), type := 4, pos := "law.go:205", after := #[], guard := none }) (v := ?_) rfl (by kernel_rfl) (by kernel_rfl) (by kernel_rfl) (fun _ _ _ h => h) (Or.inl ⟨by rfl, ?_⟩) (by assumption) ?_
            rotate_left
            · intro w hSw
              (try dsimp only at hSw)
              go_simp
              try (with_reducible rfl)
            try simp only [Act.put, List.setIfInBounds_toArray, List.set_cons_zero, List.set_cons_succ]
            refine wpAnyH_take (i := 1) (oi := { dst := some 92, op := Go.Op.unOp Go.UnOp.not 4 (Go.Operand.tmp 91), type := 4, pos := "law.go:205", after := #[{ on := 0, ground := Go.Ground.data }], guard := none }) (v := ?_) rfl (by kernel_rfl) (by kernel_rfl) (by kernel_rfl) (fun _ _ _ h => h) (Or.inl ⟨by rfl, ?_⟩) (by assumption) ?_
            rotate_left
            · intro w hSw
              (try dsimp only at hSw)
              go_simp
              try (with_reducible rfl)
            try simp only [Act.put, List.setIfInBounds_toArray, List.set_cons_zero, List.set_cons_succ]
            refine wpAnyH_take (i := 2) (oi := { dst := some 93, op := Go.Op.move (Go.Operand.tmp 92), type := 4, pos := "law.go:205", after := #[{ on := 1, ground := Go.Ground.data }], guard := none }) (v := ?_) rfl (by kernel_rfl) (by kernel_rfl) (by kernel_rfl) (fun _ _ _ h => h) (Or.inl ⟨by rfl, ?_⟩) (by assumption) ?_
            rotate_left
            · intro w hSw
              (try dsimp only at hSw)
              go_simp
              try (with_reducible rfl)
            try simp only [Act.put, List.setIfInBounds_toArray, List.set_cons_zero, List.set_cons_succ]
            refine wpAnyH_take (i := 3) (oi := { dst := some 94, op := Go.Op.move (Go.Operand.tmp 12), type := 86, pos := "law.go:205", after := #[{ on := 2, ground := Go.Ground.guard }], guard := some (2, true) }) (v := undef) rfl (by kernel_rfl) (by kernel_rfl) (by kernel_rfl) (fun _ _ _ h => h) (Or.inr ⟨by rfl, rfl⟩) (by assumption) ?_
            try simp only [Act.put, List.setIfInBounds_toArray, List.set_cons_zero, List.set_cons_succ]
            refine wpAnyH_take (i := 4) (oi := { dst := some 95, op := Go.Op.move (Go.Operand.tmp 15), type := 3, pos := "law.go:205", after := #[{ on := 2, ground := Go.Ground.guard }], guard := some (2, true) }) (v := undef) rfl (by kernel_rfl) (by kernel_rfl) (by kernel_rfl) (fun _ _ _ h => h) (Or.inr ⟨by rfl, rfl⟩) (by assumption) ?_
            try simp only [Act.put, List.setIfInBounds_toArray, List.set_cons_zero, List.set_cons_succ]
            refine wpAnyH_take (i := 5) (oi := { dst := some 96, op := Go.Op.indexAddr 86 (Go.Operand.tmp 94) (Go.Operand.tmp 95), type := 0, pos := "law.go:205", after := #[{ on := 3, ground := Go.Ground.data }, { on := 4, ground := Go.Ground.data }, { on := 2, ground := Go.Ground.guard }], guard := some (2, true) }) (v := undef) rfl (by kernel_rfl) (by kernel_rfl) (by kernel_rfl) (fun _ _ _ h => h) (Or.inr ⟨by rfl, rfl⟩) (by assumption) ?_
            try simp only [Act.put, List.setIfInBounds_toArray, List.set_cons_zero, List.set_cons_succ]
            refine wpAnyH_take (i := 6) (oi := { dst := some 97, op := Go.Op.fieldAddr 90 (Go.Operand.tmp 96) 1, type := 0, pos := "law.go:205", after := #[{ on := 5, ground := Go.Ground.data }, { on := 2, ground := Go.Ground.guard }], guard := some (2, true) }) (v := undef) rfl (by kernel_rfl) (by kernel_rfl) (by kernel_rfl) (fun _ _ _ h => h) (Or.inr ⟨by rfl, rfl⟩) (by assumption) ?_
            try simp only [Act.put, List.setIfInBounds_toArray, List.set_cons_zero, List.set_cons_succ]
            refine wpAnyH_take (i := 7) (oi := { dst := some 98, op := Go.Op.fieldAddr 70 (Go.Operand.tmp 97) 0, type := 0, pos := "law.go:205", after := #[{ on := 6, ground := Go.Ground.data }, { on := 2, ground := Go.Ground.guard }], guard := some (2, true) }) (v := undef) rfl (by kernel_rfl) (by kernel_rfl) (by kernel_rfl) (fun _ _ _ h => h) (Or.inr ⟨by rfl, rfl⟩) (by assumption) ?_
            try simp only [Act.put, List.setIfInBounds_toArray, List.set_cons_zero, List.set_cons_succ]
            refine wpAnyH_take (i := 8) (oi := { dst := some 99, op := Go.Op.load 30 (Go.Operand.tmp 98), type := 30, pos := "law.go:205", after := #[{ on := 7, ground := Go.Ground.data }, { on := 2, ground := Go.Ground.guard }], guard := some (2, true) }) (v := undef) rfl (by kernel_rfl) (by kernel_rfl) (by kernel_rfl) (fun _ _ _ h => h) (Or.inr ⟨by rfl, rfl⟩) (by assumption) ?_
            try simp only [Act.put, List.setIfInBounds_toArray, List.set_cons_zero, List.set_cons_succ]
            refine wpAnyH_take (i := 9) (oi := { dst := some 100, op := Go.Op.move (Go.Operand.tmp 14), type := 59, pos := "law.go:205", after := #[{ on := 2, ground := Go.Ground.guard }], guard := some (2, true) }) (v := undef) rfl (by kernel_rfl) (by kernel_rfl) (by kernel_rfl) (fun _ _ _ h => h) (Or.inr ⟨by rfl, rfl⟩) (by assumption) ?_
            try simp only [Act.put, List.setIfInBounds_toArray, List.set_cons_zero, List.set_cons_succ]
            refine wpAnyH_take (i := 10) (oi := { dst := some 101, op := Go.Op.move (Go.Operand.tmp 18), type := 3, pos := "law.go:205", after := #[{ on := 2, ground := Go.Ground.guard }], guard := some (2, true) }) (v := undef) rfl (by kernel_rfl) (by kernel_rfl) (by kernel_rfl) (fun _ _ _ h => h) (Or.inr ⟨by rfl, rfl⟩) (by assumption) ?_
            try simp only [Act.put, List.setIfInBounds_toArray, List.set_cons_zero, List.set_cons_succ]
            refine wpAnyH_take (i := 11) (oi := { dst := some 102, op := Go.Op.indexAddr 59 (Go.Operand.tmp 100) (Go.Operand.tmp 101), type := 0, pos := "law.go:205", after := #[{ on := 9, ground := Go.Ground.data }, { on := 10, ground := Go.Ground.data }, { on := 2, ground := Go.Ground.guard }], guard := some (2, true) }) (v := undef) rfl (by kernel_rfl) (by kernel_rfl) (by kernel_rfl) (fun _ _ _ h => h) (Or.inr ⟨by rfl, rfl⟩) (by assumption) ?_
            try simp only [Act.put, List.setIfInBounds_toArray, List.set_cons_zero, List.set_cons_succ]
            refine wpAnyH_take (i := 12) (oi := { dst := some 103, op := Go.Op.fieldAddr 70 (Go.Operand.tmp 102) 0, type := 0, pos := "law.go:205", after := #[{ on := 11, ground := Go.Ground.data }, { on := 2, ground := Go.Ground.guard }], guard := some (2, true) }) (v := undef) rfl (by kernel_rfl) (by kernel_rfl) (by kernel_rfl) (fun _ _ _ h => h) (Or.inr ⟨by rfl, rfl⟩) (by assumption) ?_
            try simp only [Act.put, List.setIfInBounds_toArray, List.set_cons_zero, List.set_cons_succ]
            refine wpAnyH_take (i := 13) (oi := { dst := some 104, op := Go.Op.load 30 (Go.Operand.tmp 103), type := 30, pos := "law.go:205", after := #[{ on := 12, ground := Go.Ground.data }, { on := 2, ground := Go.Ground.guard }], guard := some (2, true) }) (v := undef) rfl (by kernel_rfl) (by kernel_rfl) (by kernel_rfl) (fun _ _ _ h => h) (Or.inr ⟨by rfl, rfl⟩) (by assumption) ?_
            try simp only [Act.put, List.setIfInBounds_toArray, List.set_cons_zero, List.set_cons_succ]
            refine wpAnyH_take (i := 14) (oi := { dst := some 105, op := Go.Op.call { callee := Go.Callee.value (Go.Operand.func 27), args := #[Go.Operand.tmp 99, Go.Operand.tmp 104], argTypes := #[30, 30] }, type := 4, pos := "law.go:205", after := #[{ on := 8, ground := Go.Ground.data }, { on := 13, ground := Go.Ground.data }, { on := 2, ground := Go.Ground.chain }, { on := 2, ground := Go.Ground.guard }], guard := some (2, true) }) (v := undef) rfl (by kernel_rfl) (by kernel_rfl) (by kernel_rfl) (fun _ _ _ h => h) (Or.inr ⟨by rfl, rfl⟩) (by assumption) ?_
            try simp only [Act.put, List.setIfInBounds_toArray, List.set_cons_zero, List.set_cons_succ]
            refine wpAnyH_take (i := 15) (oi := { dst := some 106, op := Go.Op.pick (Go.Operand.tmp 93) (Go.Operand.tmp 105) (Go.Operand.const (Go.Value.bool false)), type := 4, pos := "law.go:205", after := #[{ on := 2, ground := Go.Ground.data }, { on := 14, ground := Go.Ground.data }], guard := none }) (v := ?_) rfl (by kernel_rfl) (by kernel_rfl) (by kernel_rfl) (fun _ _ _ h => h) (Or.inl ⟨by rfl, ?_⟩) (by assumption) ?_
            rotate_left
            · intro w hSw
              (try dsimp only at hSw)
              go_simp
              try (with_reducible rfl)
            try simp only [Act.put, List.setIfInBounds_toArray, List.set_cons_zero, List.set_cons_succ]
            refine wpAnyH_done (by kernel_rfl) ?_ _
            go_wp2
            obtain ⟨W8, hW8⟩ : ∃ W8, wr.drew = W8 := ⟨_, rfl⟩
            rw [hW8]
            have HT8 : Hid (Tch wI W8 []) := Lib.hid (hW8 ▸ HC0.out)
            have HR8 : Hid (RowE W8 wI.heap.size A1 (f) c1 (nx)) := Lib.hid (hW8 ▸ HR0.out)
            clear hW8
            have HL8 : Hid ((nx).length = f) := Lib.hid (hnl.out)
            have HN8 : Hid (f ≤ 1000000) := Lib.hid (by have h1 := HFb.out; have h2 := HLn.out; omega)
            have HQ := eq_neq 30 _ _ (eq_pfR ((ds, dh, dl), dn) ((xs, xh, xl), xn) heq)
            obtain ⟨s0, s1, s2, s3, -⟩ := HCd.out W8 HT8.out
            obtain ⟨-, t1, t2, t3, t4, -⟩ := HCx.out W8 HT8.out
            go_wp2
            go_quiet (fail)
            obtain ⟨W9, hW9⟩ : ∃ W9, W8.drewN nq = W9 := ⟨_, rfl⟩
            rw [hW9]
            have HT9 : Hid (Tch wI W9 []) := Lib.hid (hW9 ▸ HT8.out.drewN nq)
            have HR9 : Hid (RowE W9 wI.heap.size A1 (f) c1 (nx)) := Lib.hid (hW9 ▸ own_tch HR8.out ((Tch.refl W8 []).drewN nq) (by simp))
            clear hW9 HQ s0 s1 s2 s3 t1 t2 t3 t4
            cases eq with
            | true =>
              have HE : Hid (((ds, dh, dl), dn) = ((xs, xh, xl), xn)) := Lib.hid (of_decide_eq_true HEq.out)
              go_wp2
              go_roundw
              case rel => exact ⟨k + 1, nx, true, f, A1, c1, rfl, rfl, by go_num, hkn, Lib.hid (by rw [HSt.out]; unfold stepA; exact congrArg (·, true) (if_pos HE.out)), HL8, HR9, HT9⟩
              case measure => simp [intOf]; omega
            | false =>
              have HE : Hid (¬ ((ds, dh, dl), dn) = ((xs, xh, xl), xn)) := Lib.hid (of_decide_eq_false HEq.out)
              obtain ⟨s0, s1, s2, s3, s4, s5, s6, s7, s8⟩ := HCd.out W9 HT9.out
              have HSr := Lib.hid (src_new W9 70 (enC (((ds, dh, dl), dn), (do_, (es, eh, el), dw))))
              have HTa : Hid (Tch W9 (W9.alloc (.cells (enC (((ds, dh, dl), dn), (do_, (es, eh, el), dw))).toArray 70)) []) := Lib.hid ((Tch.refl W9 []).alloc _)
              have HRa := Lib.hid (own_tch HR9.out HTa.out (by simp))
              have HSza : Hid (wI.heap.size ≤ (W9.alloc (.cells (enC (((ds, dh, dl), dn), (do_, (es, eh, el), dw))).toArray 70)).heap.size) := Lib.hid (Nat.le_trans (HT9.out).size HTa.out.size)
              go_wp2_with (at_builtin; (refine wpList_apc 59 70 (.agg #[.bool false, .int .u64 0, .int .u64 0, .int .i64 0, .int .i64 0, .bool false, .int .u64 0, .int .u64 0, .bool false]) 9 72 Tryz.underlying59 infoEn rfl (by decide) (by decide) _ rfl (.tmp 127) (.tmp 132) rfl wI.heap.size (.slice A1 (f) c1) (f) ((nx).flatMap enC) rfl HRa.out ⟨W9.heap.size, 0, none⟩ 1 (enC (((ds, dh, dl), dn), (do_, (es, eh, el), dw))) rfl rfl (fun j u hj => HSr.out j u hj) (en_one _) HN8.out HSza.out ?_; intro v5 w5 hown hg hv; obtain ⟨A5, c5, e5, -, -⟩ := own_sl hown; subst e5; have HRz := Lib.hid hown; have HTz : Hid (Tch wI w5 []) := Lib.hid (((HT9.out).trans HTa.out).trans_fre (Tch.of_grown' (S := obI (.slice A1 (f) c1)) hg (fun k e => by rw [obI_some e]; simp)) (fun s hs => .inr (own_geI HR9.out s hs).1)); clear hown hg hv s0 s1 s2 s3 s4 s5 s6 s7 s8))
              go_roundw
              case rel => exact ⟨k + 1, nx ++ [(((ds, dh, dl), dn), (do_, (es, eh, el), dw))], true, f + 1, A5, c5, rfl, rfl, by go_num, hkn, Lib.hid (by rw [HSt.out]; unfold stepA; exact congrArg (·, true) (if_neg HE.out)), Lib.hid (by rw [List.length_append, HL8.out]; rfl), Lib.hid (by unfold RowE; rw [List.flatMap_append]; exact HRz.out), HTz⟩
              case measure => simp [intOf]; omega
          | false =>
            have HC := Lib.hid (fun W (hW : Tch wI W []) => show (W.cell? ⟨gC, i * 10 + 1, none⟩ = some (Value.bool xs) ∧ W.cell? ⟨gC, i * 10 + 2, none⟩ = some (Value.int .u64 (xh : Int)) ∧ W.cell? ⟨gC, i * 10 + 3, none⟩ = some (Value.int .u64 (xl : Int)) ∧ W.cell? ⟨gC, i * 10 + 4, none⟩ = some (Value.int .i64 xn)) ∧ (W.cell? ⟨gD, k * 9, none⟩ = some (Value.bool ds) ∧ W.cell? ⟨gD, k * 9 + 1, none⟩ = some (Value.int .u64 (dh : Int)) ∧ W.cell? ⟨gD, k * 9 + 2, none⟩ = some (Value.int .u64 (dl : Int)) ∧ W.cell? ⟨gD, k * 9 + 3, none⟩ = some (Value.int .i64 dn)) from ⟨⟨(HCx.out W hW).2.1, (HCx.out W hW).2.2.1, (HCx.out W hW).2.2.2.1, (HCx.out W hW).2.2.2.2.1⟩, (HCd.out W hW).1, (HCd.out W hW).2.1, (HCd.out W hW).2.2.1, (HCd.out W hW).2.2.2.1⟩)
            have HC0 := Lib.hid (HC.out _ hTk.out.drew)
            have HR0 : Hid (RowE wr.drew wI.heap.size A1 f c1 nx) := Lib.hid (own_tch hRn.out (Tch.refl wr []).drew (by simp))
            go_wp2
            refine wp_region_held_drew (S := (fun W => (W.cell? ⟨gC, i * 10 + 1, none⟩ = some (Value.bool xs) ∧ W.cell? ⟨gC, i * 10 + 2, none⟩ = some (Value.int .u64 (xh : Int)) ∧ W.cell? ⟨gC, i * 10 + 3, none⟩ = some (Value.int .u64 (xl : Int)) ∧ W.cell? ⟨gC, i * 10 + 4, none⟩ = some (Value.int .i64 xn)) ∧ (W.cell? ⟨gD, k * 9, none⟩ = some (Value.bool ds) ∧ W.cell? ⟨gD, k * 9 + 1, none⟩ = some (Value.int .u64 (dh : Int)) ∧ W.cell? ⟨gD, k * 9 + 2, none⟩ = some (Value.int .u64 (dl : Int)) ∧ W.cell? ⟨gD, k * 9 + 3, none⟩ = some (Value.int .i64 dn)))) (by kernel_rfl) ?_ (fun hHeld => ?_)
            · (first | exact HC0.out | exact HC6.out)
            refine wpAnyH_take (i := 0) (oi := { dst := some 91, op := Go.Op.move (Go.Operand.tmp 17), type := 4, pos := "law.go:205", after := #[], guard := none }) (v := ?_) rfl (by kernel_rfl) (by kernel_rfl) (by kernel_rfl) (fun _ _ _ h => h) (Or.inl ⟨by rfl, ?_⟩) (by assumption) ?_
            rotate_left
            · intro w hSw
              (try dsimp only at hSw)
              go_simp
              try (with_reducible rfl)
            try simp only [Act.put, List.setIfInBounds_toArray, List.set_cons_zero, List.set_cons_succ]
            refine wpAnyH_take (i := 1) (oi := { dst := some 92, op := Go.Op.unOp Go.UnOp.not 4 (Go.Operand.tmp 91), type := 4, pos := "law.go:205", after := #[{ on := 0, ground := Go.Ground.data }], guard := none }) (v := ?_) rfl (by kernel_rfl) (by kernel_rfl) (by kernel_rfl) (fun _ _ _ h => h) (Or.inl ⟨by rfl, ?_⟩) (by assumption) ?_
            rotate_left
            · intro w hSw
              (try dsimp only at hSw)
              go_simp
              try (with_reducible rfl)
            try simp only [Act.put, List.setIfInBounds_toArray, List.set_cons_zero, List.set_cons_succ]
            refine wpAnyH_take (i := 2) (oi := { dst := some 93, op := Go.Op.move (Go.Operand.tmp 92), type := 4, pos := "law.go:205", after := #[{ on := 1, ground := Go.Ground.data }], guard := none }) (v := ?_) rfl (by kernel_rfl) (by kernel_rfl) (by kernel_rfl) (fun _ _ _ h => h) (Or.inl ⟨by rfl, ?_⟩) (by assumption) ?_
            rotate_left
            · intro w hSw
              (try dsimp only at hSw)
              go_simp
              try (with_reducible rfl)
            try simp only [Act.put, List.setIfInBounds_toArray, List.set_cons_zero, List.set_cons_succ]
            refine wpAnyH_take (i := 3) (oi := { dst := some 94, op := Go.Op.move (Go.Operand.tmp 12), type := 86, pos := "law.go:205", after := #[{ on := 2, ground := Go.Ground.guard }], guard := some (2, true) }) (v := ?_) rfl (by kernel_rfl) (by kernel_rfl) (by kernel_rfl) (fun _ _ _ h => h) (Or.inl ⟨by rfl, ?_⟩) (by assumption) ?_
            rotate_left
            · intro w hSw
              (try dsimp only at hSw)
              go_simp
              try (with_reducible rfl)
            try simp only [Act.put, List.setIfInBounds_toArray, List.set_cons_zero, List.set_cons_succ]
            refine wpAnyH_take (i := 4) (oi := { dst := some 95, op := Go.Op.move (Go.Operand.tmp 15), type := 3, pos := "law.go:205", after := #[{ on := 2, ground := Go.Ground.guard }], guard := some (2, true) }) (v := ?_) rfl (by kernel_rfl) (by kernel_rfl) (by kernel_rfl) (fun _ _ _ h => h) (Or.inl ⟨by rfl, ?_⟩) (by assumption) ?_
            rotate_left
            · intro w hSw
              (try dsimp only at hSw)
              go_simp
              try (with_reducible rfl)
            try simp only [Act.put, List.setIfInBounds_toArray, List.set_cons_zero, List.set_cons_succ]
            refine wpAnyH_take (i := 5) (oi := { dst := some 96, op := Go.Op.indexAddr 86 (Go.Operand.tmp 94) (Go.Operand.tmp 95), type := 0, pos := "law.go:205", after := #[{ on := 3, ground := Go.Ground.data }, { on := 4, ground := Go.Ground.data }, { on := 2, ground := Go.Ground.guard }], guard := some (2, true) }) (v := ?_) rfl (by kernel_rfl) (by kernel_rfl) (by kernel_rfl) (fun _ _ _ h => h) (Or.inl ⟨by rfl, ?_⟩) (by assumption) ?_
            rotate_left
            · intro w hSw
              (try dsimp only at hSw)
              go_simp
              try (with_reducible rfl)
            try simp only [Act.put, List.setIfInBounds_toArray, List.set_cons_zero, List.set_cons_succ]
            refine wpAnyH_take (i := 6) (oi := { dst := some 97, op := Go.Op.fieldAddr 90 (Go.Operand.tmp 96) 1, type := 0, pos := "law.go:205", after := #[{ on := 5, ground := Go.Ground.data }, { on := 2, ground := Go.Ground.guard }], guard := some (2, true) }) (v := ?_) rfl (by kernel_rfl) (by kernel_rfl) (by kernel_rfl) (fun _ _ _ h => h) (Or.inl ⟨by rfl, ?_⟩) (by assumption) ?_
            rotate_left
            · intro w hSw
              (try dsimp only at hSw)
              go_simp
              try (with_reducible rfl)
            try simp only [Act.put, List.setIfInBounds_toArray, List.set_cons_zero, List.set_cons_succ]
            refine wpAnyH_take (i := 7) (oi := { dst := some 98, op := Go.Op.fieldAddr 70 (Go.Operand.tmp 97) 0, type := 0, pos := "law.go:205", after := #[{ on := 6, ground := Go.Ground.data }, { on := 2, ground := Go.Ground.guard }], guard := some (2, true) }) (v := ?_) rfl (by kernel_rfl) (by kernel_rfl) (by kernel_rfl) (fun _ _ _ h => h) (Or.inl ⟨by rfl, ?_⟩) (by assumption) ?_
            rotate_left
            · intro w hSw
              (try dsimp only at hSw)
              go_simp
              try (with_reducible rfl)
            try simp only [Act.put, List.setIfInBounds_toArray, List.set_cons_zero, List.set_cons_succ]
            refine wpAnyH_take (i := 8) (oi := { dst := some 99, op := Go.Op.load 30 (Go.Operand.tmp 98), type := 30, pos := "law.go:205", after := #[{ on := 7, ground := Go.Ground.data }, { on := 2, ground := Go.Ground.guard }], guard := some (2, true) }) (v := ?_) rfl (by kernel_rfl) (by kernel_rfl) (by kernel_rfl) (fun _ _ _ h => h) (Or.inl ⟨by rfl, ?_⟩) (by assumption) ?_
            rotate_left
            · intro w hSw
              (try dsimp only at hSw)
              go_simp
              try (with_reducible rfl)
            try simp only [Act.put, List.setIfInBounds_toArray, List.set_cons_zero, List.set_cons_succ]
            refine wpAnyH_take (i := 9) (oi := { dst := some 100, op := Go.Op.move (Go.Operand.tmp 14), type := 59, pos := "law.go:205", after := #[{ on := 2, ground := Go.Ground.guard }], guard := some (2, true) }) (v := ?_) rfl (by kernel_rfl) (by kernel_rfl) (by kernel_rfl) (fun _ _ _ h => h) (Or.inl ⟨by rfl, ?_⟩) (by assumption) ?_
            rotate_left
            · intro w hSw
              (try dsimp only at hSw)
              go_simp
              try (with_reducible rfl)
            try simp only [Act.put, List.setIfInBounds_toArray, List.set_cons_zero, List.set_cons_succ]
            refine wpAnyH_take (i := 10) (oi := { dst := some 101, op := Go.Op.move (Go.Operand.tmp 18), type := 3, pos := "law.go:205", after := #[{ on := 2, ground := Go.Ground.guard }], guard := some (2, true) }) (v := ?_) rfl (by kernel_rfl) (by kernel_rfl) (by kernel_rfl) (fun _ _ _ h => h) (Or.inl ⟨by rfl, ?_⟩) (by assumption) ?_
            rotate_left
            · intro w hSw
              (try dsimp only at hSw)
              go_simp
              try (with_reducible rfl)
            try simp only [Act.put, List.setIfInBounds_toArray, List.set_cons_zero, List.set_cons_succ]
            refine wpAnyH_take (i := 11) (oi := { dst := some 102, op := Go.Op.indexAddr 59 (Go.Operand.tmp 100) (Go.Operand.tmp 101), type := 0, pos := "law.go:205", after := #[{ on := 9, ground := Go.Ground.data }, { on := 10, ground := Go.Ground.data }, { on := 2, ground := Go.Ground.guard }], guard := some (2, true) }) (v := ?_) rfl (by kernel_rfl) (by kernel_rfl) (by kernel_rfl) (fun _ _ _ h => h) (Or.inl ⟨by rfl, ?_⟩) (by assumption) ?_
            rotate_left
            · intro w hSw
              (try dsimp only at hSw)
              go_simp
              try (with_reducible rfl)
            try simp only [Act.put, List.setIfInBounds_toArray, List.set_cons_zero, List.set_cons_succ]
            refine wpAnyH_take (i := 12) (oi := { dst := some 103, op := Go.Op.fieldAddr 70 (Go.Operand.tmp 102) 0, type := 0, pos := "law.go:205", after := #[{ on := 11, ground := Go.Ground.data }, { on := 2, ground := Go.Ground.guard }], guard := some (2, true) }) (v := ?_) rfl (by kernel_rfl) (by kernel_rfl) (by kernel_rfl) (fun _ _ _ h => h) (Or.inl ⟨by rfl, ?_⟩) (by assumption) ?_
            rotate_left
            · intro w hSw
              (try dsimp only at hSw)
              go_simp
              try (with_reducible rfl)
            try simp only [Act.put, List.setIfInBounds_toArray, List.set_cons_zero, List.set_cons_succ]
            refine wpAnyH_take (i := 13) (oi := { dst := some 104, op := Go.Op.load 30 (Go.Operand.tmp 103), type := 30, pos := "law.go:205", after := #[{ on := 12, ground := Go.Ground.data }, { on := 2, ground := Go.Ground.guard }], guard := some (2, true) }) (v := ?_) rfl (by kernel_rfl) (by kernel_rfl) (by kernel_rfl) (fun _ _ _ h => h) (Or.inl ⟨by rfl, ?_⟩) (by assumption) ?_
            rotate_left
            · intro w hSw
              (try dsimp only at hSw)
              go_simp
              try (with_reducible rfl)
            try simp only [Act.put, List.setIfInBounds_toArray, List.set_cons_zero, List.set_cons_succ]
            refine wpAnyH_ready (rs := [14]) (by kernel_rfl) (by simp) ?_
            refine AllReadyH.cons (o := { dst := some 105, op := Go.Op.call { callee := Go.Callee.value (Go.Operand.func 27), args := #[Go.Operand.tmp 99, Go.Operand.tmp 104], argTypes := #[30, 30] }, type := 4, pos := "law.go:205", after := #[{ on := 8, ground := Go.Ground.data }, { on := 13, ground := Go.Ground.data }, { on := 2, ground := Go.Ground.chain }, { on := 2, ground := Go.Ground.guard }], guard := some (2, true) }) rfl (fun K hK => ?_) AllReadyH.nil
            go_simp
            (go_at_call 27; (with_reducible refine Calls.mono (HLe.out _) ?_); rintro e w6 ⟨rfl, hb6⟩; have HT6 : Hid (Tch wI w6 []) := Lib.hid (hTk.out.drew.trans (Tch.of_below [] hb6)); have HR6 : Hid (RowE w6 wI.heap.size A1 f c1 nx) := Lib.hid (own_tch HR0.out (Tch.of_below [] hb6) (by simp)); have HC6 := Lib.hid (HC.out w6 HT6.out); clear hb6)
            go_wp2_with fail
            refine hK.out _ _ ?_ (fun hHeld => ?_)
            · (first | exact HC0.out | exact HC6.out)
            clear hK K
            try simp only [Act.put, List.setIfInBounds_toArray, List.set_cons_zero, List.set_cons_succ]
            refine wpAnyH_take (i := 15) (oi := { dst := some 106, op := Go.Op.pick (Go.Operand.tmp 93) (Go.Operand.tmp 105) (Go.Operand.const (Go.Value.bool false)), type := 4, pos := "law.go:205", after := #[{ on := 2, ground := Go.Ground.data }, { on := 14, ground := Go.Ground.data }], guard := none }) (v := ?_) rfl (by kernel_rfl) (by kernel_rfl) (by kernel_rfl) (fun _ _ _ h => h) (Or.inl ⟨by rfl, ?_⟩) (by assumption) ?_
            rotate_left
            · intro w hSw
              (try dsimp only at hSw)
              go_simp
              try (with_reducible rfl)
            try simp only [Act.put, List.setIfInBounds_toArray, List.set_cons_zero, List.set_cons_succ]
            refine wpAnyH_done (by kernel_rfl) ?_ _
            cases b with
            | true =>
              have HNf : Hid (f ≤ 1000000) := Lib.hid (by have h1 := HFb.out; have h2 := HLn.out; omega)
              obtain ⟨t0, t1, t2, t3, t4, t5, t6, t7, t8, t9⟩ := HCx.out w6 HT6.out
              have HSr := Lib.hid (src_new w6 70 (enC (((xs, xh, xl), xn), (xo, (ys, yh, yl), xw))))
              have HTa : Hid (Tch w6 (w6.alloc (.cells (enC (((xs, xh, xl), xn), (xo, (ys, yh, yl), xw))).toArray 70)) []) := Lib.hid ((Tch.refl w6 []).alloc _)
              have HRa := Lib.hid (own_tch HR6.out HTa.out (by simp))
              have HSza : Hid (wI.heap.size ≤ (w6.alloc (.cells (enC (((xs, xh, xl), xn), (xo, (ys, yh, yl), xw))).toArray 70)).heap.size) := Lib.hid (Nat.le_trans (HT6.out).size HTa.out.size)
              go_wp2_with (at_builtin; (refine wpList_apc 59 70 (.agg #[.bool false, .int .u64 0, .int .u64 0, .int .i64 0, .int .i64 0, .bool false, .int .u64 0, .int .u64 0, .bool false]) 9 72 Tryz.underlying59 infoEn rfl (by decide) (by decide) _ rfl (.tmp 107) (.tmp 113) rfl wI.heap.size (.slice A1 f c1) f ((nx).flatMap enC) rfl HRa.out ⟨w6.heap.size, 0, none⟩ 1 (enC (((xs, xh, xl), xn), (xo, (ys, yh, yl), xw))) rfl rfl (fun j u hj => HSr.out j u hj) (en_one _) HNf.out HSza.out ?_; intro v7 w7 hown hg hv; obtain ⟨A7, c7, e7, -, -⟩ := own_sl hown; subst e7; have HRz := Lib.hid hown; have HTz : Hid (Tch wI w7 []) := Lib.hid (((HT6.out).trans HTa.out).trans_fre (Tch.of_grown' (S := obI (.slice A1 f c1)) hg (fun k e => by rw [obI_some e]; simp)) (fun s hs => .inr (own_geI HR6.out s hs).1)); clear hown hg hv t0 t1 t2 t3 t4 t5 t6 t7 t8 t9))
              have HRs : Hid (RowE w7 wI.heap.size A7 (f + 1) c7 (nx ++ [(((xs, xh, xl), xn), (xo, (ys, yh, yl), xw))])) := Lib.hid (by unfold RowE; rw [List.flatMap_append]; exact HRz.out)
              go_wp2
              obtain ⟨W8, hW8⟩ : ∃ W8, w7 = W8 := ⟨_, rfl⟩
              rw [hW8]
              have HT8 : Hid (Tch wI W8 []) := Lib.hid (hW8 ▸ HTz.out)
              have HR8 : Hid (RowE W8 wI.heap.size A7 (f + 1) c7 (nx ++ [(((xs, xh, xl), xn), (xo, (ys, yh, yl), xw))])) := Lib.hid (hW8 ▸ HRs.out)
              clear hW8
              have HL8 : Hid ((nx ++ [(((xs, xh, xl), xn), (xo, (ys, yh, yl), xw))]).length = f + 1) := Lib.hid (by rw [List.length_append, hnl.out]; rfl)
              have HN8 : Hid (f + 1 ≤ 1000000) := Lib.hid (by have h1 := HFb.out; have h2 := HLn.out; omega)
              have HQ := eq_neq 30 _ _ (eq_pfR ((ds, dh, dl), dn) ((xs, xh, xl), xn) heq)
              obtain ⟨s0, s1, s2, s3, -⟩ := HCd.out W8 HT8.out
              obtain ⟨-, t1, t2, t3, t4, -⟩ := HCx.out W8 HT8.out
              go_wp2
              go_quiet (fail)
              obtain ⟨W9, hW9⟩ : ∃ W9, W8.drewN nq = W9 := ⟨_, rfl⟩
              rw [hW9]
              have HT9 : Hid (Tch wI W9 []) := Lib.hid (hW9 ▸ HT8.out.drewN nq)
              have HR9 : Hid (RowE W9 wI.heap.size A7 (f + 1) c7 (nx ++ [(((xs, xh, xl), xn), (xo, (ys, yh, yl), xw))])) := Lib.hid (hW9 ▸ own_tch HR8.out ((Tch.refl W8 []).drewN nq) (by simp))
              clear hW9 HQ s0 s1 s2 s3 t1 t2 t3 t4
              cases eq with
              | true =>
                have HE : Hid (((ds, dh, dl), dn) = ((xs, xh, xl), xn)) := Lib.hid (of_decide_eq_true HEq.out)
                go_wp2
                go_roundw
                case rel => exact ⟨k + 1, nx ++ [(((xs, xh, xl), xn), (xo, (ys, yh, yl), xw))], true, f + 1, A7, c7, rfl, rfl, by go_num, hkn, Lib.hid (by rw [HSt.out]; unfold stepA; simp only [HBb.out]; exact congrArg (·, true) (if_pos HE.out)), HL8, HR9, HT9⟩
                case measure => simp [intOf]; omega
              | false =>
                have HE : Hid (¬ ((ds, dh, dl), dn) = ((xs, xh, xl), xn)) := Lib.hid (of_decide_eq_false HEq.out)
                obtain ⟨s0, s1, s2, s3, s4, s5, s6, s7, s8⟩ := HCd.out W9 HT9.out
                have HSr := Lib.hid (src_new W9 70 (enC (((ds, dh, dl), dn), (do_, (es, eh, el), dw))))
                have HTa : Hid (Tch W9 (W9.alloc (.cells (enC (((ds, dh, dl), dn), (do_, (es, eh, el), dw))).toArray 70)) []) := Lib.hid ((Tch.refl W9 []).alloc _)
                have HRa := Lib.hid (own_tch HR9.out HTa.out (by simp))
                have HSza : Hid (wI.heap.size ≤ (W9.alloc (.cells (enC (((ds, dh, dl), dn), (do_, (es, eh, el), dw))).toArray 70)).heap.size) := Lib.hid (Nat.le_trans (HT9.out).size HTa.out.size)
                go_wp2_with (at_builtin; (refine wpList_apc 59 70 (.agg #[.bool false, .int .u64 0, .int .u64 0, .int .i64 0, .int .i64 0, .bool false, .int .u64 0, .int .u64 0, .bool false]) 9 72 Tryz.underlying59 infoEn rfl (by decide) (by decide) _ rfl (.tmp 127) (.tmp 132) rfl wI.heap.size (.slice A7 (f + 1) c7) (f + 1) ((nx ++ [(((xs, xh, xl), xn), (xo, (ys, yh, yl), xw))]).flatMap enC) rfl HRa.out ⟨W9.heap.size, 0, none⟩ 1 (enC (((ds, dh, dl), dn), (do_, (es, eh, el), dw))) rfl rfl (fun j u hj => HSr.out j u hj) (en_one _) HN8.out HSza.out ?_; intro v5 w5 hown hg hv; obtain ⟨A5, c5, e5, -, -⟩ := own_sl hown; subst e5; have HRz := Lib.hid hown; have HTz : Hid (Tch wI w5 []) := Lib.hid (((HT9.out).trans HTa.out).trans_fre (Tch.of_grown' (S := obI (.slice A7 (f + 1) c7)) hg (fun k e => by rw [obI_some e]; simp)) (fun s hs => .inr (own_geI HR9.out s hs).1)); clear hown hg hv s0 s1 s2 s3 s4 s5 s6 s7 s8))
                go_roundw
                case rel => exact ⟨k + 1, nx ++ [(((xs, xh, xl), xn), (xo, (ys, yh, yl), xw))] ++ [(((ds, dh, dl), dn), (do_, (es, eh, el), dw))], true, f + 1 + 1, A5, c5, rfl, rfl, by go_num, hkn, Lib.hid (by rw [HSt.out]; unfold stepA; simp only [HBb.out]; exact congrArg (·, true) (if_neg HE.out)), Lib.hid (by rw [List.length_append, HL8.out]; rfl), Lib.hid (by unfold RowE; rw [List.flatMap_append]; exact HRz.out), HTz⟩
                case measure => simp [intOf]; omega
            | false =>
              go_wp2
              obtain ⟨W8, hW8⟩ : ∃ W8, w6 = W8 := ⟨_, rfl⟩
              rw [hW8]
              have HT8 : Hid (Tch wI W8 []) := Lib.hid (hW8 ▸ HT6.out)
              have HR8 : Hid (RowE W8 wI.heap.size A1 (f) c1 (nx)) := Lib.hid (hW8 ▸ HR6.out)
              clear hW8
              have HL8 : Hid ((nx).length = f) := Lib.hid (hnl.out)
              have HN8 : Hid (f ≤ 1000000) := Lib.hid (by have h1 := HFb.out; have h2 := HLn.out; omega)
              have HQ := eq_neq 30 _ _ (eq_pfR ((ds, dh, dl), dn) ((xs, xh, xl), xn) heq)
              obtain ⟨s0, s1, s2, s3, -⟩ := HCd.out W8 HT8.out
              obtain ⟨-, t1, t2, t3, t4, -⟩ := HCx.out W8 HT8.out
              go_wp2
              go_quiet (fail)
              obtain ⟨W9, hW9⟩ : ∃ W9, W8.drewN nq = W9 := ⟨_, rfl⟩
              rw [hW9]
              have HT9 : Hid (Tch wI W9 []) := Lib.hid (hW9 ▸ HT8.out.drewN nq)
              have HR9 : Hid (RowE W9 wI.heap.size A1 (f) c1 (nx)) := Lib.hid (hW9 ▸ own_tch HR8.out ((Tch.refl W8 []).drewN nq) (by simp))
              clear hW9 HQ s0 s1 s2 s3 t1 t2 t3 t4
              cases eq with
              | true =>
                have HE : Hid (((ds, dh, dl), dn) = ((xs, xh, xl), xn)) := Lib.hid (of_decide_eq_true HEq.out)
                go_wp2
                go_roundw
                case rel => exact ⟨k + 1, nx, false, f, A1, c1, rfl, rfl, by go_num, hkn, Lib.hid (by rw [HSt.out]; unfold stepA; simp only [HBb.out]; exact congrArg (·, false) (if_pos HE.out)), HL8, HR9, HT9⟩
                case measure => simp [intOf]; omega
              | false =>
                have HE : Hid (¬ ((ds, dh, dl), dn) = ((xs, xh, xl), xn)) := Lib.hid (of_decide_eq_false HEq.out)
                obtain ⟨s0, s1, s2, s3, s4, s5, s6, s7, s8⟩ := HCd.out W9 HT9.out
                have HSr := Lib.hid (src_new W9 70 (enC (((ds, dh, dl), dn), (do_, (es, eh, el), dw))))
                have HTa : Hid (Tch W9 (W9.alloc (.cells (enC (((ds, dh, dl), dn), (do_, (es, eh, el), dw))).toArray 70)) []) := Lib.hid ((Tch.refl W9 []).alloc _)
                have HRa := Lib.hid (own_tch HR9.out HTa.out (by simp))
                have HSza : Hid (wI.heap.size ≤ (W9.alloc (.cells (enC (((ds, dh, dl), dn), (do_, (es, eh, el), dw))).toArray 70)).heap.size) := Lib.hid (Nat.le_trans (HT9.out).size HTa.out.size)
                go_wp2_with (at_builtin; (refine wpList_apc 59 70 (.agg #[.bool false, .int .u64 0, .int .u64 0, .int .i64 0, .int .i64 0, .bool false, .int .u64 0, .int .u64 0, .bool false]) 9 72 Tryz.underlying59 infoEn rfl (by decide) (by decide) _ rfl (.tmp 127) (.tmp 132) rfl wI.heap.size (.slice A1 (f) c1) (f) ((nx).flatMap enC) rfl HRa.out ⟨W9.heap.size, 0, none⟩ 1 (enC (((ds, dh, dl), dn), (do_, (es, eh, el), dw))) rfl rfl (fun j u hj => HSr.out j u hj) (en_one _) HN8.out HSza.out ?_; intro v5 w5 hown hg hv; obtain ⟨A5, c5, e5, -, -⟩ := own_sl hown; subst e5; have HRz := Lib.hid hown; have HTz : Hid (Tch wI w5 []) := Lib.hid (((HT9.out).trans HTa.out).trans_fre (Tch.of_grown' (S := obI (.slice A1 (f) c1)) hg (fun k e => by rw [obI_some e]; simp)) (fun s hs => .inr (own_geI HR9.out s hs).1)); clear hown hg hv s0 s1 s2 s3 s4 s5 s6 s7 s8))
                go_roundw
                case rel => exact ⟨k + 1, nx ++ [(((ds, dh, dl), dn), (do_, (es, eh, el), dw))], false, f + 1, A5, c5, rfl, rfl, by go_num, hkn, Lib.hid (by rw [HSt.out]; unfold stepA; simp only [HBb.out]; exact congrArg (·, false) (if_neg HE.out)), Lib.hid (by rw [List.length_append, HL8.out]; rfl), Lib.hid (by unfold RowE; rw [List.flatMap_append]; exact HRz.out), HTz⟩
                case measure => simp [intOf]; omega
        · obtain rfl : k = nd := by omega
          have kI : ¬ (k : Int) < (k : Int) := by omega
          have HSe : Hid ((l.take k).foldl (stepA (xg, (((xs, xh, xl), xn), (xo, (ys, yh, yl), xw)))) ([], xg) = l.foldl (stepA (xg, (((xs, xh, xl), xn), (xo, (ys, yh, yl), xw)))) ([], xg)) := Lib.hid (by rw [List.take_of_length_le (by rw [HLi.out]; exact Nat.le_refl _)])
          have HSf := Lib.hid (HSe.out.symm.trans hst.out)
          rw [HSf.out] at HAi
          have HTe := Lib.hid (hT.out.trans hTk.out)
          have HFn : Hid (f ≤ 1000000) := Lib.hid (by have h1 := HFb.out; have h2 := HLn.out; omega)
          have HSi : Hid (v9.heap.size ≤ wI.heap.size) := Lib.hid hT.out.size
          clear hkn hk
          cases pt with
          | true =>
            have HAj : Hid ((C.take (i + 1)).foldl apC old = nx) := Lib.hid HAi.out
            go_wp2
            go_roundw
            case rel => exact ⟨i + 1, f, A1, c1, nx, rfl, by go_num, hin, hnl, HAj, Lib.hid (own_mono hRn.out HSi.out), HTe⟩
            case measure => simp [intOf]; omega
          | false =>
            have HAj : Hid ((C.take (i + 1)).foldl apC old = nx ++ [(((xs, xh, xl), xn), (xo, (ys, yh, yl), xw))]) := Lib.hid HAi.out
            obtain ⟨t0, t1, t2, t3, t4, t5, t6, t7, t8, t9⟩ := HCx.out wr hTk.out
            have HSr := Lib.hid (src_new wr 70 (enC (((xs, xh, xl), xn), (xo, (ys, yh, yl), xw))))
            have HTa : Hid (Tch wr (wr.alloc (.cells (enC (((xs, xh, xl), xn), (xo, (ys, yh, yl), xw))).toArray 70)) []) := Lib.hid ((Tch.refl wr []).alloc _)
            have HRa := Lib.hid (own_tch hRn.out HTa.out (by simp))
            have HSza : Hid (wI.heap.size ≤ (wr.alloc (.cells (enC (((xs, xh, xl), xn), (xo, (ys, yh, yl), xw))).toArray 70)).heap.size) := Lib.hid (Nat.le_trans (hTk.out).size HTa.out.size)
            go_wp2_with (at_builtin; (refine wpList_apc 59 70 (.agg #[.bool false, .int .u64 0, .int .u64 0, .int .i64 0, .int .i64 0, .bool false, .int .u64 0, .int .u64 0, .bool false]) 9 72 Tryz.underlying59 infoEn rfl (by decide) (by decide) _ rfl (.tmp 136) (.tmp 142) rfl wI.heap.size (.slice A1 f c1) f ((nx).flatMap enC) rfl HRa.out ⟨wr.heap.size, 0, none⟩ 1 (enC (((xs, xh, xl), xn), (xo, (ys, yh, yl), xw))) rfl rfl (fun j u hj => HSr.out j u hj) (en_one _) HFn.out HSza.out ?_; intro v7 w7 hown hg hv; obtain ⟨A7, c7, e7, -, -⟩ := own_sl hown; subst e7; have HRz := Lib.hid hown; have HTz : Hid (Tch wI w7 []) := Lib.hid (((hTk.out).trans HTa.out).trans_fre (Tch.of_grown' (S := obI (.slice A1 f c1)) hg (fun k e => by rw [obI_some e]; simp)) (fun s hs => .inr (own_geI hRn.out s hs).1)); clear hown hg hv t0 t1 t2 t3 t4 t5 t6 t7 t8 t9))
            go_roundw
            case rel => exact ⟨i + 1, f + 1, A7, c7, nx ++ [(((xs, xh, xl), xn), (xo, (ys, yh, yl), xw))], rfl, by go_num, hin, Lib.hid (by rw [List.length_append, hnl.out]; rfl), HAj, Lib.hid (by unfold RowE; rw [List.flatMap_append]; exact own_mono HRz.out HSi.out), Lib.hid (hT.out.trans HTz.out)⟩
            case measure => simp [intOf]; omega
    · obtain rfl : i = m2 := by omega
      have iI : ¬ (i : Int) < (i : Int) := by omega
      have HLe : Hid (l = now) := Lib.hid (by rw [← hfo.out, List.take_of_length_le (by rw [HC2.out]; exact Nat.le_refl _)]; exact HAp.out)
      obtain rfl : l = now := HLe.out
      obtain rfl : nd = m := by rw [← HMm.out]; exact hln.out.symm
      have HSe := Lib.hid (same_en Ad B nd cd d l hln.out (by have := HLn.out; omega) wI (own_mono hR.out (Nat.zero_le _)) (HOn.out wI (HT6.out.trans (HT9.out.trans hT.out))))
      have HBe := Lib.hid (HB3.out.trans (((HT4.out.trans HTo.out).trans hT.out).below HB3.out.size (by simp)))
      go_wp2_with fail
      refine Calls.mono HSe.out ?_
      rintro e wE ⟨rfl, hTE⟩
      have HBf := Lib.hid (HBe.out.trans (hTE.below HBe.out.size (by simp)))
      clear hTE
      go_wp2
      go_ret
      exact ⟨by simp, HBf.out⟩
set_option maxRecDepth 100000 in
theorem contract (H : Type) (enc : TypeId × Value → H) (W : World) (base : Nat) (args : Array Value) (ds gs : List (DataW H)) (before : List MemPlace)
    (hval0 : ∀ (j : Nat) t v, Tryz.f7.params[j]? = some t → args[j]? = some v → Value.okWide Tryz.prog W .any base t v)
    (hW : DataW.Whole enc Tryz.prog Tryz.f7.params.toList Rows.resolveChangesSpec.vars false W args.toList ds gs before)
    (hsz0 : (DataW.weightsEach Tryz.prog (Tryz.f7.params.toList ++ Rows.resolveChangesSpec.plain.varTypes Tryz.prog) (ds ++ gs)).all (· ≤ reachBytes) = true) (hE : EnvR W) :
    Calls Tryz.prog 7 args W fun e W' => ∃ v, e = .returned v ∧ Rows.resolveChangesSpec.post enc Tryz.prog Tryz.f7 false true false false W args v W' := by
  have hsz := hsz0
  clear hsz0
  have hval := hval0
  clear hval0
  have hW' := hW
  obtain ⟨p, q, hA0, hV, rfl, hfz, hnd⟩ := hW
  have hA : DataW.TrodAll enc Tryz.prog W 0 (fun _ => true) true Tryz.f7.params.toList args.toList ds p := hA0
  rw [Tryz.params7] at hA hval hsz
  obtain ⟨v0, vs0, d0, ds0, p0, q0, hargs, rfl, rfl, h0, r0⟩ := trodAll_cons hA
  obtain ⟨v1, vs1, d1, ds1, p1, q1, rfl, rfl, rfl, h1, r1⟩ := trodAll_cons r0
  obtain ⟨rfl, rfl, rfl⟩ := trodAll_nil r1
  obtain rfl : args = #[v0, v1] := by cases args; simp_all
  obtain ⟨rfl, rfl⟩ := trodVars_none hV
  have k0 := h0
  have lt0 : ∀ x ∈ p0, x.block < W.heap.size := by obtain ⟨m, hm⟩ := k0; exact DataW.trod_lt m _ _ _ hm
  obtain ⟨a0, b0, l0, c0, m0, d0_, z0, y0, rfl, w0, x0⟩ := open_world (hval 0 25 v0 rfl rfl) h0
  have k1 := h1
  have lt1 : ∀ x ∈ p1, x.block < W.heap.size := by obtain ⟨m, hm⟩ := k1; exact DataW.trod_lt m _ _ _ hm
  obtain ⟨a1, b1, l1, c1, m1, d1_, z1, y1, rfl, w1, x1⟩ := open_world (hval 1 25 v1 rfl rfl) h1
  clear hA0
  refine (walk W hE a0 b0 l0 c0 m0 d0_ z0 y0 w0 x0 a1 b1 l1 c1 m1 d1_ z1 y1 w1 x1).mono fun e W' ⟨he, bel⟩ => ?_
  subst he
  exact ⟨_, rfl, _, _, _, [], _, [], hW', trodAll_mk1 (shut_bool Tryz.underlying4 _), (trodAll_cons_mk (Below.trod laidOut (by kernel_rfl) (of_decide_eq_true (by kernel_rfl)) k0 bel lt0) (trodAll_cons_mk (Below.trod laidOut (by kernel_rfl) (of_decide_eq_true (by kernel_rfl)) k1 bel lt1) trodAll_mk0)), rfl, bel.frame _, fun h => by cases h⟩

theorem laid_met (os : Os) (args : Array Value) : laidMet Tryz.prog Rows.resolveChangesRow.laid ((World.laidAll Tryz.prog os Rows.resolveChangesRow.laid).forCall (fun _ _ => 0) ⟨#[], args, []⟩).memory :=
  laidMet_laidAll _ (by kernel_rfl) (by kernel_rfl)
set_option maxRecDepth 100000 in
theorem pre_row (os : Os) {H : Type} (enc : TypeId × Value → H) :
    (OpenSpec.ofChange Rows.resolveChangesSpec).preRow enc Tryz.prog Tryz.f7 Rows.resolveChangesRow.domain false Rows.resolveChangesRow.laid ((World.laidAll Tryz.prog os Rows.resolveChangesRow.laid).forCall (fun _ _ => 0) ⟨#[], #[.agg #[.slice none 0 0, .slice none 0 0], .agg #[.slice none 0 0, .slice none 0 0]], []⟩).memory #[.agg #[.slice none 0 0, .slice none 0 0], .agg #[.slice none 0 0, .slice none 0 0]] := by
  exact ⟨⟨ChangeSpec.pre_of_preB (fuel := 8) (by kernel_rfl), by rw [MakeChecks.laidMetH_plain _ _ _ (by kernel_rfl)]; exact laid_met os _⟩, sizedMet_of_sizedB (fuel := 8) (by kernel_rfl)⟩
set_option maxRecDepth 100000 in
theorem lifted (os : Os) (started : os.Started) (H : Type) (enc : TypeId × Value → H) (F : Stop.Interp) :
    ReturnsInHanded {} Tryz.checked os 7 .any ((OpenSpec.ofChange Rows.resolveChangesSpec).preRow enc Tryz.prog Tryz.f7 Rows.resolveChangesRow.domain false Rows.resolveChangesRow.laid) (((OpenSpec.ofChange Rows.resolveChangesSpec).at F).post enc Tryz.prog Tryz.f7 false true false false) := by
  refine returnsInHanded_of_row (C := Tryz.checked) (s := (OpenSpec.ofChange Rows.resolveChangesSpec)) own started (by kernel_rfl) Tryz.func7
    ⟨World.laidAll Tryz.prog os Rows.resolveChangesRow.laid, fun _ _ => 0, ⟨#[], #[.agg #[.slice none 0 0, .slice none 0 0], .agg #[.slice none 0 0, .slice none 0 0]], []⟩, World.laidAll_os _ _ _, World.shaped_of_ZipB (by kernel_rfl) (by kernel_rfl), rfl, (Input.okWide_of_okWideB (by kernel_rfl)).2, pre_row os enc, (by simp only [Assume.holds]; exact ⟨by simp, by simp, fun _ => Modest.zero, by simp, by simp⟩)⟩ ?_
  intro W base args ds gs before hval hW _ hcond hsz hL hsh _
  rw [MakeChecks.laidMetH_plain _ _ _ (by kernel_rfl)] at hL
  exact contract H enc W base args ds gs before hval hW hsz (envR_of hL)

theorem over : Rows.resolveChangesRow.holds Tryz.pinned (OpenSpec.ofChange Rows.resolveChangesSpec) :=
  OpenClaim.holds_of_cond 7 Tryz.f7 rfl rfl rfl rfl rfl rfl rfl ⟨rfl, rfl, rfl, rfl, rfl⟩ rfl rfl rfl rfl rfl (by kernel_rfl) Tryz.func7 (by kernel_rfl)
    (of_decide_eq_true (by kernel_rfl)) (by unfold Func.isWrapper; first | (rw [if_pos (by decide +kernel)]; kernel_rfl) | (rw [if_neg (by decide +kernel)]; exact ⟨rfl, rfl⟩))
    (fun os started H enc _ F => by rw [OpenClaim.pre_eq_preRow]; exact lifted os started H enc F)

theorem proved : Rows.ResolveChangesCardSaid :=
  Claim7.holds_tied_plain_at .later [] Rows.resolveChangesCard.laidKinds true Rows.resolveChangesCard.stood.harness Rows.resolveChangesCard.stood.looks over (fun _ h => by cases h) (by kernel_rfl) (fun _ h => by cases h) resolveChanges_row_tie rfl ⟨rfl, rfl⟩ (by kernel_rfl) rfl
    (fun f fn hf hfn => by
      obtain rfl : f = 7 := Option.some.inj ((show Tryz.prog.funcNamed Rows.resolveChangesRow.func = some 7 by kernel_rfl).symm.trans hf) |>.symm
      obtain rfl : fn = Tryz.f7 := (Option.some.inj (Tryz.func7.symm.trans hfn)).symm
      exact ⟨by kernel_rfl, fun j t ht => by
        rw [Tryz.params7] at ht
        have hm : t ∈ [25, 25] := by simpa using Array.mem_of_getElem? ht
        have hall : ([25, 25].all fun u => !Tryz.prog.wantsStandIn u) = true := by kernel_rfl
        exact (show Tryz.prog.wantsStandIn t = false by simpa using List.all_eq_true.1 hall t hm)⟩)
    (by kernel_rfl)
#print axioms proved
end VCg
end Go.Proofs.YtgfkmgbcajdcdaaGreatDoor
