/-
  H4: a message with Six between two ends is one between two others just if what is summed up of them comes to the same: for every message and any two pairs of ends.
-/
import Derived.Test.YtljdebpemdjliaaILw
import Derived.Test.YtljdebpemdjliaaIRf
namespace Go.Proofs.Ytljdebpemdjliaa.Apart
open Go.ChangeShapes Go.WideShapes Go.ChangeAt Go.RowKit
set_option linter.unusedVariables false

/-- The three variables that the law begins with. -/
theorem ap_args (m : Ms) (a b x y : Ad) (w : World) : ∃ W0, W0 = ((w.alloc (.cells (mcs m) 23)).alloc (.cells (ecs a b) 28)).alloc (.cells (ecs x y) 28) ∧ Blk W0 w.heap.size 23 (mcs m) ∧ Blk W0 (w.heap.size + 1) 28 (ecs a b) ∧ Blk W0 (w.heap.size + 2) 28 (ecs x y) ∧ Below w.heap.size w W0 := by
  refine ⟨_, rfl, ((Blk.new w _ _).alloc _).alloc _, ?_, ?_, (((Below.refl _ w).alloc (Nat.le_refl _) _).alloc (by simp) _).alloc (by simp; omega) _⟩
  · have := (Blk.new (w.alloc (.cells (mcs m) 23)) 28 (ecs a b)).alloc (.cells (ecs x y) 28)
    simpa using this
  · have := Blk.new ((w.alloc (.cells (mcs m) 23)).alloc (.cells (ecs a b) 28)) 28 (ecs x y)
    simpa using this
theorem psd6_pos (fh fl th tl n : Int) : 0 < tot 0 (psd6 fh fl th tl n 58) := by
  have h : ∀ l : List Int, Bys l → l.length % 2 = 1 → 58 ≤ tot 0 (l ++ [58]) := fun l hl hp => by
    rw [tot_append]
    have h0 := tot_nonneg hl 0
    have e : tot (0 + l.length) [58] = 58 := by
      simp only [tot, wt, Nat.zero_add]
      rw [if_neg (by omega)]; rfl
    omega
  have e : putOf 1 (IntKind.u64.wrap 58) = [58] := by decide
  unfold psd6
  rw [e]
  have hp := putOf_by
  have := h (putOf 8 fh ++ putOf 8 fl ++ putOf 8 th ++ putOf 8 tl ++ putOf 4 (IntKind.u64.wrap n) ++ putOf 3 0) ((((((hp 8 fh).app (hp 8 fl)).app (hp 8 th)).app (hp 8 tl)).app (hp 4 _)).app (hp 3 0)).bysI (by simp [putOf_len])
  omega
theorem lt_u16 {t : Int} (h : 0 ≤ t) : 0 ≤ fo t ∧ fo t ≤ 65535 := fo_bd h
/-- What is taken up between the two others. -/
theorem tk_apart {m : Ms} (hs : m.s = true) {a b x y : Ad} (h : OkI m a b) (hf : (x.s && y.s) = true) :
    tkIR (bytI m a b) true x y = if tot 0 (psd6 a.h a.l b.h b.l ((8 + m.d.size : Nat) : Int) 58) % 65535 = tot 0 (psd6 x.h x.l y.h y.l ((8 + m.d.size : Nat) : Int) 58) % 65535 then (m, 0) else (noM, 72) := by
  have hsz := bytI_size m a b
  have hbt := bytI_byt m a b
  have hall := fo_allI m (psI_nn m.s a b ((8 + m.d.size : Nat) : Int))
  have h0 := tot_nonneg (allI_by m (chI m (psI m.s a b ((8 + m.d.size : Nat) : Int)))).bysI 0
  have hp : psI m.s a b ((8 + m.d.size : Nat) : Int) = tot 0 (psd6 a.h a.l b.h b.l ((8 + m.d.size : Nat) : Int) 58) := by rw [hs]; rfl
  have hd := (rgI_iff.1 h.1).d
  have htk := tk_bytI h
  have q1 := psd6_pos a.h a.l b.h b.l ((8 + m.d.size : Nat) : Int)
  have q2 := psd6_pos x.h x.l y.h y.l ((8 + m.d.size : Nat) : Int)
  have hq : SumI true x y (bytI m a b).size (byt (bytI m a b)) = fo (tot 0 (allI m (chI m (psI m.s a b ((8 + m.d.size : Nat) : Int)))) + tot 0 (psd6 x.h x.l y.h y.l ((8 + m.d.size : Nat) : Int) 58)) := by
    unfold SumI
    rw [hbt, hsz]; rfl
  rw [hp] at hall
  split
  · rename_i he
    rw [tkI_ok (fun _ => hf) (by omega) (by omega) (by rw [hq, hp]; exact fo_alike (by rw [hp] at h0; exact h0) (Int.le_of_lt q1) q2 hall he)]
    rw [tkIR, hs] at htk
    have hpk : (pkI (bytI m a b) true, (0 : Int)) = (m, 0) := by
      rw [← hs, ← tk_bytI h]
      rw [tkI_ok h.2 (by omega) (by omega) (by unfold SumI; rw [hbt, hsz, hp]; exact hall)]
    exact hpk
  · rename_i he
    exact tkI_sum (fun _ => hf) (by omega) (by rw [hq, hp]; exact fo_apart (by rw [hp] at h0; exact h0) (Int.le_of_lt q1) (Int.le_of_lt q2) hall he)
set_option maxRecDepth 100000 in
set_option maxHeartbeats 16000000 in
theorem walkA (S : Bool) (k c r : Int) (d : ByteArray) (a b x y : Ad) (ha : WfA a) (hb : WfA b) (hx : WfA x) (hy : WfA y) (w : World) :
    Calls Try.prog 8 #[.agg (mcs ⟨S, k, c, r, d⟩), .agg (ecs a b), .agg (ecs x y)] w fun e w' => e = .returned (.bool true) ∧ Below w.heap.size w w' := by
  obtain ⟨W0, hW0, km, ke, kg, hL0⟩ := ap_args ⟨S, k, c, r, d⟩ a b x y w
  have K0 := Lib.hid km
  have E0 := Lib.hid ke
  have G0 := Lib.hid kg
  have L0 := Lib.hid hL0
  have HA := Lib.hid (fun W => iawake_yes W)
  have HL := Lib.hid (fun W => ilay_any ⟨true, k, c, r, d⟩ a b ha hb W)
  unfold lyIV at HL
  clear km ke kg hL0
  by_cases hok : OkI ⟨true, k, c, r, d⟩ a b
  rotate_left
  · rw [lyI_bad hok] at HL
    clear hok ha hb hx hy
    go_enter Try.func8, Try.ntmps8
    go_wp2_with fail
    refine Calls.mono (HA.out _) ?_
    rintro e w1 ⟨rfl, hb⟩
    replace hb : Below W0.heap.size W0 w1 := by rw [hW0]; exact hb
    have K1 := Lib.hid (K0.out.below hb K0.out.lt)
    have E1 := Lib.hid (E0.out.below hb E0.out.lt)
    have G1 := Lib.hid (G0.out.below hb G0.out.lt)
    have L1 := Lib.hid (L0.out.trans (hb.mono L0.out.size))
    clear hb hW0 K0 E0 G0 L0
    have z0 := K1.out.frozen 0
    obtain ⟨f0, f1, f2, f3, f4⟩ := K1.out.i5
    have K2 : Hid (Blk (w1.setCell ⟨w.heap.size, 0, none⟩ (.bool true)) w.heap.size 23 (mcs ⟨true, k, c, r, d⟩)) := Lib.hid (K1.out.set_ 0 (.bool true))
    have E2 := Lib.hid (E1.out.far (p := ⟨w.heap.size, 0, none⟩) (show w.heap.size + 1 ≠ w.heap.size by omega) (.bool true))
    have G2 := Lib.hid (G1.out.far (p := ⟨w.heap.size, 0, none⟩) (show w.heap.size + 2 ≠ w.heap.size by omega) (.bool true))
    have L2 := Lib.hid (L1.out.setCell (p := ⟨w.heap.size, 0, none⟩) (Nat.le_refl _) (.bool true))
    obtain ⟨p0, p1, p2, p3, p4⟩ := K2.out.i5
    obtain ⟨g0, g1, g2, g3, g4, g5⟩ := E2.out.i6
    go_wp2_with fail
    refine Calls.mono (HL.out _) ?_
    rintro e w3 ⟨rfl, hb⟩
    have K3 := Lib.hid (K2.out.below hb K2.out.lt)
    have E3 := Lib.hid (E2.out.below hb E2.out.lt)
    have G3 := Lib.hid (G2.out.below hb G2.out.lt)
    have L3 := Lib.hid (L2.out.trans (hb.mono L2.out.size))
    clear hb z0 f0 f1 f2 f3 f4 p0 p1 p2 p3 p4 g0 g1 g2 g3 g4 g5 K1 E1 G1 L1 K2 E2 G2 L2
    go_wp2
    go_ret
    exact ⟨rfl, L3.out⟩
  rw [lyI_good hok] at HL
  rcases Bool.eq_false_or_eq_true (x.s && y.s) with hf | hf
  rotate_left
  · clear hok ha hb hx hy
    obtain ⟨T, hT⟩ : ∃ T, bytI ⟨true, k, c, r, d⟩ a b = T := ⟨_, rfl⟩
    rw [hT] at HL
    clear hT
    obtain ⟨xs, xh, xl⟩ := x
    obtain ⟨ys, yh, yl⟩ := y
    dsimp only at hf
    cases xs with
    | false =>
      clear hf
      go_enter Try.func8, Try.ntmps8
      go_wp2_with fail
      refine Calls.mono (HA.out _) ?_
      rintro e w1 ⟨rfl, hb⟩
      replace hb : Below W0.heap.size W0 w1 := by rw [hW0]; exact hb
      have K1 := Lib.hid (K0.out.below hb K0.out.lt)
      have E1 := Lib.hid (E0.out.below hb E0.out.lt)
      have G1 := Lib.hid (G0.out.below hb G0.out.lt)
      have L1 := Lib.hid (L0.out.trans (hb.mono L0.out.size))
      clear hb hW0 K0 E0 G0 L0
      have z0 := K1.out.frozen 0
      obtain ⟨f0, f1, f2, f3, f4⟩ := K1.out.i5
      have K2 : Hid (Blk (w1.setCell ⟨w.heap.size, 0, none⟩ (.bool true)) w.heap.size 23 (mcs ⟨true, k, c, r, d⟩)) := Lib.hid (K1.out.set_ 0 (.bool true))
      have E2 := Lib.hid (E1.out.far (p := ⟨w.heap.size, 0, none⟩) (show w.heap.size + 1 ≠ w.heap.size by omega) (.bool true))
      have G2 := Lib.hid (G1.out.far (p := ⟨w.heap.size, 0, none⟩) (show w.heap.size + 2 ≠ w.heap.size by omega) (.bool true))
      have L2 := Lib.hid (L1.out.setCell (p := ⟨w.heap.size, 0, none⟩) (Nat.le_refl _) (.bool true))
      obtain ⟨p0, p1, p2, p3, p4⟩ := K2.out.i5
      obtain ⟨g0, g1, g2, g3, g4, g5⟩ := E2.out.i6
      go_wp2_with fail
      refine Calls.mono (HL.out _) ?_
      rintro e w3 ⟨rfl, hb⟩
      have K3 := Lib.hid (K2.out.below hb K2.out.lt)
      have E3 := Lib.hid (E2.out.below hb E2.out.lt)
      have G3 := Lib.hid (G2.out.below hb G2.out.lt)
      have L3 := Lib.hid (L2.out.trans (hb.mono L2.out.size))
      clear hb z0 f0 f1 f2 f3 f4 p0 p1 p2 p3 p4 g0 g1 g2 g3 g4 g5 K1 E1 G1 L1 K2 E2 G2 L2
      obtain ⟨g0, g1, g2, g3, g4, g5⟩ := G3.out.i6
      go_wp2
      go_ret
      exact ⟨rfl, L3.out⟩
    | true =>
      cases ys with
      | true => cases hf
      | false =>
        clear hf
        go_enter Try.func8, Try.ntmps8
        go_wp2_with fail
        refine Calls.mono (HA.out _) ?_
        rintro e w1 ⟨rfl, hb⟩
        replace hb : Below W0.heap.size W0 w1 := by rw [hW0]; exact hb
        have K1 := Lib.hid (K0.out.below hb K0.out.lt)
        have E1 := Lib.hid (E0.out.below hb E0.out.lt)
        have G1 := Lib.hid (G0.out.below hb G0.out.lt)
        have L1 := Lib.hid (L0.out.trans (hb.mono L0.out.size))
        clear hb hW0 K0 E0 G0 L0
        have z0 := K1.out.frozen 0
        obtain ⟨f0, f1, f2, f3, f4⟩ := K1.out.i5
        have K2 : Hid (Blk (w1.setCell ⟨w.heap.size, 0, none⟩ (.bool true)) w.heap.size 23 (mcs ⟨true, k, c, r, d⟩)) := Lib.hid (K1.out.set_ 0 (.bool true))
        have E2 := Lib.hid (E1.out.far (p := ⟨w.heap.size, 0, none⟩) (show w.heap.size + 1 ≠ w.heap.size by omega) (.bool true))
        have G2 := Lib.hid (G1.out.far (p := ⟨w.heap.size, 0, none⟩) (show w.heap.size + 2 ≠ w.heap.size by omega) (.bool true))
        have L2 := Lib.hid (L1.out.setCell (p := ⟨w.heap.size, 0, none⟩) (Nat.le_refl _) (.bool true))
        obtain ⟨p0, p1, p2, p3, p4⟩ := K2.out.i5
        obtain ⟨g0, g1, g2, g3, g4, g5⟩ := E2.out.i6
        go_wp2_with fail
        refine Calls.mono (HL.out _) ?_
        rintro e w3 ⟨rfl, hb⟩
        have K3 := Lib.hid (K2.out.below hb K2.out.lt)
        have E3 := Lib.hid (E2.out.below hb E2.out.lt)
        have G3 := Lib.hid (G2.out.below hb G2.out.lt)
        have L3 := Lib.hid (L2.out.trans (hb.mono L2.out.size))
        clear hb z0 f0 f1 f2 f3 f4 p0 p1 p2 p3 p4 g0 g1 g2 g3 g4 g5 K1 E1 G1 L1 K2 E2 G2 L2
        obtain ⟨g0, g1, g2, g3, g4, g5⟩ := G3.out.i6
        go_wp2
        go_ret
        exact ⟨rfl, L3.out⟩
  obtain ⟨xs, xh, xl⟩ := x
  obtain ⟨ys, yh, yl⟩ := y
  obtain ⟨sa, ah, al⟩ := a
  obtain rfl : sa = true := by have := hok.2 rfl; revert this; cases sa <;> simp
  obtain rfl : xs = true := by revert hf; cases xs <;> simp
  obtain rfl : ys = true := by revert hf; cases ys <;> simp
  have htk := tk_apart (m := ⟨true, k, c, r, d⟩) rfl hok hf
  have hsz := bytI_size ⟨true, k, c, r, d⟩ ⟨true, ah, al⟩ b
  have hdl : d.size ≤ 65000 := (rgI_iff.1 hok.1).d
  have HT := Lib.hid (fun W => itake_any (bytI ⟨true, k, c, r, d⟩ ⟨true, ah, al⟩ b) (by rw [hsz]; show 8 + d.size ≤ _; omega) true ⟨true, xh, xl⟩ ⟨true, yh, yl⟩ hx hy W)
  unfold tkIV at HT
  have HP := Lib.hid (fun W => refPseudo_six W ah al b.h b.l ((8 + d.size : Nat) : Int) 58 b.s ha.h.1 ha.l.1 hb.h.1 hb.l.1 ha.h.2 ha.l.2 hb.h.2 hb.l.2)
  have HQ := Lib.hid (fun W => refPseudo_six W xh xl yh yl ((8 + d.size : Nat) : Int) 58 true hx.h.1 hx.l.1 hy.h.1 hy.l.1 hx.h.2 hx.l.2 hy.h.2 hy.l.2)
  have q1 := psd6_pos ah al b.h b.l ((8 + d.size : Nat) : Int)
  have q2 := psd6_pos xh xl yh yl ((8 + d.size : Nat) : Int)
  replace htk : tkIR (bytI ⟨true, k, c, r, d⟩ ⟨true, ah, al⟩ b) true ⟨true, xh, xl⟩ ⟨true, yh, yl⟩ = if tot 0 (psd6 ah al b.h b.l ((8 + d.size : Nat) : Int) 58) % 65535 = tot 0 (psd6 xh xl yh yl ((8 + d.size : Nat) : Int) 58) % 65535 then (⟨true, k, c, r, d⟩, 0) else (⟨false, 0, 0, 0, ⟨#[]⟩⟩, 72) := htk
  rw [htk] at HT
  obtain ⟨T, hT⟩ : ∃ T, bytI ⟨true, k, c, r, d⟩ ⟨true, ah, al⟩ b = T := ⟨_, rfl⟩
  rw [hT] at HL HT hsz
  replace hsz : (T.size : Int) = ((8 + d.size : Nat) : Int) := by rw [hsz]
  obtain ⟨t1, ht1⟩ : ∃ t, tot 0 (psd6 ah al b.h b.l ((8 + d.size : Nat) : Int) 58) = t := ⟨_, rfl⟩
  obtain ⟨t2, ht2⟩ : ∃ t, tot 0 (psd6 xh xl yh yl ((8 + d.size : Nat) : Int) 58) = t := ⟨_, rfl⟩
  rw [ht1] at HT HP q1
  rw [ht2] at HT HQ q2
  obtain ⟨N, hN⟩ : ∃ N : Int, ((8 + d.size : Nat) : Int) = N := ⟨_, rfl⟩
  rw [hN] at HP HQ hsz
  have m1 := fo_mod (Int.le_of_lt q1)
  have m2 := fo_mod (Int.le_of_lt q2)
  obtain ⟨b10, b11⟩ := fo_bd (Int.le_of_lt q1)
  obtain ⟨b20, b21⟩ := fo_bd (Int.le_of_lt q2)
  obtain ⟨F1, hF1⟩ : ∃ t, fo t1 = t := ⟨_, rfl⟩
  obtain ⟨F2, hF2⟩ : ∃ t, fo t2 = t := ⟨_, rfl⟩
  rw [hF1] at HP m1 b10 b11
  rw [hF2] at HQ m2 b20 b21
  rw [← m1, ← m2] at HT
  have r1 : IntKind.u16.wrap (Int.tmod F1 65535) = F1 % 65535 := by rw [Int.tmod_eq_emod_of_nonneg b10, IntKind.wrap_u16]; omega
  have r2 : IntKind.u16.wrap (Int.tmod F2 65535) = F2 % 65535 := by rw [Int.tmod_eq_emod_of_nonneg b20, IntKind.wrap_u16]; omega
  have r3 : Int.tmod F1 65535 = F1 % 65535 := Int.tmod_eq_emod_of_nonneg b10
  have r4 : Int.tmod F2 65535 = F2 % 65535 := Int.tmod_eq_emod_of_nonneg b20
  obtain ⟨M1, hM1⟩ : ∃ t, F1 % 65535 = t := ⟨_, rfl⟩
  obtain ⟨M2, hM2⟩ : ∃ t, F2 % 65535 = t := ⟨_, rfl⟩
  rw [hM1, hM2] at HT
  have HR1 := Lib.hid (And.intro r1 (And.intro r3 hM1))
  have HR2 := Lib.hid (And.intro r2 (And.intro r4 hM2))
  have HB1 := Lib.hid (And.intro b10 b11)
  have HB2 := Lib.hid (And.intro b20 b21)
  clear hT hok hf ha hb hx hy hdl htk q1 q2 ht1 ht2 hN m1 m2 hF1 hF2 r1 r2 r3 r4 hM1 hM2 b10 b11 b20 b21
  have HMM : Hid (M1 = M2 ∨ ¬ M1 = M2) := Lib.hid (Decidable.em _)
  by_cases he : M1 = M2
  · rw [if_pos he] at HT
    subst he
    go_enter Try.func8, Try.ntmps8
    go_wp2_with fail
    refine Calls.mono (HA.out _) ?_
    rintro e w1 ⟨rfl, hb⟩
    replace hb : Below W0.heap.size W0 w1 := by rw [hW0]; exact hb
    have K1 := Lib.hid (K0.out.below hb K0.out.lt)
    have E1 := Lib.hid (E0.out.below hb E0.out.lt)
    have G1 := Lib.hid (G0.out.below hb G0.out.lt)
    have L1 := Lib.hid (L0.out.trans (hb.mono L0.out.size))
    clear hb hW0 K0 E0 G0 L0
    have z0 := K1.out.frozen 0
    obtain ⟨f0, f1, f2, f3, f4⟩ := K1.out.i5
    have K2 : Hid (Blk (w1.setCell ⟨w.heap.size, 0, none⟩ (.bool true)) w.heap.size 23 (mcs ⟨true, k, c, r, d⟩)) := Lib.hid (K1.out.set_ 0 (.bool true))
    have E2 := Lib.hid (E1.out.far (p := ⟨w.heap.size, 0, none⟩) (show w.heap.size + 1 ≠ w.heap.size by omega) (.bool true))
    have G2 := Lib.hid (G1.out.far (p := ⟨w.heap.size, 0, none⟩) (show w.heap.size + 2 ≠ w.heap.size by omega) (.bool true))
    have L2 := Lib.hid (L1.out.setCell (p := ⟨w.heap.size, 0, none⟩) (Nat.le_refl _) (.bool true))
    obtain ⟨p0, p1, p2, p3, p4⟩ := K2.out.i5
    obtain ⟨g0, g1, g2, g3, g4, g5⟩ := E2.out.i6
    go_wp2_with fail
    refine Calls.mono (HL.out _) ?_
    rintro e w3 ⟨rfl, hb⟩
    have K3 := Lib.hid (K2.out.below hb K2.out.lt)
    have E3 := Lib.hid (E2.out.below hb E2.out.lt)
    have G3 := Lib.hid (G2.out.below hb G2.out.lt)
    have L3 := Lib.hid (L2.out.trans (hb.mono L2.out.size))
    clear hb z0 f0 f1 f2 f3 f4 p0 p1 p2 p3 p4 g0 g1 g2 g3 g4 g5 K1 E1 G1 L1 K2 E2 G2 L2
    obtain ⟨f0, f1, f2, f3, f4⟩ := K3.out.i5
    obtain ⟨g0, g1, g2, g3, g4, g5⟩ := G3.out.i6
    go_wp2_with fail
    refine Calls.mono (HT.out _) ?_
    rintro e w4 ⟨rfl, hb⟩
    have K4 := Lib.hid ((K3.out.below hb K3.out.lt).alloc (.cells (mcs ⟨true, k, c, r, d⟩) 23))
    have N4 := Lib.hid (Blk.new w4 23 (mcs ⟨true, k, c, r, d⟩))
    have E4 := Lib.hid ((E3.out.below hb E3.out.lt).alloc (.cells (mcs ⟨true, k, c, r, d⟩) 23))
    have G4 := Lib.hid ((G3.out.below hb G3.out.lt).alloc (.cells (mcs ⟨true, k, c, r, d⟩) 23))
    have L4 := Lib.hid ((L3.out.trans (hb.mono L3.out.size)).alloc (L3.out.trans (hb.mono L3.out.size)).size (.cells (mcs ⟨true, k, c, r, d⟩) 23))
    clear hb f0 f1 f2 f3 f4 g0 g1 g2 g3 g4 g5 K3 E3 G3 L3
    obtain ⟨g0, g1, g2, g3, g4, g5⟩ := E4.out.i6
    go_wp2_with fail
    refine Calls.mono (HP.out _) ?_
    rintro e w5 ⟨rfl, hb⟩
    have K5 := Lib.hid (K4.out.below hb K4.out.lt)
    have N5 := Lib.hid (N4.out.below hb N4.out.lt)
    have G5 := Lib.hid (G4.out.below hb G4.out.lt)
    have L5 := Lib.hid (L4.out.trans (hb.mono L4.out.size))
    clear hb g0 g1 g2 g3 g4 g5 K4 N4 G4 L4
    obtain ⟨g0, g1, g2, g3, g4, g5⟩ := G5.out.i6
    go_wp2_with fail
    refine Calls.mono (HQ.out _) ?_
    rintro e w6 ⟨rfl, hb⟩
    have K6 := Lib.hid (K5.out.below hb K5.out.lt)
    have N6 := Lib.hid (N5.out.below hb N5.out.lt)
    have L6 := Lib.hid (L5.out.trans (hb.mono L5.out.size))
    clear hb g0 g1 g2 g3 g4 g5 K5 N5 G5 L5
    obtain ⟨f0, f1, f2, f3, f4⟩ := K6.out.i5
    obtain ⟨n0, n1, n2, n3, n4⟩ := N6.out.i5
    obtain ⟨r1, r3, hM1⟩ := HR1.out
    obtain ⟨r2, r4, hM2⟩ := HR2.out
    obtain ⟨b10, b11⟩ := HB1.out
    obtain ⟨b20, b21⟩ := HB2.out
    go_wp2
    go_ret
    exact ⟨rfl, L6.out⟩
  · rw [if_neg he] at HT
    go_enter Try.func8, Try.ntmps8
    go_wp2_with fail
    refine Calls.mono (HA.out _) ?_
    rintro e w1 ⟨rfl, hb⟩
    replace hb : Below W0.heap.size W0 w1 := by rw [hW0]; exact hb
    have K1 := Lib.hid (K0.out.below hb K0.out.lt)
    have E1 := Lib.hid (E0.out.below hb E0.out.lt)
    have G1 := Lib.hid (G0.out.below hb G0.out.lt)
    have L1 := Lib.hid (L0.out.trans (hb.mono L0.out.size))
    clear hb hW0 K0 E0 G0 L0
    have z0 := K1.out.frozen 0
    obtain ⟨f0, f1, f2, f3, f4⟩ := K1.out.i5
    have K2 : Hid (Blk (w1.setCell ⟨w.heap.size, 0, none⟩ (.bool true)) w.heap.size 23 (mcs ⟨true, k, c, r, d⟩)) := Lib.hid (K1.out.set_ 0 (.bool true))
    have E2 := Lib.hid (E1.out.far (p := ⟨w.heap.size, 0, none⟩) (show w.heap.size + 1 ≠ w.heap.size by omega) (.bool true))
    have G2 := Lib.hid (G1.out.far (p := ⟨w.heap.size, 0, none⟩) (show w.heap.size + 2 ≠ w.heap.size by omega) (.bool true))
    have L2 := Lib.hid (L1.out.setCell (p := ⟨w.heap.size, 0, none⟩) (Nat.le_refl _) (.bool true))
    obtain ⟨p0, p1, p2, p3, p4⟩ := K2.out.i5
    obtain ⟨g0, g1, g2, g3, g4, g5⟩ := E2.out.i6
    go_wp2_with fail
    refine Calls.mono (HL.out _) ?_
    rintro e w3 ⟨rfl, hb⟩
    have K3 := Lib.hid (K2.out.below hb K2.out.lt)
    have E3 := Lib.hid (E2.out.below hb E2.out.lt)
    have G3 := Lib.hid (G2.out.below hb G2.out.lt)
    have L3 := Lib.hid (L2.out.trans (hb.mono L2.out.size))
    clear hb z0 f0 f1 f2 f3 f4 p0 p1 p2 p3 p4 g0 g1 g2 g3 g4 g5 K1 E1 G1 L1 K2 E2 G2 L2
    obtain ⟨f0, f1, f2, f3, f4⟩ := K3.out.i5
    obtain ⟨g0, g1, g2, g3, g4, g5⟩ := G3.out.i6
    go_wp2_with fail
    refine Calls.mono (HT.out _) ?_
    rintro e w4 ⟨rfl, hb⟩
    have K4 := Lib.hid ((K3.out.below hb K3.out.lt).alloc (.cells (mcs ⟨false, 0, 0, 0, ⟨#[]⟩⟩) 23))
    have N4 := Lib.hid (Blk.new w4 23 (mcs ⟨false, 0, 0, 0, ⟨#[]⟩⟩))
    have E4 := Lib.hid ((E3.out.below hb E3.out.lt).alloc (.cells (mcs ⟨false, 0, 0, 0, ⟨#[]⟩⟩) 23))
    have G4 := Lib.hid ((G3.out.below hb G3.out.lt).alloc (.cells (mcs ⟨false, 0, 0, 0, ⟨#[]⟩⟩) 23))
    have L4 := Lib.hid ((L3.out.trans (hb.mono L3.out.size)).alloc (L3.out.trans (hb.mono L3.out.size)).size (.cells (mcs ⟨false, 0, 0, 0, ⟨#[]⟩⟩) 23))
    clear hb f0 f1 f2 f3 f4 g0 g1 g2 g3 g4 g5 K3 E3 G3 L3
    obtain ⟨g0, g1, g2, g3, g4, g5⟩ := E4.out.i6
    go_wp2_with fail
    refine Calls.mono (HP.out _) ?_
    rintro e w5 ⟨rfl, hb⟩
    have K5 := Lib.hid (K4.out.below hb K4.out.lt)
    have N5 := Lib.hid (N4.out.below hb N4.out.lt)
    have G5 := Lib.hid (G4.out.below hb G4.out.lt)
    have L5 := Lib.hid (L4.out.trans (hb.mono L4.out.size))
    clear hb g0 g1 g2 g3 g4 g5 K4 N4 G4 L4
    obtain ⟨g0, g1, g2, g3, g4, g5⟩ := G5.out.i6
    go_wp2_with fail
    refine Calls.mono (HQ.out _) ?_
    rintro e w6 ⟨rfl, hb⟩
    have K6 := Lib.hid (K5.out.below hb K5.out.lt)
    have N6 := Lib.hid (N5.out.below hb N5.out.lt)
    have L6 := Lib.hid (L5.out.trans (hb.mono L5.out.size))
    clear hb g0 g1 g2 g3 g4 g5 K5 N5 G5 L5
    obtain ⟨f0, f1, f2, f3, f4⟩ := K6.out.i5
    obtain ⟨n0, n1, n2, n3, n4⟩ := N6.out.i5
    obtain ⟨r1, r3, hM1⟩ := HR1.out
    obtain ⟨r2, r4, hM2⟩ := HR2.out
    obtain ⟨b10, b11⟩ := HB1.out
    obtain ⟨b20, b21⟩ := HB2.out
    go_wp2
    go_ret
    exact ⟨rfl, L6.out⟩
theorem walk (w : World) (a0_0 : Bool) (a0_1 : Int) (w0_1 : (Lit.int .i64 a0_1).wf = true) (a0_2 : Int) (w0_2 : (Lit.int .i64 a0_2).wf = true) (a0_3 : Int) (w0_3 : (Lit.int .i64 a0_3).wf = true) (a0_4 : ByteArray) (w0_4 : a0_4.size ≤ maxLen) (a1_0 : Bool) (a1_1 : Int) (w1_1 : (Lit.int .u64 a1_1).wf = true) (a1_2 : Int) (w1_2 : (Lit.int .u64 a1_2).wf = true) (a1_3 : Bool) (a1_4 : Int) (w1_4 : (Lit.int .u64 a1_4).wf = true) (a1_5 : Int) (w1_5 : (Lit.int .u64 a1_5).wf = true) (a2_0 : Bool) (a2_1 : Int) (w2_1 : (Lit.int .u64 a2_1).wf = true) (a2_2 : Int) (w2_2 : (Lit.int .u64 a2_2).wf = true) (a2_3 : Bool) (a2_4 : Int) (w2_4 : (Lit.int .u64 a2_4).wf = true) (a2_5 : Int) (w2_5 : (Lit.int .u64 a2_5).wf = true) :
    Calls Try.prog 8 #[.agg #[.bool a0_0, .int .i64 a0_1, .int .i64 a0_2, .int .i64 a0_3, .string a0_4], .agg #[.bool a1_0, .int .u64 a1_1, .int .u64 a1_2, .bool a1_3, .int .u64 a1_4, .int .u64 a1_5], .agg #[.bool a2_0, .int .u64 a2_1, .int .u64 a2_2, .bool a2_3, .int .u64 a2_4, .int .u64 a2_5]] w fun e w' => e = .returned (.bool true) ∧ Below w.heap.size w w' := by
  exact walkA a0_0 a0_1 a0_2 a0_3 a0_4 ⟨a1_0, a1_1, a1_2⟩ ⟨a1_3, a1_4, a1_5⟩ ⟨a2_0, a2_1, a2_2⟩ ⟨a2_3, a2_4, a2_5⟩ ⟨wf_uI w1_1, wf_uI w1_2⟩ ⟨wf_uI w1_4, wf_uI w1_5⟩ ⟨wf_uI w2_1, wf_uI w2_2⟩ ⟨wf_uI w2_4, wf_uI w2_5⟩ w
set_option maxRecDepth 100000 in
theorem contract (H : Type) (enc : TypeId × Value → H) (W : World) (base : Nat) (args : Array Value) (ds gs : List (DataW H)) (before : List MemPlace)
    (hval0 : ∀ (j : Nat) t v, Try.f8.params[j]? = some t → args[j]? = some v → Value.okWide Try.prog W .any base t v)
    (hW : DataW.Whole enc Try.prog Try.f8.params.toList Rows.icmpApartSpec.vars false W args.toList ds gs before)
    (hsz0 : (DataW.weightsEach Try.prog (Try.f8.params.toList ++ Rows.icmpApartSpec.plain.varTypes Try.prog) (ds ++ gs)).all (· ≤ reachBytes) = true) :
    Calls Try.prog 8 args W fun e W' => ∃ v, e = .returned v ∧ Rows.icmpApartSpec.post enc Try.prog Try.f8 false true false false W args v W' := by
  have hsz := hsz0
  clear hsz0
  have hval := hval0
  clear hval0
  have hW' := hW
  obtain ⟨p, q, hA0, hV, rfl, hfz, hnd⟩ := hW
  have hA : DataW.TrodAll enc Try.prog W 0 (fun _ => true) true Try.f8.params.toList args.toList ds p := hA0
  rw [Try.params8] at hA hval hsz
  obtain ⟨v0, vs0, d0, ds0, p0, q0, hargs, rfl, rfl, h0, r0⟩ := trodAll_cons hA
  obtain ⟨v1, vs1, d1, ds1, p1, q1, rfl, rfl, rfl, h1, r1⟩ := trodAll_cons r0
  obtain ⟨v2, vs2, d2, ds2, p2, q2, rfl, rfl, rfl, h2, r2⟩ := trodAll_cons r1
  obtain ⟨rfl, rfl, rfl⟩ := trodAll_nil r2
  obtain rfl : args = #[v0, v1, v2] := by cases args; simp_all
  obtain ⟨rfl, rfl⟩ := trodVars_none hV
  have k0 := h0
  have lt0 : ∀ x ∈ p0, x.block < W.heap.size := by obtain ⟨m, hm⟩ := k0; exact DataW.trod_lt m _ _ _ hm
  obtain ⟨a0_0, a0_1, a0_2, a0_3, a0_4, rfl, w0_1, w0_2, w0_3, w0_4, ep0⟩ := open_icmp (hval 0 23 v0 rfl rfl) h0
  have k1 := h1
  have lt1 : ∀ x ∈ p1, x.block < W.heap.size := by obtain ⟨m, hm⟩ := k1; exact DataW.trod_lt m _ _ _ hm
  obtain ⟨a1_0, a1_1, a1_2, a1_3, a1_4, a1_5, rfl, w1_1, w1_2, w1_4, w1_5, ep1⟩ := open_ends (hval 1 28 v1 rfl rfl) h1
  have k2 := h2
  have lt2 : ∀ x ∈ p2, x.block < W.heap.size := by obtain ⟨m, hm⟩ := k2; exact DataW.trod_lt m _ _ _ hm
  obtain ⟨a2_0, a2_1, a2_2, a2_3, a2_4, a2_5, rfl, w2_1, w2_2, w2_4, w2_5, ep2⟩ := open_ends (hval 2 28 v2 rfl rfl) h2
  clear hA0
  refine (walk W a0_0 a0_1 w0_1 a0_2 w0_2 a0_3 w0_3 a0_4 w0_4 a1_0 a1_1 w1_1 a1_2 w1_2 a1_3 a1_4 w1_4 a1_5 w1_5 a2_0 a2_1 w2_1 a2_2 w2_2 a2_3 a2_4 w2_4 a2_5 w2_5).mono fun e W' ⟨he, bel⟩ => ?_
  subst he
  exact ⟨_, rfl, _, _, _, [], _, [], hW', trodAll_mk1 (shut_bool Try.underlying4 _), (trodAll_cons_mk (Below.trod laidOut (by kernel_rfl) (of_decide_eq_true (by kernel_rfl)) k0 bel lt0) (trodAll_cons_mk (Below.trod laidOut (by kernel_rfl) (of_decide_eq_true (by kernel_rfl)) k1 bel lt1) (trodAll_cons_mk (Below.trod laidOut (by kernel_rfl) (of_decide_eq_true (by kernel_rfl)) k2 bel lt2) trodAll_mk0))), rfl, bel.frame _, fun h => by cases h⟩

set_option maxRecDepth 100000 in
theorem lifted (os : Os) (started : os.Started) (H : Type) (enc : TypeId × Value → H) :
    ReturnsInHanded {} Try.checked os 8 .any (Rows.icmpApartSpec.pre6 enc Try.prog Try.f8 Rows.icmpApartRow.domain false) (Rows.icmpApartSpec.post enc Try.prog Try.f8 false true false false) := by
  refine returnsInHanded_of_change_sized (C := Try.checked) own started (by kernel_rfl) Try.func8
    (ChangeSpec.witness6 (enc := enc) (C := Try.checked) false ⟨#[], #[.agg #[.bool false, .int .i64 0, .int .i64 0, .int .i64 0, .string ByteArray.empty], .agg #[.bool false, .int .u64 0, .int .u64 0, .bool false, .int .u64 0, .int .u64 0], .agg #[.bool false, .int .u64 0, .int .u64 0, .bool false, .int .u64 0, .int .u64 0]], []⟩ 8 (by kernel_rfl) (by kernel_rfl) (by kernel_rfl) (by kernel_rfl)) ?_
  intro W base args ds gs before hval hW _ hsz _
  exact contract H enc W base args ds gs before hval hW hsz

theorem over : Rows.icmpApartRow.holds Try.pinned (OpenSpec.ofChange Rows.icmpApartSpec) :=
  OpenClaim.holds_of_wide 8 Try.f8 rfl rfl rfl rfl rfl rfl rfl ⟨rfl, rfl, rfl, rfl, rfl⟩ rfl rfl rfl rfl rfl (by kernel_rfl) Try.func8 (by kernel_rfl)
    (of_decide_eq_true (by kernel_rfl)) (by unfold Func.isWrapper; first | (rw [if_pos (by decide +kernel)]; kernel_rfl) | (rw [if_neg (by decide +kernel)]; exact ⟨rfl, rfl⟩))
    (fun os started H enc _ => lifted os started H enc)

theorem proved : Rows.IcmpApartSaid := over
#print axioms proved
end Go.Proofs.Ytljdebpemdjliaa.Apart
