/-
  crosswaylaw12.RingApart returns true for every input, and leaves its arguments alone.
  Conditions: none of our own.
-/
import Derived.Test.YtogbchahfkphoaaRgX
import Derived.Test.YtogbchahfkphoaaRgL
namespace Go.Proofs.Ytogbchahfkphoaa
open Go.ChangeShapes Go.WideShapes Go.ChangeAt Go.RowKit
set_option linter.unusedVariables false
namespace RApt
/-- Lists as a ring's elements. -/
def lsts (G : List Nat) : List (List Value) := G.map fun g => [.slice (some ⟨g, 0, none⟩) 2 2]
theorem lsts_len (G : List Nat) : (lsts G).length = G.length := by simp [lsts]
theorem lsts_at {G : List Nat} {i g : Nat} (h : G[i]? = some g) : (lsts G)[i]? = some [.slice (some ⟨g, 0, none⟩) 2 2] := by simp [lsts, h]
theorem lsts_app (G : List Nat) (g : Nat) : lsts (G ++ [g]) = lsts G ++ [[.slice (some ⟨g, 0, none⟩) 2 2]] := by simp [lsts]
def lsq (H : List (Option Addr × Nat × Nat)) : List (List Value) := H.map fun x => [.slice x.1 x.2.1 x.2.2]
theorem lsq_len (H : List (Option Addr × Nat × Nat)) : (lsq H).length = H.length := by simp [lsq]
theorem lsq_app (H : List (Option Addr × Nat × Nat)) (A : Option Addr) (n c : Nat) : lsq (H ++ [(A, n, c)]) = lsq H ++ [[.slice A n c]] := by simp [lsq]
theorem lsq_at {H : List (Option Addr × Nat × Nat)} {i : Nat} (h : i < H.length) : ∃ A n c, (lsq H)[i]? = some [.slice A n c] := ⟨H[i].1, H[i].2.1, H[i].2.2, by simp [lsq, h]⟩
/-- Each list lies behind D, and holds its number, turned round, and what its step says. -/
def Ls (D : Nat) (z : List Stp) (W : World) (G : List Nat) : Prop := ∀ (i g : Nat) (x : Stp), G[i]? = some g → z[i]? = some x → D ≤ g ∧ g < W.heap.size ∧ W.cell? ⟨g, 0, none⟩ = some (.int .i64 (-(i : Int))) ∧ W.cell? ⟨g, 1, none⟩ = some (.int .i64 x.2.1)
theorem Ls.tch {D : Nat} {z : List Stp} {W W' : World} {G : List Nat} {S : List Nat} (h : Ls D z W G) (ht : Tch W W' S) (hS : ∀ s ∈ S, s < D) : Ls D z W' G := by
  intro i g x hg hx
  obtain ⟨h1, h2, h3, h4⟩ := h i g x hg hx
  have hn : g ∉ S := fun hm => by have := hS g hm; omega
  exact ⟨h1, by have := ht.size; omega, (ht.cell (p := ⟨g, 0, none⟩) h2 hn).trans h3, (ht.cell (p := ⟨g, 1, none⟩) h2 hn).trans h4⟩
/-- The four blocks of two rings. -/
structure Four (w x3 : World) (ra ba rb bb : Nat) : Prop where
  bel : Below w.heap.size w x3
  a1 : w.heap.size ≤ ra
  a2 : w.heap.size ≤ ba
  b1 : w.heap.size ≤ rb
  b2 : w.heap.size ≤ bb
  ra3 : ra < x3.heap.size
  ba3 : ba < x3.heap.size
  rb3 : rb < x3.heap.size
  bb3 : bb < x3.heap.size
  n1 : ra ≠ rb
  n2 : ra ≠ bb
  n3 : ba ≠ rb
  n4 : ba ≠ bb
theorem Four.below {w x3 wr : World} {ra ba rb bb : Nat} (h : Four w x3 ra ba rb bb) (ht : Tch x3 wr [ra, ba, rb, bb]) : Below w.heap.size w wr := by
  obtain ⟨h0, h1, h2, h3, h4, -⟩ := h
  exact h0.trans (ht.below h0.size (by simp; exact ⟨h1, h2, h3, h4⟩))
set_option maxRecDepth 100000 in
set_option maxHeartbeats 4000000 in
theorem walk (w : World) (a0 : Option Addr) (l0 c0 : Nat) (z0 : List Stp) (w0 : IsStp w a0 l0 z0) (a1 : Option Addr) (l1 c1 : Nat) (z1 : List Stp) (w1 : IsStp w a1 l1 z1) :
    Calls Try.prog 6 #[.slice a0 l0 c0, .slice a1 l1 c1] w fun e w' => e = .returned (.bool true) ∧ Below w.heap.size w w' := by
  have HZ0 := Lib.hid w0
  have HZ1 := Lib.hid w1
  have HNw : Hid (∀ W, Calls Try.prog 27 #[.int .i64 4] W _) := Lib.hid (fun W => newL_ok 4 (by decide) W)
  clear w0 w1
  go_enter Try.func6, Try.ntmps6
  go_wp2_with fail
  refine Calls.mono (awake_yes w) ?_
  rintro e x1 ⟨rfl, hb1⟩
  have B1 := Lib.hid hb1
  clear hb1
  go_wp2_with fail
  refine Calls.mono (HNw.out x1) ?_
  rintro e x2 ⟨ra, ba, rfl, hR, hb, hr, hbb⟩
  have R2 := Lib.hid hR
  have B2 := Lib.hid (And.intro hb (And.intro hr hbb))
  clear hR hb hr hbb
  go_wp2_with fail
  refine Calls.mono (HNw.out x2) ?_
  rintro e x3 ⟨rb, bb, rfl, hR, hb, hr, hbb⟩
  have R3 := Lib.hid hR
  have R2' := Lib.hid (R2.out.below hb)
  have HF : Hid (Four w x3 ra ba rb bb) := Lib.hid (by
    have l2 := R2.out.lt
    have l3 := hR.lt
    have s1 := B1.out.size
    have s2 := B2.out.1.size
    have s3 := hb.size
    have b12 := B1.out.trans (B2.out.1.mono s1)
    exact ⟨b12.trans (hb.mono b12.size), by have := B2.out.2.1; omega, by have := B2.out.2.2; omega, by omega, by omega, by omega, by omega, l3.1, l3.2, by omega, by omega, by omega, by omega⟩)
  have HRa : Hid (RgL x3 ra ba 16 (lsts []) 0) := R2'
  have HRb : Hid (RgL x3 rb bb 16 [] 0) := R3
  clear hR hb hr hbb HNw R2 R2' R3 B1 B2
  go_wp2
  go_loopw [8, 9] (fun nv iv wr => ∃ (j : Nat) (G : List Nat), nv = .int .i64 (j : Int) ∧ iv = .int .i64 (j : Int) ∧ j ≤ l0 ∧ j ≤ 16 ∧ Hid (G.length = j) ∧ Hid (RgL wr ra ba 16 (lsts G) 0) ∧ Hid (Ls x3.heap.size z0 wr G) ∧ Hid (∃ al out, RgL wr rb bb 16 (lsq al) out ∧ al.length ≤ j) ∧ Hid (Tch x3 wr [ra, ba, rb, bb])) (fun _ iv _ => 17 - (intOf iv).toNat)
  case atStart => exact ⟨0, [], rfl, rfl, Nat.zero_le _, by omega, Lib.hid rfl, HRa, Lib.hid (fun i g x h => by simp at h), Lib.hid ⟨[], 0, HRb.out, Nat.le_refl _⟩, Lib.hid (Tch.refl _ _)⟩
  case round =>
    obtain ⟨j, G, rfl, rfl, hj, hj2, hG, hRa, hL, hRb, hT⟩ := hrel
    by_cases hlt : j < l0 ∧ j < 16
    · obtain ⟨h1, h2⟩ := hlt
      obtain ⟨g, o, q1, q2, q3, rfl, hg, hzj, -, c1, -, -, -⟩ := HZ0.out.cells (HF.out.below hT.out) h1
      have HZj := Lib.hid hzj
      have hjI : (j : Int) < l0 := by omega
      have hjI2 : (j : Int) < 16 := by omega
      have hj0 : (0 : Int) ≤ j := by omega
      have j3 : IntKind.i64.wrap ((j : Int) + 1) = (j : Int) + 1 := by rw [IntKind.wrap_i64]; omega
      have j4 : wrap64 (-(j : Int)) = -(j : Int) := by unfold wrap64; omega
      have j5 : IntKind.i64.wrap (-(j : Int)) = -(j : Int) := by rw [IntKind.wrap_i64]; omega
      obtain ⟨al, out, hRb2, hal⟩ := hRb.out
      have HRA : Hid (RgL (wr.alloc (.cells #[.int .i64 (j : Int), .int .i64 q2] 3)) ra ba 16 (lsts G) 0) := Lib.hid (hRa.out.below ((Below.refl _ wr).alloc (Nat.le_refl _) _))
      have HP := Lib.hid (pushL_ok ra ba 16 (lsts G) 0 (some ⟨wr.heap.size, 0, none⟩) 2 2 (by rw [lsts_len, hG.out]; omega) (by rw [lsts_len, hG.out]; omega) _ HRA.out)
      have HBl : Hid (Blk (wr.alloc (.cells #[.int .i64 (j : Int), .int .i64 q2] 3)) wr.heap.size 3 #[.int .i64 (j : Int), .int .i64 q2]) := Lib.hid (Blk.new _ _ _)
      have HTA : Hid (Tch wr (wr.alloc (.cells #[.int .i64 (j : Int), .int .i64 q2] 3)) [ra, ba, rb, bb]) := Lib.hid ((Tch.refl _ _).alloc _)
      have HRB : Hid (RgL wr rb bb 16 (lsq al) out ∧ al.length ≤ j) := Lib.hid ⟨hRb2, hal⟩
      have HGe : Hid (ra < wr.heap.size ∧ ba < wr.heap.size ∧ rb < wr.heap.size ∧ bb < wr.heap.size ∧ x3.heap.size ≤ wr.heap.size) := Lib.hid ⟨hRa.out.lt.1, hRa.out.lt.2, hRb2.lt.1, hRb2.lt.2, hT.out.size⟩
      clear hzj hg hRb hRb2 hal
      go_wp2_with fail
      refine Calls.mono HP.out ?_
      rintro e w3 ⟨rfl, hR3, hT3⟩
      rw [← lsts_app] at hR3
      have HR3 := Lib.hid hR3
      have HT3 := Lib.hid hT3
      have HB3 := Lib.hid (hT3.blk HBl.out (nin2 (by have := HGe.out.1; omega) (by have := HGe.out.2.1; omega)))
      have f0 := (HB3.out.cell 0).trans (show _ = some (Value.int .i64 (j : Int)) by rfl)
      have f1 := HB3.out.frozen 0
      have HT4 : Hid (Tch wr (w3.setCell ⟨wr.heap.size, 0, none⟩ (.int .i64 (-(j : Int)))) [ra, ba, rb, bb, wr.heap.size]) := Lib.hid ((HTA.out.mono (by simp)).trans ((HT3.out.mono (T := [ra, ba, rb, bb, wr.heap.size]) (by simp)).set_ (p := ⟨wr.heap.size, 0, none⟩) (by simp) _))
      obtain ⟨gl, hgl⟩ : ∃ gl, wr.heap.size = gl := ⟨_, rfl⟩
      have HGL : Hid (wr.heap.size = gl ∧ x3.heap.size ≤ gl ∧ w.heap.size ≤ gl) := Lib.hid ⟨hgl, by have := HGe.out.2.2.2.2; omega, by have := HGe.out.2.2.2.2; have := HF.out.bel.size; omega⟩
      have HW4 : Hid (Below w.heap.size w w3) := Lib.hid (HF.out.below (hT.out.trans (HTA.out.trans (HT3.out.mono (by simp)))))
      rw [hgl] at f0 f1 HB3 HT4 HR3 ⊢
      have HLs : Hid (Ls x3.heap.size z0 (w3.setCell ⟨gl, 0, none⟩ (.int .i64 (-(j : Int)))) (G ++ [gl])) := Lib.hid (by
        intro i g' x hg' hx
        rcases Nat.lt_or_ge i G.length with hi | hi
        · rw [List.getElem?_append_left hi] at hg'
          have hold := (hL.out.tch HTA.out (by simp; have := HF.out; exact ⟨this.ra3, this.ba3, this.rb3, this.bb3⟩)).tch (S := [ra, ba]) HT3.out (by simp; have := HF.out; exact ⟨this.ra3, this.ba3⟩)
          obtain ⟨k1, k2, k3, k4⟩ := hold i g' x hg' hx
          obtain ⟨-, k5, -, -⟩ := hL.out i g' x hg' hx
          have hne : gl ≠ g' := by omega
          exact ⟨k1, by rw [World.size_setCell]; exact k2, (World.cell?_setCell_far w3 ⟨gl, 0, none⟩ ⟨g', 0, none⟩ _ hne).trans k3, (World.cell?_setCell_far w3 ⟨gl, 0, none⟩ ⟨g', 1, none⟩ _ hne).trans k4⟩
        · rw [List.getElem?_append_right hi] at hg'
          have h0 := (List.getElem?_eq_some_iff.1 hg').1
          simp at h0
          have hij : i = j := by have := hG.out; omega
          subst hij
          rw [show i - G.length = 0 by omega] at hg'
          simp at hg'
          subst hg'
          rw [HZj.out] at hx
          injection hx with hx
          subst hx
          have hb4 := HB3.out.set_ 0 (.int .i64 (-(i : Int)))
          exact ⟨HGL.out.2.1, hb4.lt, (hb4.cell 0).trans rfl, (hb4.cell 1).trans rfl⟩)
      have HTw4 : Hid (Tch x3 (w3.setCell ⟨gl, 0, none⟩ (.int .i64 (-(j : Int)))) [ra, ba, rb, bb]) := Lib.hid (by
        have h1 := hT.out.trans HTA.out
        have h2 := h1.trans (HT3.out.mono (T := [ra, ba, rb, bb]) (by simp))
        exact ⟨h2.os, h2.tape, h2.output, by rw [World.size_setCell]; exact h2.size, fun i hi hn => (Below.heap_setCell w3 ⟨gl, 0, none⟩ _ i (by have := HGL.out.2.1; show i ≠ gl; omega)).trans (h2.block i hi hn)⟩)
      have HRa4 : Hid (RgL (w3.setCell ⟨gl, 0, none⟩ (.int .i64 (-(j : Int)))) ra ba 16 (lsts (G ++ [gl])) 0) := Lib.hid (HR3.out.tch ((Tch.refl w3 [gl]).set_ (p := ⟨gl, 0, none⟩) (by simp) _) (by have := HGe.out.1; have := HGL.out.1; simp; omega) (by have := HGe.out.2.1; have := HGL.out.1; simp; omega))
      have HRb4 : Hid (RgL (w3.setCell ⟨gl, 0, none⟩ (.int .i64 (-(j : Int)))) rb bb 16 (lsq al) out) := Lib.hid (by
        have h1 := HRB.out.1.tch (S := []) ((Tch.refl wr []).alloc (.cells #[.int .i64 (j : Int), .int .i64 q2] 3)) (by simp) (by simp)
        have h2 := h1.tch HT3.out (nin2 HF.out.n1.symm HF.out.n3.symm) (nin2 HF.out.n2.symm HF.out.n4.symm)
        exact h2.tch ((Tch.refl w3 [gl]).set_ (p := ⟨gl, 0, none⟩) (by simp) _) (by have := HGe.out.2.2.1; have := HGL.out.1; simp; omega) (by have := HGe.out.2.2.2.1; have := HGL.out.1; simp; omega))
      have HGn : Hid ((G ++ [gl]).length = j + 1) := Lib.hid (by simp [hG.out])
      clear HP HT4 hgl
      by_cases hoth : j < l1
      · have ho1 : (j : Int) < l1 := by omega
        obtain ⟨og, oo, p1, p2, p3, rfl, hog, -, d0, d1, d2, -, -⟩ := HZ1.out.cells HW4.out hoth
        have e1 : ¬ gl = og := by have := HGL.out.2.2; omega
        have e2 : ¬ og = gl := fun h => e1 h.symm
        have HD := Lib.hid (And.intro d0 (And.intro d1 (And.intro d2 hog)))
        have k0 := (World.cell?_setCell_far w3 ⟨gl, 0, none⟩ ⟨og, oo + j * 3, none⟩ (.int .i64 (-(j : Int))) e1).trans d0
        have k1 := (World.cell?_setCell_far w3 ⟨gl, 0, none⟩ ⟨og, oo + j * 3 + 1, none⟩ (.int .i64 (-(j : Int))) e1).trans d1
        have k2 := (World.cell?_setCell_far w3 ⟨gl, 0, none⟩ ⟨og, oo + j * 3 + 2, none⟩ (.int .i64 (-(j : Int))) e1).trans d2
        obtain ⟨W5, hW5⟩ : ∃ W5, (w3.setCell ⟨gl, 0, none⟩ (.int .i64 (-(j : Int)))).alloc (.cells #[.int .i64 p2] 3) = W5 := ⟨_, rfl⟩
        have HB45 : Hid (Below (w3.setCell ⟨gl, 0, none⟩ (.int .i64 (-(j : Int)))).heap.size (w3.setCell ⟨gl, 0, none⟩ (.int .i64 (-(j : Int)))) W5) := Lib.hid (hW5 ▸ (Below.refl _ _).alloc (Nat.le_refl _) _)
        have HP5 := Lib.hid (pushL_ok rb bb 16 (lsq al) out (some ⟨w3.heap.size, 0, none⟩) 1 1 (by have := HRB.out.2; rw [lsq_len]; omega) (by have := HRB.out.2; rw [lsq_len]; omega) W5 (HRb4.out.below HB45.out))
        have HRa5 := Lib.hid (HRa4.out.below HB45.out)
        have HT5 := Lib.hid (HTw4.out.trans (Tch.of_below [ra, ba, rb, bb] HB45.out))
        have HLs5 := Lib.hid (HLs.out.tch (Tch.of_below [] HB45.out) (by simp))
        have HW5 := Lib.hid hW5
        clear hW5
        go_wp2_with fail
        rw [HW5.out]
        clear HW5 k0 k1 k2 d0 d1 d2
        refine Calls.mono HP5.out ?_
        rintro e w6 ⟨rfl, hR6, hT6⟩
        rw [← lsq_app] at hR6
        have HR6 := Lib.hid hR6
        have HRa6 := Lib.hid (HRa5.out.tch hT6 (nin2 HF.out.n1 HF.out.n2) (nin2 HF.out.n3 HF.out.n4))
        have HLs6 := Lib.hid (HLs5.out.tch hT6 (by simp; have := HF.out; exact ⟨this.rb3, this.bb3⟩))
        have HT6 := Lib.hid (HT5.out.trans (hT6.mono (by simp)))
        obtain ⟨og', oo', p1', p2', p3', e', -, -, m0, m1, m2, -, -⟩ := HZ1.out.cells (HF.out.below HT6.out) hoth
        injection e' with e'
        injection e' with e3 e4 e5
        subst e3 e4
        have HK := Lib.hid (kind_any (p1', p2', p3') w6)
        simp only at HK
        obtain ⟨kd, hkd⟩ : ∃ kd, p1' % 4 = kd := ⟨_, rfl⟩
        rw [hkd] at HK
        clear hR6 hT6 HP5 hkd
        go_wp2_with fail
        refine Calls.mono HK.out ?_
        rintro e w7 ⟨rfl, hb7⟩
        have HR7 := Lib.hid (HR6.out.below hb7)
        have HRa7 := Lib.hid (HRa6.out.below hb7)
        have HLs7 := Lib.hid (HLs6.out.tch (Tch.of_below [] hb7) (by simp))
        have HT7 := Lib.hid (HT6.out.trans (Tch.of_below [ra, ba, rb, bb] hb7))
        clear hb7 HK m0 m1 m2
        have HHn : Hid ((al ++ ([(some ⟨w3.heap.size, 0, none⟩, 1, 1)] : List (Option Addr × Nat × Nat))).length ≤ j + 1) := Lib.hid (by have := HRB.out.2; simp; omega)
        by_cases hk2 : kd = 2
        · subst hk2
          have q2 : ((2 : Int) == 2) = true := by simp
          obtain ⟨A, n, c, hlq⟩ := lsq_at (H := al ++ ([(some ⟨w3.heap.size, 0, none⟩, 1, 1)] : List (Option Addr × Nat × Nat))) (i := out) (by have := HRB.out.1.le.1; rw [lsq_len] at this; simp; omega)
          have HP7 := Lib.hid (popL_ok rb bb 16 _ out A n c hlq (by have := HHn.out; rw [lsq_len]; omega) w7 HR7.out)
          clear hlq
          go_wp2_with fail
          refine Calls.mono HP7.out ?_
          rintro e w8 ⟨rfl, hR8, hT8⟩
          have HR8 := Lib.hid hR8
          have HRa8 := Lib.hid (HRa7.out.tch hT8 (nin2 HF.out.n1 HF.out.n2) (nin2 HF.out.n3 HF.out.n4))
          have HLs8 := Lib.hid (HLs7.out.tch hT8 (by simp; have := HF.out; exact ⟨this.rb3, this.bb3⟩))
          have HT8 := Lib.hid (HT7.out.trans (hT8.mono (by simp)))
          clear hR8 hT8 HP7
          go_wp2
          go_roundw
          case rel => exact ⟨j + 1, G ++ [gl], by go_num, by go_num, h1, h2, HGn, HRa8, HLs8, Lib.hid ⟨_, _, HR8.out, HHn.out⟩, HT8⟩
          case measure => simp [intOf]; omega
        · have q2 : (kd == 2) = false := by simp; exact hk2
          clear hk2
          go_wp2
          go_roundw
          case rel => exact ⟨j + 1, G ++ [gl], by go_num, by go_num, h1, h2, HGn, HRa7, HLs7, Lib.hid ⟨_, _, HR7.out, HHn.out⟩, HT7⟩
          case measure => simp [intOf]; omega
      · have ho1 : ¬ (j : Int) < l1 := by omega
        go_wp2
        go_roundw
        case rel => exact ⟨j + 1, G ++ [gl], by go_num, by go_num, h1, h2, HGn, HRa4, HLs, Lib.hid ⟨al, out, HRb4.out, by have := HRB.out.2; omega⟩, HTw4⟩
        case measure => simp [intOf]; omega
    · rcases (show ¬ j < l0 ∨ (j < l0 ∧ ¬ j < 16) by omega) with h1 | ⟨h1, h2⟩
      · have hjI : ¬ (j : Int) < l0 := by omega
        clear hlt
        go_wp2
        go_loopw [11] (fun iv wr => ∃ m : Nat, iv = .int .i64 (m : Int) ∧ m ≤ j ∧ Hid (RgL wr ra ba 16 (lsts G) m) ∧ Hid (Ls x3.heap.size z0 wr G) ∧ Hid (Tch x3 wr [ra, ba, rb, bb])) (fun iv _ => j - (intOf iv).toNat)
        case atStart => exact ⟨0, rfl, Nat.zero_le _, hRa, hL, hT⟩
        case round =>
          obtain ⟨m, rfl, hm, hRm, hLm, hTm⟩ := hrel
          have m2 : IntKind.i64.wrap ((m : Int) + 1) = (m : Int) + 1 := by rw [IntKind.wrap_i64]; omega
          by_cases hmj : m < j
          · have m1 : (m : Int) < (j : Int) := by omega
            have m0 : (0 : Int) ≤ (m : Int) := by omega
            have ml : (m : Int) < (l0 : Int) := by omega
            obtain ⟨g, hg⟩ : ∃ g, G[m]? = some g := ⟨_, List.getElem?_eq_getElem (by have := hG.out; omega)⟩
            have HP := Lib.hid (popL_ok ra ba 16 (lsts G) m (some ⟨g, 0, none⟩) 2 2 (lsts_at hg) (by rw [lsts_len, hG.out]; omega) wr hRm.out)
            have HGm := Lib.hid hg
            have q0 : ((2 : Int) != 2) = false := by decide
            have q1 : (-(m : Int) != -(m : Int)) = false := by simp
            have m3 : wrap64 (-(m : Int)) = -(m : Int) := by unfold wrap64; omega
            have m4 : IntKind.i64.wrap (-(m : Int)) = -(m : Int) := by rw [IntKind.wrap_i64]; omega
            clear hg
            go_wp2_with fail
            refine Calls.mono HP.out ?_
            rintro e w4 ⟨rfl, hR4, hT4⟩
            have HR4 := Lib.hid hR4
            have HL4 := Lib.hid (hLm.out.tch hT4 (by simp; have := HF.out; exact ⟨this.ra3, this.ba3⟩))
            have HT4 := Lib.hid (hTm.out.trans (hT4.mono (by simp)))
            obtain ⟨sg, so, x1, x2, x3', rfl, hsg, hzm, -, d1, -, -, -⟩ := HZ0.out.cells (HF.out.below HT4.out) (show m < l0 by omega)
            obtain ⟨-, -, l0c, l1c⟩ := HL4.out m g _ HGm.out hzm
            simp only at l1c
            have q2 : (x2 != x2) = false := by simp
            have HC := Lib.hid (And.intro l0c (And.intro l1c d1))
            clear hR4 hT4 HP hzm
            go_wp2
            refine wp_region_held_drew (S := (fun W => W.cell? ⟨g, 0, none⟩ = some (.int .i64 (-(m : Int))) ∧ W.cell? ⟨g, 1, none⟩ = some (.int .i64 x2) ∧ W.cell? ⟨sg, so + m * 3 + 1, none⟩ = some (.int .i64 x2))) (by kernel_rfl) ?_ (fun hHeld => ?_)
            · (exact HC.out)
            refine wpAnyH_take (i := 0) (oi := { dst := some 83, op := Go.Op.move (Go.Operand.tmp 13), type := 4, pos := "law.go:172", after := #[], guard := none }) (v := ?_) rfl (by kernel_rfl) (by kernel_rfl) (by kernel_rfl) (fun _ _ _ h => h) (Or.inl ⟨by rfl, ?_⟩) (by assumption) ?_
            rotate_left
            · intro w hSw
              (try dsimp only at hSw)
              go_simp
              try (with_reducible rfl)
            try simp only [Act.put, List.setIfInBounds_toArray, List.set_cons_zero, List.set_cons_succ]
            refine wpAnyH_take (i := 1) (oi := { dst := some 84, op := Go.Op.unOp Go.UnOp.not 4 (Go.Operand.tmp 83), type := 4, pos := "law.go:172", after := #[{ on := 0, ground := Go.Ground.data }], guard := none }) (v := ?_) rfl (by kernel_rfl) (by kernel_rfl) (by kernel_rfl) (fun _ _ _ h => h) (Or.inl ⟨by rfl, ?_⟩) (by assumption) ?_
            rotate_left
            · intro w hSw
              (try dsimp only at hSw)
              go_simp
              try (with_reducible rfl)
            try simp only [Act.put, List.setIfInBounds_toArray, List.set_cons_zero, List.set_cons_succ]
            refine wpAnyH_take (i := 2) (oi := { dst := some 85, op := Go.Op.move (Go.Operand.tmp 84), type := 4, pos := "law.go:172", after := #[{ on := 1, ground := Go.Ground.data }], guard := none }) (v := ?_) rfl (by kernel_rfl) (by kernel_rfl) (by kernel_rfl) (fun _ _ _ h => h) (Or.inl ⟨by rfl, ?_⟩) (by assumption) ?_
            rotate_left
            · intro w hSw
              (try dsimp only at hSw)
              go_simp
              try (with_reducible rfl)
            try simp only [Act.put, List.setIfInBounds_toArray, List.set_cons_zero, List.set_cons_succ]
            refine wpAnyH_take (i := 3) (oi := { dst := some 86, op := Go.Op.move (Go.Operand.tmp 12), type := 49, pos := "law.go:172", after := #[{ on := 2, ground := Go.Ground.guard }], guard := some (2, false) }) (v := ?_) rfl (by kernel_rfl) (by kernel_rfl) (by kernel_rfl) (fun _ _ _ h => h) (Or.inl ⟨by rfl, ?_⟩) (by assumption) ?_
            rotate_left
            · intro w hSw
              (try dsimp only at hSw)
              go_simp
              try (with_reducible rfl)
            try simp only [Act.put, List.setIfInBounds_toArray, List.set_cons_zero, List.set_cons_succ]
            refine wpAnyH_take (i := 4) (oi := { dst := some 87, op := Go.Op.call { callee := Go.Callee.builtin Go.Builtin.len, args := #[Go.Operand.tmp 86], argTypes := #[49] }, type := 3, pos := "law.go:172", after := #[{ on := 3, ground := Go.Ground.data }, { on := 2, ground := Go.Ground.guard }], guard := some (2, false) }) (v := ?_) rfl (by kernel_rfl) (by kernel_rfl) (by kernel_rfl) (fun _ _ _ h => h) (Or.inl ⟨by rfl, ?_⟩) (by assumption) ?_
            rotate_left
            · intro w hSw
              (try dsimp only at hSw)
              go_simp
              try (with_reducible rfl)
            try simp only [Act.put, List.setIfInBounds_toArray, List.set_cons_zero, List.set_cons_succ]
            refine wpAnyH_take (i := 5) (oi := { dst := some 88, op := Go.Op.binOp Go.BinOp.neq 3 (Go.Operand.tmp 87) (Go.Operand.const (Go.Value.int Go.IntKind.i64 2)) 3, type := 4, pos := "law.go:172", after := #[{ on := 4, ground := Go.Ground.data }, { on := 2, ground := Go.Ground.guard }], guard := some (2, false) }) (v := ?_) rfl (by kernel_rfl) (by kernel_rfl) (by kernel_rfl) (fun _ _ _ h => h) (Or.inl ⟨by rfl, ?_⟩) (by assumption) ?_
            rotate_left
            · intro w hSw
              (try dsimp only at hSw)
              go_simp
              try (with_reducible rfl)
            try simp only [Act.put, List.setIfInBounds_toArray, List.set_cons_zero, List.set_cons_succ]
            refine wpAnyH_take (i := 6) (oi := { dst := some 89, op := Go.Op.pick (Go.Operand.tmp 85) (Go.Operand.const (Go.Value.bool true)) (Go.Operand.tmp 88), type := 4, pos := "law.go:172", after := #[{ on := 2, ground := Go.Ground.data }, { on := 5, ground := Go.Ground.data }], guard := none }) (v := ?_) rfl (by kernel_rfl) (by kernel_rfl) (by kernel_rfl) (fun _ _ _ h => h) (Or.inl ⟨by rfl, ?_⟩) (by assumption) ?_
            rotate_left
            · intro w hSw
              (try dsimp only at hSw)
              go_simp
              try (with_reducible rfl)
            try simp only [Act.put, List.setIfInBounds_toArray, List.set_cons_zero, List.set_cons_succ]
            refine wpAnyH_take (i := 7) (oi := { dst := some 90, op := Go.Op.move (Go.Operand.tmp 89), type := 4, pos := "law.go:172", after := #[{ on := 6, ground := Go.Ground.data }, { on := 2, ground := Go.Ground.chain }], guard := none }) (v := ?_) rfl (by kernel_rfl) (by kernel_rfl) (by kernel_rfl) (fun _ _ _ h => h) (Or.inl ⟨by rfl, ?_⟩) (by assumption) ?_
            rotate_left
            · intro w hSw
              (try dsimp only at hSw)
              go_simp
              try (with_reducible rfl)
            try simp only [Act.put, List.setIfInBounds_toArray, List.set_cons_zero, List.set_cons_succ]
            refine wpAnyH_take (i := 8) (oi := { dst := some 91, op := Go.Op.move (Go.Operand.tmp 12), type := 49, pos := "law.go:172", after := #[{ on := 7, ground := Go.Ground.guard }], guard := some (7, false) }) (v := ?_) rfl (by kernel_rfl) (by kernel_rfl) (by kernel_rfl) (fun _ _ _ h => h) (Or.inl ⟨by rfl, ?_⟩) (by assumption) ?_
            rotate_left
            · intro w hSw
              (try dsimp only at hSw)
              go_simp
              try (with_reducible rfl)
            try simp only [Act.put, List.setIfInBounds_toArray, List.set_cons_zero, List.set_cons_succ]
            refine wpAnyH_take (i := 9) (oi := { dst := some 92, op := Go.Op.indexAddr 49 (Go.Operand.tmp 91) (Go.Operand.const (Go.Value.int Go.IntKind.i64 0)), type := 0, pos := "law.go:172", after := #[{ on := 8, ground := Go.Ground.data }, { on := 7, ground := Go.Ground.guard }], guard := some (7, false) }) (v := ?_) rfl (by kernel_rfl) (by kernel_rfl) (by kernel_rfl) (fun _ _ _ h => h) (Or.inl ⟨by rfl, ?_⟩) (by assumption) ?_
            rotate_left
            · intro w hSw
              (try dsimp only at hSw)
              go_simp
              try (with_reducible rfl)
            try simp only [Act.put, List.setIfInBounds_toArray, List.set_cons_zero, List.set_cons_succ]
            refine wpAnyH_take (i := 10) (oi := { dst := some 93, op := Go.Op.load 3 (Go.Operand.tmp 92), type := 3, pos := "law.go:172", after := #[{ on := 9, ground := Go.Ground.data }, { on := 7, ground := Go.Ground.guard }], guard := some (7, false) }) (v := ?_) rfl (by kernel_rfl) (by kernel_rfl) (by kernel_rfl) (fun _ _ _ h => h) (Or.inl ⟨by rfl, ?_⟩) (by assumption) ?_
            rotate_left
            · intro w hSw
              (try dsimp only at hSw)
              go_simp
              try (with_reducible rfl)
            try simp only [Act.put, List.setIfInBounds_toArray, List.set_cons_zero, List.set_cons_succ]
            refine wpAnyH_take (i := 11) (oi := { dst := some 94, op := Go.Op.move (Go.Operand.tmp 11), type := 3, pos := "law.go:172", after := #[{ on := 7, ground := Go.Ground.guard }], guard := some (7, false) }) (v := ?_) rfl (by kernel_rfl) (by kernel_rfl) (by kernel_rfl) (fun _ _ _ h => h) (Or.inl ⟨by rfl, ?_⟩) (by assumption) ?_
            rotate_left
            · intro w hSw
              (try dsimp only at hSw)
              go_simp
              try (with_reducible rfl)
            try simp only [Act.put, List.setIfInBounds_toArray, List.set_cons_zero, List.set_cons_succ]
            refine wpAnyH_take (i := 12) (oi := { dst := some 95, op := Go.Op.unOp Go.UnOp.neg 3 (Go.Operand.tmp 94), type := 3, pos := "law.go:172", after := #[{ on := 11, ground := Go.Ground.data }, { on := 7, ground := Go.Ground.guard }], guard := some (7, false) }) (v := ?_) rfl (by kernel_rfl) (by kernel_rfl) (by kernel_rfl) (fun _ _ _ h => h) (Or.inl ⟨by rfl, ?_⟩) (by assumption) ?_
            rotate_left
            · intro w hSw
              (try dsimp only at hSw)
              go_simp
              try (with_reducible rfl)
            try simp only [Act.put, List.setIfInBounds_toArray, List.set_cons_zero, List.set_cons_succ]
            refine wpAnyH_take (i := 13) (oi := { dst := some 96, op := Go.Op.binOp Go.BinOp.neq 3 (Go.Operand.tmp 93) (Go.Operand.tmp 95) 3, type := 4, pos := "law.go:172", after := #[{ on := 10, ground := Go.Ground.data }, { on := 12, ground := Go.Ground.data }, { on := 7, ground := Go.Ground.guard }], guard := some (7, false) }) (v := ?_) rfl (by kernel_rfl) (by kernel_rfl) (by kernel_rfl) (fun _ _ _ h => h) (Or.inl ⟨by rfl, ?_⟩) (by assumption) ?_
            rotate_left
            · intro w hSw
              (try dsimp only at hSw)
              go_simp
              try (with_reducible rfl)
            try simp only [Act.put, List.setIfInBounds_toArray, List.set_cons_zero, List.set_cons_succ]
            refine wpAnyH_take (i := 14) (oi := { dst := some 97, op := Go.Op.pick (Go.Operand.tmp 90) (Go.Operand.const (Go.Value.bool true)) (Go.Operand.tmp 96), type := 4, pos := "law.go:172", after := #[{ on := 7, ground := Go.Ground.data }, { on := 13, ground := Go.Ground.data }], guard := none }) (v := ?_) rfl (by kernel_rfl) (by kernel_rfl) (by kernel_rfl) (fun _ _ _ h => h) (Or.inl ⟨by rfl, ?_⟩) (by assumption) ?_
            rotate_left
            · intro w hSw
              (try dsimp only at hSw)
              go_simp
              try (with_reducible rfl)
            try simp only [Act.put, List.setIfInBounds_toArray, List.set_cons_zero, List.set_cons_succ]
            refine wpAnyH_take (i := 15) (oi := { dst := some 98, op := Go.Op.move (Go.Operand.tmp 97), type := 4, pos := "law.go:172", after := #[{ on := 14, ground := Go.Ground.data }, { on := 7, ground := Go.Ground.chain }], guard := none }) (v := ?_) rfl (by kernel_rfl) (by kernel_rfl) (by kernel_rfl) (fun _ _ _ h => h) (Or.inl ⟨by rfl, ?_⟩) (by assumption) ?_
            rotate_left
            · intro w hSw
              (try dsimp only at hSw)
              go_simp
              try (with_reducible rfl)
            try simp only [Act.put, List.setIfInBounds_toArray, List.set_cons_zero, List.set_cons_succ]
            refine wpAnyH_take (i := 16) (oi := { dst := some 99, op := Go.Op.move (Go.Operand.tmp 12), type := 49, pos := "law.go:172", after := #[{ on := 15, ground := Go.Ground.guard }], guard := some (15, false) }) (v := ?_) rfl (by kernel_rfl) (by kernel_rfl) (by kernel_rfl) (fun _ _ _ h => h) (Or.inl ⟨by rfl, ?_⟩) (by assumption) ?_
            rotate_left
            · intro w hSw
              (try dsimp only at hSw)
              go_simp
              try (with_reducible rfl)
            try simp only [Act.put, List.setIfInBounds_toArray, List.set_cons_zero, List.set_cons_succ]
            refine wpAnyH_take (i := 17) (oi := { dst := some 100, op := Go.Op.indexAddr 49 (Go.Operand.tmp 99) (Go.Operand.const (Go.Value.int Go.IntKind.i64 1)), type := 0, pos := "law.go:172", after := #[{ on := 16, ground := Go.Ground.data }, { on := 15, ground := Go.Ground.guard }], guard := some (15, false) }) (v := ?_) rfl (by kernel_rfl) (by kernel_rfl) (by kernel_rfl) (fun _ _ _ h => h) (Or.inl ⟨by rfl, ?_⟩) (by assumption) ?_
            rotate_left
            · intro w hSw
              (try dsimp only at hSw)
              go_simp
              try (with_reducible rfl)
            try simp only [Act.put, List.setIfInBounds_toArray, List.set_cons_zero, List.set_cons_succ]
            refine wpAnyH_take (i := 18) (oi := { dst := some 101, op := Go.Op.load 3 (Go.Operand.tmp 100), type := 3, pos := "law.go:172", after := #[{ on := 17, ground := Go.Ground.data }, { on := 15, ground := Go.Ground.guard }], guard := some (15, false) }) (v := ?_) rfl (by kernel_rfl) (by kernel_rfl) (by kernel_rfl) (fun _ _ _ h => h) (Or.inl ⟨by rfl, ?_⟩) (by assumption) ?_
            rotate_left
            · intro w hSw
              (try dsimp only at hSw)
              go_simp
              try (with_reducible rfl)
            try simp only [Act.put, List.setIfInBounds_toArray, List.set_cons_zero, List.set_cons_succ]
            refine wpAnyH_take (i := 19) (oi := { dst := some 102, op := Go.Op.move (Go.Operand.tmp 0), type := 22, pos := "law.go:172", after := #[{ on := 15, ground := Go.Ground.guard }], guard := some (15, false) }) (v := ?_) rfl (by kernel_rfl) (by kernel_rfl) (by kernel_rfl) (fun _ _ _ h => h) (Or.inl ⟨by rfl, ?_⟩) (by assumption) ?_
            rotate_left
            · intro w hSw
              (try dsimp only at hSw)
              go_simp
              try (with_reducible rfl)
            try simp only [Act.put, List.setIfInBounds_toArray, List.set_cons_zero, List.set_cons_succ]
            refine wpAnyH_take (i := 20) (oi := { dst := some 103, op := Go.Op.move (Go.Operand.tmp 11), type := 3, pos := "law.go:172", after := #[{ on := 15, ground := Go.Ground.guard }], guard := some (15, false) }) (v := ?_) rfl (by kernel_rfl) (by kernel_rfl) (by kernel_rfl) (fun _ _ _ h => h) (Or.inl ⟨by rfl, ?_⟩) (by assumption) ?_
            rotate_left
            · intro w hSw
              (try dsimp only at hSw)
              go_simp
              try (with_reducible rfl)
            try simp only [Act.put, List.setIfInBounds_toArray, List.set_cons_zero, List.set_cons_succ]
            refine wpAnyH_take (i := 21) (oi := { dst := some 104, op := Go.Op.indexAddr 22 (Go.Operand.tmp 102) (Go.Operand.tmp 103), type := 0, pos := "law.go:172", after := #[{ on := 19, ground := Go.Ground.data }, { on := 20, ground := Go.Ground.data }, { on := 15, ground := Go.Ground.guard }], guard := some (15, false) }) (v := ?_) rfl (by kernel_rfl) (by kernel_rfl) (by kernel_rfl) (fun _ _ _ h => h) (Or.inl ⟨by rfl, ?_⟩) (by assumption) ?_
            rotate_left
            · intro w hSw
              (try dsimp only at hSw)
              go_simp
              try (with_reducible rfl)
            try simp only [Act.put, List.setIfInBounds_toArray, List.set_cons_zero, List.set_cons_succ]
            refine wpAnyH_take (i := 22) (oi := { dst := some 105, op := Go.Op.fieldAddr 29 (Go.Operand.tmp 104) 1, type := 0, pos := "law.go:172", after := #[{ on := 21, ground := Go.Ground.data }, { on := 15, ground := Go.Ground.guard }], guard := some (15, false) }) (v := ?_) rfl (by kernel_rfl) (by kernel_rfl) (by kernel_rfl) (fun _ _ _ h => h) (Or.inl ⟨by rfl, ?_⟩) (by assumption) ?_
            rotate_left
            · intro w hSw
              (try dsimp only at hSw)
              go_simp
              try (with_reducible rfl)
            try simp only [Act.put, List.setIfInBounds_toArray, List.set_cons_zero, List.set_cons_succ]
            refine wpAnyH_take (i := 23) (oi := { dst := some 106, op := Go.Op.load 3 (Go.Operand.tmp 105), type := 3, pos := "law.go:172", after := #[{ on := 22, ground := Go.Ground.data }, { on := 15, ground := Go.Ground.guard }], guard := some (15, false) }) (v := ?_) rfl (by kernel_rfl) (by kernel_rfl) (by kernel_rfl) (fun _ _ _ h => h) (Or.inl ⟨by rfl, ?_⟩) (by assumption) ?_
            rotate_left
            · intro w hSw
              (try dsimp only at hSw)
              go_simp
              try (with_reducible rfl)
            try simp only [Act.put, List.setIfInBounds_toArray, List.set_cons_zero, List.set_cons_succ]
            refine wpAnyH_take (i := 24) (oi := { dst := some 107, op := Go.Op.binOp Go.BinOp.neq 3 (Go.Operand.tmp 101) (Go.Operand.tmp 106) 3, type := 4, pos := "law.go:172", after := #[{ on := 18, ground := Go.Ground.data }, { on := 23, ground := Go.Ground.data }, { on := 15, ground := Go.Ground.guard }], guard := some (15, false) }) (v := ?_) rfl (by kernel_rfl) (by kernel_rfl) (by kernel_rfl) (fun _ _ _ h => h) (Or.inl ⟨by rfl, ?_⟩) (by assumption) ?_
            rotate_left
            · intro w hSw
              (try dsimp only at hSw)
              go_simp
              try (with_reducible rfl)
            try simp only [Act.put, List.setIfInBounds_toArray, List.set_cons_zero, List.set_cons_succ]
            refine wpAnyH_take (i := 25) (oi := { dst := some 108, op := Go.Op.pick (Go.Operand.tmp 98) (Go.Operand.const (Go.Value.bool true)) (Go.Operand.tmp 107), type := 4, pos := "law.go:172", after := #[{ on := 15, ground := Go.Ground.data }, { on := 24, ground := Go.Ground.data }], guard := none }) (v := ?_) rfl (by kernel_rfl) (by kernel_rfl) (by kernel_rfl) (fun _ _ _ h => h) (Or.inl ⟨by rfl, ?_⟩) (by assumption) ?_
            rotate_left
            · intro w hSw
              (try dsimp only at hSw)
              go_simp
              try (with_reducible rfl)
            try simp only [Act.put, List.setIfInBounds_toArray, List.set_cons_zero, List.set_cons_succ]
            refine wpAnyH_done (by kernel_rfl) ?_ _
            go_wp2
            go_roundw
            case rel => exact ⟨m + 1, by go_num, hmj, HR4, Lib.hid (HL4.out.tch ((Tch.refl w4 []).drew) (by simp)), Lib.hid HT4.out.drew⟩
            case measure => simp [intOf]; omega
          · obtain rfl : m = j := by omega
            have m1 : ¬ (m : Int) < (m : Int) := by omega
            have HL := Lib.hid (ret_as (v' := .int .i64 0) (lenL_any ra ba 16 (lsts G) m (by rw [lsts_len, hG.out]; omega) wr hRm.out) (by rw [lsts_len, hG.out]; simp))
            have q6 : ((0 : Int) == 0) = true := by simp
            clear hmj
            go_wp2_with fail
            refine Calls.mono HL.out ?_
            rintro e w6 ⟨rfl, rfl⟩
            go_wp2
            go_ret
            exact ⟨rfl, HF.out.below hTm.out⟩
      · have hjI : (j : Int) < l0 := by omega
        have hjI2 : ¬ (j : Int) < 16 := by omega
        clear hlt
        go_wp2
        go_loopw [11] (fun iv wr => ∃ m : Nat, iv = .int .i64 (m : Int) ∧ m ≤ j ∧ Hid (RgL wr ra ba 16 (lsts G) m) ∧ Hid (Ls x3.heap.size z0 wr G) ∧ Hid (Tch x3 wr [ra, ba, rb, bb])) (fun iv _ => j - (intOf iv).toNat)
        case atStart => exact ⟨0, rfl, Nat.zero_le _, hRa, hL, hT⟩
        case round =>
          obtain ⟨m, rfl, hm, hRm, hLm, hTm⟩ := hrel
          have m2 : IntKind.i64.wrap ((m : Int) + 1) = (m : Int) + 1 := by rw [IntKind.wrap_i64]; omega
          by_cases hmj : m < j
          · have m1 : (m : Int) < (j : Int) := by omega
            have m0 : (0 : Int) ≤ (m : Int) := by omega
            have ml : (m : Int) < (l0 : Int) := by omega
            obtain ⟨g, hg⟩ : ∃ g, G[m]? = some g := ⟨_, List.getElem?_eq_getElem (by have := hG.out; omega)⟩
            have HP := Lib.hid (popL_ok ra ba 16 (lsts G) m (some ⟨g, 0, none⟩) 2 2 (lsts_at hg) (by rw [lsts_len, hG.out]; omega) wr hRm.out)
            have HGm := Lib.hid hg
            have q0 : ((2 : Int) != 2) = false := by decide
            have q1 : (-(m : Int) != -(m : Int)) = false := by simp
            have m3 : wrap64 (-(m : Int)) = -(m : Int) := by unfold wrap64; omega
            have m4 : IntKind.i64.wrap (-(m : Int)) = -(m : Int) := by rw [IntKind.wrap_i64]; omega
            clear hg
            go_wp2_with fail
            refine Calls.mono HP.out ?_
            rintro e w4 ⟨rfl, hR4, hT4⟩
            have HR4 := Lib.hid hR4
            have HL4 := Lib.hid (hLm.out.tch hT4 (by simp; have := HF.out; exact ⟨this.ra3, this.ba3⟩))
            have HT4 := Lib.hid (hTm.out.trans (hT4.mono (by simp)))
            obtain ⟨sg, so, x1, x2, x3', rfl, hsg, hzm, -, d1, -, -, -⟩ := HZ0.out.cells (HF.out.below HT4.out) (show m < l0 by omega)
            obtain ⟨-, -, l0c, l1c⟩ := HL4.out m g _ HGm.out hzm
            simp only at l1c
            have q2 : (x2 != x2) = false := by simp
            have HC := Lib.hid (And.intro l0c (And.intro l1c d1))
            clear hR4 hT4 HP hzm
            go_wp2
            refine wp_region_held_drew (S := (fun W => W.cell? ⟨g, 0, none⟩ = some (.int .i64 (-(m : Int))) ∧ W.cell? ⟨g, 1, none⟩ = some (.int .i64 x2) ∧ W.cell? ⟨sg, so + m * 3 + 1, none⟩ = some (.int .i64 x2))) (by kernel_rfl) ?_ (fun hHeld => ?_)
            · (exact HC.out)
            refine wpAnyH_take (i := 0) (oi := { dst := some 83, op := Go.Op.move (Go.Operand.tmp 13), type := 4, pos := "law.go:172", after := #[], guard := none }) (v := ?_) rfl (by kernel_rfl) (by kernel_rfl) (by kernel_rfl) (fun _ _ _ h => h) (Or.inl ⟨by rfl, ?_⟩) (by assumption) ?_
            rotate_left
            · intro w hSw
              (try dsimp only at hSw)
              go_simp
              try (with_reducible rfl)
            try simp only [Act.put, List.setIfInBounds_toArray, List.set_cons_zero, List.set_cons_succ]
            refine wpAnyH_take (i := 1) (oi := { dst := some 84, op := Go.Op.unOp Go.UnOp.not 4 (Go.Operand.tmp 83), type := 4, pos := "law.go:172", after := #[{ on := 0, ground := Go.Ground.data }], guard := none }) (v := ?_) rfl (by kernel_rfl) (by kernel_rfl) (by kernel_rfl) (fun _ _ _ h => h) (Or.inl ⟨by rfl, ?_⟩) (by assumption) ?_
            rotate_left
            · intro w hSw
              (try dsimp only at hSw)
              go_simp
              try (with_reducible rfl)
            try simp only [Act.put, List.setIfInBounds_toArray, List.set_cons_zero, List.set_cons_succ]
            refine wpAnyH_take (i := 2) (oi := { dst := some 85, op := Go.Op.move (Go.Operand.tmp 84), type := 4, pos := "law.go:172", after := #[{ on := 1, ground := Go.Ground.data }], guard := none }) (v := ?_) rfl (by kernel_rfl) (by kernel_rfl) (by kernel_rfl) (fun _ _ _ h => h) (Or.inl ⟨by rfl, ?_⟩) (by assumption) ?_
            rotate_left
            · intro w hSw
              (try dsimp only at hSw)
              go_simp
              try (with_reducible rfl)
            try simp only [Act.put, List.setIfInBounds_toArray, List.set_cons_zero, List.set_cons_succ]
            refine wpAnyH_take (i := 3) (oi := { dst := some 86, op := Go.Op.move (Go.Operand.tmp 12), type := 49, pos := "law.go:172", after := #[{ on := 2, ground := Go.Ground.guard }], guard := some (2, false) }) (v := ?_) rfl (by kernel_rfl) (by kernel_rfl) (by kernel_rfl) (fun _ _ _ h => h) (Or.inl ⟨by rfl, ?_⟩) (by assumption) ?_
            rotate_left
            · intro w hSw
              (try dsimp only at hSw)
              go_simp
              try (with_reducible rfl)
            try simp only [Act.put, List.setIfInBounds_toArray, List.set_cons_zero, List.set_cons_succ]
            refine wpAnyH_take (i := 4) (oi := { dst := some 87, op := Go.Op.call { callee := Go.Callee.builtin Go.Builtin.len, args := #[Go.Operand.tmp 86], argTypes := #[49] }, type := 3, pos := "law.go:172", after := #[{ on := 3, ground := Go.Ground.data }, { on := 2, ground := Go.Ground.guard }], guard := some (2, false) }) (v := ?_) rfl (by kernel_rfl) (by kernel_rfl) (by kernel_rfl) (fun _ _ _ h => h) (Or.inl ⟨by rfl, ?_⟩) (by assumption) ?_
            rotate_left
            · intro w hSw
              (try dsimp only at hSw)
              go_simp
              try (with_reducible rfl)
            try simp only [Act.put, List.setIfInBounds_toArray, List.set_cons_zero, List.set_cons_succ]
            refine wpAnyH_take (i := 5) (oi := { dst := some 88, op := Go.Op.binOp Go.BinOp.neq 3 (Go.Operand.tmp 87) (Go.Operand.const (Go.Value.int Go.IntKind.i64 2)) 3, type := 4, pos := "law.go:172", after := #[{ on := 4, ground := Go.Ground.data }, { on := 2, ground := Go.Ground.guard }], guard := some (2, false) }) (v := ?_) rfl (by kernel_rfl) (by kernel_rfl) (by kernel_rfl) (fun _ _ _ h => h) (Or.inl ⟨by rfl, ?_⟩) (by assumption) ?_
            rotate_left
            · intro w hSw
              (try dsimp only at hSw)
              go_simp
              try (with_reducible rfl)
            try simp only [Act.put, List.setIfInBounds_toArray, List.set_cons_zero, List.set_cons_succ]
            refine wpAnyH_take (i := 6) (oi := { dst := some 89, op := Go.Op.pick (Go.Operand.tmp 85) (Go.Operand.const (Go.Value.bool true)) (Go.Operand.tmp 88), type := 4, pos := "law.go:172", after := #[{ on := 2, ground := Go.Ground.data }, { on := 5, ground := Go.Ground.data }], guard := none }) (v := ?_) rfl (by kernel_rfl) (by kernel_rfl) (by kernel_rfl) (fun _ _ _ h => h) (Or.inl ⟨by rfl, ?_⟩) (by assumption) ?_
            rotate_left
            · intro w hSw
              (try dsimp only at hSw)
              go_simp
              try (with_reducible rfl)
            try simp only [Act.put, List.setIfInBounds_toArray, List.set_cons_zero, List.set_cons_succ]
            refine wpAnyH_take (i := 7) (oi := { dst := some 90, op := Go.Op.move (Go.Operand.tmp 89), type := 4, pos := "law.go:172", after := #[{ on := 6, ground := Go.Ground.data }, { on := 2, ground := Go.Ground.chain }], guard := none }) (v := ?_) rfl (by kernel_rfl) (by kernel_rfl) (by kernel_rfl) (fun _ _ _ h => h) (Or.inl ⟨by rfl, ?_⟩) (by assumption) ?_
            rotate_left
            · intro w hSw
              (try dsimp only at hSw)
              go_simp
              try (with_reducible rfl)
            try simp only [Act.put, List.setIfInBounds_toArray, List.set_cons_zero, List.set_cons_succ]
            refine wpAnyH_take (i := 8) (oi := { dst := some 91, op := Go.Op.move (Go.Operand.tmp 12), type := 49, pos := "law.go:172", after := #[{ on := 7, ground := Go.Ground.guard }], guard := some (7, false) }) (v := ?_) rfl (by kernel_rfl) (by kernel_rfl) (by kernel_rfl) (fun _ _ _ h => h) (Or.inl ⟨by rfl, ?_⟩) (by assumption) ?_
            rotate_left
            · intro w hSw
              (try dsimp only at hSw)
              go_simp
              try (with_reducible rfl)
            try simp only [Act.put, List.setIfInBounds_toArray, List.set_cons_zero, List.set_cons_succ]
            refine wpAnyH_take (i := 9) (oi := { dst := some 92, op := Go.Op.indexAddr 49 (Go.Operand.tmp 91) (Go.Operand.const (Go.Value.int Go.IntKind.i64 0)), type := 0, pos := "law.go:172", after := #[{ on := 8, ground := Go.Ground.data }, { on := 7, ground := Go.Ground.guard }], guard := some (7, false) }) (v := ?_) rfl (by kernel_rfl) (by kernel_rfl) (by kernel_rfl) (fun _ _ _ h => h) (Or.inl ⟨by rfl, ?_⟩) (by assumption) ?_
            rotate_left
            · intro w hSw
              (try dsimp only at hSw)
              go_simp
              try (with_reducible rfl)
            try simp only [Act.put, List.setIfInBounds_toArray, List.set_cons_zero, List.set_cons_succ]
            refine wpAnyH_take (i := 10) (oi := { dst := some 93, op := Go.Op.load 3 (Go.Operand.tmp 92), type := 3, pos := "law.go:172", after := #[{ on := 9, ground := Go.Ground.data }, { on := 7, ground := Go.Ground.guard }], guard := some (7, false) }) (v := ?_) rfl (by kernel_rfl) (by kernel_rfl) (by kernel_rfl) (fun _ _ _ h => h) (Or.inl ⟨by rfl, ?_⟩) (by assumption) ?_
            rotate_left
            · intro w hSw
              (try dsimp only at hSw)
              go_simp
              try (with_reducible rfl)
            try simp only [Act.put, List.setIfInBounds_toArray, List.set_cons_zero, List.set_cons_succ]
            refine wpAnyH_take (i := 11) (oi := { dst := some 94, op := Go.Op.move (Go.Operand.tmp 11), type := 3, pos := "law.go:172", after := #[{ on := 7, ground := Go.Ground.guard }], guard := some (7, false) }) (v := ?_) rfl (by kernel_rfl) (by kernel_rfl) (by kernel_rfl) (fun _ _ _ h => h) (Or.inl ⟨by rfl, ?_⟩) (by assumption) ?_
            rotate_left
            · intro w hSw
              (try dsimp only at hSw)
              go_simp
              try (with_reducible rfl)
            try simp only [Act.put, List.setIfInBounds_toArray, List.set_cons_zero, List.set_cons_succ]
            refine wpAnyH_take (i := 12) (oi := { dst := some 95, op := Go.Op.unOp Go.UnOp.neg 3 (Go.Operand.tmp 94), type := 3, pos := "law.go:172", after := #[{ on := 11, ground := Go.Ground.data }, { on := 7, ground := Go.Ground.guard }], guard := some (7, false) }) (v := ?_) rfl (by kernel_rfl) (by kernel_rfl) (by kernel_rfl) (fun _ _ _ h => h) (Or.inl ⟨by rfl, ?_⟩) (by assumption) ?_
            rotate_left
            · intro w hSw
              (try dsimp only at hSw)
              go_simp
              try (with_reducible rfl)
            try simp only [Act.put, List.setIfInBounds_toArray, List.set_cons_zero, List.set_cons_succ]
            refine wpAnyH_take (i := 13) (oi := { dst := some 96, op := Go.Op.binOp Go.BinOp.neq 3 (Go.Operand.tmp 93) (Go.Operand.tmp 95) 3, type := 4, pos := "law.go:172", after := #[{ on := 10, ground := Go.Ground.data }, { on := 12, ground := Go.Ground.data }, { on := 7, ground := Go.Ground.guard }], guard := some (7, false) }) (v := ?_) rfl (by kernel_rfl) (by kernel_rfl) (by kernel_rfl) (fun _ _ _ h => h) (Or.inl ⟨by rfl, ?_⟩) (by assumption) ?_
            rotate_left
            · intro w hSw
              (try dsimp only at hSw)
              go_simp
              try (with_reducible rfl)
            try simp only [Act.put, List.setIfInBounds_toArray, List.set_cons_zero, List.set_cons_succ]
            refine wpAnyH_take (i := 14) (oi := { dst := some 97, op := Go.Op.pick (Go.Operand.tmp 90) (Go.Operand.const (Go.Value.bool true)) (Go.Operand.tmp 96), type := 4, pos := "law.go:172", after := #[{ on := 7, ground := Go.Ground.data }, { on := 13, ground := Go.Ground.data }], guard := none }) (v := ?_) rfl (by kernel_rfl) (by kernel_rfl) (by kernel_rfl) (fun _ _ _ h => h) (Or.inl ⟨by rfl, ?_⟩) (by assumption) ?_
            rotate_left
            · intro w hSw
              (try dsimp only at hSw)
              go_simp
              try (with_reducible rfl)
            try simp only [Act.put, List.setIfInBounds_toArray, List.set_cons_zero, List.set_cons_succ]
            refine wpAnyH_take (i := 15) (oi := { dst := some 98, op := Go.Op.move (Go.Operand.tmp 97), type := 4, pos := "law.go:172", after := #[{ on := 14, ground := Go.Ground.data }, { on := 7, ground := Go.Ground.chain }], guard := none }) (v := ?_) rfl (by kernel_rfl) (by kernel_rfl) (by kernel_rfl) (fun _ _ _ h => h) (Or.inl ⟨by rfl, ?_⟩) (by assumption) ?_
            rotate_left
            · intro w hSw
              (try dsimp only at hSw)
              go_simp
              try (with_reducible rfl)
            try simp only [Act.put, List.setIfInBounds_toArray, List.set_cons_zero, List.set_cons_succ]
            refine wpAnyH_take (i := 16) (oi := { dst := some 99, op := Go.Op.move (Go.Operand.tmp 12), type := 49, pos := "law.go:172", after := #[{ on := 15, ground := Go.Ground.guard }], guard := some (15, false) }) (v := ?_) rfl (by kernel_rfl) (by kernel_rfl) (by kernel_rfl) (fun _ _ _ h => h) (Or.inl ⟨by rfl, ?_⟩) (by assumption) ?_
            rotate_left
            · intro w hSw
              (try dsimp only at hSw)
              go_simp
              try (with_reducible rfl)
            try simp only [Act.put, List.setIfInBounds_toArray, List.set_cons_zero, List.set_cons_succ]
            refine wpAnyH_take (i := 17) (oi := { dst := some 100, op := Go.Op.indexAddr 49 (Go.Operand.tmp 99) (Go.Operand.const (Go.Value.int Go.IntKind.i64 1)), type := 0, pos := "law.go:172", after := #[{ on := 16, ground := Go.Ground.data }, { on := 15, ground := Go.Ground.guard }], guard := some (15, false) }) (v := ?_) rfl (by kernel_rfl) (by kernel_rfl) (by kernel_rfl) (fun _ _ _ h => h) (Or.inl ⟨by rfl, ?_⟩) (by assumption) ?_
            rotate_left
            · intro w hSw
              (try dsimp only at hSw)
              go_simp
              try (with_reducible rfl)
            try simp only [Act.put, List.setIfInBounds_toArray, List.set_cons_zero, List.set_cons_succ]
            refine wpAnyH_take (i := 18) (oi := { dst := some 101, op := Go.Op.load 3 (Go.Operand.tmp 100), type := 3, pos := "law.go:172", after := #[{ on := 17, ground := Go.Ground.data }, { on := 15, ground := Go.Ground.guard }], guard := some (15, false) }) (v := ?_) rfl (by kernel_rfl) (by kernel_rfl) (by kernel_rfl) (fun _ _ _ h => h) (Or.inl ⟨by rfl, ?_⟩) (by assumption) ?_
            rotate_left
            · intro w hSw
              (try dsimp only at hSw)
              go_simp
              try (with_reducible rfl)
            try simp only [Act.put, List.setIfInBounds_toArray, List.set_cons_zero, List.set_cons_succ]
            refine wpAnyH_take (i := 19) (oi := { dst := some 102, op := Go.Op.move (Go.Operand.tmp 0), type := 22, pos := "law.go:172", after := #[{ on := 15, ground := Go.Ground.guard }], guard := some (15, false) }) (v := ?_) rfl (by kernel_rfl) (by kernel_rfl) (by kernel_rfl) (fun _ _ _ h => h) (Or.inl ⟨by rfl, ?_⟩) (by assumption) ?_
            rotate_left
            · intro w hSw
              (try dsimp only at hSw)
              go_simp
              try (with_reducible rfl)
            try simp only [Act.put, List.setIfInBounds_toArray, List.set_cons_zero, List.set_cons_succ]
            refine wpAnyH_take (i := 20) (oi := { dst := some 103, op := Go.Op.move (Go.Operand.tmp 11), type := 3, pos := "law.go:172", after := #[{ on := 15, ground := Go.Ground.guard }], guard := some (15, false) }) (v := ?_) rfl (by kernel_rfl) (by kernel_rfl) (by kernel_rfl) (fun _ _ _ h => h) (Or.inl ⟨by rfl, ?_⟩) (by assumption) ?_
            rotate_left
            · intro w hSw
              (try dsimp only at hSw)
              go_simp
              try (with_reducible rfl)
            try simp only [Act.put, List.setIfInBounds_toArray, List.set_cons_zero, List.set_cons_succ]
            refine wpAnyH_take (i := 21) (oi := { dst := some 104, op := Go.Op.indexAddr 22 (Go.Operand.tmp 102) (Go.Operand.tmp 103), type := 0, pos := "law.go:172", after := #[{ on := 19, ground := Go.Ground.data }, { on := 20, ground := Go.Ground.data }, { on := 15, ground := Go.Ground.guard }], guard := some (15, false) }) (v := ?_) rfl (by kernel_rfl) (by kernel_rfl) (by kernel_rfl) (fun _ _ _ h => h) (Or.inl ⟨by rfl, ?_⟩) (by assumption) ?_
            rotate_left
            · intro w hSw
              (try dsimp only at hSw)
              go_simp
              try (with_reducible rfl)
            try simp only [Act.put, List.setIfInBounds_toArray, List.set_cons_zero, List.set_cons_succ]
            refine wpAnyH_take (i := 22) (oi := { dst := some 105, op := Go.Op.fieldAddr 29 (Go.Operand.tmp 104) 1, type := 0, pos := "law.go:172", after := #[{ on := 21, ground := Go.Ground.data }, { on := 15, ground := Go.Ground.guard }], guard := some (15, false) }) (v := ?_) rfl (by kernel_rfl) (by kernel_rfl) (by kernel_rfl) (fun _ _ _ h => h) (Or.inl ⟨by rfl, ?_⟩) (by assumption) ?_
            rotate_left
            · intro w hSw
              (try dsimp only at hSw)
              go_simp
              try (with_reducible rfl)
            try simp only [Act.put, List.setIfInBounds_toArray, List.set_cons_zero, List.set_cons_succ]
            refine wpAnyH_take (i := 23) (oi := { dst := some 106, op := Go.Op.load 3 (Go.Operand.tmp 105), type := 3, pos := "law.go:172", after := #[{ on := 22, ground := Go.Ground.data }, { on := 15, ground := Go.Ground.guard }], guard := some (15, false) }) (v := ?_) rfl (by kernel_rfl) (by kernel_rfl) (by kernel_rfl) (fun _ _ _ h => h) (Or.inl ⟨by rfl, ?_⟩) (by assumption) ?_
            rotate_left
            · intro w hSw
              (try dsimp only at hSw)
              go_simp
              try (with_reducible rfl)
            try simp only [Act.put, List.setIfInBounds_toArray, List.set_cons_zero, List.set_cons_succ]
            refine wpAnyH_take (i := 24) (oi := { dst := some 107, op := Go.Op.binOp Go.BinOp.neq 3 (Go.Operand.tmp 101) (Go.Operand.tmp 106) 3, type := 4, pos := "law.go:172", after := #[{ on := 18, ground := Go.Ground.data }, { on := 23, ground := Go.Ground.data }, { on := 15, ground := Go.Ground.guard }], guard := some (15, false) }) (v := ?_) rfl (by kernel_rfl) (by kernel_rfl) (by kernel_rfl) (fun _ _ _ h => h) (Or.inl ⟨by rfl, ?_⟩) (by assumption) ?_
            rotate_left
            · intro w hSw
              (try dsimp only at hSw)
              go_simp
              try (with_reducible rfl)
            try simp only [Act.put, List.setIfInBounds_toArray, List.set_cons_zero, List.set_cons_succ]
            refine wpAnyH_take (i := 25) (oi := { dst := some 108, op := Go.Op.pick (Go.Operand.tmp 98) (Go.Operand.const (Go.Value.bool true)) (Go.Operand.tmp 107), type := 4, pos := "law.go:172", after := #[{ on := 15, ground := Go.Ground.data }, { on := 24, ground := Go.Ground.data }], guard := none }) (v := ?_) rfl (by kernel_rfl) (by kernel_rfl) (by kernel_rfl) (fun _ _ _ h => h) (Or.inl ⟨by rfl, ?_⟩) (by assumption) ?_
            rotate_left
            · intro w hSw
              (try dsimp only at hSw)
              go_simp
              try (with_reducible rfl)
            try simp only [Act.put, List.setIfInBounds_toArray, List.set_cons_zero, List.set_cons_succ]
            refine wpAnyH_done (by kernel_rfl) ?_ _
            go_wp2
            go_roundw
            case rel => exact ⟨m + 1, by go_num, hmj, HR4, Lib.hid (HL4.out.tch ((Tch.refl w4 []).drew) (by simp)), Lib.hid HT4.out.drew⟩
            case measure => simp [intOf]; omega
          · obtain rfl : m = j := by omega
            have m1 : ¬ (m : Int) < (m : Int) := by omega
            have HL := Lib.hid (ret_as (v' := .int .i64 0) (lenL_any ra ba 16 (lsts G) m (by rw [lsts_len, hG.out]; omega) wr hRm.out) (by rw [lsts_len, hG.out]; simp))
            have q6 : ((0 : Int) == 0) = true := by simp
            clear hmj
            go_wp2_with fail
            refine Calls.mono HL.out ?_
            rintro e w6 ⟨rfl, rfl⟩
            go_wp2
            go_ret
            exact ⟨rfl, HF.out.below hTm.out⟩
set_option maxRecDepth 100000 in
theorem contract (H : Type) (enc : TypeId × Value → H) (W : World) (base : Nat) (args : Array Value) (ds gs : List (DataW H)) (before : List MemPlace)
    (hval0 : ∀ (j : Nat) t v, Try.f6.params[j]? = some t → args[j]? = some v → Value.okWide Try.prog W .any base t v)
    (hW : DataW.Whole enc Try.prog Try.f6.params.toList Rows.ringApartSpec.vars false W args.toList ds gs before)
    (hsz0 : (DataW.weightsEach Try.prog (Try.f6.params.toList ++ Rows.ringApartSpec.plain.varTypes Try.prog) (ds ++ gs)).all (· ≤ reachBytes) = true) :
    Calls Try.prog 6 args W fun e W' => ∃ v, e = .returned v ∧ Rows.ringApartSpec.post enc Try.prog Try.f6 false true false false W args v W' := by
  have hsz := hsz0
  clear hsz0
  have hval := hval0
  clear hval0
  have hW' := hW
  obtain ⟨p, q, hA0, hV, rfl, hfz, hnd⟩ := hW
  have hA : DataW.TrodAll enc Try.prog W 0 (fun _ => true) true Try.f6.params.toList args.toList ds p := hA0
  rw [Try.params6] at hA hval hsz
  obtain ⟨v0, vs0, d0, ds0, p0, q0, hargs, rfl, rfl, h0, r0⟩ := trodAll_cons hA
  obtain ⟨v1, vs1, d1, ds1, p1, q1, rfl, rfl, rfl, h1, r1⟩ := trodAll_cons r0
  obtain ⟨rfl, rfl, rfl⟩ := trodAll_nil r1
  obtain rfl : args = #[v0, v1] := by cases args; simp_all
  obtain ⟨rfl, rfl⟩ := trodVars_none hV
  obtain ⟨a0, l0, c0, rfl⟩ := okWide_slice Try.underlying22 (hval 0 22 v0 rfl rfl)
  have k0 := h0
  have lt0 : ∀ x ∈ p0, x.block < W.heap.size := by obtain ⟨m, hm⟩ := k0; exact DataW.trod_lt m _ _ _ hm
  obtain ⟨z0, w0⟩ := isStp_of h0
  obtain ⟨a1, l1, c1, rfl⟩ := okWide_slice Try.underlying22 (hval 1 22 v1 rfl rfl)
  have k1 := h1
  have lt1 : ∀ x ∈ p1, x.block < W.heap.size := by obtain ⟨m, hm⟩ := k1; exact DataW.trod_lt m _ _ _ hm
  obtain ⟨z1, w1⟩ := isStp_of h1
  clear hA0
  refine (walk W a0 l0 c0 z0 w0 a1 l1 c1 z1 w1).mono fun e W' ⟨he, bel⟩ => ?_
  subst he
  exact ⟨_, rfl, _, _, _, [], _, [], hW', trodAll_mk1 (shut_bool Try.underlying4 _), (trodAll_cons_mk (Below.trod laidOut (by kernel_rfl) (of_decide_eq_true (by kernel_rfl)) k0 bel lt0) (trodAll_cons_mk (Below.trod laidOut (by kernel_rfl) (of_decide_eq_true (by kernel_rfl)) k1 bel lt1) trodAll_mk0)), rfl, bel.frame _, fun h => by cases h⟩

set_option maxRecDepth 100000 in
theorem lifted (os : Os) (started : os.Started) (H : Type) (enc : TypeId × Value → H) :
    ReturnsInHanded {} Try.checked os 6 .any (Rows.ringApartSpec.pre6 enc Try.prog Try.f6 Rows.ringApartRow.domain false) (Rows.ringApartSpec.post enc Try.prog Try.f6 false true false false) := by
  refine returnsInHanded_of_change_sized (C := Try.checked) own started (by kernel_rfl) Try.func6
    (ChangeSpec.witness6 (enc := enc) (C := Try.checked) false ⟨#[], #[.slice none 0 0, .slice none 0 0], []⟩ 8 (by kernel_rfl) (by kernel_rfl) (by kernel_rfl) (by kernel_rfl)) ?_
  intro W base args ds gs before hval hW _ hsz _
  exact contract H enc W base args ds gs before hval hW hsz

theorem over : Rows.ringApartRow.holds Try.pinned (OpenSpec.ofChange Rows.ringApartSpec) :=
  OpenClaim.holds_of_wide 6 Try.f6 rfl rfl rfl rfl rfl rfl rfl ⟨rfl, rfl, rfl, rfl, rfl⟩ rfl rfl rfl rfl rfl (by kernel_rfl) Try.func6 (by kernel_rfl)
    (of_decide_eq_true (by kernel_rfl)) (by unfold Func.isWrapper; first | (rw [if_pos (by decide +kernel)]; kernel_rfl) | (rw [if_neg (by decide +kernel)]; exact ⟨rfl, rfl⟩))
    (fun os started H enc _ => lifted os started H enc)

theorem proved : Rows.RingApartSaid := over
#print axioms proved
end RApt
end Go.Proofs.Ytogbchahfkphoaa
