/-
  The document's own header, with any check.
-/
import Derived.Test.YtbhddodghbhjiaaFRRight
import Derived.Test.YtbhddodghbhjiaaFHd
import Derived.Test.YtbhddodghbhjiaaERPut
namespace Go.Proofs.Ytbhddodghbhjiaa
open Go.RowKit
set_option linter.unusedVariables false

theorem own_low {w : World} {base base' n : Nat} {e : TypeId} {v : Value} {xs : List Value} (h : w.ownsRow base e 1 v n xs) (hb : base' ≤ base) : w.ownsRow base' e 1 v n xs :=
  ⟨h.1, h.2.elim Or.inl (fun ⟨g, cap, cur, hv, hg, r⟩ => Or.inr ⟨g, cap, cur, hv, Nat.le_trans hb hg, r⟩)⟩
theorem rputN (k n m : Nat) (hk : k ≤ 8) (h0 : 0 < k) (v : Int) (hv0 : 0 ≤ v) (hv1 : v ≤ 18446744073709551615) (hn : n ≤ 2000) {zs ys : List Int} (hm : n + k = m) (hy : zs ++ putOf k v = ys) (w : World) (A : Option Addr) (c : Nat) (hz : RI .u8 w w.heap.size A n zs) (hA : A = none → c = 0) :
    Calls Try.prog 45 #[.slice A n c, .int .i64 (k : Int), .int .u64 v] w fun e w' => ∃ A' c', e = .returned (.slice A' m c') ∧ RI .u8 w' w'.heap.size A' m ys ∧ (A' = none → c' = 0) ∧ Below w.heap.size w w' := by
  subst hm hy
  refine (refPut_at w w.heap.size A n c k v (k : Int) _ zs hz hA (Nat.le_refl _) hk (by omega) hv0 hv1 (if_neg (by omega)) (if_neg (by omega))).mono fun e w' ⟨A', c', a, b, _, d⟩ => ⟨A', c', a, b, fun h => ?_, d⟩
  obtain ⟨_, _, e', _⟩ := b.2.1 (by omega)
  rw [e'] at h; cases h
theorem rputO (k n m : Nat) (hk : k ≤ 8) (h0 : 0 < k) (v : Int) (hv0 : 0 ≤ v) (hv1 : v ≤ 18446744073709551615) (hn : n ≤ 2000) {zs ys : List Int} (hm : n + k = m) (hy : zs ++ putOf k v = ys) (w : World) (A : Option Addr) (c : Nat) (hz : RI .u8 w w.heap.size A n zs) (hA : A = none → c = 0) :
    Calls Try.prog 45 #[.slice A n c, .int .i64 (k : Int), .int .u64 v] w fun e w' => ∃ v', e = .returned v' ∧ w'.ownsRow w.heap.size 5 1 v' m (ys.map (Value.int .u8)) ∧ Below w.heap.size w w' := by
  subst hm hy
  exact refPut_own w w.heap.size A n c k v (k : Int) _ zs hz hA (Nat.le_refl _) hk (by omega) hv0 hv1 (if_neg (by omega)) (if_neg (by omega))

set_option maxRecDepth 100000 in
set_option maxHeartbeats 8000000 in
theorem rheader_at (p : Pk) (h : Rg p) (hw : Wf p) (ht : 20 + p.o.size + p.d.size ≤ 65535) (c : Int) (hc0 : 0 ≤ c) (hc1 : c ≤ 65535) (w : World) :
    Calls Try.prog 71 #[p.val, .int .u16 c] w fun e w' => ∃ v, e = .returned v ∧ w'.ownsRow w.heap.size 5 1 v (20 + p.o.size) ((hdN p c).map (Value.int .u8)) ∧ Below w.heap.size w w' := by
  have hol := h.ol
  have hoff := offN_bd h
  obtain ⟨b1, b2⟩ := h.tos
  obtain ⟨b3, b4⟩ := h.id
  obtain ⟨b5, b6⟩ := h.ttl
  obtain ⟨b7, b8⟩ := h.pro
  obtain ⟨b9, b10⟩ := h.off
  have q1 : 0 ≤ p.l := hw.1
  have q2 : p.l ≤ 4294967295 := h.fr.2.2
  have q3 : 0 ≤ p.l' := hw.2
  have q4 : p.l' ≤ 4294967295 := h.to.2.2
  have qo : (p.o.size : Int) ≤ 40 := by omega
  have qd : (20 : Int) + p.o.size + p.d.size ≤ 65535 := by omega
  obtain ⟨Z1, hZ1⟩ : ∃ Z, ([] : List Int) ++ putOf 1 (64 + ((20 : Int) + p.o.size) / 4) = Z := ⟨_, rfl⟩
  obtain ⟨Z2, hZ2⟩ : ∃ Z, Z1 ++ putOf 1 p.tos = Z := ⟨_, rfl⟩
  obtain ⟨Z3, hZ3⟩ : ∃ Z, Z2 ++ putOf 2 ((20 : Int) + p.o.size + p.d.size) = Z := ⟨_, rfl⟩
  obtain ⟨Z4, hZ4⟩ : ∃ Z, Z3 ++ putOf 2 p.id = Z := ⟨_, rfl⟩
  obtain ⟨Z5, hZ5⟩ : ∃ Z, Z4 ++ putOf 2 (offN p) = Z := ⟨_, rfl⟩
  obtain ⟨Z6, hZ6⟩ : ∃ Z, Z5 ++ putOf 1 p.ttl = Z := ⟨_, rfl⟩
  obtain ⟨Z7, hZ7⟩ : ∃ Z, Z6 ++ putOf 1 p.pro = Z := ⟨_, rfl⟩
  obtain ⟨Z8, hZ8⟩ : ∃ Z, Z7 ++ putOf 2 c = Z := ⟨_, rfl⟩
  obtain ⟨Z9, hZ9⟩ : ∃ Z, Z8 ++ putOf 4 p.l = Z := ⟨_, rfl⟩
  obtain ⟨Z10, hZ10⟩ : ∃ Z, Z9 ++ putOf 4 p.l' = Z := ⟨_, rfl⟩
  have hH : hdN p c = Z10 ++ byt p.o := by
    have e1 : ((20 : Int) + p.o.size) / 4 = ((20 + p.o.size : Nat) : Int) / 4 := by omega
    have e2 : (20 : Int) + p.o.size + p.d.size = ((20 + p.o.size + p.d.size : Nat) : Int) := by omega
    rw [← hZ10, ← hZ9, ← hZ8, ← hZ7, ← hZ6, ← hZ5, ← hZ4, ← hZ3, ← hZ2, ← hZ1, e1, e2]
    simp [hdN, hdA, hdZ]
  have HH := Lib.hid hH
  have HP0 := Lib.hid (rputN 1 0 1 (by decide) (by decide) (64 + ((20 : Int) + p.o.size) / 4) (by omega) (by omega) (by decide) rfl hZ1)
  have HP1 := Lib.hid (rputN 1 1 2 (by decide) (by decide) p.tos (by omega) (by omega) (by decide) rfl hZ2)
  have HP2 := Lib.hid (rputN 2 2 4 (by decide) (by decide) ((20 : Int) + p.o.size + p.d.size) (by omega) (by omega) (by decide) rfl hZ3)
  have HP3 := Lib.hid (rputN 2 4 6 (by decide) (by decide) p.id (by omega) (by omega) (by decide) rfl hZ4)
  have HP4 := Lib.hid (rputN 2 6 8 (by decide) (by decide) (offN p) (by omega) (by omega) (by decide) rfl hZ5)
  have HP5 := Lib.hid (rputN 1 8 9 (by decide) (by decide) p.ttl (by omega) (by omega) (by decide) rfl hZ6)
  have HP6 := Lib.hid (rputN 1 9 10 (by decide) (by decide) p.pro (by omega) (by omega) (by decide) rfl hZ7)
  have HP7 := Lib.hid (rputN 2 10 12 (by decide) (by decide) c (by omega) (by omega) (by decide) rfl hZ8)
  have HP8 := Lib.hid (rputN 4 12 16 (by decide) (by decide) p.l (by omega) (by omega) (by decide) rfl hZ9)
  have HP9 := Lib.hid (rputO 4 16 20 (by decide) (by decide) p.l' (by omega) (by omega) (by decide) rfl hZ10)
  have x0 : IntKind.u64.wrap p.tos = p.tos := by rw [IntKind.wrap_u64]; omega
  have x1 : IntKind.u64.wrap p.id = p.id := by rw [IntKind.wrap_u64]; omega
  have x2 : IntKind.u64.wrap p.ttl = p.ttl := by rw [IntKind.wrap_u64]; omega
  have x3 : IntKind.u64.wrap p.pro = p.pro := by rw [IntKind.wrap_u64]; omega
  have x4 : IntKind.u64.wrap c = c := by rw [IntKind.wrap_u64]; omega
  have x5 : IntKind.u64.wrap (64 + ((20 : Int) + p.o.size) / 4) = (64 + ((20 : Int) + p.o.size) / 4) := by rw [IntKind.wrap_u64]; omega
  have x6 : IntKind.u64.wrap ((20 : Int) + p.o.size + p.d.size) = ((20 : Int) + p.o.size + p.d.size) := by rw [IntKind.wrap_u64]; omega
  have x7 : IntKind.u64.wrap p.off = p.off := by rw [IntKind.wrap_u64]; omega
  have x8 : IntKind.u64.wrap (p.off + 16384) = (p.off + 16384) := by rw [IntKind.wrap_u64]; omega
  have x9 : IntKind.u64.wrap (p.off + 8192) = (p.off + 8192) := by rw [IntKind.wrap_u64]; omega
  have x10 : IntKind.u64.wrap (p.off + 16384 + 8192) = (p.off + 16384 + 8192) := by rw [IntKind.wrap_u64]; omega
  have HOF : Hid (offN p = p.off + (if p.df then 16384 else 0) + (if p.mf then 8192 else 0)) := Lib.hid (by unfold offN; cases p.df <;> cases p.mf <;> simp)
  have K0 := Blk.new w 27 (fcs p)
  have L0 := Lib.hid ((Below.refl _ w).alloc (Nat.le_refl _) (.cells (fcs p) 27))
  obtain ⟨f0, f1, f2, f3, f4, f5, f6, f7, f8, f9, f10, f11, f12, f13, f14⟩ := K0.f15
  have HK0 := Lib.hid K0
  obtain ⟨DF, hDF⟩ : ∃ b, p.df = b := ⟨_, rfl⟩
  obtain ⟨MF, hMF⟩ : ∃ b, p.mf = b := ⟨_, rfl⟩
  rw [hDF] at f2 HOF
  rw [hMF] at f3 HOF
  clear K0 hDF hMF hH hZ1 hZ2 hZ3 hZ4 hZ5 hZ6 hZ7 hZ8 hZ9 hZ10 h hw ht hoff
  cases DF <;> cases MF
  all_goals
    simp only [if_true, if_false, Int.add_zero, Bool.false_eq_true] at HOF
    rw [HOF.out] at HP4
    go_enter Try.func71, Try.ntmps71
    go_wp2_with fail
    refine Calls.mono (HP0.out _ none 0 RI.nil_ (fun _ => rfl)) ?_
    rintro e w1 ⟨A1, n1, rfl, hr, hA', hb⟩
    have hA := hA'
    clear hA'
    have R1 := Lib.hid hr
    have HK1 := Lib.hid (HK0.out.below hb HK0.out.lt)
    have L1 := Lib.hid (L0.out.trans (hb.mono L0.out.size))
    clear hr hb f0 f1 f2 f3 f4 f5 f6 f7 f8 f9 f10 f11 f12 f13 f14
    obtain ⟨f0, f1, f2, f3, f4, f5, f6, f7, f8, f9, f10, f11, f12, f13, f14⟩ := HK1.out.f15
    go_wp2_with fail
    refine Calls.mono (HP1.out _ _ _ R1.out hA) ?_
    rintro e w2 ⟨A2, n2, rfl, hr, hA', hb⟩
    clear hA
    have hA := hA'
    clear hA'
    have R2 := Lib.hid hr
    have HK2 := Lib.hid (HK1.out.below hb HK1.out.lt)
    have L2 := Lib.hid (L1.out.trans (hb.mono L1.out.size))
    clear hr hb f0 f1 f2 f3 f4 f5 f6 f7 f8 f9 f10 f11 f12 f13 f14
    obtain ⟨f0, f1, f2, f3, f4, f5, f6, f7, f8, f9, f10, f11, f12, f13, f14⟩ := HK2.out.f15
    go_wp2_with fail
    refine Calls.mono (HP2.out _ _ _ R2.out hA) ?_
    rintro e w3 ⟨A3, n3, rfl, hr, hA', hb⟩
    clear hA
    have hA := hA'
    clear hA'
    have R3 := Lib.hid hr
    have HK3 := Lib.hid (HK2.out.below hb HK2.out.lt)
    have L3 := Lib.hid (L2.out.trans (hb.mono L2.out.size))
    clear hr hb f0 f1 f2 f3 f4 f5 f6 f7 f8 f9 f10 f11 f12 f13 f14
    obtain ⟨f0, f1, f2, f3, f4, f5, f6, f7, f8, f9, f10, f11, f12, f13, f14⟩ := HK3.out.f15
    go_wp2_with fail
    refine Calls.mono (HP3.out _ _ _ R3.out hA) ?_
    rintro e w4 ⟨A4, n4, rfl, hr, hA', hb⟩
    clear hA
    have hA := hA'
    clear hA'
    have R4 := Lib.hid hr
    have HK4 := Lib.hid (HK3.out.below hb HK3.out.lt)
    have L4 := Lib.hid (L3.out.trans (hb.mono L3.out.size))
    clear hr hb f0 f1 f2 f3 f4 f5 f6 f7 f8 f9 f10 f11 f12 f13 f14
    obtain ⟨f0, f1, f2, f3, f4, f5, f6, f7, f8, f9, f10, f11, f12, f13, f14⟩ := HK4.out.f15
    go_wp2_with fail
    refine Calls.mono (HP4.out _ _ _ R4.out hA) ?_
    rintro e w5 ⟨A5, n5, rfl, hr, hA', hb⟩
    clear hA
    have hA := hA'
    clear hA'
    have R5 := Lib.hid hr
    have HK5 := Lib.hid (HK4.out.below hb HK4.out.lt)
    have L5 := Lib.hid (L4.out.trans (hb.mono L4.out.size))
    clear hr hb f0 f1 f2 f3 f4 f5 f6 f7 f8 f9 f10 f11 f12 f13 f14
    obtain ⟨f0, f1, f2, f3, f4, f5, f6, f7, f8, f9, f10, f11, f12, f13, f14⟩ := HK5.out.f15
    go_wp2_with fail
    refine Calls.mono (HP5.out _ _ _ R5.out hA) ?_
    rintro e w6 ⟨A6, n6, rfl, hr, hA', hb⟩
    clear hA
    have hA := hA'
    clear hA'
    have R6 := Lib.hid hr
    have HK6 := Lib.hid (HK5.out.below hb HK5.out.lt)
    have L6 := Lib.hid (L5.out.trans (hb.mono L5.out.size))
    clear hr hb f0 f1 f2 f3 f4 f5 f6 f7 f8 f9 f10 f11 f12 f13 f14
    obtain ⟨f0, f1, f2, f3, f4, f5, f6, f7, f8, f9, f10, f11, f12, f13, f14⟩ := HK6.out.f15
    go_wp2_with fail
    refine Calls.mono (HP6.out _ _ _ R6.out hA) ?_
    rintro e w7 ⟨A7, n7, rfl, hr, hA', hb⟩
    clear hA
    have hA := hA'
    clear hA'
    have R7 := Lib.hid hr
    have HK7 := Lib.hid (HK6.out.below hb HK6.out.lt)
    have L7 := Lib.hid (L6.out.trans (hb.mono L6.out.size))
    clear hr hb f0 f1 f2 f3 f4 f5 f6 f7 f8 f9 f10 f11 f12 f13 f14
    obtain ⟨f0, f1, f2, f3, f4, f5, f6, f7, f8, f9, f10, f11, f12, f13, f14⟩ := HK7.out.f15
    go_wp2_with fail
    refine Calls.mono (HP7.out _ _ _ R7.out hA) ?_
    rintro e w8 ⟨A8, n8, rfl, hr, hA', hb⟩
    clear hA
    have hA := hA'
    clear hA'
    have R8 := Lib.hid hr
    have HK8 := Lib.hid (HK7.out.below hb HK7.out.lt)
    have L8 := Lib.hid (L7.out.trans (hb.mono L7.out.size))
    clear hr hb f0 f1 f2 f3 f4 f5 f6 f7 f8 f9 f10 f11 f12 f13 f14
    obtain ⟨f0, f1, f2, f3, f4, f5, f6, f7, f8, f9, f10, f11, f12, f13, f14⟩ := HK8.out.f15
    go_wp2_with fail
    refine Calls.mono (HP8.out _ _ _ R8.out hA) ?_
    rintro e w9 ⟨A9, n9, rfl, hr, hA', hb⟩
    clear hA
    have hA := hA'
    clear hA'
    have R9 := Lib.hid hr
    have HK9 := Lib.hid (HK8.out.below hb HK8.out.lt)
    have L9 := Lib.hid (L8.out.trans (hb.mono L8.out.size))
    clear hr hb f0 f1 f2 f3 f4 f5 f6 f7 f8 f9 f10 f11 f12 f13 f14
    obtain ⟨f0, f1, f2, f3, f4, f5, f6, f7, f8, f9, f10, f11, f12, f13, f14⟩ := HK9.out.f15
    go_wp2_with fail
    refine Calls.mono (HP9.out _ _ _ R9.out hA) ?_
    rintro e w10 ⟨v, rfl, hr, hb⟩
    clear hA
    have R10 := Lib.hid hr
    have HK10 := Lib.hid (HK9.out.below hb HK9.out.lt)
    have L10 := Lib.hid (L9.out.trans (hb.mono L9.out.size))
    clear hr hb f0 f1 f2 f3 f4 f5 f6 f7 f8 f9 f10 f11 f12 f13 f14
    obtain ⟨f0, f1, f2, f3, f4, f5, f6, f7, f8, f9, f10, f11, f12, f13, f14⟩ := HK10.out.f15
    have HOL := Lib.hid (own_low R10.out L9.out.size)
    go_wp2_with (at_builtin; refine wpList_apps _ rfl (.tmp 73) (.tmp 75) rfl w.heap.size v 20 Z10 rfl HOL.out p.o rfl (by omega) L10.out.size ?_; intro v2 w2 hown2 hg2; have HOW := Lib.hid hown2; have HG2 := Lib.hid hg2; clear hown2 hg2)
    go_wp2
    go_ret
    exact ⟨_, rfl, by rw [HH.out]; exact HOW.out, L10.out.grown HG2.out L10.out.size (fun k hk => own_basek HOL.out k hk)⟩
end Go.Proofs.Ytbhddodghbhjiaa
