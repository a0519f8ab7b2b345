/-
  The document's own whom, right, data, Ask, Tell of layer 9.
-/
import Derived.Test.YtnligeelbajnpaaNMsg
import Derived.Test.YtnligeelbajnpaaRBytes
import Derived.Test.YtnligeelbajnpaaERPut
import Derived.Test.YtnligeelbajnpaaFApps
import Derived.Test.YtnligeelbajnpaaFConv
import Derived.Test.YtnligeelbajnpaaAppk
import Derived.Test.YtnligeelbajnpaaERCls
import Derived.Deep.RegionHeld3
namespace Go.Proofs.Ytnligeelbajnpaa
open Go.RowKit
set_option linter.unusedVariables false

theorem nret_bool {a b : Bool} (h : a = b) : Ending.returned (.bool a) = .returned (.bool b) := by rw [h]
set_option maxHeartbeats 2000000 in
theorem rwhom_at (s : Bool) (h l : Int) (hh : U6 h) (hl : U6 l) (w : World) :
    Calls Try.prog 32 #[adr s h l] w fun e w' => e = .returned (.bool (whmB s h l)) ∧ Below w.heap.size w w' := by
  have K0 := Lib.hid (Blk.new w 24 #[.bool s, .int .u64 h, .int .u64 l])
  have L0 := Lib.hid ((Below.refl _ w).alloc (Nat.le_refl _) (.cells #[.bool s, .int .u64 h, .int .u64 l] 24))
  have HC := Lib.hid (fun W => rclass_at s h l hh hl rfl W)
  have HE : Hid (whmB s h l = (s && !(clsV s h l == 3) && !(clsV s h l == 0))) := Lib.hid rfl
  obtain ⟨C, hC⟩ : ∃ C, clsV s h l = C := ⟨_, rfl⟩
  rw [hC] at HC HE
  clear hC hh hl
  obtain ⟨f0, f1, f2⟩ := K0.out.c3
  cases s with
  | false =>
    go_enter Try.func32, Try.ntmps32
    go_wp2_with fail
    refine Calls.mono (HC.out _) ?_
    rintro e w1 ⟨rfl, hb⟩
    have K1 := Lib.hid (K0.out.below hb K0.out.lt)
    have L1 := Lib.hid (L0.out.trans (hb.mono L0.out.size))
    clear hb f0 f1 f2
    obtain ⟨f0, f1, f2⟩ := K1.out.c3
    go_wp2
    go_ret
    exact ⟨nret_bool (by rw [HE.out]; rfl), L1.out⟩
  | true =>
    by_cases c3 : C = 3
    · subst c3
      go_enter Try.func32, Try.ntmps32
      go_wp2_with fail
      refine Calls.mono (HC.out _) ?_
      rintro e w1 ⟨rfl, hb⟩
      have K1 := Lib.hid (K0.out.below hb K0.out.lt)
      have L1 := Lib.hid (L0.out.trans (hb.mono L0.out.size))
      clear hb f0 f1 f2
      obtain ⟨f0, f1, f2⟩ := K1.out.c3
      go_wp2
      go_ret
      exact ⟨nret_bool (by rw [HE.out]; rfl), L1.out⟩
    by_cases c0 : C = 0
    · subst c0
      clear c3
      go_enter Try.func32, Try.ntmps32
      go_wp2_with fail
      refine Calls.mono (HC.out _) ?_
      rintro e w1 ⟨rfl, hb⟩
      have K1 := Lib.hid (K0.out.below hb K0.out.lt)
      have L1 := Lib.hid (L0.out.trans (hb.mono L0.out.size))
      clear hb f0 f1 f2
      obtain ⟨f0, f1, f2⟩ := K1.out.c3
      go_wp2
      go_ret
      exact ⟨nret_bool (by rw [HE.out]; rfl), L1.out⟩
    · have HE2 : Hid (whmB true h l = true) := Lib.hid (by rw [HE.out]; simp [c3, c0])
      go_enter Try.func32, Try.ntmps32
      go_wp2_with fail
      refine Calls.mono (HC.out _) ?_
      rintro e w1 ⟨rfl, hb⟩
      have K1 := Lib.hid (K0.out.below hb K0.out.lt)
      have L1 := Lib.hid (L0.out.trans (hb.mono L0.out.size))
      clear hb f0 f1 f2
      obtain ⟨f0, f1, f2⟩ := K1.out.c3
      go_wp2
      go_ret
      exact ⟨nret_bool (by rw [HE2.out]; simp [c3, c0]), L1.out⟩

set_option maxHeartbeats 2000000 in
theorem rright9_at (s : Bool) (h l : Int) (hh : U6 h) (hl : U6 l) (y : Bool) (m : Int) (w : World) :
    Calls Try.prog 20 #[adr s h l, .bool y, .int .u64 m] w fun e w' => e = .returned (.bool (rgtB s h l y m)) ∧ Below w.heap.size w w' := by
  have K0 := Lib.hid (Blk.new w 24 #[.bool s, .int .u64 h, .int .u64 l])
  have L0 := Lib.hid ((Below.refl _ w).alloc (Nat.le_refl _) (.cells #[.bool s, .int .u64 h, .int .u64 l] 24))
  have HC := Lib.hid (fun W => rwhom_at s h l hh hl W)
  have HE : Hid (rgtB s h l y m = (whmB s h l && decide (m < 281474976710656) && (y || decide (m = 0)))) := Lib.hid rfl
  obtain ⟨C, hC⟩ : ∃ C, whmB s h l = C := ⟨_, rfl⟩
  rw [hC] at HC HE
  clear hC hh hl
  obtain ⟨f0, f1, f2⟩ := K0.out.c3
  cases C with
  | false =>
    go_enter Try.func20, Try.ntmps20
    go_wp2_with fail
    refine Calls.mono (HC.out _) ?_
    rintro e w1 ⟨rfl, hb⟩
    have L1 := Lib.hid (L0.out.trans (hb.mono L0.out.size))
    clear hb f0 f1 f2
    go_wp2
    go_ret
    exact ⟨nret_bool (by rw [HE.out]; rfl), L1.out⟩
  | true =>
    by_cases hm : m < 281474976710656
    · cases y with
      | true =>
        have HE2 : Hid (rgtB s h l true m = true) := Lib.hid (by rw [HE.out]; simp [hm])
        go_enter Try.func20, Try.ntmps20
        go_wp2_with fail
        refine Calls.mono (HC.out _) ?_
        rintro e w1 ⟨rfl, hb⟩
        have L1 := Lib.hid (L0.out.trans (hb.mono L0.out.size))
        clear hb f0 f1 f2
        go_wp2
        go_ret
        exact ⟨nret_bool (by rw [HE2.out]), L1.out⟩
      | false =>
        have HE2 : Hid ((m == 0) = rgtB s h l false m) := Lib.hid (by rw [HE.out]; simp [hm]; rfl)
        go_enter Try.func20, Try.ntmps20
        go_wp2_with fail
        refine Calls.mono (HC.out _) ?_
        rintro e w1 ⟨rfl, hb⟩
        have L1 := Lib.hid (L0.out.trans (hb.mono L0.out.size))
        clear hb f0 f1 f2
        go_wp2
        go_ret
        exact ⟨nret_bool (by rw [← HE2.out]), L1.out⟩
    · have HE2 : Hid (false = rgtB s h l y m) := Lib.hid (by rw [HE.out]; simp [hm])
      go_enter Try.func20, Try.ntmps20
      go_wp2_with fail
      refine Calls.mono (HC.out _) ?_
      rintro e w1 ⟨rfl, hb⟩
      have L1 := Lib.hid (L0.out.trans (hb.mono L0.out.size))
      clear hb f0 f1 f2
      go_wp2
      go_ret
      exact ⟨nret_bool HE2.out, L1.out⟩

/-- One call of the document's Put onto any bytes: the row is the call's own. -/
theorem nput_own (k n m : Nat) (hk : k ≤ 8) (h0 : 0 < k) (v : Int) (hv0 : 0 ≤ v) (hv1 : v ≤ 18446744073709551615) (hn : n ≤ 2000) {zs ys : List Int} (hm : n + k = m) (hy : zs ++ putOf k v = ys) (w : World) (A : Option Addr) (c : Nat) (hz : RI .u8 w w.heap.size A n zs) (hA : A = none → c = 0) :
    Calls Try.prog 34 #[.slice A n c, .int .i64 (k : Int), .int .u64 v] w fun e w' => ∃ v', e = .returned v' ∧ w'.ownsRow w.heap.size 5 1 v' m (ys.map (Value.int .u8)) ∧ Below w.heap.size w w' := by
  subst hm hy
  exact refPut_own w w.heap.size A n c k v (k : Int) _ zs hz hA (Nat.le_refl _) hk (by omega) hv0 hv1 (if_neg (by omega)) (if_neg (by omega))
set_option maxRecDepth 100000 in
set_option maxHeartbeats 4000000 in
theorem rbytes6_own (h l : Int) (hh : U6 h) (hl : U6 l) (w : World) :
    Calls Try.prog 33 #[adr true h l] w fun e w' => ∃ v, e = .returned v ∧ w'.ownsRow w.heap.size 5 1 v 16 ((putOf 8 h ++ putOf 8 l).map (Value.int .u8)) ∧ Below w.heap.size w w' := by
  have HVa := Lib.hid (rvalid_at true h l (w.alloc (.cells #[.bool true, .int .u64 h, .int .u64 l] 24)) (b := true) rfl)
  have H1 := Lib.hid (fun W => nput_own 8 0 8 (by decide) (by decide) h hh.1 hh.2 (by decide) (zs := []) (ys := putOf 8 h) rfl rfl W none 0 RI.nil_ (fun _ => rfl))
  have H2 := Lib.hid (fun W A c hz hA => nput_own 8 8 16 (by decide) (by decide) l hl.1 hl.2 (by decide) (zs := putOf 8 h) (ys := putOf 8 h ++ putOf 8 l) rfl rfl W A c hz hA)
  have B1 := Lib.hid (putOf_by 8 h)
  clear hh hl
  go_enter Try.func33, Try.ntmps33
  go_wp2_with fail
  refine Calls.mono HVa.out ?_
  rintro e w1 ⟨rfl, hb⟩
  have R1 := Lib.hid ((Blk.new w 24 #[.bool true, .int .u64 h, .int .u64 l]).below hb (by simp only [World.size_alloc]; omega))
  have L1 := Lib.hid (((Below.refl _ w).alloc (Nat.le_refl _) _).trans (hb.mono (by simp only [World.size_alloc]; omega)))
  have hs1 : w.heap.size < w1.heap.size := by have := hb.size; simp only [World.size_alloc] at this; omega
  have HC : Hid (∀ W', Below w1.heap.size w1 W' → W'.cell? ⟨w.heap.size, 1, none⟩ = some (.int .u64 h) ∧ W'.cell? ⟨w.heap.size, 2, none⟩ = some (.int .u64 l)) := Lib.hid fun W' hB => by
    have := (R1.out.below hB hs1).c3
    exact ⟨this.2.1, this.2.2⟩
  obtain ⟨g1, g2, g3⟩ := R1.out.c3
  have hR : Below w1.heap.size w1 w1.drew := (Below.refl _ _).drew
  clear hb
  go_wp2
  go_region_held3 (fun w' => w'.cell? ⟨w.heap.size, 1, none⟩ = some (.int .u64 h) ∧ w'.cell? ⟨w.heap.size, 2, none⟩ = some (.int .u64 l))
    (first | exact HC.out _ hR | exact HC.out _ hR2 | exact HC.out _ hR3)
    (first
      | (go_at_call 34; (with_reducible refine Calls.mono (H1.out _) ?_); rintro e W2 ⟨v1, rfl, ho1, hb⟩; obtain ⟨A1, c1, rfl, r1, ha1, -⟩ := own_ri B1.out.wf ho1; have Q1 := Lib.hid r1; have N1 := Lib.hid ha1; have hR2 := hR.trans (hb.mono hR.size); clear hb ho1 r1 ha1)
      | (go_at_call 34; (with_reducible refine Calls.mono (H2.out _ _ _ Q1.out N1.out) ?_); rintro e W3 ⟨v2, rfl, ho2, hb⟩; have O2 := Lib.hid ho2; have T2 := Lib.hid hR2.size; have hR3 := hR2.trans (hb.mono hR2.size); clear hb ho2))
  go_wp2
  go_ret
  exact ⟨_, rfl, ⟨O2.out.1, O2.out.2.imp id fun ⟨g, cap, cur, a, b, c⟩ => ⟨g, cap, cur, a, by have := T2.out; omega, c⟩⟩, L1.out.trans (hR3.mono L1.out.size)⟩
end Go.Proofs.Ytnligeelbajnpaa
