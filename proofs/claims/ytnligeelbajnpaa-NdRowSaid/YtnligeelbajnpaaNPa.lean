/-
  The program's Ask and Tell of layer 9.
-/
import Derived.Test.YtnligeelbajnpaaNRh
import Derived.Test.YtnligeelbajnpaaNOf
import Derived.Test.YtnligeelbajnpaaNBy
import Derived.Test.YtnligeelbajnpaaPut
import Derived.Handy
namespace Go.Proofs.Ytnligeelbajnpaa
open Go.RowKit
set_option linter.unusedVariables false

/-- The class of an address lets it be spoken of. -/
def mayB (s : Bool) (h l : Int) : Bool := !(clsV s h l == 3) && !(clsV s h l == 0)
theorem whm_may (s : Bool) (h l : Int) : whmB s h l = (s && mayB s h l) := by unfold whmB mayB; rw [Bool.and_assoc]
set_option maxHeartbeats 2000000 in
theorem nmay_at (s : Bool) (h l : Int) (hh : U6 h) (hl : U6 l) (w : World) :
    Calls Try.prog 38 #[adr s h l] w fun e w' => e = .returned (.bool (mayB s h l)) ∧ Below w.heap.size w w' := by
  have K0 := Lib.hid (Blk.new w 24 #[.bool s, .int .u64 h, .int .u64 l])
  have L0 := Lib.hid ((Below.refl _ w).alloc (Nat.le_refl _) (.cells #[.bool s, .int .u64 h, .int .u64 l] 24))
  have HC := Lib.hid (fun W => class_at s h l hh hl rfl W)
  have HE : Hid (mayB s h l = (!(clsV s h l == 3) && !(clsV s h l == 0))) := Lib.hid rfl
  obtain ⟨C, hC⟩ : ∃ C, clsV s h l = C := ⟨_, rfl⟩
  rw [hC] at HC HE
  clear hC hh hl
  obtain ⟨f0, f1, f2⟩ := K0.out.c3
  by_cases c3 : C = 3
  · subst c3
    go_enter Try.func38, Try.ntmps38
    go_wp2_with fail
    refine Calls.mono (HC.out _) ?_
    rintro e w1 ⟨rfl, hb⟩
    have L1 := Lib.hid (L0.out.trans (hb.mono L0.out.size))
    clear hb f0 f1 f2
    go_wp2
    go_ret
    exact ⟨nret_bool (by rw [HE.out]; rfl), L1.out⟩
  by_cases c0 : C = 0
  · subst c0
    clear c3
    go_enter Try.func38, Try.ntmps38
    go_wp2_with fail
    refine Calls.mono (HC.out _) ?_
    rintro e w1 ⟨rfl, hb⟩
    have L1 := Lib.hid (L0.out.trans (hb.mono L0.out.size))
    clear hb f0 f1 f2
    go_wp2
    go_ret
    exact ⟨nret_bool (by rw [HE.out]; rfl), L1.out⟩
  · have HE2 : Hid (mayB s h l = true) := Lib.hid (by rw [HE.out]; simp [c3, c0])
    go_enter Try.func38, Try.ntmps38
    go_wp2_with fail
    refine Calls.mono (HC.out _) ?_
    rintro e w1 ⟨rfl, hb⟩
    have L1 := Lib.hid (L0.out.trans (hb.mono L0.out.size))
    clear hb f0 f1 f2
    go_wp2
    go_ret
    exact ⟨nret_bool (by rw [HE2.out]; simp [c3, c0]), L1.out⟩

theorem Blk.so3 {w : World} {g : Nat} {t : TypeId} {s : Bool} {h l : Int} {y : Bool} {m : Int} (k : Blk w g t #[.bool s, .int .u64 h, .int .u64 l, .bool y, .int .u64 m]) : w.cell? ⟨g, 0, none⟩ = some (.bool s) ∧ w.cell? ⟨g, 1, none⟩ = some (.int .u64 h) ∧ w.cell? ⟨g, 2, none⟩ = some (.int .u64 l) ∧ w.cell? ⟨g, 3, none⟩ = some (.bool y) ∧ w.cell? ⟨g, 4, none⟩ = some (.int .u64 m) :=
  ⟨by rw [k.cell]; rfl, by rw [k.cell]; rfl, by rw [k.cell]; rfl, by rw [k.cell]; rfl, by rw [k.cell]; rfl⟩
set_option maxHeartbeats 4000000 in
theorem nvalid_at (s : Bool) (h l : Int) (hh : U6 h) (hl : U6 l) (y : Bool) (m : Int) (w : World) :
    Calls Try.prog 28 #[Sol.val ⟨s, h, l, y, m⟩] w fun e w' => e = .returned (.bool (rgtB s h l y m)) ∧ Below w.heap.size w w' := by
  have K0 := Lib.hid (Blk.new w 64 (solC ⟨s, h, l, y, m⟩))
  have L0 := Lib.hid ((Below.refl _ w).alloc (Nat.le_refl _) (.cells (solC ⟨s, h, l, y, m⟩) 64))
  have HC := Lib.hid (fun W => nmay_at s h l hh hl W)
  have HE : Hid (rgtB s h l y m = (s && mayB s h l && decide (m < 281474976710656) && (y || decide (m = 0)))) := Lib.hid (by unfold rgtB; rw [whm_may])
  obtain ⟨C, hC⟩ : ∃ C, mayB s h l = C := ⟨_, rfl⟩
  rw [hC] at HC HE
  clear hC hh hl
  obtain ⟨f0, f1, f2, f3, f4⟩ := K0.out.so3
  cases s with
  | false =>
    go_enter Try.func28, Try.ntmps28
    go_wp2
    go_ret
    exact ⟨nret_bool (by rw [HE.out]; rfl), L0.out⟩
  | true =>
    cases C with
    | false =>
      go_enter Try.func28, Try.ntmps28
      go_wp2_with fail
      refine Calls.mono (HC.out _) ?_
      rintro e w1 ⟨rfl, hb⟩
      have L1 := Lib.hid (L0.out.trans (hb.mono L0.out.size))
      clear hb f0 f1 f2 f3 f4
      go_wp2
      go_ret
      exact ⟨nret_bool (by rw [HE.out]; rfl), L1.out⟩
    | true =>
      by_cases hm : m < 281474976710656
      · cases y with
        | true =>
          have HE2 : Hid (rgtB true h l true m = true) := Lib.hid (by rw [HE.out]; simp [hm])
          go_enter Try.func28, Try.ntmps28
          go_wp2_with fail
          refine Calls.mono (HC.out _) ?_
          rintro e w1 ⟨rfl, hb⟩
          have K1 := Lib.hid (K0.out.below hb K0.out.lt)
          have L1 := Lib.hid (L0.out.trans (hb.mono L0.out.size))
          clear hb f0 f1 f2 f3 f4
          obtain ⟨f0, f1, f2, f3, f4⟩ := K1.out.so3
          go_wp2
          go_ret
          exact ⟨nret_bool (by rw [HE2.out]), L1.out⟩
        | false =>
          have HE2 : Hid ((m == 0) = rgtB true h l false m) := Lib.hid (by rw [HE.out]; simp [hm]; rfl)
          go_enter Try.func28, Try.ntmps28
          go_wp2_with fail
          refine Calls.mono (HC.out _) ?_
          rintro e w1 ⟨rfl, hb⟩
          have K1 := Lib.hid (K0.out.below hb K0.out.lt)
          have L1 := Lib.hid (L0.out.trans (hb.mono L0.out.size))
          clear hb f0 f1 f2 f3 f4
          obtain ⟨f0, f1, f2, f3, f4⟩ := K1.out.so3
          go_wp2
          go_ret
          exact ⟨nret_bool (by rw [← HE2.out]), L1.out⟩
      · have HE2 : Hid (false = rgtB true h l y m) := Lib.hid (by rw [HE.out]; simp [hm])
        go_enter Try.func28, Try.ntmps28
        go_wp2_with fail
        refine Calls.mono (HC.out _) ?_
        rintro e w1 ⟨rfl, hb⟩
        have K1 := Lib.hid (K0.out.below hb K0.out.lt)
        have L1 := Lib.hid (L0.out.trans (hb.mono L0.out.size))
        clear hb f0 f1 f2 f3 f4
        obtain ⟨f0, f1, f2, f3, f4⟩ := K1.out.so3
        go_wp2
        go_ret
        exact ⟨nret_bool HE2.out, L1.out⟩
/-- A struct stored whole into a variable. -/
theorem wpList_stc (t : TypeId) (n : Nat) (ht : (Try.prog.info? t).map (·.size) = some n) {ops : Array Oper} {rest : List Oper} {o : Oper} {a : Act} {w : World} {Q : Exit → Act → World → Prop} (hgd : o.guard = none) (x y : Operand) (ho : o.op = .store t x y)
    (g : Nat) (new old : Array Value) (hs : new.size = n) (h1 : new.all (·.oneCell') = true) (hx : a.eval x = .pointer (some ⟨g, 0, none⟩)) (hy : a.eval y = .agg new) (hB : Blk w g t old) (hs2 : old.size = n)
    (h : ∀ w', Blk w' g t new → Below g w w' → wpList Try.prog ops Q rest (a.put o.dst undef) w') : wpList Try.prog ops Q (o :: rest) a w := by
  refine wpList_store_row hgd t x y ho g new hx hy t old hB (by rw [hs]; exact ht) (by rw [hs, hs2]) h1 ?_
  exact h _ (setRow_heap w g old new t _ hB) ⟨rfl, rfl, rfl, by simp [World.setRow], fun k hk => setRow_other w g k new (by omega)⟩
theorem solC_one (x : Sol) : (solC x).all (·.oneCell') = true := by simp [Value.oneCell']
theorem advC_one (x : Adv) : (advC x).all (·.oneCell') = true := by simp [Value.oneCell']
theorem sizeSub : (Try.prog.info? 64).map (·.size) = some 5 := by kernel_rfl
/-- What both messages have. -/
def subA (x : Adv) : Sol := ⟨x.s, x.h, x.l, x.y, x.m⟩
set_option maxHeartbeats 1000000 in
theorem nsubj_sol (x : Sol) (w : World) :
    Calls Try.prog 66 #[x.val] w fun e w' => e = .returned x.val ∧ Below w.heap.size w w' := by
  obtain ⟨s, h, l, y, m⟩ := x
  have K0 := Lib.hid ((Blk.new w 54 (solC ⟨s, h, l, y, m⟩)).alloc (.cells (solC ⟨false, 0, 0, false, 0⟩) 64))
  have R0 : Hid (Blk ((w.alloc (.cells (solC ⟨s, h, l, y, m⟩) 54)).alloc (.cells (solC ⟨false, 0, 0, false, 0⟩) 64)) (w.heap.size + 1) 64 (solC ⟨false, 0, 0, false, 0⟩)) := Lib.hid (by
    have := Blk.new (w.alloc (.cells (solC ⟨s, h, l, y, m⟩) 54)) 64 (solC ⟨false, 0, 0, false, 0⟩)
    rwa [World.size_alloc] at this)
  have L0 := Lib.hid (((Below.refl _ w).alloc (Nat.le_refl _) (.cells (solC ⟨s, h, l, y, m⟩) 54)).alloc (by simp) (.cells (solC ⟨false, 0, 0, false, 0⟩) 64))
  obtain ⟨f0, f1, f2, f3, f4⟩ := K0.out.so3
  go_enter Try.func66, Try.ntmps66
  go_wp2_with (refine wpList_stc 64 5 sizeSub rfl (.tmp 2) (.tmp 9) rfl (w.heap.size + 1) (solC ⟨s, h, l, y, m⟩) (solC ⟨false, 0, 0, false, 0⟩) rfl (solC_one _) rfl rfl R0.out rfl ?_; intro w6 hk6 hb6; have K6 := Lib.hid hk6; have L6 := Lib.hid (L0.out.trans (hb6.mono (by omega))); clear hk6 hb6)
  obtain ⟨q0, q1, q2, q3, q4⟩ := K6.out.so3
  exact bodyPost_ret (v := Sol.val ⟨s, h, l, y, m⟩) (by simp [results, Try.results66, go_sem, q0, q1, q2, q3, q4]) rfl ⟨rfl, L6.out⟩
set_option maxHeartbeats 1000000 in
theorem nsubj_adv (x : Adv) (w : World) :
    Calls Try.prog 67 #[x.val] w fun e w' => e = .returned (subA x).val ∧ Below w.heap.size w w' := by
  obtain ⟨s, h, l, r, a, o, y, m⟩ := x
  have K0 := Lib.hid ((Blk.new w 57 (advC ⟨s, h, l, r, a, o, y, m⟩)).alloc (.cells (solC ⟨false, 0, 0, false, 0⟩) 64))
  have R0 : Hid (Blk ((w.alloc (.cells (advC ⟨s, h, l, r, a, o, y, m⟩) 57)).alloc (.cells (solC ⟨false, 0, 0, false, 0⟩) 64)) (w.heap.size + 1) 64 (solC ⟨false, 0, 0, false, 0⟩)) := Lib.hid (by
    have := Blk.new (w.alloc (.cells (advC ⟨s, h, l, r, a, o, y, m⟩) 57)) 64 (solC ⟨false, 0, 0, false, 0⟩)
    rwa [World.size_alloc] at this)
  have L0 := Lib.hid (((Below.refl _ w).alloc (Nat.le_refl _) (.cells (advC ⟨s, h, l, r, a, o, y, m⟩) 57)).alloc (by simp) (.cells (solC ⟨false, 0, 0, false, 0⟩) 64))
  obtain ⟨f0, f1, f2, f3, f4, f5, f6, f7⟩ := K0.out.ad8
  go_enter Try.func67, Try.ntmps67
  go_wp2_with (refine wpList_stc 64 5 sizeSub rfl (.tmp 2) (.tmp 9) rfl (w.heap.size + 1) (solC ⟨s, h, l, y, m⟩) (solC ⟨false, 0, 0, false, 0⟩) rfl (solC_one _) rfl rfl R0.out rfl ?_; intro w6 hk6 hb6; have K6 := Lib.hid hk6; have L6 := Lib.hid (L0.out.trans (hb6.mono (by omega))); clear hk6 hb6)
  obtain ⟨q0, q1, q2, q3, q4⟩ := K6.out.so3
  exact bodyPost_ret (v := Sol.val ⟨s, h, l, y, m⟩) (by simp [results, Try.results67, go_sem, q0, q1, q2, q3, q4]) rfl ⟨rfl, L6.out⟩
set_option maxHeartbeats 2000000 in
theorem nrest_at (x : Adv) (w : World) :
    Calls Try.prog 40 #[x.val] w fun e w' => e = .returned (.int .i64 (rstA x.r x.a x.o)) ∧ Below w.heap.size w w' := by
  obtain ⟨s, h, l, r, a, o, y, m⟩ := x
  have K0 := Lib.hid (Blk.new w 57 (advC ⟨s, h, l, r, a, o, y, m⟩))
  have L0 := Lib.hid ((Below.refl _ w).alloc (Nat.le_refl _) (.cells (advC ⟨s, h, l, r, a, o, y, m⟩) 57))
  obtain ⟨f0, f1, f2, f3, f4, f5, f6, f7⟩ := K0.out.ad8
  cases r <;> cases a <;> cases o
  all_goals
    go_enter Try.func40, Try.ntmps40
    go_wp2
    go_ret
    exact ⟨rfl, L0.out⟩
/-- What the two cases of the switch answer. -/
theorem ta_sol (v : Value) (w : World) : (Instr.typeAssert (.iface 54 v) 68 54 true).run Try.prog w = .ok (.tuple #[v, .bool true]) w := by kernel_rfl
theorem ta_far (v : Value) (w : World) : (Instr.typeAssert (.iface 57 v) 68 54 true).run Try.prog w = .ok (.tuple #[.agg #[.bool false, .int .u64 0, .int .u64 0, .bool false, .int .u64 0], .bool false]) w := by kernel_rfl
theorem ta_adv (v : Value) (w : World) : (Instr.typeAssert (.iface 57 v) 68 57 true).run Try.prog w = .ok (.tuple #[v, .bool true]) w := by kernel_rfl
set_option maxHeartbeats 2000000 in
theorem nnum_sol (x : Sol) (w : World) :
    Calls Try.prog 29 #[.iface 54 x.val] w fun e w' => e = .returned (.tuple #[.int .i64 135, .int .i64 1, .int .i64 0]) ∧ Below w.heap.size w w' := by
  have L0 := Lib.hid ((Below.refl _ w).alloc (Nat.le_refl _) (.cells (solC x) 54))
  have T1 := fun W => ta_sol x.val W
  go_enter Try.func29, Try.ntmps29
  go_wp2
  exact bodyPost_ret (v := .tuple #[.int .i64 135, .int .i64 1, .int .i64 0]) (by simp [results, Try.results29, go_sem]) rfl ⟨rfl, L0.out⟩
set_option maxHeartbeats 2000000 in
theorem nnum_adv (x : Adv) (w : World) :
    Calls Try.prog 29 #[.iface 57 x.val] w fun e w' => e = .returned (.tuple #[.int .i64 136, .int .i64 2, .int .i64 (rstA x.r x.a x.o)]) ∧ Below w.heap.size w w' := by
  have K0 := Lib.hid (Blk.new w 57 (advC x))
  have L0 := Lib.hid ((Below.refl _ w).alloc (Nat.le_refl _) (.cells (advC x) 57))
  have HR := Lib.hid (fun W => nrest_at x W)
  obtain ⟨f0, f1, f2, f3, f4, f5, f6, f7⟩ := K0.out.ad8
  have T1 := fun W => ta_far x.val W
  have T2 := fun W => ta_adv x.val W
  go_enter Try.func29, Try.ntmps29
  go_wp2_with fail
  refine Calls.mono (HR.out _) ?_
  rintro e w1 ⟨rfl, hb⟩
  have L1 := Lib.hid (L0.out.trans (hb.mono L0.out.size))
  clear hb f0 f1 f2 f3 f4 f5 f6 f7
  go_wp2
  exact bodyPost_ret (v := .tuple #[.int .i64 136, .int .i64 2, .int .i64 (rstA x.r x.a x.o)]) (by simp [results, Try.results29, go_sem]) rfl ⟨rfl, L1.out⟩
theorem putOf_one {k : Int} (h : 0 ≤ k ∧ k ≤ 255) : putOf 1 k = [k] := by
  rw [putOf_cons]
  simp [putOf]
  omega
/-- An option with a link's address behind any bytes. -/
theorem nput_mac (kd m : Int) (hk : 0 ≤ kd ∧ kd ≤ 255) (hm : U6 m) (w : World) (A : Option Addr) (n c : Nat) (zs : List Int) (hn : n ≤ 50) (hz : RI .u8 w w.heap.size A n zs) :
    Calls Try.prog 31 #[.slice A n c, .int .i64 kd, .int .u64 m] w fun e w' => ∃ g, e = .returned (.slice (some ⟨g, 0, none⟩) (n + 8) (n + 8)) ∧ Blk w' g 5 (((zs ++ ([kd, 1] ++ putOf 6 m)).map (Value.int .u8)).toArray) ∧ Below w.heap.size w w' := by
  have HZ := Lib.hid hz
  have hw1 : IntKind.u64.wrap kd = kd := by rw [IntKind.wrap_u64]; omega
  have H1 : Hid (Calls Try.prog 43 #[.slice A n c, .int .i64 1, .int .u64 kd] w fun e w' => e = .returned (.slice (some ⟨w.heap.size, 0, none⟩) (n + 1) (n + 1)) ∧ Blk w' w.heap.size 5 (((zs ++ [kd]).map (Value.int .u8)).toArray) ∧ Below w.heap.size w w') := Lib.hid (by
    have := put_k 1 n (by decide) kd hk.1 (by omega) (c := c) hz
    rw [putOf_one hk] at this
    exact this)
  have B1 : Hid (By (zs ++ [kd])) := Lib.hid (hz.by_.app fun z hz => by rw [List.mem_singleton.1 hz]; exact hk)
  have B2 : Hid (By (zs ++ [kd] ++ [1])) := Lib.hid (B1.out.app fun z hz => by rw [List.mem_singleton.1 hz]; decide)
  have N0 := Lib.hid hz.1
  have HN := Lib.hid hn
  have HM := Lib.hid hm
  clear hz hk hn hm
  go_enter Try.func31, Try.ntmps31
  go_wp2_with fail
  refine Calls.mono H1.out ?_
  rintro e w1 ⟨rfl, hk1, hb1⟩
  have L1 := Lib.hid hb1
  have Z1 : Hid (RI .u8 w1 w1.heap.size (some ⟨w.heap.size, 0, none⟩) (n + 1) (zs ++ [kd])) := Lib.hid (by
    have := hk1.reads (fun z hz => wf_u8 (B1.out z hz)) hk1.lt
    rw [List.length_append, N0.out] at this
    exact this)
  clear hk1 hb1
  have H2 : Hid (Calls Try.prog 43 #[.slice (some ⟨w.heap.size, 0, none⟩) (n + 1) (n + 1), .int .i64 1, .int .u64 1] w1 fun e w' => e = .returned (.slice (some ⟨w1.heap.size, 0, none⟩) (n + 1 + 1) (n + 1 + 1)) ∧ Blk w' w1.heap.size 5 (((zs ++ [kd] ++ [1]).map (Value.int .u8)).toArray) ∧ Below w1.heap.size w1 w') := Lib.hid (put_k 1 (n + 1) (by decide) 1 (by decide) (by have := HN.out; omega) (c := n + 1) Z1.out)
  go_wp2_with fail
  refine Calls.mono H2.out ?_
  rintro e w2 ⟨rfl, hk2, hb2⟩
  have L2 := Lib.hid (L1.out.trans (hb2.mono L1.out.size))
  have Z2 : Hid (RI .u8 w2 w2.heap.size (some ⟨w1.heap.size, 0, none⟩) (n + 1 + 1) (zs ++ [kd] ++ [1])) := Lib.hid (by
    have := hk2.reads (fun z hz => wf_u8 (B2.out z hz)) hk2.lt
    rw [List.length_append, List.length_append, N0.out] at this
    exact this)
  clear hk2 hb2
  have H3 := Lib.hid (put_k 6 (n + 1 + 1) (by decide) m HM.out.1 (by have := HN.out; omega) (c := n + 1 + 1) Z2.out)
  go_wp2_with fail
  refine Calls.mono H3.out ?_
  rintro e w3 ⟨rfl, hk3, hb3⟩
  have L3 := Lib.hid (L2.out.trans (hb3.mono L2.out.size))
  have K3 := Lib.hid hk3
  clear hk3 hb3
  go_wp2
  go_ret
  exact ⟨w2.heap.size, rfl, by have := K3.out; rw [List.append_assoc, List.append_assoc] at this; exact this, L3.out⟩
end Go.Proofs.Ytnligeelbajnpaa
