/-
  The document's own Print of a prefix.
-/
import Derived.Test.YtbpdnohcgojmbaaGreatDoorRPn
import Derived.Test.YtbpdnohcgojmbaaGreatDoorMgA
import Derived.Test.YtbpdnohcgojmbaaGreatDoorPAwk
import Derived.Test.YtbpdnohcgojmbaaGreatDoorPFrame
import Derived.Deep.RegionHeld
namespace Go.Proofs.YtbpdnohcgojmbaaGreatDoor
open Go.RowKit
set_option linter.unusedVariables false

theorem pq_text (s : Bool) (h l : Nat) (b : Int) (p : pvl s h l b = true) (n : Nat) (hn : b = (n : Int)) : (⟨(prn s h l).toArray⟩ : ByteArray) ++ ⟨#[47]⟩ ++ ⟨(dg 10 n).toArray⟩ = ⟨(pprn s h l b).toArray⟩ := by
  rw [pprn_yes p]
  apply ByteArray.ext
  subst hn
  have e : dg 10 n = Lib.decDigits n := dg_ten n
  simp [ByteArray.data_append, e]
set_option maxRecDepth 100000 in
set_option maxHeartbeats 8000000 in
theorem rpprint_in (s : Bool) (h l : Nat) (b : Int) (hh : N64 h) (hl : N64 l) {A B : Int} (e1 : (h : Int) = A) (e2 : (l : Int) = B) {T : ByteArray} (hT : T = ⟨(pprn s h l b).toArray⟩) (w : World) :
    Calls Tryz.prog 8 #[pfx s A B b] w fun e w' => e = .returned (.string T) ∧ Below w.heap.size w w' := by
  have K0 := Lib.hid (Blk.new w 26 #[.bool s, .int .u64 A, .int .u64 B, .int .i64 b])
  have L0 := Lib.hid ((Below.refl _ w).alloc (Nat.le_refl _) (.cells #[.bool s, .int .u64 A, .int .u64 B, .int .i64 b] 26))
  obtain ⟨V, hV⟩ : ∃ V, pvl s h l b = V := ⟨_, rfl⟩
  have HV := Lib.hid (fun W => rpvalid_at s h l b hh hl hV W)
  rw [e1, e2] at HV
  obtain ⟨f0, f1, f2, f3⟩ := K0.out.c4
  cases V with
  | false =>
    have e0 : T = ⟨#[]⟩ := by rw [hT, pprn_no hV]
    subst e0
    clear hT hV hh hl e1 e2
    go_enter Tryz.func8, Tryz.ntmps8
    go_wp2_with fail
    refine Calls.mono (HV.out _) ?_
    rintro e w1 ⟨rfl, hb⟩
    have L1 := Lib.hid (L0.out.trans (hb.mono L0.out.size))
    clear hb f0 f1 f2 f3
    go_wp2
    go_ret
    exact ⟨rfl, L1.out⟩
  | true =>
    obtain ⟨-, o, -⟩ := (pvl_iff hl).1 hV
    obtain ⟨o1, o2⟩ := okn_iff.1 o
    have w128 : wd s ≤ 128 := by unfold wd; split <;> omega
    obtain ⟨n, hn⟩ : ∃ n : Nat, b = (n : Int) := ⟨b.toNat, by omega⟩
    have HPr := Lib.hid (fun W => rprint_any s (h : Int) (l : Int) (n64_u6 hh) (n64_u6 hl) W)
    rw [e1, e2] at HPr
    have HDg := Lib.hid (fun W => rdig_any n 10 10 rfl (by decide) (by decide) (by omega) W)
    rw [← hn] at HDg
    have ht := pq_text s h l b hV n hn
    rw [← hT, e1, e2] at ht
    have hl1 : (prn s A B).length ≤ 200 := prn_len s A B
    obtain ⟨P, hP⟩ : ∃ P : ByteArray, (⟨(prn s A B).toArray⟩ : ByteArray) = P := ⟨_, rfl⟩
    obtain ⟨D, hD⟩ : ∃ D : ByteArray, (⟨(dg 10 n).toArray⟩ : ByteArray) = D := ⟨_, rfl⟩
    have hPs : P.size ≤ 200 := by rw [← hP]; exact hl1
    have hDs : D.size ≤ 3 := by
      rw [← hD]
      have e : dg 10 n = Lib.decDigits n := dg_ten n
      rw [e]
      exact dig_len ⟨n, by omega⟩
    rw [hP] at HPr ht
    rw [hD] at HDg ht
    have ad1 : ∀ W : World, (Op.stringOp .add P ⟨#[47]⟩).run Tryz.prog W = .ok (.string (P ++ ⟨#[47]⟩)) W := fun W => run_string_add_sum _ _ _ (by have : (⟨#[47]⟩ : ByteArray).size = 1 := rfl; omega)
    have ad2 : ∀ W : World, (Op.stringOp .add (P ++ ⟨#[47]⟩) D).run Tryz.prog W = .ok (.string T) W := fun W => by
      rw [← ht]
      exact run_string_add_sum _ _ _ (by rw [ByteArray.size_append]; have : (⟨#[47]⟩ : ByteArray).size = 1 := rfl; omega)
    have hw1 : IntKind.u64.wrap b = b := by rw [IntKind.wrap_u64]; omega
    clear hT hV hh hl e1 e2 o o1 o2 w128 ht hl1 hP hD hPs hDs hn
    go_enter Tryz.func8, Tryz.ntmps8
    go_wp2_with fail
    refine Calls.mono (HV.out _) ?_
    rintro e w1 ⟨rfl, hb⟩
    have L1 := Lib.hid (L0.out.trans (hb.mono L0.out.size))
    have K1 := Lib.hid (K0.out.below hb K0.out.lt)
    clear hb f0 f1 f2 f3
    obtain ⟨M, hM⟩ : ∃ M, w.heap.size = M := ⟨_, rfl⟩
    have HM := Lib.hid hM
    have k1 := K1.out
    have l1 := L1.out
    rw [hM] at k1 l1 ⊢
    have K1 := Lib.hid k1
    have L1 := Lib.hid l1
    have HC : Hid (∀ W', Below w1.heap.size w1 W' → W'.cell? ⟨M, 0, none⟩ = some (.bool s) ∧ W'.cell? ⟨M, 1, none⟩ = some (.int .u64 A) ∧ W'.cell? ⟨M, 2, none⟩ = some (.int .u64 B) ∧ W'.cell? ⟨M, 3, none⟩ = some (.int .i64 b)) := Lib.hid fun W' hb => (K1.out.below hb K1.out.lt).c4
    have hR : Below w1.heap.size w1 w1.drew := (Below.refl _ _).drew
    clear k1 l1 hM
    go_wp2
    refine wp_region_held_drew (S := (fun w' => w'.cell? ⟨M, 0, none⟩ = some (.bool s) ∧ w'.cell? ⟨M, 1, none⟩ = some (.int .u64 A) ∧ w'.cell? ⟨M, 2, none⟩ = some (.int .u64 B) ∧ w'.cell? ⟨M, 3, none⟩ = some (.int .i64 b))) (by kernel_rfl) ?_ (fun hHeld => ?_)
    · exact HC.out _ hR
    refine wpAnyH_take (i := 0) (oi := { dst := some 8, op := Go.Op.fieldAddr 26 (Go.Operand.tmp 1) 0, type := 0, pos := "ref.go:152", after := #[], guard := none }) (v := ?_) rfl (by kernel_rfl) (by kernel_rfl) (by kernel_rfl) (fun _ _ _ h => h) (Or.inl ⟨by rfl, ?_⟩) (by assumption) ?_
    rotate_left
    · intro w hSw
      (try dsimp only at hSw)
      go_simp
      try (with_reducible rfl)
    try simp only [Act.put, List.setIfInBounds_toArray, List.set_cons_zero, List.set_cons_succ]
    refine wpAnyH_take (i := 1) (oi := { dst := some 9, op := Go.Op.load 24 (Go.Operand.tmp 8), type := 24, pos := "ref.go:152", after := #[{ on := 0, ground := Go.Ground.data }], guard := none }) (v := ?_) rfl (by kernel_rfl) (by kernel_rfl) (by kernel_rfl) (fun _ _ _ h => h) (Or.inl ⟨by rfl, ?_⟩) (by assumption) ?_
    rotate_left
    · intro w hSw
      (try dsimp only at hSw)
      go_simp
      try (with_reducible rfl)
    try simp only [Act.put, List.setIfInBounds_toArray, List.set_cons_zero, List.set_cons_succ]
    refine wpAnyH_take (i := 4) (oi := { dst := some 12, op := Go.Op.fieldAddr 26 (Go.Operand.tmp 1) 1, type := 0, pos := "ref.go:152", after := #[], guard := none }) (v := ?_) rfl (by kernel_rfl) (by kernel_rfl) (by kernel_rfl) (fun _ _ _ h => h) (Or.inl ⟨by rfl, ?_⟩) (by assumption) ?_
    rotate_left
    · intro w hSw
      (try dsimp only at hSw)
      go_simp
      try (with_reducible rfl)
    try simp only [Act.put, List.setIfInBounds_toArray, List.set_cons_zero, List.set_cons_succ]
    refine wpAnyH_take (i := 5) (oi := { dst := some 13, op := Go.Op.load 3 (Go.Operand.tmp 12), type := 3, pos := "ref.go:152", after := #[{ on := 4, ground := Go.Ground.data }], guard := none }) (v := ?_) rfl (by kernel_rfl) (by kernel_rfl) (by kernel_rfl) (fun _ _ _ h => h) (Or.inl ⟨by rfl, ?_⟩) (by assumption) ?_
    rotate_left
    · intro w hSw
      (try dsimp only at hSw)
      go_simp
      try (with_reducible rfl)
    try simp only [Act.put, List.setIfInBounds_toArray, List.set_cons_zero, List.set_cons_succ]
    refine wpAnyH_take (i := 6) (oi := { dst := some 14, op := Go.Op.convert 3 22 (Go.Operand.tmp 13), type := 22, pos := "ref.go:152", after := #[{ on := 5, ground := Go.Ground.data }], guard := none }) (v := ?_) rfl (by kernel_rfl) (by kernel_rfl) (by kernel_rfl) (fun _ _ _ h => h) (Or.inl ⟨by rfl, ?_⟩) (by assumption) ?_
    rotate_left
    · intro w hSw
      (try dsimp only at hSw)
      go_simp
      try (with_reducible rfl)
    try simp only [Act.put, List.setIfInBounds_toArray, List.set_cons_zero, List.set_cons_succ]
    refine wpAnyH_ready (rs := [2]) (by kernel_rfl) (by simp) ?_
    refine AllReadyH.cons (o := { dst := some 10, op := Go.Op.call { callee := Go.Callee.value (Go.Operand.func 25), args := #[Go.Operand.tmp 9], argTypes := #[24] }, type := 9, pos := "ref.go:152", after := #[{ on := 1, ground := Go.Ground.data }], guard := none }) rfl (fun K hK => ?_) AllReadyH.nil
    go_simp
    (go_at_call 25; (with_reducible refine Calls.mono (HPr.out _) ?_); rintro e W' ⟨rfl, hb⟩; replace hR := hR.trans (hb.mono hR.size); clear hb)
    go_wp2_with fail
    refine hK.out _ _ ?_ (fun hHeld => ?_)
    · exact HC.out _ hR
    clear hK K
    try simp only [Act.put, List.setIfInBounds_toArray, List.set_cons_zero, List.set_cons_succ]
    refine wpAnyH_take (i := 3) (oi := { dst := some 11, op := Go.Op.binOp Go.BinOp.add 9 (Go.Operand.tmp 10) (Go.Operand.const (Go.Value.string { data := #[47] })) 9, type := 9, pos := "ref.go:152", after := #[{ on := 2, ground := Go.Ground.data }], guard := none }) (v := ?_) rfl (by kernel_rfl) (by kernel_rfl) (by kernel_rfl) (fun _ _ _ h => h) (Or.inl ⟨by rfl, ?_⟩) (by assumption) ?_
    rotate_left
    · intro w hSw
      (try dsimp only at hSw)
      go_simp
      try (with_reducible rfl)
    try simp only [Act.put, List.setIfInBounds_toArray, List.set_cons_zero, List.set_cons_succ]
    refine wpAnyH_ready (rs := [7]) (by kernel_rfl) (by simp) ?_
    refine AllReadyH.cons (o := { dst := some 15, op := Go.Op.call { callee := Go.Callee.value (Go.Operand.func 26), args := #[Go.Operand.tmp 14, Go.Operand.const (Go.Value.int Go.IntKind.u64 10)], argTypes := #[22, 22] }, type := 9, pos := "ref.go:152", after := #[{ on := 6, ground := Go.Ground.data }, { on := 2, ground := Go.Ground.chain }], guard := none }) rfl (fun K hK => ?_) AllReadyH.nil
    go_simp
    (go_at_call 26; (with_reducible refine Calls.mono (HDg.out _) ?_); rintro e W' ⟨rfl, rfl⟩)
    go_wp2_with fail
    refine hK.out _ _ ?_ (fun hHeld => ?_)
    · exact HC.out _ hR
    clear hK K
    try simp only [Act.put, List.setIfInBounds_toArray, List.set_cons_zero, List.set_cons_succ]
    refine wpAnyH_take (i := 8) (oi := { dst := some 16, op := Go.Op.binOp Go.BinOp.add 9 (Go.Operand.tmp 11) (Go.Operand.tmp 15) 9, type := 9, pos := "ref.go:152", after := #[{ on := 3, ground := Go.Ground.data }, { on := 7, ground := Go.Ground.data }], guard := none }) (v := ?_) rfl (by kernel_rfl) (by kernel_rfl) (by kernel_rfl) (fun _ _ _ h => h) (Or.inl ⟨by rfl, ?_⟩) (by assumption) ?_
    rotate_left
    · intro w hSw
      (try dsimp only at hSw)
      go_simp
      try (with_reducible rfl)
    try simp only [Act.put, List.setIfInBounds_toArray, List.set_cons_zero, List.set_cons_succ]
    refine wpAnyH_take (i := 9) (oi := { dst := some 2, op := Go.Op.assign (Go.Operand.tmp 16), type := 9, pos := "ref.go:152", after := #[{ on := 8, ground := Go.Ground.data }, { on := 7, ground := Go.Ground.chain }, { on := 0, ground := Go.Ground.phase }, { on := 1, ground := Go.Ground.phase }, { on := 2, ground := Go.Ground.phase }, { on := 3, ground := Go.Ground.phase }, { on := 4, ground := Go.Ground.phase }, { on := 5, ground := Go.Ground.phase }, { on := 6, ground := Go.Ground.phase }, { on := 7, ground := Go.Ground.phase }, { on := 8, ground := Go.Ground.phase }], guard := none }) (v := ?_) rfl (by kernel_rfl) (by kernel_rfl) (by kernel_rfl) (fun _ _ _ h => h) (Or.inl ⟨by rfl, ?_⟩) (by assumption) ?_
    rotate_left
    · intro w hSw
      (try dsimp only at hSw)
      go_simp
      try (with_reducible rfl)
    try simp only [Act.put, List.setIfInBounds_toArray, List.set_cons_zero, List.set_cons_succ]
    refine wpAnyH_done (by kernel_rfl) ?_ _

    have L2 := Lib.hid (L1.out.trans (hR.mono (by rw [← HM.out]; exact L1.out.size)))
    clear hR
    go_wp2
    go_ret
    exact ⟨rfl, by rw [HM.out]; exact L2.out⟩
end Go.Proofs.YtbpdnohcgojmbaaGreatDoor
