/-
  The program's own tree of free blocks (layer 10): first, least, greatest, newTree.
-/
import Derived.Test.YtiocdojdncomhaaDoorArU
import Derived.Test.YtiocdojdncomhaaDoorShelf
namespace Go.Proofs.YtiocdojdncomhaaDoor
open Go.RowKit
set_option linter.unusedVariables false

theorem bit_of (a m : Nat) (ha : a < 131072) (y : Nat) (hy : a / 2 ^ m % 2 = y) : bits .and .u32 ((a : Int) / 2 ^ m) 1 = (y : Int) := by
  have e : (a : Int) / 2 ^ m = ((a / 2 ^ m : Nat) : Int) := by simp
  have h1 : a / 2 ^ m ≤ a := Nat.div_le_self _ _
  rw [e, show (1 : Int) = ((1 : Nat) : Int) from rfl, u32_and_nat _ _ (by omega) (by omega), Nat.and_one_is_mod, hy]
theorem bit_is (a m : Nat) : a.testBit m = decide (a / 2 ^ m % 2 = 1) := Nat.testBit_eq_decide_div_mod_eq
set_option maxRecDepth 100000 in
set_option maxHeartbeats 4000000 in
theorem first_any (N : Nat) (hN : N ≤ 16) (L : List Bl) (bn : Nat) (f : Nat → Nat) (q m : Nat) (hT : TrO N L f N 0) (hx : fnd m (fre L N 0) = some (q, m)) (w : World) (hb : Blk w bn 69 (nds N f)) :
    Calls Tryd.prog 31 #[treV N bn, .int .i64 (m : Int)] w fun e w' => e = .returned (.int .i64 (q : Int)) ∧ Below w.heap.size w w' := by
  have hmN : m ≤ N := fre_ord L N 0 _ (fnd_mem hx).1
  have hN16 := (pow16 hN).2
  have h17 : 2 ^ (N + 1) ≤ 131072 := by have := Nat.pow_le_pow_right (n := 2) (i := N + 1) (j := 17) (by decide) (by omega); simpa using this
  have HB := Lib.hid hb
  have HR : Hid (∀ k r, m ≤ k → k < N → Vb N r (k + 1) → TrO N L f (k + 1) r → fnd m (fre L (k + 1) r) = some (q, m) → ∃ n1 y r1 : Nat, 2 * ix N r (k + 1) = n1 ∧ f n1 < 131072 ∧ f n1 / 2 ^ m % 2 = y ∧ n1 + 1 < 2 ^ (N + 1) ∧ y < 2 ∧ ix N r1 k = n1 + 1 - y ∧ Vb N r1 k ∧ TrO N L f k r1 ∧ fnd m (fre L k r1) = some (q, m)) := Lib.hid (by
    intro k r hmk hkN hv ht hf
    obtain ⟨h1, h2, h3, h4⟩ := first_step ht hv hmk hf
    have h5 := ix_lt hv.second
    rw [ix_second hv] at h5
    have hcl : clr L r (k + 1) = false := by
      rw [Bool.eq_false_iff]
      intro hc
      rw [frp_clr hc] at hf
      simp [fnd] at hf
      omega
    have hcv : cvr L r (k + 1) = false := by
      rw [Bool.eq_false_iff]
      intro hc
      rw [fre_cvr hc] at hf
      simp [fnd] at hf
    have h6 : f (2 * ix N r (k + 1)) < 131072 := by
      have := (ht.half hcl hcv).1.val
      rw [ix_first hv] at this
      rw [this]
      have b1 := fre_lt L k r
      have h3 : 2 ^ (k + 1) ≤ 131072 := by have := Nat.pow_le_pow_right (n := 2) (i := k + 1) (j := 17) (by decide) (by omega); simpa using this
      omega
    refine ⟨_, _, _, rfl, h6, rfl, h5, Nat.mod_lt _ (by decide), ?_, h1, h3, h4⟩
    rw [h2, bit_is]
    have := Nat.mod_two_eq_zero_or_one (f (2 * ix N r (k + 1)) / 2 ^ m)
    rcases this with e | e <;> simp [e])
  have HPN : Hid (N ≤ 16 ∧ m ≤ N ∧ 2 ^ N ≤ 65536) := Lib.hid ⟨hN, hmN, hN16⟩
  have HE : Hid (∀ r n, Vb N r m → ix N r m = n → fnd m (fre L m r) = some (q, m) → n * 2 ^ m = 2 ^ N + q) := Lib.hid (by
    intro r n hv hn hf
    have := first_end hf
    injection this with e1
    subst e1
    rw [← hn, ix_mul hv])
  unfold treV
  obtain ⟨S, hS⟩ : ∃ S : Nat, 2 ^ (N + 1) = S := ⟨_, rfl⟩
  rw [hS] at HR h17 ⊢
  have HSS := Lib.hid hS
  have hq : q < 2 ^ N := by
    have := fre_mem L N 0 (Nat.dvd_zero _) _ (fnd_mem hx).1
    have := two_pos m
    simp only at *
    omega
  have H0 : Hid (TrO N L f N 0 ∧ fnd m (fre L N 0) = some (q, m)) := Lib.hid ⟨hT, hx⟩
  have HQ : Hid (q < 2 ^ N) := Lib.hid hq
  have j0 : IntKind.i64.wrap ((N : Int) - (m : Int)) = (N : Int) - (m : Int) := by rw [IntKind.wrap_i64]; omega
  obtain ⟨D, hD⟩ : ∃ D : Int, (N : Int) - (m : Int) = D := ⟨_, rfl⟩
  rw [hD] at j0
  have HD := Lib.hid hD
  clear hN16 hb hS hT hx hq
  go_enter Tryd.func31, Tryd.ntmps31
  have K0 := Blk.new w 51 #[.int .i64 (N : Int), .slice (some ⟨bn, 0, none⟩) S S]
  have B0 := HB.out.alloc (.cells #[.int .i64 (N : Int), .slice (some ⟨bn, 0, none⟩) S S] 51)
  have L0 := (Below.refl _ w).alloc (Nat.le_refl _) (.cells #[.int .i64 (N : Int), .slice (some ⟨bn, 0, none⟩) S S] 51)
  obtain ⟨w1, hw1⟩ : ∃ x, w.alloc (.cells #[.int .i64 (N : Int), .slice (some ⟨bn, 0, none⟩) S S] 51) = x := ⟨_, rfl⟩
  rw [hw1] at K0 B0 L0
  obtain ⟨c0, c1⟩ := cells2 K0
  have HB0 := Lib.hid B0
  have HL0 := Lib.hid L0
  clear K0 B0 L0
  go_wp2
  clear hw1
  go_loop [5, 10] (fun nv iv => ∃ (i k : Nat) (n : Int) (r : Nat), iv = .int .i64 (i : Int) ∧ nv = .int .i64 n ∧ m ≤ k ∧ i + k = N ∧ Hid ((ix N r k : Int) = n ∧ Vb N r k ∧ TrO N L f k r ∧ fnd m (fre L k r) = some (q, m))) (fun _ iv => N - (intOf iv).toNat)
  case atStart => exact ⟨0, N, 1, 0, rfl, rfl, hmN, by omega, Lib.hid ⟨by rw [ix_root]; rfl, Vb.root N, H0.out.1, H0.out.2⟩⟩
  case round =>
    obtain ⟨i, k, n, r, rfl, rfl, hmk, hik, hH⟩ := hrel
    obtain ⟨g1, g2, g3, g4⟩ := hH.out
    by_cases hlt : m < k
    · obtain ⟨k, rfl⟩ : ∃ k', k = k' + 1 := ⟨k - 1, by omega⟩
      obtain ⟨n1, y, r1, e1, e2, e3, e4, e5, e6, e7, e8, e9⟩ := HR.out k r (by omega) (by omega) g2 g3 g4
      have k1 := HB0.out.nd (i := n1) (by rw [HSS.out]; omega)
      have hbit := bit_of (f n1) m e2 y e3
      obtain ⟨a, ha⟩ : ∃ a : Int, (f n1 : Int) = a := ⟨_, rfl⟩
      have ha0 : 0 ≤ a := by omega
      rw [ha] at k1 hbit
      have HD2 := HD.out
      have q1 : IntKind.i64.wrap (n * 2) = (n1 : Int) := by rw [IntKind.wrap_i64]; omega
      have q3 : IntKind.i64.wrap ((n1 : Int) + 1) = (n1 : Int) + 1 := by rw [IntKind.wrap_i64]; omega
      have i1 : (n1 : Int) < S := by omega
      have hiI : (i : Int) < D := by omega
      have j3 : IntKind.i64.wrap ((i : Int) + 1) = (i : Int) + 1 := by rw [IntKind.wrap_i64]; have := HPN.out; omega
      have hmI : (0 : Int) ≤ m := by omega
      have HY := Lib.hid (And.intro e6 (And.intro e7 (And.intro e8 e9)))
      clear g1 g2 g3 g4 e1 e2 e3 e4 e6 e7 e8 e9 ha HD2
      rcases (show y = 0 ∨ y = 1 by omega) with rfl | rfl
      · go_wp2
        go_round
        case rel => exact ⟨i + 1, k, (n1 : Int) + 1, r1, by go_num, rfl, by omega, by omega, Lib.hid ⟨by have := HY.out.1; omega, HY.out.2.1, HY.out.2.2.1, HY.out.2.2.2⟩⟩
        case measure => simp [intOf]; omega
      · go_wp2
        go_round
        case rel => exact ⟨i + 1, k, (n1 : Int), r1, by go_num, rfl, by omega, by omega, Lib.hid ⟨by have := HY.out.1; omega, HY.out.2.1, HY.out.2.2.1, HY.out.2.2.2⟩⟩
        case measure => simp [intOf]; omega
    · obtain rfl : k = m := by omega
      have HD2 := HD.out
      have hiI : ¬ (i : Int) < D := by omega
      obtain ⟨n', hn'⟩ : ∃ n' : Nat, ix N r k = n' := ⟨_, rfl⟩
      have hE := HE.out r n' g2 hn' g4
      rw [hn'] at g1
      have hqb := HQ.out
      have hpb := HPN.out
      obtain ⟨T, hTT⟩ : ∃ T : Nat, 2 ^ N = T := ⟨_, rfl⟩
      obtain ⟨U, hU⟩ : ∃ U : Nat, T + q = U := ⟨_, rfl⟩
      rw [hTT] at hE hqb hpb
      have u1 : IntKind.i64.wrap (n * 2 ^ k) = (U : Int) := by
        have e1 : n * 2 ^ k = ((n' * 2 ^ k : Nat) : Int) := by rw [← g1]; simp
        rw [e1, hE, IntKind.wrap_i64]; omega
      have u2 : IntKind.i64.wrap ((2 : Int) ^ N) = (T : Int) := by
        have e1 : ((2 : Int) ^ N) = ((2 ^ N : Nat) : Int) := by simp
        rw [e1, hTT, IntKind.wrap_i64]; omega
      have u3 : IntKind.i64.wrap ((U : Int) - (T : Int)) = (q : Int) := by rw [IntKind.wrap_i64]; omega
      have HC := Lib.hid c0
      clear g1 g2 g3 g4 hE hqb hpb hTT hU hn' HD2
      go_wp2
      refine wp_region_held_drew (S := (fun W => W.cell? ⟨w.heap.size, 0, none⟩ = some (.int .i64 (N : Int)))) (by kernel_rfl) ?_ (fun hHeld => ?_)
      · (exact HC.out)
      refine wpAnyH_take (i := 0) (oi := { dst := some 26, op := Go.Op.move (Go.Operand.tmp 5), type := 3, pos := "tree.go:54", after := #[], guard := none }) (v := ?_) rfl (by kernel_rfl) (by kernel_rfl) (by kernel_rfl) (fun _ _ _ h => h) (Or.inl ⟨by rfl, ?_⟩) (by assumption) ?_
      rotate_left
      · intro w hSw
        (try dsimp only at hSw)
        go_simp
        try (with_reducible rfl)
      try simp only [Act.put, List.setIfInBounds_toArray, List.set_cons_zero, List.set_cons_succ]
      refine wpAnyH_take (i := 1) (oi := { dst := some 27, op := Go.Op.move (Go.Operand.tmp 1), type := 3, pos := "tree.go:54", after := #[], guard := none }) (v := ?_) rfl (by kernel_rfl) (by kernel_rfl) (by kernel_rfl) (fun _ _ _ h => h) (Or.inl ⟨by rfl, ?_⟩) (by assumption) ?_
      rotate_left
      · intro w hSw
        (try dsimp only at hSw)
        go_simp
        try (with_reducible rfl)
      try simp only [Act.put, List.setIfInBounds_toArray, List.set_cons_zero, List.set_cons_succ]
      refine wpAnyH_take (i := 2) (oi := { dst := some 28, op := Go.Op.binOp Go.BinOp.shl 3 (Go.Operand.tmp 26) (Go.Operand.tmp 27) 3, type := 3, pos := "tree.go:54", after := #[{ on := 0, ground := Go.Ground.data }, { on := 1, ground := Go.Ground.data }], guard := none }) (v := ?_) rfl (by kernel_rfl) (by kernel_rfl) (by kernel_rfl) (fun _ _ _ h => h) (Or.inl ⟨by rfl, ?_⟩) (by assumption) ?_
      rotate_left
      · intro w hSw
        (try dsimp only at hSw)
        go_simp
        try (with_reducible rfl)
      try simp only [Act.put, List.setIfInBounds_toArray, List.set_cons_zero, List.set_cons_succ]
      refine wpAnyH_take (i := 3) (oi := { dst := some 29, op := Go.Op.fieldAddr 51 (Go.Operand.tmp 2) 0, type := 0, pos := "tree.go:54", after := #[], guard := none }) (v := ?_) rfl (by kernel_rfl) (by kernel_rfl) (by kernel_rfl) (fun _ _ _ h => h) (Or.inl ⟨by rfl, ?_⟩) (by assumption) ?_
      rotate_left
      · intro w hSw
        (try dsimp only at hSw)
        go_simp
        try (with_reducible rfl)
      try simp only [Act.put, List.setIfInBounds_toArray, List.set_cons_zero, List.set_cons_succ]
      refine wpAnyH_take (i := 4) (oi := { dst := some 30, op := Go.Op.load 3 (Go.Operand.tmp 29), type := 3, pos := "tree.go:54", after := #[{ on := 3, ground := Go.Ground.data }], guard := none }) (v := ?_) rfl (by kernel_rfl) (by kernel_rfl) (by kernel_rfl) (fun _ _ _ h => h) (Or.inl ⟨by rfl, ?_⟩) (by assumption) ?_
      rotate_left
      · intro w hSw
        (try dsimp only at hSw)
        go_simp
        try (with_reducible rfl)
      try simp only [Act.put, List.setIfInBounds_toArray, List.set_cons_zero, List.set_cons_succ]
      refine wpAnyH_take (i := 5) (oi := { dst := some 31, op := Go.Op.binOp Go.BinOp.shl 3 (Go.Operand.const (Go.Value.int Go.IntKind.i64 1)) (Go.Operand.tmp 30) 3, type := 3, pos := "tree.go:54", after := #[{ on := 4, ground := Go.Ground.data }], guard := none }) (v := ?_) rfl (by kernel_rfl) (by kernel_rfl) (by kernel_rfl) (fun _ _ _ h => h) (Or.inl ⟨by rfl, ?_⟩) (by assumption) ?_
      rotate_left
      · intro w hSw
        (try dsimp only at hSw)
        go_simp
        try (with_reducible rfl)
      try simp only [Act.put, List.setIfInBounds_toArray, List.set_cons_zero, List.set_cons_succ]
      refine wpAnyH_take (i := 6) (oi := { dst := some 32, op := Go.Op.binOp Go.BinOp.sub 3 (Go.Operand.tmp 28) (Go.Operand.tmp 31) 3, type := 3, pos := "tree.go:54", after := #[{ on := 2, ground := Go.Ground.data }, { on := 5, ground := Go.Ground.data }], guard := none }) (v := ?_) rfl (by kernel_rfl) (by kernel_rfl) (by kernel_rfl) (fun _ _ _ h => h) (Or.inl ⟨by rfl, ?_⟩) (by assumption) ?_
      rotate_left
      · intro w hSw
        (try dsimp only at hSw)
        go_simp
        try (with_reducible rfl)
      try simp only [Act.put, List.setIfInBounds_toArray, List.set_cons_zero, List.set_cons_succ]
      refine wpAnyH_take (i := 7) (oi := { dst := some 4, op := Go.Op.assign (Go.Operand.tmp 32), type := 3, pos := "tree.go:54", after := #[{ on := 6, ground := Go.Ground.data }, { on := 0, ground := Go.Ground.phase }, { on := 1, ground := Go.Ground.phase }, { on := 2, ground := Go.Ground.phase }, { on := 3, ground := Go.Ground.phase }, { on := 4, ground := Go.Ground.phase }, { on := 5, ground := Go.Ground.phase }, { on := 6, ground := Go.Ground.phase }], guard := none }) (v := ?_) rfl (by kernel_rfl) (by kernel_rfl) (by kernel_rfl) (fun _ _ _ h => h) (Or.inl ⟨by rfl, ?_⟩) (by assumption) ?_
      rotate_left
      · intro w hSw
        (try dsimp only at hSw)
        go_simp
        try (with_reducible rfl)
      try simp only [Act.put, List.setIfInBounds_toArray, List.set_cons_zero, List.set_cons_succ]
      refine wpAnyH_done (by kernel_rfl) ?_ _
      go_wp2
      go_ret
      exact ⟨rfl, HL0.out.drew⟩
theorem least_pure (l : List Bl) (o : Nat) (hx : msk l < 4294967296) : (msk l / 2 ^ o * 2 ^ o = 0 ∧ bst o none l = none) ∨ ∃ h, msk l / 2 ^ o * 2 ^ o ≠ 0 ∧ bst o none l = some h ∧ Lib.ctz 32 (msk l / 2 ^ o * 2 ^ o) = h.2 := by
  have hb : ∀ j, (msk l / 2 ^ o * 2 ^ o).testBit j = (decide (o ≤ j) && (msk l).testBit j) := by
    intro j
    rw [← Nat.shiftRight_eq_div_pow, ← Nat.shiftLeft_eq, Nat.testBit_shiftLeft, Nat.testBit_shiftRight]
    by_cases h : o ≤ j
    · simp [h]
    · simp [h]
  by_cases hex : ∃ f ∈ l, o ≤ f.2
  · right
    obtain ⟨f, hf, hof⟩ := hex
    obtain ⟨h, e, h1, h2, h3⟩ := bst_yes hf hof
    have ht : (msk l / 2 ^ o * 2 ^ o).testBit h.2 = true := by
      rw [hb, msk_bit, List.any_eq_true.2 ⟨h, h1, by simp⟩]
      simp [h2]
    have hle : msk l / 2 ^ o * 2 ^ o ≤ msk l := Nat.div_mul_le_self _ _
    obtain ⟨X, hX⟩ : ∃ X, msk l / 2 ^ o * 2 ^ o = X := ⟨_, rfl⟩
    rw [hX] at hb ht hle ⊢
    have h0 : X ≠ 0 := by
      intro e0
      rw [e0] at ht
      simp at ht
    refine ⟨h, h0, e, ?_⟩
    obtain ⟨q, hq, -⟩ := Lib.ctzFrom_spec 32 X (Nat.pos_of_ne_zero h0) (by omega)
    have hc : Lib.ctz 32 X = Lib.ctzFrom 32 X := by simp [Lib.ctz, h0]
    rw [← hc] at hq
    obtain ⟨c, hcc⟩ : ∃ c, Lib.ctz 32 X = c := ⟨_, rfl⟩
    rw [hcc] at hq ⊢
    have hbc : ∀ j, X.testBit j = (decide (c ≤ j) && (2 * q + 1).testBit (j - c)) := by
      intro j
      rw [hq, Nat.testBit_two_pow_mul]
    have t1 : X.testBit c = true := by rw [hbc]; simp
    have t2 := hb c
    rw [t1] at t2
    have t3 : o ≤ c ∧ (msk l).testBit c = true := by simpa using t2.symm
    rw [msk_bit, List.any_eq_true] at t3
    obtain ⟨t4, g, hg, eg⟩ := t3
    have eg2 : g.2 = c := by simpa using eg
    have t5 := h3 g hg (by omega)
    have t6 := hbc h.2
    rw [ht] at t6
    have t7 : c ≤ h.2 := by
      have := t6.symm
      simp only [Bool.and_eq_true, decide_eq_true_eq] at this
      exact this.1
    omega
  · left
    have hlt : ∀ f ∈ l, f.2 < o := fun f hf => Nat.lt_of_not_le fun h => hex ⟨f, hf, h⟩
    exact ⟨by rw [Nat.div_eq_of_lt (msk_lt hlt), Nat.zero_mul], bst_no hlt⟩
theorem bitLen_spec : ∀ (f x : Nat), x < 2 ^ f → (x = 0 ∧ Lib.bitLenAux f x = 0) ∨ (0 < Lib.bitLenAux f x ∧ 2 ^ (Lib.bitLenAux f x - 1) ≤ x ∧ x < 2 ^ Lib.bitLenAux f x)
  | 0, x, h => .inl ⟨by simpa using h, rfl⟩
  | f + 1, x, h => by
    unfold Lib.bitLenAux
    by_cases h0 : x = 0
    · left; simp [h0]
    · right
      rw [if_neg h0]
      have hs : 2 ^ (f + 1) = 2 ^ f + 2 ^ f := by rw [Nat.pow_succ]; omega
      rcases bitLen_spec f (x / 2) (by omega) with ⟨h1, h2⟩ | ⟨h1, h2, h3⟩
      · rw [h2]; simp; omega
      · obtain ⟨r, hr⟩ : ∃ r, Lib.bitLenAux f (x / 2) = r + 1 := ⟨_, (Nat.succ_pred_eq_of_pos h1).symm⟩
        rw [hr] at h2 h3 ⊢
        have e1 : 2 ^ (r + 1) = 2 ^ r + 2 ^ r := by rw [Nat.pow_succ]; omega
        have e2 : 2 ^ (1 + (r + 1)) = 2 ^ (r + 1) + 2 ^ (r + 1) := by rw [show 1 + (r + 1) = (r + 1) + 1 by omega, Nat.pow_succ]; omega
        simp only [Nat.add_sub_cancel] at h2
        refine ⟨by omega, ?_, by omega⟩
        rw [show 1 + (r + 1) - 1 = r + 1 by omega]
        omega
theorem greatest_pure (l : List Bl) (hx : msk l < 4294967296) : (Lib.bitLen (msk l) : Int) - 1 = grS l := by
  have h64 : msk l < 2 ^ 64 := by omega
  have hs := bitLen_spec 64 (msk l) h64
  unfold Lib.bitLen
  obtain ⟨r, hr⟩ : ∃ r, Lib.bitLenAux 64 (msk l) = r := ⟨_, rfl⟩
  rw [hr] at hs ⊢
  rcases (gr_fold l (-1)).2.2 with e | ⟨f, hf, e⟩
  · have hl : l = [] := by
      cases l with
      | nil => rfl
      | cons x t =>
        have := (gr_fold (x :: t) (-1)).2.1 x (by simp)
        rw [e] at this
        omega
    subst hl
    rcases hs with ⟨-, h2⟩ | ⟨h1, h2, h3⟩
    · rw [h2]; rfl
    · have := two_pos (r - 1)
      simp only [msk] at h2
      omega
  · have hg : grS l = (f.2 : Int) := e
    rw [hg]
    have h1 : ∀ x ∈ l, x.2 < f.2 + 1 := by
      intro x hx
      have := grS_ge hx
      omega
    have h2 := msk_lt h1
    have h3 : 2 ^ f.2 ≤ msk l := by
      apply Nat.ge_two_pow_of_testBit
      rw [msk_bit, List.any_eq_true]
      exact ⟨f, hf, by simp⟩
    rcases hs with ⟨h4, -⟩ | ⟨h4, h5, h6⟩
    · have := two_pos f.2; omega
    · have h7 : r - 1 < f.2 + 1 := (Nat.pow_lt_pow_iff_right (a := 2) (by decide)).1 (by omega)
      have h8 : f.2 < r := (Nat.pow_lt_pow_iff_right (a := 2) (by decide)).1 (by omega)
      omega
/-- What the library's table holds. -/
abbrev EnvA (w : World) : Prop := TabAt 0 Lib.deBruijn32tab w
theorem EnvA.below {w w' : World} {B : Nat} (h : EnvA w) (hb : Below B w w') (hB : 0 < B) : EnvA w' := fun j hj => (hb.cell (p := ⟨0, j, none⟩) hB).trans (h j hj)
theorem EnvA.lt {w : World} (h : EnvA w) : 0 < w.heap.size := by
  have := h 0 (by decide)
  rcases Nat.eq_zero_or_pos w.heap.size with e | e
  · simp [World.cell?, Array.getElem?_eq_none (Nat.le_of_eq e)] at this
  · exact e
def lsS (o : Nat) (l : List Bl) : Int := match bst o none l with | some h => (h.2 : Int) | none => -1
set_option maxRecDepth 100000 in
set_option maxHeartbeats 4000000 in
theorem least_any (N : Nat) (hN : N ≤ 16) (L : List Bl) (bn : Nat) (f : Nat → Nat) (o : Nat) (ho : o ≤ 16) (hT : TrO N L f N 0) (w : World) (hE : EnvA w) (hb : Blk w bn 69 (nds N f)) :
    Calls Tryd.prog 30 #[treV N bn, .int .i64 (o : Int)] w fun e w' => e = .returned (.int .i64 (lsS o (fre L N 0))) ∧ Below w.heap.size w w' := by
  have hx := fre_lt L N 0
  have h17 : 2 ^ (N + 1) ≤ 131072 := by have := Nat.pow_le_pow_right (n := 2) (i := N + 1) (j := 17) (by decide) (by omega); simpa using this
  have hv := hT.val
  rw [ix_root] at hv
  have hp := least_pure (fre L N 0) o (by omega)
  have hle : msk (fre L N 0) / 2 ^ o * 2 ^ o ≤ msk (fre L N 0) := Nat.div_mul_le_self _ _
  have h1S : 1 < 2 ^ (N + 1) := by have := Nat.pow_le_pow_right (n := 2) (i := 1) (j := N + 1) (by decide) (by omega); omega
  have k1 := hb.nd (i := 1) h1S
  rw [hv] at k1
  have hd : ((msk (fre L N 0) : Nat) : Int) / 2 ^ o = ((msk (fre L N 0) / 2 ^ o : Nat) : Int) := by simp
  have hm : IntKind.u32.wrap (((msk (fre L N 0) / 2 ^ o : Nat) : Int) * 2 ^ o) = ((msk (fre L N 0) / 2 ^ o * 2 ^ o : Nat) : Int) := by
    have e1 : ((msk (fre L N 0) / 2 ^ o : Nat) : Int) * 2 ^ o = ((msk (fre L N 0) / 2 ^ o * 2 ^ o : Nat) : Int) := by simp
    rw [e1, IntKind.wrap_u32]; omega
  have hdl : msk (fre L N 0) / 2 ^ o ≤ msk (fre L N 0) := Nat.div_le_self _ _
  obtain ⟨X, hX⟩ : ∃ X : Nat, msk (fre L N 0) / 2 ^ o * 2 ^ o = X := ⟨_, rfl⟩
  rw [hX] at hm hp hle
  obtain ⟨Y, hY⟩ : ∃ Y : Nat, msk (fre L N 0) / 2 ^ o = Y := ⟨_, rfl⟩
  rw [hY] at hd hm hdl
  obtain ⟨x, hxx⟩ : ∃ x : Int, ((msk (fre L N 0) : Nat) : Int) = x := ⟨_, rfl⟩
  rw [hxx] at k1 hd
  have hYI : 0 ≤ (Y : Int) := by omega
  have hY2 : (Y : Int) ≤ 131072 := by omega
  have hX4 : X < 4294967296 := by omega
  have hXI : (X : Int) ≤ 131072 := by omega
  have bnl := hb.lt
  unfold treV
  obtain ⟨S, hS⟩ : ∃ S : Nat, 2 ^ (N + 1) = S := ⟨_, rfl⟩
  rw [hS] at h1S ⊢
  have h1I : (1 : Int) < S := by omega
  obtain ⟨y, hy⟩ : ∃ y : Int, (Y : Int) = y := ⟨_, rfl⟩
  rw [hy] at hd hm hYI hY2
  have k1' := (World.cell?_alloc_lt (w := w) (o := .cells #[.int .i64 (N : Int), .slice (some ⟨bn, 0, none⟩) S S] 51) (a := ⟨bn, 1, none⟩) bnl).trans k1
  have HE := Lib.hid (hE.below ((Below.refl _ w).alloc (Nat.le_refl _) (.cells #[.int .i64 (N : Int), .slice (some ⟨bn, 0, none⟩) S S] 51)) hE.lt)
  have HL := Lib.hid ((Below.refl _ w).alloc (Nat.le_refl _) (.cells #[.int .i64 (N : Int), .slice (some ⟨bn, 0, none⟩) S S] 51))
  rcases hp with ⟨p1, p2⟩ | ⟨h, p1, p2, p3⟩
  · have HP := Lib.hid p2
    rw [p1] at hm
    have hm0 : IntKind.u32.wrap (y * 2 ^ o) = 0 := hm
    clear hx hv hle k1 hb hE hT hm hX hY hxx hdl p1 p2 hS hy hXI h17
    go_enter Tryd.func30, Tryd.ntmps30
    go_wp2
    go_ret
    exact ⟨ar_i64 (by unfold lsS; rw [HP.out]), HL.out⟩
  · have HP := Lib.hid (And.intro p2 p3)
    have hX0 : ((X : Int) == 0) = false := by simp; omega
    have HZ := Lib.hid (Tryd.bits_TrailingZeros32 X hX4)
    clear hx hv hle k1 hb hE hT hX hY hxx hdl p1 p2 p3 hS hy h17
    go_enter Tryd.func30, Tryd.ntmps30
    go_wp2_with (go_at_call 39; refine Calls.mono (HZ.out _ (fun _ => HE.out)) ?_; rintro e w' ⟨rfl, rfl⟩)
    go_ret
    exact ⟨ar_i64 (by unfold lsS; rw [HP.out.1, HP.out.2]), HL.out⟩
set_option maxRecDepth 100000 in
set_option maxHeartbeats 4000000 in
theorem tgreatest_any (N : Nat) (hN : N ≤ 16) (L : List Bl) (bn : Nat) (f : Nat → Nat) (hT : TrO N L f N 0) (w : World) (hb : Blk w bn 69 (nds N f)) :
    Calls Tryd.prog 37 #[treV N bn] w fun e w' => e = .returned (.int .i64 (grS (fre L N 0))) ∧ Below w.heap.size w w' := by
  have hx := fre_lt L N 0
  have h17 : 2 ^ (N + 1) ≤ 131072 := by have := Nat.pow_le_pow_right (n := 2) (i := N + 1) (j := 17) (by decide) (by omega); simpa using this
  have hv := hT.val
  rw [ix_root] at hv
  have hp := greatest_pure (fre L N 0) (by omega)
  have h1S : 1 < 2 ^ (N + 1) := by have := Nat.pow_le_pow_right (n := 2) (i := 1) (j := N + 1) (by decide) (by omega); omega
  have k1 := hb.nd (i := 1) h1S
  rw [hv] at k1
  have HZ := Lib.hid (fun W => Tryd.bits_Len32 ((msk (fre L N 0) : Nat) : Int) W (by omega) (by omega))
  rw [Int.toNat_natCast] at HZ
  obtain ⟨x, hxx⟩ : ∃ x : Int, ((msk (fre L N 0) : Nat) : Int) = x := ⟨_, rfl⟩
  have hg1 : grS (fre L N 0) ≤ 1000 ∧ -1 ≤ grS (fre L N 0) := by
    have h1 := (gr_fold (fre L N 0) (-1)).1
    refine ⟨?_, h1⟩
    have := grS_lt (l := fre L N 0) (o := 17) (fun f hf => by have := fre_ord L N 0 f hf; omega)
    omega
  rw [hxx] at k1 HZ
  obtain ⟨G, hG⟩ : ∃ G : Int, grS (fre L N 0) = G := ⟨_, rfl⟩
  rw [hG] at hp hg1 ⊢
  obtain ⟨Z, hZ⟩ : ∃ Z : Int, (Lib.bitLen (msk (fre L N 0)) : Int) = Z := ⟨_, rfl⟩
  rw [hZ] at hp HZ
  have j1 : IntKind.i64.wrap (Z - 1) = G := by rw [IntKind.wrap_i64]; omega
  have bnl := hb.lt
  unfold treV
  obtain ⟨S, hS⟩ : ∃ S : Nat, 2 ^ (N + 1) = S := ⟨_, rfl⟩
  rw [hS] at h1S ⊢
  have h1I : (1 : Int) < S := by omega
  have k1' := (World.cell?_alloc_lt (w := w) (o := .cells #[.int .i64 (N : Int), .slice (some ⟨bn, 0, none⟩) S S] 51) (a := ⟨bn, 1, none⟩) bnl).trans k1
  have HL := Lib.hid ((Below.refl _ w).alloc (Nat.le_refl _) (.cells #[.int .i64 (N : Int), .slice (some ⟨bn, 0, none⟩) S S] 51))
  clear hx hv hb hT hxx hp hG hZ k1 hS h17 hg1
  go_enter Tryd.func37, Tryd.ntmps37
  go_wp2_with (go_at_call 46; refine Calls.mono (HZ.out _) ?_; rintro e w' ⟨rfl, rfl⟩)
  go_ret
  exact ⟨rfl, HL.out⟩
end Go.Proofs.YtiocdojdncomhaaDoor
