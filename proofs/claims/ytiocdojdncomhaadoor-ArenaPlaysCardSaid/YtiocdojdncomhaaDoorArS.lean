/-
  The program's own tree of free blocks (layer 10): how it lies in memory; joined, node, set.
-/
import Derived.Test.YtiocdojdncomhaaDoorArP
import Derived.Test.YtiocdojdncomhaaDoorArR
import Derived.Laws.BitsAllLaws
namespace Go.Proofs.YtiocdojdncomhaaDoor
open Go.RowKit
set_option linter.unusedVariables false

theorem ar_u32 {a b : Int} (h : a = b) : Ending.returned (.int .u32 a) = .returned (.int .u32 b) := by rw [h]
theorem ar_i64 {a b : Int} (h : a = b) : Ending.returned (.int .i64 a) = .returned (.int .i64 b) := by rw [h]
theorem gb_set (w : World) (b i : Nat) (v : Value) : w.grownBy (w.setCell ⟨b, i, none⟩ v) (some b) :=
  ⟨rfl, rfl, rfl, Nat.le_of_eq (World.size_setCell _ _ _).symm, fun k hk hne => Below.heap_setCell w ⟨b, i, none⟩ v k (fun e => hne (by rw [e]))⟩
theorem gb_drew {w w' : World} {row : Option Nat} (h : w.grownBy w' row) : w.grownBy w'.drew row := ⟨h.os, h.tape, h.output, h.size, h.block⟩
theorem gb_below {w w' : World} (h : Below w.heap.size w w') (row : Option Nat) : w.grownBy w' row := ⟨h.os, h.tape, h.output, h.size, fun k hk _ => h.block k hk⟩
/-- The nodes in memory. -/
def nds (N : Nat) (f : Nat → Nat) : Array Value := ((List.range (2 ^ (N + 1))).map fun i => Value.int .u32 (f i : Int)).toArray
theorem nds_at {N : Nat} {f : Nat → Nat} {i : Nat} (h : i < 2 ^ (N + 1)) : (nds N f)[i]? = some (.int .u32 (f i : Int)) := by
  simp [nds, h]
theorem nds_set (N : Nat) (f : Nat → Nat) (i v : Nat) : (nds N f).setIfInBounds i (.int .u32 (v : Int)) = nds N (up f i v) := by
  apply Array.ext_getElem?
  intro j
  rw [Array.getElem?_setIfInBounds]
  unfold nds up
  by_cases hj : j < 2 ^ (N + 1)
  · by_cases e : i = j
    · subst e; simp [hj]
    · simp [hj, e, Ne.symm e]
  · have e1 : ((List.range (2 ^ (N + 1))).map fun i => Value.int .u32 (f i : Int)).toArray[j]? = none := by simp; omega
    have e2 : ((List.range (2 ^ (N + 1))).map fun j => Value.int .u32 ((if j = i then v else f j : Nat) : Int)).toArray[j]? = none := by simp; omega
    rw [e1, e2]
    split
    · simp; omega
    · rfl
/-- The tree as a value. -/
def treV (N bn : Nat) : Value := .agg #[.int .i64 (N : Int), .slice (some ⟨bn, 0, none⟩) (2 ^ (N + 1)) (2 ^ (N + 1))]
abbrev treC (N bn : Nat) : Array Value := #[.int .i64 (N : Int), .slice (some ⟨bn, 0, none⟩) (2 ^ (N + 1)) (2 ^ (N + 1))]
theorem jn_lt {a b k : Nat} (ha : a < 2 ^ (k + 1)) (hb : b < 2 ^ (k + 1)) : jn a b k < 2 ^ (k + 2) := by
  have h1 : 2 ^ (k + 2) = 2 ^ (k + 1) + 2 ^ (k + 1) := by rw [Nat.pow_succ 2 (k + 1)]; omega
  unfold jn
  split
  · have := two_pos (k + 1); omega
  · have := Nat.or_lt_two_pow ha hb; omega
set_option maxRecDepth 100000 in
set_option maxHeartbeats 2000000 in
theorem joined_any (a b k : Nat) (ha : a < 131072) (hb : b < 131072) (hk : k ≤ 16) (w : World) :
    Calls Tryd.prog 47 #[.int .u32 (a : Int), .int .u32 (b : Int), .int .i64 (k : Int)] w fun e w' => e = .returned (.int .u32 (jn a b k : Int)) ∧ w = w' := by
  have hp := pow16 hk
  have j1 : IntKind.u32.wrap ((2 : Int) ^ k) = ((2 ^ k : Nat) : Int) := by
    have e : ((2 : Int) ^ k) = ((2 ^ k : Nat) : Int) := by simp
    rw [e, IntKind.wrap_u32]; omega
  have ho := u32_or_nat a b (by omega) (by omega)
  have hJ : jn a b k = if a = 2 ^ k ∧ b = 2 ^ k then 2 * 2 ^ k else a ||| b := by unfold jn; rw [Nat.pow_succ, Nat.mul_comm]
  rw [hJ]
  obtain ⟨P, hP⟩ : ∃ P : Nat, 2 ^ k = P := ⟨_, rfl⟩
  rw [hP] at hp j1 ⊢
  have j2 : IntKind.u32.wrap ((P : Int) * 2) = 2 * (P : Int) := by rw [IntKind.wrap_u32]; omega
  have HO := Lib.hid ho
  clear ho hJ hP
  by_cases h1 : a = P
  · subst h1
    by_cases h2 : b = a
    · subst h2
      go_enter Tryd.func47, Tryd.ntmps47
      go_wp2
      go_ret
      exact ⟨ar_u32 (by simp), rfl⟩
    · have d2 : ((b : Int) == (a : Int)) = false := by simp; omega
      go_enter Tryd.func47, Tryd.ntmps47
      go_wp2
      go_ret
      exact ⟨ar_u32 HO.out, rfl⟩
  · have d1 : ((a : Int) == (P : Int)) = false := by simp; omega
    go_enter Tryd.func47, Tryd.ntmps47
    go_wp2
    go_ret
    exact ⟨ar_u32 HO.out, rfl⟩
set_option maxRecDepth 100000 in
set_option maxHeartbeats 2000000 in
theorem node_any (N bn p k : Nat) (hN : N ≤ 16) (hk : k ≤ 16) (hp : p < 2 ^ N) (w : World) :
    Calls Tryd.prog 40 #[treV N bn, .int .i64 (p : Int), .int .i64 (k : Int)] w fun e w' => e = .returned (.int .i64 (ix N p k : Int)) ∧ Below w.heap.size w w' := by
  have h16 := pow16 hN
  have HX : Hid ((((2 ^ N + p : Nat)) : Int) / 2 ^ k = (ix N p k : Int)) := Lib.hid (by unfold ix; simp)
  have e : ((2 : Int) ^ N) = ((2 ^ N : Nat) : Int) := by simp
  have j1 : IntKind.i64.wrap ((2 : Int) ^ N) = ((2 ^ N : Nat) : Int) := by rw [e, IntKind.wrap_i64]; omega
  unfold treV
  obtain ⟨S, hS⟩ : ∃ S : Nat, 2 ^ (N + 1) = S := ⟨_, rfl⟩
  rw [hS]
  obtain ⟨P, hP⟩ : ∃ P : Nat, 2 ^ N = P := ⟨_, rfl⟩
  rw [hP] at h16 j1 hp HX
  have j2 : IntKind.i64.wrap ((P : Int) + (p : Int)) = (P : Int) + (p : Int) := by rw [IntKind.wrap_i64]; omega
  clear e hP hS
  go_enter Tryd.func40, Tryd.ntmps40
  go_wp2
  go_ret
  refine ⟨ar_i64 ?_, (Below.refl _ _).alloc (Nat.le_refl _) _⟩
  rw [← HX.out]
  simp
theorem Blk.nd {w : World} {bn N : Nat} {t : TypeId} {f : Nat → Nat} (h : Blk w bn t (nds N f)) {i : Nat} (hi : i < 2 ^ (N + 1)) : w.cell? ⟨bn, i, none⟩ = some (.int .u32 (f i : Int)) := (h.cell i).trans (nds_at hi)
theorem Blk.ndset {w : World} {bn N : Nat} {t : TypeId} {f : Nat → Nat} (h : Blk w bn t (nds N f)) (i v : Nat) : Blk (w.setCell ⟨bn, i, none⟩ (.int .u32 (v : Int))) bn t (nds N (up f i v)) := by
  rw [← nds_set]; exact h.set_ i _
set_option maxRecDepth 100000 in
set_option maxHeartbeats 4000000 in
theorem set_any (N : Nat) (hN : N ≤ 16) (M : List Bl) (bn : Nat) (f : Nat → Nat) (p o v : Nat) (hv : Vb N p o) (hS : Sbs N M f p o) (he : v = msk (fre M o p)) (hs : clr M p o = true ∨ cvr M p o = true) (w : World) (hb : Blk w bn 69 (nds N f)) :
    Calls Tryd.prog 38 #[treV N bn, .int .i64 (p : Int), .int .i64 (o : Int), .int .u32 (v : Int)] w fun e w' => e = .returned (.tuple #[]) ∧ ∃ f', Blk w' bn 69 (nds N f') ∧ TrO N M f' N 0 ∧ w.grownBy w' (some bn) := by
  have hp0 := two_pos o
  have hpN : p < 2 ^ N := by have := hv.2; omega
  have ho : o ≤ N := hv.le
  have HN := Lib.hid (fun W => node_any N bn p o hN (by omega) hpN W)
  obtain ⟨s1, s2⟩ := set_start (v := v) hv hS he hs
  have HS := Lib.hid (And.intro s1 s2)
  have hlt := ix_lt hv
  have h17 : 2 ^ (N + 1) ≤ 131072 := by have := Nat.pow_le_pow_right (n := 2) (i := N + 1) (j := 17) (by decide) (by omega); simpa using this
  have HB := Lib.hid hb
  have HT : Hid (∀ j, o ≤ j → j < N → ∀ f', TrO N M f' j (dn p j) → Sbs N M f' p j → ∃ n1, ix N p (j + 1) = n1 ∧ ix N p j / 2 = n1 ∧ 0 < n1 ∧ 2 * n1 + 1 < 2 ^ (N + 1) ∧ f' (2 * n1) < 131072 ∧ f' (2 * n1 + 1) < 131072 ∧
      TrO N M (up f' n1 (jn (f' (2 * n1)) (f' (2 * n1 + 1)) j)) (j + 1) (dn p (j + 1)) ∧ Sbs N M (up f' n1 (jn (f' (2 * n1)) (f' (2 * n1 + 1)) j)) p (j + 1)) := Lib.hid (by
    intro j hoj hjN f' t1 t2
    have hvj := dn_vb (k := j + 1) hpN hjN
    have e1 := ix_first hvj
    have e2 := ix_second hvj
    have l2 := ix_lt hvj.second
    rw [ix_dn (k := j + 1) hjN] at e1 e2
    obtain ⟨t3, t4⟩ := set_step hpN hjN t1 t2
    have hv1 : f' (2 * ix N p (j + 1)) < 131072 ∧ f' (2 * ix N p (j + 1) + 1) < 131072 := by
      have q1 := t1.val
      have q2 := (t2 j (Nat.le_refl _) hjN).val
      have b1 := fre_lt M j (dn p j)
      have b2 := fre_lt M j (sb p j)
      have h3 : 2 ^ (j + 1) ≤ 131072 := by have := Nat.pow_le_pow_right (n := 2) (i := j + 1) (j := 17) (by decide) (by omega); simpa using this
      rw [← e2, ← e1]
      rcases halves p j with ⟨a1, a2⟩ | ⟨a1, a2⟩
      · rw [← a2, ← a1, q1, q2]; omega
      · rw [← a1, ← a2, q1, q2]; omega
    exact ⟨_, rfl, ix_up N p j, by have := ix_pos hvj; rw [ix_dn (k := j + 1) hjN] at this; exact this, by rw [← e2]; exact l2, hv1.1, hv1.2, t3, t4⟩)
  unfold treV at HN ⊢
  obtain ⟨S, hS⟩ : ∃ S : Nat, 2 ^ (N + 1) = S := ⟨_, rfl⟩
  rw [hS] at HN hlt h17 HT ⊢
  obtain ⟨n, hn⟩ : ∃ n : Nat, ix N p o = n := ⟨_, rfl⟩
  rw [hn] at HN hlt HS
  have hnS : (n : Int) < S := by omega
  have HI := Lib.hid hn
  have HSS := Lib.hid hS
  have HPN := Lib.hid hpN
  clear hp0 hpN hv hS he hs s1 s2 hb hn hlt
  go_enter Tryd.func38, Tryd.ntmps38
  go_wp2_with fail
  refine Calls.mono (HN.out _) ?_
  rintro e w2 ⟨rfl, hb2⟩
  have K2 := Lib.hid ((Blk.new w 51 #[.int .i64 (N : Int), .slice (some ⟨bn, 0, none⟩) S S]).below hb2 (by simp))
  have B2 := Lib.hid ((HB.out.alloc (.cells #[.int .i64 (N : Int), .slice (some ⟨bn, 0, none⟩) S S] 51)).below hb2 (by have := HB.out.lt; simp; omega))
  have G2 := Lib.hid ((World.grownBy_alloc w (.cells #[.int .i64 (N : Int), .slice (some ⟨bn, 0, none⟩) S S] 51) (some bn)).trans (gb_below hb2 _))
  clear hb2
  have c0 := (K2.out.cell 0).trans (show _ = some (Value.int .i64 (N : Int)) by rfl)
  have c1 := (K2.out.cell 1).trans (show _ = some (Value.slice (some ⟨bn, 0, none⟩) S S) by rfl)
  have cn := B2.out.nd (i := n) (by rw [HSS.out]; omega)
  have fn := B2.out.frozen n
  go_wp2
  clear c0 c1 cn fn HN
  have hne : w.heap.size ≠ bn := by have := HB.out.lt; omega
  go_loopw [8, 9] (fun nv kv wr => ∃ (j : Nat) (m : Int) (f' : Nat → Nat), nv = .int .i64 m ∧ kv = .int .i64 (j : Int) ∧ o ≤ j ∧ j ≤ N ∧ Hid ((ix N p j : Int) = m) ∧ Hid (TrO N M f' j (dn p j) ∧ Sbs N M f' p j) ∧
    Hid (Blk wr bn 69 (nds N f') ∧ Blk wr w.heap.size 51 #[.int .i64 (N : Int), .slice (some ⟨bn, 0, none⟩) S S] ∧ w.grownBy wr (some bn))) (fun _ kv _ => N - (intOf kv).toNat)
  case atStart => exact ⟨o, (n : Int), up f n v, rfl, rfl, Nat.le_refl _, ho, Lib.hid (by rw [HI.out]), HS, Lib.hid ⟨B2.out.ndset n v, K2.out.far hne _, G2.out.trans (gb_set _ _ _ _)⟩⟩
  case round =>
    obtain ⟨j, m, f', rfl, rfl, hoj, hjN, hI, hT, hW⟩ := hrel
    have c0 := (hW.out.2.1.cell 0).trans (show _ = some (Value.int .i64 (N : Int)) by rfl)
    have c1 := (hW.out.2.1.cell 1).trans (show _ = some (Value.slice (some ⟨bn, 0, none⟩) S S) by rfl)
    by_cases hlt : j < N
    · obtain ⟨n1, e1, e2, h0, h1, v1, v2, t3⟩ := HT.out j hoj hlt f' hT.out.1 hT.out.2
      have hmI := hI.out
      have HT3 := Lib.hid t3
      have HI3 := Lib.hid e1
      have k1 := hW.out.1.nd (i := 2 * n1) (by rw [HSS.out]; omega)
      have k2 := hW.out.1.nd (i := 2 * n1 + 1) (by rw [HSS.out]; omega)
      have k3 := hW.out.1.nd (i := n1) (by rw [HSS.out]; omega)
      have kf := hW.out.1.frozen n1
      have HJ := Lib.hid (fun W => joined_any (f' (2 * n1)) (f' (2 * n1 + 1)) j v1 v2 (by omega) W)
      obtain ⟨C1, hC1⟩ : ∃ C : Nat, 2 * n1 = C := ⟨_, rfl⟩
      obtain ⟨C2, hC2⟩ : ∃ C : Nat, C1 + 1 = C := ⟨_, rfl⟩
      rw [hC1] at k1 k2 HJ HT3
      rw [hC2] at k2 HJ HT3
      obtain ⟨a, ha⟩ : ∃ a : Int, (f' C1 : Int) = a := ⟨_, rfl⟩
      obtain ⟨b, hb⟩ : ∃ b : Int, (f' C2 : Int) = b := ⟨_, rfl⟩
      rw [ha] at k1 HJ
      rw [hb] at k2 HJ
      obtain ⟨z, hz⟩ : ∃ z : Int, (f' n1 : Int) = z := ⟨_, rfl⟩
      rw [hz] at k3
      obtain ⟨y, hy⟩ : ∃ y : Nat, jn (f' C1) (f' C2) j = y := ⟨_, rfl⟩
      rw [hy] at HJ HT3
      have q1 : Int.tdiv m 2 = (n1 : Int) := by rw [Int.tdiv_eq_ediv_of_nonneg (by omega)]; omega
      have q1w : IntKind.i64.wrap (n1 : Int) = (n1 : Int) := by rw [IntKind.wrap_i64]; omega
      have q2 : IntKind.i64.wrap (2 * (n1 : Int)) = (C1 : Int) := by rw [IntKind.wrap_i64]; omega
      have q3 : IntKind.i64.wrap ((C1 : Int) + 1) = (C2 : Int) := by rw [IntKind.wrap_i64]; omega
      have i1 : (C1 : Int) < S := by omega
      have i2 : (C2 : Int) < S := by omega
      have i3 : (n1 : Int) < S := by omega
      have hjI : (j : Int) < N := by omega
      have j3 : IntKind.i64.wrap ((j : Int) + 1) = (j : Int) + 1 := by rw [IntKind.wrap_i64]; omega
      have HC := Lib.hid (And.intro c0 (And.intro c1 (And.intro k1 k2)))
      have f1 : C1 ≠ n1 := by omega
      have f2 : C2 ≠ n1 := by omega
      have HF := Lib.hid (And.intro f1 f2)
      clear hI hmI hC1 hC2 e1 e2 t3 v1 v2 ha hb hz hy f1 f2
      go_wp2
      refine wp_region_held_drew (S := (fun W => W.cell? ⟨w.heap.size, 0, none⟩ = some (.int .i64 (N : Int)) ∧ W.cell? ⟨w.heap.size, 1, none⟩ = some (.slice (some ⟨bn, 0, none⟩) S S) ∧ W.cell? ⟨bn, C1, none⟩ = some (.int .u32 a) ∧ W.cell? ⟨bn, C2, none⟩ = some (.int .u32 b))) (by kernel_rfl) ?_ (fun hHeld => ?_)
      · (exact HC.out)
      refine wpAnyH_take (i := 0) (oi := { dst := some 28, op := Go.Op.fieldAddr 51 (Go.Operand.tmp 4) 1, type := 0, pos := "tree.go:75", after := #[], guard := none }) (v := ?_) rfl (by kernel_rfl) (by kernel_rfl) (by kernel_rfl) (fun _ _ _ h => h) (Or.inl ⟨by rfl, ?_⟩) (by assumption) ?_
      rotate_left
      · intro w hSw
        (try dsimp only at hSw)
        go_simp
        try (with_reducible rfl)
      try simp only [Act.put, List.setIfInBounds_toArray, List.set_cons_zero, List.set_cons_succ]
      refine wpAnyH_take (i := 1) (oi := { dst := some 29, op := Go.Op.load 49 (Go.Operand.tmp 28), type := 49, pos := "tree.go:75", after := #[{ on := 0, ground := Go.Ground.data }], guard := none }) (v := ?_) rfl (by kernel_rfl) (by kernel_rfl) (by kernel_rfl) (fun _ _ _ h => h) (Or.inl ⟨by rfl, ?_⟩) (by assumption) ?_
      rotate_left
      · intro w hSw
        (try dsimp only at hSw)
        go_simp
        try (with_reducible rfl)
      try simp only [Act.put, List.setIfInBounds_toArray, List.set_cons_zero, List.set_cons_succ]
      refine wpAnyH_take (i := 2) (oi := { dst := some 30, op := Go.Op.move (Go.Operand.tmp 8), type := 3, pos := "tree.go:75", after := #[], guard := none }) (v := ?_) rfl (by kernel_rfl) (by kernel_rfl) (by kernel_rfl) (fun _ _ _ h => h) (Or.inl ⟨by rfl, ?_⟩) (by assumption) ?_
      rotate_left
      · intro w hSw
        (try dsimp only at hSw)
        go_simp
        try (with_reducible rfl)
      try simp only [Act.put, List.setIfInBounds_toArray, List.set_cons_zero, List.set_cons_succ]
      refine wpAnyH_take (i := 3) (oi := { dst := some 31, op := Go.Op.fieldAddr 51 (Go.Operand.tmp 4) 1, type := 0, pos := "tree.go:75", after := #[], guard := none }) (v := ?_) rfl (by kernel_rfl) (by kernel_rfl) (by kernel_rfl) (fun _ _ _ h => h) (Or.inl ⟨by rfl, ?_⟩) (by assumption) ?_
      rotate_left
      · intro w hSw
        (try dsimp only at hSw)
        go_simp
        try (with_reducible rfl)
      try simp only [Act.put, List.setIfInBounds_toArray, List.set_cons_zero, List.set_cons_succ]
      refine wpAnyH_take (i := 4) (oi := { dst := some 32, op := Go.Op.load 49 (Go.Operand.tmp 31), type := 49, pos := "tree.go:75", after := #[{ on := 3, ground := Go.Ground.data }], guard := none }) (v := ?_) rfl (by kernel_rfl) (by kernel_rfl) (by kernel_rfl) (fun _ _ _ h => h) (Or.inl ⟨by rfl, ?_⟩) (by assumption) ?_
      rotate_left
      · intro w hSw
        (try dsimp only at hSw)
        go_simp
        try (with_reducible rfl)
      try simp only [Act.put, List.setIfInBounds_toArray, List.set_cons_zero, List.set_cons_succ]
      refine wpAnyH_take (i := 5) (oi := { dst := some 33, op := Go.Op.move (Go.Operand.tmp 8), type := 3, pos := "tree.go:75", after := #[], guard := none }) (v := ?_) rfl (by kernel_rfl) (by kernel_rfl) (by kernel_rfl) (fun _ _ _ h => h) (Or.inl ⟨by rfl, ?_⟩) (by assumption) ?_
      rotate_left
      · intro w hSw
        (try dsimp only at hSw)
        go_simp
        try (with_reducible rfl)
      try simp only [Act.put, List.setIfInBounds_toArray, List.set_cons_zero, List.set_cons_succ]
      refine wpAnyH_take (i := 6) (oi := { dst := some 34, op := Go.Op.binOp Go.BinOp.mul 3 (Go.Operand.const (Go.Value.int Go.IntKind.i64 2)) (Go.Operand.tmp 33) 3, type := 3, pos := "tree.go:75", after := #[{ on := 5, ground := Go.Ground.data }], guard := none }) (v := ?_) rfl (by kernel_rfl) (by kernel_rfl) (by kernel_rfl) (fun _ _ _ h => h) (Or.inl ⟨by rfl, ?_⟩) (by assumption) ?_
      rotate_left
      · intro w hSw
        (try dsimp only at hSw)
        go_simp
        try (with_reducible rfl)
      try simp only [Act.put, List.setIfInBounds_toArray, List.set_cons_zero, List.set_cons_succ]
      refine wpAnyH_take (i := 7) (oi := { dst := some 35, op := Go.Op.indexAddr 49 (Go.Operand.tmp 32) (Go.Operand.tmp 34), type := 0, pos := "tree.go:75", after := #[{ on := 4, ground := Go.Ground.data }, { on := 6, ground := Go.Ground.data }], guard := none }) (v := ?_) rfl (by kernel_rfl) (by kernel_rfl) (by kernel_rfl) (fun _ _ _ h => h) (Or.inl ⟨by rfl, ?_⟩) (by assumption) ?_
      rotate_left
      · intro w hSw
        (try dsimp only at hSw)
        go_simp
        try (with_reducible rfl)
      try simp only [Act.put, List.setIfInBounds_toArray, List.set_cons_zero, List.set_cons_succ]
      refine wpAnyH_take (i := 8) (oi := { dst := some 36, op := Go.Op.load 69 (Go.Operand.tmp 35), type := 69, pos := "tree.go:75", after := #[{ on := 7, ground := Go.Ground.data }], guard := none }) (v := ?_) rfl (by kernel_rfl) (by kernel_rfl) (by kernel_rfl) (fun _ _ _ h => h) (Or.inl ⟨by rfl, ?_⟩) (by assumption) ?_
      rotate_left
      · intro w hSw
        (try dsimp only at hSw)
        go_simp
        try (with_reducible rfl)
      try simp only [Act.put, List.setIfInBounds_toArray, List.set_cons_zero, List.set_cons_succ]
      refine wpAnyH_take (i := 9) (oi := { dst := some 37, op := Go.Op.fieldAddr 51 (Go.Operand.tmp 4) 1, type := 0, pos := "tree.go:75", after := #[], guard := none }) (v := ?_) rfl (by kernel_rfl) (by kernel_rfl) (by kernel_rfl) (fun _ _ _ h => h) (Or.inl ⟨by rfl, ?_⟩) (by assumption) ?_
      rotate_left
      · intro w hSw
        (try dsimp only at hSw)
        go_simp
        try (with_reducible rfl)
      try simp only [Act.put, List.setIfInBounds_toArray, List.set_cons_zero, List.set_cons_succ]
      refine wpAnyH_take (i := 10) (oi := { dst := some 38, op := Go.Op.load 49 (Go.Operand.tmp 37), type := 49, pos := "tree.go:75", after := #[{ on := 9, ground := Go.Ground.data }], guard := none }) (v := ?_) rfl (by kernel_rfl) (by kernel_rfl) (by kernel_rfl) (fun _ _ _ h => h) (Or.inl ⟨by rfl, ?_⟩) (by assumption) ?_
      rotate_left
      · intro w hSw
        (try dsimp only at hSw)
        go_simp
        try (with_reducible rfl)
      try simp only [Act.put, List.setIfInBounds_toArray, List.set_cons_zero, List.set_cons_succ]
      refine wpAnyH_take (i := 11) (oi := { dst := some 39, op := Go.Op.move (Go.Operand.tmp 8), type := 3, pos := "tree.go:75", after := #[], guard := none }) (v := ?_) rfl (by kernel_rfl) (by kernel_rfl) (by kernel_rfl) (fun _ _ _ h => h) (Or.inl ⟨by rfl, ?_⟩) (by assumption) ?_
      rotate_left
      · intro w hSw
        (try dsimp only at hSw)
        go_simp
        try (with_reducible rfl)
      try simp only [Act.put, List.setIfInBounds_toArray, List.set_cons_zero, List.set_cons_succ]
      refine wpAnyH_take (i := 12) (oi := { dst := some 40, op := Go.Op.binOp Go.BinOp.mul 3 (Go.Operand.const (Go.Value.int Go.IntKind.i64 2)) (Go.Operand.tmp 39) 3, type := 3, pos := "tree.go:75", after := #[{ on := 11, ground := Go.Ground.data }], guard := none }) (v := ?_) rfl (by kernel_rfl) (by kernel_rfl) (by kernel_rfl) (fun _ _ _ h => h) (Or.inl ⟨by rfl, ?_⟩) (by assumption) ?_
      rotate_left
      · intro w hSw
        (try dsimp only at hSw)
        go_simp
        try (with_reducible rfl)
      try simp only [Act.put, List.setIfInBounds_toArray, List.set_cons_zero, List.set_cons_succ]
      refine wpAnyH_take (i := 13) (oi := { dst := some 41, op := Go.Op.binOp Go.BinOp.add 3 (Go.Operand.tmp 40) (Go.Operand.const (Go.Value.int Go.IntKind.i64 1)) 3, type := 3, pos := "tree.go:75", after := #[{ on := 12, ground := Go.Ground.data }], guard := none }) (v := ?_) rfl (by kernel_rfl) (by kernel_rfl) (by kernel_rfl) (fun _ _ _ h => h) (Or.inl ⟨by rfl, ?_⟩) (by assumption) ?_
      rotate_left
      · intro w hSw
        (try dsimp only at hSw)
        go_simp
        try (with_reducible rfl)
      try simp only [Act.put, List.setIfInBounds_toArray, List.set_cons_zero, List.set_cons_succ]
      refine wpAnyH_take (i := 14) (oi := { dst := some 42, op := Go.Op.indexAddr 49 (Go.Operand.tmp 38) (Go.Operand.tmp 41), type := 0, pos := "tree.go:75", after := #[{ on := 10, ground := Go.Ground.data }, { on := 13, ground := Go.Ground.data }], guard := none }) (v := ?_) rfl (by kernel_rfl) (by kernel_rfl) (by kernel_rfl) (fun _ _ _ h => h) (Or.inl ⟨by rfl, ?_⟩) (by assumption) ?_
      rotate_left
      · intro w hSw
        (try dsimp only at hSw)
        go_simp
        try (with_reducible rfl)
      try simp only [Act.put, List.setIfInBounds_toArray, List.set_cons_zero, List.set_cons_succ]
      refine wpAnyH_take (i := 15) (oi := { dst := some 43, op := Go.Op.load 69 (Go.Operand.tmp 42), type := 69, pos := "tree.go:75", after := #[{ on := 14, ground := Go.Ground.data }], guard := none }) (v := ?_) rfl (by kernel_rfl) (by kernel_rfl) (by kernel_rfl) (fun _ _ _ h => h) (Or.inl ⟨by rfl, ?_⟩) (by assumption) ?_
      rotate_left
      · intro w hSw
        (try dsimp only at hSw)
        go_simp
        try (with_reducible rfl)
      try simp only [Act.put, List.setIfInBounds_toArray, List.set_cons_zero, List.set_cons_succ]
      refine wpAnyH_take (i := 16) (oi := { dst := some 44, op := Go.Op.move (Go.Operand.tmp 9), type := 3, pos := "tree.go:75", after := #[], guard := none }) (v := ?_) rfl (by kernel_rfl) (by kernel_rfl) (by kernel_rfl) (fun _ _ _ h => h) (Or.inl ⟨by rfl, ?_⟩) (by assumption) ?_
      rotate_left
      · intro w hSw
        (try dsimp only at hSw)
        go_simp
        try (with_reducible rfl)
      try simp only [Act.put, List.setIfInBounds_toArray, List.set_cons_zero, List.set_cons_succ]
      refine wpAnyH_ready (rs := [17]) (by kernel_rfl) (by simp) ?_
      refine AllReadyH.cons (o := { dst := some 45, op := Go.Op.call { callee := Go.Callee.value (Go.Operand.func 47), args := #[Go.Operand.tmp 36, Go.Operand.tmp 43, Go.Operand.tmp 44], argTypes := #[69, 69, 3] }, type := 69, pos := "tree.go:75", after := #[{ on := 8, ground := Go.Ground.data }, { on := 15, ground := Go.Ground.data }, { on := 16, ground := Go.Ground.data }], guard := none }) rfl (fun K hK => ?_) AllReadyH.nil
      go_simp
      (go_at_call 47; (with_reducible refine Calls.mono (HJ.out _) ?_); rintro e W' ⟨rfl, rfl⟩)
      go_wp2_with fail
      refine hK.out _ _ ?_ (fun hHeld => ?_)
      · (exact HC.out)
      clear hK K
      try simp only [Act.put, List.setIfInBounds_toArray, List.set_cons_zero, List.set_cons_succ]
      refine wpAnyH_take (i := 18) (oi := { dst := some 46, op := Go.Op.indexAddr 49 (Go.Operand.tmp 29) (Go.Operand.tmp 30), type := 0, pos := "tree.go:75", after := #[{ on := 1, ground := Go.Ground.data }, { on := 2, ground := Go.Ground.data }, { on := 0, ground := Go.Ground.phase }, { on := 1, ground := Go.Ground.phase }, { on := 2, ground := Go.Ground.phase }, { on := 3, ground := Go.Ground.phase }, { on := 4, ground := Go.Ground.phase }, { on := 5, ground := Go.Ground.phase }, { on := 6, ground := Go.Ground.phase }, { on := 7, ground := Go.Ground.phase }, { on := 8, ground := Go.Ground.phase }, { on := 9, ground := Go.Ground.phase }, { on := 10, ground := Go.Ground.phase }, { on := 11, ground := Go.Ground.phase }, { on := 12, ground := Go.Ground.phase }, { on := 13, ground := Go.Ground.phase }, { on := 14, ground := Go.Ground.phase }, { on := 15, ground := Go.Ground.phase }, { on := 16, ground := Go.Ground.phase }, { on := 17, ground := Go.Ground.phase }], guard := none }) (v := ?_) rfl (by kernel_rfl) (by kernel_rfl) (by kernel_rfl) (fun _ _ _ h => h) (Or.inl ⟨by rfl, ?_⟩) (by assumption) ?_
      rotate_left
      · intro w hSw
        (try dsimp only at hSw)
        go_simp
        try (with_reducible rfl)
      try simp only [Act.put, List.setIfInBounds_toArray, List.set_cons_zero, List.set_cons_succ]
      refine wpAnyH_ready (rs := [19]) (by kernel_rfl) (by simp) ?_
      refine AllReadyH.cons (o := { dst := none, op := Go.Op.store 69 (Go.Operand.tmp 46) (Go.Operand.tmp 45), type := 0, pos := "tree.go:75", after := #[{ on := 18, ground := Go.Ground.data }, { on := 17, ground := Go.Ground.data }, { on := 17, ground := Go.Ground.chain }, { on := 0, ground := Go.Ground.phase }, { on := 1, ground := Go.Ground.phase }, { on := 2, ground := Go.Ground.phase }, { on := 3, ground := Go.Ground.phase }, { on := 4, ground := Go.Ground.phase }, { on := 5, ground := Go.Ground.phase }, { on := 6, ground := Go.Ground.phase }, { on := 7, ground := Go.Ground.phase }, { on := 8, ground := Go.Ground.phase }, { on := 9, ground := Go.Ground.phase }, { on := 10, ground := Go.Ground.phase }, { on := 11, ground := Go.Ground.phase }, { on := 12, ground := Go.Ground.phase }, { on := 13, ground := Go.Ground.phase }, { on := 14, ground := Go.Ground.phase }, { on := 15, ground := Go.Ground.phase }, { on := 16, ground := Go.Ground.phase }, { on := 17, ground := Go.Ground.phase }], guard := none }) rfl (fun K hK => ?_) AllReadyH.nil
      go_simp
      refine hK.out _ _ ?_ (fun hHeld => ?_)
      · (obtain ⟨p0, p1, p2, p3⟩ := HC.out; obtain ⟨d1, d2⟩ := HF.out; exact ⟨(World.cell?_setCell_other _ _ _ _ (fun e => hne (by injection e with e1; exact e1.symm))).trans p0, (World.cell?_setCell_other _ _ _ _ (fun e => hne (by injection e with e1; exact e1.symm))).trans p1, (World.cell?_setCell_other _ _ _ _ (fun e => d1 (by injection e with _ e1; exact e1.symm))).trans p2, (World.cell?_setCell_other _ _ _ _ (fun e => d2 (by injection e with _ e1; exact e1.symm))).trans p3⟩)
      clear hK K
      try simp only [Act.put, List.setIfInBounds_toArray, List.set_cons_zero, List.set_cons_succ]
      refine wpAnyH_done (by kernel_rfl) ?_ _
      go_wp2
      go_roundw
      case rel => exact ⟨j + 1, (n1 : Int), up f' n1 y, rfl, by go_num, by omega, hlt, Lib.hid (by rw [HI3.out]), HT3, Lib.hid ⟨(hW.out.1.drew).ndset n1 y, hW.out.2.1.drew.far hne _, (gb_drew hW.out.2.2).trans (gb_set _ _ _ _)⟩⟩
      case measure => simp [intOf]; omega
    · obtain rfl : j = N := by omega
      have e0 : dn p j = 0 := by
        unfold dn
        rw [Nat.div_eq_of_lt HPN.out, Nat.zero_mul]
      have hjI : ¬ (j : Int) < j := by omega
      go_wp2
      go_end0
      exact ⟨rfl, f', hW.out.1, by rw [← e0]; exact hT.out.1, hW.out.2.2⟩
end Go.Proofs.YtiocdojdncomhaaDoor
