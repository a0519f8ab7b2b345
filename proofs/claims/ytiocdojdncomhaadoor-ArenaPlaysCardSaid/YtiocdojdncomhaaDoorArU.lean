/-
  The program's own tree of free blocks (layer 10): add, cut, first.
-/
import Derived.Test.YtiocdojdncomhaaDoorArS
namespace Go.Proofs.YtiocdojdncomhaaDoor
open Go.RowKit
set_option linter.unusedVariables false

theorem cells2 {w : World} {g : Nat} {t : TypeId} {a b : Value} (h : Blk w g t #[a, b]) : w.cell? ⟨g, 0, none⟩ = some a ∧ w.cell? ⟨g, 1, none⟩ = some b := ⟨(h.cell 0).trans rfl, (h.cell 1).trans rfl⟩
theorem below2 {w w' : World} {B g : Nat} {a b : Value} (h : w.cell? ⟨g, 0, none⟩ = some a ∧ w.cell? ⟨g, 1, none⟩ = some b) (hb : Below B w w') (hg : g < B) : w'.cell? ⟨g, 0, none⟩ = some a ∧ w'.cell? ⟨g, 1, none⟩ = some b :=
  ⟨(hb.cell (p := ⟨g, 0, none⟩) hg).trans h.1, (hb.cell (p := ⟨g, 1, none⟩) hg).trans h.2⟩
set_option maxRecDepth 100000 in
set_option maxHeartbeats 4000000 in
theorem add_any (N : Nat) (hN : N ≤ 16) (M : List Bl) (bn : Nat) (f : Nat → Nat) (p o : Nat) (hv : Vb N p o) (hS : Sbs N M f p o) (hc : clr M p o = true) (w : World) (hb : Blk w bn 69 (nds N f)) :
    Calls Tryd.prog 29 #[treV N bn, .int .i64 (p : Int), .int .i64 (o : Int)] w fun e w' => e = .returned (.tuple #[]) ∧ ∃ f', Blk w' bn 69 (nds N f') ∧ TrO N M f' N 0 ∧ w.grownBy w' (some bn) := by
  have ho : o ≤ N := hv.le
  have h16 := pow16 (k := o) (by omega)
  have HB := Lib.hid hb
  have HS := Lib.hid (fun W hW => set_any N hN M bn f p o (2 ^ o) hv hS (by rw [frp_clr hc]; simp [msk]) (.inl hc) W hW)
  have e : ((2 : Int) ^ o) = ((2 ^ o : Nat) : Int) := by simp
  have j1 : IntKind.u32.wrap ((2 : Int) ^ o) = ((2 ^ o : Nat) : Int) := by rw [e, IntKind.wrap_u32]; omega
  unfold treV at HS ⊢
  obtain ⟨S, hS⟩ : ∃ S : Nat, 2 ^ (N + 1) = S := ⟨_, rfl⟩
  rw [hS] at HS ⊢
  obtain ⟨P, hP⟩ : ∃ P : Nat, 2 ^ o = P := ⟨_, rfl⟩
  rw [hP] at HS j1
  have hne : w.heap.size ≠ bn := by have := HB.out.lt; omega
  clear hv hS hc hb h16 e hP
  go_enter Tryd.func29, Tryd.ntmps29
  have K0 := cells2 (Blk.new w 51 #[.int .i64 (N : Int), .slice (some ⟨bn, 0, none⟩) S S])
  have B0 := HB.out.alloc (.cells #[.int .i64 (N : Int), .slice (some ⟨bn, 0, none⟩) S S] 51)
  have G0 := World.grownBy_alloc w (.cells #[.int .i64 (N : Int), .slice (some ⟨bn, 0, none⟩) S S] 51) (some bn)
  obtain ⟨w1, hw1⟩ : ∃ x, w.alloc (.cells #[.int .i64 (N : Int), .slice (some ⟨bn, 0, none⟩) S S] 51) = x := ⟨_, rfl⟩
  rw [hw1] at K0 B0 G0
  have HB0 := Lib.hid B0
  have HG0 := Lib.hid G0
  have HC := Lib.hid K0
  have HW := Lib.hid (HS.out w1.drew B0.drew)
  have hk1 := K0.1
  have hk2 := K0.2
  have HL : Hid (w.heap.size < w1.drew.heap.size) := Lib.hid (by rw [← hw1]; simp)
  go_wp2
  clear hw1 B0 G0 K0
  refine wp_region_held_drew (S := (fun W => W.cell? ⟨w.heap.size, 0, none⟩ = some (.int .i64 (N : Int)) ∧ W.cell? ⟨w.heap.size, 1, none⟩ = some (.slice (some ⟨bn, 0, none⟩) S S))) (by kernel_rfl) ?_ (fun hHeld => ?_)
  · (first | exact HC.out | exact ⟨(hg9.cell_far ⟨w.heap.size, 0, none⟩ HL.out (fun e => hne (by injection e))).trans HC.out.1, (hg9.cell_far ⟨w.heap.size, 1, none⟩ HL.out (fun e => hne (by injection e))).trans HC.out.2⟩)
  refine wpAnyH_take (i := 0) (oi := { dst := some 6, op := Go.Op.load 51 (Go.Operand.tmp 3), type := 51, pos := "tree.go:67", after := #[], guard := none }) (v := ?_) rfl (by kernel_rfl) (by kernel_rfl) (by kernel_rfl) (fun _ _ _ h => h) (Or.inl ⟨by rfl, ?_⟩) (by assumption) ?_
  rotate_left
  · intro w hSw
    (try dsimp only at hSw)
    go_simp
    try (with_reducible rfl)
  try simp only [Act.put, List.setIfInBounds_toArray, List.set_cons_zero, List.set_cons_succ]
  refine wpAnyH_take (i := 1) (oi := { dst := some 7, op := Go.Op.move (Go.Operand.tmp 1), type := 3, pos := "tree.go:67", after := #[], guard := none }) (v := ?_) rfl (by kernel_rfl) (by kernel_rfl) (by kernel_rfl) (fun _ _ _ h => h) (Or.inl ⟨by rfl, ?_⟩) (by assumption) ?_
  rotate_left
  · intro w hSw
    (try dsimp only at hSw)
    go_simp
    try (with_reducible rfl)
  try simp only [Act.put, List.setIfInBounds_toArray, List.set_cons_zero, List.set_cons_succ]
  refine wpAnyH_take (i := 2) (oi := { dst := some 8, op := Go.Op.move (Go.Operand.tmp 2), type := 3, pos := "tree.go:67", after := #[], guard := none }) (v := ?_) rfl (by kernel_rfl) (by kernel_rfl) (by kernel_rfl) (fun _ _ _ h => h) (Or.inl ⟨by rfl, ?_⟩) (by assumption) ?_
  rotate_left
  · intro w hSw
    (try dsimp only at hSw)
    go_simp
    try (with_reducible rfl)
  try simp only [Act.put, List.setIfInBounds_toArray, List.set_cons_zero, List.set_cons_succ]
  refine wpAnyH_take (i := 3) (oi := { dst := some 9, op := Go.Op.move (Go.Operand.tmp 2), type := 3, pos := "tree.go:67", after := #[], guard := none }) (v := ?_) rfl (by kernel_rfl) (by kernel_rfl) (by kernel_rfl) (fun _ _ _ h => h) (Or.inl ⟨by rfl, ?_⟩) (by assumption) ?_
  rotate_left
  · intro w hSw
    (try dsimp only at hSw)
    go_simp
    try (with_reducible rfl)
  try simp only [Act.put, List.setIfInBounds_toArray, List.set_cons_zero, List.set_cons_succ]
  refine wpAnyH_take (i := 4) (oi := { dst := some 10, op := Go.Op.binOp Go.BinOp.shl 69 (Go.Operand.const (Go.Value.int Go.IntKind.u32 1)) (Go.Operand.tmp 9) 3, type := 69, pos := "tree.go:67", after := #[{ on := 3, ground := Go.Ground.data }], guard := none }) (v := ?_) rfl (by kernel_rfl) (by kernel_rfl) (by kernel_rfl) (fun _ _ _ h => h) (Or.inl ⟨by rfl, ?_⟩) (by assumption) ?_
  rotate_left
  · intro w hSw
    (try dsimp only at hSw)
    go_simp
    try (with_reducible rfl)
  try simp only [Act.put, List.setIfInBounds_toArray, List.set_cons_zero, List.set_cons_succ]
  refine wpAnyH_ready (rs := [5]) (by kernel_rfl) (by simp) ?_
  refine AllReadyH.cons (o := { dst := some 11, op := Go.Op.call { callee := Go.Callee.value (Go.Operand.func 38), args := #[Go.Operand.tmp 6, Go.Operand.tmp 7, Go.Operand.tmp 8, Go.Operand.tmp 10], argTypes := #[51, 3, 3, 69] }, type := 0, pos := "tree.go:67", after := #[{ on := 0, ground := Go.Ground.data }, { on := 1, ground := Go.Ground.data }, { on := 2, ground := Go.Ground.data }, { on := 4, ground := Go.Ground.data }], guard := none }) rfl (fun K hK => ?_) AllReadyH.nil
  go_simp
  (go_at_call 38; (with_reducible refine Calls.mono HW.out ?_); rintro e W' ⟨rfl, f', hb9, ht9, hg9⟩)
  go_wp2_with fail
  refine hK.out _ _ ?_ (fun hHeld => ?_)
  · (first | exact HC.out | exact ⟨(hg9.cell_far ⟨w.heap.size, 0, none⟩ HL.out (fun e => hne (by injection e))).trans HC.out.1, (hg9.cell_far ⟨w.heap.size, 1, none⟩ HL.out (fun e => hne (by injection e))).trans HC.out.2⟩)
  clear hK K
  try simp only [Act.put, List.setIfInBounds_toArray, List.set_cons_zero, List.set_cons_succ]
  refine wpAnyH_done (by kernel_rfl) ?_ _
  go_wp2
  go_end0
  exact ⟨rfl, f', hb9, ht9, (gb_drew HG0.out).trans hg9⟩
set_option maxRecDepth 100000 in
set_option maxHeartbeats 4000000 in
theorem cut_any (N : Nat) (hN : N ≤ 16) (L : List Bl) (bn : Nat) (f : Nat → Nat) (p o m : Nat) (hT : TrO N L f N 0) (hf : (p, m) ∈ fre L N 0) (hom : o ≤ m) (w : World) (hb : Blk w bn 69 (nds N f)) :
    Calls Tryd.prog 32 #[treV N bn, .int .i64 (p : Int), .int .i64 (m : Int), .int .i64 (o : Int)] w fun e w' => e = .returned (.tuple #[]) ∧ ∃ f', Blk w' bn 69 (nds N f') ∧ TrO N (ins p o L) f' N 0 ∧ w.grownBy w' (some bn) := by
  obtain ⟨hv, hmN, hc, hS0⟩ := take_start hT hf hom
  obtain ⟨hv2, hz, hcv⟩ := cut_end (N := N) (L := L) hv hom
  have hpN : p < 2 ^ N := by have := hv2.2; have := two_pos o; omega
  have hN16 := (pow16 hN).2
  have HB := Lib.hid hb
  have HS := Lib.hid (fun f' W (h1 : Sbs N (ins p o L) f' p o) hW => set_any N hN (ins p o L) bn f' p o 0 hv2 h1 hz (.inr hcv) W hW)
  have HK : Hid (∀ k, o ≤ k → k < m → ∀ f', Sbs N (ins p o L) f' p (k + 1) → ∃ n1 P : Nat, ix N (p + 2 ^ k) k = n1 ∧ 2 ^ k = P ∧ 0 < P ∧ P ≤ 65536 ∧ p + P < 2 ^ N ∧ n1 < 2 ^ (N + 1) ∧ Sbs N (ins p o L) (up f' n1 P) p k) := Lib.hid (by
    intro k hok hkm f' h1
    obtain ⟨h2, h3⟩ := cut_step hv hc hok hkm h1
    have h4 := pow16 (k := k) (by omega)
    have h5 := two_pos k
    exact ⟨_, _, rfl, rfl, h4.1, h4.2, by have := h2.2; omega, ix_lt h2, h3⟩)
  have HN := Lib.hid (fun k (hk : k ≤ 16) q (hq : q < 2 ^ N) W => node_any N bn q k hN hk hq W)
  have h17 : 2 ^ (N + 1) ≤ 131072 := by have := Nat.pow_le_pow_right (n := 2) (i := N + 1) (j := 17) (by decide) (by omega); simpa using this
  have HPN : Hid (p < 2 ^ N ∧ 2 ^ N ≤ 65536 ∧ N ≤ 16 ∧ m ≤ N) := Lib.hid ⟨hpN, hN16, hN, hmN⟩
  unfold treV at HS HN ⊢
  obtain ⟨S, hS⟩ : ∃ S : Nat, 2 ^ (N + 1) = S := ⟨_, rfl⟩
  rw [hS] at HS HN HK h17 ⊢
  have HSS := Lib.hid hS
  have hne : w.heap.size ≠ bn := by have := HB.out.lt; omega
  have m16 : m ≤ 16 := by omega
  have H0 := Lib.hid hS0
  have j0 : IntKind.i64.wrap ((m : Int) - 1) = (m : Int) - 1 := by rw [IntKind.wrap_i64]; omega
  clear hv hmN hc hS0 hv2 hz hcv hpN hN16 hb hS hT hf hN
  go_enter Tryd.func32, Tryd.ntmps32
  have K0 := Blk.new w 51 #[.int .i64 (N : Int), .slice (some ⟨bn, 0, none⟩) S S]
  have B0 := HB.out.alloc (.cells #[.int .i64 (N : Int), .slice (some ⟨bn, 0, none⟩) S S] 51)
  have G0 := World.grownBy_alloc w (.cells #[.int .i64 (N : Int), .slice (some ⟨bn, 0, none⟩) S S] 51) (some bn)
  have L0 : w.heap.size < (w.alloc (.cells #[.int .i64 (N : Int), .slice (some ⟨bn, 0, none⟩) S S] 51)).heap.size := by simp
  obtain ⟨w1, hw1⟩ : ∃ x, w.alloc (.cells #[.int .i64 (N : Int), .slice (some ⟨bn, 0, none⟩) S S] 51) = x := ⟨_, rfl⟩
  rw [hw1] at K0 B0 G0 L0
  have HK0 := Lib.hid K0
  have HB0 := Lib.hid B0
  have HG0 := Lib.hid G0
  have HL0 := Lib.hid L0
  clear K0 B0 G0 L0
  go_wp2
  clear hw1
  go_loopw [8] (fun kv wr => ∃ (j : Nat) (f' : Nat → Nat), kv = .int .i64 ((j : Int) - 1) ∧ o ≤ j ∧ j ≤ m ∧ Hid (Sbs N (ins p o L) f' p j) ∧
    Hid (Blk wr bn 69 (nds N f') ∧ Blk wr w.heap.size 51 #[.int .i64 (N : Int), .slice (some ⟨bn, 0, none⟩) S S] ∧ w.grownBy wr (some bn) ∧ w.heap.size < wr.heap.size)) (fun kv _ => (intOf kv + 1).toNat)
  case atStart => exact ⟨m, f, rfl, hom, Nat.le_refl _, H0, Lib.hid ⟨HB0.out, HK0.out, HG0.out, HL0.out⟩⟩
  case round =>
    obtain ⟨j, f', rfl, hoj, hjm, hT, hW⟩ := hrel
    obtain ⟨c0, c1⟩ := cells2 hW.out.2.1
    by_cases hlt : o < j
    · obtain ⟨k, rfl⟩ : ∃ k, j = k + 1 := ⟨j - 1, by omega⟩
      obtain ⟨n1, P, e1, e2, h0, h1, h2, h3, h4⟩ := HK.out k (by omega) (by omega) f' hT.out
      have HT3 := Lib.hid h4
      have HQ := Lib.hid (HN.out k (by omega) (p + P) h2 wr.drew)
      rw [← e2, e1] at HQ
      have HJ : Hid (∀ i : Int, i = (k : Int) → ((2 : Int) ^ k) = (P : Int)) := Lib.hid (fun _ _ => by rw [← e2]; simp)
      have kI : (((k + 1 : Nat) : Int) - 1) = (k : Int) := by omega
      rw [kI]
      have hpb := HPN.out
      have j1 : IntKind.i64.wrap ((2 : Int) ^ k) = (P : Int) := by rw [HJ.out _ rfl, IntKind.wrap_i64]; omega
      have j2 : IntKind.u32.wrap ((2 : Int) ^ k) = (P : Int) := by rw [HJ.out _ rfl, IntKind.wrap_u32]; omega
      obtain ⟨q, hq⟩ : ∃ q : Nat, p + P = q := ⟨_, rfl⟩
      have j3 : IntKind.i64.wrap ((p : Int) + (P : Int)) = (q : Int) := by rw [IntKind.wrap_i64]; omega
      have j4 : IntKind.i64.wrap ((k : Int) - 1) = (k : Int) - 1 := by rw [IntKind.wrap_i64]; omega
      rw [e2, hq] at HQ
      have i3 : (n1 : Int) < S := by omega
      have hkI : (o : Int) ≤ (k : Int) := by omega
      have k3 := hW.out.1.drew.nd (i := n1) (by rw [HSS.out]; omega)
      have kf := hW.out.1.drew.frozen n1
      obtain ⟨z, hz⟩ : ∃ z : Int, (f' n1 : Int) = z := ⟨_, rfl⟩
      rw [hz] at k3
      have HK3 := Lib.hid (And.intro k3 kf)
      have HC := Lib.hid (And.intro c0 c1)
      have HLL : Hid (w.heap.size < wr.drew.heap.size ∧ bn < wr.drew.heap.size) := Lib.hid ⟨hW.out.2.2.2, hW.out.1.lt⟩
      clear e1 e2 h2 h4 hpb hz hq k3 kf h0 h1
      go_wp2
      refine wp_region_held_drew (S := (fun W => W.cell? ⟨w.heap.size, 0, none⟩ = some (.int .i64 (N : Int)) ∧ W.cell? ⟨w.heap.size, 1, none⟩ = some (.slice (some ⟨bn, 0, none⟩) S S))) (by kernel_rfl) ?_ (fun hHeld => ?_)
      · (first | exact HC.out | exact below2 (w := wr.drew) HC.out hb9 HLL.out.1)
      refine wpAnyH_take (i := 0) (oi := { dst := some 16, op := Go.Op.fieldAddr 51 (Go.Operand.tmp 4) 1, type := 0, pos := "tree.go:61", after := #[], guard := none }) (v := ?_) rfl (by kernel_rfl) (by kernel_rfl) (by kernel_rfl) (fun _ _ _ h => h) (Or.inl ⟨by rfl, ?_⟩) (by assumption) ?_
      rotate_left
      · intro w hSw
        (try dsimp only at hSw)
        go_simp
        try (with_reducible rfl)
      try simp only [Act.put, List.setIfInBounds_toArray, List.set_cons_zero, List.set_cons_succ]
      refine wpAnyH_take (i := 1) (oi := { dst := some 17, op := Go.Op.load 49 (Go.Operand.tmp 16), type := 49, pos := "tree.go:61", after := #[{ on := 0, ground := Go.Ground.data }], guard := none }) (v := ?_) rfl (by kernel_rfl) (by kernel_rfl) (by kernel_rfl) (fun _ _ _ h => h) (Or.inl ⟨by rfl, ?_⟩) (by assumption) ?_
      rotate_left
      · intro w hSw
        (try dsimp only at hSw)
        go_simp
        try (with_reducible rfl)
      try simp only [Act.put, List.setIfInBounds_toArray, List.set_cons_zero, List.set_cons_succ]
      refine wpAnyH_take (i := 2) (oi := { dst := some 18, op := Go.Op.load 51 (Go.Operand.tmp 4), type := 51, pos := "tree.go:61", after := #[], guard := none }) (v := ?_) rfl (by kernel_rfl) (by kernel_rfl) (by kernel_rfl) (fun _ _ _ h => h) (Or.inl ⟨by rfl, ?_⟩) (by assumption) ?_
      rotate_left
      · intro w hSw
        (try dsimp only at hSw)
        go_simp
        try (with_reducible rfl)
      try simp only [Act.put, List.setIfInBounds_toArray, List.set_cons_zero, List.set_cons_succ]
      refine wpAnyH_take (i := 3) (oi := { dst := some 19, op := Go.Op.move (Go.Operand.tmp 1), type := 3, pos := "tree.go:61", after := #[], guard := none }) (v := ?_) rfl (by kernel_rfl) (by kernel_rfl) (by kernel_rfl) (fun _ _ _ h => h) (Or.inl ⟨by rfl, ?_⟩) (by assumption) ?_
      rotate_left
      · intro w hSw
        (try dsimp only at hSw)
        go_simp
        try (with_reducible rfl)
      try simp only [Act.put, List.setIfInBounds_toArray, List.set_cons_zero, List.set_cons_succ]
      refine wpAnyH_take (i := 4) (oi := { dst := some 20, op := Go.Op.move (Go.Operand.tmp 8), type := 3, pos := "tree.go:61", after := #[], guard := none }) (v := ?_) rfl (by kernel_rfl) (by kernel_rfl) (by kernel_rfl) (fun _ _ _ h => h) (Or.inl ⟨by rfl, ?_⟩) (by assumption) ?_
      rotate_left
      · intro w hSw
        (try dsimp only at hSw)
        go_simp
        try (with_reducible rfl)
      try simp only [Act.put, List.setIfInBounds_toArray, List.set_cons_zero, List.set_cons_succ]
      refine wpAnyH_take (i := 5) (oi := { dst := some 21, op := Go.Op.binOp Go.BinOp.shl 3 (Go.Operand.const (Go.Value.int Go.IntKind.i64 1)) (Go.Operand.tmp 20) 3, type := 3, pos := "tree.go:61", after := #[{ on := 4, ground := Go.Ground.data }], guard := none }) (v := ?_) rfl (by kernel_rfl) (by kernel_rfl) (by kernel_rfl) (fun _ _ _ h => h) (Or.inl ⟨by rfl, ?_⟩) (by assumption) ?_
      rotate_left
      · intro w hSw
        (try dsimp only at hSw)
        go_simp
        try (with_reducible rfl)
      try simp only [Act.put, List.setIfInBounds_toArray, List.set_cons_zero, List.set_cons_succ]
      refine wpAnyH_take (i := 6) (oi := { dst := some 22, op := Go.Op.binOp Go.BinOp.add 3 (Go.Operand.tmp 19) (Go.Operand.tmp 21) 3, type := 3, pos := "tree.go:61", after := #[{ on := 3, ground := Go.Ground.data }, { on := 5, ground := Go.Ground.data }], guard := none }) (v := ?_) rfl (by kernel_rfl) (by kernel_rfl) (by kernel_rfl) (fun _ _ _ h => h) (Or.inl ⟨by rfl, ?_⟩) (by assumption) ?_
      rotate_left
      · intro w hSw
        (try dsimp only at hSw)
        go_simp
        try (with_reducible rfl)
      try simp only [Act.put, List.setIfInBounds_toArray, List.set_cons_zero, List.set_cons_succ]
      refine wpAnyH_take (i := 7) (oi := { dst := some 23, op := Go.Op.move (Go.Operand.tmp 8), type := 3, pos := "tree.go:61", after := #[], guard := none }) (v := ?_) rfl (by kernel_rfl) (by kernel_rfl) (by kernel_rfl) (fun _ _ _ h => h) (Or.inl ⟨by rfl, ?_⟩) (by assumption) ?_
      rotate_left
      · intro w hSw
        (try dsimp only at hSw)
        go_simp
        try (with_reducible rfl)
      try simp only [Act.put, List.setIfInBounds_toArray, List.set_cons_zero, List.set_cons_succ]
      refine wpAnyH_take (i := 9) (oi := { dst := some 25, op := Go.Op.move (Go.Operand.tmp 8), type := 3, pos := "tree.go:61", after := #[], guard := none }) (v := ?_) rfl (by kernel_rfl) (by kernel_rfl) (by kernel_rfl) (fun _ _ _ h => h) (Or.inl ⟨by rfl, ?_⟩) (by assumption) ?_
      rotate_left
      · intro w hSw
        (try dsimp only at hSw)
        go_simp
        try (with_reducible rfl)
      try simp only [Act.put, List.setIfInBounds_toArray, List.set_cons_zero, List.set_cons_succ]
      refine wpAnyH_take (i := 10) (oi := { dst := some 26, op := Go.Op.binOp Go.BinOp.shl 69 (Go.Operand.const (Go.Value.int Go.IntKind.u32 1)) (Go.Operand.tmp 25) 3, type := 69, pos := "tree.go:61", after := #[{ on := 9, ground := Go.Ground.data }], guard := none }) (v := ?_) rfl (by kernel_rfl) (by kernel_rfl) (by kernel_rfl) (fun _ _ _ h => h) (Or.inl ⟨by rfl, ?_⟩) (by assumption) ?_
      rotate_left
      · intro w hSw
        (try dsimp only at hSw)
        go_simp
        try (with_reducible rfl)
      try simp only [Act.put, List.setIfInBounds_toArray, List.set_cons_zero, List.set_cons_succ]
      refine wpAnyH_ready (rs := [8]) (by kernel_rfl) (by simp) ?_
      refine AllReadyH.cons (o := { dst := some 24, op := Go.Op.call { callee := Go.Callee.value (Go.Operand.func 40), args := #[Go.Operand.tmp 18, Go.Operand.tmp 22, Go.Operand.tmp 23], argTypes := #[51, 3, 3] }, type := 3, pos := "tree.go:61", after := #[{ on := 2, ground := Go.Ground.data }, { on := 6, ground := Go.Ground.data }, { on := 7, ground := Go.Ground.data }], guard := none }) rfl (fun K hK => ?_) AllReadyH.nil
      go_simp
      (go_at_call 40; (with_reducible refine Calls.mono HQ.out ?_); rintro e W' ⟨rfl, hb9⟩; have z3 := (hb9.cell (p := ⟨bn, n1, none⟩) HLL.out.2).trans HK3.out.1; have zf : W'.frozen? ⟨bn, n1, none⟩ = false := (hW.out.1.drew.below hb9 HLL.out.2).frozen n1)
      go_wp2_with fail
      refine hK.out _ _ ?_ (fun hHeld => ?_)
      · (first | exact HC.out | exact below2 (w := wr.drew) HC.out hb9 HLL.out.1)
      clear hK K
      try simp only [Act.put, List.setIfInBounds_toArray, List.set_cons_zero, List.set_cons_succ]
      refine wpAnyH_take (i := 11) (oi := { dst := some 27, op := Go.Op.indexAddr 49 (Go.Operand.tmp 17) (Go.Operand.tmp 24), type := 0, pos := "tree.go:61", after := #[{ on := 1, ground := Go.Ground.data }, { on := 8, ground := Go.Ground.data }, { on := 0, ground := Go.Ground.phase }, { on := 1, ground := Go.Ground.phase }, { on := 2, ground := Go.Ground.phase }, { on := 3, ground := Go.Ground.phase }, { on := 4, ground := Go.Ground.phase }, { on := 5, ground := Go.Ground.phase }, { on := 6, ground := Go.Ground.phase }, { on := 7, ground := Go.Ground.phase }, { on := 8, ground := Go.Ground.phase }, { on := 9, ground := Go.Ground.phase }, { on := 10, ground := Go.Ground.phase }], guard := none }) (v := ?_) rfl (by kernel_rfl) (by kernel_rfl) (by kernel_rfl) (fun _ _ _ h => h) (Or.inl ⟨by rfl, ?_⟩) (by assumption) ?_
      rotate_left
      · intro w hSw
        (try dsimp only at hSw)
        go_simp
        try (with_reducible rfl)
      try simp only [Act.put, List.setIfInBounds_toArray, List.set_cons_zero, List.set_cons_succ]
      refine wpAnyH_ready (rs := [12]) (by kernel_rfl) (by simp) ?_
      refine AllReadyH.cons (o := { dst := none, op := Go.Op.store 69 (Go.Operand.tmp 27) (Go.Operand.tmp 26), type := 0, pos := "tree.go:61", after := #[{ on := 11, ground := Go.Ground.data }, { on := 10, ground := Go.Ground.data }, { on := 8, ground := Go.Ground.chain }, { on := 0, ground := Go.Ground.phase }, { on := 1, ground := Go.Ground.phase }, { on := 2, ground := Go.Ground.phase }, { on := 3, ground := Go.Ground.phase }, { on := 4, ground := Go.Ground.phase }, { on := 5, ground := Go.Ground.phase }, { on := 6, ground := Go.Ground.phase }, { on := 7, ground := Go.Ground.phase }, { on := 8, ground := Go.Ground.phase }, { on := 9, ground := Go.Ground.phase }, { on := 10, ground := Go.Ground.phase }], guard := none }) rfl (fun K hK => ?_) AllReadyH.nil
      go_simp
      refine hK.out _ _ ?_ (fun hHeld => ?_)
      · ((try dsimp only); exact ⟨(World.cell?_setCell_other _ _ _ _ (fun e => hne (by injection e with e1; exact e1.symm))).trans (below2 (w := wr.drew) HC.out hb9 HLL.out.1).1, (World.cell?_setCell_other _ _ _ _ (fun e => hne (by injection e with e1; exact e1.symm))).trans (below2 (w := wr.drew) HC.out hb9 HLL.out.1).2⟩)
      clear hK K
      try simp only [Act.put, List.setIfInBounds_toArray, List.set_cons_zero, List.set_cons_succ]
      refine wpAnyH_done (by kernel_rfl) ?_ _
      go_wp2
      go_roundw
      case rel => exact ⟨k, up f' n1 P, by go_num, by omega, by omega, HT3, Lib.hid ⟨(hW.out.1.drew.below hb9 HLL.out.2).ndset n1 P, (hW.out.2.1.drew.below hb9 HLL.out.1).far hne _, ((gb_drew hW.out.2.2.1).trans (gb_below hb9 _)).trans (gb_set _ _ _ _), by have := HLL.out.1; have := hb9.size; simp only [World.size_setCell]; omega⟩⟩
      case measure => simp [intOf] <;> omega
    · obtain rfl : j = o := by omega
      have hjI : ¬ ((j : Int)) ≤ (j : Int) - 1 := by omega
      have HW2 := Lib.hid (HS.out f' wr hT.out hW.out.1)
      have HWW := Lib.hid hW.out.2.2.1
      go_wp2_with (go_at_call 38; (with_reducible refine Calls.mono HW2.out ?_); rintro e W' ⟨rfl, f2, hb9, ht9, hg9⟩)
      go_end0
      exact ⟨rfl, f2, hb9, ht9, HWW.out.trans hg9⟩
end Go.Proofs.YtiocdojdncomhaaDoor
