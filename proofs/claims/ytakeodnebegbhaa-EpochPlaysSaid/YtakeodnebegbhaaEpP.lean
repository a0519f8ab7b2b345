/-
  The program's epoch (layer 13): its calls.
-/
import Derived.Test.YtakeodnebegbhaaEpQ
import Derived.Test.YtakeodnebegbhaaLk
namespace Go.Proofs.Ytakeodnebegbhaa
open Go.RowKit Go.MuLone
set_option linter.unusedVariables false

/-- The program's epoch, with its blocks S. -/
def EpP (w : World) (r : Nat) (S : List Nat) (all ins : List Int) : Prop := ∃ gL gS cL cS, S = [r, gL, gS] ∧ EpQ 0 w r gL gS cL cS (all.drop (lowE all ins)) (lowE all ins) ins ∧ InvE all ins
section
variable {w w' : World} {r : Nat} {S T : List Nat} {all ins : List Int}
theorem EpP.lt (h : EpP w r S all ins) : ∀ s ∈ S, s < w.heap.size := by
  obtain ⟨gL, gS, cL, cS, rfl, h1, h2⟩ := h
  have := h1.lt
  simp; omega
theorem EpP.inv (h : EpP w r S all ins) : InvE all ins := by
  obtain ⟨gL, gS, cL, cS, rfl, h1, h2⟩ := h
  exact h2
theorem EpP.tch (h : EpP w r S all ins) (ht : Tch w w' T) (hn : ∀ s ∈ S, s ∉ T) : EpP w' r S all ins := by
  obtain ⟨gL, gS, cL, cS, rfl, h1, h2⟩ := h
  simp at hn
  exact ⟨gL, gS, cL, cS, rfl, h1.tch ht hn.1 hn.2.1 hn.2.2, h2⟩
end
theorem take_at {L : List Int} {k j : Nat} {z : Int} (hz : (L.take k)[j]? = some z) : L[j]? = some z := by
  rw [List.getElem?_take] at hz
  split at hz
  · exact hz
  · cases hz
theorem drop_at {L : List Int} {k j : Nat} {z : Int} (hz : (L.drop k)[j]? = some z) : L[k + j]? = some z := by rwa [List.getElem?_drop] at hz
/-- The versions cut off ahead. -/
theorem EpQ.cut {M : Int} {w : World} {r gL gS cL cS lo B : Nat} {L L2 ins : List Int} (h : EpQ M w r gL gS cL cS L lo ins) {g2 c2 lo2 : Nat} (hg : g2 ≠ r ∧ g2 ≠ gS)
    (ho : w.ownsRow B 3 1 (.slice (some ⟨g2, 0, none⟩) L2.length c2) L2.length (ints L2)) :
    EpQ M ((w.setCell ⟨r, 2, none⟩ (.slice (some ⟨g2, 0, none⟩) L2.length c2)).setCell ⟨r, 3, none⟩ (.int .i64 (lo2 : Int))) r g2 gS c2 cS L2 lo2 ins := by
  have hT := (tch_cell w r 2 (.slice (some ⟨g2, 0, none⟩) L2.length c2)).trans (tch_cell _ r 3 (.int .i64 (lo2 : Int)))
  exact ⟨(h.1.set_ 2 _).set_ 3 _, hT.own (own_mono ho (Nat.zero_le _)) (nown (w := w) (nin1 hg.1)), hT.own h.2.2.1 (nown (w := w) (nin1 h.2.2.2.2.1.symm)), hg.1.symm, h.2.2.2.2.1, hg.2⟩
set_option maxRecDepth 100000 in
set_option maxHeartbeats 2000000 in
theorem pgive (M : Int) (r gL gS cL cS : Nat) (L : List Int) (lo : Nat) (ins : List Int) (hf : ins.length ≤ 16) (hin : ∀ x ∈ ins, -1 ≤ x) (n : Nat) (hn : lo + L.length = n + 1) (hb : n ≤ 500000) (k : Nat) (hk : loE ins n = lo + k) (w : World) (h : EpQ M w r gL gS cL cS L lo ins) :
    Calls Try.prog 27 #[.pointer (some ⟨r, 0, none⟩)] w fun e w' => ∃ A c gL' cL', e = .returned (.slice A k c) ∧ w'.ownsRow w.heap.size 3 1 (.slice A k c) k (ints (L.take k)) ∧
      EpQ M w' r gL' gS cL' cS (L.drop k) (lo + k) ins ∧ Tch w w' [r] ∧ (gL' = gL ∨ w.heap.size ≤ gL') ∧ ∀ g, A = some ⟨g, 0, none⟩ → g ≠ gL' := by
  have HO := Lib.hid (poldest M r gL gS cL cS L lo ins hf hin n hn (by omega) w.drew h.drew)
  have HC := Lib.hid h.c3
  have hkn : lo + k ≤ n := by have := loE_le ins n; omega
  have hle := own_le h.2.1
  rw [hk] at HO
  obtain ⟨q, hq⟩ : ∃ q, lo + k = q := ⟨_, rfl⟩
  have HQ := Lib.hid hq
  rw [hq] at HO
  have j1 : IntKind.i64.wrap ((q : Int) - (lo : Int)) = (k : Int) := by rw [IntKind.wrap_i64]; omega
  have HD := Lib.hid h.drew.drew
  have HT : Hid (Tch w w.drew.drew []) := Lib.hid (Tch.refl w []).drew.drew
  rcases Nat.eq_zero_or_pos k with h0 | h0
  · subst h0
    have HE := Lib.hid h.drew.drew
    clear hn hb hk hkn hle hq h hin hf
    go_enter Try.func27, Try.ntmps27
    go_wp2
    refine wp_region_held_drew (S := (fun W => W.cell? ⟨r, 3, none⟩ = some (.int .i64 (lo : Int)))) (by kernel_rfl) ?_ (fun hHeld => ?_)
    · (exact HC.out)
    refine wpAnyH_take (i := 0) (oi := { dst := some 5, op := Go.Op.move (Go.Operand.tmp 0), type := 24, pos := "epoch.go:115", after := #[], guard := none }) (v := ?_) rfl (by kernel_rfl) (by kernel_rfl) (by kernel_rfl) (fun _ _ _ h => h) (Or.inl ⟨by rfl, ?_⟩) (by assumption) ?_
    rotate_left
    · intro w hSw
      (try dsimp only at hSw)
      go_simp
      try (with_reducible rfl)
    try simp only [Act.put, List.setIfInBounds_toArray, List.set_cons_zero, List.set_cons_succ]
    refine wpAnyH_take (i := 2) (oi := { dst := some 7, op := Go.Op.move (Go.Operand.tmp 0), type := 24, pos := "epoch.go:115", after := #[], guard := none }) (v := ?_) rfl (by kernel_rfl) (by kernel_rfl) (by kernel_rfl) (fun _ _ _ h => h) (Or.inl ⟨by rfl, ?_⟩) (by assumption) ?_
    rotate_left
    · intro w hSw
      (try dsimp only at hSw)
      go_simp
      try (with_reducible rfl)
    try simp only [Act.put, List.setIfInBounds_toArray, List.set_cons_zero, List.set_cons_succ]
    refine wpAnyH_take (i := 3) (oi := { dst := some 8, op := Go.Op.nilCheck (Go.Operand.tmp 7), type := 0, pos := "epoch.go:115", after := #[{ on := 2, ground := Go.Ground.data }], guard := none }) (v := ?_) rfl (by kernel_rfl) (by kernel_rfl) (by kernel_rfl) (fun _ _ _ h => h) (Or.inl ⟨by rfl, ?_⟩) (by assumption) ?_
    rotate_left
    · intro w hSw
      (try dsimp only at hSw)
      go_simp
      try (with_reducible rfl)
    try simp only [Act.put, List.setIfInBounds_toArray, List.set_cons_zero, List.set_cons_succ]
    refine wpAnyH_take (i := 4) (oi := { dst := some 9, op := Go.Op.fieldAddr 56 (Go.Operand.tmp 8) 2, type := 0, pos := "epoch.go:115", after := #[{ on := 3, ground := Go.Ground.data }], guard := none }) (v := ?_) rfl (by kernel_rfl) (by kernel_rfl) (by kernel_rfl) (fun _ _ _ h => h) (Or.inl ⟨by rfl, ?_⟩) (by assumption) ?_
    rotate_left
    · intro w hSw
      (try dsimp only at hSw)
      go_simp
      try (with_reducible rfl)
    try simp only [Act.put, List.setIfInBounds_toArray, List.set_cons_zero, List.set_cons_succ]
    refine wpAnyH_take (i := 5) (oi := { dst := some 10, op := Go.Op.load 3 (Go.Operand.tmp 9), type := 3, pos := "epoch.go:115", after := #[{ on := 4, ground := Go.Ground.data }], guard := none }) (v := ?_) rfl (by kernel_rfl) (by kernel_rfl) (by kernel_rfl) (fun _ _ _ h => h) (Or.inl ⟨by rfl, ?_⟩) (by assumption) ?_
    rotate_left
    · intro w hSw
      (try dsimp only at hSw)
      go_simp
      try (with_reducible rfl)
    try simp only [Act.put, List.setIfInBounds_toArray, List.set_cons_zero, List.set_cons_succ]
    refine wpAnyH_ready (rs := [1]) (by kernel_rfl) (by simp) ?_
    refine AllReadyH.cons (o := { dst := some 6, op := Go.Op.call { callee := Go.Callee.value (Go.Operand.func 37), args := #[Go.Operand.tmp 5], argTypes := #[24] }, type := 3, pos := "epoch.go:115", after := #[{ on := 0, ground := Go.Ground.data }], guard := none }) rfl (fun K hK => ?_) AllReadyH.nil
    go_simp
    (go_at_call 37; (with_reducible refine Calls.mono HO.out ?_); rintro e W' ⟨rfl, rfl⟩)
    go_wp2_with fail
    refine hK.out _ _ ?_ (fun hHeld => ?_)
    · (exact HC.out)
    clear hK K
    try simp only [Act.put, List.setIfInBounds_toArray, List.set_cons_zero, List.set_cons_succ]
    refine wpAnyH_take (i := 6) (oi := { dst := some 11, op := Go.Op.binOp Go.BinOp.sub 3 (Go.Operand.tmp 6) (Go.Operand.tmp 10) 3, type := 3, pos := "epoch.go:115", after := #[{ on := 1, ground := Go.Ground.data }, { on := 5, ground := Go.Ground.data }], guard := none }) (v := ?_) rfl (by kernel_rfl) (by kernel_rfl) (by kernel_rfl) (fun _ _ _ h => h) (Or.inl ⟨by rfl, ?_⟩) (by assumption) ?_
    rotate_left
    · intro w hSw
      (try dsimp only at hSw)
      go_simp
      try (with_reducible rfl)
    try simp only [Act.put, List.setIfInBounds_toArray, List.set_cons_zero, List.set_cons_succ]
    refine wpAnyH_take (i := 7) (oi := { dst := some 3, op := Go.Op.assign (Go.Operand.tmp 11), type := 3, pos := "epoch.go:115", after := #[{ on := 6, ground := Go.Ground.data }, { on := 1, ground := Go.Ground.chain }, { on := 0, ground := Go.Ground.phase }, { on := 1, ground := Go.Ground.phase }, { on := 2, ground := Go.Ground.phase }, { on := 3, ground := Go.Ground.phase }, { on := 4, ground := Go.Ground.phase }, { on := 5, ground := Go.Ground.phase }, { on := 6, ground := Go.Ground.phase }], guard := none }) (v := ?_) rfl (by kernel_rfl) (by kernel_rfl) (by kernel_rfl) (fun _ _ _ h => h) (Or.inl ⟨by rfl, ?_⟩) (by assumption) ?_
    rotate_left
    · intro w hSw
      (try dsimp only at hSw)
      go_simp
      try (with_reducible rfl)
    try simp only [Act.put, List.setIfInBounds_toArray, List.set_cons_zero, List.set_cons_succ]
    refine wpAnyH_done (by kernel_rfl) ?_ _
    go_wp2
    go_ret
    exact ⟨none, 0, gL, cL, rfl, ⟨rfl, .inl ⟨rfl, rfl⟩⟩, by simpa using HE.out, (Tch.refl w [r]).drew.drew, .inl rfl, fun g hg => by cases hg⟩
  · have b0 : ((k : Int) == 0) = false := by simp; omega
    obtain ⟨w2, hw2⟩ : ∃ w2, w.drew.drew = w2 := ⟨_, rfl⟩
    have HW2 := Lib.hid hw2
    rw [hw2] at HD HT
    have c2 := HD.out.c2
    have hkl : k < L.length := by omega
    have hlt := HD.out.lt
    have HCl := Lib.hid (clone_int gL 0 k cL (L.take k) (by simp; omega) (by omega) w2 (fun j z hz => by rw [Nat.zero_add]; exact own_cell HD.out.2.1 (ints_at (take_at hz))))
    have s1 := sl_to w2 gL 0 L.length cL k (by omega)
    obtain ⟨K, hK⟩ : ∃ K, L.length = K := ⟨_, rfl⟩
    have HK := Lib.hid hK
    have HB : Hid (k < K ∧ K ≤ cL ∧ k ≤ 500000 ∧ q ≤ 500000 ∧ lo + K = n + 1 ∧ K ≤ 600000) := Lib.hid (by omega)
    have HLt := Lib.hid hlt
    rw [hK] at c2 s1
    clear hn hb hk hkn hle hq h hin hf hw2 hkl hlt hK
    go_enter Try.func27, Try.ntmps27
    go_wp2
    refine wp_region_held_drew (S := (fun W => W.cell? ⟨r, 3, none⟩ = some (.int .i64 (lo : Int)))) (by kernel_rfl) ?_ (fun hHeld => ?_)
    · (exact HC.out)
    refine wpAnyH_take (i := 0) (oi := { dst := some 5, op := Go.Op.move (Go.Operand.tmp 0), type := 24, pos := "epoch.go:115", after := #[], guard := none }) (v := ?_) rfl (by kernel_rfl) (by kernel_rfl) (by kernel_rfl) (fun _ _ _ h => h) (Or.inl ⟨by rfl, ?_⟩) (by assumption) ?_
    rotate_left
    · intro w hSw
      (try dsimp only at hSw)
      go_simp
      try (with_reducible rfl)
    try simp only [Act.put, List.setIfInBounds_toArray, List.set_cons_zero, List.set_cons_succ]
    refine wpAnyH_take (i := 2) (oi := { dst := some 7, op := Go.Op.move (Go.Operand.tmp 0), type := 24, pos := "epoch.go:115", after := #[], guard := none }) (v := ?_) rfl (by kernel_rfl) (by kernel_rfl) (by kernel_rfl) (fun _ _ _ h => h) (Or.inl ⟨by rfl, ?_⟩) (by assumption) ?_
    rotate_left
    · intro w hSw
      (try dsimp only at hSw)
      go_simp
      try (with_reducible rfl)
    try simp only [Act.put, List.setIfInBounds_toArray, List.set_cons_zero, List.set_cons_succ]
    refine wpAnyH_take (i := 3) (oi := { dst := some 8, op := Go.Op.nilCheck (Go.Operand.tmp 7), type := 0, pos := "epoch.go:115", after := #[{ on := 2, ground := Go.Ground.data }], guard := none }) (v := ?_) rfl (by kernel_rfl) (by kernel_rfl) (by kernel_rfl) (fun _ _ _ h => h) (Or.inl ⟨by rfl, ?_⟩) (by assumption) ?_
    rotate_left
    · intro w hSw
      (try dsimp only at hSw)
      go_simp
      try (with_reducible rfl)
    try simp only [Act.put, List.setIfInBounds_toArray, List.set_cons_zero, List.set_cons_succ]
    refine wpAnyH_take (i := 4) (oi := { dst := some 9, op := Go.Op.fieldAddr 56 (Go.Operand.tmp 8) 2, type := 0, pos := "epoch.go:115", after := #[{ on := 3, ground := Go.Ground.data }], guard := none }) (v := ?_) rfl (by kernel_rfl) (by kernel_rfl) (by kernel_rfl) (fun _ _ _ h => h) (Or.inl ⟨by rfl, ?_⟩) (by assumption) ?_
    rotate_left
    · intro w hSw
      (try dsimp only at hSw)
      go_simp
      try (with_reducible rfl)
    try simp only [Act.put, List.setIfInBounds_toArray, List.set_cons_zero, List.set_cons_succ]
    refine wpAnyH_take (i := 5) (oi := { dst := some 10, op := Go.Op.load 3 (Go.Operand.tmp 9), type := 3, pos := "epoch.go:115", after := #[{ on := 4, ground := Go.Ground.data }], guard := none }) (v := ?_) rfl (by kernel_rfl) (by kernel_rfl) (by kernel_rfl) (fun _ _ _ h => h) (Or.inl ⟨by rfl, ?_⟩) (by assumption) ?_
    rotate_left
    · intro w hSw
      (try dsimp only at hSw)
      go_simp
      try (with_reducible rfl)
    try simp only [Act.put, List.setIfInBounds_toArray, List.set_cons_zero, List.set_cons_succ]
    refine wpAnyH_ready (rs := [1]) (by kernel_rfl) (by simp) ?_
    refine AllReadyH.cons (o := { dst := some 6, op := Go.Op.call { callee := Go.Callee.value (Go.Operand.func 37), args := #[Go.Operand.tmp 5], argTypes := #[24] }, type := 3, pos := "epoch.go:115", after := #[{ on := 0, ground := Go.Ground.data }], guard := none }) rfl (fun K hK => ?_) AllReadyH.nil
    go_simp
    (go_at_call 37; (with_reducible refine Calls.mono HO.out ?_); rintro e W' ⟨rfl, rfl⟩)
    go_wp2_with fail
    refine hK.out _ _ ?_ (fun hHeld => ?_)
    · (exact HC.out)
    clear hK K
    try simp only [Act.put, List.setIfInBounds_toArray, List.set_cons_zero, List.set_cons_succ]
    refine wpAnyH_take (i := 6) (oi := { dst := some 11, op := Go.Op.binOp Go.BinOp.sub 3 (Go.Operand.tmp 6) (Go.Operand.tmp 10) 3, type := 3, pos := "epoch.go:115", after := #[{ on := 1, ground := Go.Ground.data }, { on := 5, ground := Go.Ground.data }], guard := none }) (v := ?_) rfl (by kernel_rfl) (by kernel_rfl) (by kernel_rfl) (fun _ _ _ h => h) (Or.inl ⟨by rfl, ?_⟩) (by assumption) ?_
    rotate_left
    · intro w hSw
      (try dsimp only at hSw)
      go_simp
      try (with_reducible rfl)
    try simp only [Act.put, List.setIfInBounds_toArray, List.set_cons_zero, List.set_cons_succ]
    refine wpAnyH_take (i := 7) (oi := { dst := some 3, op := Go.Op.assign (Go.Operand.tmp 11), type := 3, pos := "epoch.go:115", after := #[{ on := 6, ground := Go.Ground.data }, { on := 1, ground := Go.Ground.chain }, { on := 0, ground := Go.Ground.phase }, { on := 1, ground := Go.Ground.phase }, { on := 2, ground := Go.Ground.phase }, { on := 3, ground := Go.Ground.phase }, { on := 4, ground := Go.Ground.phase }, { on := 5, ground := Go.Ground.phase }, { on := 6, ground := Go.Ground.phase }], guard := none }) (v := ?_) rfl (by kernel_rfl) (by kernel_rfl) (by kernel_rfl) (fun _ _ _ h => h) (Or.inl ⟨by rfl, ?_⟩) (by assumption) ?_
    rotate_left
    · intro w hSw
      (try dsimp only at hSw)
      go_simp
      try (with_reducible rfl)
    try simp only [Act.put, List.setIfInBounds_toArray, List.set_cons_zero, List.set_cons_succ]
    refine wpAnyH_done (by kernel_rfl) ?_ _
    rw [HW2.out]
    go_wp2_with (first
      | (go_at_call 33; (with_reducible refine Calls.mono HCl.out ?_); rintro e w3 ⟨A, c, rfl, ho3, hb3⟩; have HO3 := Lib.hid ho3; have HB3 := Lib.hid hb3;
          have HD3 := Lib.hid (HD.out.tch (Tch.of_below [] hb3) (by simp) (by simp) (by simp)); have d2 := HD3.out.c2; rw [HK.out] at d2;
          have s3 := sl_from w3 gL 0 K cL k (by have := HB.out; omega) (by have := HB.out; omega); rw [Nat.zero_add] at s3;
          have HC4 := Lib.hid (clone_int gL k (K - k) (cL - k) (L.drop k) (by simp [HK.out]) (by have := HB.out; omega) w3 (fun j z hz => own_cell HD3.out.2.1 (ints_at (drop_at hz)))); clear ho3 hb3)
      | (go_at_call 33; (with_reducible refine Calls.mono HC4.out ?_); rintro e w4 ⟨A4, c4, rfl, ho4, hb4⟩; obtain ⟨A', c', e4, -, hA4⟩ := own_sl ho4; injection e4 with e4 e5 e6; subst e4 e6; obtain ⟨g4, rfl, hg4, hg5, -⟩ := hA4 (by have := HB.out; omega);
          have HO4 := Lib.hid ho4; have HB4 := Lib.hid hb4; have HG4 := Lib.hid (And.intro hg4 hg5); have HD4 := Lib.hid (HD3.out.tch (Tch.of_below [] hb4) (by simp) (by simp) (by simp)); have f2 := HD4.out.1.frozen 2; have f3 := HD4.out.1.frozen 3; have e2 := HD4.out.c2; have e3 := HD4.out.c3; rw [HK.out] at e2;
          have j5 : IntKind.i64.wrap ((lo : Int) + (k : Int)) = (q : Int) := (by have := HB.out; have := HQ.out; rw [IntKind.wrap_i64]; omega); clear ho4 hb4 hg4 hg5 hA4))
    go_ret
    have el : (L.drop k).length = K - k := by simp [HK.out]
    have hs2 : w2.heap.size = w.heap.size := by rw [← HW2.out]; rfl
    have hlt := HLt.out
    have hq := HQ.out
    have hg4 := HG4.out
    have hs3 := HB3.out.size
    have hT34 : Tch w3 w4 [r] := Tch.of_below [r] HB4.out
    have hT := (hT34.set_ (p := ⟨r, 2, none⟩) (by simp) (.slice (some ⟨g4, 0, none⟩) (K - k) c4)).set_ (p := ⟨r, 3, none⟩) (by simp) (.int .i64 (q : Int))
    refine ⟨A, c, g4, c4, rfl, ?_, ?_, ?_, .inr (by omega), fun g hg => ?_⟩
    · exact hT.own (own_mono HO3.out (by omega)) (fun g hg => by have := own_basek HO3.out g hg; simp; omega)
    · have h4 := HO4.out
      have hc := HD4.out.cut (g2 := g4) (c2 := c4) (lo2 := q) (L2 := L.drop k) (B := w3.heap.size) (by omega) (by rw [el]; exact h4)
      rw [el] at hc
      rw [hq]
      exact hc
    · exact ((HT.out.mono (T := [r]) (by simp)).trans (Tch.of_below [r] HB3.out)).trans hT
    · have h1 := own_lt HO3.out (g := g) (by rw [hg]; rfl)
      omega
/-- How a call that has taken the lock ends. -/
theorem EpQ.un {w : World} {r gL gS cL cS lo : Nat} {L ins : List Int} (h : EpQ 1 w r gL gS cL cS L lo ins) : w.cell? ⟨r, 0, none⟩ = some (.int .i32 1) ∧ w.frozen? ⟨r, 0, none⟩ = false := ⟨h.c0, h.1.frozen 0⟩
theorem cur_at {all ins : List Int} (h : InvE all ins) : ∃ n, lowE all ins + (all.drop (lowE all ins)).length = n + 1 ∧ n = all.length - 1 ∧ (all.drop (lowE all ins))[n - lowE all ins]? = some (curE all) := by
  have h1 := lowE_le all ins
  have h2 := h.one
  refine ⟨all.length - 1, by simp; omega, rfl, ?_⟩
  rw [List.getElem?_drop, show lowE all ins + (all.length - 1 - lowE all ins) = all.length - 1 by omega]
  unfold curE
  rw [List.getD_eq_getElem?_getD, List.getElem?_eq_getElem (by omega)]
  rfl
set_option maxRecDepth 100000 in
set_option maxHeartbeats 2000000 in
theorem curP (d : Nat) (S : List Nat) (all ins : List Int) (hl : all.length ≤ 90000) (w : World) (h : EpP w d S all ins) :
    Calls Try.prog 19 #[.pointer (some ⟨d, 0, none⟩)] w fun e w' => e = .returned (.int .i64 (curE all)) ∧ EpP w' d S all ins ∧ Tch w w' S := by
  obtain ⟨gL, gS, cL, cS, rfl, hQ, hI⟩ := h
  obtain ⟨n, hn, hn2, hv⟩ := cur_at hI
  obtain ⟨lo, hlo⟩ : ∃ lo, lowE all ins = lo := ⟨_, rfl⟩
  have HLo := Lib.hid hlo
  rw [hlo] at hQ hn hv
  obtain ⟨L, hL⟩ : ∃ L, all.drop lo = L := ⟨_, rfl⟩
  have HL := Lib.hid hL
  rw [hL] at hQ hn hv
  have c0 := hQ.c0
  have z0 := hQ.1.frozen 0
  obtain ⟨w1, hw1⟩ : ∃ w1, w.setCell ⟨d, 0, none⟩ (.int .i32 1) = w1 := ⟨_, rfl⟩
  have HQ1 : Hid (EpQ 1 w1 d gL gS cL cS L lo ins) := Lib.hid (hw1 ▸ hQ.lock 1)
  have HT1 : Hid (Tch w w1 [d]) := Lib.hid (hw1 ▸ tch_cell w d 0 _)
  have HN := Lib.hid (pnewest 1 d gL gS cL cS L lo ins n hn (by omega) w1 HQ1.out)
  have HV := Lib.hid (pversion 1 d gL gS cL cS L lo ins n (n - lo) (curE all) (by have := lowE_le all ins; omega) hv (by omega) w1.drew HQ1.out.drew)
  have HU := Lib.hid HQ1.out.drew.drew
  have HTu : Hid (Tch w w1.drew.drew [d]) := Lib.hid HT1.out.drew.drew
  obtain ⟨w3, hw3⟩ : ∃ w3, w1.drew.drew = w3 := ⟨_, rfl⟩
  rw [hw3] at HV HU HTu
  have HIn := Lib.hid hI
  obtain ⟨v, hv'⟩ : ∃ v, curE all = v := ⟨_, rfl⟩
  rw [hv'] at HV ⊢
  clear hQ hI hn hn2 hv hlo hL hl hv'
  go_enter_defers Try.func19, Try.ntmps19
  go_wp2_with (first
    | (go_at_call 25; refine (lock_free muLib ⟨d, 0, none⟩ _ c0 z0).mono ?_; rintro e w' ⟨rfl, rfl⟩; rw [hw1])
    | (go_at_call 30; refine HN.out.mono ?_; rintro e w' ⟨rfl, rfl⟩)
    | (go_at_call 31; refine HV.out.mono ?_; rintro e w' ⟨rfl, hw⟩; subst hw))
  refine leaves_cons (f := 26) (args := #[.pointer (some ⟨d, 0, none⟩)]) (by simp) (by simp [go_sem]) ?_
  refine (unlock_deferred muLib ⟨d, 0, none⟩ .returning _ HU.out.un.1 HU.out.un.2).mono ?_
  rintro e u' w'' ⟨rfl, rfl, rfl⟩
  refine ⟨_, results_tmp rfl _ _ _, rfl, ⟨gL, gS, cL, cS, rfl, ?_, HIn.out⟩, (HTu.out.trans (tch_cell _ d 0 _)).mono (by simp)⟩
  rw [HLo.out, HL.out]
  exact HU.out.lock 0
theorem InvE.lo_ {all ins : List Int} (h : InvE all ins) : ∀ x ∈ ins, -1 ≤ x := fun x hx => (h.in_ x hx).1
set_option maxRecDepth 100000 in
set_option maxHeartbeats 2000000 in
theorem seeP (d : Nat) (S : List Nat) (all ins : List Int) (r : Int) (hl : all.length ≤ 90000) (w : World) (h : EpP w d S all ins) :
    Calls Try.prog 22 #[.pointer (some ⟨d, 0, none⟩), .int .i64 r] w fun e w' => e = .returned (.tuple #[.int .i64 (seeV all ins r), .bool (inE ins r)]) ∧ EpP w' d S all ins ∧ Tch w w' S := by
  obtain ⟨gL, gS, cL, cS, rfl, hQ, hI⟩ := h
  have c0 := hQ.c0
  have z0 := hQ.1.frozen 0
  obtain ⟨w1, hw1⟩ : ∃ w1, w.setCell ⟨d, 0, none⟩ (.int .i32 1) = w1 := ⟨_, rfl⟩
  have HQ1 := Lib.hid (hw1 ▸ hQ.lock 1 : EpQ 1 w1 d gL gS cL cS (all.drop (lowE all ins)) (lowE all ins) ins)
  have HT1 : Hid (Tch w w1 [d]) := Lib.hid (hw1 ▸ tch_cell w d 0 _)
  have HIs := Lib.hid (pisin 1 d gL gS cL cS _ _ ins hI.few.2 hI.lo_ r w1 HQ1.out)
  have HIn := Lib.hid hI
  cases hb : inE ins r with
  | false =>
    rw [hb] at HIs
    have HS : Hid (seeV all ins r = 0) := Lib.hid (by unfold seeV; rw [hb]; rfl)
    clear hQ hI hb
    go_enter_defers Try.func22, Try.ntmps22
    go_wp2_with (first
      | (go_at_call 25; refine (lock_free muLib ⟨d, 0, none⟩ _ c0 z0).mono ?_; rintro e w' ⟨rfl, rfl⟩; rw [hw1])
      | (go_at_call 32; refine HIs.out.mono ?_; rintro e w' ⟨rfl, rfl⟩))
    refine leaves_cons (f := 26) (args := #[.pointer (some ⟨d, 0, none⟩)]) (by simp) (by simp [go_sem]) ?_
    refine (unlock_deferred muLib ⟨d, 0, none⟩ .returning _ HQ1.out.un.1 HQ1.out.un.2).mono ?_
    rintro e u' w'' ⟨rfl, rfl, rfl⟩
    refine ⟨.tuple #[.int .i64 0, .bool false], by simp [results, Try.results22, go_sem], by rw [HS.out], ⟨gL, gS, cL, cS, rfl, ?_, HIn.out⟩, (HT1.out.trans (tch_cell _ d 0 _)).mono (by simp)⟩
    exact HQ1.out.lock 0
  | true =>
    obtain ⟨i, x, hri, hil, hx⟩ := (reader_cases ins r).resolve_left (fun h0 => by rw [(inE_bad h0).1] at hb; cases hb)
    have hio := (inE_at hx).1
    rw [← hri, hb] at hio
    have hx0 : 0 ≤ x := by simpa using hio.symm
    obtain ⟨x, rfl⟩ : ∃ y : Nat, x = (y : Int) := ⟨x.toNat, by omega⟩
    have hxl := (hI.in_ _ (List.mem_of_getElem? hx)).2
    have hlx : lowE all ins ≤ x := by have := loE_in (m := all.length - 1) (List.mem_of_getElem? hx) hx0; simpa [lowE] using this
    have hv : (all.drop (lowE all ins))[x - lowE all ins]? = some (seeV all ins r) := by
      rw [List.getElem?_drop, show lowE all ins + (x - lowE all ins) = x by omega]
      unfold seeV
      rw [if_pos hb, show (r - 1).toNat = i by omega, List.getD_eq_getElem?_getD (l := ins), hx]
      simp only [Option.getD_some, Int.toNat_natCast]
      rw [List.getD_eq_getElem?_getD, List.getElem?_eq_getElem (by omega)]
      rfl
    rw [hb] at HIs
    have HV := Lib.hid (pversion 1 d gL gS cL cS _ _ ins x _ _ (by omega) hv (by omega) w1 HQ1.out)
    have k4 := HQ1.out.c4
    have k5 := own_cell HQ1.out.2.2.1 (ints_at hx)
    have hf := hI.few.2
    have j1 : IntKind.i64.wrap (r - 1) = (i : Int) := by rw [IntKind.wrap_i64]; omega
    obtain ⟨R, hR⟩ : ∃ R, ins.length = R := ⟨_, rfl⟩
    rw [hR] at k4 hil
    have i0 : (0 : Int) ≤ (i : Int) := by omega
    have i1 : (i : Int) < (R : Int) := by omega
    have HU := Lib.hid HQ1.out.drew
    have HTu : Hid (Tch w w1.drew [d]) := Lib.hid HT1.out.drew
    obtain ⟨v, hv'⟩ : ∃ v, seeV all ins r = v := ⟨_, rfl⟩
    rw [hv'] at HV ⊢
    clear hQ hI hb hri hil hx hio hx0 hxl hlx hv hf hR hv'
    go_enter_defers Try.func22, Try.ntmps22
    go_wp2_with (first
      | (go_at_call 25; refine (lock_free muLib ⟨d, 0, none⟩ _ c0 z0).mono ?_; rintro e w' ⟨rfl, rfl⟩; rw [hw1])
      | (go_at_call 32; refine HIs.out.mono ?_; rintro e w' ⟨rfl, rfl⟩)
      | (go_at_call 31; refine HV.out.mono ?_; rintro e w' ⟨rfl, rfl⟩))
    refine leaves_cons (f := 26) (args := #[.pointer (some ⟨d, 0, none⟩)]) (by simp) (by simp [go_sem]) ?_
    refine (unlock_deferred muLib ⟨d, 0, none⟩ .returning _ HU.out.un.1 HU.out.un.2).mono ?_
    rintro e u' w'' ⟨rfl, rfl, rfl⟩
    refine ⟨.tuple #[.int .i64 v, .bool true], by simp [results, Try.results22, go_sem], rfl, ⟨gL, gS, cL, cS, rfl, ?_, HIn.out⟩, (HTu.out.trans (tch_cell _ d 0 _)).mono (by simp)⟩
    exact HU.out.lock 0
theorem EpQ.set_in {M : Int} {w : World} {r gL gS cL cS lo : Nat} {L ins : List Int} (h : EpQ M w r gL gS cL cS L lo ins) {i : Nat} (hi : i < ins.length) (y : Int) : EpQ M (w.setCell ⟨gS, i, none⟩ (.int .i64 y)) r gL gS cL cS L lo (ins.set i y) := by
  have hT : Tch w (w.setCell ⟨gS, i, none⟩ (.int .i64 y)) [gS] := tch_cell w gS i _
  refine ⟨?_, hT.own h.2.1 (nown (w := w) (nin1 h.2.2.2.2.2)), ?_, h.2.2.2⟩
  · rw [List.length_set]; exact hT.blk h.1 (nin1 h.2.2.2.2.1)
  · rw [List.length_set, show ints (ins.set i y) = (ints ins).set i (.int .i64 y) by simp [ints, List.map_set]]
    exact own_set1 h.2.2.1 hi _
set_option maxRecDepth 100000 in
set_option maxHeartbeats 2000000 in
theorem pent_bad (d gL gS cL cS : Nat) (all ins : List Int) (r : Int) (w : World) (hQ : EpQ 0 w d gL gS cL cS (all.drop (lowE all ins)) (lowE all ins) ins) (hI : InvE all ins) (ho : outE ins r = false) :
    Calls Try.prog 14 #[.pointer (some ⟨d, 0, none⟩), .int .i64 r] w fun e w' => e = .returned (.tuple #[.int .i64 0, .int .i64 120]) ∧ EpQ 0 w' d gL gS cL cS (all.drop (lowE all ins)) (lowE all ins) ins ∧ Tch w w' [d] := by
  have c0 := hQ.c0
  have z0 := hQ.1.frozen 0
  obtain ⟨w1, hw1⟩ : ∃ w1, w.setCell ⟨d, 0, none⟩ (.int .i32 1) = w1 := ⟨_, rfl⟩
  have HQ1 := Lib.hid (hw1 ▸ hQ.lock 1 : EpQ 1 w1 d gL gS cL cS (all.drop (lowE all ins)) (lowE all ins) ins)
  have HT1 : Hid (Tch w w1 [d]) := Lib.hid (hw1 ▸ tch_cell w d 0 _)
  have HIs := Lib.hid (pisr_any 1 d gL gS cL cS _ _ ins r w1 HQ1.out)
  rcases reader_cases ins r with h0 | ⟨i, x, hri, hil, hx⟩
  · rw [decide_eq_false (by omega : ¬ (1 ≤ r ∧ r ≤ (ins.length : Int)))] at HIs
    clear hQ hI ho h0
    go_enter_defers Try.func14, Try.ntmps14
    go_wp2_with (first
      | (go_at_call 25; refine (lock_free muLib ⟨d, 0, none⟩ _ c0 z0).mono ?_; rintro e w' ⟨rfl, rfl⟩; rw [hw1])
      | (go_at_call 29; refine HIs.out.mono ?_; rintro e w' ⟨rfl, rfl⟩))
    refine leaves_cons (f := 26) (args := #[.pointer (some ⟨d, 0, none⟩)]) (by simp) (by simp [go_sem]) ?_
    refine (unlock_deferred muLib ⟨d, 0, none⟩ .returning _ HQ1.out.un.1 HQ1.out.un.2).mono ?_
    rintro e u' w'' ⟨rfl, rfl, rfl⟩
    exact ⟨.tuple #[.int .i64 0, .int .i64 120], by simp [results, Try.results14, go_sem], rfl, HQ1.out.lock 0, HT1.out.trans (tch_cell _ d 0 _)⟩
  · have hio := (inE_at hx).2
    rw [← hri, ho] at hio
    have hx0 : ¬ x < 0 := by simpa using hio.symm
    have hb : (x != -1) = true := by simp; omega
    have hf := hI.few.2
    have k4 := HQ1.out.c4
    have k5 := own_cell HQ1.out.2.2.1 (ints_at hx)
    rw [decide_eq_true (by omega : 1 ≤ r ∧ r ≤ (ins.length : Int))] at HIs
    have j1 : IntKind.i64.wrap (r - 1) = (i : Int) := by rw [IntKind.wrap_i64]; omega
    obtain ⟨R, hR⟩ : ∃ R, ins.length = R := ⟨_, rfl⟩
    rw [hR] at k4 hil
    have i0 : (0 : Int) ≤ (i : Int) := by omega
    have i1 : (i : Int) < (R : Int) := by omega
    clear hQ hI ho hri hil hx hio hx0 hf hR
    go_enter_defers Try.func14, Try.ntmps14
    go_wp2_with (first
      | (go_at_call 25; refine (lock_free muLib ⟨d, 0, none⟩ _ c0 z0).mono ?_; rintro e w' ⟨rfl, rfl⟩; rw [hw1])
      | (go_at_call 29; refine HIs.out.mono ?_; rintro e w' ⟨rfl, rfl⟩))
    refine leaves_cons (f := 26) (args := #[.pointer (some ⟨d, 0, none⟩)]) (by simp) (by simp [go_sem]) ?_
    refine (unlock_deferred muLib ⟨d, 0, none⟩ .returning _ HQ1.out.un.1 HQ1.out.un.2).mono ?_
    rintro e u' w'' ⟨rfl, rfl, rfl⟩
    exact ⟨.tuple #[.int .i64 0, .int .i64 120], by simp [results, Try.results14, go_sem], rfl, HQ1.out.lock 0, HT1.out.trans (tch_cell _ d 0 _)⟩
set_option maxRecDepth 100000 in
set_option maxHeartbeats 2000000 in
theorem pent_ok (d gL gS cL cS : Nat) (all ins : List Int) (hl : all.length ≤ 90000) (r : Int) (w : World) (hQ : EpQ 0 w d gL gS cL cS (all.drop (lowE all ins)) (lowE all ins) ins) (hI : InvE all ins) (i : Nat) (x : Int) (hri : r = (i : Int) + 1) (hil : i < ins.length) (hx : ins[i]? = some x) (ho : x < 0) :
    Calls Try.prog 14 #[.pointer (some ⟨d, 0, none⟩), .int .i64 r] w fun e w' => e = .returned (.tuple #[.int .i64 (curE all), .int .i64 0]) ∧ EpQ 0 w' d gL gS cL cS (all.drop (lowE all ins)) (lowE all ins) (ins.set i ((all.length - 1 : Nat) : Int)) ∧ Tch w w' [d, gS] := by
  have c0 := hQ.c0
  have z0 := hQ.1.frozen 0
  obtain ⟨n, hn, hn2, hv⟩ := cur_at hI
  have hln : lowE all ins ≤ n := by have := lowE_le all ins; omega
  obtain ⟨w1, hw1⟩ : ∃ w1, w.setCell ⟨d, 0, none⟩ (.int .i32 1) = w1 := ⟨_, rfl⟩
  have HQ1 := Lib.hid (hw1 ▸ hQ.lock 1 : EpQ 1 w1 d gL gS cL cS (all.drop (lowE all ins)) (lowE all ins) ins)
  have HT1 : Hid (Tch w w1 [d]) := Lib.hid (hw1 ▸ tch_cell w d 0 _)
  have HIs := Lib.hid (pisr_any 1 d gL gS cL cS _ _ ins r w1 HQ1.out)
  have hx1 := (hI.in_ _ (List.mem_of_getElem? hx)).1
  obtain rfl : x = -1 := by omega
  have hb : ((-1 : Int) != -1) = false := by decide
  have hf := hI.few.2
  have k4 := HQ1.out.c4
  have k5 := own_cell HQ1.out.2.2.1 (ints_at hx)
  have kz := own_frozen HQ1.out.2.2.1 i
  rw [decide_eq_true (by omega : 1 ≤ r ∧ r ≤ (ins.length : Int))] at HIs
  have j1 : IntKind.i64.wrap (r - 1) = (i : Int) := by rw [IntKind.wrap_i64]; omega
  rw [← hn2]
  have HN := Lib.hid (pnewest 1 d gL gS cL cS _ _ ins n hn (by omega) w1.drew HQ1.out.drew)
  have HQ2 := Lib.hid (HQ1.out.set_in hil (n : Int))
  have HT2 : Hid (Tch w (w1.setCell ⟨gS, i, none⟩ (.int .i64 (n : Int))) [d, gS]) := Lib.hid ((HT1.out.mono (by simp)).trans ((tch_cell w1 gS i _).mono (by simp)))
  have HSt : Hid (∀ cR : Nat, w1.cell? ⟨d, 4, none⟩ = some (.slice (some ⟨gS, 0, none⟩) cR cS) → (w1.setCell ⟨gS, i, none⟩ (.int .i64 (n : Int))).cell? ⟨d, 4, none⟩ = some (.slice (some ⟨gS, 0, none⟩) cR cS)) := Lib.hid (fun cR h => (World.cell?_setCell_far w1 ⟨gS, i, none⟩ ⟨d, 4, none⟩ _ (by show gS ≠ d; exact hQ.2.2.2.2.1.symm)).trans h)
  obtain ⟨R, hR⟩ : ∃ R, ins.length = R := ⟨_, rfl⟩
  rw [hR] at k4 hil
  have HC := Lib.hid (And.intro k4 (And.intro k5 kz))
  have HC2 := Lib.hid (HSt.out R k4)
  have i0 : (0 : Int) ≤ (i : Int) := by omega
  have i1 : (i : Int) < (R : Int) := by omega
  obtain ⟨w4, hw4⟩ : ∃ w4, w4 = (w1.setCell ⟨gS, i, none⟩ (.int .i64 (n : Int))).drew.drew := ⟨_, rfl⟩
  have HQ4 := Lib.hid (HQ2.out.drew.drew)
  have HT4 := Lib.hid HT2.out.drew.drew
  rw [← hw4] at HQ4 HT4
  have HW4 := Lib.hid hw4
  clear hw4
  have HN4 := Lib.hid (pnewest 1 d gL gS cL cS _ _ _ n hn (by omega) w4 HQ4.out)
  have HV4 := Lib.hid (pversion 1 d gL gS cL cS _ _ _ n _ _ (by omega) hv (by omega) w4.drew HQ4.out.drew)
  have HU := Lib.hid HQ4.out.drew.drew
  have HTu := Lib.hid HT4.out.drew.drew
  obtain ⟨v, hv'⟩ : ∃ v, curE all = v := ⟨_, rfl⟩
  rw [hv'] at HV4 ⊢
  clear hQ hI hn hn2 hv hln hri hil hx hx1 ho hf hR hv' kz k5 k4
  have k4 := HC.out.1
  have k5 := HC.out.2.1
  go_enter_defers Try.func14, Try.ntmps14
  go_wp2_with (first
    | (go_at_call 25; refine (lock_free muLib ⟨d, 0, none⟩ _ c0 z0).mono ?_; rintro e w' ⟨rfl, rfl⟩; rw [hw1])
    | (go_at_call 29; refine HIs.out.mono ?_; rintro e w' ⟨rfl, rfl⟩))
  refine wp_np ?_
  have kz := HC.out.2.2
  refine wp_region_held_drew (S := (fun W => W.cell? ⟨d, 4, none⟩ = some (.slice (some ⟨gS, 0, none⟩) R cS))) (by kernel_rfl) ?_ (fun hHeld => ?_)
  · (exact HC.out.1)
  refine wpAnyH_take (i := 0) (oi := { dst := some 28, op := Go.Op.move (Go.Operand.tmp 0), type := 24, pos := "epoch.go:48", after := #[], guard := none }) (v := ?_) rfl (by kernel_rfl) (by kernel_rfl) (by kernel_rfl) (fun _ _ _ h => h) (Or.inl ⟨by rfl, ?_⟩) (by assumption) ?_
  rotate_left
  · intro w hSw
    (try dsimp only at hSw)
    go_simp
    try (with_reducible rfl)
  try simp only [Act.put, List.setIfInBounds_toArray, List.set_cons_zero, List.set_cons_succ]
  refine wpAnyH_take (i := 1) (oi := { dst := some 29, op := Go.Op.nilCheck (Go.Operand.tmp 28), type := 0, pos := "epoch.go:48", after := #[{ on := 0, ground := Go.Ground.data }], guard := none }) (v := ?_) rfl (by kernel_rfl) (by kernel_rfl) (by kernel_rfl) (fun _ _ _ h => h) (Or.inl ⟨by rfl, ?_⟩) (by assumption) ?_
  rotate_left
  · intro w hSw
    (try dsimp only at hSw)
    go_simp
    try (with_reducible rfl)
  try simp only [Act.put, List.setIfInBounds_toArray, List.set_cons_zero, List.set_cons_succ]
  refine wpAnyH_take (i := 2) (oi := { dst := some 30, op := Go.Op.fieldAddr 56 (Go.Operand.tmp 29) 3, type := 0, pos := "epoch.go:48", after := #[{ on := 1, ground := Go.Ground.data }], guard := none }) (v := ?_) rfl (by kernel_rfl) (by kernel_rfl) (by kernel_rfl) (fun _ _ _ h => h) (Or.inl ⟨by rfl, ?_⟩) (by assumption) ?_
  rotate_left
  · intro w hSw
    (try dsimp only at hSw)
    go_simp
    try (with_reducible rfl)
  try simp only [Act.put, List.setIfInBounds_toArray, List.set_cons_zero, List.set_cons_succ]
  refine wpAnyH_take (i := 3) (oi := { dst := some 31, op := Go.Op.load 33 (Go.Operand.tmp 30), type := 33, pos := "epoch.go:48", after := #[{ on := 2, ground := Go.Ground.data }], guard := none }) (v := ?_) rfl (by kernel_rfl) (by kernel_rfl) (by kernel_rfl) (fun _ _ _ h => h) (Or.inl ⟨by rfl, ?_⟩) (by assumption) ?_
  rotate_left
  · intro w hSw
    (try dsimp only at hSw)
    go_simp
    try (with_reducible rfl)
  try simp only [Act.put, List.setIfInBounds_toArray, List.set_cons_zero, List.set_cons_succ]
  refine wpAnyH_take (i := 4) (oi := { dst := some 32, op := Go.Op.move (Go.Operand.tmp 1), type := 3, pos := "epoch.go:48", after := #[], guard := none }) (v := ?_) rfl (by kernel_rfl) (by kernel_rfl) (by kernel_rfl) (fun _ _ _ h => h) (Or.inl ⟨by rfl, ?_⟩) (by assumption) ?_
  rotate_left
  · intro w hSw
    (try dsimp only at hSw)
    go_simp
    try (with_reducible rfl)
  try simp only [Act.put, List.setIfInBounds_toArray, List.set_cons_zero, List.set_cons_succ]
  refine wpAnyH_take (i := 5) (oi := { dst := some 33, op := Go.Op.binOp Go.BinOp.sub 3 (Go.Operand.tmp 32) (Go.Operand.const (Go.Value.int Go.IntKind.i64 1)) 3, type := 3, pos := "epoch.go:48", after := #[{ on := 4, ground := Go.Ground.data }], guard := none }) (v := ?_) rfl (by kernel_rfl) (by kernel_rfl) (by kernel_rfl) (fun _ _ _ h => h) (Or.inl ⟨by rfl, ?_⟩) (by assumption) ?_
  rotate_left
  · intro w hSw
    (try dsimp only at hSw)
    go_simp
    try (with_reducible rfl)
  try simp only [Act.put, List.setIfInBounds_toArray, List.set_cons_zero, List.set_cons_succ]
  refine wpAnyH_take (i := 6) (oi := { dst := some 34, op := Go.Op.move (Go.Operand.tmp 0), type := 24, pos := "epoch.go:48", after := #[], guard := none }) (v := ?_) rfl (by kernel_rfl) (by kernel_rfl) (by kernel_rfl) (fun _ _ _ h => h) (Or.inl ⟨by rfl, ?_⟩) (by assumption) ?_
  rotate_left
  · intro w hSw
    (try dsimp only at hSw)
    go_simp
    try (with_reducible rfl)
  try simp only [Act.put, List.setIfInBounds_toArray, List.set_cons_zero, List.set_cons_succ]
  refine wpAnyH_ready (rs := [7]) (by kernel_rfl) (by simp) ?_
  refine AllReadyH.cons (o := { dst := some 35, op := Go.Op.call { callee := Go.Callee.value (Go.Operand.func 30), args := #[Go.Operand.tmp 34], argTypes := #[24] }, type := 3, pos := "epoch.go:48", after := #[{ on := 6, ground := Go.Ground.data }], guard := none }) rfl (fun K hK => ?_) AllReadyH.nil
  go_simp
  (go_at_call 30; (with_reducible refine Calls.mono HN.out ?_); rintro e W' ⟨rfl, rfl⟩)
  go_wp2_with fail
  refine hK.out _ _ ?_ (fun hHeld => ?_)
  · (exact HC.out.1)
  clear hK K
  try simp only [Act.put, List.setIfInBounds_toArray, List.set_cons_zero, List.set_cons_succ]
  refine wpAnyH_take (i := 8) (oi := { dst := some 36, op := Go.Op.indexAddr 33 (Go.Operand.tmp 31) (Go.Operand.tmp 33), type := 0, pos := "epoch.go:48", after := #[{ on := 3, ground := Go.Ground.data }, { on := 5, ground := Go.Ground.data }, { on := 0, ground := Go.Ground.phase }, { on := 1, ground := Go.Ground.phase }, { on := 2, ground := Go.Ground.phase }, { on := 3, ground := Go.Ground.phase }, { on := 4, ground := Go.Ground.phase }, { on := 5, ground := Go.Ground.phase }, { on := 6, ground := Go.Ground.phase }, { on := 7, ground := Go.Ground.phase }], guard := none }) (v := ?_) rfl (by kernel_rfl) (by kernel_rfl) (by kernel_rfl) (fun _ _ _ h => h) (Or.inl ⟨by rfl, ?_⟩) (by assumption) ?_
  rotate_left
  · intro w hSw
    (try dsimp only at hSw)
    go_simp
    try (with_reducible rfl)
  try simp only [Act.put, List.setIfInBounds_toArray, List.set_cons_zero, List.set_cons_succ]
  refine wpAnyH_ready (rs := [9]) (by kernel_rfl) (by simp) ?_
  refine AllReadyH.cons (o := { dst := none, op := Go.Op.store 3 (Go.Operand.tmp 36) (Go.Operand.tmp 35), type := 0, pos := "epoch.go:48", after := #[{ on := 8, ground := Go.Ground.data }, { on := 7, ground := Go.Ground.data }, { on := 7, ground := Go.Ground.chain }, { on := 0, ground := Go.Ground.phase }, { on := 1, ground := Go.Ground.phase }, { on := 2, ground := Go.Ground.phase }, { on := 3, ground := Go.Ground.phase }, { on := 4, ground := Go.Ground.phase }, { on := 5, ground := Go.Ground.phase }, { on := 6, ground := Go.Ground.phase }, { on := 7, ground := Go.Ground.phase }], guard := none }) rfl (fun K hK => ?_) AllReadyH.nil
  go_simp
  refine hK.out _ _ ?_ (fun hHeld => ?_)
  · (exact HC2.out)
  clear hK K
  try simp only [Act.put, List.setIfInBounds_toArray, List.set_cons_zero, List.set_cons_succ]
  refine wpAnyH_done (by kernel_rfl) ?_ _
  dsimp only
  rw [← HW4.out]
  go_wp2_with (first
    | (go_at_call 30; refine HN4.out.mono ?_; rintro e w' ⟨rfl, rfl⟩)
    | (go_at_call 31; refine HV4.out.mono ?_; rintro e w' ⟨rfl, rfl⟩))
  refine leaves_cons (f := 26) (args := #[.pointer (some ⟨d, 0, none⟩)]) (by simp) (by simp [go_sem]) ?_
  refine (unlock_deferred muLib ⟨d, 0, none⟩ .returning _ HU.out.un.1 HU.out.un.2).mono ?_
  rintro e u' w'' ⟨rfl, rfl, rfl⟩
  exact ⟨.tuple #[.int .i64 v, .int .i64 0], by simp [results, Try.results14, go_sem], rfl, HU.out.lock 0, HTu.out.trans ((tch_cell _ d 0 _).mono (by simp))⟩
theorem entP (d : Nat) (S : List Nat) (all ins : List Int) (r : Int) (hl : all.length ≤ 90000) (w : World) (h : EpP w d S all ins) :
    Calls Try.prog 14 #[.pointer (some ⟨d, 0, none⟩), .int .i64 r] w fun e w' => ∃ S', e = .returned (.tuple #[.int .i64 (entV all ins r), .int .i64 (entN ins r)]) ∧ EpP w' d S' all (entI all ins r) ∧ Goes w w' S S' := by
  obtain ⟨gL, gS, cL, cS, rfl, hQ, hI⟩ := h
  cases ho : outE ins r with
  | false =>
    refine (pent_bad d gL gS cL cS all ins r w hQ hI ho).mono fun e w' ⟨k1, k2, k3⟩ => ?_
    rw [entV_no ho, entN_no ho, entI_no ho]
    exact ⟨_, k1, ⟨gL, gS, cL, cS, rfl, k2, hI⟩, Goes.of_tch (k3.mono (by simp))⟩
  | true =>
    obtain ⟨i, x, hri, hil, hx⟩ := (reader_cases ins r).resolve_left (fun h0 => by rw [(inE_bad h0).2] at ho; cases ho)
    have hio := (inE_at hx).2
    rw [← hri, ho] at hio
    refine (pent_ok d gL gS cL cS all ins hl r w hQ hI i x hri hil hx (by simpa using hio.symm)).mono fun e w' ⟨k1, k2, k3⟩ => ?_
    rw [entV_yes ho, entN_yes ho]
    have hin : entI all ins r = ins.set i ((all.length - 1 : Nat) : Int) := by unfold entI; rw [if_pos ho, show (r - 1).toNat = i by omega]
    refine ⟨_, k1, ⟨gL, gS, cL, cS, rfl, ?_, hI.ent r⟩, Goes.of_tch (k3.mono (by simp))⟩
    rw [lowE_ent, hin]
    exact k2
set_option maxRecDepth 100000 in
set_option maxHeartbeats 2000000 in
theorem levP (d : Nat) (S : List Nat) (all ins : List Int) (r : Int) (hl : all.length ≤ 90000) (w : World) (h : EpP w d S all ins) :
    Calls Try.prog 16 #[.pointer (some ⟨d, 0, none⟩), .int .i64 r] w fun e w' => ∃ A c S', e = .returned (.tuple #[.slice A (levV all ins r).length c, .int .i64 (levN ins r)]) ∧
      NewR w w' S' A c (levV all ins r) ∧ EpP w' d S' all (levI ins r) ∧ Goes w w' S S' := by
  obtain ⟨gL, gS, cL, cS, rfl, hQ, hI⟩ := h
  have c0 := hQ.c0
  have z0 := hQ.1.frozen 0
  obtain ⟨w1, hw1⟩ : ∃ w1, w.setCell ⟨d, 0, none⟩ (.int .i32 1) = w1 := ⟨_, rfl⟩
  have HQ1 := Lib.hid (hw1 ▸ hQ.lock 1 : EpQ 1 w1 d gL gS cL cS (all.drop (lowE all ins)) (lowE all ins) ins)
  have HT1 : Hid (Tch w w1 [d]) := Lib.hid (hw1 ▸ tch_cell w d 0 _)
  have HIs := Lib.hid (pisin 1 d gL gS cL cS _ _ ins hI.few.2 hI.lo_ r w1 HQ1.out)
  have HIn := Lib.hid hI
  cases hb : inE ins r with
  | false =>
    rw [hb] at HIs
    rw [levV_no hb, levN_no hb, levI_no hb]
    have HU := HQ1
    clear hQ hI hb
    go_enter_defers Try.func16, Try.ntmps16
    go_wp2_with (first
      | (go_at_call 25; refine (lock_free muLib ⟨d, 0, none⟩ _ c0 z0).mono ?_; rintro e w' ⟨rfl, rfl⟩; rw [hw1])
      | (go_at_call 32; refine HIs.out.mono ?_; rintro e w' ⟨rfl, rfl⟩))
    refine leaves_cons (f := 26) (args := #[.pointer (some ⟨d, 0, none⟩)]) (by simp) (by simp [go_sem]) ?_
    refine (unlock_deferred muLib ⟨d, 0, none⟩ .returning _ HU.out.un.1 HU.out.un.2).mono ?_
    rintro e u' w'' ⟨rfl, rfl, rfl⟩
    refine ⟨.tuple #[.slice none 0 0, .int .i64 120], by simp [results, Try.results16, go_sem], none, 0, _, rfl, NewR.nil _ _ _, ⟨gL, gS, cL, cS, rfl, HQ1.out.lock 0, HIn.out⟩, Goes.of_tch ((HT1.out.trans (tch_cell _ d 0 _)).mono (by simp))⟩
  | true =>
    obtain ⟨i, x, hri, hil, hx⟩ := (reader_cases ins r).resolve_left (fun h0 => by rw [(inE_bad h0).1] at hb; cases hb)
    rw [hb] at HIs
    have hli : levI ins r = ins.set i (-1) := by unfold levI; rw [if_pos hb, show (r - 1).toNat = i by omega]
    have hlv : levV all ins r = (all.drop (lowE all ins)).take (lowE all (levI ins r) - lowE all ins) := rfl
    have hln : levN ins r = 0 := by unfold levN; rw [if_pos hb]
    have hlo := lowE_lev all ins r
    have hI2 := hI.lev r
    obtain ⟨n, hn, hn2, -⟩ := cur_at hI
    have hle := lowE_le all (levI ins r)
    rw [hli] at hlo hI2 hle hlv
    obtain ⟨k, hk⟩ : ∃ k, lowE all (ins.set i (-1)) - lowE all ins = k := ⟨_, rfl⟩
    rw [hk] at hlv
    have hlk : (levV all ins r).length = k := by rw [hlv]; simp; omega
    have HLk : Hid (((all.drop (lowE all ins)).take k).length = k) := Lib.hid (by rw [← hlv]; exact hlk)
    rw [hlk, hln, hlv, hli]
    have hlow : lowE all (ins.set i (-1)) = lowE all ins + k := by omega
    have HQ2 := Lib.hid (HQ1.out.set_in hil (-1))
    have HT2 : Hid (Tch w (w1.setCell ⟨gS, i, none⟩ (.int .i64 (-1))) [d, gS]) := Lib.hid ((HT1.out.mono (by simp)).trans ((tch_cell w1 gS i _).mono (by simp)))
    have k4 := HQ1.out.c4
    have k5 := own_cell HQ1.out.2.2.1 (ints_at hx)
    have kz := own_frozen HQ1.out.2.2.1 i
    have hf := hI.few.2
    have j1 : IntKind.i64.wrap (r - 1) = (i : Int) := by rw [IntKind.wrap_i64]; omega
    have HG := Lib.hid (pgive 1 d gL gS cL cS _ _ (ins.set i (-1)) (by simpa using hf) hI2.lo_ n hn (by omega) k (by rw [hn2]; exact hlow) _ HQ2.out)
    obtain ⟨R, hR⟩ : ∃ R, ins.length = R := ⟨_, rfl⟩
    rw [hR] at k4 hil
    have i0 : (0 : Int) ≤ (i : Int) := by omega
    have i1 : (i : Int) < (R : Int) := by omega
    have HI2 := Lib.hid hI2
    have HLow := Lib.hid hlow
    have HDr : Hid ((all.drop (lowE all ins)).drop k = all.drop (lowE all ins + k)) := Lib.hid (by rw [List.drop_drop])
    have HLt := Lib.hid hQ.lt
    clear hQ hI hb hri hil hx hf hR hli hlv hln hlo hI2 hn hn2 hle hk hlk hlow
    go_enter_defers Try.func16, Try.ntmps16
    go_wp2_with (first
      | (go_at_call 25; refine (lock_free muLib ⟨d, 0, none⟩ _ c0 z0).mono ?_; rintro e w' ⟨rfl, rfl⟩; rw [hw1])
      | (go_at_call 32; refine HIs.out.mono ?_; rintro e w' ⟨rfl, rfl⟩)
      | (go_at_call 27; (with_reducible refine Calls.mono HG.out ?_); rintro e w3 ⟨A, c, gL', cL', rfl, g1, g2, g3, g4, g5⟩; have HO := Lib.hid g1; have HU := Lib.hid g2; have HT3 := Lib.hid g3; have HF3 := Lib.hid g4; have HA3 := Lib.hid g5; clear g1 g2 g3 g4 g5))
    refine leaves_cons (f := 26) (args := #[.pointer (some ⟨d, 0, none⟩)]) (by simp) (by simp [go_sem]) ?_
    refine (unlock_deferred muLib ⟨d, 0, none⟩ .returning _ HU.out.un.1 HU.out.un.2).mono ?_
    rintro e u' w'' ⟨rfl, rfl, rfl⟩
    have hT := (HT2.out.trans (HT3.out.mono (by simp))).trans ((tch_cell w3 d 0 (.int .i32 0)).mono (by simp))
    have hs2 : w.heap.size ≤ (w1.setCell ⟨gS, i, none⟩ (.int .i64 (-1))).heap.size := HT2.out.size
    have hlt := HLt.out
    have hf3 := HF3.out
    have hF : gL' = gL ∨ w.heap.size ≤ gL' := hf3.imp id (fun h => Nat.le_trans hs2 h)
    refine ⟨.tuple #[.slice A k c, .int .i64 0], by simp [results, Try.results16, go_sem], A, c, [d, gL', gS], rfl, ?_, ⟨gL', gS, cL', cS, rfl, ?_, HI2.out⟩, hT.mono (by simp), by simp; omega⟩
    · have ho := (tch_cell w3 d 0 (.int .i32 0)).own HO.out (fun g hg => by have := own_basek HO.out g hg; simp; omega)
      refine ⟨?_, fun g hg => ?_⟩
      · rw [HLk.out]
        exact own_mono ho hs2
      · have h1 := own_basek HO.out g (by rw [hg]; rfl)
        have h2 := HA3.out g hg
        simp; omega
    · rw [HLow.out, ← HDr.out]
      exact HU.out.lock 0
/-- A version more. -/
theorem EpQ.app {M : Int} {w w5 : World} {r gL gS cL cS lo : Nat} {L ins : List Int} {v : Int} {v1 : Value} {K : Nat} (hK : L.length = K) (h : EpQ M w r gL gS cL cS L lo ins)
    (hown : w5.ownsRow 0 3 1 v1 (K + 1) (ints L ++ [.int .i64 v])) (hg : (w.alloc (.cells #[.int .i64 v] 3)).grownBy w5 (Value.slice (some ⟨gL, 0, none⟩) K cL).ownBlock)
    (hv : v1.ownBlock = (Value.slice (some ⟨gL, 0, none⟩) K cL).ownBlock ∨ v1.ownBlock = some (w.alloc (.cells #[.int .i64 v] 3)).heap.size) :
    ∃ g1 c1, v1 = .slice (some ⟨g1, 0, none⟩) (K + 1) c1 ∧ EpQ M (w5.setCell ⟨r, 2, none⟩ (.slice (some ⟨g1, 0, none⟩) (K + 1) c1)) r g1 gS c1 cS (L ++ [v]) lo ins ∧
      Tch w (w5.setCell ⟨r, 2, none⟩ (.slice (some ⟨g1, 0, none⟩) (K + 1) c1)) [r, gL] ∧ (g1 = gL ∨ w.heap.size ≤ g1) ∧ w5.frozen? ⟨r, 2, none⟩ = false ∧ ∃ u, w5.cell? ⟨r, 2, none⟩ = some u := by
  subst hK
  obtain ⟨g1, c1, rfl, h1, h2, h3⟩ := app_res hown hg hv
  rw [World.size_alloc] at h1
  have hlt := h.lt
  have hne := h.2.2.2
  have hT : Tch w w5 [gL] := ((Tch.refl w [gL]).alloc _).trans h3
  have hB := hT.blk h.1 (nin1 hne.1)
  have hd : g1 ≠ r ∧ g1 ≠ gS := by rcases h1 with h | h <;> omega
  have hl : (L ++ [v]).length = L.length + 1 := by simp
  refine ⟨g1, c1, rfl, ⟨?_, ?_, ?_, hd.1.symm, hne.2.1, hd.2⟩, (hT.mono (by simp)).set_ (p := ⟨r, 2, none⟩) (by simp) _, by omega, hB.frozen 2, _, hB.cell 2⟩
  · rw [hl]; exact hB.set_ 2 _
  · rw [hl, ints_app]
    exact (tch_cell w5 r 2 _).own hown (nown (w := w) (nin1 hd.1))
  · exact (tch_cell w5 r 2 _).own (hT.own h.2.2.1 (nown (w := w) (nin1 hne.2.2.symm))) (nown (w := w) (nin1 hne.2.1.symm))
set_option maxRecDepth 100000 in
set_option maxHeartbeats 4000000 in
theorem pubP (d : Nat) (S : List Nat) (all ins : List Int) (v : Int) (hl : all.length ≤ 90000) (w : World) (h : EpP w d S all ins) :
    Calls Try.prog 11 #[.pointer (some ⟨d, 0, none⟩), .int .i64 v] w fun e w' => ∃ A c S', e = .returned (.slice A (pubV all ins v).length c) ∧
      NewR w w' S' A c (pubV all ins v) ∧ EpP w' d S' (all ++ [v]) ins ∧ Goes w w' S S' := by
  obtain ⟨gL, gS, cL, cS, rfl, hQ, hI⟩ := h
  have c0 := hQ.c0
  have z0 := hQ.1.frozen 0
  have hlo := lowE_le all ins
  have hlo2 := lowE_le (all ++ [v]) ins
  have hlo3 := lowE_pub all ins v
  have hone := hI.one
  obtain ⟨lo, hloe⟩ : ∃ lo, lowE all ins = lo := ⟨_, rfl⟩
  rw [hloe] at hlo hlo3 hQ
  have hdr : ∀ j, j ≤ all.length → (all ++ [v]).drop j = all.drop j ++ [v] := fun j hj => List.drop_append_of_le_length hj
  obtain ⟨k, hk⟩ : ∃ k, lowE (all ++ [v]) ins - lo = k := ⟨_, rfl⟩
  have hpv : pubV all ins v = (all.drop lo ++ [v]).take k := by unfold pubV bkE; rw [hloe, hk, hdr lo (by omega)]
  have hlow : lowE (all ++ [v]) ins = lo + k := by omega
  have HDr : Hid ((all.drop lo ++ [v]).drop k = (all ++ [v]).drop (lo + k)) := Lib.hid (by rw [← hdr lo (by omega), List.drop_drop])
  obtain ⟨L, hL⟩ : ∃ L, all.drop lo = L := ⟨_, rfl⟩
  have hLl : L.length = all.length - lo := by rw [← hL]; simp
  rw [hL] at hQ hpv HDr
  rw [hpv]
  rw [List.length_append, List.length_singleton] at hlo2
  have HLk : Hid (((L ++ [v]).take k).length = k) := Lib.hid (by simp; omega)
  rw [HLk.out]
  obtain ⟨w1, hw1⟩ : ∃ w1, w.setCell ⟨d, 0, none⟩ (.int .i32 1) = w1 := ⟨_, rfl⟩
  have HQ1 := Lib.hid (hw1 ▸ hQ.lock 1 : EpQ 1 w1 d gL gS cL cS L lo ins)
  have HT1 : Hid (Tch w w1 [d]) := Lib.hid (hw1 ▸ tch_cell w d 0 _)
  have k2 := HQ1.out.c2
  have HG : Hid (∀ (W : World) (g1 c1 : Nat), EpQ 1 W d g1 gS c1 cS (L ++ [v]) lo ins → Calls Try.prog 27 #[.pointer (some ⟨d, 0, none⟩)] W _) :=
    Lib.hid (fun W g1 c1 hW => pgive 1 d g1 gS c1 cS (L ++ [v]) lo ins hI.few.2 hI.lo_ all.length (by simp [hLl]; omega) (by omega) k (by rw [← hlow]; simp [lowE]) W hW)
  have HIn := Lib.hid (hI.pub v)
  have HLow := Lib.hid hlow
  have HSz : Hid (L.length ≤ 1000000) := Lib.hid (by omega)
  have HO1 : Hid ((w1.alloc (.cells #[.int .i64 v] 3)).ownsRow 0 3 1 (.slice (some ⟨gL, 0, none⟩) L.length cL) L.length (ints L)) := Lib.hid (HQ1.out.2.1.alloc _)
  have HS1 := Lib.hid (src_new w1 3 [.int .i64 v])
  have HLt := Lib.hid hQ.lt
  obtain ⟨K, hK⟩ : ∃ K, L.length = K := ⟨_, rfl⟩
  have HK := Lib.hid hK
  rw [hK] at k2 HSz HO1
  clear hQ hI hl hlo hlo2 hlo3 hone hloe hdr hk hpv hlow hL hLl hK
  go_enter_defers Try.func11, Try.ntmps11
  go_wp2_with (first
    | (go_at_call 25; refine (lock_free muLib ⟨d, 0, none⟩ _ c0 z0).mono ?_; rintro e w' ⟨rfl, rfl⟩; rw [hw1])
    | (at_builtin; (refine wpList_apc 33 3 (.int .i64 0) 1 8 Try.underlying33 infoInt rfl (by decide) (by decide) _ rfl (.tmp 16) (.tmp 18) rfl 0 (.slice (some ⟨gL, 0, none⟩) K cL) K (ints L) rfl HO1.out ⟨w1.heap.size, 0, none⟩ 1 [.int .i64 v] rfl rfl (fun j u hj => HS1.out j u hj) (by simp [Value.oneCell']) HSz.out (Nat.zero_le _) ?_; intro v1 w5 hown1 hg1 hv1; obtain ⟨g1, c1', e1, hM1, hT1, hn1, hz1, u1, hu1⟩ := EpQ.app HK.out HQ1.out hown1 hg1 hv1; subst e1; have HM1 := Lib.hid hM1; have HT5 := Lib.hid hT1; have HN1 := Lib.hid hn1; have HGb := Lib.hid (HG.out _ _ _ hM1); clear hown1 hg1 hv1 hM1 hT1 hn1))
    | (go_at_call 27; (with_reducible refine Calls.mono HGb.out ?_); rintro e w3 ⟨A, c, gL', cL', rfl, g1', g2', g3', g4', g5'⟩; have HO := Lib.hid g1'; have HU := Lib.hid g2'; have HT3 := Lib.hid g3'; have HF3 := Lib.hid g4'; have HA3 := Lib.hid g5'; clear g1' g2' g3' g4' g5'))
  refine leaves_cons (f := 26) (args := #[.pointer (some ⟨d, 0, none⟩)]) (by simp) (by simp [go_sem]) ?_
  refine (unlock_deferred muLib ⟨d, 0, none⟩ .returning _ HU.out.un.1 HU.out.un.2).mono ?_
  rintro e u' w'' ⟨rfl, rfl, rfl⟩
  have hs1 : w.heap.size ≤ w1.heap.size := HT1.out.size
  have hs5 := HT5.out.size
  have hlt := HLt.out
  have hf3 := HF3.out
  have hn1 := HN1.out
  have hT := (((HT1.out.mono (T := [d, gL, gS]) (by simp)).trans (HT5.out.mono (by simp))).trans (HT3.out.mono (by simp))).trans ((tch_cell w3 d 0 (.int .i32 0)).mono (by simp))
  refine ⟨_, results_tmp rfl _ _ _, A, c, [d, gL', gS], rfl, ?_, ⟨gL', gS, cL', cS, rfl, ?_, HIn.out⟩, hT, by simp; omega⟩
  · have ho := (tch_cell w3 d 0 (.int .i32 0)).own HO.out (fun g hg => by have := own_basek HO.out g hg; simp; omega)
    refine ⟨?_, fun g hg => ?_⟩
    · rw [HLk.out]
      exact own_mono ho (Nat.le_trans hs1 hs5)
    · have h1 := own_basek HO.out g (by rw [hg]; rfl)
      have h2 := HA3.out g hg
      simp; omega
  · rw [HLow.out, ← HDr.out]
    exact HU.out.lock 0
set_option maxRecDepth 100000 in
set_option maxHeartbeats 2000000 in
theorem waitP (d : Nat) (S : List Nat) (all ins : List Int) (hl : all.length ≤ 90000) (w : World) (h : EpP w d S all ins) :
    Calls Try.prog 18 #[.pointer (some ⟨d, 0, none⟩)] w fun e w' => ∃ A c, e = .returned (.slice A (wtE all ins).length c) ∧ NewR w w' S A c (wtE all ins) ∧ EpP w' d S all ins ∧ Tch w w' S := by
  obtain ⟨gL, gS, cL, cS, rfl, hQ, hI⟩ := h
  have c0 := hQ.c0
  have z0 := hQ.1.frozen 0
  have hlo := lowE_le all ins
  have hone := hI.one
  obtain ⟨lo, hloe⟩ : ∃ lo, lowE all ins = lo := ⟨_, rfl⟩
  have HLo := Lib.hid hloe
  rw [hloe] at hlo hQ
  obtain ⟨k, hk⟩ : ∃ k, all.length - 1 - lo = k := ⟨_, rfl⟩
  have hpv : wtE all ins = (all.drop lo).take k := by unfold wtE bkE; rw [hloe, hk]
  obtain ⟨L, hL⟩ : ∃ L, all.drop lo = L := ⟨_, rfl⟩
  have HL := Lib.hid hL
  have hLl : L.length = k + 1 := by rw [← hL]; simp; omega
  rw [hL] at hQ hpv
  rw [hpv]
  have HLk : Hid ((L.take k).length = k) := Lib.hid (by simp; omega)
  rw [HLk.out]
  obtain ⟨w1, hw1⟩ : ∃ w1, w.setCell ⟨d, 0, none⟩ (.int .i32 1) = w1 := ⟨_, rfl⟩
  have HQ1 := Lib.hid (hw1 ▸ hQ.lock 1 : EpQ 1 w1 d gL gS cL cS L lo ins)
  have HT1 : Hid (Tch w w1 [d]) := Lib.hid (hw1 ▸ tch_cell w d 0 _)
  have k2 := HQ1.out.c2
  have hle := own_le HQ1.out.2.1
  have HC := Lib.hid (clone_int gL 0 k cL (L.take k) HLk.out (by omega) w1.drew (fun j z hz => by rw [Nat.zero_add]; exact own_cell HQ1.out.drew.2.1 (ints_at (take_at hz))))
  have HIn := Lib.hid hI
  have HLt := Lib.hid hQ.lt
  obtain ⟨K, hK⟩ : ∃ K, L.length = K := ⟨_, rfl⟩
  rw [hK] at k2 hLl hle
  have j1 : IntKind.i64.wrap ((K : Int) - 1) = (k : Int) := by rw [IntKind.wrap_i64]; omega
  have i0 : (0 : Int) ≤ (k : Int) := by omega
  have i1 : (k : Int) ≤ (cL : Int) := by omega
  have s1 := fun W => sl_to W gL 0 K cL k (by omega)
  have HK2 := Lib.hid k2
  clear hQ hI hl hlo hone hloe hk hpv hL hLl hK hle
  go_enter_defers Try.func18, Try.ntmps18
  go_wp2_with (go_at_call 25; refine (lock_free muLib ⟨d, 0, none⟩ _ c0 z0).mono ?_; rintro e w' ⟨rfl, rfl⟩; rw [hw1])
  refine wp_np ?_
  refine wp_region_held_drew (S := (fun W => W.cell? ⟨d, 2, none⟩ = some (.slice (some ⟨gL, 0, none⟩) K cL))) (by kernel_rfl) ?_ (fun hHeld => ?_)
  · ((first | exact HK2.out | exact HK3.out))
  refine wpAnyH_take (i := 0) (oi := { dst := some 10, op := Go.Op.move (Go.Operand.tmp 0), type := 24, pos := "epoch.go:84", after := #[], guard := none }) (v := ?_) rfl (by kernel_rfl) (by kernel_rfl) (by kernel_rfl) (fun _ _ _ h => h) (Or.inl ⟨by rfl, ?_⟩) (by assumption) ?_
  rotate_left
  · intro w hSw
    (try dsimp only at hSw)
    go_simp
    try (with_reducible rfl)
  try simp only [Act.put, List.setIfInBounds_toArray, List.set_cons_zero, List.set_cons_succ]
  refine wpAnyH_take (i := 1) (oi := { dst := some 11, op := Go.Op.nilCheck (Go.Operand.tmp 10), type := 0, pos := "epoch.go:84", after := #[{ on := 0, ground := Go.Ground.data }], guard := none }) (v := ?_) rfl (by kernel_rfl) (by kernel_rfl) (by kernel_rfl) (fun _ _ _ h => h) (Or.inl ⟨by rfl, ?_⟩) (by assumption) ?_
  rotate_left
  · intro w hSw
    (try dsimp only at hSw)
    go_simp
    try (with_reducible rfl)
  try simp only [Act.put, List.setIfInBounds_toArray, List.set_cons_zero, List.set_cons_succ]
  refine wpAnyH_take (i := 2) (oi := { dst := some 12, op := Go.Op.fieldAddr 56 (Go.Operand.tmp 11) 1, type := 0, pos := "epoch.go:84", after := #[{ on := 1, ground := Go.Ground.data }], guard := none }) (v := ?_) rfl (by kernel_rfl) (by kernel_rfl) (by kernel_rfl) (fun _ _ _ h => h) (Or.inl ⟨by rfl, ?_⟩) (by assumption) ?_
  rotate_left
  · intro w hSw
    (try dsimp only at hSw)
    go_simp
    try (with_reducible rfl)
  try simp only [Act.put, List.setIfInBounds_toArray, List.set_cons_zero, List.set_cons_succ]
  refine wpAnyH_take (i := 3) (oi := { dst := some 13, op := Go.Op.load 33 (Go.Operand.tmp 12), type := 33, pos := "epoch.go:84", after := #[{ on := 2, ground := Go.Ground.data }], guard := none }) (v := ?_) rfl (by kernel_rfl) (by kernel_rfl) (by kernel_rfl) (fun _ _ _ h => h) (Or.inl ⟨by rfl, ?_⟩) (by assumption) ?_
  rotate_left
  · intro w hSw
    (try dsimp only at hSw)
    go_simp
    try (with_reducible rfl)
  try simp only [Act.put, List.setIfInBounds_toArray, List.set_cons_zero, List.set_cons_succ]
  refine wpAnyH_take (i := 4) (oi := { dst := some 14, op := Go.Op.move (Go.Operand.tmp 0), type := 24, pos := "epoch.go:84", after := #[], guard := none }) (v := ?_) rfl (by kernel_rfl) (by kernel_rfl) (by kernel_rfl) (fun _ _ _ h => h) (Or.inl ⟨by rfl, ?_⟩) (by assumption) ?_
  rotate_left
  · intro w hSw
    (try dsimp only at hSw)
    go_simp
    try (with_reducible rfl)
  try simp only [Act.put, List.setIfInBounds_toArray, List.set_cons_zero, List.set_cons_succ]
  refine wpAnyH_take (i := 5) (oi := { dst := some 15, op := Go.Op.nilCheck (Go.Operand.tmp 14), type := 0, pos := "epoch.go:84", after := #[{ on := 4, ground := Go.Ground.data }], guard := none }) (v := ?_) rfl (by kernel_rfl) (by kernel_rfl) (by kernel_rfl) (fun _ _ _ h => h) (Or.inl ⟨by rfl, ?_⟩) (by assumption) ?_
  rotate_left
  · intro w hSw
    (try dsimp only at hSw)
    go_simp
    try (with_reducible rfl)
  try simp only [Act.put, List.setIfInBounds_toArray, List.set_cons_zero, List.set_cons_succ]
  refine wpAnyH_take (i := 6) (oi := { dst := some 16, op := Go.Op.fieldAddr 56 (Go.Operand.tmp 15) 1, type := 0, pos := "epoch.go:84", after := #[{ on := 5, ground := Go.Ground.data }], guard := none }) (v := ?_) rfl (by kernel_rfl) (by kernel_rfl) (by kernel_rfl) (fun _ _ _ h => h) (Or.inl ⟨by rfl, ?_⟩) (by assumption) ?_
  rotate_left
  · intro w hSw
    (try dsimp only at hSw)
    go_simp
    try (with_reducible rfl)
  try simp only [Act.put, List.setIfInBounds_toArray, List.set_cons_zero, List.set_cons_succ]
  refine wpAnyH_take (i := 7) (oi := { dst := some 17, op := Go.Op.load 33 (Go.Operand.tmp 16), type := 33, pos := "epoch.go:84", after := #[{ on := 6, ground := Go.Ground.data }], guard := none }) (v := ?_) rfl (by kernel_rfl) (by kernel_rfl) (by kernel_rfl) (fun _ _ _ h => h) (Or.inl ⟨by rfl, ?_⟩) (by assumption) ?_
  rotate_left
  · intro w hSw
    (try dsimp only at hSw)
    go_simp
    try (with_reducible rfl)
  try simp only [Act.put, List.setIfInBounds_toArray, List.set_cons_zero, List.set_cons_succ]
  refine wpAnyH_take (i := 8) (oi := { dst := some 18, op := Go.Op.call { callee := Go.Callee.builtin Go.Builtin.len, args := #[Go.Operand.tmp 17], argTypes := #[33] }, type := 3, pos := "epoch.go:84", after := #[{ on := 7, ground := Go.Ground.data }], guard := none }) (v := ?_) rfl (by kernel_rfl) (by kernel_rfl) (by kernel_rfl) (fun _ _ _ h => h) (Or.inl ⟨by rfl, ?_⟩) (by assumption) ?_
  rotate_left
  · intro w hSw
    (try dsimp only at hSw)
    go_simp
    try (with_reducible rfl)
  try simp only [Act.put, List.setIfInBounds_toArray, List.set_cons_zero, List.set_cons_succ]
  refine wpAnyH_take (i := 9) (oi := { dst := some 19, op := Go.Op.binOp Go.BinOp.sub 3 (Go.Operand.tmp 18) (Go.Operand.const (Go.Value.int Go.IntKind.i64 1)) 3, type := 3, pos := "epoch.go:84", after := #[{ on := 8, ground := Go.Ground.data }], guard := none }) (v := ?_) rfl (by kernel_rfl) (by kernel_rfl) (by kernel_rfl) (fun _ _ _ h => h) (Or.inl ⟨by rfl, ?_⟩) (by assumption) ?_
  rotate_left
  · intro w hSw
    (try dsimp only at hSw)
    go_simp
    try (with_reducible rfl)
  try simp only [Act.put, List.setIfInBounds_toArray, List.set_cons_zero, List.set_cons_succ]
  refine wpAnyH_take (i := 10) (oi := { dst := some 20, op := Go.Op.slice 33 (Go.Operand.tmp 13) none (some (Go.Operand.tmp 19)) none, type := 33, pos := "epoch.go:84", after := #[{ on := 3, ground := Go.Ground.data }, { on := 9, ground := Go.Ground.data }], guard := none }) (v := ?_) rfl (by kernel_rfl) (by kernel_rfl) (by kernel_rfl) (fun _ _ _ h => h) (Or.inl ⟨by rfl, ?_⟩) (by assumption) ?_
  rotate_left
  · intro w hSw
    (try dsimp only at hSw)
    go_simp
    try (with_reducible rfl)
  try simp only [Act.put, List.setIfInBounds_toArray, List.set_cons_zero, List.set_cons_succ]
  refine wpAnyH_ready (rs := [11]) (by kernel_rfl) (by simp) ?_
  refine AllReadyH.cons (o := { dst := some 21, op := Go.Op.call { callee := Go.Callee.value (Go.Operand.func 33), args := #[Go.Operand.tmp 20], argTypes := #[33] }, type := 33, pos := "epoch.go:84", after := #[{ on := 10, ground := Go.Ground.data }], guard := none }) rfl (fun K hK => ?_) AllReadyH.nil
  go_simp
  (go_at_call 33; (with_reducible refine Calls.mono HC.out ?_); rintro e w3 ⟨A, c, rfl, ho3, hb3⟩; have HO3 := Lib.hid ho3; have HB3 := Lib.hid hb3; have HK3 := Lib.hid ((Tch.of_below [] hb3).cell (p := ⟨d, 2, none⟩) (by show d < w1.heap.size; exact HQ1.out.lt.1) (by simp) |>.trans HK2.out); clear ho3 hb3)
  go_wp2_with fail
  refine hK.out _ _ ?_ (fun hHeld => ?_)
  · ((first | exact HK2.out | exact HK3.out))
  clear hK K
  try simp only [Act.put, List.setIfInBounds_toArray, List.set_cons_zero, List.set_cons_succ]
  refine wpAnyH_take (i := 12) (oi := { dst := some 2, op := Go.Op.assign (Go.Operand.tmp 21), type := 33, pos := "epoch.go:84", after := #[{ on := 11, ground := Go.Ground.data }, { on := 11, ground := Go.Ground.chain }, { on := 0, ground := Go.Ground.phase }, { on := 1, ground := Go.Ground.phase }, { on := 2, ground := Go.Ground.phase }, { on := 3, ground := Go.Ground.phase }, { on := 4, ground := Go.Ground.phase }, { on := 5, ground := Go.Ground.phase }, { on := 6, ground := Go.Ground.phase }, { on := 7, ground := Go.Ground.phase }, { on := 8, ground := Go.Ground.phase }, { on := 9, ground := Go.Ground.phase }, { on := 10, ground := Go.Ground.phase }, { on := 11, ground := Go.Ground.phase }], guard := none }) (v := ?_) rfl (by kernel_rfl) (by kernel_rfl) (by kernel_rfl) (fun _ _ _ h => h) (Or.inl ⟨by rfl, ?_⟩) (by assumption) ?_
  rotate_left
  · intro w hSw
    (try dsimp only at hSw)
    go_simp
    try (with_reducible rfl)
  try simp only [Act.put, List.setIfInBounds_toArray, List.set_cons_zero, List.set_cons_succ]
  refine wpAnyH_done (by kernel_rfl) ?_ _
  dsimp only
  go_wp2
  have HU := Lib.hid (HQ1.out.drew.tch (Tch.of_below [] HB3.out) (by simp) (by simp) (by simp))
  refine leaves_cons (f := 26) (args := #[.pointer (some ⟨d, 0, none⟩)]) (by simp) (by simp [go_sem]) ?_
  refine (unlock_deferred muLib ⟨d, 0, none⟩ .returning _ HU.out.un.1 HU.out.un.2).mono ?_
  rintro e u' w'' ⟨rfl, rfl, rfl⟩
  have hs1 : w.heap.size ≤ w1.heap.size := HT1.out.size
  have hlt := HLt.out
  have hT := ((HT1.out.mono (T := [d, gL, gS]) (by simp)).trans (Tch.of_below _ HB3.out).of_drew).trans ((tch_cell w3 d 0 (.int .i32 0)).mono (by simp))
  refine ⟨_, results_tmp rfl _ _ _, A, c, rfl, ?_, ⟨gL, gS, cL, cS, rfl, ?_, HIn.out⟩, hT⟩
  · have ho := (tch_cell w3 d 0 (.int .i32 0)).own HO3.out (fun g hg => by have := own_basek HO3.out g hg; have h2 : w1.heap.size ≤ g := this; simp; omega)
    refine ⟨?_, fun g hg => ?_⟩
    · rw [HLk.out]
      exact own_mono ho hs1
    · have h1 : w1.heap.size ≤ g := own_basek HO3.out g (by rw [hg]; rfl)
      simp; omega
  · rw [HLo.out, HL.out]
    exact HU.out.lock 0
set_option maxRecDepth 100000 in
set_option maxHeartbeats 2000000 in
theorem newP_bad (O f : Int) (h : O < 1 ∨ 16 < O) (w : World) : Calls Try.prog 9 #[.int .i64 O, .int .i64 f] w fun e w' => e = .returned (.tuple #[.pointer none, .int .i64 1]) ∧ Tch w w' [] := by
  by_cases h0 : O < 1
  · clear h
    go_enter Try.func9, Try.ntmps9
    go_wp2
    exact bodyPost_ret (v := .tuple #[.pointer none, .int .i64 1]) (by simp [results, Try.results9, go_sem]) rfl ⟨rfl, Tch.refl _ _⟩
  · have h2 : 16 < O := by omega
    clear h
    go_enter Try.func9, Try.ntmps9
    go_wp2
    exact bodyPost_ret (v := .tuple #[.pointer none, .int .i64 1]) (by simp [results, Try.results9, go_sem]) rfl ⟨rfl, Tch.refl _ _⟩
set_option maxRecDepth 100000 in
set_option maxHeartbeats 2000000 in
theorem newP_ok (O : Nat) (f : Int) (h1 : 1 ≤ O) (h2 : O ≤ 16) (w : World) : Calls Try.prog 9 #[.int .i64 (O : Int), .int .i64 f] w fun e w' => ∃ d S, e = .returned (.tuple #[.pointer (some ⟨d, 0, none⟩), .int .i64 0]) ∧
    EpP w' d S [f] (List.replicate O (-1)) ∧ Below w.heap.size w w' ∧ ∀ s ∈ S, w.heap.size ≤ s := by
  have r1 : ¬ (O : Int) < 1 := by omega
  have r2 : ¬ (16 : Int) < (O : Int) := by omega
  obtain ⟨B, hB⟩ : ∃ B, w.heap.size = B := ⟨_, rfl⟩
  obtain ⟨W1, hW1⟩ : ∃ W, w.alloc (.cells #[.int .i64 f] 3) = W := ⟨_, rfl⟩
  obtain ⟨W2, hW2⟩ : ∃ W, W1.alloc (.cells #[.int .i64 (-1)] 3) = W := ⟨_, rfl⟩
  have s1 : W1.heap.size = B + 1 := by rw [← hW1, World.size_alloc, hB]
  have s2 : W2.heap.size = B + 2 := by rw [← hW2, World.size_alloc, s1]
  have b1 : Blk W1 B 3 #[.int .i64 f] := hW1 ▸ hB ▸ Blk.new w _ _
  have b2 : Blk W2 (B + 1) 3 #[.int .i64 (-1)] := hW2 ▸ s1 ▸ Blk.new W1 _ _
  have HA : Hid (Blk W2 B 3 #[.int .i64 f]) := Lib.hid (hW2 ▸ b1.alloc _)
  have HR := Lib.hid (repeat_out O h1 h2 (B + 1) 1 W2 ((b2.cell 0).trans rfl) (by omega))
  have HBw : Hid (Below B w W2) := Lib.hid (by
    rw [← hW2, ← hW1]
    exact ((Below.refl B w).alloc (by omega) _).alloc (by simp; omega) _)
  have HS := Lib.hid (And.intro s1 s2)
  have HW := Lib.hid (And.intro hB (And.intro hW1 hW2))
  clear hB hW1 hW2 s1 s2 b1 b2
  go_enter Try.func9, Try.ntmps9
  go_wp2_with (go_at_call 24; rw [HW.out.1, HW.out.2.1, HW.out.2.2]; refine HR.out.mono ?_; rintro e w3 ⟨g, rfl, hg1, hg2, hg3⟩; have H1 := Lib.hid hg1; have H2 := Lib.hid hg2; have H3 := Lib.hid hg3; clear hg1 hg2 hg3)
  have hS := HS.out
  have h2' := H2.out
  have h3 := H3.out
  have hA : Blk w3 B 3 #[.int .i64 f] := HA.out.below h3 (by omega)
  have hg1 := H1.out
  have hlt := h2'.lt
  have hlo : lowE [f] (List.replicate O (-1)) = 0 := by have := lowE_le [f] (List.replicate O (-1)); simpa using this
  have hsz := h3.size
  refine bodyPost_ret (v := .tuple #[.pointer (some ⟨w3.heap.size, 0, none⟩), .int .i64 0]) (by simp [results, Try.results9, go_sem]) rfl ⟨w3.heap.size, [w3.heap.size, B, g], rfl, ⟨B, g, 1, O, rfl, ?_, InvE.new f ⟨h1, h2⟩⟩, ?_, ?_⟩
  · rw [hlo]
    refine ⟨?_, own_lit (hA.alloc _) (Nat.zero_le _), ?_, by omega, by omega, by omega⟩
    · rw [List.length_replicate]
      exact Blk.new w3 _ _
    · rw [List.length_replicate]
      exact ⟨by simp [ints], .inr ⟨g, O, _, rfl, Nat.zero_le _, h2'.alloc _, Nat.le_refl _, by unfold maxLen; omega, by simp [ints], by simp [ints]⟩⟩
  · rw [HW.out.1]
    exact (HBw.out.trans (h3.mono (by omega))).alloc (by omega) _
  · have := HW.out.1
    simp; omega
end Go.Proofs.Ytakeodnebegbhaa
