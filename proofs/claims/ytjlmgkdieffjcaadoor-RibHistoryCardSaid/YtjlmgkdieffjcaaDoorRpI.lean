/-
  The program's own rib (layer 15): Drop.
-/
import Derived.Test.YtjlmgkdieffjcaaDoorRpH
namespace Go.Proofs.YtjlmgkdieffjcaaDoor
open Go.RowKit
set_option linter.unusedVariables false

section
variable {w : World} {t m : Nat} {M : List (PfI × Value)} {S : List Nat} {L : List TdI}
/-- What a look-up answers in a world in which nothing has turned. -/
theorem RpM.look (h : RpM w t m M S L) (p : PfI) : ∃ A c, mpV M p nilS = .slice A (pathsI L p).length c ∧ w.ownsRow 0 26 7 (.slice A (pathsI L p).length c) (pathsI L p).length ((pathsI L p).flatMap paC) ∧
    ∀ W, Tch w W [] → (Instr.lookup 62 (.map (some m)) (pfR p) false).run Tryd.prog W = .ok (.slice A (pathsI L p).length c) W := by
  obtain ⟨A, c, e, ho⟩ := h.at_ p
  refine ⟨A, c, e, ho, fun W hT => ?_⟩
  have := (h.mp.tch hT (by simp)).lookup keyPf Tryd.underlying62 (zeroPas W) p
  rw [e] at this
  exact this
/-- A prefix's row cut short, then kept. -/
theorem RpM.kept {L' : List TdI} {p : PfI} {w3 w4 : World} {g c n : Nat} {l : List PaI} (h : RpM w t m M S L) (he : mpV M p nilS = .slice (some ⟨g, 0, none⟩) (pathsI L p).length c) (hT : Tch w w3 [g]) (hp : pathsI L' p = l) (hn : l.length = n) (ho : w3.ownsRow 0 26 7 (.slice (some ⟨g, 0, none⟩) n c) n (l.flatMap paC))
    (hq : ∀ q, ¬ q = p → pathsI L' q = pathsI L q) (hI : InvB L') (hok : ∀ u ∈ L', PfOk u.1 ∧ PaOk u.2) (hM : MpIs (fun p => pfR p) w4 m (if n = 0 then mpDel M p else mpPut M p (.slice (some ⟨g, 0, none⟩) n c))) (hT2 : Tch w3 w4 [m]) : ∃ S', RbP w4 t S' L' ∧ Goes w w4 S S' := by
  have hT' : Tch w w3 (obI (mpV M p nilS)) := by rw [he]; exact hT
  by_cases h0 : n = 0
  · rw [if_pos h0] at hM
    exact h.del_ hT' (by rw [hp, hn, h0]) hq hI hok hM hT2
  · rw [if_neg h0] at hM
    refine h.set_ hT' ⟨some ⟨g, 0, none⟩, c, by rw [hp, hn], by rw [hp, hn]; exact ho⟩ (by rw [hp, hn]; omega) (fun s hs => .inl (by rw [he]; exact hs)) hq hI hok hM hT2
theorem RpM.near (h : RpM w t m M S L) {p : PfI} {g n c : Nat} (he : mpV M p nilS = .slice (some ⟨g, 0, none⟩) n c) : g ≠ t ∧ g ≠ m ∧ g < w.heap.size := by
  have := h.sub_ p g (by rw [he]; simp [obI, Value.ownBlock])
  exact ⟨this.2.1, this.2.2, h.lt g this.1⟩
end
set_option maxRecDepth 100000 in
set_option maxHeartbeats 4000000 in
theorem dropP (t : Nat) (S : List Nat) (L : List TdI) (p : PfI) (x : PaI) (hp : PfOk p) (hx : PaOk x) (w : World) (h : RbP w t S L) :
    Calls Tryd.prog 22 #[.pointer (some ⟨t, 0, none⟩), pfR p, paR x] w fun e w' => e = .returned (.int .i64 (dropR L p x).2) ∧ ∃ S', RbP w' t S' (dropR L p x).1 ∧ Goes w w' S S' := by
  have HP := Lib.hid h
  obtain ⟨m, M, hr⟩ := h
  obtain ⟨A, c, he, ho, hlk⟩ := hr.look p
  have hW := way_row L p x
  have hI := hr.inv.drop p x
  have hok : ∀ u ∈ (dropR L p x).1, PfOk u.1 ∧ PaOk u.2 := fun u hu => hr.ok u (by
    unfold dropR at hu
    split at hu
    · exact hu
    · exact (List.eraseIdx_sublist _ _).subset hu)
  obtain ⟨D, hD⟩ : ∃ D, dropR L p x = D := ⟨_, rfl⟩
  have hn4 := hr.inv.four p
  obtain ⟨l, hl⟩ : ∃ l, pathsI L p = l := ⟨_, rfl⟩
  obtain ⟨n, hn⟩ : ∃ n, l.length = n := ⟨_, rfl⟩
  obtain ⟨k, hk⟩ : ∃ k, fndI (fun y => sameW x y) l = k := ⟨_, rfl⟩
  have hkn : k ≤ n := by rw [← hk, ← hn]; exact fndI_le _ _
  rw [hl, hk] at hW
  rw [hl, hn] at he ho hlk hn4
  rw [hD] at hI hok ⊢
  have HFind := Lib.hid (fun W (hT : Tch w W []) => find_any x A n c l hn (by omega) W (own_tch ho hT (by simp)))
  rw [hk] at HFind
  have H0 : Hid (k = 0 → D = (L, 142)) := Lib.hid (fun e => by rw [← hD]; unfold dropR; rw [if_pos (hW.1.2 e)])
  have H1 : Hid (∀ j, k = j + 1 → D.2 = 0 ∧ pathsI D.1 p = l.eraseIdx j ∧ ∀ q, ¬ q = p → pathsI D.1 q = pathsI L q) := Lib.hid (fun j e => by
    have hw0 : ¬ wayI L p x = 0 := fun h => by have := hW.1.1 h; omega
    obtain ⟨w1, w2⟩ := hW.2 hw0
    rw [e, Nat.add_sub_cancel] at w1
    rw [← hD]
    unfold dropR
    rw [if_neg hw0]
    exact ⟨rfl, w1, w2⟩)
  have HFin : Hid (∀ g j w3 w4, A = some ⟨g, 0, none⟩ → k = j + 1 → j < n → Tch w w3 [g] → w3.ownsRow 0 26 7 (.slice (some ⟨g, 0, none⟩) (n - 1) c) (n - 1) ((l.eraseIdx j).flatMap paC) → MpIs (fun p => pfR p) w4 m (if n - 1 = 0 then mpDel M p else mpPut M p (.slice (some ⟨g, 0, none⟩) (n - 1) c)) → Tch w3 w4 [m] → ∃ S', RbP w4 t S' D.1 ∧ Goes w w4 S S') := Lib.hid (fun g j w3 w4 hA hj hjn h1 h2 h3 h4 => by
    obtain ⟨-, e2, e3⟩ := H1.out j hj
    exact hr.kept (by rw [he, hl, hn, hA]) h1 e2 (by rw [List.length_eraseIdx, if_pos (by rw [hn]; exact hjn), hn]) h2 e3 hI hok h3 h4)
  have HKeep : Hid (∀ g w3 (B : Option Addr) (n' c' : Nat), A = some ⟨g, 0, none⟩ → Tch w w3 [g] → Calls Tryd.prog 40 #[.pointer (some ⟨t, 0, none⟩), pfR p, .slice B n' c'] w3 fun e w' => e = .returned (.tuple #[]) ∧ MpIs (fun p => pfR p) w' m (if n' = 0 then mpDel M p else mpPut M p (.slice B n' c')) ∧ Tch w3 w' [m]) := Lib.hid (fun g w3 B n' c' hA hT => by
    have hg := hr.near (by rw [he, hA])
    exact keep_any t m M p B n' c' w3 (hT.blk hr.bt (by simpa using hg.1.symm)) (hr.mp.tch hT (by simpa using hg.2.1.symm)))
  have HDel := Lib.hid (fun g j W (hj : j < n) (hT : Tch w W []) (hA : A = some ⟨g, 0, none⟩) => delete_pa g n c j l hn (by omega) hj W (by have := own_tch ho hT (by simp); rw [hA] at this; exact this))
  have HG : Hid (∀ g, A = some ⟨g, 0, none⟩ → g < w.heap.size) := Lib.hid (fun g hA => (hr.near (by rw [he, hA])).2.2)
  have HM : Hid (m < w.heap.size) := Lib.hid hr.mp.lt
  have HSl : Hid (0 < n → ∃ g, A = some ⟨g, 0, none⟩) := Lib.hid (fun h0 => slice_some ho h0)
  obtain ⟨⟨ps, ph, pl⟩, pb⟩ := p
  obtain ⟨pr, me, ⟨vs, vh, vl⟩, po, aw⟩ := x
  obtain ⟨W0, hW0⟩ : ∃ W, (w.alloc (.cells #[.bool ps, .int .u64 (ph : Int), .int .u64 (pl : Int), .int .i64 pb] 37)).alloc (.cells #[.int .i64 pr, .int .i64 me, .bool vs, .int .u64 (vh : Int), .int .u64 (vl : Int), .int .i64 po, .bool aw] 26) = W := ⟨_, rfl⟩
  obtain ⟨xb, hxb⟩ : ∃ xb, w.heap.size = xb := ⟨_, rfl⟩
  obtain ⟨yb, hyb⟩ : ∃ yb, xb + 1 = yb := ⟨_, rfl⟩
  have hX : Blk W0 xb 37 #[.bool ps, .int .u64 (ph : Int), .int .u64 (pl : Int), .int .i64 pb] := hW0 ▸ hxb ▸ (Blk.new w _ _).alloc _
  have hY : Blk W0 yb 26 #[.int .i64 pr, .int .i64 me, .bool vs, .int .u64 (vh : Int), .int .u64 (vl : Int), .int .i64 po, .bool aw] := by
    have := Blk.new (w.alloc (.cells #[.bool ps, .int .u64 (ph : Int), .int .u64 (pl : Int), .int .i64 pb] 37)) 26 #[.int .i64 pr, .int .i64 me, .bool vs, .int .u64 (vh : Int), .int .u64 (vl : Int), .int .i64 po, .bool aw]
    rw [World.size_alloc, hxb, hyb, hW0] at this
    exact this
  have hT0 : Tch w W0 [] := hW0 ▸ ((Tch.refl w []).alloc _).alloc _
  have HT0 := Lib.hid hT0
  have ht := ((hT0.blk hr.bt (by simp)).cell 0).trans (show _ = some (Value.map (some m)) by rfl)
  have HX := Lib.hid hX
  have HY := Lib.hid hY
  have HCells : Hid (∀ W T, Tch W0 W T → (∀ s ∈ T, s < xb) → W.cell? ⟨xb, 0, none⟩ = some (Value.bool ps) ∧ W.cell? ⟨xb, 1, none⟩ = some (Value.int .u64 (ph : Int)) ∧ W.cell? ⟨xb, 2, none⟩ = some (Value.int .u64 (pl : Int)) ∧ W.cell? ⟨xb, 3, none⟩ = some (Value.int .i64 pb)) := Lib.hid (fun W T hT hs => (hT.blk hX (fun hm => by have := hs _ hm; omega)).c4)
  have hlk0 : ∀ q, (Instr.lookup 62 (.map (some m)) (.agg #[.bool ps, .int .u64 (ph : Int), .int .u64 (pl : Int), .int .i64 pb]) false).run Tryd.prog (W0.drewN q) = .ok (.slice A n c) (W0.drewN q) := fun q => hlk _ (hT0.drewN q)
  rw [hxb] at HG HM
  obtain ⟨x0, x1, x2, x3⟩ := hX.c4
  clear hX hY hT0 hr hlk he ho hW hI hok hD hl hn hk hp hx
  go_enter Tryd.func22, Tryd.ntmps22
  go_wp2
  go_quiet (fail)
  obtain ⟨W1, hW1⟩ : ∃ W1, W0.drewN nq = W1 := ⟨_, rfl⟩
  rw [hW1]
  have hT01 : Tch W0 W1 [] := hW1 ▸ (Tch.refl W0 []).drewN nq
  have HT01 := Lib.hid hT01
  have HT1 := Lib.hid (HT0.out.trans hT01)
  obtain ⟨y0, y1, y2, y3, y4, y5, y6⟩ := (hT01.blk HY.out (by simp)).p7
  clear hT01 x0 x1 x2 x3 ht hlk0 hW1
  go_wp2_with fail
  refine Calls.mono (HFind.out W1 HT1.out) ?_
  rintro e w2 ⟨rfl, hT⟩
  have HT2 := Lib.hid (HT1.out.trans hT)
  have HT02 := Lib.hid (HT01.out.trans hT)
  clear hT y0 y1 y2 y3 y4 y5 y6
  rcases Nat.eq_zero_or_pos k with h0 | h0
  · subst h0
    have i0 : ((0 : Nat) : Int) - 1 < 0 := by omega
    have HD := Lib.hid (H0.out rfl)
    go_wp2
    go_ret
    rw [HD.out]
    exact ⟨rfl, S, HP.out.tch HT2.out (by simp), Goes.of_tch (HT2.out.mono (by simp))⟩
  · obtain ⟨j, rfl⟩ : ∃ j, k = j + 1 := ⟨k - 1, by omega⟩
    have e0 : ((j + 1 : Nat) : Int) - 1 = (j : Int) := by omega
    rw [e0]
    have i0 : ¬ (j : Int) < 0 := by omega
    have i1 : IntKind.i64.wrap ((j : Int) + 1) = (j : Int) + 1 := by rw [IntKind.wrap_i64]; omega
    have hjn : j < n := by omega
    obtain ⟨g, rfl⟩ := HSl.out (by omega)
    have HDc := Lib.hid (HDel.out g j w2.drew hjn HT2.out.drew rfl)
    have Hgl := Lib.hid (HG.out g rfl)
    have HT2d := Lib.hid HT2.out.drew
    have HX2 := Lib.hid (HCells.out _ [] HT02.out (by simp))
    have HX2d := Lib.hid (HCells.out _ [] HT02.out.drew (by simp))
    obtain ⟨x0, x1, x2, x3⟩ := HX2.out
    have HJ := Lib.hid hjn
    have HK1 := Lib.hid (H1.out j rfl).1
    clear e0 h0 hkn hjn hn4
    go_wp2
    refine wp_region_held_drew (S := (fun W => W.cell? ⟨xb, 0, none⟩ = some (Value.bool ps) ∧ W.cell? ⟨xb, 1, none⟩ = some (Value.int .u64 (ph : Int)) ∧ W.cell? ⟨xb, 2, none⟩ = some (Value.int .u64 (pl : Int)) ∧ W.cell? ⟨xb, 3, none⟩ = some (Value.int .i64 pb))) (by kernel_rfl) ?_ (fun hHeld => ?_)
    · (first | exact HX2.out | exact HX2d.out | exact HX4.out | exact HX3.out)
    refine wpAnyH_take (i := 0) (oi := { dst := some 20, op := Go.Op.move (Go.Operand.tmp 0), type := 31, pos := "rib.go:57", after := #[], guard := none }) (v := ?_) rfl (by kernel_rfl) (by kernel_rfl) (by kernel_rfl) (fun _ _ _ h => h) (Or.inl ⟨by rfl, ?_⟩) (by assumption) ?_
    rotate_left
    · intro w hSw
      (try dsimp only at hSw)
      go_simp
      try (with_reducible rfl)
    try simp only [Act.put, List.setIfInBounds_toArray, List.set_cons_zero, List.set_cons_succ]
    refine wpAnyH_take (i := 1) (oi := { dst := some 21, op := Go.Op.load 37 (Go.Operand.tmp 4), type := 37, pos := "rib.go:57", after := #[], guard := none }) (v := ?_) rfl (by kernel_rfl) (by kernel_rfl) (by kernel_rfl) (fun _ _ _ h => h) (Or.inl ⟨by rfl, ?_⟩) (by assumption) ?_
    rotate_left
    · intro w hSw
      (try dsimp only at hSw)
      go_simp
      try (with_reducible rfl)
    try simp only [Act.put, List.setIfInBounds_toArray, List.set_cons_zero, List.set_cons_succ]
    refine wpAnyH_take (i := 2) (oi := { dst := some 22, op := Go.Op.move (Go.Operand.tmp 7), type := 38, pos := "rib.go:57", after := #[], guard := none }) (v := ?_) rfl (by kernel_rfl) (by kernel_rfl) (by kernel_rfl) (fun _ _ _ h => h) (Or.inl ⟨by rfl, ?_⟩) (by assumption) ?_
    rotate_left
    · intro w hSw
      (try dsimp only at hSw)
      go_simp
      try (with_reducible rfl)
    try simp only [Act.put, List.setIfInBounds_toArray, List.set_cons_zero, List.set_cons_succ]
    refine wpAnyH_take (i := 3) (oi := { dst := some 23, op := Go.Op.move (Go.Operand.tmp 8), type := 3, pos := "rib.go:57", after := #[], guard := none }) (v := ?_) rfl (by kernel_rfl) (by kernel_rfl) (by kernel_rfl) (fun _ _ _ h => h) (Or.inl ⟨by rfl, ?_⟩) (by assumption) ?_
    rotate_left
    · intro w hSw
      (try dsimp only at hSw)
      go_simp
      try (with_reducible rfl)
    try simp only [Act.put, List.setIfInBounds_toArray, List.set_cons_zero, List.set_cons_succ]
    refine wpAnyH_take (i := 4) (oi := { dst := some 24, op := Go.Op.move (Go.Operand.tmp 8), type := 3, pos := "rib.go:57", after := #[], guard := none }) (v := ?_) rfl (by kernel_rfl) (by kernel_rfl) (by kernel_rfl) (fun _ _ _ h => h) (Or.inl ⟨by rfl, ?_⟩) (by assumption) ?_
    rotate_left
    · intro w hSw
      (try dsimp only at hSw)
      go_simp
      try (with_reducible rfl)
    try simp only [Act.put, List.setIfInBounds_toArray, List.set_cons_zero, List.set_cons_succ]
    refine wpAnyH_take (i := 5) (oi := { dst := some 25, op := Go.Op.binOp Go.BinOp.add 3 (Go.Operand.tmp 24) (Go.Operand.const (Go.Value.int Go.IntKind.i64 1)) 3, type := 3, pos := "rib.go:57", after := #[{ on := 4, ground := Go.Ground.data }], guard := none }) (v := ?_) rfl (by kernel_rfl) (by kernel_rfl) (by kernel_rfl) (fun _ _ _ h => h) (Or.inl ⟨by rfl, ?_⟩) (by assumption) ?_
    rotate_left
    · intro w hSw
      (try dsimp only at hSw)
      go_simp
      try (with_reducible rfl)
    try simp only [Act.put, List.setIfInBounds_toArray, List.set_cons_zero, List.set_cons_succ]
    refine wpAnyH_ready (rs := [6]) (by kernel_rfl) (by simp) ?_
    refine AllReadyH.cons (o := { dst := some 26, op := Go.Op.call { callee := Go.Callee.value (Go.Operand.func 34), args := #[Go.Operand.tmp 22, Go.Operand.tmp 23, Go.Operand.tmp 25], argTypes := #[38, 3, 3] }, type := 38, pos := "rib.go:57", after := #[{ on := 2, ground := Go.Ground.data }, { on := 3, ground := Go.Ground.data }, { on := 5, ground := Go.Ground.data }], guard := none }) rfl (fun K hK => ?_) AllReadyH.nil
    go_simp
    (go_at_call 34; (with_reducible refine Calls.mono HDc.out ?_); rintro e w3 ⟨rfl, ho3, hT3⟩; have HO3 := Lib.hid ho3; have HT3 := Lib.hid ((HT2d.out.mono (by simp)).trans hT3); have HX3 := Lib.hid (HCells.out _ [g] ((HT02.out.drew.mono (by simp)).trans hT3) (by simp; exact Hgl.out)); have HKc := Lib.hid (HKeep.out g w3 (some ⟨g, 0, none⟩) (n - 1) c rfl HT3.out); have HT30 := Lib.hid ((HT02.out.drew.mono (T := [g]) (by simp)).trans hT3); clear ho3 hT3)
    go_wp2_with fail
    refine hK.out _ _ ?_ (fun hHeld => ?_)
    · (first | exact HX2.out | exact HX2d.out | exact HX4.out | exact HX3.out)
    clear hK K
    try simp only [Act.put, List.setIfInBounds_toArray, List.set_cons_zero, List.set_cons_succ]
    refine wpAnyH_ready (rs := [7]) (by kernel_rfl) (by simp) ?_
    refine AllReadyH.cons (o := { dst := some 27, op := Go.Op.call { callee := Go.Callee.value (Go.Operand.func 40), args := #[Go.Operand.tmp 20, Go.Operand.tmp 21, Go.Operand.tmp 26], argTypes := #[31, 37, 38] }, type := 0, pos := "rib.go:57", after := #[{ on := 0, ground := Go.Ground.data }, { on := 1, ground := Go.Ground.data }, { on := 6, ground := Go.Ground.data }, { on := 6, ground := Go.Ground.chain }], guard := none }) rfl (fun K hK => ?_) AllReadyH.nil
    go_simp
    (go_at_call 40; (with_reducible refine Calls.mono HKc.out ?_); rintro e w4 ⟨rfl, hM4, hT4⟩; have HX4 := Lib.hid (HCells.out _ [g, m] ((HT30.out.mono (by simp)).trans (hT4.mono (by simp))) (by simp; exact ⟨Hgl.out, HM.out⟩)); have HF := Lib.hid (HFin.out g j w3 w4 rfl rfl HJ.out HT3.out HO3.out hM4 hT4); clear hM4 hT4)
    go_wp2_with fail
    refine hK.out _ _ ?_ (fun hHeld => ?_)
    · (first | exact HX2.out | exact HX2d.out | exact HX4.out | exact HX3.out)
    clear hK K
    try simp only [Act.put, List.setIfInBounds_toArray, List.set_cons_zero, List.set_cons_succ]
    refine wpAnyH_done (by kernel_rfl) ?_ _
    go_wp2
    go_ret
    obtain ⟨S', r1, r2⟩ := HF.out
    exact ⟨by rw [HK1.out]; rfl, S', r1, r2⟩
end Go.Proofs.YtjlmgkdieffjcaaDoor
