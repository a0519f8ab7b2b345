/-
  The program's own wheel (layer 17): put, empty.
-/
import Derived.Test.YthkjfgegmbdebaaWhB
namespace Go.Proofs.Ythkjfgegmbdebaa
open Go.RowKit
set_option linter.unusedVariables false

theorem infoTm : (Try.prog.info? 57).map (fun i => (i.zero, i.size, i.bytes)) = some (some (.agg #[.int .i64 0, .int .i64 0, .int .i64 0]), 3, 24) := by kernel_rfl
theorem Blk.tch9 {w w' : World} {g : Nat} {t : TypeId} {cs : Array Value} {S : List Nat} (hb : Blk w g t cs) (h : Tch w w' S) (hn : g ∉ S) : Blk w' g t cs := h.blk hb hn
section
variable {w : World} {p m t a : Nat} {lv : List Value} {ll : List (List TmI)} {M : List (Int × Value)} {L : List TmI}
/-- A slot set anew behind a call that touched its row alone. -/
theorem WhM.app (h : WhM w p m t a lv ll M) {k : Nat} {v0 : Value} (hk0 : lv[k]? = some v0) {w' : World} (hT : Tch w w' (obI v0)) (v : Value) (l : List TmI) (hr : w'.ownsRow 0 57 3 v l.length (l.flatMap tmC)) (hb : ∀ s ∈ obI v, s ∈ obI v0 ∨ w.heap.size ≤ s) :
    WhM (w'.setCell ⟨p, k + 2, none⟩ v) p m t a (lv.set k v) (ll.set k l) M ∧ Tch w (w'.setCell ⟨p, k + 2, none⟩ v) (p :: obI v0) := by
  obtain ⟨cs, hB, hs, h0, h1, h2, h3⟩ := h.cells
  have hd := h.dis
  have hlt := h.lt
  have hn := h.n48
  have hl48 := h.l48
  have hk : k < 48 := by have := (List.getElem?_eq_some_iff.1 hk0).1; omega
  have hv0 : ∀ s ∈ obI v0, s ∈ lv.flatMap obI := fun s hs => List.mem_flatMap.2 ⟨v0, List.mem_of_getElem? hk0, hs⟩
  rw [List.nodup_cons, List.nodup_cons] at hd
  obtain ⟨d1, d2, d3⟩ := hd
  have dp : p ∉ lv.flatMap obI := fun e => d1 (List.mem_cons_of_mem _ e)
  have dpm : p ≠ m := fun e => d1 (by simp [e])
  have hpl := hlt p (by simp)
  have hml := hlt m (by simp)
  obtain ⟨f1, f2⟩ := flat_set2 (v := v) (B := w.heap.size) d3 hk0 (fun s hs => hlt s (by simp only [List.mem_cons]; exact .inr (.inr hs))) hb
  have hT1 : Tch w' (w'.setCell ⟨p, k + 2, none⟩ v) [p] := (Tch.refl w' [p]).set_ (by simp) _
  have hT2 : Tch w (w'.setCell ⟨p, k + 2, none⟩ v) (p :: obI v0) := (hT.mono (fun s hs => List.mem_cons_of_mem _ hs)).trans (hT1.mono (by simp))
  have hgs : ∀ (k' : Nat) (v' : Value), (lv.set k v)[k']? = some v' → (k' = k ∧ v' = v) ∨ (k' ≠ k ∧ lv[k']? = some v') := by
    intro k' v' hk'
    rw [List.getElem?_set] at hk'
    by_cases e : k = k'
    · rw [if_pos e, if_pos (by omega)] at hk'
      injection hk' with hk'
      exact .inl ⟨e.symm, hk'.symm⟩
    · rw [if_neg e] at hk'
      exact .inr ⟨fun e2 => e e2.symm, hk'⟩
  have hB' : Blk w' p 51 cs := hT.blk hB (fun e => dp (hv0 p e))
  refine ⟨⟨⟨_, hB'.set_ (k + 2) v, by simpa using hs, ?_, ?_, ?_, fun k' v' hv => ?_⟩, by rw [List.length_set]; exact hn, by rw [List.length_set]; exact hl48, h.map.tch hT2 (fun e => ?_), fun k' v' l' hv hl => ?_, ?_⟩, hT2⟩
  · rw [Array.getElem?_setIfInBounds_ne (by omega)]; exact h0
  · rw [Array.getElem?_setIfInBounds_ne (by omega)]; exact h1
  · rw [Array.getElem?_setIfInBounds_ne (by omega)]; exact h2
  · rcases hgs k' v' hv with ⟨rfl, rfl⟩ | ⟨hne, hv⟩
    · rw [Array.getElem?_setIfInBounds_self_of_lt (by omega)]
    · rw [Array.getElem?_setIfInBounds_ne (by omega)]; exact h3 k' v' hv
  · rcases List.mem_cons.1 e with e | e
    · exact dpm e.symm
    · exact d2 (hv0 m e)
  · rcases hgs k' v' hv with ⟨rfl, rfl⟩ | ⟨hne, hv2⟩
    · rw [List.getElem?_set, if_pos rfl, if_pos (by omega)] at hl
      injection hl with hl; subst hl
      refine own_tch hr hT1 (fun s hs e => ?_)
      rw [List.mem_singleton.1 e] at hs
      rcases hb p hs with h9 | h9
      · exact dp (hv0 p h9)
      · omega
    · rw [List.getElem?_set, if_neg (fun e => hne e.symm)] at hl
      refine own_tch (h.rows k' v' l' hv2 hl) hT2 (fun s hs e => ?_)
      rcases List.mem_cons.1 e with e | e
      · exact dp (e ▸ List.mem_flatMap.2 ⟨v', List.mem_of_getElem? hv2, hs⟩)
      · exact flat_disj d3 hk0 hv2 (fun e => hne e.symm) s hs e
  · rw [List.nodup_cons, List.nodup_cons]
    refine ⟨fun e => ?_, fun e => ?_, f1⟩
    · rcases List.mem_cons.1 e with e | e
      · exact dpm e
      · rcases f2 p e with h9 | h9
        · exact dp h9
        · omega
    · rcases f2 m e with h9 | h9
      · exact d2 h9
      · omega
set_option maxRecDepth 100000 in
set_option maxHeartbeats 4000000 in
theorem put_any (h : WhM w p m t a lv ll M) (x : TmI) (hx : t ≤ x.2.1 ∧ x.2.1 ≤ t + 4095) (ht : t ≤ 100000000) {v : Value} {l : List TmI} (hv : lv[posI t x.2.1]? = some v) (hl : ll[posI t x.2.1]? = some l) (hn : l.length ≤ 100000) :
    Calls Try.prog 25 #[ptrV p, tmV x] w fun e w' => e = .returned (.tuple #[]) ∧ ∃ v', WhM w' p m t a (lv.set (posI t x.2.1) v') (ll.set (posI t x.2.1) (l ++ [x])) (mpPut M x.1 (plV (posI t x.2.1) l.length)) ∧ (∀ s ∈ obI v', s ∈ obI v ∨ w.heap.size ≤ s) ∧ Tch w w' (p :: m :: obI v) := by
  obtain ⟨k48, kd, km⟩ := posI_lt t x.2.1
  have hlo3 : lvlI (x.2.1 - t) < 3 := by unfold lvlI; split; decide; split <;> decide
  have hso : slotI (lvlI (x.2.1 - t)) x.2.1 < 16 := by unfold slotI; exact Nat.mod_lt _ (by decide)
  have HLv := Lib.hid (fun W => levelOf_any (x.2.1 - t) (by omega) W)
  have HSl := Lib.hid (fun W => slotOf_any (lvlI (x.2.1 - t)) x.2.1 hlo3 (by omega) W)
  have hlf : ((x.2.1 - t : Nat) : Int) = (x.2.1 : Int) - (t : Int) := by omega
  have hkk : posI t x.2.1 = 16 * lvlI (x.2.1 - t) + slotI (lvlI (x.2.1 - t)) x.2.1 := rfl
  obtain ⟨lf, hlf'⟩ : ∃ lf, x.2.1 - t = lf := ⟨_, rfl⟩
  rw [hlf'] at hlf HLv HSl hlo3 hso hkk kd km
  obtain ⟨lo, hlo⟩ : ∃ lo, lvlI lf = lo := ⟨_, rfl⟩
  rw [hlo] at HLv HSl hlo3 hso hkk kd km
  obtain ⟨so, hsl⟩ : ∃ so, slotI lo x.2.1 = so := ⟨_, rfl⟩
  rw [hsl] at HSl hso hkk km
  obtain ⟨k, hk⟩ : ∃ k, posI t x.2.1 = k := ⟨_, rfl⟩
  rw [hk] at hv hl k48 kd km hkk ⊢
  obtain ⟨id, due, nu⟩ := x
  simp only at hx hlf HSl HLv ⊢
  obtain ⟨n, hln⟩ : ∃ n, l.length = n := ⟨_, rfl⟩
  rw [hln] at hn ⊢
  have hro := h.rows k v l hv hl
  rw [hln] at hro
  obtain ⟨A, c, rfl, -, -⟩ := own_sl hro
  have HH := Lib.hid h
  have HL9 := Lib.hid hln
  have HK := Lib.hid (And.intro k48 (And.intro kd (And.intro km (And.intro hv (And.intro hl (show k + 2 = 2 + lo * 16 + so by omega))))))
  have HN := Lib.hid hn
  obtain ⟨xb, hxb⟩ : ∃ xb, w.heap.size = xb := ⟨_, rfl⟩
  obtain ⟨W0, hW0⟩ : ∃ W, w.alloc (.cells #[.int .i64 id, .int .i64 (due : Int), .int .i64 (nu : Int)] 57) = W := ⟨_, rfl⟩
  have hT0 : Tch w W0 [] := hW0 ▸ (Tch.refl w []).alloc _
  have hB0 : Blk W0 xb 57 #[.int .i64 id, .int .i64 (due : Int), .int .i64 (nu : Int)] := hW0 ▸ hxb ▸ Blk.new w _ _
  have HA : Hid (∀ W, Tch W0 W [] → WhM W p m t a lv ll M ∧ Tch w W [] ∧ Blk W xb 57 #[.int .i64 id, .int .i64 (due : Int), .int .i64 (nu : Int)] ∧ W.cell? ⟨p, 0, none⟩ = some (.int .i64 (t : Int)) ∧ W.cell? ⟨p, 50, none⟩ = some (.map (some m)) ∧ W.cell? ⟨p, 2 + lo * 16 + so, none⟩ = some (.slice A n c) ∧ W.cell? ⟨xb, 0, none⟩ = some (.int .i64 id) ∧ W.cell? ⟨xb, 1, none⟩ = some (.int .i64 (due : Int)) ∧ W.cell? ⟨xb, 2, none⟩ = some (.int .i64 (nu : Int))) := Lib.hid (fun W hT => by
    have h1 := h.tch (hT0.trans hT) (by simp)
    have h2 := hT.blk hB0 (by simp)
    refine ⟨h1, hT0.trans hT, h2, h1.now, h1.places, ?_, (h2.cell 0).trans rfl, (h2.cell 1).trans rfl, (h2.cell 2).trans rfl⟩
    have := h1.slot hv
    rw [HK.out.2.2.2.2.2] at this
    exact this)
  have HW0 := Lib.hid (And.intro hW0 hxb)
  have w1 : IntKind.i64.wrap ((due : Int) - (t : Int)) = (lf : Int) := by rw [IntKind.wrap_i64]; omega
  have i0 : (0 : Int) ≤ (lo : Int) := by omega
  have i1 : (lo : Int) < 3 := by omega
  have i2 : (0 : Int) ≤ (so : Int) := by omega
  have i3 : (so : Int) < 16 := by omega
  obtain ⟨-, -, -, c0, -, -, -, x1, -⟩ := HA.out W0 (Tch.refl _ _)
  clear hk hln hsl hlo hlf' hlf hkk kd km k48 hv hl hro hn h hT0 hB0 hW0 hxb hx hlo3 hso
  go_enter Try.func25, Try.ntmps25
  go_wp2_with fail
  rw [HW0.out.1, HW0.out.2]
  go_quiet ((go_at_call 33; exact Calls.quiet_of_same (HLv.out _)))
  obtain ⟨W1, hW1⟩ : ∃ W, W0.drewN nq = W := ⟨_, rfl⟩
  have HT1 : Hid (Tch W0 W1 []) := Lib.hid (hW1 ▸ (Tch.refl W0 []).drewN nq)
  rw [hW1]
  clear hW1 c0 x1 w1
  obtain ⟨-, -, -, c0, -, -, -, x1, -⟩ := HA.out W1 HT1.out
  go_wp2_with fail
  go_quiet ((go_at_call 34; exact Calls.quiet_of_same (HSl.out _)))
  obtain ⟨W2, hW2⟩ : ∃ W, W1.drewN nq = W := ⟨_, rfl⟩
  have HT2 : Hid (Tch W0 W2 []) := Lib.hid (hW2 ▸ HT1.out.drewN nq)
  rw [hW2]
  clear hW2 c0 x1
  have HT2d : Hid (Tch W0 W2.drew []) := Lib.hid HT2.out.drew
  have HS : Hid (W2.drew.cell? ⟨p, 50, none⟩ = some (.map (some m)) ∧ W2.drew.cell? ⟨xb, 0, none⟩ = some (.int .i64 id) ∧ W2.drew.cell? ⟨xb, 1, none⟩ = some (.int .i64 (due : Int)) ∧ W2.drew.cell? ⟨p, 2 + lo * 16 + so, none⟩ = some (.slice A n c)) := Lib.hid (by
    obtain ⟨-, -, -, -, c1, c2, x0, x1, -⟩ := HA.out W2.drew HT2d.out
    exact ⟨c1, x0, x1, c2⟩)
  have HMp : Hid (MpIs intK W2.drew m M) := Lib.hid (HA.out W2.drew HT2d.out).1.map
  have HPm : Hid (p ≠ m ∧ xb ≠ m) := Lib.hid (by
    have h1 := HH.out.dis
    have h2 := HH.out.lt m (by simp)
    have h3 := HW0.out.2
    rw [List.nodup_cons] at h1
    exact ⟨fun e => h1.1 (by simp [e]), by omega⟩)
  have HPl : Hid (plV k n = .agg #[.int .i64 (lo : Int), .int .i64 (so : Int), .int .i64 (n : Int)]) := Lib.hid (by
    unfold plV
    rw [HK.out.2.1, HK.out.2.2.1])
  go_wp2_with fail
  refine wp_region_held_drew (S := (fun W => W.cell? ⟨p, 50, none⟩ = some (.map (some m)) ∧ W.cell? ⟨xb, 0, none⟩ = some (.int .i64 id) ∧ W.cell? ⟨xb, 1, none⟩ = some (.int .i64 (due : Int)) ∧ W.cell? ⟨p, 2 + lo * 16 + so, none⟩ = some (.slice A n c))) (by kernel_rfl) ?_ (fun hHeld => ?_)
  · (first | exact HS.out | exact HS3.out)
  refine wpAnyH_take (i := 0) (oi := { dst := some 24, op := Go.Op.move (Go.Operand.tmp 0), type := 24, pos := "wheel.go:131", after := #[], guard := none }) (v := ?_) rfl (by kernel_rfl) (by kernel_rfl) (by kernel_rfl) (fun _ _ _ h => h) (Or.inl ⟨by rfl, ?_⟩) (by assumption) ?_
  rotate_left
  · intro w hSw
    (try dsimp only at hSw)
    go_simp
    try (with_reducible rfl)
  try simp only [Act.put, List.setIfInBounds_toArray, List.set_cons_zero, List.set_cons_succ]
  refine wpAnyH_take (i := 1) (oi := { dst := some 25, op := Go.Op.nilCheck (Go.Operand.tmp 24), type := 0, pos := "wheel.go:131", after := #[{ on := 0, ground := Go.Ground.data }], guard := none }) (v := ?_) rfl (by kernel_rfl) (by kernel_rfl) (by kernel_rfl) (fun _ _ _ h => h) (Or.inl ⟨by rfl, ?_⟩) (by assumption) ?_
  rotate_left
  · intro w hSw
    (try dsimp only at hSw)
    go_simp
    try (with_reducible rfl)
  try simp only [Act.put, List.setIfInBounds_toArray, List.set_cons_zero, List.set_cons_succ]
  refine wpAnyH_take (i := 2) (oi := { dst := some 26, op := Go.Op.fieldAddr 51 (Go.Operand.tmp 25) 3, type := 0, pos := "wheel.go:131", after := #[{ on := 1, ground := Go.Ground.data }], guard := none }) (v := ?_) rfl (by kernel_rfl) (by kernel_rfl) (by kernel_rfl) (fun _ _ _ h => h) (Or.inl ⟨by rfl, ?_⟩) (by assumption) ?_
  rotate_left
  · intro w hSw
    (try dsimp only at hSw)
    go_simp
    try (with_reducible rfl)
  try simp only [Act.put, List.setIfInBounds_toArray, List.set_cons_zero, List.set_cons_succ]
  refine wpAnyH_take (i := 3) (oi := { dst := some 27, op := Go.Op.load 46 (Go.Operand.tmp 26), type := 46, pos := "wheel.go:131", after := #[{ on := 2, ground := Go.Ground.data }], guard := none }) (v := ?_) rfl (by kernel_rfl) (by kernel_rfl) (by kernel_rfl) (fun _ _ _ h => h) (Or.inl ⟨by rfl, ?_⟩) (by assumption) ?_
  rotate_left
  · intro w hSw
    (try dsimp only at hSw)
    go_simp
    try (with_reducible rfl)
  try simp only [Act.put, List.setIfInBounds_toArray, List.set_cons_zero, List.set_cons_succ]
  refine wpAnyH_take (i := 4) (oi := { dst := some 28, op := Go.Op.fieldAddr 57 (Go.Operand.tmp 3) 0, type := 0, pos := "wheel.go:131", after := #[], guard := none }) (v := ?_) rfl (by kernel_rfl) (by kernel_rfl) (by kernel_rfl) (fun _ _ _ h => h) (Or.inl ⟨by rfl, ?_⟩) (by assumption) ?_
  rotate_left
  · intro w hSw
    (try dsimp only at hSw)
    go_simp
    try (with_reducible rfl)
  try simp only [Act.put, List.setIfInBounds_toArray, List.set_cons_zero, List.set_cons_succ]
  refine wpAnyH_take (i := 5) (oi := { dst := some 29, op := Go.Op.load 3 (Go.Operand.tmp 28), type := 3, pos := "wheel.go:131", after := #[{ on := 4, ground := Go.Ground.data }], guard := none }) (v := ?_) rfl (by kernel_rfl) (by kernel_rfl) (by kernel_rfl) (fun _ _ _ h => h) (Or.inl ⟨by rfl, ?_⟩) (by assumption) ?_
  rotate_left
  · intro w hSw
    (try dsimp only at hSw)
    go_simp
    try (with_reducible rfl)
  try simp only [Act.put, List.setIfInBounds_toArray, List.set_cons_zero, List.set_cons_succ]
  refine wpAnyH_take (i := 6) (oi := { dst := some 30, op := Go.Op.move (Go.Operand.tmp 4), type := 3, pos := "wheel.go:131", after := #[], guard := none }) (v := ?_) rfl (by kernel_rfl) (by kernel_rfl) (by kernel_rfl) (fun _ _ _ h => h) (Or.inl ⟨by rfl, ?_⟩) (by assumption) ?_
  rotate_left
  · intro w hSw
    (try dsimp only at hSw)
    go_simp
    try (with_reducible rfl)
  try simp only [Act.put, List.setIfInBounds_toArray, List.set_cons_zero, List.set_cons_succ]
  refine wpAnyH_take (i := 7) (oi := { dst := some 31, op := Go.Op.move (Go.Operand.tmp 4), type := 3, pos := "wheel.go:131", after := #[], guard := none }) (v := ?_) rfl (by kernel_rfl) (by kernel_rfl) (by kernel_rfl) (fun _ _ _ h => h) (Or.inl ⟨by rfl, ?_⟩) (by assumption) ?_
  rotate_left
  · intro w hSw
    (try dsimp only at hSw)
    go_simp
    try (with_reducible rfl)
  try simp only [Act.put, List.setIfInBounds_toArray, List.set_cons_zero, List.set_cons_succ]
  refine wpAnyH_take (i := 8) (oi := { dst := some 32, op := Go.Op.fieldAddr 57 (Go.Operand.tmp 3) 1, type := 0, pos := "wheel.go:131", after := #[], guard := none }) (v := ?_) rfl (by kernel_rfl) (by kernel_rfl) (by kernel_rfl) (fun _ _ _ h => h) (Or.inl ⟨by rfl, ?_⟩) (by assumption) ?_
  rotate_left
  · intro w hSw
    (try dsimp only at hSw)
    go_simp
    try (with_reducible rfl)
  try simp only [Act.put, List.setIfInBounds_toArray, List.set_cons_zero, List.set_cons_succ]
  refine wpAnyH_take (i := 9) (oi := { dst := some 33, op := Go.Op.load 3 (Go.Operand.tmp 32), type := 3, pos := "wheel.go:131", after := #[{ on := 8, ground := Go.Ground.data }], guard := none }) (v := ?_) rfl (by kernel_rfl) (by kernel_rfl) (by kernel_rfl) (fun _ _ _ h => h) (Or.inl ⟨by rfl, ?_⟩) (by assumption) ?_
  rotate_left
  · intro w hSw
    (try dsimp only at hSw)
    go_simp
    try (with_reducible rfl)
  try simp only [Act.put, List.setIfInBounds_toArray, List.set_cons_zero, List.set_cons_succ]
  refine wpAnyH_take (i := 11) (oi := { dst := some 35, op := Go.Op.move (Go.Operand.tmp 5), type := 65, pos := "wheel.go:131", after := #[], guard := none }) (v := ?_) rfl (by kernel_rfl) (by kernel_rfl) (by kernel_rfl) (fun _ _ _ h => h) (Or.inl ⟨by rfl, ?_⟩) (by assumption) ?_
  rotate_left
  · intro w hSw
    (try dsimp only at hSw)
    go_simp
    try (with_reducible rfl)
  try simp only [Act.put, List.setIfInBounds_toArray, List.set_cons_zero, List.set_cons_succ]
  refine wpAnyH_take (i := 12) (oi := { dst := some 36, op := Go.Op.nilCheck (Go.Operand.tmp 35), type := 0, pos := "wheel.go:131", after := #[{ on := 11, ground := Go.Ground.data }], guard := none }) (v := ?_) rfl (by kernel_rfl) (by kernel_rfl) (by kernel_rfl) (fun _ _ _ h => h) (Or.inl ⟨by rfl, ?_⟩) (by assumption) ?_
  rotate_left
  · intro w hSw
    (try dsimp only at hSw)
    go_simp
    try (with_reducible rfl)
  try simp only [Act.put, List.setIfInBounds_toArray, List.set_cons_zero, List.set_cons_succ]
  refine wpAnyH_take (i := 13) (oi := { dst := some 37, op := Go.Op.load 47 (Go.Operand.tmp 36), type := 47, pos := "wheel.go:131", after := #[{ on := 12, ground := Go.Ground.data }], guard := none }) (v := ?_) rfl (by kernel_rfl) (by kernel_rfl) (by kernel_rfl) (fun _ _ _ h => h) (Or.inl ⟨by rfl, ?_⟩) (by assumption) ?_
  rotate_left
  · intro w hSw
    (try dsimp only at hSw)
    go_simp
    try (with_reducible rfl)
  try simp only [Act.put, List.setIfInBounds_toArray, List.set_cons_zero, List.set_cons_succ]
  refine wpAnyH_take (i := 14) (oi := { dst := some 38, op := Go.Op.call { callee := Go.Callee.builtin Go.Builtin.len, args := #[Go.Operand.tmp 37], argTypes := #[47] }, type := 3, pos := "wheel.go:131", after := #[{ on := 13, ground := Go.Ground.data }], guard := none }) (v := ?_) rfl (by kernel_rfl) (by kernel_rfl) (by kernel_rfl) (fun _ _ _ h => h) (Or.inl ⟨by rfl, ?_⟩) (by assumption) ?_
  rotate_left
  · intro w hSw
    (try dsimp only at hSw)
    go_simp
    try (with_reducible rfl)
  try simp only [Act.put, List.setIfInBounds_toArray, List.set_cons_zero, List.set_cons_succ]
  refine wpAnyH_ready (rs := [10]) (by kernel_rfl) (by simp) ?_
  refine AllReadyH.cons (o := { dst := some 34, op := Go.Op.call { callee := Go.Callee.value (Go.Operand.func 34), args := #[Go.Operand.tmp 31, Go.Operand.tmp 33], argTypes := #[3, 3] }, type := 3, pos := "wheel.go:131", after := #[{ on := 7, ground := Go.Ground.data }, { on := 9, ground := Go.Ground.data }], guard := none }) rfl (fun K hK => ?_) AllReadyH.nil
  go_simp
  (go_at_call 34; (with_reducible refine Calls.mono (HSl.out _) ?_); rintro e W' ⟨rfl, rfl⟩)
  go_wp2_with fail
  refine hK.out _ _ ?_ (fun hHeld => ?_)
  · (first | exact HS.out | exact HS3.out)
  clear hK K
  try simp only [Act.put, List.setIfInBounds_toArray, List.set_cons_zero, List.set_cons_succ]
  refine wpAnyH_take (i := 15) (oi := { dst := some 39, op := Go.Op.build 53 #[(0, Go.Operand.tmp 30), (1, Go.Operand.tmp 34), (2, Go.Operand.tmp 38)], type := 53, pos := "wheel.go:131", after := #[{ on := 6, ground := Go.Ground.data }, { on := 10, ground := Go.Ground.data }, { on := 14, ground := Go.Ground.data }], guard := none }) (v := ?_) rfl (by kernel_rfl) (by kernel_rfl) (by kernel_rfl) (fun _ _ _ h => h) (Or.inl ⟨by rfl, ?_⟩) (by assumption) ?_
  rotate_left
  · intro w hSw
    (try dsimp only at hSw)
    go_simp
    try (with_reducible rfl)
  try simp only [Act.put, List.setIfInBounds_toArray, List.set_cons_zero, List.set_cons_succ]
  refine wpAnyH_ready (rs := [16]) (by kernel_rfl) (by simp) ?_
  refine AllReadyH.cons (o := { dst := none, op := Go.Op.mapUpdate 46 (Go.Operand.tmp 27) (Go.Operand.tmp 29) (Go.Operand.tmp 39), type := 0, pos := "wheel.go:131", after := #[{ on := 3, ground := Go.Ground.data }, { on := 5, ground := Go.Ground.data }, { on := 15, ground := Go.Ground.data }, { on := 10, ground := Go.Ground.chain }, { on := 0, ground := Go.Ground.phase }, { on := 1, ground := Go.Ground.phase }, { on := 2, ground := Go.Ground.phase }, { on := 3, ground := Go.Ground.phase }, { on := 4, ground := Go.Ground.phase }, { on := 5, ground := Go.Ground.phase }, { on := 6, ground := Go.Ground.phase }, { on := 7, ground := Go.Ground.phase }, { on := 8, ground := Go.Ground.phase }, { on := 9, ground := Go.Ground.phase }, { on := 10, ground := Go.Ground.phase }, { on := 11, ground := Go.Ground.phase }, { on := 12, ground := Go.Ground.phase }, { on := 13, ground := Go.Ground.phase }, { on := 14, ground := Go.Ground.phase }, { on := 15, ground := Go.Ground.phase }], guard := none }) rfl (fun K hK => ?_) AllReadyH.nil
  rw [if_pos (by rfl)]
  refine wpo_mset keyI (.tmp 27) (.tmp 29) (.tmp 39) 46 53 rfl Try.underlying46 rfl id rfl (.agg #[.int .i64 (lo : Int), .int .i64 (so : Int), .int .i64 (n : Int)]) rfl HMp.out (fun w3 hM3 hT3 hs3 => ?_)
  have HM3 : Hid (MpIs intK w3 m (mpPut M id (plV k n))) := Lib.hid (HPl.out ▸ hM3)
  have HT3 := Lib.hid hT3
  have HS3 := Lib.hid (And.intro ((hT3.cell (p := ⟨p, 50, none⟩) ((HA.out W2.drew HT2d.out).1.lt p (by simp)) (by simp; exact HPm.out.1)).trans HS.out.1) (And.intro ((hT3.cell (p := ⟨xb, 0, none⟩) (HA.out W2.drew HT2d.out).2.2.1.lt (by simp; exact HPm.out.2)).trans HS.out.2.1) (And.intro ((hT3.cell (p := ⟨xb, 1, none⟩) (HA.out W2.drew HT2d.out).2.2.1.lt (by simp; exact HPm.out.2)).trans HS.out.2.2.1) ((hT3.cell (p := ⟨p, 2 + lo * 16 + so, none⟩) ((HA.out W2.drew HT2d.out).1.lt p (by simp)) (by simp; exact HPm.out.1)).trans HS.out.2.2.2))))
  clear hM3 hT3 hs3
  refine hK.out _ _ ?_ (fun hHeld => ?_)
  · (first | exact HS.out | exact HS3.out)
  clear hK K
  try simp only [Act.put]
  refine wpAnyH_done (by kernel_rfl) ?_ _
  have HT3w : Hid (Tch w w3 [m]) := Lib.hid (((HA.out W2.drew HT2d.out).2.1.mono (by simp)).trans HT3.out)
  have HH3 : Hid (WhM w3 p m t a lv ll (mpPut M id (plV k n))) := Lib.hid ((HA.out W2.drew HT2d.out).1.setMap HM3.out HT3.out)
  have HB3 : Hid (Blk w3 xb 57 #[.int .i64 id, .int .i64 (due : Int), .int .i64 (nu : Int)]) := Lib.hid (HT3.out.blk (HA.out W2.drew HT2d.out).2.2.1 (by simp; exact HPm.out.2))
  have HT4 : Hid (Tch w3 (w3.drew.alloc (.cells (tmC (id, due, nu)).toArray 57)) []) := Lib.hid ((Tch.refl w3 []).drew.alloc _)
  have HSr := Lib.hid (src_new w3.drew 57 (tmC (id, due, nu)))
  have HR3 : Hid (w3.ownsRow 0 57 3 (.slice A n c) n (l.flatMap tmC)) := Lib.hid (by have := HH3.out.rows k _ l HK.out.2.2.2.1 HK.out.2.2.2.2.1; rw [HL9.out] at this; exact this)
  have HR4 := Lib.hid (own_tch HR3.out HT4.out (by simp))
  have HN4 : Hid (n ≤ 1000000) := Lib.hid (by have := HN.out; omega)
  have HSl3 : Hid (w3.cell? ⟨p, 2 + lo * 16 + so, none⟩ = some (.slice A n c)) := Lib.hid HS3.out.2.2.2
  have HPn : Hid (p ∉ obI (.slice A n c) ∧ m ∉ obI (.slice A n c) ∧ p < w3.heap.size) := Lib.hid (by
    have h1 := HH3.out.dis
    rw [List.nodup_cons, List.nodup_cons] at h1
    refine ⟨fun e => h1.1 (List.mem_cons_of_mem _ (List.mem_flatMap.2 ⟨_, List.mem_of_getElem? HK.out.2.2.2.1, e⟩)), fun e => h1.2.1 (List.mem_flatMap.2 ⟨_, List.mem_of_getElem? HK.out.2.2.2.1, e⟩), HH3.out.lt p (by simp)⟩)
  have c2 : w3.drew.cell? ⟨p, 2 + lo * 16 + so, none⟩ = some (.slice A n c) := HSl3.out
  have x0 : w3.drew.cell? ⟨xb, 0, none⟩ = some (.int .i64 id) := (HB3.out.cell 0).trans rfl
  have x1 : w3.drew.cell? ⟨xb, 1, none⟩ = some (.int .i64 (due : Int)) := (HB3.out.cell 1).trans rfl
  have x2 : w3.drew.cell? ⟨xb, 2, none⟩ = some (.int .i64 (nu : Int)) := (HB3.out.cell 2).trans rfl
  have c3 : (w3.alloc (.cells #[.int .i64 id, .int .i64 (due : Int), .int .i64 (nu : Int)] 57)).cell? ⟨p, 2 + lo * 16 + so, none⟩ = some (.slice A n c) := (((Tch.refl w3 []).alloc _).cell (p := ⟨p, 2 + lo * 16 + so, none⟩) HPn.out.2.2 (by simp)).trans HSl3.out
  go_wp2
  go_region_law (refine step_apc 47 57 (.agg #[.int .i64 0, .int .i64 0, .int .i64 0]) 3 24 Try.underlying47 infoTm rfl (by decide) (by decide) rfl (.tmp 43) (.tmp 45) rfl 0 (.slice A n c) n (l.flatMap tmC) (by simp [Act.eval]) HR4.out ⟨w3.heap.size, 0, none⟩ 1 (tmC (id, due, nu)) (by simp [Act.eval]) rfl (fun j u hj => HSr.out j u hj) (tm_one _) HN4.out (Nat.zero_le _) ?_; intro v9 w9 hown hg hv; obtain ⟨A9, q9, e9, -, -⟩ := own_sl hown; subst e9; have hTg := Tch.of_grown' (S := obI (.slice A n c)) hg (fun k e => by rw [obI_some e]; simp); have HT9 : Hid (Tch w3 w9 (obI (.slice A n c))) := Lib.hid ((HT4.out.mono (by simp)).trans hTg); have HR9 := Lib.hid hown; have HV9 := Lib.hid hv; have c9 : w9.cell? ⟨p, 2 + lo * 16 + so, none⟩ = some (.slice A n c) := (HT9.out.cell (p := ⟨p, 2 + lo * 16 + so, none⟩) HPn.out.2.2 HPn.out.1).trans HSl3.out; have f9 : w9.frozen? ⟨p, 2 + lo * 16 + so, none⟩ = false := (HH3.out.cells.choose_spec.1.tch9 HT9.out HPn.out.1).frozen _; clear hown hg hv hTg)
  all_goals
    clear c9 f9 c2 c3 x0 x1 x2
    have HO9 : Hid (∀ s ∈ obI (.slice A9 (n + 1) q9), s ∈ obI (.slice A n c) ∨ w.heap.size ≤ s) := Lib.hid (by
      intro s hs
      rcases HV9.out with e | e
      · exact .inl (by unfold obI at hs ⊢; rw [e] at hs; exact hs)
      · rw [obI_some e] at hs
        have h1 := HT3w.out.size
        have h2 : s = w3.heap.size + 1 := (List.mem_singleton.1 hs).trans (World.size_alloc _ _)
        exact .inr (by omega))
    go_wp2
    go_end0
    obtain ⟨h9, hT10⟩ := HH3.out.app (k := k) HK.out.2.2.2.1 HT9.out (.slice A9 (n + 1) q9) (l ++ [(id, due, nu)]) (by rw [List.length_append, HL9.out, List.flatMap_append]; simpa using HR9.out) (fun s hs => by
      rcases HV9.out with e | e
      · exact .inl (by unfold obI at hs ⊢; rw [e] at hs; exact hs)
      · rw [obI_some e] at hs
        have h2 : s = w3.heap.size + 1 := (List.mem_singleton.1 hs).trans (World.size_alloc _ _)
        exact .inr (by omega))
    rw [HK.out.2.2.2.2.2] at h9 hT10
    refine ⟨rfl, _, h9, HO9.out, ?_⟩
    refine (HT3w.out.mono (fun s hs => by simp at hs; simp [hs])).trans (hT10.mono (fun s hs => ?_))
    rcases List.mem_cons.1 hs with rfl | hs
    · simp
    · simp [hs]
set_option maxRecDepth 100000 in
set_option maxHeartbeats 1000000 in
theorem empty_any (h : WhM w p m t a lv ll M) (j : Nat) (hj : j < 3) (ht : t ≤ 100000000) {v : Value} {l : List TmI} (hv : lv[16 * j + slotI j t]? = some v) (hl : ll[16 * j + slotI j t]? = some l) :
    Calls Try.prog 28 #[ptrV p, .int .i64 (j : Int)] w fun e w' => ∃ A c, v = .slice A l.length c ∧ e = .returned v ∧ WhM w' p m t a (lv.set (16 * j + slotI j t) (.slice none 0 0)) (ll.set (16 * j + slotI j t) []) M ∧ w'.ownsRow 0 57 3 v l.length (l.flatMap tmC) ∧ Tch w w' [p] := by
  have hso : slotI j t < 16 := by unfold slotI; exact Nat.mod_lt _ (by decide)
  have HSl := Lib.hid (fun W => slotOf_any j t hj (by omega) W)
  obtain ⟨so, hsl⟩ : ∃ so, slotI j t = so := ⟨_, rfl⟩
  rw [hsl] at HSl hso hv hl ⊢
  have hro := h.rows _ v l hv hl
  obtain ⟨A, c, rfl, -, -⟩ := own_sl hro
  have hsl := h.slot hv
  have hk : 16 * j + so + 2 = 2 + j * 16 + so := by omega
  rw [hk] at hsl
  have HA : Hid (∀ n, WhM (w.drewN n) p m t a lv ll M) := Lib.hid (fun n => h.tch ((Tch.refl w []).drewN n) (by simp))
  have HR : Hid (∀ n, (w.drewN n).ownsRow 0 57 3 (.slice A l.length c) l.length (l.flatMap tmC)) := Lib.hid (fun n => own_tch hro ((Tch.refl w []).drewN n) (by simp))
  have HV := Lib.hid hv
  have HK := Lib.hid hk
  have HPn : Hid (∀ s ∈ obI (.slice A l.length c), s ∉ [p]) := Lib.hid (fun s hs e => by
    have h1 := h.dis
    rw [List.nodup_cons] at h1
    rw [List.mem_singleton.1 e] at hs
    exact h1.1 (List.mem_cons_of_mem _ (List.mem_flatMap.2 ⟨_, List.mem_of_getElem? hv, hs⟩)))
  have c0 := h.now
  have i0 : (0 : Int) ≤ (j : Int) := by omega
  have i1 : (j : Int) < 3 := by omega
  have i2 : (0 : Int) ≤ (so : Int) := by omega
  have i3 : (so : Int) < 16 := by omega
  have hfr := fun n => (HA.out n).frozen (2 + j * 16 + so)
  have HFr := Lib.hid hfr
  have HCl := Lib.hid (fun n => ((HA.out n).slot hv))
  obtain ⟨n, hn⟩ : ∃ n, l.length = n := ⟨_, rfl⟩
  rw [hn] at HR HPn HV HCl hsl ⊢
  clear hro h hv hl hk hso hj ht hfr hn
  go_enter Try.func28, Try.ntmps28
  go_wp2_with fail
  go_quiet ((go_at_call 34; exact Calls.quiet_of_same (HSl.out _)))
  obtain ⟨W1, hW1⟩ : ∃ W, w.drewN nq = W := ⟨_, rfl⟩
  have HT1 : Hid (Tch w W1 []) := Lib.hid (hW1 ▸ (Tch.refl w []).drewN nq)
  have hc1 := HCl.out nq
  have hf1 := HFr.out nq
  have HA1 := Lib.hid (HA.out nq)
  have HR1 := Lib.hid (HR.out nq)
  rw [HK.out] at hc1
  rw [hW1] at hc1 hf1 HA1 HR1 ⊢
  clear hW1 c0 hsl
  go_wp2
  go_ret
  obtain ⟨h9, hT9⟩ := HA1.out.app (k := 16 * j + so) HV.out (Tch.refl W1 _) (.slice none 0 0) [] ⟨rfl, .inl ⟨rfl, rfl⟩⟩ (by simp [obI, Value.ownBlock])
  have hT8 : Tch W1 (W1.setCell ⟨p, 2 + j * 16 + so, none⟩ (.slice none 0 0)) [p] := (Tch.refl W1 [p]).set_ (by simp) _
  rw [HK.out] at h9
  exact ⟨A, c, rfl, rfl, h9, own_tch HR1.out hT8 HPn.out, (HT1.out.mono (by simp)).trans hT8⟩
end
end Go.Proofs.Ythkjfgegmbdebaa
