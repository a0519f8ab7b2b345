/-
  crosswaylaw14.IfaceSpeaks returns true for every input, and leaves its arguments alone.
  Conditions: none of our own.
-/
import Derived.Test.YtabbclocgkhnhaaMgG
namespace Go.Proofs.Ytabbclocgkhnhaa
open Go.ChangeShapes Go.WideShapes Go.ChangeAt Go.RowKit
set_option linter.unusedVariables false
namespace ISpk
def anI (s : Bool) (l : List Loc) : Bool := l.any fun x => decide (x.1.1 = s)
theorem anI_take {s : Bool} {l : List Loc} {k : Nat} {x : Loc} (hx : l[k]? = some x) : anI s (l.take (k + 1)) = (anI s (l.take k) || decide (x.1.1 = s)) := by
  unfold anI
  rw [List.take_add_one, hx, List.any_append]
  simp
theorem srcI_mem {st : StI} (h : InvI st) {port : Int} {a b : AdI} (hs : srcI st port a = some b) : N64 b.2.1 ∧ N64 b.2.2 := by
  unfold srcI at hs
  split at hs
  · cases hs
  · rename_i h0
    have ht : thereI st port = true := by
      cases ht : thereI st port with
      | true => rfl
      | false => exact absurd (.inl ht) h0
    obtain ⟨p, l, hp, hl, he, -, hlt, hpe⟩ := locI_at h ht
    rw [he] at hs
    obtain ⟨k, hk, hx⟩ := Option.bind_eq_some_iff.1 hs
    obtain ⟨x, hxl, rfl⟩ := Option.map_eq_some_iff.1 hx
    exact h.u64 l (List.mem_of_getElem? hl) x (List.mem_of_getElem? hxl)
theorem StdI.drewN {w W : World} {p : Nat} {S : List Nat} {st : StI} (h : StdI w W p S st) (q : Nat) : StdI w (W.drewN q) p S st := ⟨h.P.tch ((Tch.refl W []).drewN q) (by simp), below_drewN h.bel q, h.abv⟩
theorem OwnI.drewN {W : World} {S : List Nat} {g : Nat} {t : TypeId} {cs : Array Value} (h : OwnI W S g t cs) (q : Nat) : OwnI (W.drewN q) S g t cs := ⟨h.blk.drewN q, h.non⟩
theorem anI_yes {s : Bool} {l : List Loc} (h : ∃ x ∈ l, x.1.1 = s) : anI s l = true := by
  obtain ⟨x, hx, hs⟩ := h
  exact List.any_eq_true.2 ⟨x, hx, decide_eq_true hs⟩
set_option maxRecDepth 100000 in
set_option maxHeartbeats 4000000 in
theorem walk (w : World) (a0 : Option Addr) (l0 c0 : Nat) (z0 : List Stp) (w0 : IsStp w a0 l0 z0) (a1_0 : Bool) (a1_1 : Int) (w1_1 : (Lit.int .u64 a1_1).wf = true) (a1_2 : Int) (w1_2 : (Lit.int .u64 a1_2).wf = true) :
    Calls Try.prog 5 #[.slice a0 l0 c0, .agg #[.bool a1_0, .int .u64 a1_1, .int .u64 a1_2]] w fun e w' => e = .returned (.bool true) ∧ Below w.heap.size w w' := by
  obtain ⟨ah, rfl, v1⟩ := u64_nat w1_1
  obtain ⟨al, rfl, v2⟩ := u64_nat w1_2
  obtain ⟨s, hs⟩ : ∃ s, s = a1_0 := ⟨_, rfl⟩
  subst hs
  have HA : Hid (N64 (s, ah, al).2.1 ∧ N64 (s, ah, al).2.2) := Lib.hid ⟨v1, v2⟩
  have HZ := Lib.hid w0
  obtain ⟨xb, hxb⟩ : ∃ xb, w.heap.size = xb := ⟨_, rfl⟩
  obtain ⟨W0, hW0⟩ : ∃ W, w.alloc (.cells #[.bool s, .int .u64 (ah : Int), .int .u64 (al : Int)] 34) = W := ⟨_, rfl⟩
  have HX : Hid (Blk W0 xb 34 #[.bool s, .int .u64 (ah : Int), .int .u64 (al : Int)]) := Lib.hid (hW0 ▸ hxb ▸ Blk.new _ _ _)
  have HB0 : Hid (Below w.heap.size w W0) := Lib.hid (hW0 ▸ (Below.refl _ w).alloc (Nat.le_refl _) _)
  have HW0 := Lib.hid (And.intro hW0 hxb)
  clear w0 w1_1 w1_2 v1 v2 hW0 hxb
  go_enter Try.func5, Try.ntmps5
  go_wp2_with fail
  rw [HW0.out.1, HW0.out.2]
  refine Calls.mono (awake_yes W0) ?_
  rintro e x1 ⟨rfl, hb1⟩
  have B1 := Lib.hid (HB0.out.trans (hb1.mono HB0.out.size))
  have HX1 : Hid (Blk x1 xb 34 #[.bool s, .int .u64 (ah : Int), .int .u64 (al : Int)]) := Lib.hid (HX.out.below hb1 HX.out.lt)
  have HXc : Hid (∀ W, Below x1.heap.size x1 W → W.cell? ⟨xb, 0, none⟩ = some (.bool s) ∧ W.cell? ⟨xb, 1, none⟩ = some (.int .u64 (ah : Int)) ∧ W.cell? ⟨xb, 2, none⟩ = some (.int .u64 (al : Int))) := Lib.hid (fun W hW => by
    have h := HX1.out.below hW HX1.out.lt
    exact ⟨(h.cell 0).trans rfl, (h.cell 1).trans rfl, (h.cell 2).trans rfl⟩)
  have HM := Lib.hid (made_any w a0 l0 c0 z0 HZ.out x1 B1.out)
  clear hb1
  go_wp2_with fail
  refine Calls.mono HM.out ?_
  rintro e x2 ⟨p, S, rfl, hY⟩
  obtain ⟨st, hst⟩ : ∃ st, plI z0 (min l0 60) = st := ⟨_, rfl⟩
  rw [hst] at hY
  have Y2 := Lib.hid hY
  have HInv := Lib.hid hY.P.inv
  clear hst hY
  go_wp2
  go_loopw [7] (fun iv wr => ∃ (i : Nat), iv = .int .i64 (i : Int) ∧ i ≤ 10 ∧ Hid (StdI x1 wr p S st)) (fun iv _ => 10 - (intOf iv).toNat)
  case atStart => exact ⟨0, rfl, Nat.zero_le _, Y2⟩
  case round =>
    obtain ⟨i, rfl, hi, hY⟩ := hrel
    have j1 : IntKind.i64.wrap ((i : Int) + 1) = (i : Int) + 1 := by rw [IntKind.wrap_i64]; omega
    by_cases hlt : i ≤ 9
    · have i1 : (i : Int) ≤ 9 := by omega
      have HI := Lib.hid (i64_small i (by omega))
      obtain ⟨rr, hrr⟩ : ∃ r, srcI st (i : Int) (s, ah, al) = r := ⟨_, rfl⟩
      obtain ⟨ra, hra⟩ : ∃ ra, rr.getD (false, 0, 0) = ra := ⟨_, rfl⟩
      obtain ⟨rb, hrb⟩ : ∃ rb, rr.isSome = rb := ⟨_, rfl⟩
      obtain ⟨rs, rh, rl⟩ := ra
      have hsv : srV rr = .tuple #[.agg #[.bool rs, .int .u64 (rh : Int), .int .u64 (rl : Int)], .bool rb] := by unfold srV; rw [hra, hrb]
      have HS1 := Lib.hid (srcP p S st (i : Int) (s, ah, al) HA.out HI.out wr hY.out.P)
      rw [hrr, hsv] at HS1
      obtain ⟨q0, q1, q2⟩ := HXc.out wr hY.out.bel
      have HRr := Lib.hid (And.intro hrr (And.intro hra hrb))
      clear hrr hra hrb hsv hi
      go_wp2_with fail
      refine Calls.mono HS1.out ?_
      rintro e x3 ⟨rfl, hP, hT⟩
      have Y3 := Lib.hid (hY.out.read hP hT)
      obtain ⟨W3, hW3⟩ : ∃ W, x3.alloc (.cells #[.bool rs, .int .u64 (rh : Int), .int .u64 (rl : Int)] 34) = W := ⟨_, rfl⟩
      obtain ⟨g3, hg3⟩ : ∃ g, x3.heap.size = g := ⟨_, rfl⟩
      have Y4 : Hid (StdI x1 W3 p S st) := Lib.hid (hW3 ▸ Y3.out.alloc _)
      have V3 : Hid (OwnI W3 S g3 34 #[.bool rs, .int .u64 (rh : Int), .int .u64 (rl : Int)]) := Lib.hid (hW3 ▸ hg3 ▸ OwnI.new hP _ _)
      have Hw3 := Lib.hid (And.intro hW3 hg3)
      have HL3 := Lib.hid (localsP p S st (i : Int) HI.out W3 Y4.out.P)
      clear hP hT hW3 hg3 q0 q1 q2
      go_wp2_with fail
      rw [Hw3.out.1, Hw3.out.2]
      refine Calls.mono HL3.out ?_
      rintro e x5 ⟨A, cc, rfl, ho, hP, hT⟩
      have Y5 := Lib.hid (Y4.out.read hP hT)
      have V5 := Lib.hid (V3.out.go (Goes.of_tch hT))
      obtain ⟨ll, hll⟩ : ∃ ll, localsI st (i : Int) = ll := ⟨_, rfl⟩
      rw [hll] at ho ⊢
      obtain ⟨m, hm⟩ : ∃ m, ll.length = m := ⟨_, rfl⟩
      rw [hm] at ho ⊢
      have HO := Lib.hid ho
      have HM2 := Lib.hid hm
      have HLl := Lib.hid hll
      have hm8 : m ≤ 8 := by
        rw [← hm, ← hll]
        unfold localsI
        split
        · simp
        · rename_i h9
          obtain ⟨_, l, -, hl, he, -⟩ := locI_at HInv.out (by simpa using h9)
          rw [he]; exact HInv.out.loc l (List.mem_of_getElem? hl)
      clear ho hP hT hll hm
      go_wp2
      go_loopw [11, 12] (fun av kv wk => ∃ (k q : Nat) (an : Bool), av = .bool an ∧ kv = .int .i64 (k : Int) ∧ k ≤ m ∧ wk = x5.drewN q ∧ Hid (anI s (ll.take k) = an)) (fun _ kv _ => m - (intOf kv).toNat)
      case atStart => exact ⟨0, 0, false, rfl, rfl, Nat.zero_le _, rfl, Lib.hid (by simp [anI])⟩
      case round =>
        obtain ⟨k, q, an, rfl, rfl, hk, rfl, han⟩ := hrel
        have k1 : IntKind.i64.wrap ((k : Int) + 1) = (k : Int) + 1 := by rw [IntKind.wrap_i64]; omega
        obtain ⟨wk, hwk⟩ : ∃ x, x5.drewN q = x := ⟨_, rfl⟩
        have HWk := Lib.hid hwk
        rw [hwk]
        by_cases hkm : k < m
        · have kI : (k : Int) < (m : Int) := by omega
          have k0 : (0 : Int) ≤ (k : Int) := by omega
          obtain ⟨x, hx⟩ : ∃ x, ll[k]? = some x := ⟨_, List.getElem?_eq_getElem (by rw [HM2.out]; exact hkm)⟩
          obtain ⟨gx, rfl⟩ := slice_some HO.out (by omega)
          have HAn := Lib.hid (anI_take (s := s) hx)
          obtain ⟨⟨xs, xh, xl⟩, xbt⟩ := x
          have c0' : wk.cell? ⟨gx, k * 4, none⟩ = some (Value.bool xs) := by rw [← hwk]; exact own_cellN HO.out ((flat4_at (f := lcC) (fun _ => rfl) hx (k := 0) (by decide)).trans rfl)
          have c1' : wk.cell? ⟨xb, 0, none⟩ = some (Value.bool s) := by rw [← hwk]; exact (HXc.out x5 Y5.out.bel).1
          have HC := Lib.hid (And.intro c0' c1')
          obtain ⟨b, hb⟩ : ∃ b, decide (xs = s) = b := ⟨_, rfl⟩
          have hbq : (xs == s) = b := by rw [← hb]; cases xs <;> cases s <;> rfl
          rw [show decide ((((xs, xh, xl), xbt) : Loc).1.1 = s) = b from hb, han.out] at HAn
          clear hx hwk c0' c1' hb
          cases an with
          | true =>
            go_wp2
            refine wp_region_held_drew (S := (fun W => W.cell? ⟨gx, k * 4, none⟩ = some (Value.bool xs) ∧ W.cell? ⟨xb, 0, none⟩ = some (Value.bool s))) (by kernel_rfl) ?_ (fun hHeld => ?_)
            · (exact HC.out)
            refine wpAnyH_take (i := 0) (oi := { dst := some 42, op := Go.Op.move (Go.Operand.tmp 11), type := 4, pos := "law.go:168", after := #[], guard := none }) (v := ?_) rfl (by kernel_rfl) (by kernel_rfl) (by kernel_rfl) (fun _ _ _ h => h) (Or.inl ⟨by rfl, ?_⟩) (by assumption) ?_
            rotate_left
            · intro w hSw
              (try dsimp only at hSw)
              go_simp
              try (with_reducible rfl)
            try simp only [Act.put, List.setIfInBounds_toArray, List.set_cons_zero, List.set_cons_succ]
            refine wpAnyH_take (i := 1) (oi := { dst := some 43, op := Go.Op.move (Go.Operand.tmp 42), type := 4, pos := "law.go:168", after := #[{ on := 0, ground := Go.Ground.data }], guard := none }) (v := ?_) rfl (by kernel_rfl) (by kernel_rfl) (by kernel_rfl) (fun _ _ _ h => h) (Or.inl ⟨by rfl, ?_⟩) (by assumption) ?_
            rotate_left
            · intro w hSw
              (try dsimp only at hSw)
              go_simp
              try (with_reducible rfl)
            try simp only [Act.put, List.setIfInBounds_toArray, List.set_cons_zero, List.set_cons_succ]
            refine wpAnyH_take (i := 2) (oi := { dst := some 44, op := Go.Op.move (Go.Operand.tmp 10), type := 39, pos := "law.go:168", after := #[{ on := 1, ground := Go.Ground.guard }], guard := some (1, false) }) (v := undef) rfl (by kernel_rfl) (by kernel_rfl) (by kernel_rfl) (fun _ _ _ h => h) (Or.inr ⟨by rfl, rfl⟩) (by assumption) ?_
            try simp only [Act.put, List.setIfInBounds_toArray, List.set_cons_zero, List.set_cons_succ]
            refine wpAnyH_take (i := 3) (oi := { dst := some 45, op := Go.Op.move (Go.Operand.tmp 12), type := 3, pos := "law.go:168", after := #[{ on := 1, ground := Go.Ground.guard }], guard := some (1, false) }) (v := undef) rfl (by kernel_rfl) (by kernel_rfl) (by kernel_rfl) (fun _ _ _ h => h) (Or.inr ⟨by rfl, rfl⟩) (by assumption) ?_
            try simp only [Act.put, List.setIfInBounds_toArray, List.set_cons_zero, List.set_cons_succ]
            refine wpAnyH_take (i := 4) (oi := { dst := some 46, op := Go.Op.indexAddr 39 (Go.Operand.tmp 44) (Go.Operand.tmp 45), type := 0, pos := "law.go:168", after := #[{ on := 2, ground := Go.Ground.data }, { on := 3, ground := Go.Ground.data }, { on := 1, ground := Go.Ground.guard }], guard := some (1, false) }) (v := undef) rfl (by kernel_rfl) (by kernel_rfl) (by kernel_rfl) (fun _ _ _ h => h) (Or.inr ⟨by rfl, rfl⟩) (by assumption) ?_
            try simp only [Act.put, List.setIfInBounds_toArray, List.set_cons_zero, List.set_cons_succ]
            refine wpAnyH_take (i := 5) (oi := { dst := some 47, op := Go.Op.fieldAddr 42 (Go.Operand.tmp 46) 0, type := 0, pos := "law.go:168", after := #[{ on := 4, ground := Go.Ground.data }, { on := 1, ground := Go.Ground.guard }], guard := some (1, false) }) (v := undef) rfl (by kernel_rfl) (by kernel_rfl) (by kernel_rfl) (fun _ _ _ h => h) (Or.inr ⟨by rfl, rfl⟩) (by assumption) ?_
            try simp only [Act.put, List.setIfInBounds_toArray, List.set_cons_zero, List.set_cons_succ]
            refine wpAnyH_take (i := 6) (oi := { dst := some 48, op := Go.Op.fieldAddr 34 (Go.Operand.tmp 47) 0, type := 0, pos := "law.go:168", after := #[{ on := 5, ground := Go.Ground.data }, { on := 1, ground := Go.Ground.guard }], guard := some (1, false) }) (v := undef) rfl (by kernel_rfl) (by kernel_rfl) (by kernel_rfl) (fun _ _ _ h => h) (Or.inr ⟨by rfl, rfl⟩) (by assumption) ?_
            try simp only [Act.put, List.setIfInBounds_toArray, List.set_cons_zero, List.set_cons_succ]
            refine wpAnyH_take (i := 7) (oi := { dst := some 49, op := Go.Op.load 4 (Go.Operand.tmp 48), type := 4, pos := "law.go:168", after := #[{ on := 6, ground := Go.Ground.data }, { on := 1, ground := Go.Ground.guard }], guard := some (1, false) }) (v := undef) rfl (by kernel_rfl) (by kernel_rfl) (by kernel_rfl) (fun _ _ _ h => h) (Or.inr ⟨by rfl, rfl⟩) (by assumption) ?_
            try simp only [Act.put, List.setIfInBounds_toArray, List.set_cons_zero, List.set_cons_succ]
            refine wpAnyH_take (i := 8) (oi := { dst := some 50, op := Go.Op.fieldAddr 34 (Go.Operand.tmp 3) 0, type := 0, pos := "law.go:168", after := #[{ on := 1, ground := Go.Ground.guard }], guard := some (1, false) }) (v := undef) rfl (by kernel_rfl) (by kernel_rfl) (by kernel_rfl) (fun _ _ _ h => h) (Or.inr ⟨by rfl, rfl⟩) (by assumption) ?_
            try simp only [Act.put, List.setIfInBounds_toArray, List.set_cons_zero, List.set_cons_succ]
            refine wpAnyH_take (i := 9) (oi := { dst := some 51, op := Go.Op.load 4 (Go.Operand.tmp 50), type := 4, pos := "law.go:168", after := #[{ on := 8, ground := Go.Ground.data }, { on := 1, ground := Go.Ground.guard }], guard := some (1, false) }) (v := undef) rfl (by kernel_rfl) (by kernel_rfl) (by kernel_rfl) (fun _ _ _ h => h) (Or.inr ⟨by rfl, rfl⟩) (by assumption) ?_
            try simp only [Act.put, List.setIfInBounds_toArray, List.set_cons_zero, List.set_cons_succ]
            refine wpAnyH_take (i := 10) (oi := { dst := some 52, op := Go.Op.binOp Go.BinOp.eql 4 (Go.Operand.tmp 49) (Go.Operand.tmp 51) 4, type := 4, pos := "law.go:168", after := #[{ on := 7, ground := Go.Ground.data }, { on := 9, ground := Go.Ground.data }, { on := 1, ground := Go.Ground.guard }], guard := some (1, false) }) (v := undef) rfl (by kernel_rfl) (by kernel_rfl) (by kernel_rfl) (fun _ _ _ h => h) (Or.inr ⟨by rfl, rfl⟩) (by assumption) ?_
            try simp only [Act.put, List.setIfInBounds_toArray, List.set_cons_zero, List.set_cons_succ]
            refine wpAnyH_take (i := 11) (oi := { dst := some 53, op := Go.Op.pick (Go.Operand.tmp 43) (Go.Operand.const (Go.Value.bool true)) (Go.Operand.tmp 52), type := 4, pos := "law.go:168", after := #[{ on := 1, ground := Go.Ground.data }, { on := 10, ground := Go.Ground.data }], guard := none }) (v := ?_) rfl (by kernel_rfl) (by kernel_rfl) (by kernel_rfl) (fun _ _ _ h => h) (Or.inl ⟨by rfl, ?_⟩) (by assumption) ?_
            rotate_left
            · intro w hSw
              (try dsimp only at hSw)
              go_simp
              try (with_reducible rfl)
            try simp only [Act.put, List.setIfInBounds_toArray, List.set_cons_zero, List.set_cons_succ]
            refine wpAnyH_take (i := 12) (oi := { dst := some 11, op := Go.Op.assign (Go.Operand.tmp 53), type := 4, pos := "law.go:168", after := #[{ on := 11, ground := Go.Ground.data }, { on := 1, ground := Go.Ground.chain }, { on := 0, ground := Go.Ground.phase }, { on := 1, ground := Go.Ground.phase }, { on := 2, ground := Go.Ground.phase }, { on := 3, ground := Go.Ground.phase }, { on := 4, ground := Go.Ground.phase }, { on := 5, ground := Go.Ground.phase }, { on := 6, ground := Go.Ground.phase }, { on := 7, ground := Go.Ground.phase }, { on := 8, ground := Go.Ground.phase }, { on := 9, ground := Go.Ground.phase }, { on := 10, ground := Go.Ground.phase }, { on := 11, ground := Go.Ground.phase }], guard := none }) (v := ?_) rfl (by kernel_rfl) (by kernel_rfl) (by kernel_rfl) (fun _ _ _ h => h) (Or.inl ⟨by rfl, ?_⟩) (by assumption) ?_
            rotate_left
            · intro w hSw
              (try dsimp only at hSw)
              go_simp
              try (with_reducible rfl)
            try simp only [Act.put, List.setIfInBounds_toArray, List.set_cons_zero, List.set_cons_succ]
            refine wpAnyH_done (by kernel_rfl) ?_ _
            go_wp2
            go_roundw
            case rel => exact ⟨k + 1, q + 1, true, rfl, by go_num, hkm, by rw [← HWk.out]; rfl, Lib.hid (by rw [HAn.out]; rfl)⟩
            case measure => simp [intOf]; omega
          | false =>
            go_wp2
            refine wp_region_held_drew (S := (fun W => W.cell? ⟨gx, k * 4, none⟩ = some (Value.bool xs) ∧ W.cell? ⟨xb, 0, none⟩ = some (Value.bool s))) (by kernel_rfl) ?_ (fun hHeld => ?_)
            · (exact HC.out)
            refine wpAnyH_take (i := 0) (oi := { dst := some 42, op := Go.Op.move (Go.Operand.tmp 11), type := 4, pos := "law.go:168", after := #[], guard := none }) (v := ?_) rfl (by kernel_rfl) (by kernel_rfl) (by kernel_rfl) (fun _ _ _ h => h) (Or.inl ⟨by rfl, ?_⟩) (by assumption) ?_
            rotate_left
            · intro w hSw
              (try dsimp only at hSw)
              go_simp
              try (with_reducible rfl)
            try simp only [Act.put, List.setIfInBounds_toArray, List.set_cons_zero, List.set_cons_succ]
            refine wpAnyH_take (i := 1) (oi := { dst := some 43, op := Go.Op.move (Go.Operand.tmp 42), type := 4, pos := "law.go:168", after := #[{ on := 0, ground := Go.Ground.data }], guard := none }) (v := ?_) rfl (by kernel_rfl) (by kernel_rfl) (by kernel_rfl) (fun _ _ _ h => h) (Or.inl ⟨by rfl, ?_⟩) (by assumption) ?_
            rotate_left
            · intro w hSw
              (try dsimp only at hSw)
              go_simp
              try (with_reducible rfl)
            try simp only [Act.put, List.setIfInBounds_toArray, List.set_cons_zero, List.set_cons_succ]
            refine wpAnyH_take (i := 2) (oi := { dst := some 44, op := Go.Op.move (Go.Operand.tmp 10), type := 39, pos := "law.go:168", after := #[{ on := 1, ground := Go.Ground.guard }], guard := some (1, false) }) (v := ?_) rfl (by kernel_rfl) (by kernel_rfl) (by kernel_rfl) (fun _ _ _ h => h) (Or.inl ⟨by rfl, ?_⟩) (by assumption) ?_
            rotate_left
            · intro w hSw
              (try dsimp only at hSw)
              go_simp
              try (with_reducible rfl)
            try simp only [Act.put, List.setIfInBounds_toArray, List.set_cons_zero, List.set_cons_succ]
            refine wpAnyH_take (i := 3) (oi := { dst := some 45, op := Go.Op.move (Go.Operand.tmp 12), type := 3, pos := "law.go:168", after := #[{ on := 1, ground := Go.Ground.guard }], guard := some (1, false) }) (v := ?_) rfl (by kernel_rfl) (by kernel_rfl) (by kernel_rfl) (fun _ _ _ h => h) (Or.inl ⟨by rfl, ?_⟩) (by assumption) ?_
            rotate_left
            · intro w hSw
              (try dsimp only at hSw)
              go_simp
              try (with_reducible rfl)
            try simp only [Act.put, List.setIfInBounds_toArray, List.set_cons_zero, List.set_cons_succ]
            refine wpAnyH_take (i := 4) (oi := { dst := some 46, op := Go.Op.indexAddr 39 (Go.Operand.tmp 44) (Go.Operand.tmp 45), type := 0, pos := "law.go:168", after := #[{ on := 2, ground := Go.Ground.data }, { on := 3, ground := Go.Ground.data }, { on := 1, ground := Go.Ground.guard }], guard := some (1, false) }) (v := ?_) rfl (by kernel_rfl) (by kernel_rfl) (by kernel_rfl) (fun _ _ _ h => h) (Or.inl ⟨by rfl, ?_⟩) (by assumption) ?_
            rotate_left
            · intro w hSw
              (try dsimp only at hSw)
              go_simp
              try (with_reducible rfl)
            try simp only [Act.put, List.setIfInBounds_toArray, List.set_cons_zero, List.set_cons_succ]
            refine wpAnyH_take (i := 5) (oi := { dst := some 47, op := Go.Op.fieldAddr 42 (Go.Operand.tmp 46) 0, type := 0, pos := "law.go:168", after := #[{ on := 4, ground := Go.Ground.data }, { on := 1, ground := Go.Ground.guard }], guard := some (1, false) }) (v := ?_) rfl (by kernel_rfl) (by kernel_rfl) (by kernel_rfl) (fun _ _ _ h => h) (Or.inl ⟨by rfl, ?_⟩) (by assumption) ?_
            rotate_left
            · intro w hSw
              (try dsimp only at hSw)
              go_simp
              try (with_reducible rfl)
            try simp only [Act.put, List.setIfInBounds_toArray, List.set_cons_zero, List.set_cons_succ]
            refine wpAnyH_take (i := 6) (oi := { dst := some 48, op := Go.Op.fieldAddr 34 (Go.Operand.tmp 47) 0, type := 0, pos := "law.go:168", after := #[{ on := 5, ground := Go.Ground.data }, { on := 1, ground := Go.Ground.guard }], guard := some (1, false) }) (v := ?_) rfl (by kernel_rfl) (by kernel_rfl) (by kernel_rfl) (fun _ _ _ h => h) (Or.inl ⟨by rfl, ?_⟩) (by assumption) ?_
            rotate_left
            · intro w hSw
              (try dsimp only at hSw)
              go_simp
              try (with_reducible rfl)
            try simp only [Act.put, List.setIfInBounds_toArray, List.set_cons_zero, List.set_cons_succ]
            refine wpAnyH_take (i := 7) (oi := { dst := some 49, op := Go.Op.load 4 (Go.Operand.tmp 48), type := 4, pos := "law.go:168", after := #[{ on := 6, ground := Go.Ground.data }, { on := 1, ground := Go.Ground.guard }], guard := some (1, false) }) (v := ?_) rfl (by kernel_rfl) (by kernel_rfl) (by kernel_rfl) (fun _ _ _ h => h) (Or.inl ⟨by rfl, ?_⟩) (by assumption) ?_
            rotate_left
            · intro w hSw
              (try dsimp only at hSw)
              go_simp
              try (with_reducible rfl)
            try simp only [Act.put, List.setIfInBounds_toArray, List.set_cons_zero, List.set_cons_succ]
            refine wpAnyH_take (i := 8) (oi := { dst := some 50, op := Go.Op.fieldAddr 34 (Go.Operand.tmp 3) 0, type := 0, pos := "law.go:168", after := #[{ on := 1, ground := Go.Ground.guard }], guard := some (1, false) }) (v := ?_) rfl (by kernel_rfl) (by kernel_rfl) (by kernel_rfl) (fun _ _ _ h => h) (Or.inl ⟨by rfl, ?_⟩) (by assumption) ?_
            rotate_left
            · intro w hSw
              (try dsimp only at hSw)
              go_simp
              try (with_reducible rfl)
            try simp only [Act.put, List.setIfInBounds_toArray, List.set_cons_zero, List.set_cons_succ]
            refine wpAnyH_take (i := 9) (oi := { dst := some 51, op := Go.Op.load 4 (Go.Operand.tmp 50), type := 4, pos := "law.go:168", after := #[{ on := 8, ground := Go.Ground.data }, { on := 1, ground := Go.Ground.guard }], guard := some (1, false) }) (v := ?_) rfl (by kernel_rfl) (by kernel_rfl) (by kernel_rfl) (fun _ _ _ h => h) (Or.inl ⟨by rfl, ?_⟩) (by assumption) ?_
            rotate_left
            · intro w hSw
              (try dsimp only at hSw)
              go_simp
              try (with_reducible rfl)
            try simp only [Act.put, List.setIfInBounds_toArray, List.set_cons_zero, List.set_cons_succ]
            refine wpAnyH_take (i := 10) (oi := { dst := some 52, op := Go.Op.binOp Go.BinOp.eql 4 (Go.Operand.tmp 49) (Go.Operand.tmp 51) 4, type := 4, pos := "law.go:168", after := #[{ on := 7, ground := Go.Ground.data }, { on := 9, ground := Go.Ground.data }, { on := 1, ground := Go.Ground.guard }], guard := some (1, false) }) (v := ?_) rfl (by kernel_rfl) (by kernel_rfl) (by kernel_rfl) (fun _ _ _ h => h) (Or.inl ⟨by rfl, ?_⟩) (by assumption) ?_
            rotate_left
            · intro w hSw
              (try dsimp only at hSw)
              go_simp
              try (with_reducible rfl)
            try simp only [Act.put, List.setIfInBounds_toArray, List.set_cons_zero, List.set_cons_succ]
            refine wpAnyH_take (i := 11) (oi := { dst := some 53, op := Go.Op.pick (Go.Operand.tmp 43) (Go.Operand.const (Go.Value.bool true)) (Go.Operand.tmp 52), type := 4, pos := "law.go:168", after := #[{ on := 1, ground := Go.Ground.data }, { on := 10, ground := Go.Ground.data }], guard := none }) (v := ?_) rfl (by kernel_rfl) (by kernel_rfl) (by kernel_rfl) (fun _ _ _ h => h) (Or.inl ⟨by rfl, ?_⟩) (by assumption) ?_
            rotate_left
            · intro w hSw
              (try dsimp only at hSw)
              go_simp
              try (with_reducible rfl)
            try simp only [Act.put, List.setIfInBounds_toArray, List.set_cons_zero, List.set_cons_succ]
            refine wpAnyH_take (i := 12) (oi := { dst := some 11, op := Go.Op.assign (Go.Operand.tmp 53), type := 4, pos := "law.go:168", after := #[{ on := 11, ground := Go.Ground.data }, { on := 1, ground := Go.Ground.chain }, { on := 0, ground := Go.Ground.phase }, { on := 1, ground := Go.Ground.phase }, { on := 2, ground := Go.Ground.phase }, { on := 3, ground := Go.Ground.phase }, { on := 4, ground := Go.Ground.phase }, { on := 5, ground := Go.Ground.phase }, { on := 6, ground := Go.Ground.phase }, { on := 7, ground := Go.Ground.phase }, { on := 8, ground := Go.Ground.phase }, { on := 9, ground := Go.Ground.phase }, { on := 10, ground := Go.Ground.phase }, { on := 11, ground := Go.Ground.phase }], guard := none }) (v := ?_) rfl (by kernel_rfl) (by kernel_rfl) (by kernel_rfl) (fun _ _ _ h => h) (Or.inl ⟨by rfl, ?_⟩) (by assumption) ?_
            rotate_left
            · intro w hSw
              (try dsimp only at hSw)
              go_simp
              try (with_reducible rfl)
            try simp only [Act.put, List.setIfInBounds_toArray, List.set_cons_zero, List.set_cons_succ]
            refine wpAnyH_done (by kernel_rfl) ?_ _
            go_wp2
            go_roundw
            case rel => exact ⟨k + 1, q + 1, b, rfl, by go_num, hkm, by rw [← HWk.out]; rfl, Lib.hid (by rw [HAn.out]; rfl)⟩
            case measure => simp [intOf]; omega
        · obtain rfl : k = m := by omega
          have kI : ¬ (k : Int) < (k : Int) := by omega
          have hany : anI s ll = an := by have := han.out; rwa [List.take_of_length_le (Nat.le_of_eq HM2.out)] at this
          have Yk : Hid (StdI x1 wk p S st) := Lib.hid (hwk ▸ StdI.drewN Y5.out q)
          have Vk : Hid (OwnI wk S g3 34 #[.bool rs, .int .u64 (rh : Int), .int .u64 (rl : Int)]) := Lib.hid (hwk ▸ OwnI.drewN V5.out q)
          obtain ⟨hrr, hra, hrb⟩ := HRr.out
          have q0 := (Vk.out.blk.cell 0).trans (show _ = some (Value.bool rs) by rfl)
          have q1 := (Vk.out.blk.cell 1).trans (show _ = some (Value.int .u64 (rh : Int)) by rfl)
          have q2 := (Vk.out.blk.cell 2).trans (show _ = some (Value.int .u64 (rl : Int)) by rfl)
          obtain ⟨t0, t1, t2⟩ := HXc.out wk Yk.out.bel
          clear hkm hk han hwk
          cases rr with
          | some b =>
            have hrb : true = rb := hrb
            subst hrb
            have hra : b = (rs, rh, rl) := hra
            subst hra
            obtain ⟨hmi, hfs, hex⟩ := srcI_some HInv.out hrr
            rw [HLl.out] at hex
            have han : an = true := by rw [← hany]; exact anI_yes hex
            have hN := srcI_mem HInv.out hrr
            have HMn := Lib.hid (mineP p S st (rs, rh, rl) hN wk Yk.out.P)
            rw [hmi] at HMn
            have bmi : ((i : Int) != (i : Int)) = false := by simp
            have hfs : rs = s := hfs
            subst hfs
            subst han
            have bs : (rs != rs) = false := by simp
            clear hrr hmi hex hN hany
            go_wp2_with fail
            refine Calls.mono HMn.out ?_
            rintro e w7 ⟨rfl, hP7, hT7⟩
            have YY := Lib.hid (Yk.out.read hP7 hT7)
            have V7 := Vk.out.go (Goes.of_tch hT7)
            have u0 := (V7.blk.cell 0).trans (show _ = some (Value.bool rs) by rfl)
            obtain ⟨v0, v1, v2⟩ := HXc.out w7 YY.out.bel
            clear hP7 hT7 V7 q0 q1 q2 t0 t1 t2
            go_wp2
            go_roundw
            case rel => exact ⟨i + 1, by go_num, by omega, YY⟩
            case measure => simp [intOf]; omega
          | none =>
            have hrb : false = rb := hrb
            subst hrb
            have hra : ((false, 0, 0) : AdI) = (rs, rh, rl) := hra
            injection hra with ha1 ha2
            injection ha2 with ha2 ha3
            subst ha1 ha2 ha3
            have YY := Yk
            have EQ : ∀ W, (binOp .neq 34 (.agg #[.bool false, .int .u64 0, .int .u64 0]) (.agg #[.bool false, .int .u64 0, .int .u64 0])).run Try.prog W = .ok (.bool (!true)) W := eq_neq _ _ _ (fun W => by rw [eq_ad]; simp)
            have q1 : wk.cell? ⟨g3, 1, none⟩ = some (Value.int .u64 0) := q1
            have q2 : wk.cell? ⟨g3, 2, none⟩ = some (Value.int .u64 0) := q2
            cases an with
            | false =>
              clear hrr hany
              go_wp2
              go_roundw
              case rel => exact ⟨i + 1, by go_num, by omega, YY⟩
              case measure => simp [intOf]; omega
            | true =>
              have hv : vld s (ah : Int) (al : Int) = false := by
                cases hv : vld s (ah : Int) (al : Int) with
                | false => rfl
                | true =>
                  have h1 := srcI_none HInv.out hrr hv
                  rw [HLl.out] at h1
                  unfold anI at hany
                  obtain ⟨x, hx, hxs⟩ := List.any_eq_true.1 hany
                  exact absurd (of_decide_eq_true hxs) (h1 x hx)
              cases s with
              | true => cases hv
              | false =>
                have hv2 : ¬ ((ah : Int) = 0 ∧ (al : Int) ≤ 4294967295) := by
                  intro h
                  unfold vld at hv
                  simp only [Bool.false_or, Bool.and_eq_false_iff, decide_eq_false_iff_not] at hv
                  omega
                clear hrr hany hv
                by_cases hz : ah = 0
                · subst hz
                  have hal : ¬ (al : Int) < 4294967296 := by omega
                  have t1 : wk.cell? ⟨xb, 1, none⟩ = some (Value.int .u64 0) := t1
                  clear hv2
                  go_wp2
                  go_roundw
                  case rel => exact ⟨i + 1, by go_num, by omega, YY⟩
                  case measure => simp [intOf]; omega
                · have hz2 : ((ah : Int) == (0 : Int)) = false := by simp; omega
                  clear hv2 hz
                  go_wp2
                  go_roundw
                  case rel => exact ⟨i + 1, by go_num, by omega, YY⟩
                  case measure => simp [intOf]; omega
    · obtain rfl : i = 10 := by omega
      have i1 : ¬ ((10 : Nat) : Int) ≤ 9 := by omega
      clear hlt hi
      go_wp2
      go_ret
      exact ⟨rfl, B1.out.trans (hY.out.bel.mono B1.out.size)⟩
set_option maxRecDepth 100000 in
theorem contract (H : Type) (enc : TypeId × Value → H) (W : World) (base : Nat) (args : Array Value) (ds gs : List (DataW H)) (before : List MemPlace)
    (hval0 : ∀ (j : Nat) t v, Try.f5.params[j]? = some t → args[j]? = some v → Value.okWide Try.prog W .any base t v)
    (hW : DataW.Whole enc Try.prog Try.f5.params.toList Rows.ifaceSpeaksSpec.vars false W args.toList ds gs before)
    (hsz0 : (DataW.weightsEach Try.prog (Try.f5.params.toList ++ Rows.ifaceSpeaksSpec.plain.varTypes Try.prog) (ds ++ gs)).all (· ≤ reachBytes) = true) :
    Calls Try.prog 5 args W fun e W' => ∃ v, e = .returned v ∧ Rows.ifaceSpeaksSpec.post enc Try.prog Try.f5 false true false false W args v W' := by
  have hsz := hsz0
  clear hsz0
  have hval := hval0
  clear hval0
  have hW' := hW
  obtain ⟨p, q, hA0, hV, rfl, hfz, hnd⟩ := hW
  have hA : DataW.TrodAll enc Try.prog W 0 (fun _ => true) true Try.f5.params.toList args.toList ds p := hA0
  rw [Try.params5] at hA hval hsz
  obtain ⟨v0, vs0, d0, ds0, p0, q0, hargs, rfl, rfl, h0, r0⟩ := trodAll_cons hA
  obtain ⟨v1, vs1, d1, ds1, p1, q1, rfl, rfl, rfl, h1, r1⟩ := trodAll_cons r0
  obtain ⟨rfl, rfl, rfl⟩ := trodAll_nil r1
  obtain rfl : args = #[v0, v1] := by cases args; simp_all
  obtain ⟨rfl, rfl⟩ := trodVars_none hV
  obtain ⟨a0, l0, c0, rfl⟩ := okWide_slice Try.underlying22 (hval 0 22 v0 rfl rfl)
  have k0 := h0
  have lt0 : ∀ x ∈ p0, x.block < W.heap.size := by obtain ⟨m, hm⟩ := k0; exact DataW.trod_lt m _ _ _ hm
  obtain ⟨z0, w0⟩ := isStp_of h0
  have k1 := h1
  have lt1 : ∀ x ∈ p1, x.block < W.heap.size := by obtain ⟨m, hm⟩ := k1; exact DataW.trod_lt m _ _ _ hm
  obtain ⟨v1_0, v1_1, v1_2, y1_0, y1_1, y1_2, n1, rfl, ed1, ep1, f1_0, f1_1, f1_2⟩ := Go.Joins.open_agg3 Try.underlying34 (by kernel_rfl) (by kernel_rfl) (hval 1 34 v1 rfl rfl) h1
  obtain ⟨a1_0, e1_0, _⟩ := DataW.trod_bool Try.underlying4 f1_0
  injection e1_0 with e1_0 _
  subst e1_0
  obtain ⟨a1_1, e1_1, _, w1_1⟩ := DataW.trod_int Try.underlying31 f1_1
  injection e1_1 with e1_1 _
  subst e1_1
  obtain ⟨a1_2, e1_2, _, w1_2⟩ := DataW.trod_int Try.underlying31 f1_2
  injection e1_2 with e1_2 _
  subst e1_2
  clear hA0
  refine (walk W a0 l0 c0 z0 w0 a1_0 a1_1 w1_1 a1_2 w1_2).mono fun e W' ⟨he, bel⟩ => ?_
  subst he
  exact ⟨_, rfl, _, _, _, [], _, [], hW', trodAll_mk1 (shut_bool Try.underlying4 _), (trodAll_cons_mk (Below.trod laidOut (by kernel_rfl) (of_decide_eq_true (by kernel_rfl)) k0 bel lt0) (trodAll_cons_mk (Below.trod laidOut (by kernel_rfl) (of_decide_eq_true (by kernel_rfl)) k1 bel lt1) trodAll_mk0)), rfl, bel.frame _, fun h => by cases h⟩

set_option maxRecDepth 100000 in
theorem lifted (os : Os) (started : os.Started) (H : Type) (enc : TypeId × Value → H) :
    ReturnsInHanded {} Try.checked os 5 .any (Rows.ifaceSpeaksSpec.pre6 enc Try.prog Try.f5 Rows.ifaceSpeaksRow.domain false) (Rows.ifaceSpeaksSpec.post enc Try.prog Try.f5 false true false false) := by
  refine returnsInHanded_of_change_sized (C := Try.checked) own started (by kernel_rfl) Try.func5
    (ChangeSpec.witness6 (enc := enc) (C := Try.checked) false ⟨#[], #[.slice none 0 0, .agg #[.bool false, .int .u64 0, .int .u64 0]], []⟩ 8 (by kernel_rfl) (by kernel_rfl) (by kernel_rfl) (by kernel_rfl)) ?_
  intro W base args ds gs before hval hW _ hsz _
  exact contract H enc W base args ds gs before hval hW hsz

theorem over : Rows.ifaceSpeaksRow.holds Try.pinned (OpenSpec.ofChange Rows.ifaceSpeaksSpec) :=
  OpenClaim.holds_of_wide 5 Try.f5 rfl rfl rfl rfl rfl rfl rfl ⟨rfl, rfl, rfl, rfl, rfl⟩ rfl rfl rfl rfl rfl (by kernel_rfl) Try.func5 (by kernel_rfl)
    (of_decide_eq_true (by kernel_rfl)) (by unfold Func.isWrapper; first | (rw [if_pos (by decide +kernel)]; kernel_rfl) | (rw [if_neg (by decide +kernel)]; exact ⟨rfl, rfl⟩))
    (fun os started H enc _ => lifted os started H enc)

theorem proved : Rows.IfaceSpeaksSaid := over
#print axioms proved
