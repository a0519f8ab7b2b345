/-
  addr.parseSix of any text, and addr.Parse of any text.
-/
import Derived.Test.YtbpdnohcgojmbaaGreatDoorGaddr
import Derived.Laws.CopyOwn
import Derived.Deep.RegionLaw
namespace Go.Proofs.YtbpdnohcgojmbaaGreatDoor
open Go.RowKit
set_option linter.unusedVariables false

/-- The address of eight groups. -/
def adrOf (zs : List Int) : Value := adr true (n4 (zs.getD 0 0) (zs.getD 1 0) (zs.getD 2 0) (zs.getD 3 0)) (n4 (zs.getD 4 0) (zs.getD 5 0) (zs.getD 6 0) (zs.getD 7 0))
/-- What eight groups are read as. -/
def sixV : Option (List Nat) → Value
  | some vs => .tuple #[adrOf (vs.map Int.ofNat), .int .i64 0]
  | none => .tuple #[adr false 0 0, .int .i64 20]
theorem alls_mem {α β : Type} {f : α → Option β} : ∀ {l : List α} {vs : List β}, alls f l = some vs → ∀ v ∈ vs, ∃ x ∈ l, f x = some v
  | [], vs, h, v, hv => by cases h; cases hv
  | x :: r, vs, h, v, hv => by
    cases hx : f x with
    | none => rw [alls_cons_none hx] at h; cases h
    | some u =>
      rw [alls_cons_some hx] at h
      cases hr : alls f r with
      | none => rw [hr] at h; cases h
      | some ws =>
        rw [hr] at h
        cases h
        rcases List.mem_cons.1 hv with rfl | hv
        · exact ⟨x, List.mem_cons_self .., hx⟩
        · obtain ⟨y, hy, e⟩ := alls_mem hr v hv
          exact ⟨y, List.mem_cons_of_mem _ hy, e⟩
theorem grps_lt {s : List UInt8} {vs : List Nat} (h : grps s = some vs) : ∀ v ∈ vs, v < 65536 := by
  intro v hv
  unfold grps at h
  split at h
  · cases h; cases hv
  · unfold grpFrom at h
    split at h
    · split at h
      · cases h
        obtain ⟨x, -, e⟩ := alls_mem (by assumption) v (by simpa using hv)
        exact hexw_lt e
      · cases h
    · cases h
/-- The form of what groups are read as. -/
theorem grpV_form (s : List UInt8) : ∃ (a0 a1 a2 a3 a4 a5 a6 a7 : Int) (n : Nat) (ok : Bool), grpV (grps s) = .tuple #[.agg #[.int .u16 a0, .int .u16 a1, .int .u16 a2, .int .u16 a3, .int .u16 a4, .int .u16 a5, .int .u16 a6, .int .u16 a7], .int .i64 (n : Int), .bool ok] ∧ n ≤ 8 ∧
    ((ok = false ∧ grps s = none) ∨ (ok = true ∧ ∃ vs, grps s = some vs ∧ vs.length = n ∧ pad vs = [a0, a1, a2, a3, a4, a5, a6, a7])) := by
  cases h : grps s with
  | none => exact ⟨0, 0, 0, 0, 0, 0, 0, 0, 0, false, rfl, by decide, .inl ⟨rfl, rfl⟩⟩
  | some vs =>
    have hl := grps_len h
    obtain ⟨a0, a1, a2, a3, a4, a5, a6, a7, hp⟩ := list8 (pad_len hl)
    refine ⟨a0, a1, a2, a3, a4, a5, a6, a7, vs.length, true, ?_, hl, .inr ⟨rfl, vs, rfl, rfl, hp⟩⟩
    show Value.tuple #[gval (pad vs), _, _] = _
    unfold gval
    rw [hp]; rfl
theorem grps_form (s : ByteArray) (hs : s.size < 4294967281) {v : Value} (hv : grpV (grps s.data.toList) = v) (w : World) (hE : Env w) :
    Calls Tryz.prog 56 #[.string s] w fun e w' => e = .returned v ∧ Below w.heap.size w w' := by
  subst hv; exact grps_any s hs w hE
/-- Groups with the last ones laid over the end. -/
theorem six_splice {f b : List Nat} (h : f.length + b.length ≤ 8) : splice ((pad f).map (Value.int .u16)) (8 - b.length) ((b.map Int.ofNat).map (Value.int .u16)) = (((f ++ List.replicate (8 - f.length - b.length) 0 ++ b).map Int.ofNat).map (Value.int .u16)) := by
  have k1 : (pad f).take (8 - b.length) = f.map Int.ofNat ++ List.replicate (8 - f.length - b.length) 0 := by
    unfold pad
    rw [List.take_append, List.take_of_length_le (by simp; omega), List.take_replicate]
    congr 2
    simp
    omega
  unfold splice
  rw [← List.map_take, k1, List.drop_eq_nil_of_le (by simp [pad]; omega), List.append_nil]
  simp
theorem slice8_l (w : World) (g l : Nat) (L : Int) (e : L = l) (h0 : l < 8) :
    (Instr.sliceAt 75 (.pointer (some ⟨g, 0, none⟩)) (some (.int .i64 L)) none none).run Tryz.prog w = .ok (.slice (some ⟨g, l, none⟩) (8 - l) (8 - l)) w := by
  subst e
  have e8 : Tryz.prog.arrayLen 75 = 8 := by kernel_rfl
  have es : (sizeOf (Tryz.prog.elem 75)).run Tryz.prog w = .ok 1 w := by kernel_rfl
  rw [run_sliceAt_array_l w 75 ⟨g, 0, none⟩ (by rw [e8]; kernel_rfl) .i64 l (by omega) (by rw [e8]; omega), es, e8]
  show Result.ok (slicedAt _ _ _ _ _) _ = _
  unfold slicedAt
  rw [if_neg (by simp; omega), addr_add]
  simp
theorem slice8_8 (w : World) (g : Nat) :
    (Instr.sliceAt 75 (.pointer (some ⟨g, 0, none⟩)) (some (.int .i64 8)) none none).run Tryz.prog w = .ok (.slice (some ⟨g, 0, none⟩) 0 0) w := by
  have e8 : Tryz.prog.arrayLen 75 = 8 := by kernel_rfl
  have es : (sizeOf (Tryz.prog.elem 75)).run Tryz.prog w = .ok 1 w := by kernel_rfl
  rw [run_sliceAt_array_l w 75 ⟨g, 0, none⟩ (by rw [e8]; kernel_rfl) .i64 8 (by omega) (by rw [e8]; omega), es, e8]
  rfl
theorem slice8_any (g m : Nat) (hm : m ≤ 8) : ∃ l : Nat, (0 < m → l = 8 - m) ∧ ∀ w : World, (Instr.sliceAt 75 (.pointer (some ⟨g, 0, none⟩)) (some (.int .i64 (8 - (m : Int)))) none none).run Tryz.prog w = .ok (.slice (some ⟨g, l, none⟩) m m) w := by
  by_cases h0 : m = 0
  · subst h0
    exact ⟨0, fun h => by omega, fun w => slice8_8 w g⟩
  · refine ⟨8 - m, fun _ => rfl, fun w => ?_⟩
    have h := slice8_l w g (8 - m) (8 - (m : Int)) (by omega) (by omega)
    rwa [show 8 - (8 - m) = m by omega] at h
theorem Blk.at16 {w : World} {g : Nat} {t : TypeId} {zs : List Int} (h : Blk w g t ((zs.map (Value.int .u16)).toArray)) {bs : List Int} {n : Nat} (hb : zs.take n = bs) : ∀ j v, (bs.map (Value.int .u16))[j]? = some v → w.cell? (Addr.add ⟨g, 0, none⟩ j) = some v := by
  intro j v hv
  subst hb
  rw [addr_add, h.cell, Nat.zero_add]
  rw [List.getElem?_map] at hv
  obtain ⟨z, hz, rfl⟩ := Option.map_eq_some_iff.1 hv
  rw [List.getElem?_take] at hz
  split at hz
  · simp [hz]
  · cases hz
theorem pad_take (vs : List Nat) (h : vs.length ≤ 8) : (pad vs).take vs.length = vs.map Int.ofNat := by
  unfold pad
  rw [List.take_append_of_le_length (by simp), List.take_of_length_le (by simp)]
theorem u16_oneCell {zs : List Int} : ∀ u ∈ zs.map (Value.int .u16), u.oneCell' = true := ints_oneCell .u16 zs
theorem slice8_h (w : World) (g m : Nat) (hm : m ≤ 8) :
    (Instr.sliceAt 75 (.pointer (some ⟨g, 0, none⟩)) none (some (.int .i64 (m : Int))) none).run Tryz.prog w = .ok (.slice (some ⟨g, 0, none⟩) m 8) w := by
  have e8 : Tryz.prog.arrayLen 75 = 8 := by kernel_rfl
  have es : (sizeOf (Tryz.prog.elem 75)).run Tryz.prog w = .ok 1 w := by kernel_rfl
  rw [run_sliceAt_array_h w 75 ⟨g, 0, none⟩ (by rw [e8]; kernel_rfl) .i64 m (by omega) (by rw [e8]; omega), es, e8]
  show Result.ok (slicedAt _ _ _ _ _) _ = _
  unfold slicedAt
  rw [addr_add]
  split <;> simp

set_option maxRecDepth 100000 in
set_option maxHeartbeats 4000000 in
theorem six_any (s : ByteArray) (hs : s.size < 4294967281) (w : World) (hE : Env w) :
    Calls Tryz.prog 35 #[.string s] w fun e w' => e = .returned (sixV (six s.data.toList)) ∧ Below w.heap.size w w' := by
  obtain ⟨V, hV⟩ : ∃ V, sixV (six s.data.toList) = V := ⟨_, rfl⟩
  rw [hV]
  have HV := Lib.hid hV
  clear hV
  have hcut := cut_any s ⟨#[58, 58]⟩ _ (hE.alloc (.cells #[.bool false, .int .u64 0, .int .u64 0] 24)) hs
  obtain ⟨F, B, short, hc⟩ : ∃ F B short, Lib.cut s.data.toList [58, 58] = (F, B, short) := ⟨_, _, _, rfl⟩
  rw [show (⟨#[58, 58]⟩ : ByteArray).data.toList = [58, 58] from rfl, hc] at hcut
  have hFl : F.length ≤ s.size ∧ B.length ≤ s.size := by
    rw [Lib.size_eq]
    unfold Lib.cut at hc
    split at hc <;> cases hc <;> simp
    omega
  have HC := Lib.hid hcut
  have HB0 : Hid (short = false → B = []) := Lib.hid (by
    intro e; subst e
    unfold Lib.cut at hc
    split at hc
    · cases hc
    · cases hc; rfl)
  have hsix : six s.data.toList = match grps F, grps B with
    | some f, some b => if short = decide (f.length + b.length < 8) then some (f ++ List.replicate (8 - f.length - b.length) 0 ++ b) else none
    | _, _ => none := by simp only [six, hc]; cases grps F <;> cases grps B <;> rfl
  clear hcut
  obtain ⟨a0, a1, a2, a3, a4, a5, a6, a7, n, ok1, hg1, hn8, hk1⟩ := grpV_form F
  obtain ⟨b0, b1, b2, b3, b4, b5, b6, b7, m, ok2, hg2, hm8, hk2⟩ := grpV_form B
  have eF : (⟨F.toArray⟩ : ByteArray).data.toList = F := by simp
  have eB : (⟨B.toArray⟩ : ByteArray).data.toList = B := by simp
  have hv1 := hg1
  rw [← eF] at hv1
  have hv2 := hg2
  rw [← eB] at hv2
  have G1 := Lib.hid (fun W hW => grps_form ⟨F.toArray⟩ (by rw [Lib.size_eq, eF]; omega) hv1 W hW)
  have G2 := Lib.hid (fun W hW => grps_form ⟨B.toArray⟩ (by rw [Lib.size_eq, eB]; omega) hv2 W hW)
  have HS := Lib.hid hsix
  have K1 := Lib.hid hk1
  have K2 := Lib.hid hk2
  have n0 : (0 : Int) ≤ (n : Int) := by omega
  have n8 : (n : Int) ≤ 8 := by omega
  have m0 : (0 : Int) ≤ (m : Int) := by omega
  have m8 : (m : Int) ≤ 8 := by omega
  have HN8 := Lib.hid hn8
  have HM8 := Lib.hid hm8
  clear hv1 hv2 hsix hk1 hk2 hg1 hg2 hc hFl eF eB hn8 hm8 hs
  cases ok1
  · have HN : Hid (sixV none = V) := Lib.hid (by rw [← HV.out, HS.out, (K1.out.resolve_right (by simp)).2])
    clear HS K1 K2
    go_enter Tryz.func35, Tryz.ntmps35
    go_wp2_with fail
    refine Calls.mono HC.out ?_
    rintro e w1 ⟨rfl, hb⟩
    have R1 := Lib.hid ((Blk.new w 24 _).below hb (by simp only [World.size_alloc]; omega))
    have L1 := Lib.hid (((Below.refl _ w).alloc (Nat.le_refl _) _).trans (hb.mono (by simp only [World.size_alloc]; omega)))
    have hs1 : w.heap.size < w1.heap.size := by have := hb.size; simp only [World.size_alloc] at this; omega
    have E1 := (hE.alloc _).below hb
    clear hb
    have H1 := Lib.hid (G1.out w1 E1)
    go_wp2_with fail
    refine Calls.mono H1.out ?_
    rintro e w2 ⟨rfl, hb⟩
    have R2 := Lib.hid (R1.out.below hb hs1)
    have L2 := Lib.hid (L1.out.trans (hb.mono L1.out.size))
    have hs2 : w.heap.size < w2.heap.size := by have := hb.size; omega
    have E2 := (E1.below hb).alloc (.cells #[.int .u16 a0, .int .u16 a1, .int .u16 a2, .int .u16 a3, .int .u16 a4, .int .u16 a5, .int .u16 a6, .int .u16 a7] 75)
    clear hb E1
    have H2 := Lib.hid (G2.out _ E2)
    go_wp2_with fail
    refine Calls.mono H2.out ?_
    rintro e w3 ⟨rfl, hb⟩
    have R3 := Lib.hid ((R2.out.alloc _).below hb (by simp only [World.size_alloc]; omega))
    have L3 := Lib.hid ((L2.out.alloc (by omega) _).trans (hb.mono (by simp only [World.size_alloc]; omega)))
    have X3 := Lib.hid ((Blk.new w2 75 _).below hb (by simp only [World.size_alloc]; omega))
    have hs3 : w2.heap.size < w3.heap.size := by have := hb.size; simp only [World.size_alloc] at this; omega
    clear hb E2
    obtain ⟨g1, g2, g3⟩ := Blk.c3 R3.out
    have z1 := R3.out.frozen 0
    have z2 := R3.out.frozen 1
    have z3 := R3.out.frozen 2
    have hlt0 : w.heap.size < w3.heap.size := by omega
    have hlt1 : w2.heap.size < w3.heap.size := hs3
    have Q := (((R3.out.set_ 0 (.bool false)).set_ 1 (.int .u64 0)).set_ 2 (.int .u64 0)).alloc (.cells #[.int .u16 b0, .int .u16 b1, .int .u16 b2, .int .u16 b3, .int .u16 b4, .int .u16 b5, .int .u16 b6, .int .u16 b7] 75)
    have Q2 := Lib.hid (show Blk _ _ _ #[.bool false, .int .u64 0, .int .u64 0] from Q)
    clear Q
    go_wp2
    try any_goals (exfalso; omega)
    obtain ⟨q1, q2, q3⟩ := Q2.out.c3
    exact bodyPost_ret (v := .tuple #[adr false 0 0, .int .i64 20]) (by simp [results, Tryz.results35, go_sem, q1, q2, q3]) rfl ⟨by rw [← HN.out]; rfl, (((L3.out.setCell (p := ⟨_, _, _⟩) (Nat.le_refl _) _).setCell (p := ⟨_, _, _⟩) (Nat.le_refl _) _).setCell (p := ⟨_, _, _⟩) (Nat.le_refl _) _).alloc (by simp; omega) _⟩
  · cases ok2
    · have HN : Hid (sixV none = V) := Lib.hid (by rw [← HV.out, HS.out, (K2.out.resolve_right (by simp)).2]; cases grps F <;> rfl)
      clear HS K1 K2
      go_enter Tryz.func35, Tryz.ntmps35
      go_wp2_with fail
      refine Calls.mono HC.out ?_
      rintro e w1 ⟨rfl, hb⟩
      have R1 := Lib.hid ((Blk.new w 24 _).below hb (by simp only [World.size_alloc]; omega))
      have L1 := Lib.hid (((Below.refl _ w).alloc (Nat.le_refl _) _).trans (hb.mono (by simp only [World.size_alloc]; omega)))
      have hs1 : w.heap.size < w1.heap.size := by have := hb.size; simp only [World.size_alloc] at this; omega
      have E1 := (hE.alloc _).below hb
      clear hb
      have H1 := Lib.hid (G1.out w1 E1)
      go_wp2_with fail
      refine Calls.mono H1.out ?_
      rintro e w2 ⟨rfl, hb⟩
      have R2 := Lib.hid (R1.out.below hb hs1)
      have L2 := Lib.hid (L1.out.trans (hb.mono L1.out.size))
      have hs2 : w.heap.size < w2.heap.size := by have := hb.size; omega
      have E2 := (E1.below hb).alloc (.cells #[.int .u16 a0, .int .u16 a1, .int .u16 a2, .int .u16 a3, .int .u16 a4, .int .u16 a5, .int .u16 a6, .int .u16 a7] 75)
      clear hb E1
      have H2 := Lib.hid (G2.out _ E2)
      go_wp2_with fail
      refine Calls.mono H2.out ?_
      rintro e w3 ⟨rfl, hb⟩
      have R3 := Lib.hid ((R2.out.alloc _).below hb (by simp only [World.size_alloc]; omega))
      have L3 := Lib.hid ((L2.out.alloc (by omega) _).trans (hb.mono (by simp only [World.size_alloc]; omega)))
      have X3 := Lib.hid ((Blk.new w2 75 _).below hb (by simp only [World.size_alloc]; omega))
      have hs3 : w2.heap.size < w3.heap.size := by have := hb.size; simp only [World.size_alloc] at this; omega
      clear hb E2
      obtain ⟨g1, g2, g3⟩ := Blk.c3 R3.out
      have z1 := R3.out.frozen 0
      have z2 := R3.out.frozen 1
      have z3 := R3.out.frozen 2
      have hlt0 : w.heap.size < w3.heap.size := by omega
      have hlt1 : w2.heap.size < w3.heap.size := hs3
      have Q := (((R3.out.set_ 0 (.bool false)).set_ 1 (.int .u64 0)).set_ 2 (.int .u64 0)).alloc (.cells #[.int .u16 b0, .int .u16 b1, .int .u16 b2, .int .u16 b3, .int .u16 b4, .int .u16 b5, .int .u16 b6, .int .u16 b7] 75)
      have Q2 := Lib.hid (show Blk _ _ _ #[.bool false, .int .u64 0, .int .u64 0] from Q)
      clear Q
      go_wp2
      try any_goals (exfalso; omega)
      obtain ⟨q1, q2, q3⟩ := Q2.out.c3
      exact bodyPost_ret (v := .tuple #[adr false 0 0, .int .i64 20]) (by simp [results, Tryz.results35, go_sem, q1, q2, q3]) rfl ⟨by rw [← HN.out]; rfl, (((L3.out.setCell (p := ⟨_, _, _⟩) (Nat.le_refl _) _).setCell (p := ⟨_, _, _⟩) (Nat.le_refl _) _).setCell (p := ⟨_, _, _⟩) (Nat.le_refl _) _).alloc (by simp; omega) _⟩
    · obtain ⟨-, f, hf, hfn, hfp⟩ := K1.out.resolve_left (by simp)
      obtain ⟨-, b, hb_, hbn, hbp⟩ := K2.out.resolve_left (by simp)
      have HX : Hid (six s.data.toList = if short = decide (f.length + b.length < 8) then some (f ++ List.replicate (8 - f.length - b.length) 0 ++ b) else none) := Lib.hid (by rw [HS.out, hf, hb_])
      have hm0 : short = false → b.length = 0 := fun e => by rw [HB0.out e] at hb_; cases hb_; rfl
      have HFP := Lib.hid hfp
      have HBP := Lib.hid hbp
      have hfl := grps_lt hf
      have hbl := grps_lt hb_
      subst hfn hbn
      have HFL := Lib.hid hfl
      have HBL := Lib.hid hbl
      clear HS K1 K2 hf hb_ hfp hbp hfl hbl
      cases short
      · by_cases hc8 : f.length + b.length < 8
        · skip
          have h8 :  (f.length : Int) + (b.length : Int) < 8 := by omega
          have hq : decide ((f.length : Int) + (b.length : Int) < 8) = true := by simp; omega
          have HN : Hid (sixV none = V) := Lib.hid (by rw [← HV.out, HX.out, if_neg (by simp; omega)])
          clear HX hc8 hm0
          go_enter Tryz.func35, Tryz.ntmps35
          go_wp2_with fail
          refine Calls.mono HC.out ?_
          rintro e w1 ⟨rfl, hb⟩
          have R1 := Lib.hid ((Blk.new w 24 _).below hb (by simp only [World.size_alloc]; omega))
          have L1 := Lib.hid (((Below.refl _ w).alloc (Nat.le_refl _) _).trans (hb.mono (by simp only [World.size_alloc]; omega)))
          have hs1 : w.heap.size < w1.heap.size := by have := hb.size; simp only [World.size_alloc] at this; omega
          have E1 := (hE.alloc _).below hb
          clear hb
          have H1 := Lib.hid (G1.out w1 E1)
          go_wp2_with fail
          refine Calls.mono H1.out ?_
          rintro e w2 ⟨rfl, hb⟩
          have R2 := Lib.hid (R1.out.below hb hs1)
          have L2 := Lib.hid (L1.out.trans (hb.mono L1.out.size))
          have hs2 : w.heap.size < w2.heap.size := by have := hb.size; omega
          have E2 := (E1.below hb).alloc (.cells #[.int .u16 a0, .int .u16 a1, .int .u16 a2, .int .u16 a3, .int .u16 a4, .int .u16 a5, .int .u16 a6, .int .u16 a7] 75)
          clear hb E1
          have H2 := Lib.hid (G2.out _ E2)
          go_wp2_with fail
          refine Calls.mono H2.out ?_
          rintro e w3 ⟨rfl, hb⟩
          have R3 := Lib.hid ((R2.out.alloc _).below hb (by simp only [World.size_alloc]; omega))
          have L3 := Lib.hid ((L2.out.alloc (by omega) _).trans (hb.mono (by simp only [World.size_alloc]; omega)))
          have X3 := Lib.hid ((Blk.new w2 75 _).below hb (by simp only [World.size_alloc]; omega))
          have hs3 : w2.heap.size < w3.heap.size := by have := hb.size; simp only [World.size_alloc] at this; omega
          clear hb E2
          obtain ⟨g1, g2, g3⟩ := Blk.c3 R3.out
          have z1 := R3.out.frozen 0
          have z2 := R3.out.frozen 1
          have z3 := R3.out.frozen 2
          have hlt0 : w.heap.size < w3.heap.size := by omega
          have hlt1 : w2.heap.size < w3.heap.size := hs3
          have Q := (((R3.out.set_ 0 (.bool false)).set_ 1 (.int .u64 0)).set_ 2 (.int .u64 0)).alloc (.cells #[.int .u16 b0, .int .u16 b1, .int .u16 b2, .int .u16 b3, .int .u16 b4, .int .u16 b5, .int .u16 b6, .int .u16 b7] 75)
          have Q2 := Lib.hid (show Blk _ _ _ #[.bool false, .int .u64 0, .int .u64 0] from Q)
          clear Q
          go_wp2
          try any_goals (exfalso; omega)
          obtain ⟨q1, q2, q3⟩ := Q2.out.c3
          exact bodyPost_ret (v := .tuple #[adr false 0 0, .int .i64 20]) (by simp [results, Tryz.results35, go_sem, q1, q2, q3]) rfl ⟨by rw [← HN.out]; rfl, (((L3.out.setCell (p := ⟨_, _, _⟩) (Nat.le_refl _) _).setCell (p := ⟨_, _, _⟩) (Nat.le_refl _) _).setCell (p := ⟨_, _, _⟩) (Nat.le_refl _) _).alloc (by simp; omega) _⟩
        · skip
          have h8 : ¬ (f.length : Int) + (b.length : Int) < 8 := by omega
          have hq : decide ((f.length : Int) + (b.length : Int) < 8) = false := by simp; omega
          have HN : Hid (sixV (some (f ++ List.replicate (8 - f.length - b.length) 0 ++ b)) = V) := Lib.hid (by rw [← HV.out, HX.out, if_pos (by simp; omega)])
          have h9 : f.length + b.length ≤ 8 := by have := hm0 rfl; have := HN8.out; omega
          clear HX hc8 hm0
          have H9 := Lib.hid h9
          clear h9
          go_enter Tryz.func35, Tryz.ntmps35
          go_wp2_with fail
          refine Calls.mono HC.out ?_
          rintro e w1 ⟨rfl, hb⟩
          have R1 := Lib.hid ((Blk.new w 24 _).below hb (by simp only [World.size_alloc]; omega))
          have L1 := Lib.hid (((Below.refl _ w).alloc (Nat.le_refl _) _).trans (hb.mono (by simp only [World.size_alloc]; omega)))
          have hs1 : w.heap.size < w1.heap.size := by have := hb.size; simp only [World.size_alloc] at this; omega
          have E1 := (hE.alloc _).below hb
          clear hb
          have H1 := Lib.hid (G1.out w1 E1)
          go_wp2_with fail
          refine Calls.mono H1.out ?_
          rintro e w2 ⟨rfl, hb⟩
          have R2 := Lib.hid (R1.out.below hb hs1)
          have L2 := Lib.hid (L1.out.trans (hb.mono L1.out.size))
          have hs2 : w.heap.size < w2.heap.size := by have := hb.size; omega
          have E2 := (E1.below hb).alloc (.cells #[.int .u16 a0, .int .u16 a1, .int .u16 a2, .int .u16 a3, .int .u16 a4, .int .u16 a5, .int .u16 a6, .int .u16 a7] 75)
          clear hb E1
          have H2 := Lib.hid (G2.out _ E2)
          go_wp2_with fail
          refine Calls.mono H2.out ?_
          rintro e w3 ⟨rfl, hb⟩
          have R3 := Lib.hid ((R2.out.alloc _).below hb (by simp only [World.size_alloc]; omega))
          have L3 := Lib.hid ((L2.out.alloc (by omega) _).trans (hb.mono (by simp only [World.size_alloc]; omega)))
          have X3 := Lib.hid ((Blk.new w2 75 _).below hb (by simp only [World.size_alloc]; omega))
          have hs3 : w2.heap.size < w3.heap.size := by have := hb.size; simp only [World.size_alloc] at this; omega
          clear hb E2
          have hlt0 : w.heap.size < w3.heap.size := by omega
          go_wp2_with fail
          all_goals
            have Y3 := Lib.hid (Blk.new w3 75 #[.int .u16 b0, .int .u16 b1, .int .u16 b2, .int .u16 b3, .int .u16 b4, .int .u16 b5, .int .u16 b6, .int .u16 b7])
            have X4 := Lib.hid (X3.out.alloc (.cells #[.int .u16 b0, .int .u16 b1, .int .u16 b2, .int .u16 b3, .int .u16 b4, .int .u16 b5, .int .u16 b6, .int .u16 b7] 75))
            have R4 := Lib.hid (R3.out.alloc (.cells #[.int .u16 b0, .int .u16 b1, .int .u16 b2, .int .u16 b3, .int .u16 b4, .int .u16 b5, .int .u16 b6, .int .u16 b7] 75))
            have L4 := Lib.hid (L3.out.alloc (by omega) (.cells #[.int .u16 b0, .int .u16 b1, .int .u16 b2, .int .u16 b3, .int .u16 b4, .int .u16 b5, .int .u16 b6, .int .u16 b7] 75))
            have hz4 : w2.heap.size ≤ (w3.alloc (.cells #[.int .u16 b0, .int .u16 b1, .int .u16 b2, .int .u16 b3, .int .u16 b4, .int .u16 b5, .int .u16 b6, .int .u16 b7] 75)).heap.size := by simp only [World.size_alloc]; omega
            generalize w3.alloc (.cells #[.int .u16 b0, .int .u16 b1, .int .u16 b2, .int .u16 b3, .int .u16 b4, .int .u16 b5, .int .u16 b6, .int .u16 b7] 75) = w4 at Y3 X4 R4 L4 hz4 ⊢
            have HG : Hid (w4.drew.heap[w2.heap.size]? = some (.cells ((pad f).map (Value.int .u16)).toArray 75 (0, 0))) := Lib.hid (by rw [HFP.out]; exact X4.out.drew)
            have HY : Hid (Blk w4.drew w3.heap.size 75 (((pad b).map (Value.int .u16)).toArray)) := Lib.hid (by rw [HBP.out]; exact Y3.out.drew)
            clear X4 Y3
            obtain ⟨l, hl, hsl⟩ := slice8_any w2.heap.size b.length HM8.out
            have hs1 := hsl w4
            have hs2' := slice8_h w4 w3.heap.size b.length HM8.out
            have hs3' := hsl w4.drew
            have hs4' := slice8_h w4.drew w3.heap.size b.length HM8.out
            have C1 : Hid (((b.map Int.ofNat).map (Value.int .u16)).length = Nat.min b.length b.length) := Lib.hid (by simp)
            have C2 : Hid (0 < ((b.map Int.ofNat).map (Value.int .u16)).length → some (⟨w2.heap.size, l, none⟩ : Addr) = some ⟨w2.heap.size, 8 - b.length, none⟩ ∧ ∃ ad, some (⟨w3.heap.size, 0, none⟩ : Addr) = some ad ∧ ∀ j v, ((b.map Int.ofNat).map (Value.int .u16))[j]? = some v → w4.drew.cell? (ad.add j) = some v) := Lib.hid (by
              intro h0
              refine ⟨by rw [hl (by simpa using h0)], _, rfl, Blk.at16 HY.out (pad_take b HM8.out)⟩)
            have C3 : Hid (8 - b.length + ((b.map Int.ofNat).map (Value.int .u16)).length ≤ ((pad f).map (Value.int .u16)).length) := Lib.hid (by have := HM8.out; rw [List.length_map, List.length_map, List.length_map, pad_len HN8.out]; omega)
            have hw8 : IntKind.i64.wrap (8 - (b.length : Int)) = 8 - (b.length : Int) := by rw [IntKind.wrap_i64]; omega
            have HSL := Lib.hid hsl
            clear hsl hl
            go_still_tail 5, (by kernel_rfl)
            refine (wpList_copy_splice rfl (.tmp 47) (.tmp 49) 80 80 rfl 73 Tryz.underlying80 (by kernel_rfl) _ _ _ _ _ _ rfl rfl w2.heap.size (8 - b.length) ((pad f).map (Value.int .u16)) 75 HG.out ((b.map Int.ofNat).map (Value.int .u16)) C1.out C2.out C3.out u16_oneCell w2.heap.size w4.drew (Below.refl _ _) (Nat.le_refl _) ?_)
            intro w5 hg5 hb5
            have h5 := hg5.out
            rw [six_splice H9.out] at h5
            obtain ⟨vs, hvs⟩ : ∃ vs, vs = f ++ List.replicate (8 - f.length - b.length) 0 ++ b := ⟨_, rfl⟩
            have hvl : (vs.map Int.ofNat).length = 8 := by rw [hvs]; have := H9.out; simp; omega
            have hvb : ∀ z ∈ vs.map Int.ofNat, U2 z := by
              intro z hz
              obtain ⟨u, hu, rfl⟩ := List.mem_map.1 hz
              have : u < 65536 := by
                rw [hvs] at hu
                rcases List.mem_append.1 hu with hu | hu
                · rcases List.mem_append.1 hu with hu | hu
                  · exact HFL.out u hu
                  · rw [List.mem_replicate] at hu; omega
                · exact HBL.out u hu
              exact ⟨by simp, by simp; omega⟩
            rw [← hvs] at h5 HN
            obtain ⟨c0, c1, c2, c3, c4, c5, c6, c7, hc⟩ := list8 hvl
            rw [hc] at h5 hvb
            have HO := Lib.hid (gaddr_any c0 c1 c2 c3 c4 c5 c6 c7 (hvb _ (by simp)) (hvb _ (by simp)) (hvb _ (by simp)) (hvb _ (by simp)) (hvb _ (by simp)) (hvb _ (by simp)) (hvb _ (by simp)) (hvb _ (by simp)) w5)
            have HC8 := Lib.hid hc
            have B5 : Blk w5 w2.heap.size 75 #[.int .u16 c0, .int .u16 c1, .int .u16 c2, .int .u16 c3, .int .u16 c4, .int .u16 c5, .int .u16 c6, .int .u16 c7] := h5
            obtain ⟨y0, y1, y2, y3, y4, y5, y6, y7⟩ := B5.c8
            have R5 := Lib.hid (R4.out.drew.below hb5 hs2)
            have L5 := Lib.hid (L4.out.drew.trans (hb5.mono (by omega)))
            have hz5 : w.heap.size < w5.heap.size := by have := hb5.size; have : w4.drew.heap.size = w4.heap.size := rfl; omega
            clear hg5 hb5 h5 hvs hvl hvb hc B5
            go_wp2_with fail
            refine Calls.mono HO.out ?_
            rintro e w6 ⟨rfl, hb⟩
            have R6 := R5.out.below hb hz5
            have L6 := Lib.hid (L5.out.trans (hb.mono L5.out.size))
            obtain ⟨g1, g2, g3⟩ := R6.c3
            have z1 := R6.frozen 0
            have z2 := R6.frozen 1
            have z3 := R6.frozen 2
            clear hb R6
            go_wp2
            exact bodyPost_ret (v := .tuple #[adr true (n4 c0 c1 c2 c3) (n4 c4 c5 c6 c7), .int .i64 0]) (by simp [results, Tryz.results35, go_sem, g1, g2, g3]) rfl ⟨by rw [← HN.out]; show _ = Ending.returned (.tuple #[adrOf (vs.map Int.ofNat), .int .i64 0]); rw [HC8.out]; rfl, ((L6.out.setCell (p := ⟨_, _, _⟩) (Nat.le_refl _) _).setCell (p := ⟨_, _, _⟩) (Nat.le_refl _) _).setCell (p := ⟨_, _, _⟩) (Nat.le_refl _) _⟩
      · by_cases hc8 : f.length + b.length < 8
        · skip
          have h8 :  (f.length : Int) + (b.length : Int) < 8 := by omega
          have hq : decide ((f.length : Int) + (b.length : Int) < 8) = true := by simp; omega
          have HN : Hid (sixV (some (f ++ List.replicate (8 - f.length - b.length) 0 ++ b)) = V) := Lib.hid (by rw [← HV.out, HX.out, if_pos (by simp; omega)])
          have h9 : f.length + b.length ≤ 8 := by omega
          clear HX hc8 hm0
          have H9 := Lib.hid h9
          clear h9
          go_enter Tryz.func35, Tryz.ntmps35
          go_wp2_with fail
          refine Calls.mono HC.out ?_
          rintro e w1 ⟨rfl, hb⟩
          have R1 := Lib.hid ((Blk.new w 24 _).below hb (by simp only [World.size_alloc]; omega))
          have L1 := Lib.hid (((Below.refl _ w).alloc (Nat.le_refl _) _).trans (hb.mono (by simp only [World.size_alloc]; omega)))
          have hs1 : w.heap.size < w1.heap.size := by have := hb.size; simp only [World.size_alloc] at this; omega
          have E1 := (hE.alloc _).below hb
          clear hb
          have H1 := Lib.hid (G1.out w1 E1)
          go_wp2_with fail
          refine Calls.mono H1.out ?_
          rintro e w2 ⟨rfl, hb⟩
          have R2 := Lib.hid (R1.out.below hb hs1)
          have L2 := Lib.hid (L1.out.trans (hb.mono L1.out.size))
          have hs2 : w.heap.size < w2.heap.size := by have := hb.size; omega
          have E2 := (E1.below hb).alloc (.cells #[.int .u16 a0, .int .u16 a1, .int .u16 a2, .int .u16 a3, .int .u16 a4, .int .u16 a5, .int .u16 a6, .int .u16 a7] 75)
          clear hb E1
          have H2 := Lib.hid (G2.out _ E2)
          go_wp2_with fail
          refine Calls.mono H2.out ?_
          rintro e w3 ⟨rfl, hb⟩
          have R3 := Lib.hid ((R2.out.alloc _).below hb (by simp only [World.size_alloc]; omega))
          have L3 := Lib.hid ((L2.out.alloc (by omega) _).trans (hb.mono (by simp only [World.size_alloc]; omega)))
          have X3 := Lib.hid ((Blk.new w2 75 _).below hb (by simp only [World.size_alloc]; omega))
          have hs3 : w2.heap.size < w3.heap.size := by have := hb.size; simp only [World.size_alloc] at this; omega
          clear hb E2
          have hlt0 : w.heap.size < w3.heap.size := by omega
          go_wp2_with fail
          all_goals
            have Y3 := Lib.hid (Blk.new w3 75 #[.int .u16 b0, .int .u16 b1, .int .u16 b2, .int .u16 b3, .int .u16 b4, .int .u16 b5, .int .u16 b6, .int .u16 b7])
            have X4 := Lib.hid (X3.out.alloc (.cells #[.int .u16 b0, .int .u16 b1, .int .u16 b2, .int .u16 b3, .int .u16 b4, .int .u16 b5, .int .u16 b6, .int .u16 b7] 75))
            have R4 := Lib.hid (R3.out.alloc (.cells #[.int .u16 b0, .int .u16 b1, .int .u16 b2, .int .u16 b3, .int .u16 b4, .int .u16 b5, .int .u16 b6, .int .u16 b7] 75))
            have L4 := Lib.hid (L3.out.alloc (by omega) (.cells #[.int .u16 b0, .int .u16 b1, .int .u16 b2, .int .u16 b3, .int .u16 b4, .int .u16 b5, .int .u16 b6, .int .u16 b7] 75))
            have hz4 : w2.heap.size ≤ (w3.alloc (.cells #[.int .u16 b0, .int .u16 b1, .int .u16 b2, .int .u16 b3, .int .u16 b4, .int .u16 b5, .int .u16 b6, .int .u16 b7] 75)).heap.size := by simp only [World.size_alloc]; omega
            generalize w3.alloc (.cells #[.int .u16 b0, .int .u16 b1, .int .u16 b2, .int .u16 b3, .int .u16 b4, .int .u16 b5, .int .u16 b6, .int .u16 b7] 75) = w4 at Y3 X4 R4 L4 hz4 ⊢
            have HG : Hid (w4.drew.heap[w2.heap.size]? = some (.cells ((pad f).map (Value.int .u16)).toArray 75 (0, 0))) := Lib.hid (by rw [HFP.out]; exact X4.out.drew)
            have HY : Hid (Blk w4.drew w3.heap.size 75 (((pad b).map (Value.int .u16)).toArray)) := Lib.hid (by rw [HBP.out]; exact Y3.out.drew)
            clear X4 Y3
            obtain ⟨l, hl, hsl⟩ := slice8_any w2.heap.size b.length HM8.out
            have hs1 := hsl w4
            have hs2' := slice8_h w4 w3.heap.size b.length HM8.out
            have hs3' := hsl w4.drew
            have hs4' := slice8_h w4.drew w3.heap.size b.length HM8.out
            have C1 : Hid (((b.map Int.ofNat).map (Value.int .u16)).length = Nat.min b.length b.length) := Lib.hid (by simp)
            have C2 : Hid (0 < ((b.map Int.ofNat).map (Value.int .u16)).length → some (⟨w2.heap.size, l, none⟩ : Addr) = some ⟨w2.heap.size, 8 - b.length, none⟩ ∧ ∃ ad, some (⟨w3.heap.size, 0, none⟩ : Addr) = some ad ∧ ∀ j v, ((b.map Int.ofNat).map (Value.int .u16))[j]? = some v → w4.drew.cell? (ad.add j) = some v) := Lib.hid (by
              intro h0
              refine ⟨by rw [hl (by simpa using h0)], _, rfl, Blk.at16 HY.out (pad_take b HM8.out)⟩)
            have C3 : Hid (8 - b.length + ((b.map Int.ofNat).map (Value.int .u16)).length ≤ ((pad f).map (Value.int .u16)).length) := Lib.hid (by have := HM8.out; rw [List.length_map, List.length_map, List.length_map, pad_len HN8.out]; omega)
            have hw8 : IntKind.i64.wrap (8 - (b.length : Int)) = 8 - (b.length : Int) := by rw [IntKind.wrap_i64]; omega
            have HSL := Lib.hid hsl
            clear hsl hl
            go_still_tail 5, (by kernel_rfl)
            refine (wpList_copy_splice rfl (.tmp 47) (.tmp 49) 80 80 rfl 73 Tryz.underlying80 (by kernel_rfl) _ _ _ _ _ _ rfl rfl w2.heap.size (8 - b.length) ((pad f).map (Value.int .u16)) 75 HG.out ((b.map Int.ofNat).map (Value.int .u16)) C1.out C2.out C3.out u16_oneCell w2.heap.size w4.drew (Below.refl _ _) (Nat.le_refl _) ?_)
            intro w5 hg5 hb5
            have h5 := hg5.out
            rw [six_splice H9.out] at h5
            obtain ⟨vs, hvs⟩ : ∃ vs, vs = f ++ List.replicate (8 - f.length - b.length) 0 ++ b := ⟨_, rfl⟩
            have hvl : (vs.map Int.ofNat).length = 8 := by rw [hvs]; have := H9.out; simp; omega
            have hvb : ∀ z ∈ vs.map Int.ofNat, U2 z := by
              intro z hz
              obtain ⟨u, hu, rfl⟩ := List.mem_map.1 hz
              have : u < 65536 := by
                rw [hvs] at hu
                rcases List.mem_append.1 hu with hu | hu
                · rcases List.mem_append.1 hu with hu | hu
                  · exact HFL.out u hu
                  · rw [List.mem_replicate] at hu; omega
                · exact HBL.out u hu
              exact ⟨by simp, by simp; omega⟩
            rw [← hvs] at h5 HN
            obtain ⟨c0, c1, c2, c3, c4, c5, c6, c7, hc⟩ := list8 hvl
            rw [hc] at h5 hvb
            have HO := Lib.hid (gaddr_any c0 c1 c2 c3 c4 c5 c6 c7 (hvb _ (by simp)) (hvb _ (by simp)) (hvb _ (by simp)) (hvb _ (by simp)) (hvb _ (by simp)) (hvb _ (by simp)) (hvb _ (by simp)) (hvb _ (by simp)) w5)
            have HC8 := Lib.hid hc
            have B5 : Blk w5 w2.heap.size 75 #[.int .u16 c0, .int .u16 c1, .int .u16 c2, .int .u16 c3, .int .u16 c4, .int .u16 c5, .int .u16 c6, .int .u16 c7] := h5
            obtain ⟨y0, y1, y2, y3, y4, y5, y6, y7⟩ := B5.c8
            have R5 := Lib.hid (R4.out.drew.below hb5 hs2)
            have L5 := Lib.hid (L4.out.drew.trans (hb5.mono (by omega)))
            have hz5 : w.heap.size < w5.heap.size := by have := hb5.size; have : w4.drew.heap.size = w4.heap.size := rfl; omega
            clear hg5 hb5 h5 hvs hvl hvb hc B5
            go_wp2_with fail
            refine Calls.mono HO.out ?_
            rintro e w6 ⟨rfl, hb⟩
            have R6 := R5.out.below hb hz5
            have L6 := Lib.hid (L5.out.trans (hb.mono L5.out.size))
            obtain ⟨g1, g2, g3⟩ := R6.c3
            have z1 := R6.frozen 0
            have z2 := R6.frozen 1
            have z3 := R6.frozen 2
            clear hb R6
            go_wp2
            exact bodyPost_ret (v := .tuple #[adr true (n4 c0 c1 c2 c3) (n4 c4 c5 c6 c7), .int .i64 0]) (by simp [results, Tryz.results35, go_sem, g1, g2, g3]) rfl ⟨by rw [← HN.out]; show _ = Ending.returned (.tuple #[adrOf (vs.map Int.ofNat), .int .i64 0]); rw [HC8.out]; rfl, ((L6.out.setCell (p := ⟨_, _, _⟩) (Nat.le_refl _) _).setCell (p := ⟨_, _, _⟩) (Nat.le_refl _) _).setCell (p := ⟨_, _, _⟩) (Nat.le_refl _) _⟩
        · skip
          have h8 : ¬ (f.length : Int) + (b.length : Int) < 8 := by omega
          have hq : decide ((f.length : Int) + (b.length : Int) < 8) = false := by simp; omega
          have HN : Hid (sixV none = V) := Lib.hid (by rw [← HV.out, HX.out, if_neg (by simp; omega)])
          clear HX hc8 hm0
          go_enter Tryz.func35, Tryz.ntmps35
          go_wp2_with fail
          refine Calls.mono HC.out ?_
          rintro e w1 ⟨rfl, hb⟩
          have R1 := Lib.hid ((Blk.new w 24 _).below hb (by simp only [World.size_alloc]; omega))
          have L1 := Lib.hid (((Below.refl _ w).alloc (Nat.le_refl _) _).trans (hb.mono (by simp only [World.size_alloc]; omega)))
          have hs1 : w.heap.size < w1.heap.size := by have := hb.size; simp only [World.size_alloc] at this; omega
          have E1 := (hE.alloc _).below hb
          clear hb
          have H1 := Lib.hid (G1.out w1 E1)
          go_wp2_with fail
          refine Calls.mono H1.out ?_
          rintro e w2 ⟨rfl, hb⟩
          have R2 := Lib.hid (R1.out.below hb hs1)
          have L2 := Lib.hid (L1.out.trans (hb.mono L1.out.size))
          have hs2 : w.heap.size < w2.heap.size := by have := hb.size; omega
          have E2 := (E1.below hb).alloc (.cells #[.int .u16 a0, .int .u16 a1, .int .u16 a2, .int .u16 a3, .int .u16 a4, .int .u16 a5, .int .u16 a6, .int .u16 a7] 75)
          clear hb E1
          have H2 := Lib.hid (G2.out _ E2)
          go_wp2_with fail
          refine Calls.mono H2.out ?_
          rintro e w3 ⟨rfl, hb⟩
          have R3 := Lib.hid ((R2.out.alloc _).below hb (by simp only [World.size_alloc]; omega))
          have L3 := Lib.hid ((L2.out.alloc (by omega) _).trans (hb.mono (by simp only [World.size_alloc]; omega)))
          have X3 := Lib.hid ((Blk.new w2 75 _).below hb (by simp only [World.size_alloc]; omega))
          have hs3 : w2.heap.size < w3.heap.size := by have := hb.size; simp only [World.size_alloc] at this; omega
          clear hb E2
          obtain ⟨g1, g2, g3⟩ := Blk.c3 R3.out
          have z1 := R3.out.frozen 0
          have z2 := R3.out.frozen 1
          have z3 := R3.out.frozen 2
          have hlt0 : w.heap.size < w3.heap.size := by omega
          have hlt1 : w2.heap.size < w3.heap.size := hs3
          have Q := (((R3.out.set_ 0 (.bool false)).set_ 1 (.int .u64 0)).set_ 2 (.int .u64 0)).alloc (.cells #[.int .u16 b0, .int .u16 b1, .int .u16 b2, .int .u16 b3, .int .u16 b4, .int .u16 b5, .int .u16 b6, .int .u16 b7] 75)
          have Q2 := Lib.hid (show Blk _ _ _ #[.bool false, .int .u64 0, .int .u64 0] from Q)
          clear Q
          go_wp2
          try any_goals (exfalso; omega)
          obtain ⟨q1, q2, q3⟩ := Q2.out.c3
          exact bodyPost_ret (v := .tuple #[adr false 0 0, .int .i64 20]) (by simp [results, Tryz.results35, go_sem, q1, q2, q3]) rfl ⟨by rw [← HN.out]; rfl, (((L3.out.setCell (p := ⟨_, _, _⟩) (Nat.le_refl _) _).setCell (p := ⟨_, _, _⟩) (Nat.le_refl _) _).setCell (p := ⟨_, _, _⟩) (Nat.le_refl _) _).alloc (by simp; omega) _⟩
end Go.Proofs.YtbpdnohcgojmbaaGreatDoor
