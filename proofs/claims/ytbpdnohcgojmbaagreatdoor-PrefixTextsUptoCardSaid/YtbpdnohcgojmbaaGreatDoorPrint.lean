/-
  addr.Print of any address.
-/
import Derived.Test.YtbpdnohcgojmbaaGreatDoorLong
import Derived.Test.YtbpdnohcgojmbaaGreatDoorParse
import Derived.Test.YtbpdnohcgojmbaaGreatDoorJoin
import Derived.Test.YtbpdnohcgojmbaaGreatDoorBytes
namespace Go.Proofs.YtbpdnohcgojmbaaGreatDoor
open Go.RowKit
set_option linter.unusedVariables false

/-- The groups of an address. -/
def gsOf (h l : Int) : List Int := [gr h 0, gr h 1, gr h 2, gr h 3, gr l 0, gr l 1, gr l 2, gr l 3]
/-- The shortened text of groups. -/
def prn6 (zs : List Int) : List UInt8 := if (lng zs).2 < 2 then Lib.join (zs.map d16) [58] else Lib.join ((zs.take (lng zs).1).map d16) [58] ++ [58, 58] ++ Lib.join ((zs.drop ((lng zs).1 + (lng zs).2)).map d16) [58]
/-- The text of an address. -/
def prn (s : Bool) (h l : Int) : List UInt8 := if vld s h l then (if s then prn6 (gsOf h l) else Lib.join ((putOf 4 l).map d10) [46]) else []

theorem wf_u16 {z : Int} (h : 0 ≤ z ∧ z ≤ 65535) : (Lit.int .u16 z).wf = true := by
  simp [Lit.wf, IntKind.min, IntKind.max, IntKind.bits, IntKind.signed]; omega
theorem Blk.reads16 {w : World} {g : Nat} {t : TypeId} {zs : List Int} (h : Blk w g t ((zs.map (Value.int .u16)).toArray)) (hw : ∀ z ∈ zs, 0 ≤ z ∧ z ≤ 65535) : RI .u16 w w.heap.size (some ⟨g, 0, none⟩) zs.length zs :=
  ⟨rfl, fun _ => ⟨g, 0, rfl, h.lt, fun j z hz => by rw [h.cell]; simp [hz]⟩, fun z hz => wf_u16 (hw z hz)⟩
theorem RI.from16 {w : World} {B n k g l : Nat} {zs : List Int} (h : RI .u16 w B (some ⟨g, 0, none⟩) n zs) (hk : k ≤ n) (hl : k < n → l = k) : RI .u16 w B (some ⟨g, l, none⟩) (n - k) (zs.drop k) := by
  by_cases hkn : k < n
  · have := h.post hkn
    rw [hl hkn]
    simpa using this
  · refine ⟨by have := h.1; simp; omega, fun h0 => by omega, fun z hz => h.2.2 z (List.mem_of_mem_drop hz)⟩
theorem slice8_from (g k : Nat) (hk : k ≤ 8) (L : Int) (e : L = k) : ∃ l : Nat, (k < 8 → l = k) ∧ ∀ w : World, (Instr.sliceAt 75 (.pointer (some ⟨g, 0, none⟩)) (some (.int .i64 L)) none none).run Tryz.prog w = .ok (.slice (some ⟨g, l, none⟩) (8 - k) (8 - k)) w := by
  subst e
  by_cases h0 : k = 8
  · subst h0
    exact ⟨0, fun h => by omega, fun w => slice8_8 w g⟩
  · exact ⟨k, fun _ => rfl, fun w => slice8_l w g k k rfl (by omega)⟩

set_option maxRecDepth 100000 in
set_option maxHeartbeats 4000000 in
theorem print_any (s : Bool) (h l : Int) (hh : U6 h) (hl : U6 l) (w : World) (hE : Env w) :
    Calls Tryz.prog 23 #[adr s h l] w fun e w' => e = .returned (.string ⟨(prn s h l).toArray⟩) ∧ Below w.heap.size w w' := by
  obtain ⟨V, hV⟩ : ∃ V, vld s h l = V := ⟨_, rfl⟩
  have HVa := Lib.hid (valid_at s h l (w.alloc (.cells #[.bool s, .int .u64 h, .int .u64 l] 24)) hV)
  cases V
  · have e : prn s h l = [] := by unfold prn; rw [hV]; rfl
    rw [e]
    clear hV e hh hl
    go_enter Tryz.func23, Tryz.ntmps23
    go_wp2_with fail
    refine Calls.mono HVa.out ?_
    rintro e w1 ⟨rfl, hb⟩
    have L1 := ((Below.refl _ w).alloc (Nat.le_refl _) _).trans (hb.mono (by simp only [World.size_alloc]; omega))
    clear hb
    go_wp2
    go_ret
    exact ⟨rfl, L1⟩
  · cases s
    · have e : prn false h l = Lib.join ((putOf 4 l).map d10) [46] := by unfold prn; rw [hV]; rfl
      have eb : byts false h l = putOf 4 l := by unfold byts; rw [hV]; rfl
      rw [e]
      have HBy := Lib.hid (fun W => bytes_any false h l hh hl W)
      rw [eb] at HBy
      clear hV e eb hh hl
      go_enter Tryz.func23, Tryz.ntmps23
      go_wp2_with fail
      refine Calls.mono HVa.out ?_
      rintro e w1 ⟨rfl, hb⟩
      have R1 := Lib.hid ((Blk.new w 24 _).below hb (by simp only [World.size_alloc]; omega))
      have L1 := Lib.hid (((Below.refl _ w).alloc (Nat.le_refl _) _).trans (hb.mono (by simp only [World.size_alloc]; omega)))
      have E1 := (hE.alloc _).below hb
      have hs1 : w.heap.size < w1.heap.size := by have := hb.size; simp only [World.size_alloc] at this; omega
      obtain ⟨g1, g2, g3⟩ := R1.out.c3
      clear hb
      go_wp2_with fail
      refine Calls.mono (HBy.out w1) ?_
      rintro e w2 ⟨A, c, rfl, hlc, hc, hri, -, -, hb, -⟩
      have E2 := E1.below hb
      have L2 := Lib.hid (L1.out.trans (hb.mono L1.out.size))
      have HJ := join_b w2 E2 _ A _ c _ hri (Nat.le_refl _) (by rw [putOf_len]; decide)
      have HJ' := Lib.hid HJ
      clear HJ hri hb hlc hc
      go_wp2_with fail
      refine Calls.mono HJ'.out ?_
      rintro e w3 ⟨rfl, hb⟩
      have L3 := L2.out.trans (hb.mono L2.out.size)
      clear hb
      go_wp2
      go_ret
      exact ⟨rfl, L3⟩
    · have e : prn true h l = prn6 (gsOf h l) := by unfold prn; rw [hV]; rfl
      rw [e]
      have HG := Lib.hid (fun W => groups_any true h l hh hl W)
      have hgb : ∀ z ∈ gsOf h l, 0 ≤ z ∧ z ≤ 65535 := by
        intro z hz
        simp only [gsOf, List.mem_cons, List.not_mem_nil, or_false] at hz
        rcases hz with rfl | rfl | rfl | rfl | rfl | rfl | rfl | rfl <;> exact gr_bd _ _
      have HGB := Lib.hid hgb
      have HLg := Lib.hid (fun W => longest_any (gr h 0) (gr h 1) (gr h 2) (gr h 3) (gr l 0) (gr l 1) (gr l 2) (gr l 3) W)
      clear hV e hh hl hgb
      go_enter Tryz.func23, Tryz.ntmps23
      go_wp2_with fail
      refine Calls.mono HVa.out ?_
      rintro e w1 ⟨rfl, hb⟩
      have R1 := Lib.hid ((Blk.new w 24 _).below hb (by simp only [World.size_alloc]; omega))
      have L1 := Lib.hid (((Below.refl _ w).alloc (Nat.le_refl _) _).trans (hb.mono (by simp only [World.size_alloc]; omega)))
      have E1 := (hE.alloc _).below hb
      have hs1 : w.heap.size < w1.heap.size := by have := hb.size; simp only [World.size_alloc] at this; omega
      obtain ⟨g1, g2, g3⟩ := R1.out.c3
      clear hb
      go_wp2_with fail
      refine Calls.mono (HG.out w1) ?_
      rintro e w2 ⟨rfl, hb⟩
      have E2 := (E1.below hb).alloc (.cells #[.int .u16 (gr h 0), .int .u16 (gr h 1), .int .u16 (gr h 2), .int .u16 (gr h 3), .int .u16 (gr l 0), .int .u16 (gr l 1), .int .u16 (gr l 2), .int .u16 (gr l 3)] 75)
      have L2 := Lib.hid ((L1.out.trans (hb.mono L1.out.size)).alloc (by have := hb.size; omega) (.cells #[.int .u16 (gr h 0), .int .u16 (gr h 1), .int .u16 (gr h 2), .int .u16 (gr h 3), .int .u16 (gr l 0), .int .u16 (gr l 1), .int .u16 (gr l 2), .int .u16 (gr l 3)] 75))
      clear hb g1 g2 g3
      go_wp2_with fail
      refine Calls.mono (HLg.out _) ?_
      rintro e w3 ⟨p, n, rfl, hln, hpn, hb⟩
      have G3 := Lib.hid ((Blk.new w2 75 _).below hb (by simp only [World.size_alloc]; omega))
      have E3 := E2.below hb
      have L3 := Lib.hid (L2.out.trans (hb.mono L2.out.size))
      have HP : Hid (prn6 (gsOf h l) = if n < 2 then Lib.join ((gsOf h l).map d16) [58] else Lib.join (((gsOf h l).take p).map d16) [58] ++ [58, 58] ++ Lib.join (((gsOf h l).drop (p + n)).map d16) [58]) := Lib.hid (by
        have e : lng (gsOf h l) = (p, n) := hln
        unfold prn6; rw [e])
      have RI3 := Blk.reads16 (zs := gsOf h l) G3.out HGB.out
      have HRI := Lib.hid RI3
      have E3' := Lib.hid E3
      clear hb hln RI3 E2 E3
      have p0 : (0 : Int) ≤ (p : Int) := by omega
      have p8 : (p : Int) ≤ 8 := by omega
      by_cases hn : n < 2
      · have hn' : (n : Int) < 2 := by omega
        have HJ := join_h w3 E3'.out _ _ _ 8 _ HRI.out (Nat.le_refl _) (by show 8 ≤ 16; decide)
        have HJ' := Lib.hid HJ
        have HPn := Lib.hid (HP.out.trans (if_pos hn))
        clear HJ hn
        go_wp2_with fail
        refine Calls.mono HJ'.out ?_
        rintro e w4 ⟨rfl, hb⟩
        have L4 := L3.out.trans (hb.mono L3.out.size)
        clear hb
        go_wp2
        go_ret
        exact ⟨by rw [HPn.out]; rfl, L4⟩
      · have hn' : ¬ (n : Int) < 2 := by omega
        have HPn := Lib.hid (HP.out.trans (if_neg hn))
        obtain ⟨k, hk8, hsl⟩ := slice8_from w2.heap.size (p + n) hpn ((p : Int) + (n : Int)) (by omega)
        have hw := IntWalk.i64_in ((p : Int) + (n : Int)) (by omega)
        have HJ1 := Lib.hid (join_h w3.drew (E3'.out.below (Below.refl _ _).drew) _ _ p 8 _ ((HRI.out.pre (j := p) (by show p ≤ 8; omega)).keep fun q _ => cell_heap rfl q) (Nat.le_refl _) (by omega))
        have HJ2 := Lib.hid (fun W' (hb : Below w3.heap.size w3.drew W') => join_h W' ((E3'.out.below (Below.refl _ _).drew).below hb) w3.heap.size _ (8 - (p + n)) (8 - (p + n)) _ ((show RI .u16 w3.drew w3.heap.size (some ⟨w2.heap.size, k, none⟩) (8 - (p + n)) ((gsOf h l).drop (p + n)) from (HRI.out.from16 (k := p + n) (l := k) hpn hk8).keep fun q _ => cell_heap rfl q).below hb) hb.size (by omega))
        have hsl1 := hsl w3
        have hsl2 := hsl w3.drew
        have n0 : (0 : Int) ≤ (n : Int) := by omega
        have pn8 : (p : Int) + (n : Int) ≤ 8 := by omega
        clear hn hk8
        have b1 := join_len (((gsOf h l).take p).map d16) 58 4 (fun x hx => by obtain ⟨z, -, rfl⟩ := List.mem_map.1 hx; exact d16_len z)
        have b2 := join_len (((gsOf h l).drop (p + n)).map d16) 58 4 (fun x hx => by obtain ⟨z, -, rfl⟩ := List.mem_map.1 hx; exact d16_len z)
        have l1 : ((gsOf h l).take p).length ≤ 8 := by rw [List.length_take]; exact Nat.le_trans (Nat.min_le_right _ _) (by show 8 ≤ 8; decide)
        have l2 : ((gsOf h l).drop (p + n)).length ≤ 8 := by rw [List.length_drop]; show 8 - _ ≤ 8; omega
        rw [List.length_map] at b1 b2
        obtain ⟨J1, hJ1⟩ : ∃ J1 : ByteArray, J1 = ⟨(Lib.join (((gsOf h l).take p).map d16) [58]).toArray⟩ := ⟨_, rfl⟩
        obtain ⟨J2, hJ2⟩ : ∃ J2 : ByteArray, J2 = ⟨(Lib.join (((gsOf h l).drop (p + n)).map d16) [58]).toArray⟩ := ⟨_, rfl⟩
        have s1 : J1.size ≤ 40 := by rw [hJ1]; show (Lib.join _ _).toArray.size ≤ 40; simp only [List.size_toArray]; omega
        have s2 : J2.size ≤ 40 := by rw [hJ2]; show (Lib.join _ _).toArray.size ≤ 40; simp only [List.size_toArray]; omega
        have hfin : Hid ((J1 ++ ⟨#[58, 58]⟩ ++ J2 : ByteArray) = ⟨(prn6 (gsOf h l)).toArray⟩) := Lib.hid (by
          rw [HPn.out, hJ1, hJ2]
          apply ByteArray.ext
          simp [ByteArray.data_append])
        rw [← hJ1] at HJ1
        have hadd1 : ∀ W : World, (Op.stringOp .add J1 ⟨#[58, 58]⟩).run Tryz.prog W = .ok (.string (J1 ++ ⟨#[58, 58]⟩)) W := fun W => run_string_add_sum _ _ _ (by show J1.size + 2 ≤ _; omega)
        have hadd2 : ∀ W : World, (Op.stringOp .add (J1 ++ ⟨#[58, 58]⟩) J2).run Tryz.prog W = .ok (.string (J1 ++ ⟨#[58, 58]⟩ ++ J2)) W := fun W => run_string_add_sum _ _ _ (by rw [ByteArray.size_append]; show J1.size + 2 + J2.size ≤ _; omega)
        have HJ3 := Lib.hid (fun W' (hb : Below w3.heap.size w3.drew W') => (HJ2.out W' hb))
        rw [← hJ2] at HJ3
        clear b1 b2 l1 l2 s1 s2 hJ1 hJ2 HJ2
        go_wp2
        go_region_held3 (fun w' => True) (first | trivial | go_keep)
          ((first
            | (go_at_call 48; (first
              | (with_reducible refine Calls.mono HJ1.out ?_)
              | (have hc := HJ3.out _ hb; (with_reducible refine Calls.mono hc ?_); clear hc; have hbo := hb; clear hb)); rintro e w' ⟨rfl, hb⟩)))
        all_goals go_wp2
        all_goals
          have L5 := (L3.out.drew.trans (hbo.mono L3.out.size))
          have L6 := L5.trans (hb.mono L5.size)
          go_ret
          exact ⟨by rw [← hfin.out]; rfl, L6⟩
end Go.Proofs.YtbpdnohcgojmbaaGreatDoor
