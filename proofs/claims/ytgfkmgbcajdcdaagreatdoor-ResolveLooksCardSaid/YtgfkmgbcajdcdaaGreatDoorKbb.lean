/-
  Several texts in one: RBytes, PBt, PRBit, PRof, PLast, PRCut.
-/
import Derived.Test.YtgfkmgbcajdcdaaGreatDoorKab
import Derived.Test.YtgfkmgbcajdcdaaGreatDoorKaa
import Derived.Deep.RegionHeld3
import Derived.Test.YtgfkmgbcajdcdaaGreatDoorKaj
import Derived.StillTailTactics
namespace Go.Proofs.YtgfkmgbcajdcdaaGreatDoor
open Go.RowKit
set_option linter.unusedVariables false

/-- A slice of bytes that reads as zs, in a world in which all that was ahead of W stands. -/
def RB (w W : World) (A : Option Addr) (n c : Nat) (zs : List Int) : Prop := RI .u8 w w.heap.size A n zs ∧ (A = none → c = 0) ∧ Below W.heap.size W w ∧ (∀ x, A = some x → W.heap.size ≤ x.block)
/-- The contract of one call of the document's Put onto such a slice. -/
def RBStep (W : World) (n n' k : Nat) (width v : Int) : Prop := ∀ (w : World) (A : Option Addr) (c : Nat) (zs : List Int), RB w W A n c zs →
    Calls Tryz.prog 201 #[.slice A n c, .int .i64 width, .int .u64 v] w fun e w' => ∃ A' c', e = .returned (.slice A' n' c') ∧ RB w' W A' n' c' (zs ++ putOf k v)
theorem rbStep (W : World) (n n' k : Nat) (width v : Int) (hk : k ≤ 8) (hw : width = (k : Int)) (hn : n + k = n') (h0 : 0 < n') (hn2 : n ≤ 1000) (hv : U6 v) : RBStep W n n' k width v := by
  intro w A c zs h
  have e : wide width = k := by
    subst hw
    unfold wide; split <;> split <;> omega
  have hp := refPut_any w w.heap.size A n c v width zs h.1 h.2.1 (Nat.le_refl _) (by omega) hv.1 hv.2
  rw [e, hn] at hp
  refine Calls.mono hp ?_
  rintro e w' ⟨A', c', rfl, h1, h2, h3⟩
  obtain ⟨b, o, e, _⟩ := h1.2.1 h0
  exact ⟨A', c', rfl, h1, (fun h => by rw [e] at h; cases h), h.2.2.1.trans (h3.mono h.2.2.1.size), fun x hx => Nat.le_trans h.2.2.1.size (h2 x hx)⟩
theorem RB.start (w : World) : RB w.drew w none 0 0 [] := ⟨RI.nil_, fun _ => rfl, (Below.refl _ _).drew, fun _ h => by cases h⟩
theorem RB.start0 (w : World) : RB w w none 0 0 [] := ⟨RI.nil_, fun _ => rfl, Below.refl _ _, fun _ h => by cases h⟩

/-- What hands back bytes that read as zs, in memory of the call's own. -/
def OutR (w : World) (zs : List Int) (e : Ending) (w' : World) : Prop :=
  ∃ A c, e = .returned (.slice A zs.length c) ∧ RI .u8 w' w'.heap.size A zs.length zs ∧ (A = none → c = 0) ∧ (∀ g, A = some g → w.heap.size ≤ g.block) ∧ Below w.heap.size w w'

set_option maxRecDepth 100000 in
set_option maxHeartbeats 2000000 in
theorem rbytes_any (s : Bool) (h l : Int) (hh : U6 h) (hl : U6 l) (w : World) :
    Calls Tryz.prog 176 #[adr s h l] w (OutR w (byts s h l)) := by
  obtain ⟨V, hV⟩ : ∃ V, vld s h l = V := ⟨_, rfl⟩
  have HVa := Lib.hid (rvalid_at s h l (w.alloc (.cells #[.bool s, .int .u64 h, .int .u64 l] 28)) hV)
  cases V
  · have e : byts s h l = [] := by unfold byts; rw [hV]; rfl
    rw [e]
    clear hV e
    go_enter Tryz.func176, Tryz.ntmps176
    go_wp2_with fail
    refine Calls.mono HVa.out ?_
    rintro e w1 ⟨rfl, hb⟩
    have L1 := ((Below.refl _ w).alloc (Nat.le_refl _) _).trans (hb.mono (by simp only [World.size_alloc]; omega))
    clear hb
    go_wp2
    go_ret
    exact ⟨none, 0, rfl, RI.nil_, fun _ => rfl, (fun g e => by cases e), L1⟩
  · cases s
    · have e : byts false h l = putOf 4 l := by unfold byts; rw [hV]; rfl
      rw [e]
      clear hV e
      have HL := Lib.hid hl
      go_enter Tryz.func176, Tryz.ntmps176
      go_wp2_with fail
      refine Calls.mono HVa.out ?_
      rintro e w1 ⟨rfl, hb⟩
      have R1 := Lib.hid ((Blk.new w 28 _).below hb (by simp only [World.size_alloc]; omega))
      have L1 := Lib.hid (((Below.refl _ w).alloc (Nat.le_refl _) _).trans (hb.mono (by simp only [World.size_alloc]; omega)))
      obtain ⟨g1, g2, g3⟩ := R1.out.c3
      have HS := Lib.hid (rbStep w1 0 4 4 4 l (by decide) rfl rfl (by decide) (by decide) HL.out w1 none 0 [] (RB.start0 w1))
      clear hb
      go_wp2_with fail
      refine Calls.mono HS.out ?_
      rintro e w2 ⟨A, c, rfl, q1, q2, q3, q4⟩
      have Q := Lib.hid (And.intro q1 (And.intro q2 (And.intro q3 q4)))
      clear q1 q2 q3 q4 g1 g2 g3
      go_wp2
      go_ret
      obtain ⟨q1, q2, q3, q4⟩ := Q.out
      refine ⟨A, c, ?_, ?_, q2, fun g e => Nat.le_trans L1.out.size (q4 g e), L1.out.trans (q3.mono L1.out.size)⟩
      · rw [putOf_len]; rfl
      · rw [putOf_len]; exact q1
    · have e : byts true h l = putOf 8 h ++ putOf 8 l := by unfold byts; rw [hV]; rfl
      rw [e]
      clear hV e
      have HL := Lib.hid hl
      have HH := Lib.hid hh
      go_enter Tryz.func176, Tryz.ntmps176
      go_wp2_with fail
      refine Calls.mono HVa.out ?_
      rintro e w1 ⟨rfl, hb⟩
      have R1 := Lib.hid ((Blk.new w 28 _).below hb (by simp only [World.size_alloc]; omega))
      have L1 := Lib.hid (((Below.refl _ w).alloc (Nat.le_refl _) _).trans (hb.mono (by simp only [World.size_alloc]; omega)))
      have hs1 : w.heap.size < w1.heap.size := by have := hb.size; simp only [World.size_alloc] at this; omega
      have HC : Hid (∀ W', Below w1.heap.size w1 W' → W'.cell? ⟨w.heap.size, 1, none⟩ = some (.int .u64 h) ∧ W'.cell? ⟨w.heap.size, 2, none⟩ = some (.int .u64 l)) := by
        show ∀ W', _ → _
        intro W' hB
        have := (R1.out.below hB hs1).c3
        exact ⟨this.2.1, this.2.2⟩
      obtain ⟨g1, g2, g3⟩ := R1.out.c3
      have hR := RB.start w1
      have H1 := Lib.hid (rbStep w1 0 8 8 8 h (by decide) rfl rfl (by decide) (by decide) HH.out)
      have H2 := Lib.hid (rbStep w1 8 16 8 8 l (by decide) rfl rfl (by decide) (by decide) HL.out)
      clear hb
      go_wp2
      go_region_held3 (fun w' => w'.cell? ⟨w.heap.size, 1, none⟩ = some (.int .u64 h) ∧ w'.cell? ⟨w.heap.size, 2, none⟩ = some (.int .u64 l))
        (first | exact HC.out _ hR.2.2.1 | go_keep)
        ((go_at_call 201; (first
            | (have hc := H1.out _ _ _ _ hR; (with_reducible refine Calls.mono hc ?_); clear hc)
            | (have hc := H2.out _ _ _ _ hR; (with_reducible refine Calls.mono hc ?_); clear hc)); rintro e W' ⟨A', c', rfl, hR⟩))
      all_goals
        have Q := Lib.hid hR
        clear hR
        go_wp2
        go_ret
        obtain ⟨q1, q2, q3, q4⟩ := Q.out
        have el : (putOf 8 h ++ putOf 8 l).length = 16 := by rw [List.length_append, putOf_len, putOf_len]
        refine ⟨_, _, ?_, ?_, q2, fun g e => Nat.le_trans L1.out.size (q4 g e), L1.out.trans (q3.mono L1.out.size)⟩
        · rw [el]; rfl
        · rw [el]; exact q1
end Go.Proofs.YtgfkmgbcajdcdaaGreatDoor

namespace Go.Proofs.YtgfkmgbcajdcdaaGreatDoor
open Go.RowKit
set_option linter.unusedVariables false

theorem ret_i64 {a b : Int} (h : a = b) : Ending.returned (.int .i64 a) = .returned (.int .i64 b) := by rw [h]
end Go.Proofs.YtgfkmgbcajdcdaaGreatDoor

namespace Go.Proofs.YtgfkmgbcajdcdaaGreatDoor
open Go.RowKit
set_option linter.unusedVariables false

theorem rwidth_at (s : Bool) (h l W : Int) (hW : (wd s : Int) = W) (w : World) :
    Calls Tryz.prog 103 #[adr s h l] w fun e w' => e = .returned (.int .i64 W) ∧ Below w.heap.size w w' := by
  subst hW
  cases s
  all_goals
    go_enter Tryz.func103, Tryz.ntmps103
    go_wp2
    go_ret
    exact ⟨rfl, (Below.refl _ _).alloc (Nat.le_refl _) _⟩
/-- A byte of a number, and a bit of that byte. -/
theorem bit_of_byte (x m r : Nat) (hr : r < 8) : x / 256 ^ m % 256 / 2 ^ r % 2 = x / 2 ^ (8 * m + r) % 2 := by
  have e : (256 : Nat) ^ m = 2 ^ (8 * m) := by rw [show (256 : Nat) = 2 ^ 8 from rfl, ← Nat.pow_mul]
  rw [div_pow_add, e]
  generalize x / 2 ^ (8 * m) = y
  have h : r = 0 ∨ r = 1 ∨ r = 2 ∨ r = 3 ∨ r = 4 ∨ r = 5 ∨ r = 6 ∨ r = 7 := by omega
  rcases h with rfl | rfl | rfl | rfl | rfl | rfl | rfl | rfl <;> simp <;> omega
theorem putOf_at (k : Nat) (v j : Nat) (hj : j < k) : (putOf k (v : Int))[j]? = some (((v / 256 ^ (k - 1 - j) % 256 : Nat)) : Int) := by
  have h := putOf_get k (v : Int) (k - 1 - j) (by omega)
  rw [show k - 1 - (k - 1 - j) = j by omega] at h
  rw [h]
  congr 1
/-- The byte in which a bit stands. -/
theorem byts_at {s : Bool} {h l : Nat} (hh : N64 h) (hl : N64 l) (v : vld s h l = true) (i : Nat) (hi : i < wd s) :
    ∃ c : Nat, c < 256 ∧ (byts s h l)[i / 8]? = some (c : Int) ∧ c / 2 ^ (7 - i % 8) % 2 = bt (nm h l) (wd s) i := by
  unfold byts
  rw [if_pos v]
  cases s
  · have w32 : wd false = 32 := rfl
    rw [w32] at hi ⊢
    rw [if_neg (by decide)]
    refine ⟨l / 256 ^ (4 - 1 - i / 8) % 256, Nat.mod_lt _ (by decide), putOf_at 4 l (i / 8) (by omega), ?_⟩
    rw [bit_of_byte _ _ _ (by omega)]
    unfold bt
    rw [show 8 * (4 - 1 - i / 8) + (7 - i % 8) = 32 - 1 - i by omega, nm_bit_lo h l _ (by omega)]
  · have w128 : wd true = 128 := rfl
    rw [w128] at hi ⊢
    rw [if_pos rfl]
    by_cases h64 : i < 64
    · refine ⟨h / 256 ^ (8 - 1 - i / 8) % 256, Nat.mod_lt _ (by decide), ?_, ?_⟩
      · rw [List.getElem?_append_left (by rw [putOf_len]; omega)]
        exact putOf_at 8 h (i / 8) (by omega)
      · rw [bit_of_byte _ _ _ (by omega)]
        unfold bt
        rw [show 8 * (8 - 1 - i / 8) + (7 - i % 8) = 63 - i by omega, show 128 - 1 - i = 64 + (63 - i) by omega, nm_bit_hi h l _ hl.lt]
    · refine ⟨l / 256 ^ (8 - 1 - (i / 8 - 8)) % 256, Nat.mod_lt _ (by decide), ?_, ?_⟩
      · rw [List.getElem?_append_right (by rw [putOf_len]; omega), putOf_len]
        exact putOf_at 8 l (i / 8 - 8) (by omega)
      · rw [bit_of_byte _ _ _ (by omega)]
        unfold bt
        rw [show 8 * (8 - 1 - (i / 8 - 8)) + (7 - i % 8) = 128 - 1 - i by omega, nm_bit_lo h l _ (by omega)]

set_option maxRecDepth 100000 in
set_option maxHeartbeats 4000000 in
theorem rbit_in (s : Bool) (h l i : Nat) (hh : N64 h) (hl : N64 l) (v : vld s h l = true) (hi : i < wd s) (w : World) :
    Calls Tryz.prog 141 #[adr s h l, .int .i64 i] w fun e w' => e = .returned (.int .i64 ((bt (nm h l) (wd s) i : Nat) : Int)) ∧ Below w.heap.size w w' := by
  obtain ⟨c, hc, hcb, hct⟩ := byts_at hh hl v i hi
  obtain ⟨W, hW⟩ : ∃ W, (wd s : Int) = W := ⟨_, rfl⟩
  have iW : (i : Int) < W := by rw [← hW]; omega
  have i0 : (0 : Int) ≤ i := by omega
  have W1 : W ≤ 128 := by rw [← hW]; unfold wd; split <;> omega
  have HV := Lib.hid (fun w => rvalid_at s h l w v)
  have HW := Lib.hid (fun w => rwidth_at s h l W hW w)
  have HB := Lib.hid (fun w => rbytes_any s h l (show U6 h by unfold N64 at hh; unfold U6; omega) (show U6 l by unfold N64 at hl; unfold U6; omega) w)
  obtain ⟨q, hq⟩ : ∃ q, q = i / 8 := ⟨_, rfl⟩
  obtain ⟨r, hr⟩ : ∃ r, r = i % 8 := ⟨_, rfl⟩
  have eq1 : (i : Int) / 8 = (q : Int) := by omega
  have er1 : (i : Int) % 8 = (r : Int) := by omega
  have r8 : r < 8 := by omega
  rw [← hq] at hcb
  rw [← hr] at hct
  obtain ⟨n, hn⟩ : ∃ n, n = (byts s h l).length := ⟨_, rfl⟩
  have qn : q < n := by rw [hn]; exact (List.getElem?_eq_some_iff.1 hcb).1
  have HCB := Lib.hid hcb
  have HCT := Lib.hid hct
  have HN := Lib.hid hn
  have EQ := Lib.hid eq1
  have ER := Lib.hid er1
  clear hW v hcb hct hi hn hq hr eq1 er1
  go_enter Tryz.func141, Tryz.ntmps141
  go_wp2_with fail
  refine Calls.mono (HV.out _) ?_
  rintro e w1 ⟨rfl, hb⟩
  have K1 := Lib.hid ((Blk.new w 28 #[.bool s, .int .u64 h, .int .u64 l]).below hb (by simp only [World.size_alloc]; omega))
  have L1 := Lib.hid (((Below.refl _ w).alloc (Nat.le_refl _) _).trans (hb.mono (by simp only [World.size_alloc]; omega)))
  have s1 : w.heap.size < w1.heap.size := by have := hb.size; simp only [World.size_alloc] at this; omega
  clear hb
  obtain ⟨f0, f1, f2⟩ := K1.out.c3
  go_wp2_with fail
  refine Calls.mono (HW.out _) ?_
  rintro e w2 ⟨rfl, hb⟩
  clear f0 f1 f2
  have K2 := Lib.hid (K1.out.below hb s1)
  have L2 := Lib.hid (L1.out.trans (hb.mono L1.out.size))
  have s2 : w.heap.size < w2.heap.size := by have := hb.size; omega
  clear hb
  obtain ⟨f0, f1, f2⟩ := K2.out.c3
  go_wp2_with fail
  refine Calls.mono (HB.out _) ?_
  rintro e w3 ⟨A, cp, rfl, hri, -, -, hb⟩
  clear f0 f1 f2
  have L3 := Lib.hid (L2.out.trans (hb.mono L2.out.size))
  rw [← HN.out] at hri
  obtain ⟨b, o, rfl, hbk, hcell⟩ := hri.2.1 (by omega)
  have d0 := hcell _ _ HCB.out
  have qn' : (q : Int) < n := by omega
  have q0 : (0 : Int) ≤ q := by omega
  have eq1 := EQ.out
  have er1 := ER.out
  rw [← HN.out]
  clear hb hri hcell hbk
  go_wp2
  clear eq1 er1 d0
  go_loop [7, 8] (fun x k => ∃ t y : Nat, r + t ≤ 7 ∧ y < 256 ∧ x = .int .i64 y ∧ k = .int .i64 ((r + t : Nat) : Int) ∧ Hid (y = c / 2 ^ t)) (fun _ k => (7 - intOf k).toNat)
  case atStart => exact ⟨0, c, by omega, hc, rfl, by rw [ER.out]; rfl, Lib.hid (by simp)⟩
  case round =>
    obtain ⟨t, y, ht, hy, rfl, rfl, he⟩ := hrel
    obtain ⟨k, hk⟩ : ∃ k : Nat, k = r + t := ⟨_, rfl⟩
    rw [← hk]
    have HK := Lib.hid hk
    have k7 : k ≤ 7 := by omega
    clear hk ht
    by_cases hlt : k < 7
    · go_wp2
      go_round
      case rel => exact ⟨t + 1, y / 2, by have := HK.out; omega, by omega, by go_num, by have := HK.out; rw [show r + (t + 1) = k + 1 by omega]; go_num, Lib.hid (by rw [he.out, Nat.pow_succ, Nat.div_div_eq_div_mul])⟩
      case measure => simp [intOf]; omega
    · go_wp2
      go_ret
      refine ⟨ret_i64 ?_, L3.out⟩
      rw [← HCT.out, show 7 - r = t by have := HK.out; omega, ← he.out]
      omega

theorem rbit_any (s : Bool) (h l i : Nat) (hh : N64 h) (hl : N64 l) (v : vld s h l = true) (hi : i < wd s) {b : Nat} (e : bt (nm h l) (wd s) i = b) (w : World) :
    Calls Tryz.prog 141 #[adr s h l, .int .i64 i] w fun e w' => e = .returned (.int .i64 b) ∧ Below w.heap.size w w' := by
  subst e; exact rbit_in s h l i hh hl v hi w
end Go.Proofs.YtgfkmgbcajdcdaaGreatDoor

namespace Go.Proofs.YtgfkmgbcajdcdaaGreatDoor
open Go.RowKit
set_option linter.unusedVariables false

/-- A list of noughts and ones. -/
def Bin (zs : List Int) : Prop := ∀ z ∈ zs, 0 ≤ z ∧ z ≤ 1
theorem f2_bd : ∀ (k : Nat) (zs : List Int), Bin zs → 0 ≤ f2 (zs.take k) ∧ f2 (zs.take k) < ((2 ^ k : Nat) : Int)
  | 0, zs, h => by rw [List.take_zero]; exact ⟨Int.le_refl _, by decide⟩
  | k + 1, zs, h => by
    obtain ⟨a, b⟩ := f2_bd k zs h
    rw [Nat.pow_succ]
    cases hz : zs[k]? with
    | none =>
      rw [List.take_add_one, hz]
      simp only [Option.toList_none, List.append_nil]
      omega
    | some z =>
      have hb := h z (List.mem_of_getElem? hz)
      rw [List.take_add_one, hz]
      show 0 ≤ f2 (_ ++ [z]) ∧ _
      rw [Option.toList_some, f2_snoc]
      omega
theorem f2_next {zs : List Int} {k : Nat} {z : Int} (h : zs[k]? = some z) : f2 (zs.take (k + 1)) = f2 (zs.take k) * 2 + z := by
  rw [List.take_add_one, h, Option.toList_some, f2_snoc]
theorem Bin.drop {zs : List Int} (h : Bin zs) (k : Nat) : Bin (zs.drop k) := fun z hz => h z (List.mem_of_mem_drop hz)
theorem two63 {j : Nat} (h : j ≤ 63) : ((2 ^ j : Nat) : Int) ≤ 9223372036854775808 := by
  have : (2 : Nat) ^ j ≤ 2 ^ 63 := Nat.pow_le_pow_right (by decide) h
  omega

set_option maxRecDepth 100000 in
set_option maxHeartbeats 4000000 in
theorem rof_four (w : World) (B c : Nat) (A : Option Addr) (zs : List Int) (hz : RI .i64 w B A 32 zs) (hB : B ≤ w.heap.size) (hb : Bin zs) :
    Calls Tryz.prog 142 #[.bool false, .slice A 32 c] w fun e w' => e = .returned (adr false 0 (f2 zs)) ∧ Below w.heap.size w w' := by
  obtain ⟨b, o, rfl, hbk, hcell⟩ := hz.2.1 (by decide)
  have hlen := hz.1
  have HC := Lib.hid hcell
  have HL := Lib.hid hlen
  have HBn := Lib.hid hb
  have hbw : b < w.heap.size := by omega
  clear hz hcell hlen hb
  go_enter Tryz.func142, Tryz.ntmps142
  go_wp2
  go_loopw [6] (fun i wr => ∃ (k : Nat) (X Y : Int), k ≤ 32 ∧ i = .int .i64 (k : Int) ∧ Blk wr (w.heap.size + 1) 28 #[.bool false, .int .u64 X, .int .u64 Y] ∧ Blk wr w.heap.size 28 #[.bool false, .int .u64 0, .int .u64 0] ∧ Below w.heap.size w wr ∧ Hid (X = 0 ∧ Y = f2 (zs.take k))) (fun i wr => (32 - intOf i).toNat)
  case atStart =>
    have h1 := Blk.new (w.alloc (.cells #[.bool false, .int .u64 0, .int .u64 0] 28)) 28 #[.bool false, .int .u64 0, .int .u64 0]
    rw [World.size_alloc] at h1
    exact ⟨0, 0, 0, by decide, rfl, h1, (Blk.new w _ _).alloc _, ((Below.refl _ w).alloc (Nat.le_refl _) _).alloc (by simp) _, Lib.hid (by simp [f2])⟩
  case round =>
    obtain ⟨k, X, Y, hk, rfl, hg, hr, hbel, hxy⟩ := hrel
    have HG := Lib.hid hg
    have HR := Lib.hid hr
    have HBl := Lib.hid hbel
    have sw := hbel.size
    by_cases hlt : k < 32
    · obtain ⟨z, hzk⟩ : ∃ z, zs[k]? = some z := ⟨_, List.getElem?_eq_getElem (by rw [HL.out]; exact hlt)⟩
      have hzb := HBn.out z (List.mem_of_getElem? hzk)
      have d0 := HC.out _ _ hzk
      have d1 := (hbel.cell (p := ⟨b, o + k, none⟩) hbw).trans d0
      have HZ := Lib.hid hzk
      clear d0 hzk hg hr hbel
      have hklt : (k : Int) < 32 := by omega
      have hk0 : (0 : Int) ≤ k := by omega
      have hwz : IntKind.u64.wrap z = z := by rw [IntKind.wrap_u64]; omega
      obtain ⟨c0, c1, c2⟩ := HG.out.c3
      have hb2 : 0 ≤ Y ∧ Y < 9223372036854775808 := by
        obtain ⟨e1, e2⟩ := hxy.out
        rw [e2]
        have h1 := f2_bd k zs HBn.out
        have h2 := two63 (j := k) (by omega)
        exact ⟨h1.1, Int.lt_of_lt_of_le h1.2 h2⟩
      have hw2 : IntKind.u64.wrap (Y * 2) = Y * 2 := by rw [IntKind.wrap_u64]; omega
      have hw3 : IntKind.u64.wrap (Y * 2 + z) = Y * 2 + z := by rw [IntKind.wrap_u64]; omega
      have y1 := HG.out.frozen 2
      go_wp2
      go_still_tail 10, (by kernel_rfl)
      go_wp2
      have HG2 := Lib.hid (HG.out.set_ 2 (.int .u64 (Y * 2 + z)))
      have HR2 := Lib.hid (HR.out.far (p := ⟨w.heap.size + 1, 2, none⟩) (by simp) (.int .u64 (Y * 2 + z)))
      have HL2 := Lib.hid (HBl.out.setCell (p := ⟨w.heap.size + 1, 2, none⟩) (by simp) (.int .u64 (Y * 2 + z)))
      go_roundw
      case rel => exact ⟨k + 1, X, (Y * 2 + z), by omega, by go_num, HG2.out, HR2.out, HL2.out.drew, Lib.hid (by
        obtain ⟨e1, e2⟩ := hxy.out
        exact ⟨e1, by rw [f2_next HZ.out, ← e2]⟩)⟩
      case measure => simp [intOf]; omega
    · obtain rfl : k = 32 := by omega
      obtain ⟨c0, c1, c2⟩ := HG.out.c3
      obtain ⟨r0, r1, r2⟩ := HR.out.c3
      have z0 := HR.out.frozen 0
      have z1 := HR.out.frozen 1
      have z2 := HR.out.frozen 2
      clear hg hr hbel
      go_wp2
      refine bodyPost_ret (v := adr false X Y) (by simp [results, Tryz.results142, go_sem, r0, r1, r2]) rfl ⟨?_, ?_⟩
      · obtain ⟨e1, e2⟩ := hxy.out
        rw [List.take_of_length_le (by rw [HL.out]; exact Nat.le_refl _)] at e2
        rw [e1, e2]
      · iterate 3 refine Below.setCell ?_ (by simp) _
        exact HBl.out

set_option maxRecDepth 100000 in
set_option maxHeartbeats 4000000 in
theorem rof_six (w : World) (B c : Nat) (A : Option Addr) (zs : List Int) (hz : RI .i64 w B A 128 zs) (hB : B ≤ w.heap.size) (hb : Bin zs) :
    Calls Tryz.prog 142 #[.bool true, .slice A 128 c] w fun e w' => e = .returned (adr true (f2 (zs.take 64)) (f2 (zs.drop 64))) ∧ Below w.heap.size w w' := by
  obtain ⟨b, o, rfl, hbk, hcell⟩ := hz.2.1 (by decide)
  have hlen := hz.1
  have HC := Lib.hid hcell
  have HL := Lib.hid hlen
  have HBn := Lib.hid hb
  have hbw : b < w.heap.size := by omega
  clear hz hcell hlen hb
  go_enter Tryz.func142, Tryz.ntmps142
  go_wp2
  go_loopw [6] (fun i wr => ∃ (k : Nat) (X Y : Int), k ≤ 128 ∧ i = .int .i64 (k : Int) ∧ Blk wr (w.heap.size + 1) 28 #[.bool true, .int .u64 X, .int .u64 Y] ∧ Blk wr w.heap.size 28 #[.bool false, .int .u64 0, .int .u64 0] ∧ Below w.heap.size w wr ∧ Hid (X = f2 (zs.take (min k 64)) ∧ Y = f2 ((zs.take k).drop 64))) (fun i wr => (128 - intOf i).toNat)
  case atStart =>
    have h1 := Blk.new (w.alloc (.cells #[.bool false, .int .u64 0, .int .u64 0] 28)) 28 #[.bool true, .int .u64 0, .int .u64 0]
    rw [World.size_alloc] at h1
    exact ⟨0, 0, 0, by decide, rfl, h1, (Blk.new w _ _).alloc _, ((Below.refl _ w).alloc (Nat.le_refl _) _).alloc (by simp) _, Lib.hid (by simp [f2])⟩
  case round =>
    obtain ⟨k, X, Y, hk, rfl, hg, hr, hbel, hxy⟩ := hrel
    have HG := Lib.hid hg
    have HR := Lib.hid hr
    have HBl := Lib.hid hbel
    have sw := hbel.size
    by_cases hlt : k < 128
    · obtain ⟨z, hzk⟩ : ∃ z, zs[k]? = some z := ⟨_, List.getElem?_eq_getElem (by rw [HL.out]; exact hlt)⟩
      have hzb := HBn.out z (List.mem_of_getElem? hzk)
      have d0 := HC.out _ _ hzk
      have d1 := (hbel.cell (p := ⟨b, o + k, none⟩) hbw).trans d0
      have HZ := Lib.hid hzk
      clear d0 hzk hg hr hbel
      have hklt : (k : Int) < 128 := by omega
      have hk0 : (0 : Int) ≤ k := by omega
      have hwz : IntKind.u64.wrap z = z := by rw [IntKind.wrap_u64]; omega
      obtain ⟨c0, c1, c2⟩ := HG.out.c3
      by_cases hk64 : k < 64
      · skip
        have hb2 : 0 ≤ X ∧ X < 9223372036854775808 := by
          obtain ⟨e1, e2⟩ := hxy.out
          rw [show min k 64 = k by omega] at e1
          rw [e1]
          have h1 := f2_bd k zs HBn.out
          have h2 := two63 (j := k) (by omega)
          exact ⟨h1.1, Int.lt_of_lt_of_le h1.2 h2⟩
        have hw2 : IntKind.u64.wrap (X * 2) = X * 2 := by rw [IntKind.wrap_u64]; omega
        have hw3 : IntKind.u64.wrap (X * 2 + z) = X * 2 + z := by rw [IntKind.wrap_u64]; omega
        have h64 : (k : Int) < 64 := by omega
        have y1 := HG.out.frozen 1
        go_wp2
        go_still_tail 10, (by kernel_rfl)
        go_wp2
        have HG2 := Lib.hid (HG.out.set_ 1 (.int .u64 (X * 2 + z)))
        have HR2 := Lib.hid (HR.out.far (p := ⟨w.heap.size + 1, 1, none⟩) (by simp) (.int .u64 (X * 2 + z)))
        have HL2 := Lib.hid (HBl.out.setCell (p := ⟨w.heap.size + 1, 1, none⟩) (by simp) (.int .u64 (X * 2 + z)))
        go_roundw
        case rel => exact ⟨k + 1, (X * 2 + z), Y, by omega, by go_num, HG2.out, HR2.out, HL2.out.drew, Lib.hid (by
          obtain ⟨e1, e2⟩ := hxy.out
          refine ⟨?_, ?_⟩
          · rw [show min (k + 1) 64 = k + 1 by omega, f2_next HZ.out]
            rw [show min k 64 = k by omega] at e1
            rw [← e1]
          · rw [e2, List.drop_eq_nil_of_le (by rw [List.length_take]; omega), List.drop_eq_nil_of_le (by rw [List.length_take]; omega)])⟩
        case measure => simp [intOf]; omega
      · skip
        have hb2 : 0 ≤ Y ∧ Y < 9223372036854775808 := by
          obtain ⟨e1, e2⟩ := hxy.out
          rw [List.drop_take] at e2
          rw [e2]
          have h1 := f2_bd (k - 64) (zs.drop 64) (HBn.out.drop 64)
          have h2 := two63 (j := k - 64) (by omega)
          exact ⟨h1.1, Int.lt_of_lt_of_le h1.2 h2⟩
        have hw2 : IntKind.u64.wrap (Y * 2) = Y * 2 := by rw [IntKind.wrap_u64]; omega
        have hw3 : IntKind.u64.wrap (Y * 2 + z) = Y * 2 + z := by rw [IntKind.wrap_u64]; omega
        have h64 : ¬ (k : Int) < 64 := by omega
        have y1 := HG.out.frozen 2
        go_wp2
        go_still_tail 10, (by kernel_rfl)
        go_wp2
        have HG2 := Lib.hid (HG.out.set_ 2 (.int .u64 (Y * 2 + z)))
        have HR2 := Lib.hid (HR.out.far (p := ⟨w.heap.size + 1, 2, none⟩) (by simp) (.int .u64 (Y * 2 + z)))
        have HL2 := Lib.hid (HBl.out.setCell (p := ⟨w.heap.size + 1, 2, none⟩) (by simp) (.int .u64 (Y * 2 + z)))
        go_roundw
        case rel => exact ⟨k + 1, X, (Y * 2 + z), by omega, by go_num, HG2.out, HR2.out, HL2.out.drew, Lib.hid (by
          obtain ⟨e1, e2⟩ := hxy.out
          refine ⟨?_, ?_⟩
          · rw [show min (k + 1) 64 = 64 by omega]
            rw [show min k 64 = 64 by omega] at e1
            exact e1
          · rw [List.drop_take] at e2 ⊢
            rw [show k + 1 - 64 = (k - 64) + 1 by omega, f2_next (z := z) (by rw [List.getElem?_drop, show 64 + (k - 64) = k by omega]; exact HZ.out), ← e2])⟩
        case measure => simp [intOf]; omega
    · obtain rfl : k = 128 := by omega
      obtain ⟨c0, c1, c2⟩ := HG.out.c3
      obtain ⟨r0, r1, r2⟩ := HR.out.c3
      have z0 := HR.out.frozen 0
      have z1 := HR.out.frozen 1
      have z2 := HR.out.frozen 2
      clear hg hr hbel
      go_wp2
      refine bodyPost_ret (v := adr true X Y) (by simp [results, Tryz.results142, go_sem, r0, r1, r2]) rfl ⟨?_, ?_⟩
      · obtain ⟨e1, e2⟩ := hxy.out
        rw [List.take_of_length_le (by rw [HL.out]; exact Nat.le_refl _)] at e2
        rw [e1, e2, show min 128 64 = 64 from rfl]
      · iterate 3 refine Below.setCell ?_ (by simp) _
        exact HBl.out

/-- Bits of a number make that number's address. -/
theorem rof_any (s : Bool) (h l : Nat) (hh : N64 h) (hl : N64 l) (hv : nm h l < 2 ^ wd s) (w : World) (B c : Nat) (A : Option Addr) (zs : List Int) (hz : RI .i64 w B A (wd s) zs) (hB : B ≤ w.heap.size) (hb : IsBits (nm h l) (wd s) zs) :
    Calls Tryz.prog 142 #[.bool s, .slice A (wd s) c] w fun e w' => e = .returned (adr s h l) ∧ Below w.heap.size w w' := by
  have hbin : Bin zs := by
    intro z hz
    obtain ⟨i, hi, e⟩ := List.getElem_of_mem hz
    have h1 := hb.2 i (by rw [← hb.1]; exact hi)
    rw [List.getElem?_eq_getElem hi, e] at h1
    injection h1 with h1
    have := bt_le (nm h l) (wd s) i
    omega
  cases s
  · have H := rof_four w B c A zs hz hB hbin
    have e0 : h = 0 := by
      have : wd false = 32 := rfl
      rw [this] at hv
      unfold nm at hv
      omega
    rw [f2_all hb hv] at H
    subst e0
    have e1 : nm 0 l = l := by unfold nm; omega
    rw [e1] at H
    exact H
  · have H := rof_six w B c A zs hz hB hbin
    rw [f2_hi hb hh.lt hl.lt, f2_lo hb hl.lt] at H
    exact H
end Go.Proofs.YtgfkmgbcajdcdaaGreatDoor

namespace Go.Proofs.YtgfkmgbcajdcdaaGreatDoor
open Go.RowKit
set_option linter.unusedVariables false

end Go.Proofs.YtgfkmgbcajdcdaaGreatDoor

namespace Go.Proofs.YtgfkmgbcajdcdaaGreatDoor
open Go.RowKit
set_option linter.unusedVariables false

theorem make_ints (n : Nat) (h : n ≤ 1000) (w : World) :
    (Instr.makeSlice 147 (.int .i64 (n : Int)) (.int .i64 (n : Int))).run Tryz.prog w = .ok (.slice (some ⟨w.heap.size, 0, none⟩) n n) (w.alloc (.cells (madeCells #[.int .i64 0] n) 3)) :=
  run_make_row' (P := Tryz.prog) 147 3 (.int .i64 0) 8 Tryz.underlying147 (by kernel_rfl) rfl .i64 .i64 n (by omega) (by omega) w
theorem made_ints (n : Nat) : madeCells #[.int .i64 0] n = (((List.replicate n (0 : Int)).map (Value.int .i64)).toArray) := by
  apply Array.ext
  · simp [madeCells]
  · intro i h1 h2
    simp [madeCells, Nat.mod_one]
theorem Blk.reads64 {w : World} {g : Nat} {t : TypeId} {zs : List Int} (h : Blk w g t ((zs.map (Value.int .i64)).toArray)) (hw : ∀ z ∈ zs, (Lit.int .i64 z).wf = true) {B : Nat} (hB : g < B) : RI .i64 w B (some ⟨g, 0, none⟩) zs.length zs :=
  ⟨rfl, fun _ => ⟨g, 0, rfl, hB, fun j z hz => by rw [h.cell]; simp [hz]⟩, hw⟩

/-- The first m bits of a number, noughts behind them. -/
def bl (n W m : Nat) : List Int := (List.range W).map fun i => if i < m then ((bt n W i : Nat) : Int) else 0
theorem bl_len (n W m : Nat) : (bl n W m).length = W := by simp [bl]
theorem bl_get (n W m i : Nat) (h : i < W) : (bl n W m)[i]? = some (if i < m then ((bt n W i : Nat) : Int) else 0) := by
  unfold bl
  rw [List.getElem?_map, List.getElem?_range h]
  rfl
theorem bl_zero (n W : Nat) : List.replicate W (0 : Int) = bl n W 0 := by
  apply List.ext_getElem?
  intro i
  by_cases h : i < W
  · rw [bl_get n W 0 i h, List.getElem?_replicate, if_pos h]; simp
  · rw [List.getElem?_eq_none (by simp; omega), List.getElem?_eq_none (by rw [bl_len]; omega)]
theorem bl_set (n W m : Nat) (h : m < W) : (((bl n W m).map (Value.int .i64)).toArray).setIfInBounds m (.int .i64 ((bt n W m : Nat) : Int)) = ((bl n W (m + 1)).map (Value.int .i64)).toArray := by
  have e : (bl n W m).set m ((bt n W m : Nat) : Int) = bl n W (m + 1) := by
    apply List.ext_getElem?
    intro i
    rw [List.getElem?_set]
    by_cases hi : i < W
    · by_cases e : m = i
      · subst e
        rw [if_pos rfl, if_pos (by rw [bl_len]; exact h), bl_get n W (m + 1) m h, if_pos (by omega)]
      · rw [if_neg e, bl_get n W m i hi, bl_get n W (m + 1) i hi]
        by_cases h1 : i < m
        · rw [if_pos h1, if_pos (by omega)]
        · rw [if_neg h1, if_neg (by omega)]
    · rw [if_neg (by omega), List.getElem?_eq_none (by rw [bl_len]; omega), List.getElem?_eq_none (by rw [bl_len]; omega)]
  rw [← e]
  simp [List.map_set]
theorem bl_bits (n W m : Nat) (h : m ≤ W) : IsBits (ct n (W - m)) W (bl n W m) := by
  refine ⟨bl_len _ _ _, fun i hi => ?_⟩
  rw [bl_get n W m i hi, bt_ct n W m i h hi]
  split <;> rfl
theorem bin_wf {zs : List Int} (h : ∀ z ∈ zs, 0 ≤ z ∧ z ≤ 1) : ∀ z ∈ zs, (Lit.int .i64 z).wf = true := by
  intro z hz
  have := h z hz
  simp [Lit.wf, IntKind.min, IntKind.max, IntKind.bits, IntKind.signed]; omega
theorem bits_bin {n W : Nat} {zs : List Int} (hb : IsBits n W zs) : ∀ z ∈ zs, 0 ≤ z ∧ z ≤ 1 := by
  intro z hz
  obtain ⟨i, hi, e⟩ := List.getElem_of_mem hz
  have h1 := hb.2 i (by rw [← hb.1]; exact hi)
  rw [List.getElem?_eq_getElem hi, e] at h1
  injection h1 with h1
  have := bt_le n W i
  omega

set_option maxRecDepth 100000 in
set_option maxHeartbeats 4000000 in
theorem rcut_any (s : Bool) (h l m : Nat) (hh : N64 h) (hl : N64 l) (v : vld s h l = true) (hm : m ≤ wd s) (w : World) :
    Calls Tryz.prog 104 #[adr s h l, .int .i64 m] w fun e w' => e = .returned (adr s (ct h (wd s - m - 64) : Nat) (ct l (wd s - m) : Nat)) ∧ Below w.heap.size w w' := by
  obtain ⟨W, hW⟩ : ∃ W, W = wd s := ⟨_, rfl⟩
  have W1 : W ≤ 128 := by rw [hW]; unfold wd; split <;> omega
  have HW := Lib.hid (fun w => rwidth_at s h l (W : Int) (by rw [hW]) w)
  have HB := Lib.hid (fun (i b : Nat) (hi : i < wd s) (e : bt (nm h l) (wd s) i = b) w => rbit_any s h l i hh hl v hi e w)
  have hN := nm_wd hh hl v
  have HO := Lib.hid (fun (w : World) (B c : Nat) (A : Option Addr) zs hz hB hb => rof_any s (ct h (wd s - m - 64)) (ct l (wd s - m)) (Nat.lt_of_le_of_lt (ct_le _ _) hh) (Nat.lt_of_le_of_lt (ct_le _ _) hl) (by rw [← nm_ct h l _ hl.lt]; exact Nat.lt_of_le_of_lt (ct_le _ _) hN) w B c A zs hz hB hb)
  have HBL := Lib.hid (bl_bits (nm h l) (wd s) m hm)
  rw [nm_ct h l _ hl.lt] at HBL
  obtain ⟨X, hX⟩ : ∃ X : Int, ((ct h (wd s - m - 64) : Nat) : Int) = X := ⟨_, rfl⟩
  obtain ⟨Y, hY⟩ : ∃ Y : Int, ((ct l (wd s - m) : Nat) : Int) = Y := ⟨_, rfl⟩
  rw [hX, hY] at HO ⊢
  rw [← hW] at HB HO HBL hm
  obtain ⟨N, hNN⟩ : ∃ N, N = nm h l := ⟨_, rfl⟩
  have hHB : Hid (∀ (i b : Nat), i < W → bt N W i = b → ∀ w, Calls Tryz.prog 141 #[adr s h l, .int .i64 i] w fun e w' => e = .returned (.int .i64 b) ∧ Below w.heap.size w w') := by rw [hNN]; exact HB
  have hMI := Lib.hid hm
  clear HB hW v hN hX hY hh hl
  rw [← hNN] at HBL
  have hm' : m ≤ W := hm
  clear hNN hm
  go_enter Tryz.func104, Tryz.ntmps104
  go_wp2_with fail
  refine Calls.mono (HW.out _) ?_
  rintro e w1 ⟨rfl, hb⟩
  have K1 := Lib.hid ((Blk.new w 28 #[.bool s, .int .u64 h, .int .u64 l]).alloc (.cells #[.bool false, .int .u64 0, .int .u64 0] 28) |>.below hb (by simp only [World.size_alloc]; omega))
  have R1 := Lib.hid ((Blk.new (w.alloc (.cells #[.bool s, .int .u64 h, .int .u64 l] 28)) 28 #[.bool false, .int .u64 0, .int .u64 0]).below hb (by simp only [World.size_alloc]; omega))
  rw [World.size_alloc] at R1
  have L1 := Lib.hid ((((Below.refl _ w).alloc (Nat.le_refl _) _).alloc (by simp) _).trans (hb.mono (by simp only [World.size_alloc]; omega)))
  have s1 : w.heap.size + 1 < w1.heap.size := by have := hb.size; simp only [World.size_alloc] at this; omega
  clear hb
  have hmk := make_ints W (by omega) w1
  rw [made_ints, bl_zero N W] at hmk
  have K2 := Lib.hid (K1.out.alloc (.cells ((bl N W 0).map (Value.int .i64)).toArray 3))
  have R2 := Lib.hid (R1.out.alloc (.cells ((bl N W 0).map (Value.int .i64)).toArray 3))
  have G2 := Lib.hid (Blk.new w1 3 ((bl N W 0).map (Value.int .i64)).toArray)
  have L2 := Lib.hid (L1.out.alloc L1.out.size (.cells ((bl N W 0).map (Value.int .i64)).toArray 3))
  generalize w1.alloc (.cells ((bl N W 0).map (Value.int .i64)).toArray 3) = w2 at hmk K2 R2 G2 L2
  go_wp2
  generalize w1.heap.size = g at *
  clear hmk
  go_loopw [6] (fun i wr => ∃ k : Nat, k ≤ m ∧ i = .int .i64 (k : Int) ∧ Blk wr g 3 ((bl N W k).map (Value.int .i64)).toArray ∧ Blk wr w.heap.size 28 #[.bool s, .int .u64 h, .int .u64 l] ∧ Blk wr (w.heap.size + 1) 28 #[.bool false, .int .u64 0, .int .u64 0] ∧ Below w.heap.size w wr) (fun i _ => (m - intOf i).toNat)
  case atStart => exact ⟨0, by omega, rfl, G2.out, K2.out, R2.out, L2.out⟩
  case round =>
    obtain ⟨k, hk, rfl, hg, hkk, hr, hbel⟩ := hrel
    have HG := Lib.hid hg
    have HK := Lib.hid hkk
    have HR := Lib.hid hr
    have HL := Lib.hid hbel
    obtain ⟨f0, f1, f2⟩ := hkk.c3
    clear hg hkk hr hbel
    have kW : (k : Int) ≤ W := by omega
    by_cases hlt : k < m
    · obtain ⟨b, hb⟩ : ∃ b, bt N W k = b := ⟨_, rfl⟩
      have b1 : b ≤ 1 := by rw [← hb]; exact bt_le _ _ _
      have HBk := Lib.hid (hHB.out k b (by omega) hb)
      have HBt := Lib.hid hb
      clear hb
      have kW2 : (k : Int) < W := by omega
      have km : (k : Int) < m := by omega
      go_wp2_with fail
      refine Calls.mono (HBk.out _) ?_
      rintro e w3 ⟨rfl, hb⟩
      clear f0 f1 f2
      have G3 := Lib.hid (HG.out.below hb HG.out.lt)
      have K3 := Lib.hid (HK.out.below hb HK.out.lt)
      have R3 := Lib.hid (HR.out.below hb HR.out.lt)
      have L3 := Lib.hid (HL.out.trans (hb.mono HL.out.size))
      clear hb
      have gc : w3.cell? ⟨g, k, none⟩ = some (.int .i64 ((if k < k then ((bt N W k : Nat) : Int) else 0))) := by
        rw [G3.out.cell]
        simp [bl_get N W k k (by omega)]
      have gz := G3.out.frozen k
      go_wp2
      have G4 := Lib.hid (G3.out.set_ k (.int .i64 b))
      have e4 := bl_set N W k (by omega)
      rw [HBt.out] at e4
      rw [e4] at G4
      have K4 := Lib.hid (K3.out.far (p := ⟨g, k, none⟩) (by simp; omega) (.int .i64 b))
      have R4 := Lib.hid (R3.out.far (p := ⟨g, k, none⟩) (by simp; omega) (.int .i64 b))
      have L4 := Lib.hid (L3.out.setCell (p := ⟨g, k, none⟩) (by simp; omega) (.int .i64 b))
      go_roundw
      case rel => exact ⟨k + 1, by omega, by go_num, G4.out, K4.out, R4.out, L4.out⟩
      case measure => simp [intOf]; omega
    · obtain rfl : k = m := by omega
      have HOk := Lib.hid (fun (w : World) (hG : Blk w g 3 ((bl N W k).map (Value.int .i64)).toArray) => HO.out w w.heap.size W (some ⟨g, 0, none⟩) (bl N W k) (by have := hG.reads64 (bin_wf (bits_bin HBL.out)) hG.lt; rw [bl_len] at this; exact this) (Nat.le_refl _) HBL.out)
      go_wp2_with fail
      all_goals
        refine Calls.mono (HOk.out _ HG.out) ?_
        rintro e w3 ⟨rfl, hb⟩
        have R3 := Lib.hid (HR.out.below hb HR.out.lt)
        have L3 := Lib.hid (HL.out.trans (hb.mono HL.out.size))
        clear hb f0 f1 f2
        obtain ⟨r0, r1, r2⟩ := R3.out.c3
        have z0 := R3.out.frozen 0
        have z1 := R3.out.frozen 1
        have z2 := R3.out.frozen 2
        go_wp2
        refine bodyPost_ret (v := adr s X Y) (by simp [results, Tryz.results104, go_sem, r0, r1, r2]) rfl ⟨rfl, ?_⟩
        iterate 3 refine Below.setCell ?_ (by simp) _
        exact L3.out
end Go.Proofs.YtgfkmgbcajdcdaaGreatDoor
