/-
  Several texts in one: ENum, EMac, Valid, PNum, Tch, Sta, Appk, Own.
-/
import Derived.Test.YtgfkmgbcajdcdaaGreatDoorZaa
import Derived.Laws.BytesArg
import Derived.Laws.BitsAllLaws
import Derived.Test.YtgfkmgbcajdcdaaGreatDoorRows
import Derived.WalkKit
import Derived.Laws.CopyRow
import Derived.Laws.Tables
import Derived.Deep.RegionHeld
import Derived.Lib.Hide
import Derived.Deep.OwnRows
import Derived.Maps.AppendAt
import Derived.Laws.AppendOwnNone
import Derived.WalkSpells
import Derived.WalkLawsBesides
import Derived.Outline
import Derived.BigQuiet
import Derived.Deep.QuietTactic
import Derived.Deep.RegionHeld3
import Derived.StillTailTactics
set_option linter.unusedVariables false
set_option maxRecDepth 100000
set_option maxHeartbeats 16000000
namespace Go.Proofs.YtgfkmgbcajdcdaaGreatDoor
open Go.RowKit

theorem By.wf {l : List Int} (h : By l) : ∀ z ∈ l, (Lit.int .u8 z).wf = true := fun z hz => wf_u8 (h z hz)
end Go.Proofs.YtgfkmgbcajdcdaaGreatDoor

namespace Go.Proofs.YtgfkmgbcajdcdaaGreatDoor
open Go.RowKit

def clsV (s : Bool) (h l : Int) : Int :=
 if (s || (decide (h = 0) && decide (l ≤ 4294967295))) = false then -1 else
 if s = true then (if h = 0 ∧ l = 0 then 0 else if h = 0 ∧ l = 1 then 1 else if h / 18014398509481984 = 1018 then 2 else if h / 72057594037927936 = 255 then 3 else 5)
 else (if l = 0 then 0 else if l / 16777216 = 127 then 1 else if l / 65536 = 43518 then 2 else if l = 4294967295 then 4 else if l / 268435456 = 14 then 3 else 5)
end Go.Proofs.YtgfkmgbcajdcdaaGreatDoor

namespace Go.Proofs.YtgfkmgbcajdcdaaGreatDoor
open Go.RowKit

abbrev adr (s : Bool) (h l : Int) : Value := .agg #[.bool s, .int .u64 h, .int .u64 l]
def U6 (n : Int) : Prop := 0 ≤ n ∧ n ≤ 18446744073709551615
def vld (s : Bool) (h l : Int) : Bool := s || (decide (h = 0) && decide (l ≤ 4294967295))
theorem vld_six (h l : Int) : vld true h l = true := rfl
theorem vld_four {h l : Int} (e : vld false h l = true) : h = 0 ∧ l ≤ 4294967295 := by simpa [vld] using e
theorem valid_any (s : Bool) (h l : Int) (w : World) :
  Calls Tryz.prog 71 #[adr s h l] w fun e w' => e = .returned (.bool (vld s h l)) ∧ Below w.heap.size w w' := by
 cases s
 ·by_cases h0 : h = 0
  ·subst h0
   by_cases hl : l ≤ 4294967295
   ·go_enter Tryz.func71, Tryz.ntmps71
    go_wp2
    go_ret
    exact ⟨by simp [vld, hl], (Below.refl _ _).alloc (Nat.le_refl _) _⟩
   ·go_enter Tryz.func71, Tryz.ntmps71
    go_wp2
    go_ret
    exact ⟨by simp [vld, hl], (Below.refl _ _).alloc (Nat.le_refl _) _⟩
  ·go_enter Tryz.func71, Tryz.ntmps71
   go_wp2
   go_ret
   exact ⟨by simp [vld, h0], (Below.refl _ _).alloc (Nat.le_refl _) _⟩
 ·go_enter Tryz.func71, Tryz.ntmps71
  go_wp2
  go_ret
  exact ⟨by simp [vld], (Below.refl _ _).alloc (Nat.le_refl _) _⟩
theorem rvalid_any (s : Bool) (h l : Int) (w : World) :
  Calls Tryz.prog 102 #[adr s h l] w fun e w' => e = .returned (.bool (vld s h l)) ∧ Below w.heap.size w w' := by
 cases s
 ·by_cases h0 : h = 0
  ·subst h0
   by_cases hl : l ≤ 4294967295
   ·have hl' : l < 4294967296 := by omega
    go_enter Tryz.func102, Tryz.ntmps102
    go_wp2
    go_ret
    exact ⟨by simp [vld, hl], (Below.refl _ _).alloc (Nat.le_refl _) _⟩
   ·have hl' : ¬ l < 4294967296 := by omega
    go_enter Tryz.func102, Tryz.ntmps102
    go_wp2
    go_ret
    exact ⟨by simp [vld, hl], (Below.refl _ _).alloc (Nat.le_refl _) _⟩
  ·go_enter Tryz.func102, Tryz.ntmps102
   go_wp2
   go_ret
   exact ⟨by simp [vld, h0], (Below.refl _ _).alloc (Nat.le_refl _) _⟩
 ·go_enter Tryz.func102, Tryz.ntmps102
  go_wp2
  go_ret
  exact ⟨by simp [vld], (Below.refl _ _).alloc (Nat.le_refl _) _⟩

def lss (s : Bool) (h l : Int) (s' : Bool) (h' l' : Int) : Bool :=
 vld s h l && vld s' h' l' && (if s ≠ s' then s' else if h ≠ h' then decide (h < h') else decide (l < l'))

theorem valid_at (s : Bool) (h l : Int) (w : World) {b : Bool} (e : vld s h l = b) :
  Calls Tryz.prog 71 #[adr s h l] w fun e w' => e = .returned (.bool b) ∧ Below w.heap.size w w' := by
 subst e; exact valid_any s h l w
theorem rvalid_at (s : Bool) (h l : Int) (w : World) {b : Bool} (e : vld s h l = b) :
  Calls Tryz.prog 102 #[adr s h l] w fun e w' => e = .returned (.bool b) ∧ Below w.heap.size w w' := by
 subst e; exact rvalid_any s h l w
theorem Blk.c3 {w : World} {g : Nat} {t : TypeId} {a b c : Value} (h : Blk w g t #[a, b, c]) : w.cell? ⟨g, 0, none⟩ = some a ∧ w.cell? ⟨g, 1, none⟩ = some b ∧ w.cell? ⟨g, 2, none⟩ = some c :=
 ⟨by rw [h.cell]; rfl, by rw [h.cell]; rfl, by rw [h.cell]; rfl⟩
theorem bcell {W w1 : World} (hb : Below W.heap.size W w1) : (∀ b o, b < W.heap.size → w1.cell? ⟨b, o, none⟩ = W.cell? ⟨b, o, none⟩) ∧ (∀ b o, b < W.heap.size → w1.frozen? ⟨b, o, none⟩ = W.frozen? ⟨b, o, none⟩) :=
 ⟨fun b o h => hb.cell (p := ⟨b, o, none⟩) h, fun b o h => hb.frozen (p := ⟨b, o, none⟩) h⟩

theorem ret_bool {a b : Bool} (h : a = b) : Ending.returned (.bool a) = .returned (.bool b) := by rw [h]

theorem less_any (s : Bool) (h l : Int) (s' : Bool) (h' l' : Int) (w : World) :
  Calls Tryz.prog 116 #[adr s h l, adr s' h' l'] w fun e w' => e = .returned (.bool (lss s h l s' h' l')) ∧ Below w.heap.size w w' := by
 obtain ⟨V1, hV1⟩ : ∃ v, vld s h l = v := ⟨_, rfl⟩
 obtain ⟨V2, hV2⟩ : ∃ v, vld s' h' l' = v := ⟨_, rfl⟩
 obtain ⟨R, hR⟩ : ∃ v, lss s h l s' h' l' = v := ⟨_, rfl⟩
 have HR := lH hR
 rw [hR]
 have H1 := lH (fun W => valid_at s h l W hV1)
 have H2 := lH (fun W => valid_at s' h' l' W hV2)
 have G1 := lH hV1
 have G2 := lH hV2
 clear hR hV1 hV2
 cases V1
 ·go_enter Tryz.func116, Tryz.ntmps116
  go_wp2_with fail
  refine cZm (H1.out _) ?_
  rintro e w1 ⟨rfl, hb⟩
  go_wp2
  go_ret
  exact ⟨by rw [← HR.out]; simp [lss, G1.out], (((Below.refl _ _).alloc (Nat.le_refl _) _).alloc (by simp) _).trans (hb.mono (by simp; omega))⟩
 ·cases V2
  ·go_enter Tryz.func116, Tryz.ntmps116
   go_wp2_with fail
   refine cZm (H1.out _) ?_
   rintro e w1 ⟨rfl, hb⟩
   obtain ⟨hc, hf⟩ := bcell hb
   go_wp2_with fail
   refine cZm (H2.out _) ?_
   rintro e w2 ⟨rfl, hb2⟩
   go_wp2
   go_ret
   have B1 := (((Below.refl _ w).alloc (Nat.le_refl _) _).alloc (by simp) _).trans (hb.mono (by simp; omega))
   exact ⟨by rw [← HR.out]; simp [lss, G1.out, G2.out], B1.trans (hb2.mono B1.size)⟩
  ·rcases s with _ | _ <;> rcases s' with _ | _
   all_goals first | (by_cases hh : h = h'; subst hh) | skip
   all_goals
    go_enter Tryz.func116, Tryz.ntmps116
    go_wp2_with fail
    refine cZm (H1.out _) ?_
    rintro e w1 ⟨rfl, hb⟩
    obtain ⟨hc, hf⟩ := bcell hb
    go_wp2_with fail
    refine cZm (H2.out _) ?_
    rintro e w2 ⟨rfl, hb2⟩
    obtain ⟨c0, c1, c2⟩ := ((((Blk.new w 28 _).alloc _).below hb (by simp only [zA]; omega)).below hb2 (by have := hb.size; simp at this; omega)).c3
    obtain ⟨d0, d1, d2⟩ := (((Blk.new (w.alloc _) 28 _).below hb (by simp only [zA]; omega)).below hb2 (by have := hb.size; simp at this ⊢; omega)).c3
    rw [zA] at d0 d1 d2
    have B1 := lH ((((Below.refl _ w).alloc (Nat.le_refl _) _).alloc (by simp) _).trans (hb.mono (by simp; omega)))
    have B2 := lH (B1.out.trans (hb2.mono B1.out.size))
    go_wp2
    go_ret
    exact ⟨ret_bool (by rw [← HR.out]; simp [lss, G1.out, G2.out, *]), B2.out⟩
def byts (s : Bool) (h l : Int) : List Int := if vld s h l then (if s then putOf 8 h ++ putOf 8 l else putOf 4 l) else []
end Go.Proofs.YtgfkmgbcajdcdaaGreatDoor

namespace Go.Proofs.YtgfkmgbcajdcdaaGreatDoor

theorem pw (k : Nat) : 0 < 2 ^ k := Nat.two_pow_pos k
def ct (n k : Nat) : Nat := n / 2 ^ k * 2 ^ k
theorem ct_le (n k : Nat) : ct n k ≤ n := Nat.div_mul_le_self _ _
theorem ct_zero (n : Nat) : ct n 0 = n := by simp [ct]
theorem ct_ct (n k : Nat) : ct (ct n k) k = ct n k := by unfold ct; rw [Nat.mul_div_cancel _ (pw k)]
theorem ct_div (n k : Nat) : ct n k / 2 ^ k = n / 2 ^ k := by unfold ct; rw [Nat.mul_div_cancel _ (pw k)]
theorem ct_eq {n m k : Nat} : ct n k = ct m k ↔ n / 2 ^ k = m / 2 ^ k := by
 constructor
 ·intro h; rw [← ct_div n, ← ct_div m, h]
 ·intro h; unfold ct; rw [h]
theorem div_pow_add (n a b : Nat) : n / 2 ^ (a + b) = n / 2 ^ a / 2 ^ b := by rw [Nat.pow_add, Nat.div_div_eq_div_mul]
theorem div_mono {n m a b : Nat} (h : n / 2 ^ a = m / 2 ^ a) (hab : a ≤ b) : n / 2 ^ b = m / 2 ^ b := by
 obtain ⟨c, rfl⟩ := Nat.exists_eq_add_of_le hab
 rw [div_pow_add, div_pow_add, h]
theorem ct_lt {n k : Nat} (h : n < 2 ^ k) : ct n k = 0 := by unfold ct; rw [Nat.div_eq_of_lt h, Nat.zero_mul]
theorem ct_trans {n j k : Nat} (h : j ≤ k) : ct (ct n j) k = ct n k := by
 apply ct_eq.2
 exact div_mono (by rw [ct_div]) h

theorem and_mask (x k : Nat) (hx : x < 2 ^ 64) (hk : k ≤ 64) : x &&& (2 ^ 64 - 2 ^ k) = ct x k := by
 apply Nat.eq_of_testBit_eq
 intro i
 have e : 2 ^ 64 - 2 ^ k = 2 ^ 64 - ((2 ^ k - 1) + 1) := by have := pw k; omega
 have hlt : 2 ^ k - 1 < 2 ^ 64 := by
  have h1 : 2 ^ k ≤ 2 ^ 64 := Nat.pow_le_pow_right (by decide) hk
  have := pw k; omega
 unfold ct
 rw [Nat.testBit_and, e, Nat.testBit_two_pow_sub_succ hlt, Nat.testBit_two_pow_sub_one, ← Nat.shiftRight_eq_div_pow, ← Nat.shiftLeft_eq, Nat.testBit_shiftLeft, Nat.testBit_shiftRight]
 by_cases h1 : i < k
 ·simp [h1]; omega
 ·have h2 : k ≤ i := by omega
  rw [show k + (i - k) = i by omega]
  by_cases h3 : i < 64
  ·simp [h1, h2, h3]
  ·have : x.testBit i = false := Nat.testBit_lt_two_pow (Nat.lt_of_lt_of_le hx (Nat.pow_le_pow_right (by decide) (by omega)))
   simp [this]

def cmn : Nat → Nat → Nat → Nat
 | 0, _, _ => 0
 | k + 1, n, m => if n / 2 ^ k % 2 = m / 2 ^ k % 2 then cmn k n m + 1 else 0
theorem cmn_succ (k n m : Nat) : cmn (k + 1) n m = if n / 2 ^ k % 2 = m / 2 ^ k % 2 then cmn k n m + 1 else 0 := rfl
theorem dv_step (n k : Nat) : n / 2 ^ k = n / 2 ^ (k + 1) * 2 + n / 2 ^ k % 2 := by
 rw [Nat.pow_succ, ← Nat.div_div_eq_div_mul]; omega
theorem div_bit {n m k : Nat} (h : n / 2 ^ (k + 1) = m / 2 ^ (k + 1)) : n / 2 ^ k = m / 2 ^ k ↔ n / 2 ^ k % 2 = m / 2 ^ k % 2 := by
 constructor
 ·intro e; rw [e]
 ·intro e; rw [dv_step n k, dv_step m k, h, e]
theorem cmn_ge : ∀ (k n m : Nat), n / 2 ^ k = m / 2 ^ k → ∀ b, b ≤ k → (b ≤ cmn k n m ↔ n / 2 ^ (k - b) = m / 2 ^ (k - b))
 | 0, n, m, h, b, hb => by
  obtain rfl : b = 0 := by omega
  simpa [cmn] using h
 | k + 1, n, m, h, b, hb => by
  cases b with
  | zero => simpa using h
  | succ b =>
   unfold cmn
   rw [show k + 1 - (b + 1) = k - b by omega]
   by_cases e : n / 2 ^ k % 2 = m / 2 ^ k % 2
   ·rw [if_pos e]
    have h1 := (div_bit h).2 e
    have := cmn_ge k n m h1 b (by omega)
    omega
   ·rw [if_neg e]
    refine ⟨fun x => by omega, fun x => ?_⟩
    exact absurd ((div_bit h).1 (div_mono x (by omega))) e
def nm (h l : Nat) : Nat := h * 2 ^ 64 + l
theorem nm_ct (h l k : Nat) (hl : l < 2 ^ 64) : ct (nm h l) k = nm (ct h (k - 64)) (ct l k) := by
 unfold nm
 rcases Nat.lt_or_ge k 64 with hk | hk
 ·rw [show k - 64 = 0 by omega, ct_zero]
  unfold ct
  have e : (2 : Nat) ^ 64 = 2 ^ (64 - k) * 2 ^ k := by rw [← Nat.pow_add]; congr 1; omega
  have e2 : h * 2 ^ 64 = 2 ^ k * (h * 2 ^ (64 - k)) := by rw [e, Nat.mul_comm (2 ^ (64 - k)), ← Nat.mul_assoc, Nat.mul_comm h, Nat.mul_assoc]
  rw [e2, Nat.mul_add_div (pw k), Nat.add_mul, Nat.mul_comm (2 ^ k) (h * 2 ^ (64 - k))]
 ·have hl0 : ct l k = 0 := ct_lt (Nat.lt_of_lt_of_le hl (Nat.pow_le_pow_right (by decide) hk))
  rw [hl0]
  obtain ⟨c, rfl⟩ := Nat.exists_eq_add_of_le hk
  rw [show 64 + c - 64 = c by omega]
  unfold ct
  rw [div_pow_add, Nat.mul_comm h, Nat.mul_add_div (pw 64), Nat.div_eq_of_lt hl, Nat.add_zero, Nat.add_zero, Nat.pow_add]
  rw [Nat.mul_comm (2 ^ 64) (2 ^ c), ← Nat.mul_assoc]
theorem nm_inj {h l h' l' : Nat} (hl : l < 2 ^ 64) (hl' : l' < 2 ^ 64) : nm h l = nm h' l' ↔ h = h' ∧ l = l' := by
 unfold nm
 refine ⟨fun e => ?_, fun ⟨a, b⟩ => by rw [a, b]⟩
 omega
theorem nm_bit_hi (h l k : Nat) (hl : l < 2 ^ 64) : nm h l / 2 ^ (64 + k) = h / 2 ^ k := by
 unfold nm
 rw [div_pow_add, Nat.mul_comm h, Nat.mul_add_div (pw 64), Nat.div_eq_of_lt hl, Nat.add_zero]
theorem nm_bit_lo (h l k : Nat) (hk : k < 64) : nm h l / 2 ^ k % 2 = l / 2 ^ k % 2 := by
 unfold nm
 have e : (2 : Nat) ^ 64 = 2 ^ (64 - k) * 2 ^ k := by rw [← Nat.pow_add]; congr 1; omega
 have e2 : h * 2 ^ 64 = 2 ^ k * (h * 2 ^ (64 - k)) := by rw [e, Nat.mul_comm (2 ^ (64 - k)), ← Nat.mul_assoc, Nat.mul_comm h, Nat.mul_assoc]
 have e3 : (2 : Nat) ^ (64 - k) = 2 * 2 ^ (64 - k - 1) := by rw [← Nat.pow_succ']; congr 1; omega
 rw [e2, Nat.mul_add_div (pw k), e3, Nat.mul_left_comm, Nat.mul_add_mod]

def bt (n W i : Nat) : Nat := n / 2 ^ (W - 1 - i) % 2
theorem bt_le (n W i : Nat) : bt n W i ≤ 1 := by unfold bt; omega
theorem bt_ct (n W b i : Nat) (hb : b ≤ W) (hi : i < W) : bt (ct n (W - b)) W i = if i < b then bt n W i else 0 := by
 unfold bt
 by_cases h : i < b
 ·rw [if_pos h, div_mono (ct_div n (W - b)) (by omega)]
 ·rw [if_neg h]
  obtain ⟨c, hc⟩ := Nat.exists_eq_add_of_le (show W - 1 - i + 1 ≤ W - b by omega)
  unfold ct
  rw [hc, Nat.pow_add, Nat.pow_succ]
  obtain ⟨Q, hQ⟩ : ∃ Q, Q = n / (2 ^ (W - 1 - i) * 2 * 2 ^ c) := ⟨_, rfl⟩
  rw [← hQ, show Q * (2 ^ (W - 1 - i) * 2 * 2 ^ c) = 2 ^ (W - 1 - i) * (2 * (Q * 2 ^ c)) by simp only [Nat.mul_assoc, Nat.mul_left_comm, Nat.mul_comm], Nat.mul_div_cancel_left _ (pw _), Nat.mul_mod_right]
def f2 (zs : List Int) : Int := zs.foldl (fun a z => a * 2 + z) 0
theorem f2_snoc (zs : List Int) (z : Int) : f2 (zs ++ [z]) = f2 zs * 2 + z := by unfold f2; rw [List.foldl_append]; rfl
def IsBits (n W : Nat) (zs : List Int) : Prop := zs.length = W ∧ ∀ i, i < W → zs[i]? = some ((bt n W i : Nat) : Int)
theorem f2_take {n W : Nat} {zs : List Int} (h : IsBits n W zs) (hn : n < 2 ^ W) : ∀ j, j ≤ W → f2 (zs.take j) = ((n / 2 ^ (W - j) : Nat) : Int)
 | 0, _ => by rw [List.take_zero, Nat.sub_zero, Nat.div_eq_of_lt hn]; rfl
 | j + 1, hj => by
  obtain ⟨h1, h2⟩ := h
  have e : zs.take (j + 1) = zs.take j ++ [((bt n W j : Nat) : Int)] := by
   rw [List.take_add_one, h2 j (by omega)]; rfl
  rw [e, f2_snoc, f2_take ⟨h1, h2⟩ hn j (by omega)]
  unfold bt
  have := dv_step n (W - 1 - j)
  rw [show W - 1 - j + 1 = W - j by omega] at this
  rw [show W - (j + 1) = W - 1 - j by omega, this]
  omega
theorem f2_all {n W : Nat} {zs : List Int} (h : IsBits n W zs) (hn : n < 2 ^ W) : f2 zs = (n : Int) := by
 have := f2_take h hn W (Nat.le_refl _)
 rw [List.take_of_length_le (by rw [h.1]; exact Nat.le_refl _), Nat.sub_self, Nat.pow_zero, Nat.div_one] at this
 exact this
theorem f2_hi {h l : Nat} {zs : List Int} (hb : IsBits (nm h l) 128 zs) (hh : h < 2 ^ 64) (hl : l < 2 ^ 64) : f2 (zs.take 64) = (h : Int) := by
 have e : nm h l < 2 ^ 128 := by unfold nm; omega
 rw [f2_take hb e 64 (by decide), show 128 - 64 = 64 + 0 by decide, nm_bit_hi h l 0 hl, Nat.pow_zero, Nat.div_one]
theorem f2_lo {h l : Nat} {zs : List Int} (hb : IsBits (nm h l) 128 zs) (hl : l < 2 ^ 64) : f2 (zs.drop 64) = (l : Int) := by
 refine f2_all (W := 64) ⟨by rw [List.length_drop, hb.1], fun i hi => ?_⟩ hl
 rw [List.getElem?_drop, hb.2 (64 + i) (by omega)]
 unfold bt
 rw [show 128 - 1 - (64 + i) = 64 - 1 - i by omega, nm_bit_lo h l _ (by omega)]

def wd (s : Bool) : Nat := if s then 128 else 32
def okn (s : Bool) (b : Int) : Bool := decide (0 ≤ b) && decide (b ≤ (wd s : Int))
def kk (s : Bool) (b : Int) : Nat := wd s - b.toNat
def hld (s : Bool) (h l : Nat) (b : Int) (s' : Bool) (h' l' : Nat) : Bool :=
 vld s' h' l' && okn s' b && decide (s' = s) && decide (ct h' (kk s' b - 64) = h) && decide (ct l' (kk s' b) = l)
def pvl (s : Bool) (h l : Nat) (b : Int) : Bool := hld s h l b s h l
def pls (s : Bool) (h l : Nat) (b : Int) (s' : Bool) (h' l' : Nat) (b' : Int) : Bool :=
 pvl s h l b && pvl s' h' l' b' && (lss s h l s' h' l' || (decide (s = s') && decide (h = h') && decide (l = l') && decide (b < b')))

def N64 (n : Nat) : Prop := n < 18446744073709551616
theorem N64.lt {n : Nat} (h : N64 n) : n < 2 ^ 64 := h
theorem okn_iff {s : Bool} {b : Int} : okn s b = true ↔ 0 ≤ b ∧ b ≤ (wd s : Int) := by simp [okn]
theorem hld_iff {s : Bool} {h l : Nat} {b : Int} {s' : Bool} {h' l' : Nat} (hl : N64 l) (hl' : N64 l') :
  hld s h l b s' h' l' = true ↔ vld s' h' l' = true ∧ okn s' b = true ∧ s' = s ∧ ct (nm h' l') (kk s' b) = nm h l := by
 have e : ct (nm h' l') (kk s' b) = nm h l ↔ ct h' (kk s' b - 64) = h ∧ ct l' (kk s' b) = l := by
  rw [nm_ct h' l' _ hl'.lt]
  exact nm_inj (Nat.lt_of_le_of_lt (ct_le _ _) hl'.lt) hl.lt
 rw [e]
 unfold hld
 simp only [Bool.and_eq_true, decide_eq_true_eq]
 constructor
 ·rintro ⟨⟨⟨⟨a, b⟩, c⟩, d⟩, e⟩; exact ⟨a, b, c, d, e⟩
 ·rintro ⟨a, b, c, d, e⟩; exact ⟨⟨⟨⟨a, b⟩, c⟩, d⟩, e⟩
theorem pvl_iff {s : Bool} {h l : Nat} {b : Int} (hl : N64 l) : pvl s h l b = true ↔ vld s h l = true ∧ okn s b = true ∧ ct (nm h l) (kk s b) = nm h l := by
 unfold pvl
 rw [hld_iff hl hl]
 exact ⟨fun ⟨a, b, _, c⟩ => ⟨a, b, c⟩, fun ⟨a, b, c⟩ => ⟨a, b, rfl, c⟩⟩
theorem vld_ct {s : Bool} {h l h' l' k : Nat} (hl : N64 l) (hl' : N64 l') (hv : vld s h' l' = true) (e : ct (nm h' l') k = nm h l) : vld s h l = true := by
 cases s
 ·obtain ⟨e1, e2⟩ := vld_four hv
  rw [nm_ct h' l' _ hl'.lt] at e
  obtain ⟨a, b⟩ := (nm_inj (Nat.lt_of_le_of_lt (ct_le _ _) hl'.lt) hl.lt).1 e
  have h1 := ct_le h' (k - 64)
  have h2 := ct_le l' k
  have h0 : h = 0 := by omega
  have h3 : (l : Int) ≤ 4294967295 := by omega
  subst h0
  simp [vld]; omega
 ·rfl
theorem hld_pvl {s : Bool} {h l : Nat} {b : Int} {s' : Bool} {h' l' : Nat} (hl : N64 l) (hl' : N64 l') (hh : hld s h l b s' h' l' = true) : pvl s h l b = true := by
 obtain ⟨a, b, rfl, c⟩ := (hld_iff hl hl').1 hh
 refine (pvl_iff hl).2 ⟨vld_ct hl hl' a c, b, ?_⟩
 rw [← c, ct_ct]
theorem hld_via {s : Bool} {h l : Nat} {b : Int} {s' : Bool} {h' l' : Nat} (hl : N64 l) (hl' : N64 l') :
  hld s h l b s' h' l' = true ↔ pvl s h l b = true ∧ vld s' h' l' = true ∧ s = s' ∧ nm h l / 2 ^ kk s b = nm h' l' / 2 ^ kk s b := by
 constructor
 ·intro hh
  refine ⟨hld_pvl hl hl' hh, ?_⟩
  obtain ⟨a, b, rfl, c⟩ := (hld_iff hl hl').1 hh
  refine ⟨a, rfl, ?_⟩
  rw [← c, ct_div]
 ·rintro ⟨hp, a, rfl, c⟩
  obtain ⟨x, y, z⟩ := (pvl_iff hl).1 hp
  refine (hld_iff hl hl').2 ⟨a, y, rfl, ?_⟩
  rw [← z, ct_eq, c]
theorem rk_lt {s : Bool} {h l : Nat} (hh : N64 h) (hl : N64 l) : nm h l < 2 ^ 128 := by unfold N64 at *; unfold nm; omega
def comV (s : Bool) (h l : Nat) (s' : Bool) (h' l' : Nat) : Int :=
 if vld s h l = true ∧ vld s' h' l' = true ∧ s = s' then (cmn (wd s) (nm h l) (nm h' l') : Int) else -1
theorem nm_wd {s : Bool} {h l : Nat} (hh : N64 h) (hl : N64 l) (v : vld s h l = true) : nm h l < 2 ^ wd s := by
 cases s
 ·obtain ⟨a, b⟩ := vld_four v
  unfold nm wd
  have : h = 0 := by omega
  subst this
  simp; omega
 ·exact rk_lt (s := true) hh hl
theorem hld_com {s : Bool} {h l : Nat} {b : Int} {s' : Bool} {h' l' : Nat} (hh : N64 h) (hl : N64 l) (hh' : N64 h') (hl' : N64 l') :
  (pvl s h l b && decide (b ≤ comV s h l s' h' l')) = hld s h l b s' h' l' := by
 rw [Bool.eq_iff_iff, hld_via hl hl']
 simp only [Bool.and_eq_true, decide_eq_true_eq]
 refine and_congr_right fun p => ?_
 obtain ⟨v, o, e⟩ := (pvl_iff hl).1 p
 have o1 := okn_iff.1 o
 unfold comV
 by_cases c : vld s' h' l' = true ∧ s = s'
 ·obtain ⟨v', rfl⟩ := c
  rw [if_pos ⟨v, v', rfl⟩]
  have h0 : nm h l / 2 ^ wd s = nm h' l' / 2 ^ wd s := by
   rw [Nat.div_eq_of_lt (nm_wd hh hl v), Nat.div_eq_of_lt (nm_wd hh' hl' v')]
  have := cmn_ge (wd s) (nm h l) (nm h' l') h0 b.toNat (by omega)
  have e2 : b ≤ (cmn (wd s) (nm h l) (nm h' l') : Int) ↔ b.toNat ≤ cmn (wd s) (nm h l) (nm h' l') := by omega
  rw [e2, this]
  exact ⟨fun x => ⟨v', rfl, x⟩, fun ⟨_, _, x⟩ => x⟩
 ·rw [if_neg (fun x => c x.2)]
  refine ⟨fun x => by omega, fun ⟨x, y, _⟩ => absurd ⟨x, y⟩ c⟩
end Go.Proofs.YtgfkmgbcajdcdaaGreatDoor

namespace Go.Proofs.YtgfkmgbcajdcdaaGreatDoor
open Go.RowKit

structure Tch (w w' : World) (S : List Nat) : Prop where
 os : w'.os = w.os
 tape : w'.tape = w.tape
 output : w'.output = w.output
 size : w.heap.size ≤ w'.heap.size
 block : ∀ k, k < w.heap.size → k ∉ S → w'.heap[k]? = w.heap[k]?
section
variable {w w' w'' : World} {S T : List Nat} {B : Nat}
theorem Tch.below (h : Tch w w' S) (hB : B ≤ w.heap.size) (hS : ∀ s ∈ S, B ≤ s) : Below B w w' :=
 ⟨h.os, h.tape, h.output, h.size, fun k hk => h.block k (by omega) (fun hm => by have := hS k hm; omega)⟩
theorem Tch.of_below (S : List Nat) (h : Below w.heap.size w w') : Tch w w' S := ⟨h.os, h.tape, h.output, h.size, fun k hk _ => h.block k hk⟩
theorem Tch.refl (w : World) (S : List Nat) : Tch w w S := .of_below S (Below.refl _ _)
theorem Tch.trans (h : Tch w w' S) (k : Tch w' w'' S) : Tch w w'' S :=
 ⟨k.os.trans h.os, k.tape.trans h.tape, k.output.trans h.output, Nat.le_trans h.size k.size, fun i hi hn => (k.block i (Nat.lt_of_lt_of_le hi h.size) hn).trans (h.block i hi hn)⟩
theorem Tch.mono (h : Tch w w' S) (hs : ∀ s ∈ S, s ∈ T) : Tch w w' T := ⟨h.os, h.tape, h.output, h.size, fun k hk hn => h.block k hk (fun hm => hn (hs k hm))⟩
theorem Tch.of_grown {g : Nat} (h : w.grownBy w' (some g)) (hg : g ∈ S) : Tch w w' S :=
 ⟨h.os, h.tape, h.output, h.size, fun k hk hn => h.block k hk (fun e => by injection e with e; subst e; exact hn hg)⟩
theorem Tch.set_ (h : Tch w w' S) {p : Addr} (hp : p.block ∈ S) (u : Value) : Tch w (w'.setCell p u) S :=
 ⟨h.os, h.tape, h.output, by rw [World.size_setCell]; exact h.size, fun k hk hn => (Below.heap_setCell w' p u k (fun e => by subst e; exact hn hp)).trans (h.block k hk hn)⟩
theorem Tch.alloc (h : Tch w w' S) (o : Obj) : Tch w (w'.alloc o) S :=
 ⟨h.os, h.tape, h.output, by rw [zA]; have := h.size; omega, fun k hk hn => (Below.heap_alloc w' o k (by have := h.size; omega)).trans (h.block k hk hn)⟩
theorem Tch.drew (h : Tch w w' S) : Tch w w'.drew S := ⟨h.os, h.tape, h.output, h.size, h.block⟩
theorem Tch.drewN (h : Tch w w' S) (n : Nat) : Tch w (w'.drewN n) S := ⟨h.os, h.tape, h.output, h.size, h.block⟩
theorem Tch.of_drew {a b : World} {S : List Nat} (h : Tch a.drew b S) : Tch a b S := ⟨h.os, h.tape, h.output, h.size, h.block⟩
theorem Tch.cell (h : Tch w w' S) {p : Addr} (hp : p.block < w.heap.size) (hn : p.block ∉ S) : w'.cell? p = w.cell? p := by
 unfold World.cell?
 rw [h.block _ hp hn]
theorem Tch.blk {g : Nat} {t : TypeId} {cs : Array Value} (h : Tch w w' S) (hb : Blk w g t cs) (hn : g ∉ S) : Blk w' g t cs := (h.block g hb.lt hn).trans hb
theorem Tch.own {base e size n : Nat} {v : Value} {xs : List Value} (h : Tch w w' S) (ho : w.ownsRow base e size v n xs) (hn : ∀ g, v.ownBlock = some g → g ∉ S) : w'.ownsRow base e size v n xs := by
 refine ⟨ho.1, ?_⟩
 rcases ho.2 with hv | ⟨g, cap, cur, rfl, hb, hgg, rest⟩
 ·exact .inl hv
 ·exact .inr ⟨g, cap, cur, rfl, hb, (h.block g (Array.getElem?_eq_some_iff.1 hgg).1 (hn g rfl)).trans hgg, rest⟩
end
theorem Tch.trans_fre {w w' w'' : World} {S T : List Nat} (h : Tch w w' S) (ht : Tch w' w'' T) (hs : ∀ t ∈ T, t ∈ S ∨ w.heap.size ≤ t) : Tch w w'' S :=
 ⟨ht.os.trans h.os, ht.tape.trans h.tape, ht.output.trans h.output, Nat.le_trans h.size ht.size, fun k hk hn => (ht.block k (Nat.lt_of_lt_of_le hk h.size) (fun hm => by
  rcases hs k hm with h1 | h1
  ·exact hn h1
  ·omega)).trans (h.block k hk hn)⟩
structure Goes (w w' : World) (S S' : List Nat) : Prop where
 tch : Tch w w' S
 fre : ∀ s ∈ S', s ∈ S ∨ w.heap.size ≤ s
theorem Goes.of_tch {w w' : World} {S : List Nat} (h : Tch w w' S) : Goes w w' S S := ⟨h, fun s hs => .inl hs⟩
theorem Goes.below {w w' : World} {S S' : List Nat} {B : Nat} (h : Goes w w' S S') (hB : B ≤ w.heap.size) (hS : ∀ s ∈ S, B ≤ s) : Below B w w' ∧ ∀ s ∈ S', B ≤ s :=
 ⟨h.tch.below hB hS, fun s hs => by rcases h.fre s hs with h1 | h1; exact hS s h1; omega⟩
end Go.Proofs.YtgfkmgbcajdcdaaGreatDoor

namespace Go.Proofs.YtgfkmgbcajdcdaaGreatDoor
open Go.RowKit

structure Sta (w w' : World) (g off : Nat) (t : TypeId) (old cs : Array Value) : Prop where
 blk : ∃ cur, Blk w' g t cur ∧ cur.size = old.size ∧ (∀ p, (p < off ∨ off + cs.size ≤ p) → cur[p]? = old[p]?) ∧ ∀ k, k < cs.size → cur[off + k]? = cs[k]?
 tch : Tch w w' [g]
theorem wpo_sta {o : Oper} {a : Act} {w : World} {K : Act → World → Prop} {Q : Exit → Act → World → Prop} (ty : TypeId) (x y : Operand) (ho : o.op = .store ty x y)
  (g off : Nat) (cs : Array Value) (hx : a.eval x = .pointer (some ⟨g, off, none⟩)) (hy : a.eval y = .agg cs)
  (t : TypeId) (old : Array Value) (hB : Blk w g t old) (n : Nat) (hi : (Tryz.prog.info? ty).map (·.size) = some n) (hn : cs.size = n) (hl : off + n ≤ old.size) (h1 : ∀ v ∈ cs.toList, v.oneCell' = true)
  (h : ∀ w', Sta w w' g off t old cs → K (a.put o.dst undef) w') : o.wp Tryz.prog a w K Q := by
 have hs := run_storeCells_at (P := Tryz.prog) g off t cs.toList 0 old w hB (by simp; omega) h1
 have hv : (storeVar ty ⟨g, off, none⟩ (.agg cs)).run Tryz.prog w = .ok () (w.setRow g (old.toList.take (off + 0) ++ cs.toList ++ old.toList.drop (off + 0 + cs.toList.length)).toArray) := by
  cases hq : Tryz.prog.info? ty with
  | none => simp [hq] at hi
  | some i =>
   have hsz : cs.size = i.size := by simp [hq] at hi; omega
   simp [storeVar, sizeOf, typeInfo, hq, Value.cells, hsz, hs]
 unfold Oper.wp execOp
 simp only [ho, hx, hy, Instr.storeAt, Instr.sureAddr, Sem.run_bind, Sem.run_pure, Result.andThen_ok, hv]
 refine h _ ⟨⟨_, setRow_heap w g old _ t _ hB, by simp; omega, fun p hp => ?_, fun k hk => ?_⟩, ⟨rfl, rfl, rfl, by simp [World.setRow], fun k hk hn => setRow_other w g k _ (fun e => hn (by simp [e]))⟩⟩
 ·simp only [Nat.add_zero, Array.length_toList, List.getElem?_toArray]
  rcases hp with hp | hp
  ·rw [List.append_assoc, List.getElem?_append_left (by simp; omega), List.getElem?_take_of_lt hp, Array.getElem?_toList]
  ·rw [List.getElem?_append_right (by simp; omega), List.getElem?_drop, Array.getElem?_toList]
   congr 1
   simp; omega
 ·simp only [Nat.add_zero, Array.length_toList, List.getElem?_toArray]
  rw [List.getElem?_append_left (by simp; omega), List.getElem?_append_right (by simp; omega), Array.getElem?_toList]
  congr 1
  simp; omega
theorem wpList_sta {ops : Array Oper} {rest : List Oper} {o : Oper} {a : Act} {w : World} {Q : Exit → Act → World → Prop} (hgd : o.guard = none) (ty : TypeId) (x y : Operand) (ho : o.op = .store ty x y)
  (g off : Nat) (cs : Array Value) (hx : a.eval x = .pointer (some ⟨g, off, none⟩)) (hy : a.eval y = .agg cs)
  (t : TypeId) (old : Array Value) (hB : Blk w g t old) (n : Nat) (hi : (Tryz.prog.info? ty).map (·.size) = some n) (hn : cs.size = n) (hl : off + n ≤ old.size) (h1 : ∀ v ∈ cs.toList, v.oneCell' = true)
  (h : ∀ w', Sta w w' g off t old cs → wpList Tryz.prog ops Q rest (a.put o.dst undef) w') : wpList Tryz.prog ops Q (o :: rest) a w :=
 wpList_plain hgd fun _ hK => wpo_sta ty x y ho g off cs hx hy t old hB n hi hn hl h1 (fun w' hw => hK _ _ (h w' hw))
end Go.Proofs.YtgfkmgbcajdcdaaGreatDoor

namespace Go.Proofs.YtgfkmgbcajdcdaaGreatDoor
open Go.RowKit

theorem own_basek {w : World} {base e size n : Nat} {v : Value} {xs : List Value} (h : w.ownsRow base e size v n xs) : ∀ k, v.ownBlock = some k → base ≤ k := by
 intro k hk
 rcases h.2 with ⟨rfl, _⟩ | ⟨g, cap, cur, rfl, h1, _⟩
 ·simp [Value.ownBlock] at hk
 ·simp [Value.ownBlock] at hk; omega

end Go.Proofs.YtgfkmgbcajdcdaaGreatDoor

namespace Go.Proofs.YtgfkmgbcajdcdaaGreatDoor
open Go.RowKit

theorem wpList_apc (tS tE : TypeId) (zv : Value) (sz by_ : Nat) (hu : Tryz.prog.underlying tS = some (.slice tE)) (hinf : (Tryz.prog.info? tE).map (fun i => (i.zero, i.size, i.bytes)) = some (some zv, sz, by_)) (hzs : zv.cells.size = sz) (hsz : 0 < sz) (hby : by_ ≤ 1000)
  (w : World) {ops : Array Oper} {rest : List Oper} {o : Oper} {a : Act} {Q : Exit → Act → World → Prop} (hgd : o.guard = none) (s x : Operand)
  (ho : o.op = .call { callee := .builtin .append, args := #[s, x], argTypes := #[tS, tS] })
  (base : Nat) (v : Value) (n : Nat) (xs : List Value) (hs : a.eval s = v) (hown : w.ownsRow base tE sz v n xs)
  (ad : Addr) (c : Nat) (e : List Value) (hx : a.eval x = .slice (some ad) 1 c) (hl : e.length = sz) (hc : ∀ j u, e[j]? = some u → w.cell? (ad.add j) = some u) (h1 : ∀ u ∈ e, u.oneCell' = true)
  (hn : n ≤ 1000000) (hbase : base ≤ w.heap.size)
  (h : ∀ v' w', w'.ownsRow base tE sz v' (n + 1) (xs ++ e) → w.grownBy w' v.ownBlock → (v'.ownBlock = v.ownBlock ∨ v'.ownBlock = some w.heap.size) → wpList Tryz.prog ops Q rest (a.put o.dst v') w') :
  wpList Tryz.prog ops Q (o :: rest) a w := by
 obtain ⟨i0, hi, hz0, hz1, hz2⟩ := info_parts hinf
 have hb : (n + 1) * by_ ≤ 1000001 * 1000 := Nat.mul_le_mul (by omega) hby
 refine wpList_append_own_at w hgd s x tS ho base tE i0 zv sz by_ hu hi hz0 hz1 hz2 hzs hsz v n xs hs hown ad 1 c e hx (by rw [hl, Nat.one_mul]) hc h1 (by unfold maxLen; omega) (by omega) hbase ?_
 intro v' w' h1 h2 h3 h4
 exact h v' w' h1 h2 h4
theorem own_sl {w : World} {base n sz : Nat} {t : TypeId} {v : Value} {xs : List Value} (h : w.ownsRow base t sz v n xs) :
  ∃ A c, v = .slice A n c ∧ n ≤ c ∧ (0 < n → ∃ g, A = some ⟨g, 0, none⟩ ∧ base ≤ g ∧ g < w.heap.size ∧ ∀ j u, xs[j]? = some u → w.cell? ⟨g, j, none⟩ = some u) := by
 have hc := fun g hg => h.cells (g := g) hg
 rcases h.2 with ⟨rfl, h0⟩ | ⟨g, cap, cur, rfl, h1, h2, h3, h4, h5, h6⟩
 ·subst h0
  exact ⟨none, 0, rfl, Nat.le_refl _, fun h => absurd h (by omega)⟩
 ·refine ⟨_, cap, rfl, h3, fun _ => ⟨g, rfl, h1, (Array.getElem?_eq_some_iff.1 h2).1, fun j u hu => ?_⟩⟩
  have := hc g rfl j u hu
  rwa [show (⟨g, 0, none⟩ : Addr).add j = ⟨g, j, none⟩ by unfold Addr.add; split <;> simp_all] at this
theorem src_new (w : World) (t : TypeId) (e : List Value) : ∀ j u, e[j]? = some u → (w.alloc (.cells e.toArray t)).cell? ((⟨w.heap.size, 0, none⟩ : Addr).add j) = some u := by
 intro j u hu
 rw [show (⟨w.heap.size, 0, none⟩ : Addr).add j = ⟨w.heap.size, j, none⟩ by unfold Addr.add; split <;> simp_all, (Blk.new w t e.toArray).cell]
 simpa using hu
theorem own_lt {w : World} {base n sz : Nat} {t : TypeId} {v : Value} {xs : List Value} (h : w.ownsRow base t sz v n xs) {g : Nat} (hg : v.ownBlock = some g) : g < w.heap.size := (h.lt g hg).2
theorem Tch.of_grown' {w w' : World} {S : List Nat} {row : Option Nat} (h : w.grownBy w' row) (hg : ∀ g, row = some g → g ∈ S) : Tch w w' S :=
 ⟨h.os, h.tape, h.output, h.size, fun k hk hn => h.block k hk (fun e => hn (hg k e.symm))⟩
theorem own_set1 {w : World} {base g n c i : Nat} {t : TypeId} {xs : List Value} (h : w.ownsRow base t 1 (.slice (some ⟨g, 0, none⟩) n c) n xs) (hi : i < n) (u : Value) :
  (w.setCell ⟨g, i, none⟩ u).ownsRow base t 1 (.slice (some ⟨g, 0, none⟩) n c) n (xs.set i u) := by
 rcases h.2 with ⟨e, -⟩ | ⟨g', cap, cur, e, h1, h2, h3, h4, h5, h6⟩
 ·cases e
 ·injection e with e1 e2 e3
  injection e1 with e1
  injection e1 with e1
  subst e1 e3
  have hb : Blk w g t cur := h2
  refine ⟨by have := h.1; simpa using this, .inr ⟨g, c, cur.setIfInBounds i u, rfl, h1, hb.set_ i u, h3, h4, by simpa using h5, ?_⟩⟩
  rw [← h6]
  simp [Array.toList_setIfInBounds, List.take_set]
theorem own_blk {w : World} {base g n c : Nat} {t : TypeId} {xs : List Value} (h : w.ownsRow base t 1 (.slice (some ⟨g, 0, none⟩) n c) n xs) : ∃ cur, Blk w g t cur := by
 rcases h.2 with ⟨e, -⟩ | ⟨g', cap, cur, e, h1, h2, -⟩
 ·cases e
 ·injection e with e1 e2 e3
  injection e1 with e1
  injection e1 with e1
  subst e1
  exact ⟨cur, h2⟩
theorem own_frozen {w : World} {base g n c : Nat} {t : TypeId} {xs : List Value} (h : w.ownsRow base t 1 (.slice (some ⟨g, 0, none⟩) n c) n xs) (i : Nat) : w.frozen? ⟨g, i, none⟩ = false := by
 obtain ⟨cur, hb⟩ := own_blk h
 exact hb.frozen i
theorem nin1 {a b : Nat} (h : a ≠ b) : a ∉ [b] := by simpa using h
theorem own_cell {w : World} {base g n c : Nat} {t : TypeId} {xs : List Value} (h : w.ownsRow base t 1 (.slice (some ⟨g, 0, none⟩) n c) n xs) {j : Nat} {u : Value} (hu : xs[j]? = some u) : w.cell? ⟨g, j, none⟩ = some u := by
 obtain ⟨A, c', e, -, h1⟩ := own_sl h
 injection e with e1 e2 e3
 subst e1
 have hl : xs.length = n := by simpa using h.1
 obtain ⟨g', e, -, -, h2⟩ := h1 (by have := (List.getElem?_eq_some_iff.1 hu).1; omega)
 injection e with e
 injection e with e
 subst e
 exact h2 j u hu
theorem own_mono {w : World} {base base' size n : Nat} {t : TypeId} {v : Value} {xs : List Value} (h : w.ownsRow base t size v n xs) (hb : base' ≤ base) : w.ownsRow base' t size v n xs := by
 refine ⟨h.1, ?_⟩
 rcases h.2 with h1 | ⟨g, cap, cur, e, h1, h2⟩
 ·exact .inl h1
 ·exact .inr ⟨g, cap, cur, e, by omega, h2⟩
end Go.Proofs.YtgfkmgbcajdcdaaGreatDoor
