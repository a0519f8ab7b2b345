/-
  prefix.Bit of any address.
-/
import Derived.Test.YtabbclocgkhnhaaPLs
namespace Go.Proofs.Ytabbclocgkhnhaa
open Go.RowKit
set_option linter.unusedVariables false

def bitV (s : Bool) (h l : Nat) (i : Int) : Int := if vld s h l = true ∧ 0 ≤ i ∧ i < (wd s : Int) then ((bt (nm h l) (wd s) i.toNat : Nat) : Int) else 0
theorem before_is (s : Bool) (h l z : Int) (hz : 128 - (wd s : Int) = z) (w : World) :
    Calls Try.prog 78 #[adr s h l] w fun e w' => e = .returned (.int .i64 z) ∧ Below w.heap.size w w' := by
  subst hz; exact before_at s h l _ rfl w
theorem one_bit (x : Nat) (j : Nat) (hx : N64 x) : bits BinOp.and IntKind.u64 ((x : Int) / 2 ^ j) 1 = ((x / 2 ^ j % 2 : Nat) : Int) := by
  have e : (x : Int) / 2 ^ j = ((x / 2 ^ j : Nat) : Int) := by simp
  have h1 : x / 2 ^ j < 18446744073709551616 := Nat.lt_of_le_of_lt (Nat.div_le_self _ _) hx
  rw [e, show (1 : Int) = ((1 : Nat) : Int) from rfl, u64_and_nat _ 1 h1 (by decide), nat_mask1]
theorem wrap_bit (n : Nat) : wrap64 ((n % 2 : Nat) : Int) = ((n % 2 : Nat) : Int) := by
  unfold wrap64; omega
theorem ret_i64 {a b : Int} (h : a = b) : Ending.returned (.int .i64 a) = .returned (.int .i64 b) := by rw [h]
theorem bit_val (x : Nat) (j k : Nat) (hx : N64 x) (hj : j = k) : wrap64 (bits BinOp.and IntKind.u64 ((x : Int) / 2 ^ j) 1) = ((x / 2 ^ k % 2 : Nat) : Int) := by
  rw [one_bit x j hx, wrap_bit, hj]

end Go.Proofs.Ytabbclocgkhnhaa
