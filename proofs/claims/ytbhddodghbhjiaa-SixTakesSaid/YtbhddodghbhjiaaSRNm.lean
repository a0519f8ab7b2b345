/-
  The document's own num of layer 7, and further.
-/
import Derived.Test.YtbhddodghbhjiaaSCn
import Derived.Test.YtbhddodghbhjiaaRGet
import Derived.Test.YtbhddodghbhjiaaFConv
import Derived.Test.YtbhddodghbhjiaaFVal
namespace Go.Proofs.Ytbhddodghbhjiaa
open Go.RowKit
set_option linter.unusedVariables false

set_option maxHeartbeats 2000000 in
theorem srnum (s : ByteArray) (i k : Nat) (hk : k ≤ 8) (hi : i ≤ 100) (h : i + k ≤ s.size) (w : World) :
    Calls Try.prog 48 #[.string s, .int .i64 (i : Int), .int .i64 (k : Int)] w fun e w' => e = .returned (.int .u64 (nA (byt s) i k)) ∧ Below w.heap.size w w' := by
  obtain ⟨E, hE⟩ : ∃ E, s.extract i (i + k) = E := ⟨_, rfl⟩
  have hEs : E.size = k := by rw [← hE, ByteArray.size_extract]; omega
  have bE : byt E = ((byt s).drop i).take k := by
    rw [← hE, byt_ext', List.drop_take]
    congr 1; omega
  have hcv := fun W => conv_bytes W E
  rw [hEs] at hcv
  have HRI := Lib.hid (fun W => bytesWorld_ri W E)
  have HBW := Lib.hid (bytesWorld_below w E)
  rw [hEs, bE] at HRI
  have hv : numOf (((((byt s).drop i).take k).drop 0).take k) = nA (byt s) i k := by
    unfold nA
    rw [List.drop_zero, List.take_take, Nat.min_self]
  have HG := Lib.hid (fun (W : World) (A : Option Addr) (c : Nat) (hz : RI .u8 W W.heap.size A k (((byt s).drop i).take k)) => rget_yes W W.heap.size A k c 0 k _ hz hk (by omega) (by omega))
  rw [hv] at HG
  obtain ⟨T, hT⟩ : ∃ T, i + k = T := ⟨_, rfl⟩
  have hTI : (i : Int) + (k : Int) = (T : Int) := by omega
  rw [hT] at hE h
  have h1 : (T : Int) ≤ s.size := by omega
  have h2 : (i : Int) ≤ (T : Int) := by omega
  have h3 : (T : Int) ≤ 108 := by omega
  clear hv bE hEs hT h
  go_enter Try.func48, Try.ntmps48
  go_wp2_with fail
  refine Calls.mono (HG.out _ _ _ (HRI.out w)) ?_
  rintro e w1 ⟨rfl, rfl⟩
  clear hcv
  go_wp2
  go_ret
  exact ⟨rfl, HBW.out⟩
theorem further_any (n : Int) (w : World) : Calls Try.prog 50 #[.int .i64 n] w fun e w' => e = .returned (.bool (fur n)) ∧ w = w' := by
  have HF : Hid (fur n = (n == 0 || n == 43 || n == 60 || n == 44)) := Lib.hid rfl
  by_cases h0 : n = 0
  · subst h0
    go_enter Try.func50, Try.ntmps50
    go_wp2
    go_ret
    exact ⟨rfl, rfl⟩
  by_cases h1 : n = 43
  · subst h1
    go_enter Try.func50, Try.ntmps50
    go_wp2
    go_ret
    exact ⟨rfl, rfl⟩
  by_cases h2 : n = 60
  · subst h2
    go_enter Try.func50, Try.ntmps50
    go_wp2
    go_ret
    exact ⟨rfl, rfl⟩
  by_cases h3 : n = 44
  · subst h3
    go_enter Try.func50, Try.ntmps50
    go_wp2
    go_ret
    exact ⟨rfl, rfl⟩
  have b0 : (n == 0) = false := by simpa using h0
  have b1 : (n == 43) = false := by simpa using h1
  have b2 : (n == 60) = false := by simpa using h2
  have b3 : (n == 44) = false := by simpa using h3
  have hf : fur n = false := by rw [HF.out, b0, b1, b2, b3]; rfl
  have HFF := Lib.hid hf
  clear h0 h1 h2 h3 hf
  go_enter Try.func50, Try.ntmps50
  go_wp2
  go_ret
  exact ⟨ret_bool (by rw [HFF.out]), rfl⟩
end Go.Proofs.Ytbhddodghbhjiaa
