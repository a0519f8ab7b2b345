/-
  The chapter's examples, plainly.
-/
import Derived.Test.YtbhddodghbhjiaaFNum
namespace Go.Proofs.Ytbhddodghbhjiaa
open Go.RowKit
set_option linter.unusedVariables false

def ex8 : Pk := ⟨0, 0, false, false, 0, 64, 17, false, 0, 167772161, false, 0, 167772162, ⟨#[]⟩, ⟨#[0, 0, 0, 0, 0, 0, 0, 0]⟩⟩
def ex7 : Pk := ⟨0, 0, false, false, 0, 63, 17, false, 0, 167772161, false, 0, 167772162, ⟨#[]⟩, ⟨#[0, 0, 0, 0, 0, 0, 0, 0]⟩⟩
def exS : ByteArray := ⟨#[69, 0, 0, 28, 0, 0, 0, 0, 64, 17, 102, 207, 10, 0, 0, 1, 10, 0, 0, 2, 0, 0, 0, 0, 0, 0, 0, 0]⟩
def exT : ByteArray := ⟨#[69, 0, 0, 28, 0, 0, 0, 0, 63, 17, 103, 207, 10, 0, 0, 1, 10, 0, 0, 2, 0, 0, 0, 0, 0, 0, 0, 0]⟩
theorem ex8_rg : Rg ex8 := ⟨by decide, by decide, by decide, by decide, by decide, by decide, by decide, by decide, by unfold opB; rw [show ex8.o.data.toList = [] from rfl, opn_nil]; rfl⟩
theorem ex8_wf : Wf ex8 := by unfold Wf; decide
theorem ex8_hd : hdN ex8 (chk ex8) = [69, 0, 0, 28, 0, 0, 0, 0, 64, 17, 102, 207, 10, 0, 0, 1, 10, 0, 0, 2] := by decide +kernel
theorem ex7_hd : hdN ex7 (chk ex7) = [69, 0, 0, 28, 0, 0, 0, 0, 63, 17, 103, 207, 10, 0, 0, 1, 10, 0, 0, 2] := by decide +kernel
theorem ex8_S : strOfNums (hdN ex8 (chk ex8)) ++ ex8.d = exS := by rw [ex8_hd]; decide +kernel
theorem ex7_S : strOfNums (hdN ex7 (chk ex7)) ++ ex7.d = exT := by rw [ex7_hd]; decide +kernel
theorem ex8_ly : lyR ex8 = (exS, 0) := by rw [ly_ok ex8_rg (by decide), ex8_S]
theorem ex8_tk : tkR exS = (ex8, 0) := by
  have := tk_lyR ex8 ex8_rg ex8_wf (by decide) ⟨#[]⟩
  rwa [ex8_S, show exS ++ (⟨#[]⟩ : ByteArray) = exS from ByteArray.append_empty] at this
theorem ex8_hp : hpR exS = (exT, 0) := by
  have := hp_lyR ex8 ex8_rg ex8_wf (by decide) (by decide)
  rw [ex8_S] at this
  rw [this]
  exact Prod.ext ex7_S rfl
theorem ex_op : opn [1, 131, 3, 9, 0, 7] = some [[1], [131, 3, 9]] := by
  rw [opn_one, opn_two 131 3 _ (by decide) (by decide), if_neg (by decide), show ([9, 0, 7] : List UInt8).drop ((3 : UInt8).toNat - 2) = [0, 7] from rfl, opn_zero]
  rfl
theorem ex_no : opn [7, 1] = none := by
  rw [opn_two 7 1 _ (by decide) (by decide), if_pos (by decide)]
theorem ex_kp : kpL [1, 131, 3, 9, 0, 7] = [131, 3, 9, 0] := by
  unfold kpL; rw [ex_op]; rfl
end Go.Proofs.Ytbhddodghbhjiaa
