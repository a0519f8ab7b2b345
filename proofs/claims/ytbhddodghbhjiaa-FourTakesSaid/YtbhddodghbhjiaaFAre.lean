/-
  ip4.areOptions.
-/
import Derived.Test.YtbhddodghbhjiaaFWalk
namespace Go.Proofs.Ytbhddodghbhjiaa
open Go.RowKit
set_option linter.unusedVariables false

theorem enter_of {f : Nat} {fn : Func} (h : Try.prog.funcs[f]? = some fn) (hn : (fn.name == "runtime.NumGoroutine") = false) (hb : fn.body.isNone = false) (xs : Array Value) (W : World) :
    (callFunc f xs).run Try.prog W = .ok (.enter f xs) W := by
  have hn' : ¬ fn.name = "runtime.NumGoroutine" := by simpa using hn
  have hb' : ¬ fn.body = none := by intro e; rw [e] at hb; cases hb
  simp [callFunc, go_sem, h, hn', hb']
theorem are_clo (t : ByteArray) (W : World) : Calls Try.prog 64 (#[.string t] ++ #[]) W fun e W' => e = .returned (.tuple #[]) ∧ W = W' := by
  show Calls Try.prog 64 #[.string t] W _
  go_enter Try.func64, Try.ntmps64
  go_wp2
  go_end0
  exact ⟨rfl, rfl⟩
set_option maxHeartbeats 1000000 in
theorem are_any (s : ByteArray) (hs : s.size ≤ 281474976710656) (w : World) :
    Calls Try.prog 35 #[.string s] w fun e w' => e = .returned (.bool (opB s)) ∧ w = w' := by
  obtain ⟨R, hR⟩ : ∃ R, opn s.data.toList = R := ⟨_, rfl⟩
  have hB : opB s = R.isSome := by unfold opB; rw [hR]
  rw [hB]
  have H0 := walk_any 64 (enter_of Try.func64 (by kernel_rfl) (by kernel_rfl)) #[] (fun _ W => w = W) s hs
    (fun os t W _ _ hW => (are_clo t W).mono fun e W' ⟨h1, h2⟩ => ⟨h1, hW.trans h2⟩) w rfl
  rw [hR] at H0
  have H := Lib.hid H0
  clear H0 hR hB
  go_enter Try.func35, Try.ntmps35
  go_wp2_with fail
  refine Calls.mono H.out ?_
  intro e w1 hp
  unfold WkPost at hp
  cases R with
  | none =>
    obtain ⟨rfl, os, rfl⟩ := hp
    go_wp2
    go_ret
    exact ⟨rfl, rfl⟩
  | some os =>
    obtain ⟨rfl, rfl⟩ := hp
    go_wp2
    go_ret
    exact ⟨rfl, rfl⟩
end Go.Proofs.Ytbhddodghbhjiaa
