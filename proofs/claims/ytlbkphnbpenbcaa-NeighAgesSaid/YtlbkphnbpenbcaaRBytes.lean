/-
  The document's own Bytes of any address.
-/
import Derived.Test.YtlbkphnbpenbcaaValid
import Derived.Test.YtlbkphnbpenbcaaRefPut
import Derived.Deep.RegionHeld3
namespace Go.Proofs.Ytlbkphnbpenbcaa
open Go.RowKit
set_option linter.unusedVariables false

/-- A slice of bytes that reads as zs, in a world in which all that was ahead of W stands. -/
def RB (w W : World) (A : Option Addr) (n c : Nat) (zs : List Int) : Prop := RI .u8 w w.heap.size A n zs ∧ (A = none → c = 0) ∧ Below W.heap.size W w ∧ (∀ x, A = some x → W.heap.size ≤ x.block)
/-- The contract of one call of the document's Put onto such a slice. -/
def RBStep (W : World) (n n' k : Nat) (width v : Int) : Prop := ∀ (w : World) (A : Option Addr) (c : Nat) (zs : List Int), RB w W A n c zs →
    Calls Try.prog 65 #[.slice A n c, .int .i64 width, .int .u64 v] w fun e w' => ∃ A' c', e = .returned (.slice A' n' c') ∧ RB w' W A' n' c' (zs ++ putOf k v)
theorem rbStep (W : World) (n n' k : Nat) (width v : Int) (hk : k ≤ 8) (hw : width = (k : Int)) (hn : n + k = n') (h0 : 0 < n') (hn2 : n ≤ 1000) (hv : U6 v) : RBStep W n n' k width v := by
  intro w A c zs h
  have e : wide width = k := by
    subst hw
    unfold wide; split <;> split <;> omega
  have hp := refPut_any w w.heap.size A n c v width zs h.1 h.2.1 (Nat.le_refl _) (by omega) hv.1 hv.2
  rw [e, hn] at hp
  refine Calls.mono hp ?_
  rintro e w' ⟨A', c', rfl, h1, h2, h3⟩
  obtain ⟨b, o, e, _⟩ := h1.2.1 h0
  exact ⟨A', c', rfl, h1, (fun h => by rw [e] at h; cases h), h.2.2.1.trans (h3.mono h.2.2.1.size), fun x hx => Nat.le_trans h.2.2.1.size (h2 x hx)⟩
theorem RB.start (w : World) : RB w.drew w none 0 0 [] := ⟨RI.nil_, fun _ => rfl, (Below.refl _ _).drew, fun _ h => by cases h⟩
theorem RB.start0 (w : World) : RB w w none 0 0 [] := ⟨RI.nil_, fun _ => rfl, Below.refl _ _, fun _ h => by cases h⟩

/-- What hands back bytes that read as zs, in memory of the call's own. -/
def OutR (w : World) (zs : List Int) (e : Ending) (w' : World) : Prop :=
  ∃ A c, e = .returned (.slice A zs.length c) ∧ RI .u8 w' w'.heap.size A zs.length zs ∧ (A = none → c = 0) ∧ (∀ g, A = some g → w.heap.size ≤ g.block) ∧ Below w.heap.size w w'

set_option maxRecDepth 100000 in
set_option maxHeartbeats 2000000 in
theorem rbytes_any (s : Bool) (h l : Int) (hh : U6 h) (hl : U6 l) (w : World) :
    Calls Try.prog 53 #[adr s h l] w (OutR w (byts s h l)) := by
  obtain ⟨V, hV⟩ : ∃ V, vld s h l = V := ⟨_, rfl⟩
  have HVa := Lib.hid (rvalid_at s h l (w.alloc (.cells #[.bool s, .int .u64 h, .int .u64 l] 30)) hV)
  cases V
  · have e : byts s h l = [] := by unfold byts; rw [hV]; rfl
    rw [e]
    clear hV e
    go_enter Try.func53, Try.ntmps53
    go_wp2_with fail
    refine Calls.mono HVa.out ?_
    rintro e w1 ⟨rfl, hb⟩
    have L1 := ((Below.refl _ w).alloc (Nat.le_refl _) _).trans (hb.mono (by simp only [World.size_alloc]; omega))
    clear hb
    go_wp2
    go_ret
    exact ⟨none, 0, rfl, RI.nil_, fun _ => rfl, (fun g e => by cases e), L1⟩
  · cases s
    · have e : byts false h l = putOf 4 l := by unfold byts; rw [hV]; rfl
      rw [e]
      clear hV e
      have HL := Lib.hid hl
      go_enter Try.func53, Try.ntmps53
      go_wp2_with fail
      refine Calls.mono HVa.out ?_
      rintro e w1 ⟨rfl, hb⟩
      have R1 := Lib.hid ((Blk.new w 30 _).below hb (by simp only [World.size_alloc]; omega))
      have L1 := Lib.hid (((Below.refl _ w).alloc (Nat.le_refl _) _).trans (hb.mono (by simp only [World.size_alloc]; omega)))
      obtain ⟨g1, g2, g3⟩ := R1.out.c3
      have HS := Lib.hid (rbStep w1 0 4 4 4 l (by decide) rfl rfl (by decide) (by decide) HL.out w1 none 0 [] (RB.start0 w1))
      clear hb
      go_wp2_with fail
      refine Calls.mono HS.out ?_
      rintro e w2 ⟨A, c, rfl, q1, q2, q3, q4⟩
      have Q := Lib.hid (And.intro q1 (And.intro q2 (And.intro q3 q4)))
      clear q1 q2 q3 q4 g1 g2 g3
      go_wp2
      go_ret
      obtain ⟨q1, q2, q3, q4⟩ := Q.out
      refine ⟨A, c, ?_, ?_, q2, fun g e => Nat.le_trans L1.out.size (q4 g e), L1.out.trans (q3.mono L1.out.size)⟩
      · rw [putOf_len]; rfl
      · rw [putOf_len]; exact q1
    · have e : byts true h l = putOf 8 h ++ putOf 8 l := by unfold byts; rw [hV]; rfl
      rw [e]
      clear hV e
      have HL := Lib.hid hl
      have HH := Lib.hid hh
      go_enter Try.func53, Try.ntmps53
      go_wp2_with fail
      refine Calls.mono HVa.out ?_
      rintro e w1 ⟨rfl, hb⟩
      have R1 := Lib.hid ((Blk.new w 30 _).below hb (by simp only [World.size_alloc]; omega))
      have L1 := Lib.hid (((Below.refl _ w).alloc (Nat.le_refl _) _).trans (hb.mono (by simp only [World.size_alloc]; omega)))
      have hs1 : w.heap.size < w1.heap.size := by have := hb.size; simp only [World.size_alloc] at this; omega
      have HC : Hid (∀ W', Below w1.heap.size w1 W' → W'.cell? ⟨w.heap.size, 1, none⟩ = some (.int .u64 h) ∧ W'.cell? ⟨w.heap.size, 2, none⟩ = some (.int .u64 l)) := by
        show ∀ W', _ → _
        intro W' hB
        have := (R1.out.below hB hs1).c3
        exact ⟨this.2.1, this.2.2⟩
      obtain ⟨g1, g2, g3⟩ := R1.out.c3
      have hR := RB.start w1
      have H1 := Lib.hid (rbStep w1 0 8 8 8 h (by decide) rfl rfl (by decide) (by decide) HH.out)
      have H2 := Lib.hid (rbStep w1 8 16 8 8 l (by decide) rfl rfl (by decide) (by decide) HL.out)
      clear hb
      go_wp2
      go_region_held3 (fun w' => w'.cell? ⟨w.heap.size, 1, none⟩ = some (.int .u64 h) ∧ w'.cell? ⟨w.heap.size, 2, none⟩ = some (.int .u64 l))
        (first | exact HC.out _ hR.2.2.1 | go_keep)
        ((go_at_call 65; (first
            | (have hc := H1.out _ _ _ _ hR; (with_reducible refine Calls.mono hc ?_); clear hc)
            | (have hc := H2.out _ _ _ _ hR; (with_reducible refine Calls.mono hc ?_); clear hc)); rintro e W' ⟨A', c', rfl, hR⟩))
      all_goals
        have Q := Lib.hid hR
        clear hR
        go_wp2
        go_ret
        obtain ⟨q1, q2, q3, q4⟩ := Q.out
        have el : (putOf 8 h ++ putOf 8 l).length = 16 := by rw [List.length_append, putOf_len, putOf_len]
        refine ⟨_, _, ?_, ?_, q2, fun g e => Nat.le_trans L1.out.size (q4 g e), L1.out.trans (q3.mono L1.out.size)⟩
        · rw [el]; rfl
        · rw [el]; exact q1
end Go.Proofs.Ytlbkphnbpenbcaa
