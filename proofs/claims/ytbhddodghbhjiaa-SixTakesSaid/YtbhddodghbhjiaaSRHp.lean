/-
  The document's own Hop of any text.
-/
import Derived.Test.YtbhddodghbhjiaaSHp
import Derived.Test.YtbhddodghbhjiaaSRTb
import Derived.Test.YtbhddodghbhjiaaSRLay
namespace Go.Proofs.Ytbhddodghbhjiaa
open Go.RowKit
set_option linter.unusedVariables false

set_option maxRecDepth 100000 in
set_option maxHeartbeats 8000000 in
theorem srhop_any (s : ByteArray) (hs : (s.size : Int) ≤ 9223372036854775807) (w : World) :
    Calls Try.prog 21 #[.string s] w fun e w' => e = .returned (hpSV s) ∧ Below w.heap.size w w' := by
  have HT := Lib.hid (fun W => srtake_any s hs W)
  have z3 := tkS_wf s
  have HR := Lib.hid (show hpS s = if (tkS s).2 ≠ 0 then (⟨#[]⟩, (tkS s).2) else if (tkS s).1.h ≤ 1 then (⟨#[]⟩, 63) else lySR { (tkS s).1 with h := (tkS s).1.h - 1 } from rfl)
  have hok : (tkS s).2 = 0 → 0 ≤ (tkS s).1.h ∧ (tkS s).1.h ≤ 255 := fun h => by
    obtain ⟨e, h2, -⟩ := tk_okS h
    rw [e]; exact h2.h
  obtain ⟨p, hp⟩ : ∃ x, (tkS s).1 = x := ⟨_, rfl⟩
  obtain ⟨E, hE⟩ : ∃ x, (tkS s).2 = x := ⟨_, rfl⟩
  unfold tkSV at HT
  rw [hp, hE] at HT HR
  rw [hp] at z3 hok
  rw [hE] at hok
  have HLy := Lib.hid (fun W => srlay_any { p with h := p.h - 1 } (z3.down _) W)
  clear hp hE z3 hs
  by_cases he : E = 0
  · have hE0 : (E == 0) = true := by simpa using he
    have ht := hok he
    obtain ⟨t0, t1⟩ := ht
    obtain ⟨c, f, n, h, s1, a1, b1, s2, a2, b2, d1⟩ := p
    by_cases h1' : h ≤ 1
    · have h2' : h < 2 := by omega
      have HX : Hid (hpS s = (⟨#[]⟩, 63)) := Lib.hid (by rw [HR.out, if_neg (by simpa using he), if_pos h1'])
      clear he hok HR
      go_enter Try.func21, Try.ntmps21
      go_wp2_with fail
      refine Calls.mono (HT.out _) ?_
      rintro e w1 ⟨rfl, hb⟩
      have L1 := Lib.hid hb
      clear hb
      go_wp2
      go_ret2
      exact ⟨by unfold hpSV; rw [HX.out]; rfl, L1.out.alloc L1.out.size _⟩
    · obtain ⟨Y, hY⟩ : ∃ x, lySR { (⟨c, f, n, h, s1, a1, b1, s2, a2, b2, d1⟩ : Sx) with h := h - 1 } = x := ⟨_, rfl⟩
      have HX : Hid (hpS s = Y) := Lib.hid (by rw [HR.out, if_neg (by simpa using he), if_neg h1']; exact hY)
      have hY' : lySR { (⟨c, f, n, h, s1, a1, b1, s2, a2, b2, d1⟩ : Sx) with h := (⟨c, f, n, h, s1, a1, b1, s2, a2, b2, d1⟩ : Sx).h - 1 } = Y := hY
      unfold lySV at HLy
      rw [hY'] at HLy
      have hn : ¬ h < 2 := by omega
      clear he hok HR hY hY' h1'
      obtain ⟨Y1, Y2⟩ := Y
      go_enter Try.func21, Try.ntmps21
      go_wp2_with fail
      refine Calls.mono (HT.out _) ?_
      rintro e w1 ⟨rfl, hb⟩
      have L1 := Lib.hid hb
      clear hb
      go_wp2_with fail
      refine Calls.mono (HLy.out _) ?_
      rintro e w2 ⟨rfl, hb⟩
      have L2 := Lib.hid hb
      clear hb
      go_wp2
      go_ret2
      refine ⟨by unfold hpSV; rw [HX.out]; rfl, ?_⟩
      first
        | exact (L1.out.alloc L1.out.size _).trans (L2.out.mono (by simp only [World.size_alloc]; have := L1.out.size; omega))
        | exact ((L1.out.alloc L1.out.size _).setCell (p := ⟨w1.heap.size, 3, none⟩) L1.out.size _).trans (L2.out.mono (by simp [World.setCell]; have := L1.out.size; omega))
  · have hE0 : (E == 0) = false := by simpa using he
    have HX : Hid (hpS s = (⟨#[]⟩, E)) := Lib.hid (by rw [HR.out, if_pos he])
    clear he hok HR
    go_enter Try.func21, Try.ntmps21
    go_wp2_with fail
    refine Calls.mono (HT.out _) ?_
    rintro e w1 ⟨rfl, hb⟩
    have L1 := Lib.hid hb
    clear hb
    go_wp2
    go_ret2
    exact ⟨by unfold hpSV; rw [HX.out]; rfl, L1.out.alloc L1.out.size _⟩
end Go.Proofs.Ytbhddodghbhjiaa
