/-
  ip4.Hop of any text.
-/
import Derived.Test.YtbhddodghbhjiaaFTk
import Derived.Test.YtbhddodghbhjiaaFLay
namespace Go.Proofs.Ytbhddodghbhjiaa
open Go.RowKit
set_option linter.unusedVariables false

abbrev hpRV (s : ByteArray) : Value := .tuple #[.string (hpR s).1, .int .i64 (hpR s).2]
theorem tkR_sizes (s : ByteArray) : (tkR s).1.o.size ≤ s.size ∧ (tkR s).1.d.size ≤ s.size ∧ Wf (tkR s).1 := by
  have hz : (⟨#[]⟩ : ByteArray).size = 0 := rfl
  have h0 : noPk.o.size ≤ s.size ∧ noPk.d.size ≤ s.size ∧ Wf noPk := ⟨by show (⟨#[]⟩ : ByteArray).size ≤ _; omega, by show (⟨#[]⟩ : ByteArray).size ≤ _; omega, by decide, by decide⟩
  by_cases h : (tkR s).2 = 0
  · obtain ⟨e, -, hw, -⟩ := tk_okR h
    rw [e]
    refine ⟨?_, ?_, hw⟩
    · show (s.extract 20 (hdL s)).size ≤ _; rw [ByteArray.size_extract]; omega
    · show (s.extract (hdL s) (tlN s)).size ≤ _; rw [ByteArray.size_extract]; omega
  · have : (tkR s).1 = noPk := by
      unfold tkR at h ⊢
      by_cases h1 : s.size < 20
      · rw [if_pos h1]
      rw [if_neg h1] at h ⊢
      by_cases h2 : f1N s < 69 ∨ 79 < f1N s
      · rw [if_pos h2]
      rw [if_neg h2] at h ⊢
      by_cases h3 : s.size < hdL s
      · rw [if_pos h3]
      rw [if_neg h3] at h ⊢
      by_cases h4 : fo (tot 0 ((byt s).take (hdL s))) ≠ 65535
      · rw [if_pos h4]
      rw [if_neg h4] at h ⊢
      by_cases h5 : tlN s < hdL s ∨ 32768 ≤ ptN s
      · rw [if_pos h5]
      rw [if_neg h5] at h ⊢
      by_cases h6 : s.size < tlN s
      · rw [if_pos h6]
      rw [if_neg h6] at h ⊢
      by_cases h7 : opB (s.extract 20 (hdL s)) = false
      · rw [if_pos h7]
      rw [if_neg h7] at h ⊢
      exact absurd rfl h
    rw [this]; exact h0
set_option maxRecDepth 100000 in
set_option maxHeartbeats 8000000 in
theorem hop_any (s : ByteArray) (hs : s.size ≤ 281474976710656) (w : World) :
    Calls Try.prog 13 #[.string s] w fun e w' => e = .returned (hpRV s) ∧ Below w.heap.size w w' := by
  have HT := Lib.hid (fun W => take_any s hs W)
  obtain ⟨z1, z2, z3⟩ := tkR_sizes s
  have HR := Lib.hid (show hpR s = if (tkR s).2 ≠ 0 then (⟨#[]⟩, (tkR s).2) else if (tkR s).1.ttl ≤ 1 then (⟨#[]⟩, 54) else lyR { (tkR s).1 with ttl := (tkR s).1.ttl - 1 } from rfl)
  have hok : (tkR s).2 = 0 → 0 ≤ (tkR s).1.ttl ∧ (tkR s).1.ttl ≤ 255 := fun h => by
    obtain ⟨e, h2, -, -⟩ := tk_okR h
    rw [e]; exact h2.ttl
  obtain ⟨p, hp⟩ : ∃ x, (tkR s).1 = x := ⟨_, rfl⟩
  obtain ⟨E, hE⟩ : ∃ x, (tkR s).2 = x := ⟨_, rfl⟩
  unfold tkRV at HT
  rw [hp, hE] at HT HR
  rw [hp] at z1 z2 z3 hok
  rw [hE] at hok
  have HLy := Lib.hid (fun W => lay_any { p with ttl := p.ttl - 1 } z3 W)
  clear hp hE z1 z2 z3 hs
  by_cases he : E = 0
  · have hE0 : (E == 0) = true := by simpa using he
    have ht := hok he
    obtain ⟨t0, t1⟩ := ht
    obtain ⟨tos, id, df, mf, off, ttl, pro, s1, h1, l1, s2, h2, l2, o1, d1⟩ := p
    by_cases h1' : ttl ≤ 1
    · have HX : Hid (hpR s = (⟨#[]⟩, 54)) := Lib.hid (by rw [HR.out, if_neg (by simpa using he), if_pos h1'])
      clear he hok HR
      go_enter Try.func13, Try.ntmps13
      go_wp2_with fail
      refine Calls.mono (HT.out _) ?_
      rintro e w1 ⟨rfl, hb⟩
      have L1 := Lib.hid hb
      clear hb
      go_wp2
      go_ret2
      exact ⟨by unfold hpRV; rw [HX.out]; rfl, L1.out.alloc L1.out.size _⟩
    · obtain ⟨Y, hY⟩ : ∃ x, lyR { (⟨tos, id, df, mf, off, ttl, pro, s1, h1, l1, s2, h2, l2, o1, d1⟩ : Pk) with ttl := ttl - 1 } = x := ⟨_, rfl⟩
      have HX : Hid (hpR s = Y) := Lib.hid (by rw [HR.out, if_neg (by simpa using he), if_neg h1']; exact hY)
      have hY' : lyR { (⟨tos, id, df, mf, off, ttl, pro, s1, h1, l1, s2, h2, l2, o1, d1⟩ : Pk) with ttl := (⟨tos, id, df, mf, off, ttl, pro, s1, h1, l1, s2, h2, l2, o1, d1⟩ : Pk).ttl - 1 } = Y := hY
      unfold lyRV at HLy
      rw [hY'] at HLy
      have hn : ¬ ttl ≤ 1 := h1'
      clear he hok HR hY hY' h1'
      obtain ⟨Y1, Y2⟩ := Y
      go_enter Try.func13, Try.ntmps13
      go_wp2_with fail
      refine Calls.mono (HT.out _) ?_
      rintro e w1 ⟨rfl, hb⟩
      have L1 := Lib.hid hb
      clear hb
      go_wp2_with fail
      refine Calls.mono (HLy.out _) ?_
      rintro e w2 ⟨rfl, hb⟩
      have L2 := Lib.hid hb
      clear hb
      go_wp2
      go_ret2
      refine ⟨by unfold hpRV; rw [HX.out]; rfl, ?_⟩
      first
        | exact (L1.out.alloc L1.out.size _).trans (L2.out.mono (by simp only [World.size_alloc]; have := L1.out.size; omega))
        | exact ((L1.out.alloc L1.out.size _).setCell (p := ⟨w1.heap.size, 5, none⟩) L1.out.size _).trans (L2.out.mono (by simp [World.setCell]; have := L1.out.size; omega))
  · have hE0 : (E == 0) = false := by simpa using he
    have HX : Hid (hpR s = (⟨#[]⟩, E)) := Lib.hid (by rw [HR.out, if_pos he])
    clear he hok HR
    go_enter Try.func13, Try.ntmps13
    go_wp2_with fail
    refine Calls.mono (HT.out _) ?_
    rintro e w1 ⟨rfl, hb⟩
    have L1 := Lib.hid hb
    clear hb
    go_wp2
    go_ret2
    exact ⟨by unfold hpRV; rw [HX.out]; rfl, L1.out.alloc L1.out.size _⟩
end Go.Proofs.Ytbhddodghbhjiaa
