/-
  The document's own Chain of any number and any text.
-/
import Derived.Test.YtbhddodghbhjiaaSCh
import Derived.Test.YtbhddodghbhjiaaSRNm
namespace Go.Proofs.Ytbhddodghbhjiaa
open Go.RowKit
set_option linter.unusedVariables false

set_option maxRecDepth 100000 in
set_option maxHeartbeats 8000000 in
theorem srchain_any (nx0 : Int) (s : ByteArray) (hs : (s.size : Int) ≤ 9223372036854775807) (w : World) :
    Calls Try.prog 23 #[.int .i64 nx0, .string s] w (ChOut w (chS s 16 nx0 0)) := by
  obtain ⟨X, hX⟩ : ∃ X, chS s 16 nx0 0 = X := ⟨_, rfl⟩
  rw [hX]
  have HX := Lib.hid hX
  have HFu := Lib.hid (fun n W => further_any n W)
  clear hX
  go_enter Try.func23, Try.ntmps23
  go_wp2_with fail
  go_loopw [0, 8, 9] (fun nv ov av wr => ∃ (nx : Int) (p : Nat) (l : List Ex), nv = .int .i64 nx ∧ av = .int .i64 (p : Int) ∧ p ≤ s.size ∧ l.length ≤ 16 ∧ Hid (wr.ownsRow w.heap.size 45 3 ov l.length (ecells l) ∧ Below w.heap.size w wr ∧ glue l (chS s (16 - l.length) nx p) = X)) (fun _ _ av _ => s.size - (intOf av).toNat)
  case atStart => exact ⟨nx0, 0, [], rfl, rfl, Nat.zero_le _, by decide, Lib.hid ⟨⟨rfl, .inl ⟨rfl, rfl⟩⟩, Below.refl _ _, by rw [glue_nil]; exact HX.out⟩⟩
  case round =>
    obtain ⟨nx, p, l, rfl, rfl, hp, hl, hH⟩ := hrel
    obtain ⟨A, c, hv⟩ := own_form3 hH.out.1
    subst hv
    obtain ⟨m, hm⟩ : ∃ m, l.length = m := ⟨_, rfl⟩
    rw [hm] at hH hl
    rw [hm]
    have HM := Lib.hid hm
    have hl' : (m : Int) ≤ 16 := by omega
    have HFn := Lib.hid (fun W => HFu.out nx W)
    clear hm
    by_cases hf : fur nx = false
    · have hXX : X = ⟨l, nx, p, 0⟩ := by rw [← hH.out.2.2, chS_end hf, glue_ok]
      rw [hf] at HFn
      have HXX := Lib.hid hXX
      clear hf hXX
      go_wp2_with fail
      refine Calls.mono (HFn.out _) ?_
      rintro e w1 ⟨rfl, rfl⟩
      go_wp2
      refine bodyPost_ret (v := .tuple #[.slice A m c, .int .i64 nx, .int .i64 (p : Int), .int .i64 0]) (by simp [results, Try.results23, go_sem]) rfl ?_
      rw [HXX.out]
      exact ⟨_, rfl, by have := hH.out.1; rwa [HM.out], hH.out.2.1⟩
    · have hft : fur nx = true := by simpa using hf
      rw [hft] at HFn
      have hcs := (show nx = 0 ∨ nx = 43 ∨ nx = 60 ∨ nx = 44 by simp only [fur, Bool.or_eq_true, beq_iff_eq] at hft; omega)
      clear hf
      by_cases h64 : (nx = 0 ∧ 0 < m) ∨ m = 16
      · have hXX : X = ⟨[], 0, 0, 64⟩ := by
          rw [← hH.out.2.2]
          rcases h64 with ⟨rfl, h⟩ | h
          · rw [chS_zero (by omega), glue_no _ _ (by decide)]
          · rw [h, chS_full hft, glue_no _ _ (by decide)]
        have HXX := Lib.hid hXX
        have hout : ∀ W : World, Below w.heap.size w W → ChOut w X (.returned (.tuple #[.slice none 0 0, .int .i64 0, .int .i64 0, .int .i64 64])) W := fun W hb => by
          rw [HXX.out]; exact ⟨_, rfl, ⟨rfl, .inl ⟨rfl, rfl⟩⟩, hb⟩
        have HOUT := Lib.hid hout
        have hcase : (nx = 0 ∧ 0 < m) ∨ (nx ≠ 0 ∧ m = 16) ∨ (nx = 0 ∧ m = 0 ∧ m = 16) := by omega
        clear hXX hft hout hcs h64
        rcases hcase with ⟨rfl, hm0⟩ | ⟨hn0, rfl⟩ | ⟨_, h1, h2⟩
        · have hm1 : (0 : Int) < m := by omega
          clear hm0
          go_wp2_with fail
          refine Calls.mono (HFn.out _) ?_
          rintro e w1 ⟨rfl, rfl⟩
          go_wp2
          exact bodyPost_ret (v := .tuple #[.slice none 0 0, .int .i64 0, .int .i64 0, .int .i64 64]) (by simp [results, Try.results23, go_sem]) rfl (HOUT.out _ hH.out.2.1)
        · have hn1 : (nx == 0) = false := by simpa using hn0
          clear hn0
          go_wp2_with fail
          refine Calls.mono (HFn.out _) ?_
          rintro e w1 ⟨rfl, rfl⟩
          go_wp2
          exact bodyPost_ret (v := .tuple #[.slice none 0 0, .int .i64 0, .int .i64 0, .int .i64 64]) (by simp [results, Try.results23, go_sem]) rfl (HOUT.out _ hH.out.2.1)
        · omega
      · have hm15 : m ≤ 15 := by omega
        have hnz : nx = 0 → m = 0 := fun h => by
          rcases Nat.eq_zero_or_pos m with h0 | h0
          · exact h0
          · exact absurd (.inl ⟨h, h0⟩) h64
        have hno : ¬ (nx = 0 ∧ (15 - m) + 1 < 16) := by
          rintro ⟨h, h2⟩
          have := hnz h
          omega
        have hk : 16 - m = (15 - m) + 1 := by omega
        have hm16 : ¬ (16 : Int) ≤ m := by omega
        have hm0 : nx = 0 → ¬ (0 : Int) < m := fun h => by have := hnz h; omega
        have hlt := bA_lt s (p + 1)
        have hp0 : (p : Int) ≤ s.size := by omega
        by_cases hs8 : s.size < p + 8
        · have hXX : X = ⟨[], 0, 0, 61⟩ := by rw [← hH.out.2.2, hk, chS_short hft hno (.inl hs8), glue_no _ _ (by decide)]
          have HXX := Lib.hid hXX
          have hout : ∀ W : World, Below w.heap.size w W → ChOut w X (.returned (.tuple #[.slice none 0 0, .int .i64 0, .int .i64 0, .int .i64 61])) W := fun W hb => by
            rw [HXX.out]; exact ⟨_, rfl, ⟨rfl, .inl ⟨rfl, rfl⟩⟩, hb⟩
          have HOUT := Lib.hid hout
          have hg : (s.size : Int) - p < 8 := by omega
          clear hXX hft hout hno hk hnz h64 hs8 hlt
          rcases hcs with rfl | rfl | rfl | rfl
          all_goals
            try have hm01 := hm0 rfl
            clear hm0
            go_wp2_with fail
            refine Calls.mono (HFn.out _) ?_
            rintro e w1 ⟨rfl, rfl⟩
            go_wp2
            exact bodyPost_ret (v := .tuple #[.slice none 0 0, .int .i64 0, .int .i64 0, .int .i64 61]) (by simp [results, Try.results23, go_sem]) rfl (HOUT.out _ hH.out.2.1)
        · have hg8 : ¬ (s.size : Int) - p < 8 := by omega
          have hp1 : p + 1 < s.size := by omega
          have hby1 := bA_at s (p + 1) hp1
          obtain ⟨N1, hN1⟩ : ∃ N, bA s (p + 1) = N := ⟨_, rfl⟩
          have hzN : nx ≠ 44 → 8 * ((N1 : Int) + 1) = (szX s nx p : Int) := fun h => by
            unfold szX
            rw [if_neg h, hN1]; omega
          have hz4 : nx = 44 → szX s nx p = 8 := fun h => by unfold szX; rw [if_pos h]
          have hge := szX_ge s nx p
          rw [hN1] at hby1 hlt
          have hN13 : (N1 : Int) ≤ 255 := by omega
          have hpi1 : (p : Int) + 1 < s.size := by omega
          have hnn : ((p : Int) + 1).toNat = p + 1 := by omega
          by_cases hsz : s.size < p + szX s nx p
          · have hXX : X = ⟨[], 0, 0, 61⟩ := by rw [← hH.out.2.2, hk, chS_short hft hno (.inr hsz), glue_no _ _ (by decide)]
            have HXX := Lib.hid hXX
            have hout : ∀ W : World, Below w.heap.size w W → ChOut w X (.returned (.tuple #[.slice none 0 0, .int .i64 0, .int .i64 0, .int .i64 61])) W := fun W hb => by
              rw [HXX.out]; exact ⟨_, rfl, ⟨rfl, .inl ⟨rfl, rfl⟩⟩, hb⟩
            have HOUT := Lib.hid hout
            obtain ⟨Z, hZ⟩ : ∃ Z, szX s nx p = Z := ⟨_, rfl⟩
            rw [hZ] at hsz hzN hz4 hge
            have hg : (s.size : Int) - p < Z := by omega
            clear hXX hft hout hno hk hnz h64 hs8 hlt hZ hsz hN1
            rcases hcs with rfl | rfl | rfl | rfl
            rotate_right
            · exfalso
              have := hz4 rfl
              omega
            all_goals
              have hzz := hzN (by decide)
              try have hm01 := hm0 rfl
              clear hm0 hzN hz4
              go_wp2_with fail
              refine Calls.mono (HFn.out _) ?_
              rintro e w1 ⟨rfl, rfl⟩
              go_wp2
              exact bodyPost_ret (v := .tuple #[.slice none 0 0, .int .i64 0, .int .i64 0, .int .i64 61]) (by simp [results, Try.results23, go_sem]) rfl (HOUT.out _ hH.out.2.1)
          · have hle : p + szX s nx p ≤ s.size := by omega
            have hX2 : glue (l ++ [⟨nx, p, szX s nx p⟩]) (chS s (16 - (l ++ [(⟨nx, p, szX s nx p⟩ : Ex)]).length) (bA s p) (p + szX s nx p)) = X := by
              rw [← hH.out.2.2, hk, chS_step hft hno hle, glue_glue, List.length_append, List.length_singleton, HM.out, show 16 - (m + 1) = 15 - m by omega]
            obtain ⟨Z, hZ⟩ : ∃ Z, szX s nx p = Z := ⟨_, rfl⟩
            rw [hZ] at hle hge hX2 hzN hz4
            have hplt : p < s.size := by omega
            have hby := bA_at s p hplt
            obtain ⟨N, hN⟩ : ∃ N, bA s p = N := ⟨_, rfl⟩
            have hN2 := bA_lt s p
            rw [hN] at hby hX2 hN2
            have hN3 : (N : Int) ≤ 255 := by omega
            have HX2 := Lib.hid hX2
            have HLE := Lib.hid (And.intro hle hge)
            have hpi : (p : Int) < s.size := by omega
            have hg : ¬ (s.size : Int) - p < Z := by omega
            have hpZ : (p : Int) + Z ≤ s.size := by omega
            have hm16' : m + 1 ≤ 16 := by omega
            clear hft hlt hno hk hnz h64 hX2 hZ hN hle hge hN1 hsz hs8
            rcases hcs with rfl | rfl | rfl | rfl
            rotate_right
            · obtain rfl := hz4 rfl
              clear hzN hz4 hm0
              go_wp2_with fail
              refine Calls.mono (HFn.out _) ?_
              rintro e w1 ⟨rfl, rfl⟩
              go_wp2_with (at_builtin; refine wpList_appe _ rfl (.tmp 44) (.tmp 49) rfl w.heap.size (.slice A _ c) l _ HM.out rfl (own_below3 hH.out.1 ((Below.refl _ _).alloc (Nat.le_refl _) _)) _ ⟨_, p, _⟩ rfl (Blk.new _ _ _) (by omega) (by have := hH.out.2.1.size; simp only [World.size_alloc]; omega) ?_; intro v2 w2 ho2 hg2; have HO2 := Lib.hid ho2; have HG2 := Lib.hid hg2; clear ho2 hg2)
              go_roundw
              case rel =>
                refine ⟨N, p + _, l ++ [⟨_, p, _⟩], rfl, rfl, HLE.out.1, by rw [List.length_append, HM.out]; exact hm16', Lib.hid ⟨by rw [List.length_append, HM.out]; exact HO2.out, ?_, HX2.out⟩⟩
                exact (hH.out.2.1.alloc hH.out.2.1.size _).grown HG2.out (by have := hH.out.2.1.size; simp only [World.size_alloc]; omega) (fun k hk => own_basek hH.out.1 k hk)
              case measure => simp [intOf]; have := HLE.out; omega
            all_goals
              have hzz := hzN (by decide)
              try (have hm01 := hm0 rfl; obtain rfl : m = 0 := by omega)
              clear hzN hz4 hm0
              go_wp2_with fail
              refine Calls.mono (HFn.out _) ?_
              rintro e w1 ⟨rfl, rfl⟩
              go_wp2_with (at_builtin; refine wpList_appe _ rfl (.tmp 44) (.tmp 49) rfl w.heap.size (.slice A _ c) l _ HM.out rfl (own_below3 hH.out.1 ((Below.refl _ _).alloc (Nat.le_refl _) _)) _ ⟨_, p, _⟩ rfl (Blk.new _ _ _) (by omega) (by have := hH.out.2.1.size; simp only [World.size_alloc]; omega) ?_; intro v2 w2 ho2 hg2; have HO2 := Lib.hid ho2; have HG2 := Lib.hid hg2; clear ho2 hg2)
              go_roundw
              case rel =>
                refine ⟨N, p + _, l ++ [⟨_, p, _⟩], rfl, rfl, HLE.out.1, by rw [List.length_append, HM.out]; exact hm16', Lib.hid ⟨by rw [List.length_append, HM.out]; exact HO2.out, ?_, HX2.out⟩⟩
                exact (hH.out.2.1.alloc hH.out.2.1.size _).grown HG2.out (by have := hH.out.2.1.size; simp only [World.size_alloc]; omega) (fun k hk => own_basek hH.out.1 k hk)
              case measure => simp [intOf]; have := HLE.out; omega
end Go.Proofs.Ytbhddodghbhjiaa
