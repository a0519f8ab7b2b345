/-
  The chapter's examples that each law of tally calls first: they answer true.
-/
import Derived.Test.YtelkjcgfielbpaaRefPseudo
namespace Go.Proofs.Ytelkjcgfielbpaa
open Go.RowKit
set_option linter.unusedVariables false

/-- The header of the chapter's second example. -/
def hdr : List Int := [69, 0, 0, 28, 0, 0, 0, 0, 64, 17, 0, 0, 10, 0, 0, 1, 10, 0, 0, 2]

set_option maxHeartbeats 400000 in
theorem header_any (w : World) :
    Calls Try.prog 24 #[] w fun e w' => e = .returned (.slice (some ⟨w.heap.size, 0, none⟩) 20 20) ∧ w.alloc (.cells ((hdr.map (Value.int .u8)).toArray) 5) = w' := by
  go_enter Try.func24, Try.ntmps24
  go_wp2
  go_ret
  exact ⟨rfl, rfl⟩

/-- The sum of two written parts. -/
theorem sum_lit2 (w : World) (xs ys : List Int) (V : Int) (hx : Bys xs) (hy : Bys ys) (hl : xs.length + ys.length ≤ 1000) (hV : fo (tot 0 (xs ++ ys)) = V) :
    Calls Try.prog 11 #[.slice (some ⟨w.heap.size + 1 + 1, 0, none⟩) 2 2] (((w.alloc (.cells ((xs.map (Value.int .u8)).toArray) 5)).alloc (.cells ((ys.map (Value.int .u8)).toArray) 5)).alloc
      (.cells #[.slice (some ⟨w.heap.size, 0, none⟩) xs.length xs.length, .slice (some ⟨w.heap.size + 1, 0, none⟩) ys.length ys.length] 24)) fun e w' => e = .returned (.int .u16 V) ∧ Below w.heap.size w w' := by
  have b1 := (Blk.new w 5 ((xs.map (Value.int .u8)).toArray)).alloc (.cells ((ys.map (Value.int .u8)).toArray) 5)
  have b2 := Blk.new (w.alloc (.cells ((xs.map (Value.int .u8)).toArray) 5)) 5 ((ys.map (Value.int .u8)).toArray)
  have hB : Below w.heap.size w ((w.alloc (.cells ((xs.map (Value.int .u8)).toArray) 5)).alloc (.cells ((ys.map (Value.int .u8)).toArray) 5)) := ((Below.refl _ _).alloc (Nat.le_refl _) _).alloc (by simp) _
  have hz : ((w.alloc (.cells ((xs.map (Value.int .u8)).toArray) 5)).alloc (.cells ((ys.map (Value.int .u8)).toArray) 5)).heap.size = w.heap.size + 1 + 1 := by simp
  have hz1 : (w.alloc (.cells ((xs.map (Value.int .u8)).toArray) 5)).heap.size = w.heap.size + 1 := by simp
  rw [hz1] at b2
  have hR : Rws ((w.alloc (.cells ((xs.map (Value.int .u8)).toArray) 5)).alloc (.cells ((ys.map (Value.int .u8)).toArray) 5)) [(w.heap.size, xs.length, xs), (w.heap.size + 1, ys.length, ys)] := by
    intro p hp
    rcases List.mem_cons.1 hp with rfl | hp
    · exact ⟨b1, hx, rfl⟩
    · rw [List.mem_singleton] at hp
      subst hp
      exact ⟨b2, hy, rfl⟩
  have h := sum_rows _ _ hR 2 rfl #[.slice (some ⟨w.heap.size, 0, none⟩) xs.length xs.length, .slice (some ⟨w.heap.size + 1, 0, none⟩) ys.length ys.length] rfl (by decide) (by simp; omega)
  rw [hz] at h
  refine Calls.mono h ?_
  rintro e w' ⟨rfl, rfl⟩
  refine ⟨ret_k (by rw [← hV]; simp), hB.alloc hB.size _⟩

theorem sum_one (w : World) (B : Nat) (A : Option Addr) (n c : Nat) (zs : List Int) (hz : RI .u8 w B A n zs) (hB : B ≤ w.heap.size) (hn : n ≤ 4611686018427387904) :
    Calls Try.prog 11 #[.slice (some ⟨w.heap.size, 0, none⟩) 1 1] (w.alloc (.cells #[.slice A n c] 24)) fun e w' => e = .returned (.int .u16 (fo (tot 0 zs))) ∧ w.alloc (.cells #[.slice A n c] 24) = w' := by
  have hr : RS (w.alloc (.cells #[.slice A n c] 24)) (some ⟨w.heap.size, 0, none⟩) 1 [zs] := by
    refine ⟨rfl, fun _ => ⟨_, _, rfl, fun j ys hj => ?_⟩⟩
    rcases j with _ | j
    · obtain rfl : zs = ys := by simpa using hj
      exact ⟨A, n, c, B, by rw [(Blk.new _ _ _).cell]; rfl, hz.alloc hB _⟩
    · simp at hj
  have h := sum_any _ _ 1 1 _ hr (by decide) (by simp [hz.1]; exact hn)
  simpa using h
theorem check_one (w : World) (B : Nat) (A : Option Addr) (n c : Nat) (zs : List Int) (hz : RI .u8 w B A n zs) (hB : B ≤ w.heap.size) (hn : n ≤ 4611686018427387904) :
    Calls Try.prog 12 #[.slice (some ⟨w.heap.size, 0, none⟩) 1 1] (w.alloc (.cells #[.slice A n c] 24)) fun e w' => e = .returned (.int .u16 (65535 - fo (tot 0 zs))) ∧ w.alloc (.cells #[.slice A n c] 24) = w' := by
  have hr : RS (w.alloc (.cells #[.slice A n c] 24)) (some ⟨w.heap.size, 0, none⟩) 1 [zs] := by
    refine ⟨rfl, fun _ => ⟨_, _, rfl, fun j ys hj => ?_⟩⟩
    rcases j with _ | j
    · obtain rfl : zs = ys := by simpa using hj
      exact ⟨A, n, c, B, by rw [(Blk.new _ _ _).cell]; rfl, hz.alloc hB _⟩
    · simp at hj
  have h := check_any _ _ 1 1 _ hr (by decide) (by simp [hz.1]; exact hn)
  simpa using h

theorem check_hdr (w : World) :
    Calls Try.prog 12 #[.slice (some ⟨w.heap.size + 1, 0, none⟩) 1 1] ((w.alloc (.cells ((hdr.map (Value.int .u8)).toArray) 5)).alloc (.cells #[.slice (some ⟨w.heap.size, 0, none⟩) 20 20] 24)) fun e w' => e = .returned (.int .u16 26319) ∧ Below w.heap.size w w' := by
  have hb := Blk.new w 5 ((hdr.map (Value.int .u8)).toArray)
  have hr := hb.reads (zs := hdr) (by decide) hb.lt
  have h := check_one _ _ _ 20 20 hdr hr (Nat.le_refl _) (by decide)
  have hz1 : (w.alloc (.cells ((hdr.map (Value.int .u8)).toArray) 5)).heap.size = w.heap.size + 1 := by simp
  rw [hz1] at h
  refine Calls.mono h ?_
  rintro e w' ⟨rfl, rfl⟩
  exact ⟨ret_k (by decide), ((Below.refl _ _).alloc (Nat.le_refl _) _).alloc (by simp) _⟩

set_option maxHeartbeats 1000000 in
theorem tawake_yes (w : World) : Calls Try.prog 10 #[] w fun e w' => e = .returned (.bool true) ∧ Below w.heap.size w w' := by
  have A1 := Lib.hid (add_any 65535 1 (by unfold W16; decide) (by unfold W16; decide) w)
  have A2 := Lib.hid (add_any 65535 0 (by unfold W16; decide) (by unfold W16; decide) w)
  have S1 := Lib.hid (sum_lit2 w [1, 2] [3] 1026 (by unfold Bys; decide) (by unfold Bys; decide) (by decide) (by decide))
  go_enter Try.func10, Try.ntmps10
  go_wp2_with fail
  refine Calls.mono A1.out ?_
  rintro e w' ⟨rfl, rfl⟩
  rw [show ad 65535 1 = 1 by decide]
  go_wp2_with fail
  refine Calls.mono A2.out ?_
  rintro e w' ⟨rfl, rfl⟩
  rw [show ad 65535 0 = 65535 by decide]
  go_wp2_with fail
  refine Calls.mono S1.out ?_
  rintro e w1 ⟨rfl, hB1⟩
  have S2 := Lib.hid (sum_lit2 w1 [1] [2] 258 (by unfold Bys; decide) (by unfold Bys; decide) (by decide) (by decide))
  go_wp2_with fail
  refine Calls.mono S2.out ?_
  rintro e w2 ⟨rfl, hB2⟩
  go_wp2_with fail
  refine Calls.mono (header_any _) ?_
  rintro e w' ⟨rfl, rfl⟩
  have C2 := Lib.hid (check_hdr w2)
  go_wp2_with fail
  refine Calls.mono C2.out ?_
  rintro e w3 ⟨rfl, hB3⟩
  have U := update_any 26319 16401 16145 (by unfold W16; decide) (by unfold W16; decide) (by unfold W16; decide) w3
  rw [show (65535 : Int) - ad 16145 (ad (65535 - 26319) (65535 - 16401)) = 26575 by decide] at U
  have HU := Lib.hid U
  clear U
  go_wp2_with fail
  refine Calls.mono HU.out ?_
  rintro e w' ⟨rfl, rfl⟩
  have P1 := pseudo_four w3 0 1 0 2 8 17 false (by decide) (by decide)
  rw [show fo (tot 0 (psd4 1 2 8 17)) = 28 by decide] at P1
  have HP1 := Lib.hid P1
  clear P1
  go_wp2_with fail
  refine Calls.mono HP1.out ?_
  rintro e w4 ⟨rfl, hB4⟩
  have P2 := pseudo_six w4 1 0 0 2 65537 58 true (by decide) (by decide) (by decide) (by decide)
  rw [show fo (tot 0 (psd6 1 0 0 2 65537 58)) = 63 by decide] at P2
  have HP2 := Lib.hid P2
  clear P2
  go_wp2_with fail
  refine Calls.mono HP2.out ?_
  rintro e w5 ⟨rfl, hB5⟩
  have hB : Below w.heap.size w w5 := by
    have h2 := hB1.trans (hB2.mono hB1.size)
    have h3 := h2.trans (hB3.mono h2.size)
    have h4 := h3.trans (hB4.mono h3.size)
    exact h4.trans (hB5.mono h4.size)
  clear hB1 hB2 hB3 hB4 hB5
  go_wp2
  go_ret
  exact ⟨rfl, hB⟩
end Go.Proofs.Ytelkjcgfielbpaa
