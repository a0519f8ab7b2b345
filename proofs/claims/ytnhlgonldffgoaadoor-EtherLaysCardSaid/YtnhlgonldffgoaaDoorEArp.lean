/-
  Which ARP messages may be; their numbers.
-/
import Derived.Test.YtnhlgonldffgoaaDoorESmall
namespace Go.Proofs.YtnhlgonldffgoaaDoor
open Go.RowKit
set_option linter.unusedVariables false

/-- Block g is an ARP message. -/
theorem Blk.c9 {w : World} {g : Nat} {t : TypeId} {a b c d e f h i j : Value} (H : Blk w g t #[a, b, c, d, e, f, h, i, j]) : w.cell? ⟨g, 0, none⟩ = some a ∧ w.cell? ⟨g, 1, none⟩ = some b ∧ w.cell? ⟨g, 2, none⟩ = some c ∧ w.cell? ⟨g, 3, none⟩ = some d ∧ w.cell? ⟨g, 4, none⟩ = some e ∧ w.cell? ⟨g, 5, none⟩ = some f ∧ w.cell? ⟨g, 6, none⟩ = some h ∧ w.cell? ⟨g, 7, none⟩ = some i ∧ w.cell? ⟨g, 8, none⟩ = some j :=
  ⟨by rw [H.cell]; rfl, by rw [H.cell]; rfl, by rw [H.cell]; rfl, by rw [H.cell]; rfl, by rw [H.cell]; rfl, by rw [H.cell]; rfl, by rw [H.cell]; rfl, by rw [H.cell]; rfl, by rw [H.cell]; rfl⟩

set_option maxRecDepth 100000 in
set_option maxHeartbeats 2000000 in
theorem isArp_any (op fm : Int) (s : Bool) (h l tm : Int) (s' : Bool) (h' l' : Int) (w : World) :
    Calls Tryd.prog 68 #[arpv op fm s h l tm s' h' l'] w fun e w' => e = .returned (.bool (arB op fm s h l tm s' h' l')) ∧ Below w.heap.size w w' := by
  obtain ⟨V1, hV1⟩ : ∃ v, mcB fm = v := ⟨_, rfl⟩
  obtain ⟨V2, hV2⟩ : ∃ v, foB s h l = v := ⟨_, rfl⟩
  obtain ⟨V3, hV3⟩ : ∃ v, mcB tm = v := ⟨_, rfl⟩
  obtain ⟨V4, hV4⟩ : ∃ v, foB s' h' l' = v := ⟨_, rfl⟩
  have hR2 : arB op fm s h l tm s' h' l' = ((decide (op = 1) || decide (op = 2)) && V1 && V2 && V3 && V4) := by rw [← hV1, ← hV2, ← hV3, ← hV4]; rfl
  obtain ⟨R, hR⟩ : ∃ v, arB op fm s h l tm s' h' l' = v := ⟨_, rfl⟩
  rw [hR] at hR2 ⊢
  have HR := Lib.hid hR2
  have H1 := Lib.hid (fun W => isMac_at fm hV1 W)
  have H2 := Lib.hid (fun W => isFour_at s h l hV2 W)
  have H3 := Lib.hid (fun W => isMac_at tm hV3 W)
  have H4 := Lib.hid (fun W => isFour_at s' h' l' hV4 W)
  clear hR hR2 hV1 hV2 hV3 hV4
  by_cases ho : op = 1 ∨ op = 2
  · rcases ho with rfl | rfl
    all_goals
      cases V1
      · go_enter Tryd.func68, Tryd.ntmps68
        go_wp2_with fail
        refine Calls.mono (H1.out _) ?_
        rintro e w1 ⟨rfl, rfl⟩
        go_wp2
        go_ret
        exact ⟨ret_bool (by rw [HR.out]; simp), (Below.refl _ _).alloc (Nat.le_refl _) _⟩
      · cases V2
        · go_enter Tryd.func68, Tryd.ntmps68
          go_wp2_with fail
          refine Calls.mono (H1.out _) ?_
          rintro e w1 ⟨rfl, rfl⟩
          go_wp2_with fail
          refine Calls.mono (H2.out _) ?_
          rintro e w2 ⟨rfl, hb⟩
          have L1 := ((Below.refl _ w).alloc (Nat.le_refl _) _).trans (hb.mono (by simp only [World.size_alloc]; omega))
          clear hb
          go_wp2
          go_ret
          exact ⟨ret_bool (by rw [HR.out]; simp), L1⟩
        · go_enter Tryd.func68, Tryd.ntmps68
          go_wp2_with fail
          refine Calls.mono (H1.out _) ?_
          rintro e w1 ⟨rfl, rfl⟩
          go_wp2_with fail
          refine Calls.mono (H2.out _) ?_
          rintro e w2 ⟨rfl, hb⟩
          have K1 := Lib.hid ((Blk.new w 45 _).below hb (by simp only [World.size_alloc]; omega))
          have L1 := Lib.hid (((Below.refl _ w).alloc (Nat.le_refl _) _).trans (hb.mono (by simp only [World.size_alloc]; omega)))
          clear hb
          obtain ⟨f1, f2, f3, f4, f5, f6, f7, f8, f9⟩ := K1.out.c9
          go_wp2_with fail
          refine Calls.mono (H3.out _) ?_
          rintro e w3 ⟨rfl, rfl⟩
          cases V3
          · go_wp2
            go_ret
            exact ⟨ret_bool (by rw [HR.out]; simp), L1.out⟩
          · go_wp2_with fail
            refine Calls.mono (H4.out _) ?_
            rintro e w3 ⟨rfl, hb⟩
            have L2 := L1.out.trans (hb.mono L1.out.size)
            clear hb f1 f2 f3 f4 f5 f6 f7 f8 f9
            go_wp2
            go_ret
            exact ⟨ret_bool (by rw [HR.out]; simp), L2⟩
  · have n1 : ¬ op = 1 := fun e => ho (.inl e)
    have n2 : ¬ op = 2 := fun e => ho (.inr e)
    clear ho
    go_enter Tryd.func68, Tryd.ntmps68
    go_wp2
    go_ret
    exact ⟨ret_bool (by rw [HR.out]; simp [n1, n2]), (Below.refl _ _).alloc (Nat.le_refl _) _⟩
theorem isArp_at (op fm : Int) (s : Bool) (h l tm : Int) (s' : Bool) (h' l' : Int) {b : Bool} (e : arB op fm s h l tm s' h' l' = b) (w : World) :
    Calls Tryd.prog 68 #[arpv op fm s h l tm s' h' l'] w fun e w' => e = .returned (.bool b) ∧ Below w.heap.size w w' := by
  subst e; exact isArp_any op fm s h l tm s' h' l' w

/-- The numbers of a message. -/
abbrev nums (a b c d e f g h i : Int) : Value := .agg #[.int .u64 a, .int .u64 b, .int .u64 c, .int .u64 d, .int .u64 e, .int .u64 f, .int .u64 g, .int .u64 h, .int .u64 i]
set_option maxRecDepth 100000 in
set_option maxHeartbeats 2000000 in
theorem numbersOf_any (op fm : Int) (s : Bool) (h l tm : Int) (s' : Bool) (h' l' : Int) (h0 : 0 ≤ op) (h1 : op ≤ 65535) (w : World) :
    Calls Tryd.prog 69 #[arpv op fm s h l tm s' h' l'] w fun e w' => e = .returned (nums 1 2048 6 4 op fm l tm l') ∧ Below w.heap.size w w' := by
  go_enter Tryd.func69, Tryd.ntmps69
  go_wp2
  exact bodyPost_ret (v := nums 1 2048 6 4 op fm l tm l') (by simp [results, Tryd.results69, go_sem]) rfl ⟨rfl, (((Below.refl _ w).alloc (Nat.le_refl _) _).alloc (by simp) _)⟩
set_option maxRecDepth 100000 in
set_option maxHeartbeats 2000000 in
theorem arp_any (a b c d e f g h i : Int) (h0 : 0 ≤ e) (h1 : e ≤ 65535) (w : World) :
    Calls Tryd.prog 76 #[nums a b c d e f g h i] w fun x w' => x = .returned (arpv e f false 0 g h false 0 i) ∧ Below w.heap.size w w' := by
  go_enter Tryd.func76, Tryd.ntmps76
  go_wp2
  exact bodyPost_ret (v := arpv e f false 0 g h false 0 i) (by simp [results, Tryd.results76, go_sem]) rfl ⟨rfl, (((Below.refl _ w).alloc (Nat.le_refl _) _).alloc (by simp) _)⟩
end Go.Proofs.YtnhlgonldffgoaaDoor
