/-
  The chapter's examples that each law calls first: they answer true.
-/
import Derived.Test.YtigkikoogolkkaaReader
import Derived.Test.YtigkikoogolkkaaSame
namespace Go.Proofs.Ytigkikoogolkkaa
open Go.RowKit
set_option linter.unusedVariables false

theorem get_yes_i (w : World) (B : Nat) (A : Option Addr) (n c : Nat) (a k : Int) (zs : List Int) (hz : RI .u8 w B A n zs) (ha : 0 ≤ a) (hk0 : 0 ≤ k) (hk : k ≤ 8) (hn : a + k ≤ n) (hc : n ≤ 9223372036854775807) :
    Calls Try.prog 15 #[.slice A n c, .int .i64 a, .int .i64 k] w fun e w' => e = .returned (.tuple #[.int .u64 (numOf ((zs.drop a.toNat).take k.toNat)), .bool true]) ∧ w = w' := by
  have h := get_yes w B A n c a.toNat k.toNat zs hz (by omega) (by omega) hc
  rwa [Int.toNat_of_nonneg ha, Int.toNat_of_nonneg hk0] at h

theorem Rd.bounds {w : World} {L B r : Nat} {zs : List Int} {sh : Bool} (h : Rd w L B r zs sh) : L ≤ r ∧ r < B := by
  obtain ⟨_, _, _, _, _, _, _, _, h3, h4⟩ := h
  exact ⟨h3, h4⟩
def b912 : List Int := [9, 1, 2]
def b123 : List Int := [1, 2, 3]
theorem wf912 : ∀ z ∈ b912, (Lit.int .u8 z).wf = true := by decide
theorem wf123 : ∀ z ∈ b123, (Lit.int .u8 z).wf = true := by decide

theorem a_put (w : World) (g : Nat) (hg : Blk w g 5 #[.int .u8 9]) :
    Calls Try.prog 11 #[.slice (some ⟨g, 0, none⟩) 1 1, .int .i64 2, .int .u64 258] w fun e w' => e = .returned (.slice (some ⟨w.heap.size, 0, none⟩) 3 3) ∧ Blk w' w.heap.size 5 ((b912.map (Value.int .u8)).toArray) ∧ Below w.heap.size w w' :=
  put_any w w.heap.size (some ⟨g, 0, none⟩) 1 1 258 2 [9] ((show Blk w g 5 ((([9] : List Int).map (Value.int .u8)).toArray) from hg).reads (by decide) hg.lt) (Nat.le_refl _) (by decide) (by decide)

theorem a_get1 (w : World) (g : Nat) (hg : Blk w g 5 ((b912.map (Value.int .u8)).toArray)) :
    Calls Try.prog 15 #[.slice (some ⟨g, 0, none⟩) 3 3, .int .i64 1, .int .i64 2] w fun e w' => e = .returned (.tuple #[.int .u64 258, .bool true]) ∧ w = w' :=
  get_yes_i w w.heap.size (some ⟨g, 0, none⟩) 3 3 1 2 b912 (hg.reads wf912 hg.lt) (by decide) (by decide) (by decide) (by decide) (by decide)

theorem a_get2 (w : World) (g : Nat) :
    Calls Try.prog 15 #[.slice (some ⟨g, 0, none⟩) 3 3, .int .i64 2, .int .i64 2] w fun e w' => e = .returned (.tuple #[.int .u64 0, .bool false]) ∧ w = w' :=
  get_no w (some ⟨g, 0, none⟩) 3 3 2 2 (by unfold NoNum; omega) (by decide) (by decide)

theorem a_new (w : World) (g : Nat) (hg : Blk w g 5 ((b123.map (Value.int .u8)).toArray)) :
    Calls Try.prog 17 #[.slice (some ⟨g, 0, none⟩) 3 3] w (NewRd w b123) :=
  new_any w w.heap.size (some ⟨g, 0, none⟩) 3 3 b123 (hg.reads wf123 hg.lt) (Nat.le_refl _) (by decide)

theorem a_num1 {w : World} {L B r : Nat} (h : Rd w L B r b123 false) :
    Calls Try.prog 21 #[.pointer (some ⟨r, 0, none⟩), .int .i64 2] w fun e w' => e = .returned (.int .u64 258) ∧ Rd w' L B r [3] false ∧ Only w w' r :=
  num_yes (k := 2) h (by decide) (by decide)
theorem a_left1 {w : World} {L B r : Nat} (h : Rd w L B r [3] false) :
    Calls Try.prog 23 #[.pointer (some ⟨r, 0, none⟩)] w fun e w' => e = .returned (.int .i64 1) ∧ w = w' := left_any h
theorem a_num2 {w : World} {L B r : Nat} (h : Rd w L B r [3] false) :
    Calls Try.prog 21 #[.pointer (some ⟨r, 0, none⟩), .int .i64 2] w fun e w' => e = .returned (.int .u64 0) ∧ Rd w' L B r [] true ∧ Only w w' r :=
  num_no h (by unfold NoNum; simp)
theorem a_left2 {w : World} {L B r : Nat} (h : Rd w L B r [] true) :
    Calls Try.prog 23 #[.pointer (some ⟨r, 0, none⟩)] w fun e w' => e = .returned (.int .i64 0) ∧ w = w' := left_any h
theorem a_same (w : World) (g g' : Nat) (hg : Blk w g 5 ((b912.map (Value.int .u8)).toArray)) (hg' : Blk w g' 5 ((b912.map (Value.int .u8)).toArray)) :
    Calls Try.prog 13 #[.slice (some ⟨g, 0, none⟩) 3 3, .slice (some ⟨g', 0, none⟩) 3 3] w fun e w' => e = .returned (.bool true) ∧ ∃ m, w' = w.drewN m :=
  same_yes w w.heap.size w.heap.size (some ⟨g, 0, none⟩) (some ⟨g', 0, none⟩) 3 3 3 b912 (hg.reads wf912 hg.lt) (hg'.reads wf912 hg'.lt) (by decide)

set_option maxHeartbeats 1000000 in
theorem awake_yes (w : World) : Calls Try.prog 9 #[] w fun e w' => e = .returned (.bool true) ∧ Below w.heap.size w w' := by
  go_enter Try.func9, Try.ntmps9
  go_wp2_with fail
  refine (a_put _ _ (Blk.new _ _ _)).mono ?_
  rintro e w1 ⟨rfl, hb1, hB1⟩
  simp only [World.size_alloc] at hb1 hB1
  have hB2 : Below w.heap.size w w1 := ((Below.refl _ _).alloc (Nat.le_refl _) _).trans (hB1.mono (by omega))
  clear hB1
  go_wp2_with fail
  refine (a_get1 _ _ hb1).mono ?_
  rintro e w' ⟨rfl, rfl⟩
  go_wp2_with fail
  refine (a_get2 _ _).mono ?_
  rintro e w' ⟨rfl, rfl⟩
  go_wp2_with fail
  refine (a_new _ _ (Blk.new _ _ _)).mono ?_
  rintro e w3 ⟨r, rfl, hr3, hB3⟩
  have hs := hb1.lt
  simp only [World.size_alloc] at hr3 hB3
  have hb3 := (hb1.alloc (.cells #[.int .u8 1, .int .u8 2, .int .u8 3] 5)).below hB3 (by omega)
  have hB4 : Below w.heap.size w w3 := (hB2.alloc (by omega) _).trans (hB3.mono (by omega))
  clear hB2 hB3 hb1
  go_wp2_with fail
  refine (a_num1 hr3).mono ?_
  rintro e w4 ⟨rfl, hr4, hO4⟩
  go_wp2_with fail
  refine (a_left1 hr4).mono ?_
  rintro e w' ⟨rfl, rfl⟩
  go_wp2_with fail
  refine (a_num2 hr4).mono ?_
  rintro e w5 ⟨rfl, hr5, hO5⟩
  have hO := hO4.trans hO5
  have hbd := hr5.bounds
  have hlt := hb3.lt
  have hb5 : Blk w5 (w.heap.size + 1) 5 ((b912.map (Value.int .u8)).toArray) := (hO.2.2.2.2 _ (by omega)).trans hb3
  have hB5 : Below w.heap.size w w5 := hB4.trans ((hO.below (Nat.le_refl _)).mono (by omega))
  have hlt5 := hb5.lt
  have hsz := hO.2.2.2.1
  have hn5 : Blk (w5.alloc (.cells #[.int .u8 9, .int .u8 1, .int .u8 2] 5)) w5.heap.size 5 ((b912.map (Value.int .u8)).toArray) := Blk.new _ _ _
  have hS := a_same _ _ _ (hb5.alloc (.cells #[.int .u8 9, .int .u8 1, .int .u8 2] 5)) hn5
  have hr6' := fun m => hr5.keep (w' := (w5.alloc (.cells #[.int .u8 9, .int .u8 1, .int .u8 2] 5)).drewN m) (fun b _ hb => Below.heap_alloc w5 _ b (by omega))
  have hB6' : ∀ m, Below w.heap.size w ((w5.alloc (.cells #[.int .u8 9, .int .u8 1, .int .u8 2] 5)).drewN m) := fun m => (hB5.alloc (by omega) _).trans ⟨rfl, rfl, rfl, Nat.le_refl _, fun _ _ => rfl⟩
  have HS := Lib.hid hS
  have HR := Lib.hid hr6'
  have HB := Lib.hid hB6'
  clear hO4 hO5 hO hb3 hB4 hn5 hS hsz hlt hlt5 hb5 hB5 hr5 hbd hs hr6' hB6'
  go_wp2_with fail
  refine Calls.mono HS.out ?_
  rintro e w6 ⟨rfl, m, hw6⟩
  have hr6 := HR.out m
  have hB6 := HB.out m
  rw [← hw6] at hr6 hB6
  clear hw6 HS HR HB
  go_wp2_with fail
  refine (short_any hr6).mono ?_
  rintro e w' ⟨rfl, rfl⟩
  go_wp2_with fail
  refine (a_left2 hr6).mono ?_
  rintro e w' ⟨rfl, rfl⟩
  go_wp2
  go_ret
  exact ⟨rfl, hB6⟩
end Go.Proofs.Ytigkikoogolkkaa
