/-
  Several texts in one: Make, Valid, Groups.
-/
import Derived.Test.YtjlmgkdieffjcaaGreatDoorWords
import Derived.Test.YtjlmgkdieffjcaaGreatDoorRows
import Derived.WalkKit
import Derived.WalkSpells
import Derived.WalkLawsBesides
import Derived.Outline
import Derived.Deep.QuietTactic
import Derived.BigQuiet
import Derived.Lib.Hide
import Derived.Laws.CopyOwn
import Derived.Deep.OwnRows

namespace Go.Proofs.YtjlmgkdieffjcaaGreatDoor
open Go.RowKit
set_option linter.unusedVariables false

theorem Tryz.info5 : (Tryz.prog.info? 5).map (fun i => (i.zero, i.size, i.bytes)) = some (some (.int .u8 0), 1, 1) := by kernel_rfl

theorem make_sum (n k : Nat) (h : n + k ≤ 281474976710656) (w : World) :
    (Instr.makeSlice 139 (.int .i64 ((n : Int) + (k : Int))) (.int .i64 ((n : Int) + (k : Int)))).run Tryz.prog w = .ok (.slice (some ⟨w.heap.size, 0, none⟩) (n + k) (n + k)) (w.alloc (.cells (madeCells #[.int .u8 0] (n + k)) 5)) := by
  have h := run_make_row' (P := Tryz.prog) 139 5 (.int .u8 0) 1 Tryz.underlying139 Tryz.info5 rfl .i64 .i64 (n + k) (by omega) (by omega) w
  rwa [show ((n + k : Nat) : Int) = (n : Int) + (k : Int) by omega] at h

theorem made_list (n : Nat) : madeCells #[.int .u8 0] n = (List.replicate n (Value.int .u8 0)).toArray := by
  apply Array.ext
  · simp [madeCells]
  · intro i h1 h2
    simp [madeCells, Nat.mod_one]
theorem bytes_oneCell {zs : List Int} : ∀ u ∈ zs.map (Value.int .u8), u.oneCell' = true := ints_oneCell .u8 zs

theorem splice_start (n k : Nat) (zs : List Int) (h : zs.length = n) : splice (List.replicate (n + k) (Value.int .u8 0)) 0 (zs.map (Value.int .u8)) = ((zs ++ List.replicate (k - 0) 0 ++ putOf 0 0).map (Value.int .u8)) := by
  simp [splice, putOf, h]
theorem put_bytes (zs : List Int) (k j : Nat) (v : Int) (hj : j < k) :
    (((zs ++ List.replicate (k - j) 0 ++ putOf j v).map (Value.int .u8)).toArray).setIfInBounds (zs.length + (k - j - 1)) (.int .u8 (v / 256 ^ j % 256)) =
      ((zs ++ List.replicate (k - (j + 1)) 0 ++ putOf (j + 1) v).map (Value.int .u8)).toArray := by
  have e : k - j = (k - (j + 1)) + 1 := by omega
  rw [e, List.replicate_succ', putOf_cons]
  simp
theorem cs_len (zs : List Int) (n k : Nat) (h : zs.length = n) : (zs.map (Value.int .u8)).length = Nat.min n (n + k) := by
  simp only [List.length_map, h]; exact (Nat.min_eq_left (by omega)).symm

theorem cs_at {w1 : World} {A : Option Addr} {n B : Nat} {zs : List Int} (h : RI .u8 w1 B A n zs) (g : Nat) :
    0 < (zs.map (Value.int .u8)).length → (some (⟨g, 0, none⟩ : Addr) = some ⟨g, 0, none⟩) ∧ ∃ ad, A = some ad ∧ ∀ j v, (zs.map (Value.int .u8))[j]? = some v → w1.cell? (ad.add j) = some v := by
  intro hl
  obtain ⟨b, o, rfl, _, hc⟩ := h.2.1 (by have := h.1; simp at hl; omega)
  refine ⟨rfl, _, rfl, fun j v hv => ?_⟩
  rw [List.getElem?_map, Option.map_eq_some_iff] at hv
  obtain ⟨z, hz, rfl⟩ := hv
  rw [← hc j z hz]
  simp only [Addr.add]
  split
  · rename_i h0; simp [h0]
  · rfl

/-- How many bytes a width lays: none below 0, eight above 8. -/
def wide (width : Int) : Nat := (if 8 < (if width < 0 then 0 else width) then 8 else (if width < 0 then 0 else width)).toNat
theorem wide_le (width : Int) : wide width ≤ 8 := by unfold wide; split <;> omega
theorem wide_eq (width : Int) : (if 8 < (if width < 0 then 0 else width) then 8 else (if width < 0 then 0 else width)) = (wide width : Int) := by unfold wide; split <;> split <;> omega

end Go.Proofs.YtjlmgkdieffjcaaGreatDoor

namespace Go.Proofs.YtjlmgkdieffjcaaGreatDoor
open Go.RowKit
set_option linter.unusedVariables false

/-- An address as a value. -/
abbrev adr (s : Bool) (h l : Int) : Value := .agg #[.bool s, .int .u64 h, .int .u64 l]
/-- A number of 64 bits. -/
def U6 (n : Int) : Prop := 0 ≤ n ∧ n ≤ 18446744073709551615
def vld (s : Bool) (h l : Int) : Bool := s || (decide (h = 0) && decide (l ≤ 4294967295))
theorem vld_six (h l : Int) : vld true h l = true := rfl
theorem vld_four {h l : Int} (e : vld false h l = true) : h = 0 ∧ l ≤ 4294967295 := by simpa [vld] using e
theorem vld_no {s : Bool} {h l : Int} (e : vld s h l = false) : s = false ∧ (h ≠ 0 ∨ ¬ l ≤ 4294967295) := by
  cases s
  · simp [vld] at e
    refine ⟨rfl, ?_⟩
    by_cases h0 : h = 0
    · exact .inr (by have := e h0; omega)
    · exact .inl h0
  · simp [vld] at e

set_option maxHeartbeats 400000 in
theorem valid_any (s : Bool) (h l : Int) (w : World) :
    Calls Tryz.prog 85 #[adr s h l] w fun e w' => e = .returned (.bool (vld s h l)) ∧ Below w.heap.size w w' := by
  cases s
  · by_cases h0 : h = 0
    · subst h0
      by_cases hl : l ≤ 4294967295
      · go_enter Tryz.func85, Tryz.ntmps85
        go_wp2
        go_ret
        exact ⟨by simp [vld, hl], (Below.refl _ _).alloc (Nat.le_refl _) _⟩
      · go_enter Tryz.func85, Tryz.ntmps85
        go_wp2
        go_ret
        exact ⟨by simp [vld, hl], (Below.refl _ _).alloc (Nat.le_refl _) _⟩
    · go_enter Tryz.func85, Tryz.ntmps85
      go_wp2
      go_ret
      exact ⟨by simp [vld, h0], (Below.refl _ _).alloc (Nat.le_refl _) _⟩
  · go_enter Tryz.func85, Tryz.ntmps85
    go_wp2
    go_ret
    exact ⟨by simp [vld], (Below.refl _ _).alloc (Nat.le_refl _) _⟩
set_option maxHeartbeats 400000 in
theorem rvalid_any (s : Bool) (h l : Int) (w : World) :
    Calls Tryz.prog 98 #[adr s h l] w fun e w' => e = .returned (.bool (vld s h l)) ∧ Below w.heap.size w w' := by
  cases s
  · by_cases h0 : h = 0
    · subst h0
      by_cases hl : l ≤ 4294967295
      · have hl' : l < 4294967296 := by omega
        go_enter Tryz.func98, Tryz.ntmps98
        go_wp2
        go_ret
        exact ⟨by simp [vld, hl], (Below.refl _ _).alloc (Nat.le_refl _) _⟩
      · have hl' : ¬ l < 4294967296 := by omega
        go_enter Tryz.func98, Tryz.ntmps98
        go_wp2
        go_ret
        exact ⟨by simp [vld, hl], (Below.refl _ _).alloc (Nat.le_refl _) _⟩
    · go_enter Tryz.func98, Tryz.ntmps98
      go_wp2
      go_ret
      exact ⟨by simp [vld, h0], (Below.refl _ _).alloc (Nat.le_refl _) _⟩
  · go_enter Tryz.func98, Tryz.ntmps98
    go_wp2
    go_ret
    exact ⟨by simp [vld], (Below.refl _ _).alloc (Nat.le_refl _) _⟩

/-- Which of two addresses is less. -/
def lss (s : Bool) (h l : Int) (s' : Bool) (h' l' : Int) : Bool :=
  vld s h l && vld s' h' l' && (if s ≠ s' then s' else if h ≠ h' then decide (h < h') else decide (l < l'))

theorem valid_at (s : Bool) (h l : Int) (w : World) {b : Bool} (e : vld s h l = b) :
    Calls Tryz.prog 85 #[adr s h l] w fun e w' => e = .returned (.bool b) ∧ Below w.heap.size w w' := by
  subst e; exact valid_any s h l w
theorem rvalid_at (s : Bool) (h l : Int) (w : World) {b : Bool} (e : vld s h l = b) :
    Calls Tryz.prog 98 #[adr s h l] w fun e w' => e = .returned (.bool b) ∧ Below w.heap.size w w' := by
  subst e; exact rvalid_any s h l w
theorem Blk.c3 {w : World} {g : Nat} {t : TypeId} {a b c : Value} (h : Blk w g t #[a, b, c]) : w.cell? ⟨g, 0, none⟩ = some a ∧ w.cell? ⟨g, 1, none⟩ = some b ∧ w.cell? ⟨g, 2, none⟩ = some c :=
  ⟨by rw [h.cell]; rfl, by rw [h.cell]; rfl, by rw [h.cell]; rfl⟩
theorem bcell {W w1 : World} (hb : Below W.heap.size W w1) : (∀ b o, b < W.heap.size → w1.cell? ⟨b, o, none⟩ = W.cell? ⟨b, o, none⟩) ∧ (∀ b o, b < W.heap.size → w1.frozen? ⟨b, o, none⟩ = W.frozen? ⟨b, o, none⟩) :=
  ⟨fun b o h => hb.cell (p := ⟨b, o, none⟩) h, fun b o h => hb.frozen (p := ⟨b, o, none⟩) h⟩

theorem ret_bool {a b : Bool} (h : a = b) : Ending.returned (.bool a) = .returned (.bool b) := by rw [h]

set_option maxHeartbeats 1000000 in
theorem less_any (s : Bool) (h l : Int) (s' : Bool) (h' l' : Int) (w : World) :
    Calls Tryz.prog 80 #[adr s h l, adr s' h' l'] w fun e w' => e = .returned (.bool (lss s h l s' h' l')) ∧ Below w.heap.size w w' := by
  obtain ⟨V1, hV1⟩ : ∃ v, vld s h l = v := ⟨_, rfl⟩
  obtain ⟨V2, hV2⟩ : ∃ v, vld s' h' l' = v := ⟨_, rfl⟩
  obtain ⟨R, hR⟩ : ∃ v, lss s h l s' h' l' = v := ⟨_, rfl⟩
  have HR := Lib.hid hR
  rw [hR]
  have H1 := Lib.hid (fun W => valid_at s h l W hV1)
  have H2 := Lib.hid (fun W => valid_at s' h' l' W hV2)
  have G1 := Lib.hid hV1
  have G2 := Lib.hid hV2
  clear hR hV1 hV2
  cases V1
  · go_enter Tryz.func80, Tryz.ntmps80
    go_wp2_with fail
    refine Calls.mono (H1.out _) ?_
    rintro e w1 ⟨rfl, hb⟩
    go_wp2
    go_ret
    exact ⟨by rw [← HR.out]; simp [lss, G1.out], (((Below.refl _ _).alloc (Nat.le_refl _) _).alloc (by simp) _).trans (hb.mono (by simp; omega))⟩
  · cases V2
    · go_enter Tryz.func80, Tryz.ntmps80
      go_wp2_with fail
      refine Calls.mono (H1.out _) ?_
      rintro e w1 ⟨rfl, hb⟩
      obtain ⟨hc, hf⟩ := bcell hb
      go_wp2_with fail
      refine Calls.mono (H2.out _) ?_
      rintro e w2 ⟨rfl, hb2⟩
      go_wp2
      go_ret
      have B1 := (((Below.refl _ w).alloc (Nat.le_refl _) _).alloc (by simp) _).trans (hb.mono (by simp; omega))
      exact ⟨by rw [← HR.out]; simp [lss, G1.out, G2.out], B1.trans (hb2.mono B1.size)⟩
    · rcases s with _ | _ <;> rcases s' with _ | _
      all_goals first | (by_cases hh : h = h'; subst hh) | skip
      all_goals
        go_enter Tryz.func80, Tryz.ntmps80
        go_wp2_with fail
        refine Calls.mono (H1.out _) ?_
        rintro e w1 ⟨rfl, hb⟩
        obtain ⟨hc, hf⟩ := bcell hb
        go_wp2_with fail
        refine Calls.mono (H2.out _) ?_
        rintro e w2 ⟨rfl, hb2⟩
        obtain ⟨c0, c1, c2⟩ := ((((Blk.new w 30 _).alloc _).below hb (by simp only [World.size_alloc]; omega)).below hb2 (by have := hb.size; simp at this; omega)).c3
        obtain ⟨d0, d1, d2⟩ := (((Blk.new (w.alloc _) 30 _).below hb (by simp only [World.size_alloc]; omega)).below hb2 (by have := hb.size; simp at this ⊢; omega)).c3
        rw [World.size_alloc] at d0 d1 d2
        have B1 := Lib.hid ((((Below.refl _ w).alloc (Nat.le_refl _) _).alloc (by simp) _).trans (hb.mono (by simp; omega)))
        have B2 := Lib.hid (B1.out.trans (hb2.mono B1.out.size))
        go_wp2
        go_ret
        exact ⟨ret_bool (by rw [← HR.out]; simp [lss, G1.out, G2.out, *]), B2.out⟩
/-- The bytes of an address. -/
def byts (s : Bool) (h l : Int) : List Int := if vld s h l then (if s then putOf 8 h ++ putOf 8 l else putOf 4 l) else []
end Go.Proofs.YtjlmgkdieffjcaaGreatDoor

namespace Go.Proofs.YtjlmgkdieffjcaaGreatDoor
open Go.RowKit
set_option linter.unusedVariables false

/-- Group k of four of a number of 64 bits. -/
def gr (n : Int) (k : Nat) : Int := n / 65536 ^ (3 - k) % 65536
theorem gr_0 (n : Int) : n / 281474976710656 % 65536 = gr n 0 := rfl
theorem gr_1 (n : Int) : n / 4294967296 % 65536 = gr n 1 := rfl
theorem gr_2 (n : Int) : n / 65536 % 65536 = gr n 2 := rfl
theorem gr_3 (n : Int) : n % 65536 = gr n 3 := by unfold gr; simp
theorem gr_0' (n : Int) (h0 : 0 ≤ n) (h1 : n ≤ 18446744073709551615) : gr n 0 = n / 281474976710656 := by rw [← gr_0]; omega
theorem gr_3' (n : Int) : gr n 3 = IntKind.u16.wrap n := by rw [← gr_3, IntKind.wrap_u16]
theorem gr_bd (n : Int) (k : Nat) : 0 ≤ gr n k ∧ gr n k ≤ 65535 := by unfold gr; omega
/-- The groups as a value. -/
abbrev grs (h l : Int) : Value := .agg #[.int .u16 (gr h 0), .int .u16 (gr h 1), .int .u16 (gr h 2), .int .u16 (gr h 3), .int .u16 (gr l 0), .int .u16 (gr l 1), .int .u16 (gr l 2), .int .u16 (gr l 3)]

set_option maxHeartbeats 1000000 in
theorem groups_any (s : Bool) (h l : Int) (hh : U6 h) (hl : U6 l) (w : World) :
    Calls Tryz.prog 104 #[adr s h l] w fun e w' => e = .returned (grs h l) ∧ Below w.heap.size w w' := by
  obtain ⟨h0, h1⟩ := hh
  obtain ⟨l0, l1⟩ := hl
  have E1 := Lib.hid (gr_0' h h0 h1)
  have E2 := Lib.hid (gr_0' l l0 l1)
  have E3 := Lib.hid (gr_3' h)
  have E4 := Lib.hid (gr_3' l)
  go_enter Tryz.func104, Tryz.ntmps104
  go_wp2
  go_loopw [6] (fun i wr => (i = .int .i64 0 ∧ wr = ((w.alloc (.cells #[.bool s, .int .u64 h, .int .u64 l] 30)).alloc (.cells #[.int .u16 0, .int .u16 0, .int .u16 0, .int .u16 0, .int .u16 0, .int .u16 0, .int .u16 0, .int .u16 0] 129)).alloc (.cells #[.int .u16 0, .int .u16 0, .int .u16 0, .int .u16 0, .int .u16 0, .int .u16 0, .int .u16 0, .int .u16 0] 129)) ∨ (i = .int .i64 1 ∧ wr = ((w.alloc (.cells #[.bool s, .int .u64 h, .int .u64 l] 30)).alloc (.cells #[.int .u16 0, .int .u16 0, .int .u16 0, .int .u16 0, .int .u16 0, .int .u16 0, .int .u16 0, .int .u16 0] 129)).alloc (.cells #[.int .u16 (gr h 0), .int .u16 0, .int .u16 0, .int .u16 0, .int .u16 (gr l 0), .int .u16 0, .int .u16 0, .int .u16 0] 129)) ∨ (i = .int .i64 2 ∧ wr = ((w.alloc (.cells #[.bool s, .int .u64 h, .int .u64 l] 30)).alloc (.cells #[.int .u16 0, .int .u16 0, .int .u16 0, .int .u16 0, .int .u16 0, .int .u16 0, .int .u16 0, .int .u16 0] 129)).alloc (.cells #[.int .u16 (gr h 0), .int .u16 (gr h 1), .int .u16 0, .int .u16 0, .int .u16 (gr l 0), .int .u16 (gr l 1), .int .u16 0, .int .u16 0] 129)) ∨ (i = .int .i64 3 ∧ wr = ((w.alloc (.cells #[.bool s, .int .u64 h, .int .u64 l] 30)).alloc (.cells #[.int .u16 0, .int .u16 0, .int .u16 0, .int .u16 0, .int .u16 0, .int .u16 0, .int .u16 0, .int .u16 0] 129)).alloc (.cells #[.int .u16 (gr h 0), .int .u16 (gr h 1), .int .u16 (gr h 2), .int .u16 0, .int .u16 (gr l 0), .int .u16 (gr l 1), .int .u16 (gr l 2), .int .u16 0] 129)) ∨ (i = .int .i64 4 ∧ wr = ((w.alloc (.cells #[.bool s, .int .u64 h, .int .u64 l] 30)).alloc (.cells #[.int .u16 0, .int .u16 0, .int .u16 0, .int .u16 0, .int .u16 0, .int .u16 0, .int .u16 0, .int .u16 0] 129)).alloc (.cells #[.int .u16 (gr h 0), .int .u16 (gr h 1), .int .u16 (gr h 2), .int .u16 (gr h 3), .int .u16 (gr l 0), .int .u16 (gr l 1), .int .u16 (gr l 2), .int .u16 (gr l 3)] 129))) (fun i _ => 4 - (intOf i).toNat)
  case atStart => exact Or.inl ⟨rfl, rfl⟩
  case round =>
    rcases hrel with ⟨rfl, rfl⟩ | ⟨rfl, rfl⟩ | ⟨rfl, rfl⟩ | ⟨rfl, rfl⟩ | ⟨rfl, rfl⟩
    · go_wp2
      go_roundw
      case rel => exact Or.inr (Or.inl ⟨rfl, by first | rfl | (rw [E1.out, E2.out]; done) | (rw [E3.out, E4.out]; done)⟩)
      case measure => simp [intOf]
    · go_wp2
      go_roundw
      case rel => exact Or.inr (Or.inr (Or.inl ⟨rfl, by first | rfl | (rw [E1.out, E2.out]; done) | (rw [E3.out, E4.out]; done)⟩))
      case measure => simp [intOf]
    · go_wp2
      go_roundw
      case rel => exact Or.inr (Or.inr (Or.inr (Or.inl ⟨rfl, by first | rfl | (rw [E1.out, E2.out]; done) | (rw [E3.out, E4.out]; done)⟩)))
      case measure => simp [intOf]
    · go_wp2
      go_roundw
      case rel => exact Or.inr (Or.inr (Or.inr (Or.inr (⟨rfl, by first | rfl | (rw [E1.out, E2.out]; done) | (rw [E3.out, E4.out]; done)⟩))))
      case measure => simp [intOf]

    · go_wp2
      exact bodyPost_ret (v := grs h l) (by simp [results, Tryz.results104, go_sem]) rfl ⟨rfl, (((Below.refl _ _).alloc (Nat.le_refl _) _).alloc (by simp) _).alloc (by simp only [World.size_alloc]; omega) _⟩
end Go.Proofs.YtjlmgkdieffjcaaGreatDoor
