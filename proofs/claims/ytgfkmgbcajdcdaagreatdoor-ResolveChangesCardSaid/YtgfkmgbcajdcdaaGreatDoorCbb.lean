/-
  Several texts in one: RwS, RwC, RwA, Gap, RBytes, PBt.
-/
import Derived.Test.YtgfkmgbcajdcdaaGreatDoorCar
import Derived.BigQuiet
import Derived.Test.YtgfkmgbcajdcdaaGreatDoorCaq
import Derived.Test.YtgfkmgbcajdcdaaGreatDoorCac
import Derived.Test.YtgfkmgbcajdcdaaGreatDoorCab
import Derived.Test.YtgfkmgbcajdcdaaGreatDoorCaa
import Derived.Deep.RegionHeld3
import Derived.Test.YtgfkmgbcajdcdaaGreatDoorCaj
namespace Go.Proofs.YtgfkmgbcajdcdaaGreatDoor
open Go.RowKit Ifs
set_option linter.unusedVariables false

theorem same_en_eq (n0 p0 h0 l0 h1 l1 : Int) (s0 s1 w0 : Bool) (W : World) : (Op.equalIn 10000 70 (.agg #[.bool s0, .int .u64 h0, .int .u64 l0, .int .i64 n0, .int .i64 p0, .bool s1, .int .u64 h1, .int .u64 l1, .bool w0]) (.agg #[.bool s0, .int .u64 h0, .int .u64 l0, .int .i64 n0, .int .i64 p0, .bool s1, .int .u64 h1, .int .u64 l1, .bool w0])).run Tryz.prog W = .ok true W := by
  go_simp
set_option maxRecDepth 100000 in
set_option maxHeartbeats 4000000 in
theorem same_en (A B : Option Addr) (n c d : Nat) (l : List EnI) (hl : l.length = n) (hn : n ≤ 100000) (w : World) (h1 : w.ownsRow 0 70 9 (.slice A n c) n (l.flatMap enC)) (h2 : w.ownsRow 0 70 9 (.slice B n d) n (l.flatMap enC)) :
    Calls Tryz.prog 21 #[.slice A n c, .slice B n d] w fun e w' => e = .returned (.bool true) ∧ Tch w w' [] := by
  have HX := Lib.hid hl
  have H1 := Lib.hid (fun W (hW : Tch w W []) => own_tch h1 hW (by simp))
  have H2 := Lib.hid (fun W (hW : Tch w W []) => own_tch h2 hW (by simp))
  have bn : ((n : Int) != (n : Int)) = false := by simp
  clear hl h1 h2
  go_enter Tryz.func21, Tryz.ntmps21
  go_wp2
  clear bn
  go_loopw [5] (fun kv wr => ∃ k : Nat, kv = .int .i64 (k : Int) ∧ k ≤ n ∧ Hid (Tch w wr [])) (fun kv _ => n - (intOf kv).toNat)
  case atStart => exact ⟨0, rfl, Nat.zero_le _, Lib.hid (Tch.refl _ _)⟩
  case round =>
    obtain ⟨k, rfl, hk, hT⟩ := hrel
    have k1 : IntKind.i64.wrap ((k : Int) + 1) = (k : Int) + 1 := by rw [IntKind.wrap_i64]; omega
    by_cases hkn : k < n
    · have kI : (k : Int) < (n : Int) := by omega
      have k0 : (0 : Int) ≤ (k : Int) := by omega
      obtain ⟨u, hu⟩ : ∃ u, l[k]? = some u := ⟨_, List.getElem?_eq_getElem (by rw [HX.out]; exact hkn)⟩
      obtain ⟨g, rfl⟩ := slice_some (H1.out wr hT.out) (by omega)
      obtain ⟨g', rfl⟩ := slice_some (H2.out wr hT.out) (by omega)
      have hat := fun q hq => flatk_at (n := 9) en_nine hu (k := q) hq
      obtain ⟨⟨⟨s0, h0, l0⟩, n0⟩, ⟨p0, ⟨s1, h1, l1⟩, w0⟩⟩ := u

      have a0 : wr.cell? ⟨g, k * 9, none⟩ = some (Value.bool s0) := own_cellN (H1.out wr hT.out) (hat 0 (by decide))
      have b0 : wr.cell? ⟨g', k * 9, none⟩ = some (Value.bool s0) := own_cellN (H2.out wr hT.out) (hat 0 (by decide))
      have a1 : wr.cell? ⟨g, k * 9 + 1, none⟩ = some (Value.int .u64 (h0 : Int)) := own_cellN (H1.out wr hT.out) (hat 1 (by decide))
      have b1 : wr.cell? ⟨g', k * 9 + 1, none⟩ = some (Value.int .u64 (h0 : Int)) := own_cellN (H2.out wr hT.out) (hat 1 (by decide))
      have a2 : wr.cell? ⟨g, k * 9 + 2, none⟩ = some (Value.int .u64 (l0 : Int)) := own_cellN (H1.out wr hT.out) (hat 2 (by decide))
      have b2 : wr.cell? ⟨g', k * 9 + 2, none⟩ = some (Value.int .u64 (l0 : Int)) := own_cellN (H2.out wr hT.out) (hat 2 (by decide))
      have a3 : wr.cell? ⟨g, k * 9 + 3, none⟩ = some (Value.int .i64 n0) := own_cellN (H1.out wr hT.out) (hat 3 (by decide))
      have b3 : wr.cell? ⟨g', k * 9 + 3, none⟩ = some (Value.int .i64 n0) := own_cellN (H2.out wr hT.out) (hat 3 (by decide))
      have a4 : wr.cell? ⟨g, k * 9 + 4, none⟩ = some (Value.int .i64 p0) := own_cellN (H1.out wr hT.out) (hat 4 (by decide))
      have b4 : wr.cell? ⟨g', k * 9 + 4, none⟩ = some (Value.int .i64 p0) := own_cellN (H2.out wr hT.out) (hat 4 (by decide))
      have a5 : wr.cell? ⟨g, k * 9 + 5, none⟩ = some (Value.bool s1) := own_cellN (H1.out wr hT.out) (hat 5 (by decide))
      have b5 : wr.cell? ⟨g', k * 9 + 5, none⟩ = some (Value.bool s1) := own_cellN (H2.out wr hT.out) (hat 5 (by decide))
      have a6 : wr.cell? ⟨g, k * 9 + 6, none⟩ = some (Value.int .u64 (h1 : Int)) := own_cellN (H1.out wr hT.out) (hat 6 (by decide))
      have b6 : wr.cell? ⟨g', k * 9 + 6, none⟩ = some (Value.int .u64 (h1 : Int)) := own_cellN (H2.out wr hT.out) (hat 6 (by decide))
      have a7 : wr.cell? ⟨g, k * 9 + 7, none⟩ = some (Value.int .u64 (l1 : Int)) := own_cellN (H1.out wr hT.out) (hat 7 (by decide))
      have b7 : wr.cell? ⟨g', k * 9 + 7, none⟩ = some (Value.int .u64 (l1 : Int)) := own_cellN (H2.out wr hT.out) (hat 7 (by decide))
      have a8 : wr.cell? ⟨g, k * 9 + 8, none⟩ = some (Value.bool w0) := own_cellN (H1.out wr hT.out) (hat 8 (by decide))
      have b8 : wr.cell? ⟨g', k * 9 + 8, none⟩ = some (Value.bool w0) := own_cellN (H2.out wr hT.out) (hat 8 (by decide))
      have HQ := eq_neq 70 #[.bool s0, .int .u64 (h0 : Int), .int .u64 (l0 : Int), .int .i64 n0, .int .i64 p0, .bool s1, .int .u64 (h1 : Int), .int .u64 (l1 : Int), .bool w0] #[.bool s0, .int .u64 (h0 : Int), .int .u64 (l0 : Int), .int .i64 n0, .int .i64 p0, .bool s1, .int .u64 (h1 : Int), .int .u64 (l1 : Int), .bool w0] (same_en_eq n0 p0 h0 l0 h1 l1 s0 s1 w0)
      simp only [Bool.not_true] at HQ
      clear hu hat
      go_wp2
      go_quiet (fail)
      have HT8 : Hid (Tch w (wr.drewN nq) []) := Lib.hid (hT.out.drewN nq)
      clear a0 b0 a1 b1 a2 b2 a3 b3 a4 b4 a5 b5 a6 b6 a7 b7 a8 b8 HQ
      go_wp2
      go_roundw
      case rel => exact ⟨k + 1, by go_num, hkn, HT8⟩
      case measure => simp [intOf]; omega
    · obtain rfl : k = n := by omega
      have kI : ¬ (k : Int) < (k : Int) := by omega
      clear hkn hk
      go_wp2
      go_ret
      exact ⟨rfl, hT.out⟩
theorem same_cg_eq (n0 p0 h0 l0 h1 l1 : Int) (g0 s0 s1 w0 : Bool) (W : World) : (Op.equalIn 10000 90 (.agg #[.bool g0, .bool s0, .int .u64 h0, .int .u64 l0, .int .i64 n0, .int .i64 p0, .bool s1, .int .u64 h1, .int .u64 l1, .bool w0]) (.agg #[.bool g0, .bool s0, .int .u64 h0, .int .u64 l0, .int .i64 n0, .int .i64 p0, .bool s1, .int .u64 h1, .int .u64 l1, .bool w0])).run Tryz.prog W = .ok true W := by
  go_simp
set_option maxRecDepth 100000 in
set_option maxHeartbeats 4000000 in
theorem same_cg (A B : Option Addr) (n c d : Nat) (l : List CgI) (hl : l.length = n) (hn : n ≤ 100000) (w : World) (h1 : w.ownsRow 0 90 10 (.slice A n c) n (l.flatMap cgC)) (h2 : w.ownsRow 0 90 10 (.slice B n d) n (l.flatMap cgC)) :
    Calls Tryz.prog 33 #[.slice A n c, .slice B n d] w fun e w' => e = .returned (.bool true) ∧ Tch w w' [] := by
  have HX := Lib.hid hl
  have H1 := Lib.hid (fun W (hW : Tch w W []) => own_tch h1 hW (by simp))
  have H2 := Lib.hid (fun W (hW : Tch w W []) => own_tch h2 hW (by simp))
  have bn : ((n : Int) != (n : Int)) = false := by simp
  clear hl h1 h2
  go_enter Tryz.func33, Tryz.ntmps33
  go_wp2
  clear bn
  go_loopw [5] (fun kv wr => ∃ k : Nat, kv = .int .i64 (k : Int) ∧ k ≤ n ∧ Hid (Tch w wr [])) (fun kv _ => n - (intOf kv).toNat)
  case atStart => exact ⟨0, rfl, Nat.zero_le _, Lib.hid (Tch.refl _ _)⟩
  case round =>
    obtain ⟨k, rfl, hk, hT⟩ := hrel
    have k1 : IntKind.i64.wrap ((k : Int) + 1) = (k : Int) + 1 := by rw [IntKind.wrap_i64]; omega
    by_cases hkn : k < n
    · have kI : (k : Int) < (n : Int) := by omega
      have k0 : (0 : Int) ≤ (k : Int) := by omega
      obtain ⟨u, hu⟩ : ∃ u, l[k]? = some u := ⟨_, List.getElem?_eq_getElem (by rw [HX.out]; exact hkn)⟩
      obtain ⟨g, rfl⟩ := slice_some (H1.out wr hT.out) (by omega)
      obtain ⟨g', rfl⟩ := slice_some (H2.out wr hT.out) (by omega)
      have hat := fun q hq => flatk_at (n := 10) cg_ten hu (k := q) hq
      obtain ⟨g0, ⟨⟨⟨s0, h0, l0⟩, n0⟩, ⟨p0, ⟨s1, h1, l1⟩, w0⟩⟩⟩ := u

      have a0 : wr.cell? ⟨g, k * 10, none⟩ = some (Value.bool g0) := own_cellN (H1.out wr hT.out) (hat 0 (by decide))
      have b0 : wr.cell? ⟨g', k * 10, none⟩ = some (Value.bool g0) := own_cellN (H2.out wr hT.out) (hat 0 (by decide))
      have a1 : wr.cell? ⟨g, k * 10 + 1, none⟩ = some (Value.bool s0) := own_cellN (H1.out wr hT.out) (hat 1 (by decide))
      have b1 : wr.cell? ⟨g', k * 10 + 1, none⟩ = some (Value.bool s0) := own_cellN (H2.out wr hT.out) (hat 1 (by decide))
      have a2 : wr.cell? ⟨g, k * 10 + 2, none⟩ = some (Value.int .u64 (h0 : Int)) := own_cellN (H1.out wr hT.out) (hat 2 (by decide))
      have b2 : wr.cell? ⟨g', k * 10 + 2, none⟩ = some (Value.int .u64 (h0 : Int)) := own_cellN (H2.out wr hT.out) (hat 2 (by decide))
      have a3 : wr.cell? ⟨g, k * 10 + 3, none⟩ = some (Value.int .u64 (l0 : Int)) := own_cellN (H1.out wr hT.out) (hat 3 (by decide))
      have b3 : wr.cell? ⟨g', k * 10 + 3, none⟩ = some (Value.int .u64 (l0 : Int)) := own_cellN (H2.out wr hT.out) (hat 3 (by decide))
      have a4 : wr.cell? ⟨g, k * 10 + 4, none⟩ = some (Value.int .i64 n0) := own_cellN (H1.out wr hT.out) (hat 4 (by decide))
      have b4 : wr.cell? ⟨g', k * 10 + 4, none⟩ = some (Value.int .i64 n0) := own_cellN (H2.out wr hT.out) (hat 4 (by decide))
      have a5 : wr.cell? ⟨g, k * 10 + 5, none⟩ = some (Value.int .i64 p0) := own_cellN (H1.out wr hT.out) (hat 5 (by decide))
      have b5 : wr.cell? ⟨g', k * 10 + 5, none⟩ = some (Value.int .i64 p0) := own_cellN (H2.out wr hT.out) (hat 5 (by decide))
      have a6 : wr.cell? ⟨g, k * 10 + 6, none⟩ = some (Value.bool s1) := own_cellN (H1.out wr hT.out) (hat 6 (by decide))
      have b6 : wr.cell? ⟨g', k * 10 + 6, none⟩ = some (Value.bool s1) := own_cellN (H2.out wr hT.out) (hat 6 (by decide))
      have a7 : wr.cell? ⟨g, k * 10 + 7, none⟩ = some (Value.int .u64 (h1 : Int)) := own_cellN (H1.out wr hT.out) (hat 7 (by decide))
      have b7 : wr.cell? ⟨g', k * 10 + 7, none⟩ = some (Value.int .u64 (h1 : Int)) := own_cellN (H2.out wr hT.out) (hat 7 (by decide))
      have a8 : wr.cell? ⟨g, k * 10 + 8, none⟩ = some (Value.int .u64 (l1 : Int)) := own_cellN (H1.out wr hT.out) (hat 8 (by decide))
      have b8 : wr.cell? ⟨g', k * 10 + 8, none⟩ = some (Value.int .u64 (l1 : Int)) := own_cellN (H2.out wr hT.out) (hat 8 (by decide))
      have a9 : wr.cell? ⟨g, k * 10 + 9, none⟩ = some (Value.bool w0) := own_cellN (H1.out wr hT.out) (hat 9 (by decide))
      have b9 : wr.cell? ⟨g', k * 10 + 9, none⟩ = some (Value.bool w0) := own_cellN (H2.out wr hT.out) (hat 9 (by decide))
      have HQ := eq_neq 90 #[.bool g0, .bool s0, .int .u64 (h0 : Int), .int .u64 (l0 : Int), .int .i64 n0, .int .i64 p0, .bool s1, .int .u64 (h1 : Int), .int .u64 (l1 : Int), .bool w0] #[.bool g0, .bool s0, .int .u64 (h0 : Int), .int .u64 (l0 : Int), .int .i64 n0, .int .i64 p0, .bool s1, .int .u64 (h1 : Int), .int .u64 (l1 : Int), .bool w0] (same_cg_eq n0 p0 h0 l0 h1 l1 g0 s0 s1 w0)
      simp only [Bool.not_true] at HQ
      clear hu hat
      go_wp2
      go_quiet (fail)
      have HT8 : Hid (Tch w (wr.drewN nq) []) := Lib.hid (hT.out.drewN nq)
      clear a0 b0 a1 b1 a2 b2 a3 b3 a4 b4 a5 b5 a6 b6 a7 b7 a8 b8 a9 b9 HQ
      go_wp2
      go_roundw
      case rel => exact ⟨k + 1, by go_num, hkn, HT8⟩
      case measure => simp [intOf]; omega
    · obtain rfl : k = n := by omega
      have kI : ¬ (k : Int) < (k : Int) := by omega
      clear hkn hk
      go_wp2
      go_ret
      exact ⟨rfl, hT.out⟩
end Go.Proofs.YtgfkmgbcajdcdaaGreatDoor

namespace Go.Proofs.YtgfkmgbcajdcdaaGreatDoor
open Ifs
set_option linter.unusedVariables false

/-- Where a prefix's entry stands, from 1 on; 0: nowhere. -/
def hasP (l : List EnI) (p : PfI) : Nat := Go.Proofs.YtgfkmgbcajdcdaaGreatDoor.fndI (fun e => decide (e.1 = p)) l
theorem hasP_zero {l : List EnI} {p : PfI} : hasP l p = 0 ↔ ∀ f ∈ l, ¬ f.1 = p := by
  unfold hasP
  rw [Go.Proofs.YtgfkmgbcajdcdaaGreatDoor.fndI_zero]
  constructor
  · intro h f hf
    obtain ⟨i, hi⟩ := List.mem_iff_getElem?.1 hf
    exact of_decide_eq_false (h i f hi)
  · intro h i f hf
    exact decide_eq_false (h f (List.mem_of_getElem? hf))
theorem hasP_succ {l : List EnI} {p : PfI} {i : Nat} (h : hasP l p = i + 1) : ∃ f, l[i]? = some f ∧ f.1 = p := by
  obtain ⟨⟨f, hf, hp⟩, -⟩ := Go.Proofs.YtgfkmgbcajdcdaaGreatDoor.fndI_succ.1 h
  exact ⟨f, hf, of_decide_eq_true hp⟩
theorem hasP_le (l : List EnI) (p : PfI) : hasP l p ≤ l.length := Go.Proofs.YtgfkmgbcajdcdaaGreatDoor.fndI_le _ _
def hopAt (l : List EnI) (i : Nat) : Option HpI := (l[i]?).map (·.2)
/-- Is an entry another one than the first rows have. -/
def difB (old : List EnI) (e : EnI) : Bool := decide (hasP old e.1 = 0) || !decide (hopAt old (hasP old e.1 - 1) = some e.2)
def goneA (now : List EnI) (e : EnI) : Bool := decide (hasP now e.1 = 0)
def allA (old now : List EnI) : List CgI := (old.filter (goneA now)).map fun e => (true, e)
def allB (old now : List EnI) : List CgI := (now.filter (difB old)).map fun e => (false, e)
theorem difB_iff {old : List EnI} (ho : SrtE old) (e : EnI) : difB old e = true ↔ e ∉ old := by
  unfold difB
  rw [Bool.or_eq_true, decide_eq_true_eq]
  cases h : hasP old e.1 with
  | zero =>
    simp only [true_or, true_iff]
    exact fun hm => hasP_zero.1 h e hm rfl
  | succ i =>
    obtain ⟨f, hf, hfe⟩ := hasP_succ h
    have hfm := List.mem_of_getElem? hf
    simp only [Nat.succ_ne_zero, false_or, Nat.add_sub_cancel, Bool.not_eq_true', decide_eq_false_iff_not]
    unfold hopAt
    rw [hf]
    simp only [Option.map_some, Option.some.injEq]
    constructor
    · intro h1 h2
      exact h1 (by rw [ho.one hfm h2 hfe])
    · intro h1 h2
      apply h1
      have : f = e := Prod.ext hfe h2
      rw [← this]; exact hfm
theorem allA_mem {old now : List EnI} (c : CgI) : c ∈ allA old now ↔ c.1 = true ∧ c.2 ∈ old ∧ ∀ f ∈ now, ¬ f.1 = c.2.1 := by
  unfold allA
  rw [List.mem_map]
  constructor
  · rintro ⟨e, he, rfl⟩
    obtain ⟨h1, h2⟩ := List.mem_filter.1 he
    exact ⟨rfl, h1, hasP_zero.1 (of_decide_eq_true h2)⟩
  · rintro ⟨h1, h2, h3⟩
    obtain ⟨g, e⟩ := c
    simp only at h1 h2 h3
    subst h1
    exact ⟨e, List.mem_filter.2 ⟨h2, decide_eq_true (hasP_zero.2 h3)⟩, rfl⟩
theorem allB_mem {old now : List EnI} (ho : SrtE old) (c : CgI) : c ∈ allB old now ↔ c.1 = false ∧ c.2 ∈ now ∧ c.2 ∉ old := by
  unfold allB
  rw [List.mem_map]
  constructor
  · rintro ⟨e, he, rfl⟩
    obtain ⟨h1, h2⟩ := List.mem_filter.1 he
    exact ⟨rfl, h1, (difB_iff ho e).1 h2⟩
  · rintro ⟨h1, h2, h3⟩
    obtain ⟨g, e⟩ := c
    simp only at h1 h2 h3
    subst h1
    exact ⟨e, List.mem_filter.2 ⟨h2, (difB_iff ho e).2 h3⟩, rfl⟩
/-- Where a change belongs in a row, held against its first k from the last on. -/
def posC (out : List CgI) (c : CgI) : Nat → Nat
  | 0 => 0
  | k + 1 => match out[k]? with
    | none => k + 1
    | some d => if lessI c.2.1 d.2.1 = true then posC out c k else k + 1
theorem posC_le (out : List CgI) (c : CgI) : ∀ k, posC out c k ≤ k
  | 0 => Nat.le_refl _
  | k + 1 => by
    unfold posC
    split
    · exact Nat.le_refl _
    · split
      · exact Nat.le_succ_of_le (posC_le out c k)
      · exact Nat.le_refl _
def insC (out : List CgI) (c : CgI) : List CgI := out.take (posC out c out.length) ++ c :: out.drop (posC out c out.length)
def srtC (all : List CgI) : List CgI := all.foldl insC []
theorem posC_step {out : List CgI} {c d : CgI} {k : Nat} (h : out[k]? = some d) : posC out c (k + 1) = if lessI c.2.1 d.2.1 = true then posC out c k else k + 1 := by
  rw [posC, h]
/-- Changes in their order, of valid prefixes. -/
structure SrtC (l : List CgI) : Prop where
  srt : l.Pairwise fun c d => ltP c.2.1 d.2.1
  ok : ∀ c ∈ l, PvOk c.2.1
theorem posC_spec {out : List CgI} {c : CgI} (h : SrtC out) (k : PvOk c.2.1) (hn : ∀ d ∈ out, ¬ c.2.1 = d.2.1) : ∀ n, n ≤ out.length → (∀ j d, posC out c n ≤ j → j < n → out[j]? = some d → ltP c.2.1 d.2.1) ∧ (∀ j d, j < posC out c n → out[j]? = some d → ltP d.2.1 c.2.1)
  | 0, _ => ⟨fun j d _ hj => absurd hj (by omega), fun j d hj => absurd hj (by simp [posC])⟩
  | n + 1, hl => by
    obtain ⟨ih1, ih2⟩ := posC_spec h k hn n (by omega)
    obtain ⟨d, hd⟩ : ∃ d, out[n]? = some d := ⟨_, List.getElem?_eq_getElem (by omega)⟩
    have hdm := List.mem_of_getElem? hd
    rw [posC_step hd]
    split
    · rename_i hlt
      refine ⟨fun j e hj hjn he => ?_, ih2⟩
      rcases Nat.lt_or_ge j n with h1 | h1
      · exact ih1 j e hj h1 he
      · obtain rfl : n = j := by omega
        rw [hd] at he
        injection he with he
        rw [← he]
        exact (k.less (h.ok d hdm)).1 hlt
    · rename_i hlt
      refine ⟨fun j e hj hjn => absurd hjn (by omega), fun j e hj he => ?_⟩
      have hdc : ltP d.2.1 c.2.1 := k.not (h.ok d hdm) hlt (hn d hdm)
      rcases Nat.lt_or_ge j n with h1 | h1
      · have h2 := List.pairwise_iff_getElem.1 h.srt j n (by omega) (by omega) h1
        rw [(List.getElem?_eq_some_iff.1 he).2, (List.getElem?_eq_some_iff.1 hd).2] at h2
        exact ltP_trans h2 hdc
      · obtain rfl : n = j := by omega
        rw [hd] at he
        injection he with he
        rw [← he]; exact hdc
theorem insC_mem (out : List CgI) (c x : CgI) : x ∈ insC out c ↔ x = c ∨ x ∈ out := by
  unfold insC
  have := List.take_append_drop (posC out c out.length) out
  rw [List.mem_append, List.mem_cons]
  constructor
  · rintro (h | h | h)
    · exact .inr (List.mem_of_mem_take h)
    · exact .inl h
    · exact .inr (List.mem_of_mem_drop h)
  · rintro (h | h)
    · exact .inr (.inl h)
    · rw [← this, List.mem_append] at h
      rcases h with h | h
      · exact .inl h
      · exact .inr (.inr h)
theorem SrtC.ins {out : List CgI} {c : CgI} (h : SrtC out) (k : PvOk c.2.1) (hn : ∀ d ∈ out, ¬ c.2.1 = d.2.1) : SrtC (insC out c) := by
  refine ⟨?_, fun x hx => ?_⟩
  · obtain ⟨h1, h2⟩ := posC_spec h k hn out.length (Nat.le_refl _)
    unfold insC
    have hs := h.srt
    have hle := posC_le out c out.length
    generalize posC out c out.length = q at h1 h2 hle
    have ht : ∀ a ∈ out.take q, ltP a.2.1 c.2.1 := fun a ha => by
      obtain ⟨j, hj⟩ := List.mem_iff_getElem?.1 ha
      rw [List.getElem?_take] at hj
      split at hj
      · rename_i hjq; exact h2 j a hjq hj
      · cases hj
    have hd : ∀ b ∈ out.drop q, ltP c.2.1 b.2.1 := fun b hb => by
      obtain ⟨j, hj⟩ := List.mem_iff_getElem?.1 hb
      rw [List.getElem?_drop] at hj
      exact h1 (q + j) b (by omega) (List.getElem?_eq_some_iff.1 hj).1 hj
    rw [List.pairwise_append, List.pairwise_cons]
    refine ⟨hs.sublist (List.take_sublist _ _), ⟨hd, hs.sublist (List.drop_sublist _ _)⟩, fun a ha b hb => ?_⟩
    rcases List.mem_cons.1 hb with h9 | h9
    · rw [h9]; exact ht a ha
    · exact ltP_trans (ht a ha) (hd b h9)
  · rcases (insC_mem out c x).1 hx with h9 | h9
    · rw [h9]; exact k
    · exact h.ok x h9
theorem srtF : ∀ (all out : List CgI), SrtC out → (∀ c ∈ all, PvOk c.2.1) → (all.Pairwise fun c d => ¬ c.2.1 = d.2.1) → (∀ c ∈ all, ∀ d ∈ out, ¬ c.2.1 = d.2.1) → SrtC (all.foldl insC out) ∧ ∀ x, x ∈ all.foldl insC out ↔ x ∈ all ∨ x ∈ out
  | [], out, h, _, _, _ => ⟨h, fun x => by simp⟩
  | c :: r, out, h, k, hp, hd => by
    rw [List.pairwise_cons] at hp
    obtain ⟨h1, h2⟩ := srtF r (insC out c) (h.ins (k c (by simp)) (hd c (by simp))) (fun d hd' => k d (List.mem_cons_of_mem _ hd')) hp.2 (fun d hd' e he => by
      rcases (insC_mem out c e).1 he with h9 | h9
      · rw [h9]; exact fun h8 => hp.1 d hd' h8.symm
      · exact hd d (List.mem_cons_of_mem _ hd') e h9)
    refine ⟨h1, fun x => ?_⟩
    rw [List.foldl_cons, h2, insC_mem, List.mem_cons]
    constructor
    · rintro (h9 | h9 | h9)
      · exact .inl (.inr h9)
      · exact .inl (.inl h9)
      · exact .inr h9
    · rintro ((h9 | h9) | h9)
      · exact .inr (.inl h9)
      · exact .inl h9
      · exact .inr (.inr h9)
/-- What the document finds. -/
theorem doc_chI {old now : List EnI} (ho : SrtE old) (hn : SrtE now) : srtC (allA old now ++ allB old now) = chI old now := by
  have hpw : ∀ {l : List EnI}, SrtE l → l.Pairwise fun e f => ¬ e.1 = f.1 := fun {l} h => h.srt.imp fun {a b} hab e => by rw [e] at hab; exact ltP_irr _ hab
  have hall : (allA old now ++ allB old now).Pairwise fun c d => ¬ c.2.1 = d.2.1 := by
    rw [List.pairwise_append]
    refine ⟨?_, ?_, fun a ha b hb e => ?_⟩
    · unfold allA; rw [List.pairwise_map]; exact (hpw ho).sublist List.filter_sublist
    · unfold allB; rw [List.pairwise_map]; exact (hpw hn).sublist List.filter_sublist
    · obtain ⟨-, -, h3⟩ := (allA_mem a).1 ha
      obtain ⟨-, h5, -⟩ := (allB_mem ho b).1 hb
      exact h3 _ h5 e.symm
  obtain ⟨h1, h2⟩ := srtF (allA old now ++ allB old now) [] ⟨.nil, by simp⟩ (fun c hc => by
    rcases List.mem_append.1 hc with h | h
    · exact ho.ok _ ((allA_mem c).1 h).2.1
    · exact hn.ok _ ((allB_mem ho c).1 h).2.1) hall (by simp)
  refine srtK_ext (fun c : CgI => c.2.1) h1.srt (chI_srt ho hn) fun c => ?_
  show c ∈ List.foldl insC [] (allA old now ++ allB old now) ↔ _
  rw [h2, List.mem_append, chI_mem ho hn, allA_mem, allB_mem ho]
  simp [CgOf]
theorem insC_len (out : List CgI) (c : CgI) : (insC out c).length = out.length + 1 := by
  have := posC_le out c out.length
  unfold insC
  rw [List.length_append, List.length_cons, List.length_take, List.length_drop]
  omega
end Go.Proofs.YtgfkmgbcajdcdaaGreatDoor

namespace Go.Proofs.YtgfkmgbcajdcdaaGreatDoor
open Go.RowKit Ifs
set_option linter.unusedVariables false

theorem hasP_at {l : List EnI} {p : PfI} {i : Nat} {x : EnI} (hx : l[i]? = some x) (hp : x.1 = p) (h : ∀ y ∈ l.take i, ¬ y.1 = p) : hasP l p = i + 1 := by
  unfold hasP
  rw [Go.Proofs.YtgfkmgbcajdcdaaGreatDoor.fndI_succ]
  refine ⟨⟨x, hx, decide_eq_true hp⟩, fun j y hj hy => decide_eq_false (h y ?_)⟩
  exact List.mem_of_getElem? (i := j) (by rw [List.getElem?_take, if_pos hj]; exact hy)
theorem hasP_no {l : List EnI} {p : PfI} (h : ∀ y ∈ l, ¬ y.1 = p) : hasP l p = 0 := hasP_zero.2 h
set_option maxRecDepth 100000 in
set_option maxHeartbeats 4000000 in
theorem at_any (A : Option Addr) (n c : Nat) (l : List EnI) (hl : l.length = n) (hn : n ≤ 100000) (p : PfI) (w : World) (h : RowE w 0 A n c l) :
    Calls Tryz.prog 75 #[.slice A n c, pfR p] w fun e w' => e = .returned (.int .i64 ((hasP l p : Int) - 1)) ∧ Tch w w' [] := by
  have HX := Lib.hid hl
  have HRow := Lib.hid (fun W (hW : Tch w W []) => own_tch h hW (by simp))
  obtain ⟨R, hR⟩ : ∃ R, hasP l p = R := ⟨_, rfl⟩
  rw [hR]
  have HR := Lib.hid hR
  have HEq := Lib.hid (fun (x : EnI) (b : Bool) (hb : decide (x.1 = p) = b) => eqA_eql 30 _ _ (eq_pfR x.1 p hb))
  have HAt := Lib.hid (fun i x (hx : l[i]? = some x) (hp : x.1 = p) hh => (hasP_at hx hp hh).symm.trans hR)
  have HNo := Lib.hid (fun hh => (hasP_no (l := l) (p := p) hh).symm.trans hR)
  have HP := Lib.hid (fun (x : EnI) (i : Nat) (hx : l[i]? = some x) (h : ∀ y ∈ l.take i, ¬ y.1 = p) (hb : ¬ x.1 = p) => take_more (P := fun y : EnI => ¬ y.1 = p) hx h hb)
  obtain ⟨P, hP⟩ : ∃ P : EnI → Prop, (fun y => ¬ y.1 = p) = P := ⟨_, rfl⟩
  have HPe := Lib.hid hP
  obtain ⟨⟨ps, ph, pl⟩, pb⟩ := p
  obtain ⟨xb, hxb⟩ : ∃ xb, w.heap.size = xb := ⟨_, rfl⟩
  obtain ⟨W0, hW0⟩ : ∃ W, w.alloc (.cells #[.bool ps, .int .u64 (ph : Int), .int .u64 (pl : Int), .int .i64 pb] 30) = W := ⟨_, rfl⟩
  have HB := Lib.hid (fun W (hW : Tch W0 W []) => (hW.blk (show Blk W0 xb 30 #[.bool ps, .int .u64 (ph : Int), .int .u64 (pl : Int), .int .i64 pb] from hW0 ▸ hxb ▸ Blk.new w _ _) (by simp)).c4)
  have HT0 : Hid (Tch w W0 []) := Lib.hid (hW0 ▸ (Tch.refl w []).alloc _)
  have HW0 := Lib.hid (And.intro hW0 hxb)
  clear hl h hR hP hW0 hxb
  go_enter Tryz.func75, Tryz.ntmps75
  go_wp2
  rw [HW0.out.1, HW0.out.2]
  go_loopw [5] (fun kv wr => ∃ k : Nat, kv = .int .i64 (k : Int) ∧ k ≤ n ∧ Hid (∀ y ∈ l.take k, ¬ y.1 = ((ps, ph, pl), pb)) ∧ Hid (Tch W0 wr [])) (fun kv _ => n - (intOf kv).toNat)
  case atStart => exact ⟨0, rfl, Nat.zero_le _, Lib.hid (by simp), Lib.hid (Tch.refl _ _)⟩
  case round =>
    obtain ⟨k, rfl, hk, hno, hT⟩ := hrel
    have k1 : IntKind.i64.wrap ((k : Int) + 1) = (k : Int) + 1 := by rw [IntKind.wrap_i64]; omega
    by_cases hkn : k < n
    · have kI : (k : Int) < (n : Int) := by omega
      have k0 : (0 : Int) ≤ (k : Int) := by omega
      obtain ⟨x, hx⟩ : ∃ u, l[k]? = some u := ⟨_, List.getElem?_eq_getElem (by rw [HX.out]; exact hkn)⟩
      have ho2 := HRow.out wr (HT0.out.trans hT.out)
      obtain ⟨g, rfl⟩ := slice_some ho2 (by omega)
      obtain ⟨t0, t1, t2, t3, -⟩ := en_cells ho2 hx
      obtain ⟨x0, x1, x2, x3⟩ := HB.out wr hT.out
      have HXx := Lib.hid hx
      obtain ⟨b, hb⟩ : ∃ b, decide (x.1 = ((ps, ph, pl), pb)) = b := ⟨_, rfl⟩
      have HQ := HEq.out x b hb
      have HBb := Lib.hid hb
      obtain ⟨⟨⟨xs, xh, xl⟩, xn⟩, xhp⟩ := x
      simp only at HQ
      clear hx ho2 hb
      go_wp2
      go_quiet (fail)
      have HT8 : Hid (Tch W0 (wr.drewN nq) []) := Lib.hid (hT.out.drewN nq)
      clear t0 t1 t2 t3 x0 x1 x2 x3 HQ
      cases b with
      | true =>
        have HE : Hid (R = k + 1) := Lib.hid (HAt.out k _ HXx.out (of_decide_eq_true HBb.out) hno.out).symm
        go_wp2
        go_ret
        exact ⟨by rw [HE.out]; simp, HT0.out.trans HT8.out⟩
      | false =>
        have HN2 := Lib.hid (HP.out _ k HXx.out hno.out (of_decide_eq_false HBb.out))
        go_wp2
        go_roundw
        case rel => exact ⟨k + 1, by go_num, hkn, HN2, HT8⟩
        case measure => simp [intOf]; omega
    · obtain rfl : k = n := by omega
      have kI : ¬ (k : Int) < (k : Int) := by omega
      have HE : Hid (R = 0) := Lib.hid (HNo.out (by have := hno.out; rwa [List.take_of_length_le (by rw [HX.out]; exact Nat.le_refl _)] at this)).symm
      clear hkn hk
      go_wp2
      go_ret
      exact ⟨by rw [HE.out]; rfl, HT0.out.trans hT.out⟩
end Go.Proofs.YtgfkmgbcajdcdaaGreatDoor

namespace Go.Proofs.YtgfkmgbcajdcdaaGreatDoor
open Go.RowKit
set_option linter.unusedVariables false

/-- 'append' of some elements, wherever they are read, onto a row of the call's own. -/
theorem wpList_apx (tS tE : TypeId) (zv : Value) (sz by_ : Nat) (hu : Tryz.prog.underlying tS = some (.slice tE)) (hinf : (Tryz.prog.info? tE).map (fun i => (i.zero, i.size, i.bytes)) = some (some zv, sz, by_)) (hzs : zv.cells.size = sz) (hsz : 0 < sz) (hby : by_ ≤ 1000)
    (w : World) {ops : Array Oper} {rest : List Oper} {o : Oper} {a : Act} {Q : Exit → Act → World → Prop} (hgd : o.guard = none) (s x : Operand)
    (ho : o.op = .call { callee := .builtin .append, args := #[s, x], argTypes := #[tS, tS] })
    (base : Nat) (v : Value) (n : Nat) (xs : List Value) (hs : a.eval s = v) (hown : w.ownsRow base tE sz v n xs)
    (ad : Addr) (m c : Nat) (e : List Value) (hx : a.eval x = .slice (some ad) m c) (hl : e.length = m * sz) (hc : ∀ j u, e[j]? = some u → w.cell? (ad.add j) = some u) (h1 : ∀ u ∈ e, u.oneCell' = true)
    (hn : n + m ≤ 1000000) (hbase : base ≤ w.heap.size)
    (h : ∀ v' w', w'.ownsRow base tE sz v' (n + m) (xs ++ e) → w.grownBy w' v.ownBlock → (v'.ownBlock = v.ownBlock ∨ v'.ownBlock = some w.heap.size) → wpList Tryz.prog ops Q rest (a.put o.dst v') w') :
    wpList Tryz.prog ops Q (o :: rest) a w := by
  obtain ⟨i0, hi, hz0, hz1, hz2⟩ := info_parts hinf
  have hb : (n + m) * by_ ≤ 1000000 * 1000 := Nat.mul_le_mul hn hby
  refine wpList_append_own_at w hgd s x tS ho base tE i0 zv sz by_ hu hi hz0 hz1 hz2 hzs hsz v n xs hs hown ad m c e hx hl hc h1 (by unfold maxLen; omega) (by omega) hbase ?_
  intro v' w' h1 h2 h3 h4
  exact h v' w' h1 h2 h4
theorem own_take {w : World} {g n c sz k : Nat} {t : TypeId} {xs : List Value} (h : w.ownsRow 0 t sz (.slice (some ⟨g, 0, none⟩) n c) n xs) (hk : k ≤ n) : w.ownsRow 0 t sz (.slice (some ⟨g, 0, none⟩) k c) k (xs.take (k * sz)) := by
  have hl := h.1
  have hm : k * sz ≤ n * sz := Nat.mul_le_mul_right _ hk
  rcases h.2 with ⟨e, -⟩ | ⟨g', cap, cur, e, h1, h2, h3, h4, h5, h6⟩
  · cases e
  · injection e with e1 e2 e3
    injection e1 with e1
    injection e1 with e1
    subst e1 e3
    exact ⟨by rw [List.length_take, hl, Nat.min_eq_left hm], .inr ⟨g, c, cur, rfl, h1, h2, by omega, h4, h5, by rw [← h6, List.take_take, Nat.min_eq_left hm]⟩⟩
theorem flatk_take {α : Type} {f : α → List Value} {sz : Nat} (hf : ∀ x, (f x).length = sz) : ∀ (l : List α) (k : Nat), (l.flatMap f).take (k * sz) = (l.take k).flatMap f
  | [], k => by simp
  | x :: r, 0 => by simp
  | x :: r, k + 1 => by
    rw [List.flatMap_cons, List.take_succ_cons, List.flatMap_cons, ← flatk_take hf r k, List.take_append, List.take_of_length_le (l := f x) (by rw [hf, Nat.succ_mul]; omega), hf, show (k + 1) * sz - sz = k * sz by rw [Nat.succ_mul]; omega]
theorem flatk_drop {α : Type} {f : α → List Value} {sz : Nat} (hf : ∀ x, (f x).length = sz) : ∀ (l : List α) (k : Nat), (l.flatMap f).drop (k * sz) = (l.drop k).flatMap f
  | [], k => by simp
  | x :: r, 0 => by simp
  | x :: r, k + 1 => by
    have e : (f x).drop ((k + 1) * sz) = [] := List.drop_of_length_le (by rw [hf, Nat.succ_mul]; omega)
    rw [List.flatMap_cons, List.drop_succ_cons, ← flatk_drop hf r k, List.drop_append, e, List.nil_append, hf, show (k + 1) * sz - sz = k * sz by rw [Nat.succ_mul]; omega]
/-- The rest of a row behind the first k. -/
theorem row_rest {α : Type} {f : α → List Value} {sz : Nat} (hf : ∀ x, (f x).length = sz) {w : World} {g n c k : Nat} {t : TypeId} {L : List α} (h : w.ownsRow 0 t sz (.slice (some ⟨g, 0, none⟩) n c) n (L.flatMap f)) (hn : L.length = n) (hk : k ≤ n) : ∃ A : Addr, (if c = k then (some ⟨g, 0, none⟩ : Option Addr) else some ⟨g, k * sz, none⟩) = some A ∧ (∀ W, Tch w W [] → ∀ j u, ((L.drop k).flatMap f)[j]? = some u → W.cell? (A.add j) = some u) ∧ ((L.drop k).flatMap f).length = (n - k) * sz := by
  obtain ⟨A', c', e, hnc, -⟩ := own_sl h
  injection e with e1 e2 e3
  subst e3
  have hlen : ((L.drop k).flatMap f).length = (n - k) * sz := by rw [flatk_len hf, List.length_drop, hn]
  by_cases hck : c = k
  · refine ⟨_, if_pos hck, fun W hT j u hj => ?_, hlen⟩
    have h1 := (List.getElem?_eq_some_iff.1 hj).1
    have h2 : n - k = 0 := by omega
    rw [hlen, h2, Nat.zero_mul] at h1
    omega
  · refine ⟨_, if_neg hck, fun W hT j u hj => ?_, hlen⟩
    rw [← flatk_drop hf, List.getElem?_drop] at hj
    rw [show (⟨g, k * sz, none⟩ : Addr).add j = ⟨g, k * sz + j, none⟩ by unfold Addr.add; split <;> simp_all]
    exact own_cellN (own_tch h hT (by simp)) hj
end Go.Proofs.YtgfkmgbcajdcdaaGreatDoor

namespace Go.Proofs.YtgfkmgbcajdcdaaGreatDoor
open Go.RowKit
set_option linter.unusedVariables false

/-- A slice of bytes that reads as zs, in a world in which all that was ahead of W stands. -/
def RB (w W : World) (A : Option Addr) (n c : Nat) (zs : List Int) : Prop := RI .u8 w w.heap.size A n zs ∧ (A = none → c = 0) ∧ Below W.heap.size W w ∧ (∀ x, A = some x → W.heap.size ≤ x.block)
/-- The contract of one call of the document's Put onto such a slice. -/
def RBStep (W : World) (n n' k : Nat) (width v : Int) : Prop := ∀ (w : World) (A : Option Addr) (c : Nat) (zs : List Int), RB w W A n c zs →
    Calls Tryz.prog 201 #[.slice A n c, .int .i64 width, .int .u64 v] w fun e w' => ∃ A' c', e = .returned (.slice A' n' c') ∧ RB w' W A' n' c' (zs ++ putOf k v)
theorem rbStep (W : World) (n n' k : Nat) (width v : Int) (hk : k ≤ 8) (hw : width = (k : Int)) (hn : n + k = n') (h0 : 0 < n') (hn2 : n ≤ 1000) (hv : U6 v) : RBStep W n n' k width v := by
  intro w A c zs h
  have e : wide width = k := by
    subst hw
    unfold wide; split <;> split <;> omega
  have hp := refPut_any w w.heap.size A n c v width zs h.1 h.2.1 (Nat.le_refl _) (by omega) hv.1 hv.2
  rw [e, hn] at hp
  refine Calls.mono hp ?_
  rintro e w' ⟨A', c', rfl, h1, h2, h3⟩
  obtain ⟨b, o, e, _⟩ := h1.2.1 h0
  exact ⟨A', c', rfl, h1, (fun h => by rw [e] at h; cases h), h.2.2.1.trans (h3.mono h.2.2.1.size), fun x hx => Nat.le_trans h.2.2.1.size (h2 x hx)⟩
theorem RB.start (w : World) : RB w.drew w none 0 0 [] := ⟨RI.nil_, fun _ => rfl, (Below.refl _ _).drew, fun _ h => by cases h⟩
theorem RB.start0 (w : World) : RB w w none 0 0 [] := ⟨RI.nil_, fun _ => rfl, Below.refl _ _, fun _ h => by cases h⟩

/-- What hands back bytes that read as zs, in memory of the call's own. -/
def OutR (w : World) (zs : List Int) (e : Ending) (w' : World) : Prop :=
  ∃ A c, e = .returned (.slice A zs.length c) ∧ RI .u8 w' w'.heap.size A zs.length zs ∧ (A = none → c = 0) ∧ (∀ g, A = some g → w.heap.size ≤ g.block) ∧ Below w.heap.size w w'

set_option maxRecDepth 100000 in
set_option maxHeartbeats 2000000 in
theorem rbytes_any (s : Bool) (h l : Int) (hh : U6 h) (hl : U6 l) (w : World) :
    Calls Tryz.prog 176 #[adr s h l] w (OutR w (byts s h l)) := by
  obtain ⟨V, hV⟩ : ∃ V, vld s h l = V := ⟨_, rfl⟩
  have HVa := Lib.hid (rvalid_at s h l (w.alloc (.cells #[.bool s, .int .u64 h, .int .u64 l] 28)) hV)
  cases V
  · have e : byts s h l = [] := by unfold byts; rw [hV]; rfl
    rw [e]
    clear hV e
    go_enter Tryz.func176, Tryz.ntmps176
    go_wp2_with fail
    refine Calls.mono HVa.out ?_
    rintro e w1 ⟨rfl, hb⟩
    have L1 := ((Below.refl _ w).alloc (Nat.le_refl _) _).trans (hb.mono (by simp only [World.size_alloc]; omega))
    clear hb
    go_wp2
    go_ret
    exact ⟨none, 0, rfl, RI.nil_, fun _ => rfl, (fun g e => by cases e), L1⟩
  · cases s
    · have e : byts false h l = putOf 4 l := by unfold byts; rw [hV]; rfl
      rw [e]
      clear hV e
      have HL := Lib.hid hl
      go_enter Tryz.func176, Tryz.ntmps176
      go_wp2_with fail
      refine Calls.mono HVa.out ?_
      rintro e w1 ⟨rfl, hb⟩
      have R1 := Lib.hid ((Blk.new w 28 _).below hb (by simp only [World.size_alloc]; omega))
      have L1 := Lib.hid (((Below.refl _ w).alloc (Nat.le_refl _) _).trans (hb.mono (by simp only [World.size_alloc]; omega)))
      obtain ⟨g1, g2, g3⟩ := R1.out.c3
      have HS := Lib.hid (rbStep w1 0 4 4 4 l (by decide) rfl rfl (by decide) (by decide) HL.out w1 none 0 [] (RB.start0 w1))
      clear hb
      go_wp2_with fail
      refine Calls.mono HS.out ?_
      rintro e w2 ⟨A, c, rfl, q1, q2, q3, q4⟩
      have Q := Lib.hid (And.intro q1 (And.intro q2 (And.intro q3 q4)))
      clear q1 q2 q3 q4 g1 g2 g3
      go_wp2
      go_ret
      obtain ⟨q1, q2, q3, q4⟩ := Q.out
      refine ⟨A, c, ?_, ?_, q2, fun g e => Nat.le_trans L1.out.size (q4 g e), L1.out.trans (q3.mono L1.out.size)⟩
      · rw [putOf_len]; rfl
      · rw [putOf_len]; exact q1
    · have e : byts true h l = putOf 8 h ++ putOf 8 l := by unfold byts; rw [hV]; rfl
      rw [e]
      clear hV e
      have HL := Lib.hid hl
      have HH := Lib.hid hh
      go_enter Tryz.func176, Tryz.ntmps176
      go_wp2_with fail
      refine Calls.mono HVa.out ?_
      rintro e w1 ⟨rfl, hb⟩
      have R1 := Lib.hid ((Blk.new w 28 _).below hb (by simp only [World.size_alloc]; omega))
      have L1 := Lib.hid (((Below.refl _ w).alloc (Nat.le_refl _) _).trans (hb.mono (by simp only [World.size_alloc]; omega)))
      have hs1 : w.heap.size < w1.heap.size := by have := hb.size; simp only [World.size_alloc] at this; omega
      have HC : Hid (∀ W', Below w1.heap.size w1 W' → W'.cell? ⟨w.heap.size, 1, none⟩ = some (.int .u64 h) ∧ W'.cell? ⟨w.heap.size, 2, none⟩ = some (.int .u64 l)) := by
        show ∀ W', _ → _
        intro W' hB
        have := (R1.out.below hB hs1).c3
        exact ⟨this.2.1, this.2.2⟩
      obtain ⟨g1, g2, g3⟩ := R1.out.c3
      have hR := RB.start w1
      have H1 := Lib.hid (rbStep w1 0 8 8 8 h (by decide) rfl rfl (by decide) (by decide) HH.out)
      have H2 := Lib.hid (rbStep w1 8 16 8 8 l (by decide) rfl rfl (by decide) (by decide) HL.out)
      clear hb
      go_wp2
      go_region_held3 (fun w' => w'.cell? ⟨w.heap.size, 1, none⟩ = some (.int .u64 h) ∧ w'.cell? ⟨w.heap.size, 2, none⟩ = some (.int .u64 l))
        (first | exact HC.out _ hR.2.2.1 | go_keep)
        ((go_at_call 201; (first
            | (have hc := H1.out _ _ _ _ hR; (with_reducible refine Calls.mono hc ?_); clear hc)
            | (have hc := H2.out _ _ _ _ hR; (with_reducible refine Calls.mono hc ?_); clear hc)); rintro e W' ⟨A', c', rfl, hR⟩))
      all_goals
        have Q := Lib.hid hR
        clear hR
        go_wp2
        go_ret
        obtain ⟨q1, q2, q3, q4⟩ := Q.out
        have el : (putOf 8 h ++ putOf 8 l).length = 16 := by rw [List.length_append, putOf_len, putOf_len]
        refine ⟨_, _, ?_, ?_, q2, fun g e => Nat.le_trans L1.out.size (q4 g e), L1.out.trans (q3.mono L1.out.size)⟩
        · rw [el]; rfl
        · rw [el]; exact q1
end Go.Proofs.YtgfkmgbcajdcdaaGreatDoor

namespace Go.Proofs.YtgfkmgbcajdcdaaGreatDoor
open Go.RowKit
set_option linter.unusedVariables false

theorem ret_i64 {a b : Int} (h : a = b) : Ending.returned (.int .i64 a) = .returned (.int .i64 b) := by rw [h]
end Go.Proofs.YtgfkmgbcajdcdaaGreatDoor
