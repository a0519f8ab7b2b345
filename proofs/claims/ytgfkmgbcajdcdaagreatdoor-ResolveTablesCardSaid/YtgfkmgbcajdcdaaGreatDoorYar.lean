/-
  Several texts in one: RwS, RbD, RBytes.
-/
import Derived.Test.YtgfkmgbcajdcdaaGreatDoorYaq
import Derived.BigQuiet
import Derived.Test.YtgfkmgbcajdcdaaGreatDoorYae
import Derived.Test.YtgfkmgbcajdcdaaGreatDoorYab
import Derived.Test.YtgfkmgbcajdcdaaGreatDoorYaa
import Derived.Deep.RegionHeld3
set_option linter.unusedVariables false
set_option maxRecDepth 100000
set_option maxHeartbeats 16000000
namespace Go.Proofs.YtgfkmgbcajdcdaaGreatDoor
open Go.RowKit Ifs

theorem same_en_eq (n0 p0 h0 l0 h1 l1 : Int) (s0 s1 w0 : Bool) (W : World) : (Op.equalIn 10000 70 (.agg #[.bool s0, .int .u64 h0, .int .u64 l0, .int .i64 n0, .int .i64 p0, .bool s1, .int .u64 h1, .int .u64 l1, .bool w0]) (.agg #[.bool s0, .int .u64 h0, .int .u64 l0, .int .i64 n0, .int .i64 p0, .bool s1, .int .u64 h1, .int .u64 l1, .bool w0])).run Tryz.prog W = .ok true W := by
 go_simp
theorem same_en (A B : Option Addr) (n c d : Nat) (l : List EnI) (hl : l.length = n) (hn : n ≤ 100000) (w : World) (h1 : w.ownsRow 0 70 9 (.slice A n c) n (l.flatMap enC)) (h2 : w.ownsRow 0 70 9 (.slice B n d) n (l.flatMap enC)) :
  Calls Tryz.prog 21 #[.slice A n c, .slice B n d] w fun e w' => e = .returned (.bool true) ∧ Tch w w' [] := by
 have HX := lH hl
 have H1 := lH (fun W (hW : Tch w W []) => own_tch h1 hW (by simp))
 have H2 := lH (fun W (hW : Tch w W []) => own_tch h2 hW (by simp))
 have bn : ((n : Int) != (n : Int)) = false := by simp
 clear hl h1 h2
 go_enter Tryz.func21, Tryz.ntmps21
 go_wp2
 clear bn
 go_loopw [5] (fun kv wr => ∃ k : Nat, kv = .int .i64 (k : Int) ∧ k ≤ n ∧ Hid (Tch w wr [])) (fun kv _ => n - (intOf kv).toNat)
 case atStart => exact ⟨0, rfl, Nat.zero_le _, lH (Tch.refl _ _)⟩
 case round =>
  obtain ⟨k, rfl, hk, hT⟩ := hrel
  have k1 : IntKind.i64.wrap ((k : Int) + 1) = (k : Int) + 1 := by rw [IntKind.wrap_i64]; omega
  by_cases hkn : k < n
  ·have kI : (k : Int) < (n : Int) := by omega
   have k0 : (0 : Int) ≤ (k : Int) := by omega
   obtain ⟨u, hu⟩ : ∃ u, l[k]? = some u := ⟨_, List.getElem?_eq_getElem (by rw [HX.out]; exact hkn)⟩
   obtain ⟨g, rfl⟩ := slice_some (H1.out wr hT.out) (by omega)
   obtain ⟨g', rfl⟩ := slice_some (H2.out wr hT.out) (by omega)
   have hat := fun q hq => flatk_at (n := 9) en_nine hu (k := q) hq
   obtain ⟨⟨⟨s0, h0, l0⟩, n0⟩, ⟨p0, ⟨s1, h1, l1⟩, w0⟩⟩ := u

   have a0 : wr.cell? ⟨g, k * 9, none⟩ = some (Value.bool s0) := own_cellN (H1.out wr hT.out) (hat 0 (by decide))
   have b0 : wr.cell? ⟨g', k * 9, none⟩ = some (Value.bool s0) := own_cellN (H2.out wr hT.out) (hat 0 (by decide))
   have a1 : wr.cell? ⟨g, k * 9 + 1, none⟩ = some (Value.int .u64 (h0 : Int)) := own_cellN (H1.out wr hT.out) (hat 1 (by decide))
   have b1 : wr.cell? ⟨g', k * 9 + 1, none⟩ = some (Value.int .u64 (h0 : Int)) := own_cellN (H2.out wr hT.out) (hat 1 (by decide))
   have a2 : wr.cell? ⟨g, k * 9 + 2, none⟩ = some (Value.int .u64 (l0 : Int)) := own_cellN (H1.out wr hT.out) (hat 2 (by decide))
   have b2 : wr.cell? ⟨g', k * 9 + 2, none⟩ = some (Value.int .u64 (l0 : Int)) := own_cellN (H2.out wr hT.out) (hat 2 (by decide))
   have a3 : wr.cell? ⟨g, k * 9 + 3, none⟩ = some (Value.int .i64 n0) := own_cellN (H1.out wr hT.out) (hat 3 (by decide))
   have b3 : wr.cell? ⟨g', k * 9 + 3, none⟩ = some (Value.int .i64 n0) := own_cellN (H2.out wr hT.out) (hat 3 (by decide))
   have a4 : wr.cell? ⟨g, k * 9 + 4, none⟩ = some (Value.int .i64 p0) := own_cellN (H1.out wr hT.out) (hat 4 (by decide))
   have b4 : wr.cell? ⟨g', k * 9 + 4, none⟩ = some (Value.int .i64 p0) := own_cellN (H2.out wr hT.out) (hat 4 (by decide))
   have a5 : wr.cell? ⟨g, k * 9 + 5, none⟩ = some (Value.bool s1) := own_cellN (H1.out wr hT.out) (hat 5 (by decide))
   have b5 : wr.cell? ⟨g', k * 9 + 5, none⟩ = some (Value.bool s1) := own_cellN (H2.out wr hT.out) (hat 5 (by decide))
   have a6 : wr.cell? ⟨g, k * 9 + 6, none⟩ = some (Value.int .u64 (h1 : Int)) := own_cellN (H1.out wr hT.out) (hat 6 (by decide))
   have b6 : wr.cell? ⟨g', k * 9 + 6, none⟩ = some (Value.int .u64 (h1 : Int)) := own_cellN (H2.out wr hT.out) (hat 6 (by decide))
   have a7 : wr.cell? ⟨g, k * 9 + 7, none⟩ = some (Value.int .u64 (l1 : Int)) := own_cellN (H1.out wr hT.out) (hat 7 (by decide))
   have b7 : wr.cell? ⟨g', k * 9 + 7, none⟩ = some (Value.int .u64 (l1 : Int)) := own_cellN (H2.out wr hT.out) (hat 7 (by decide))
   have a8 : wr.cell? ⟨g, k * 9 + 8, none⟩ = some (Value.bool w0) := own_cellN (H1.out wr hT.out) (hat 8 (by decide))
   have b8 : wr.cell? ⟨g', k * 9 + 8, none⟩ = some (Value.bool w0) := own_cellN (H2.out wr hT.out) (hat 8 (by decide))
   have HQ := eq_neq 70 #[.bool s0, .int .u64 (h0 : Int), .int .u64 (l0 : Int), .int .i64 n0, .int .i64 p0, .bool s1, .int .u64 (h1 : Int), .int .u64 (l1 : Int), .bool w0] #[.bool s0, .int .u64 (h0 : Int), .int .u64 (l0 : Int), .int .i64 n0, .int .i64 p0, .bool s1, .int .u64 (h1 : Int), .int .u64 (l1 : Int), .bool w0] (same_en_eq n0 p0 h0 l0 h1 l1 s0 s1 w0)
   simp only [Bool.not_true] at HQ
   clear hu hat
   go_wp2
   go_quiet (fail)
   have HT8 : Hid (Tch w (wr.drewN nq) []) := lH (hT.out.drewN nq)
   clear a0 b0 a1 b1 a2 b2 a3 b3 a4 b4 a5 b5 a6 b6 a7 b7 a8 b8 HQ
   go_wp2
   go_roundw
   case rel => exact ⟨k + 1, by go_num, hkn, HT8⟩
   case measure => simp [intOf]; omega
  ·obtain rfl : k = n := by omega
   have kI : ¬ (k : Int) < (k : Int) := by omega
   clear hkn hk
   go_wp2
   go_ret
   exact ⟨rfl, hT.out⟩
theorem same_hp_eq (p0 h1 l1 : Int) (s1 w0 : Bool) (W : World) : (Op.equalIn 10000 43 (.agg #[.int .i64 p0, .bool s1, .int .u64 h1, .int .u64 l1, .bool w0]) (.agg #[.int .i64 p0, .bool s1, .int .u64 h1, .int .u64 l1, .bool w0])).run Tryz.prog W = .ok true W := by
 go_simp
theorem same_hp (A B : Option Addr) (n c d : Nat) (l : List HpI) (hl : l.length = n) (hn : n ≤ 100000) (w : World) (h1 : w.ownsRow 0 43 5 (.slice A n c) n (l.flatMap hpC)) (h2 : w.ownsRow 0 43 5 (.slice B n d) n (l.flatMap hpC)) :
  Calls Tryz.prog 25 #[.slice A n c, .slice B n d] w fun e w' => e = .returned (.bool true) ∧ Tch w w' [] := by
 have HX := lH hl
 have H1 := lH (fun W (hW : Tch w W []) => own_tch h1 hW (by simp))
 have H2 := lH (fun W (hW : Tch w W []) => own_tch h2 hW (by simp))
 have bn : ((n : Int) != (n : Int)) = false := by simp
 clear hl h1 h2
 go_enter Tryz.func25, Tryz.ntmps25
 go_wp2
 clear bn
 go_loopw [5] (fun kv wr => ∃ k : Nat, kv = .int .i64 (k : Int) ∧ k ≤ n ∧ Hid (Tch w wr [])) (fun kv _ => n - (intOf kv).toNat)
 case atStart => exact ⟨0, rfl, Nat.zero_le _, lH (Tch.refl _ _)⟩
 case round =>
  obtain ⟨k, rfl, hk, hT⟩ := hrel
  have k1 : IntKind.i64.wrap ((k : Int) + 1) = (k : Int) + 1 := by rw [IntKind.wrap_i64]; omega
  by_cases hkn : k < n
  ·have kI : (k : Int) < (n : Int) := by omega
   have k0 : (0 : Int) ≤ (k : Int) := by omega
   obtain ⟨u, hu⟩ : ∃ u, l[k]? = some u := ⟨_, List.getElem?_eq_getElem (by rw [HX.out]; exact hkn)⟩
   obtain ⟨g, rfl⟩ := slice_some (H1.out wr hT.out) (by omega)
   obtain ⟨g', rfl⟩ := slice_some (H2.out wr hT.out) (by omega)
   have hat := fun q hq => flatk_at (n := 5) hp_five hu (k := q) hq
   obtain ⟨p0, ⟨s1, h1, l1⟩, w0⟩ := u

   have a0 : wr.cell? ⟨g, k * 5, none⟩ = some (Value.int .i64 p0) := own_cellN (H1.out wr hT.out) (hat 0 (by decide))
   have b0 : wr.cell? ⟨g', k * 5, none⟩ = some (Value.int .i64 p0) := own_cellN (H2.out wr hT.out) (hat 0 (by decide))
   have a1 : wr.cell? ⟨g, k * 5 + 1, none⟩ = some (Value.bool s1) := own_cellN (H1.out wr hT.out) (hat 1 (by decide))
   have b1 : wr.cell? ⟨g', k * 5 + 1, none⟩ = some (Value.bool s1) := own_cellN (H2.out wr hT.out) (hat 1 (by decide))
   have a2 : wr.cell? ⟨g, k * 5 + 2, none⟩ = some (Value.int .u64 (h1 : Int)) := own_cellN (H1.out wr hT.out) (hat 2 (by decide))
   have b2 : wr.cell? ⟨g', k * 5 + 2, none⟩ = some (Value.int .u64 (h1 : Int)) := own_cellN (H2.out wr hT.out) (hat 2 (by decide))
   have a3 : wr.cell? ⟨g, k * 5 + 3, none⟩ = some (Value.int .u64 (l1 : Int)) := own_cellN (H1.out wr hT.out) (hat 3 (by decide))
   have b3 : wr.cell? ⟨g', k * 5 + 3, none⟩ = some (Value.int .u64 (l1 : Int)) := own_cellN (H2.out wr hT.out) (hat 3 (by decide))
   have a4 : wr.cell? ⟨g, k * 5 + 4, none⟩ = some (Value.bool w0) := own_cellN (H1.out wr hT.out) (hat 4 (by decide))
   have b4 : wr.cell? ⟨g', k * 5 + 4, none⟩ = some (Value.bool w0) := own_cellN (H2.out wr hT.out) (hat 4 (by decide))
   have HQ := eq_neq 43 #[.int .i64 p0, .bool s1, .int .u64 (h1 : Int), .int .u64 (l1 : Int), .bool w0] #[.int .i64 p0, .bool s1, .int .u64 (h1 : Int), .int .u64 (l1 : Int), .bool w0] (same_hp_eq p0 h1 l1 s1 w0)
   simp only [Bool.not_true] at HQ
   clear hu hat
   go_wp2
   go_quiet (fail)
   have HT8 : Hid (Tch w (wr.drewN nq) []) := lH (hT.out.drewN nq)
   clear a0 b0 a1 b1 a2 b2 a3 b3 a4 b4 HQ
   go_wp2
   go_roundw
   case rel => exact ⟨k + 1, by go_num, hkn, HT8⟩
   case measure => simp [intOf]; omega
  ·obtain rfl : k = n := by omega
   have kI : ¬ (k : Int) < (k : Int) := by omega
   clear hkn hk
   go_wp2
   go_ret
   exact ⟨rfl, hT.out⟩
theorem same_rt_eq (n0 p0 h0 l0 : Int) (s0 : Bool) (W : World) : (Op.equalIn 10000 101 (.agg #[.bool s0, .int .u64 h0, .int .u64 l0, .int .i64 n0, .int .i64 p0]) (.agg #[.bool s0, .int .u64 h0, .int .u64 l0, .int .i64 n0, .int .i64 p0])).run Tryz.prog W = .ok true W := by
 go_simp
theorem same_rt (A B : Option Addr) (n c d : Nat) (l : List RtI) (hl : l.length = n) (hn : n ≤ 100000) (w : World) (h1 : w.ownsRow 0 101 5 (.slice A n c) n (l.flatMap rtC)) (h2 : w.ownsRow 0 101 5 (.slice B n d) n (l.flatMap rtC)) :
  Calls Tryz.prog 24 #[.slice A n c, .slice B n d] w fun e w' => e = .returned (.bool true) ∧ Tch w w' [] := by
 have HX := lH hl
 have H1 := lH (fun W (hW : Tch w W []) => own_tch h1 hW (by simp))
 have H2 := lH (fun W (hW : Tch w W []) => own_tch h2 hW (by simp))
 have bn : ((n : Int) != (n : Int)) = false := by simp
 clear hl h1 h2
 go_enter Tryz.func24, Tryz.ntmps24
 go_wp2
 clear bn
 go_loopw [5] (fun kv wr => ∃ k : Nat, kv = .int .i64 (k : Int) ∧ k ≤ n ∧ Hid (Tch w wr [])) (fun kv _ => n - (intOf kv).toNat)
 case atStart => exact ⟨0, rfl, Nat.zero_le _, lH (Tch.refl _ _)⟩
 case round =>
  obtain ⟨k, rfl, hk, hT⟩ := hrel
  have k1 : IntKind.i64.wrap ((k : Int) + 1) = (k : Int) + 1 := by rw [IntKind.wrap_i64]; omega
  by_cases hkn : k < n
  ·have kI : (k : Int) < (n : Int) := by omega
   have k0 : (0 : Int) ≤ (k : Int) := by omega
   obtain ⟨u, hu⟩ : ∃ u, l[k]? = some u := ⟨_, List.getElem?_eq_getElem (by rw [HX.out]; exact hkn)⟩
   obtain ⟨g, rfl⟩ := slice_some (H1.out wr hT.out) (by omega)
   obtain ⟨g', rfl⟩ := slice_some (H2.out wr hT.out) (by omega)
   have hat := fun q hq => flatk_at (n := 5) rt_five hu (k := q) hq
   obtain ⟨⟨⟨s0, h0, l0⟩, n0⟩, p0⟩ := u

   have a0 : wr.cell? ⟨g, k * 5, none⟩ = some (Value.bool s0) := own_cellN (H1.out wr hT.out) (hat 0 (by decide))
   have b0 : wr.cell? ⟨g', k * 5, none⟩ = some (Value.bool s0) := own_cellN (H2.out wr hT.out) (hat 0 (by decide))
   have a1 : wr.cell? ⟨g, k * 5 + 1, none⟩ = some (Value.int .u64 (h0 : Int)) := own_cellN (H1.out wr hT.out) (hat 1 (by decide))
   have b1 : wr.cell? ⟨g', k * 5 + 1, none⟩ = some (Value.int .u64 (h0 : Int)) := own_cellN (H2.out wr hT.out) (hat 1 (by decide))
   have a2 : wr.cell? ⟨g, k * 5 + 2, none⟩ = some (Value.int .u64 (l0 : Int)) := own_cellN (H1.out wr hT.out) (hat 2 (by decide))
   have b2 : wr.cell? ⟨g', k * 5 + 2, none⟩ = some (Value.int .u64 (l0 : Int)) := own_cellN (H2.out wr hT.out) (hat 2 (by decide))
   have a3 : wr.cell? ⟨g, k * 5 + 3, none⟩ = some (Value.int .i64 n0) := own_cellN (H1.out wr hT.out) (hat 3 (by decide))
   have b3 : wr.cell? ⟨g', k * 5 + 3, none⟩ = some (Value.int .i64 n0) := own_cellN (H2.out wr hT.out) (hat 3 (by decide))
   have a4 : wr.cell? ⟨g, k * 5 + 4, none⟩ = some (Value.int .i64 p0) := own_cellN (H1.out wr hT.out) (hat 4 (by decide))
   have b4 : wr.cell? ⟨g', k * 5 + 4, none⟩ = some (Value.int .i64 p0) := own_cellN (H2.out wr hT.out) (hat 4 (by decide))
   have HQ := eq_neq 101 #[.bool s0, .int .u64 (h0 : Int), .int .u64 (l0 : Int), .int .i64 n0, .int .i64 p0] #[.bool s0, .int .u64 (h0 : Int), .int .u64 (l0 : Int), .int .i64 n0, .int .i64 p0] (same_rt_eq n0 p0 h0 l0 s0)
   simp only [Bool.not_true] at HQ
   clear hu hat
   go_wp2
   go_quiet (fail)
   have HT8 : Hid (Tch w (wr.drewN nq) []) := lH (hT.out.drewN nq)
   clear a0 b0 a1 b1 a2 b2 a3 b3 a4 b4 HQ
   go_wp2
   go_roundw
   case rel => exact ⟨k + 1, by go_num, hkn, HT8⟩
   case measure => simp [intOf]; omega
  ·obtain rfl : k = n := by omega
   have kI : ¬ (k : Int) < (k : Int) := by omega
   clear hkn hk
   go_wp2
   go_ret
   exact ⟨rfl, hT.out⟩
end Go.Proofs.YtgfkmgbcajdcdaaGreatDoor

namespace Go.Proofs.YtgfkmgbcajdcdaaGreatDoor
open Go.RowKit

def tdC (t : TdI) : List Value := pfC t.1 ++ paC t.2
theorem td_eleven (t : TdI) : (tdC t).length = 11 := rfl
theorem td_one (t : TdI) : ∀ u ∈ tdC t, u.oneCell' = true := by
 intro u hu
 rcases List.mem_append.1 hu with h | h
 ·exact pf_one _ u h
 ·exact pa_one _ u h
def NumT (t : TdI) : Prop := (N64 t.1.1.2.1 ∧ N64 t.1.1.2.2) ∧ (N64 t.2.2.2.1.2.1 ∧ N64 t.2.2.2.1.2.2)
def RbD (w : World) (t : Nat) (S : List Nat) (L : List TdI) : Prop := ∃ (A : Option Addr) (c : Nat),
 S = t :: obI (.slice A L.length c) ∧ S.Nodup ∧ Blk w t 56 #[.slice A L.length c] ∧ w.ownsRow 0 113 11 (.slice A L.length c) L.length (L.flatMap tdC) ∧ ∀ u ∈ L, NumT u
section
variable {w w' : World} {t : Nat} {S T : List Nat} {L : List TdI}
theorem RbD.num (h : RbD w t S L) : ∀ u ∈ L, NumT u := by
 obtain ⟨A, c, h1, h2, h3, h4, h5⟩ := h
 exact h5
theorem RbD.lt (h : RbD w t S L) : ∀ s ∈ S, s < w.heap.size := by
 obtain ⟨A, c, rfl, h2, h3, h4, h5⟩ := h
 intro s hs
 rcases List.mem_cons.1 hs with h | h
 ·subst h; exact h3.lt
 ·exact own_lts h4 s h
theorem RbD.tch (h : RbD w t S L) (ht : Tch w w' T) (hn : ∀ s ∈ S, s ∉ T) : RbD w' t S L := by
 obtain ⟨A, c, rfl, h2, h3, h4, h5⟩ := h
 exact ⟨A, c, rfl, h2, ht.blk h3 (hn t (by simp)), own_tch h4 ht (fun s hs => hn s (by simp [hs])), h5⟩
theorem RbD.tin (h : RbD w t S L) : t ∈ S := by
 obtain ⟨A, c, rfl, -⟩ := h
 simp
theorem RbD.set_ {W : World} {M : List TdI} {A : Option Addr} {c : Nat} (h : RbD w t S L) (hT : Tch w W []) (hown : W.ownsRow w.heap.size 113 11 (.slice A M.length c) M.length (M.flatMap tdC)) (hM : ∀ u ∈ M, NumT u) :
  (∃ u, W.cell? ⟨t, 0, none⟩ = some u) ∧ W.frozen? ⟨t, 0, none⟩ = false ∧ ∃ S', RbD (W.setCell ⟨t, 0, none⟩ (.slice A M.length c)) t S' M ∧ Goes w (W.setCell ⟨t, 0, none⟩ (.slice A M.length c)) S S' := by
 have hlt := h.lt t h.tin
 obtain ⟨A0, c0, rfl, h2, h3, h4, h5⟩ := h
 have b := hT.blk h3 (by simp)
 have hg := own_geI hown
 have hTs : Tch W (W.setCell ⟨t, 0, none⟩ (.slice A M.length c)) [t] := (Tch.refl W [t]).set_ (p := ⟨t, 0, none⟩) (by simp) _
 refine ⟨⟨_, b.cell 0⟩, b.frozen 0, t :: obI (.slice A M.length c), ⟨A, c, rfl, ?_, b.set_ 0 _, own_tch (own_mono hown (Nat.zero_le _)) hTs (fun s hs hm => ?_), hM⟩, ⟨(hT.mono (by simp)).trans (hTs.mono (by simp)), fun s hs => ?_⟩⟩
 ·rw [List.nodup_cons]
  refine ⟨fun hm => ?_, ?_⟩
  ·have := (hg t hm).1; omega
  ·unfold obI; cases (Value.slice A M.length c).ownBlock <;> simp
 ·have h1 := List.mem_singleton.1 hm
  have := (hg s hs).1
  omega
 ·rcases List.mem_cons.1 hs with k | k
  ·exact .inl (by rw [k]; simp)
  ·exact .inr (hg s k).1
theorem RbD.head (h : RbD w t S L) : ∃ (A : Option Addr) (c : Nat), w.cell? ⟨t, 0, none⟩ = some (.slice A L.length c) ∧ w.ownsRow 0 113 11 (.slice A L.length c) L.length (L.flatMap tdC) ∧ t < w.heap.size ∧ w.frozen? ⟨t, 0, none⟩ = false := by
 obtain ⟨A, c, rfl, h2, h3, h4, h5⟩ := h
 exact ⟨A, c, (h3.cell 0).trans rfl, h4, h3.lt, h3.frozen 0⟩
end
theorem td_cells {w : World} {g n c k : Nat} {L : List TdI} (h : w.ownsRow 0 113 11 (.slice (some ⟨g, 0, none⟩) n c) n (L.flatMap tdC)) {u : TdI} (hu : L[k]? = some u) :
  w.cell? ⟨g, k * 11, none⟩ = some (.bool u.1.1.1) ∧ w.cell? ⟨g, k * 11 + 1, none⟩ = some (.int .u64 (u.1.1.2.1 : Int)) ∧ w.cell? ⟨g, k * 11 + 2, none⟩ = some (.int .u64 (u.1.1.2.2 : Int)) ∧ w.cell? ⟨g, k * 11 + 3, none⟩ = some (.int .i64 u.1.2) ∧
  w.cell? ⟨g, k * 11 + 4, none⟩ = some (.int .i64 u.2.1) ∧ w.cell? ⟨g, k * 11 + 5, none⟩ = some (.int .i64 u.2.2.1) ∧ w.cell? ⟨g, k * 11 + 6, none⟩ = some (.bool u.2.2.2.1.1) ∧ w.cell? ⟨g, k * 11 + 7, none⟩ = some (.int .u64 (u.2.2.2.1.2.1 : Int)) ∧
  w.cell? ⟨g, k * 11 + 8, none⟩ = some (.int .u64 (u.2.2.2.1.2.2 : Int)) ∧ w.cell? ⟨g, k * 11 + 9, none⟩ = some (.int .i64 u.2.2.2.2.1) ∧ w.cell? ⟨g, k * 11 + 10, none⟩ = some (.bool u.2.2.2.2.2) := by
 refine ⟨?_, ?_, ?_, ?_, ?_, ?_, ?_, ?_, ?_, ?_, ?_⟩
 ·exact own_cellN h ((flatk_at (f := tdC) td_eleven hu (k := 0) (by decide)).trans rfl)
 ·exact own_cellN h ((flatk_at (f := tdC) td_eleven hu (k := 1) (by decide)).trans rfl)
 ·exact own_cellN h ((flatk_at (f := tdC) td_eleven hu (k := 2) (by decide)).trans rfl)
 ·exact own_cellN h ((flatk_at (f := tdC) td_eleven hu (k := 3) (by decide)).trans rfl)
 ·exact own_cellN h ((flatk_at (f := tdC) td_eleven hu (k := 4) (by decide)).trans rfl)
 ·exact own_cellN h ((flatk_at (f := tdC) td_eleven hu (k := 5) (by decide)).trans rfl)
 ·exact own_cellN h ((flatk_at (f := tdC) td_eleven hu (k := 6) (by decide)).trans rfl)
 ·exact own_cellN h ((flatk_at (f := tdC) td_eleven hu (k := 7) (by decide)).trans rfl)
 ·exact own_cellN h ((flatk_at (f := tdC) td_eleven hu (k := 8) (by decide)).trans rfl)
 ·exact own_cellN h ((flatk_at (f := tdC) td_eleven hu (k := 9) (by decide)).trans rfl)
 ·exact own_cellN h ((flatk_at (f := tdC) td_eleven hu (k := 10) (by decide)).trans rfl)
theorem infoTd : (Tryz.prog.info? 113).map (fun i => (i.zero, i.size, i.bytes)) = some (some (.agg #[.bool false, .int .u64 0, .int .u64 0, .int .i64 0, .int .i64 0, .int .i64 0, .bool false, .int .u64 0, .int .u64 0, .int .i64 0, .bool false]), 11, 88) := by kernel_rfl
theorem newR (w : World) : Calls Tryz.prog 44 #[] w fun e w' => ∃ t S, e = .returned (.pointer (some ⟨t, 0, none⟩)) ∧ RbD w' t S [] ∧ Below w.heap.size w w' ∧ ∀ s ∈ S, w.heap.size ≤ s := by
 have HI : Hid (RbD (w.alloc (.cells #[.slice none 0 0] 56)) w.heap.size [w.heap.size] []) := lH ⟨none, 0, rfl, by simp, Blk.new _ _ _, ⟨rfl, .inl ⟨rfl, rfl⟩⟩, by simp⟩
 go_enter Tryz.func44, Tryz.ntmps44
 go_wp2
 go_ret
 exact ⟨_, _, rfl, HI.out, (Below.refl _ w).alloc (Nat.le_refl _) _, by simp⟩
end Go.Proofs.YtgfkmgbcajdcdaaGreatDoor

namespace Go.Proofs.YtgfkmgbcajdcdaaGreatDoor
open Go.RowKit

def RB (w W : World) (A : Option Addr) (n c : Nat) (zs : List Int) : Prop := RI .u8 w w.heap.size A n zs ∧ (A = none → c = 0) ∧ Below W.heap.size W w ∧ (∀ x, A = some x → W.heap.size ≤ x.block)
def RBStep (W : World) (n n' k : Nat) (width v : Int) : Prop := ∀ (w : World) (A : Option Addr) (c : Nat) (zs : List Int), RB w W A n c zs →
  Calls Tryz.prog 201 #[.slice A n c, .int .i64 width, .int .u64 v] w fun e w' => ∃ A' c', e = .returned (.slice A' n' c') ∧ RB w' W A' n' c' (zs ++ putOf k v)
theorem rbStep (W : World) (n n' k : Nat) (width v : Int) (hk : k ≤ 8) (hw : width = (k : Int)) (hn : n + k = n') (h0 : 0 < n') (hn2 : n ≤ 1000) (hv : U6 v) : RBStep W n n' k width v := by
 intro w A c zs h
 have e : wide width = k := by
  subst hw
  unfold wide; split <;> split <;> omega
 have hp := refPut_any w w.heap.size A n c v width zs h.1 h.2.1 (Nat.le_refl _) (by omega) hv.1 hv.2
 rw [e, hn] at hp
 refine cZm hp ?_
 rintro e w' ⟨A', c', rfl, h1, h2, h3⟩
 obtain ⟨b, o, e, _⟩ := h1.2.1 h0
 exact ⟨A', c', rfl, h1, (fun h => by rw [e] at h; cases h), h.2.2.1.trans (h3.mono h.2.2.1.size), fun x hx => Nat.le_trans h.2.2.1.size (h2 x hx)⟩
theorem RB.start (w : World) : RB w.drew w none 0 0 [] := ⟨RI.nil_, fun _ => rfl, (Below.refl _ _).drew, fun _ h => by cases h⟩
theorem RB.start0 (w : World) : RB w w none 0 0 [] := ⟨RI.nil_, fun _ => rfl, Below.refl _ _, fun _ h => by cases h⟩

def OutR (w : World) (zs : List Int) (e : Ending) (w' : World) : Prop :=
 ∃ A c, e = .returned (.slice A zs.length c) ∧ RI .u8 w' w'.heap.size A zs.length zs ∧ (A = none → c = 0) ∧ (∀ g, A = some g → w.heap.size ≤ g.block) ∧ Below w.heap.size w w'

theorem rbytes_any (s : Bool) (h l : Int) (hh : U6 h) (hl : U6 l) (w : World) :
  Calls Tryz.prog 176 #[adr s h l] w (OutR w (byts s h l)) := by
 obtain ⟨V, hV⟩ : ∃ V, vld s h l = V := ⟨_, rfl⟩
 have HVa := lH (rvalid_at s h l (w.alloc (.cells #[.bool s, .int .u64 h, .int .u64 l] 28)) hV)
 cases V
 ·have e : byts s h l = [] := by unfold byts; rw [hV]; rfl
  rw [e]
  clear hV e
  go_enter Tryz.func176, Tryz.ntmps176
  go_wp2_with fail
  refine cZm HVa.out ?_
  rintro e w1 ⟨rfl, hb⟩
  have L1 := ((Below.refl _ w).alloc (Nat.le_refl _) _).trans (hb.mono (by simp only [zA]; omega))
  clear hb
  go_wp2
  go_ret
  exact ⟨none, 0, rfl, RI.nil_, fun _ => rfl, (fun g e => by cases e), L1⟩
 ·cases s
  ·have e : byts false h l = putOf 4 l := by unfold byts; rw [hV]; rfl
   rw [e]
   clear hV e
   have HL := lH hl
   go_enter Tryz.func176, Tryz.ntmps176
   go_wp2_with fail
   refine cZm HVa.out ?_
   rintro e w1 ⟨rfl, hb⟩
   have R1 := lH ((Blk.new w 28 _).below hb (by simp only [zA]; omega))
   have L1 := lH (((Below.refl _ w).alloc (Nat.le_refl _) _).trans (hb.mono (by simp only [zA]; omega)))
   obtain ⟨g1, g2, g3⟩ := R1.out.c3
   have HS := lH (rbStep w1 0 4 4 4 l (by decide) rfl rfl (by decide) (by decide) HL.out w1 none 0 [] (RB.start0 w1))
   clear hb
   go_wp2_with fail
   refine cZm HS.out ?_
   rintro e w2 ⟨A, c, rfl, q1, q2, q3, q4⟩
   have Q := lH (And.intro q1 (And.intro q2 (And.intro q3 q4)))
   clear q1 q2 q3 q4 g1 g2 g3
   go_wp2
   go_ret
   obtain ⟨q1, q2, q3, q4⟩ := Q.out
   refine ⟨A, c, ?_, ?_, q2, fun g e => Nat.le_trans L1.out.size (q4 g e), L1.out.trans (q3.mono L1.out.size)⟩
   ·rw [putOf_len]; rfl
   ·rw [putOf_len]; exact q1
  ·have e : byts true h l = putOf 8 h ++ putOf 8 l := by unfold byts; rw [hV]; rfl
   rw [e]
   clear hV e
   have HL := lH hl
   have HH := lH hh
   go_enter Tryz.func176, Tryz.ntmps176
   go_wp2_with fail
   refine cZm HVa.out ?_
   rintro e w1 ⟨rfl, hb⟩
   have R1 := lH ((Blk.new w 28 _).below hb (by simp only [zA]; omega))
   have L1 := lH (((Below.refl _ w).alloc (Nat.le_refl _) _).trans (hb.mono (by simp only [zA]; omega)))
   have hs1 : w.heap.size < w1.heap.size := by have := hb.size; simp only [zA] at this; omega
   have HC : Hid (∀ W', Below w1.heap.size w1 W' → W'.cell? ⟨w.heap.size, 1, none⟩ = some (.int .u64 h) ∧ W'.cell? ⟨w.heap.size, 2, none⟩ = some (.int .u64 l)) := by
    show ∀ W', _ → _
    intro W' hB
    have := (R1.out.below hB hs1).c3
    exact ⟨this.2.1, this.2.2⟩
   obtain ⟨g1, g2, g3⟩ := R1.out.c3
   have hR := RB.start w1
   have H1 := lH (rbStep w1 0 8 8 8 h (by decide) rfl rfl (by decide) (by decide) HH.out)
   have H2 := lH (rbStep w1 8 16 8 8 l (by decide) rfl rfl (by decide) (by decide) HL.out)
   clear hb
   go_wp2
   go_region_held3 (fun w' => w'.cell? ⟨w.heap.size, 1, none⟩ = some (.int .u64 h) ∧ w'.cell? ⟨w.heap.size, 2, none⟩ = some (.int .u64 l))
    (first | exact HC.out _ hR.2.2.1 | go_keep)
    ((go_at_call 201; (first
      | (have hc := H1.out _ _ _ _ hR; (with_reducible refine cZm hc ?_); clear hc)
      | (have hc := H2.out _ _ _ _ hR; (with_reducible refine cZm hc ?_); clear hc)); rintro e W' ⟨A', c', rfl, hR⟩))
   all_goals
    have Q := lH hR
    clear hR
    go_wp2
    go_ret
    obtain ⟨q1, q2, q3, q4⟩ := Q.out
    have el : (putOf 8 h ++ putOf 8 l).length = 16 := by rw [List.length_append, putOf_len, putOf_len]
    refine ⟨_, _, ?_, ?_, q2, fun g e => Nat.le_trans L1.out.size (q4 g e), L1.out.trans (q3.mono L1.out.size)⟩
    ·rw [el]; rfl
    ·rw [el]; exact q1
end Go.Proofs.YtgfkmgbcajdcdaaGreatDoor
