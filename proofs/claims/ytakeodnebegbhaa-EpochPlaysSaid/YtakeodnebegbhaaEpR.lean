/-
  The library's slices.Clone and slices.Repeat over ints at this seat, with math/bits.Mul beneath.
-/
import Derived.Test.YtakeodnebegbhaaEpU
import Derived.Laws.Bits64b
import Derived.Laws.CopyOwn
import Derived.Lib.SliceRun
import Derived.Deep.RegionLaw
import Derived.KernelRfl
namespace Go.Proofs.Ytakeodnebegbhaa
open Go.RowKit
set_option linter.unusedVariables false

set_option maxRecDepth 100000 in
set_option maxHeartbeats 1000000 in
/-- slices.Clone of a slice that is not nil. -/
theorem clone_int (g off n c : Nat) (zs : List Int) (hz : zs.length = n) (hn : n ≤ 1000000) (w : World) (hc : ∀ j z, zs[j]? = some z → w.cell? ⟨g, off + j, none⟩ = some (.int .i64 z)) :
    Calls Try.prog 33 #[.slice (some ⟨g, off, none⟩) n c] w fun e w' => ∃ A c', e = .returned (.slice A n c') ∧ w'.ownsRow w.heap.size 3 1 (.slice A n c') n (ints zs) ∧ Below w.heap.size w w' := by
  obtain ⟨i0, hi, hz0, hz1, hz2⟩ := info_parts infoInt
  have q : ∀ (w : World) (a : Option Addr) (n c n' c' : Nat), (binOp .eql 33 (.slice a n c) (.slice none n' c')).run Try.prog w = .ok (.bool a.isNone) w := fun w a n c n' c' => Lib.run_eql_slice_nil w _ _ a n c n' c' Try.underlying33
  have HC := Lib.hid hc
  have HN := Lib.hid hn
  have HZ := Lib.hid hz
  have HI := Lib.hid (And.intro hi (And.intro hz0 (And.intro hz1 hz2)))
  have HM0 : Hid ((w.alloc (.cells #[] 3)).ownsRow w.heap.size 3 1 (.slice (some ⟨w.heap.size, 0, none⟩) 0 0) 0 []) := Lib.hid (World.ownsRow_made w #[] 0 (Nat.le_refl _) (Nat.zero_le _) rfl)
  have HQ2 : Hid (∀ j u, (ints zs)[j]? = some u → (w.alloc (.cells #[] 3)).cell? ((⟨g, off, none⟩ : Addr).add j) = some u) := Lib.hid (by
    intro j u hj
    have e : (⟨g, off, none⟩ : Addr).add j = ⟨g, off + j, none⟩ := by unfold Addr.add; split <;> simp_all
    rw [e]
    unfold ints at hj
    rw [List.getElem?_map, Option.map_eq_some_iff] at hj
    obtain ⟨z, hz, rfl⟩ := hj
    exact Lib.cell?_alloc_some _ (hc j z hz))
  have HQ1 : Hid ((ints zs).length = n * 1) := Lib.hid (by rw [ints_len]; omega)
  clear hc hn hz hi hz0 hz1 hz2
  go_enter Try.func33, Try.ntmps33
  go_wp2_with (at_builtin; refine wpList_append_own_at _ rfl (.tmp 5) (.tmp 6) 33 rfl w.heap.size 3 i0 (.int .i64 0) 1 8 Try.underlying33 HI.out.1 HI.out.2.1 HI.out.2.2.1 HI.out.2.2.2 rfl (by decide) _ 0 [] rfl HM0.out ⟨g, off, none⟩ n c (ints zs) rfl HQ1.out HQ2.out (ints_oneCell .i64 zs) (by have := HN.out; unfold maxLen; omega) (by have := HN.out; omega) (by simp) ?_; intro v' w1 hown hgrow hnil hv)
  have HO := Lib.hid hown
  have HG := Lib.hid hgrow
  clear hown hgrow hnil hv
  go_wp2
  go_ret
  obtain ⟨A, c', e, -, -⟩ := own_sl HO.out
  rw [Nat.zero_add] at e
  refine ⟨A, c', by rw [e]; rfl, ?_, ?_⟩
  · have := HO.out
    rw [e] at this
    simpa using this
  · exact ((Below.refl _ w).alloc (Nat.le_refl _) _).grown HG.out (by simp) (by intro k hk; simp [Value.ownBlock, Act.eval] at hk; omega)
theorem lt17 {O : Nat} (h1 : 1 ≤ O) (h2 : O ≤ 16) : O = 1 ∨ O = 2 ∨ O = 3 ∨ O = 4 ∨ O = 5 ∨ O = 6 ∨ O = 7 ∨ O = 8 ∨ O = 9 ∨ O = 10 ∨ O = 11 ∨ O = 12 ∨ O = 13 ∨ O = 14 ∨ O = 15 ∨ O = 16 := by omega
theorem and_few {O : Nat} (h1 : 1 ≤ O) (h2 : O ≤ 16) : bits BinOp.and IntKind.u64 (O : Int) 4294967295 = (O : Int) := by
  rcases lt17 h1 h2 with h | h | h | h | h | h | h | h | h | h | h | h | h | h | h | h <;> subst h <;> kernel_rfl
set_option maxRecDepth 100000 in
set_option maxHeartbeats 1000000 in
theorem mul64_one (O : Nat) (h1 : 1 ≤ O) (h2 : O ≤ 16) (w : World) :
    Calls Try.prog 39 #[.int .u64 1, .int .u64 (O : Int)] w fun e w' => e = .returned (.tuple #[.int .u64 0, .int .u64 (O : Int)]) ∧ w' = w := by
  have a1 := and_few h1 h2
  have a0 : bits BinOp.and IntKind.u64 1 4294967295 = 1 := by kernel_rfl
  have a2 : bits BinOp.and IntKind.u64 0 4294967295 = 0 := by kernel_rfl
  have d1 : (O : Int) / 4294967296 = 0 := by omega
  have d0 : (1 : Int) / 4294967296 = 0 := by decide
  have u1 : IntKind.u64.wrap (O : Int) = (O : Int) := by rw [IntKind.wrap_u64]; omega
  have u0 : IntKind.u64.wrap 0 = 0 := by decide
  go_enter Try.func39, Try.ntmps39
  go_wp2
  go_ret2
  exact ⟨rfl, rfl⟩
set_option maxRecDepth 100000 in
set_option maxHeartbeats 1000000 in
theorem mul_one' (O : Nat) (h1 : 1 ≤ O) (h2 : O ≤ 16) (w : World) :
    Calls Try.prog 34 #[.int .u64 1, .int .u64 (O : Int)] w fun e w' => e = .returned (.tuple #[.int .u64 0, .int .u64 (O : Int)]) ∧ w' = w := by
  have HM := Lib.hid (mul64_one O h1 h2 w)
  have u1 : IntKind.u64.wrap (O : Int) = (O : Int) := by rw [IntKind.wrap_u64]; omega
  have u0 : IntKind.u64.wrap 1 = 1 := by decide
  go_enter Try.func34, Try.ntmps34
  go_wp2_with (go_at_call 39; refine HM.out.mono ?_; rintro e w' ⟨rfl, hw⟩; rw [hw])
  go_ret2
  exact ⟨rfl, rfl⟩
theorem made_ints (n : Nat) : madeCells #[.int .i64 0] n = (List.replicate n (Value.int .i64 0)).toArray := by
  apply Array.ext
  · simp [madeCells]
  · intro i h1 h2
    simp [madeCells, Nat.mod_one]
theorem sl_from (w : World) (g off n c j : Nat) (hj : j ≤ n) (hc : j < c) :
    (Instr.slice 33 (.slice (some ⟨g, off, none⟩) n c) (some (.int .i64 (j : Int))) none none).run Try.prog w = .ok (.slice (some ⟨g, off + j, none⟩) (n - j) (c - j)) w := by
  have h := run_slice_l (P := Try.prog) (w := w) 33 (some ⟨g, off, none⟩) n c Try.underlying33 .i64 (j : Int) (by omega) (by omega)
  rw [h]
  have e : ¬ c = j := by omega
  simp [sliced, go_sem, e, Addr.add]
theorem sl_to (w : World) (g off n c j : Nat) (hc : j ≤ c) :
    (Instr.slice 33 (.slice (some ⟨g, off, none⟩) n c) none (some (.int .i64 (j : Int))) none).run Try.prog w = .ok (.slice (some ⟨g, off, none⟩) j c) w := by
  have h := run_slice_h (P := Try.prog) (w := w) 33 (some ⟨g, off, none⟩) n c Try.underlying33 .i64 (j : Int) (by omega) (by omega)
  rw [h]
  simp [sliced, go_sem, Addr.add]
/-- The first n of O are -1. -/
def half (O n : Nat) : List Value := List.replicate n (.int .i64 (-1)) ++ List.replicate (O - n) (.int .i64 0)
theorem half_splice {O n m : Nat} (hn : n ≤ O) (hm : m ≤ O - n) : splice (half O n) n (List.replicate m (.int .i64 (-1))) = half O (n + m) := by
  unfold splice half
  rw [List.take_left' (by simp), List.length_replicate, List.drop_append, List.length_replicate, List.drop_replicate, List.drop_replicate, show n - (n + m) = 0 by omega, show O - n - (n + m - n) = O - (n + m) by omega]
  simp only [List.replicate_zero, List.nil_append]
  rw [← List.append_assoc, List.replicate_append_replicate]
theorem half_all (O : Nat) : half O O = ints (List.replicate O (-1)) := by simp [half, ints]
theorem half_len {O n : Nat} (hn : n ≤ O) : (half O n).length = O := by simp [half]; omega
set_option maxRecDepth 100000 in
set_option maxHeartbeats 1000000 in
/-- slices.Repeat of one number, O times. -/
theorem repeat_out (O : Nat) (h1 : 1 ≤ O) (h2 : O ≤ 16) (g c : Nat) (w : World) (hc : w.cell? ⟨g, 0, none⟩ = some (.int .i64 (-1))) (hg : g < w.heap.size) :
    Calls Try.prog 24 #[.slice (some ⟨g, 0, none⟩) 1 c, .int .i64 (O : Int)] w fun e w' => ∃ r, e = .returned (.slice (some ⟨r, 0, none⟩) O O) ∧ w.heap.size ≤ r ∧ Blk w' r 3 (ints (List.replicate O (-1))).toArray ∧ Below w.heap.size w w' := by
  have HM := Lib.hid (mul_one' O h1 h2 w)
  have b0 : ¬ (O : Int) < 0 := by omega
  have b1 : decide ((9223372036854775807 : Int) < (O : Int)) = false := by simp; omega
  have u1 : IntKind.u64.wrap (O : Int) = (O : Int) := by rw [IntKind.wrap_u64]; omega
  have u2 : IntKind.i64.wrap (O : Int) = (O : Int) := by rw [IntKind.wrap_i64]; omega
  have hmk : (Instr.makeSlice 33 (.int .i64 (O : Int)) (.int .i64 (O : Int))).run Try.prog w = .ok (.slice (some ⟨w.heap.size, 0, none⟩) O O) (w.alloc (.cells (madeCells #[.int .i64 0] O) 3)) :=
    run_make_row' (P := Try.prog) 33 3 (.int .i64 0) 8 Try.underlying33 infoInt rfl .i64 .i64 O (by omega) (by omega) w
  obtain ⟨w1, hw1⟩ : ∃ w1, w1 = w.alloc (.cells (madeCells #[.int .i64 0] O) 3) := ⟨_, rfl⟩
  have HG : Hid (w1.heap[w.heap.size]? = some (.cells (half O 0).toArray 3 (0, 0))) := by
    show _ = _
    rw [hw1, heap_alloc_new, made_ints]
    simp [half]
  have HB : Hid (Below w.heap.size w w1) := Lib.hid (by rw [hw1]; exact (Below.refl _ _).alloc (Nat.le_refl _) _)
  have HC1 : Hid (w1.cell? ⟨g, 0, none⟩ = some (.int .i64 (-1))) := Lib.hid ((HB.out.cell (p := ⟨g, 0, none⟩) hg).trans hc)
  rw [← hw1] at hmk
  clear hw1 hc
  have C1 : Hid ((List.replicate 1 (Value.int .i64 (-1))).length = Nat.min 1 O) := by
    show _ = _
    simp [Nat.min_def]; omega
  have C2 : Hid (∀ j v, (List.replicate 1 (Value.int .i64 (-1)))[j]? = some v → w1.cell? ((⟨g, 0, none⟩ : Addr).add j) = some v) := Lib.hid (fun j v hv => by
    obtain ⟨h3, h4⟩ := List.getElem?_eq_some_iff.1 hv
    simp at h3 h4
    subst h3
    rw [← h4]
    exact HC1.out)
  have C3 : Hid (0 + (List.replicate 1 (Value.int .i64 (-1))).length ≤ (half O 0).length) := Lib.hid (by rw [half_len (Nat.zero_le _)]; simp; omega)
  have C4 : Hid (∀ v ∈ List.replicate 1 (Value.int .i64 (-1)), v.oneCell' = true) := Lib.hid (by simp [Value.oneCell'])
  go_enter Try.func24, Try.ntmps24
  go_wp2_with (first
    | (go_at_call 34; refine HM.out.mono ?_; rintro e w' ⟨rfl, hw⟩; rw [hw])
    | (with_reducible refine wpList_copy_splice rfl (.tmp 31) (.tmp 32) 33 33 rfl 3 Try.underlying33 (by kernel_rfl) _ _ _ _ _ _ rfl rfl w.heap.size 0 (half O 0) 3 HG.out (List.replicate 1 (Value.int .i64 (-1))) C1.out (fun _ => ⟨rfl, _, rfl, C2.out⟩) C3.out C4.out w.heap.size w HB.out (Nat.le_refl _) ?_; intro w2 HG2 HB2; have HB3 := Lib.hid HB2; clear HB2))
  have HR2 : Hid (Blk w2 w.heap.size 3 (half O 1).toArray) := Lib.hid (by
    have h := HG2.out
    rw [show List.replicate 1 (Value.int .i64 (-1)) = List.replicate 1 (Value.int .i64 (-1)) from rfl, half_splice (Nat.zero_le _) (by omega)] at h
    exact h)
  clear HG2 C1 C2 C3 C4 HC1 HG hmk b1 u1 u2 HM
  go_loopw [8] (fun nv wr => ∃ (n : Nat), nv = .int .i64 (n : Int) ∧ 1 ≤ n ∧ n ≤ O ∧ Hid (Blk wr w.heap.size 3 (half O n).toArray) ∧ Hid (Below w.heap.size w wr)) (fun nv _ => O - (intOf nv).toNat)
  case atStart => exact ⟨1, by go_num, Nat.le_refl _, h1, HR2, HB3⟩
  case round =>
    obtain ⟨n, rfl, hn1, hnO, hR, hB⟩ := hrel
    by_cases hlt : n < O
    · have i1 : (n : Int) < (O : Int) := by omega
      obtain ⟨m, hm⟩ : ∃ m, Nat.min n (O - n) = m := ⟨_, rfl⟩
      have hm' : m ≤ n ∧ m ≤ O - n ∧ 1 ≤ m := by rw [← hm]; simp [Nat.min_def]; split <;> omega
      have s1 := fun W => sl_from W w.heap.size 0 O O n hnO hlt
      have s2 := fun W => sl_to W w.heap.size 0 O O n hnO
      rw [Nat.zero_add] at s1
      have j1 : IntKind.i64.wrap ((n : Int) + (m : Int)) = (n : Int) + (m : Int) := by rw [IntKind.wrap_i64]; omega
      have D1 : Hid ((List.replicate m (Value.int .i64 (-1))).length = Nat.min n (O - n)) := Lib.hid (by rw [hm]; simp)
      have D2 : Hid (∀ j v, (List.replicate m (Value.int .i64 (-1)))[j]? = some v → wr.drew.cell? ((⟨w.heap.size, 0, none⟩ : Addr).add j) = some v) := Lib.hid (fun j v hv => by
        obtain ⟨h3, h4⟩ := List.getElem?_eq_some_iff.1 hv
        simp at h3 h4
        subst h4
        have e : (⟨w.heap.size, 0, none⟩ : Addr).add j = ⟨w.heap.size, j, none⟩ := by unfold Addr.add; split <;> simp_all
        rw [e]
        refine (hR.out.drew.cell j).trans ?_
        have : j < n := by omega
        simp [half, List.getElem?_append, this])
      have D3 : Hid (n + (List.replicate m (Value.int .i64 (-1))).length ≤ (half O n).length) := Lib.hid (by rw [half_len hnO]; simp; omega)
      have D4 : Hid (∀ v ∈ List.replicate m (Value.int .i64 (-1)), v.oneCell' = true) := Lib.hid (by simp [Value.oneCell'])
      have HMm := Lib.hid hm'
      have HIs : Hid ((Try.prog.info? 3).map (·.size) = some 1) := Lib.hid (by kernel_rfl)
      have HJ1 := Lib.hid j1
      have DG : Hid (wr.drew.heap[w.heap.size]? = some (.cells (half O n).toArray 3 (0, 0))) := Lib.hid (hR.out.drew)
      have DB : Hid (Below w.heap.size w wr.drew) := Lib.hid (below_drewN hB.out 1)
      have HL : Hid (goInt (List.replicate m (Value.int .i64 (-1))).length = .int .i64 (m : Int)) := Lib.hid (by simp [goInt])
      clear hm hm' b0
      go_wp2
      go_region_law (refine step_copy_splice rfl (.tmp 41) (.tmp 44) 33 33 rfl 3 Try.underlying33 HIs.out (some ⟨w.heap.size, n, none⟩) (some ⟨w.heap.size, 0, none⟩) (O - n) (O - n) n O (by simp [Act.eval, Act.put]) (by simp [Act.eval, Act.put]) w.heap.size n (half O n) 3 DG.out (List.replicate m (Value.int .i64 (-1))) D1.out (fun _ => ⟨rfl, _, rfl, D2.out⟩) D3.out D4.out w.heap.size w DB.out (Nat.le_refl _) ?_; intro w5 hg5 hb5; rw [HL.out])
      have HB5 := Lib.hid hb5
      have HR5 : Hid (Blk w5 w.heap.size 3 (half O (n + m)).toArray) := Lib.hid (by
        have h := hg5.out
        rw [half_splice hnO HMm.out.2.1] at h
        exact h)
      clear hg5 hb5
      simp [Act.put]
      go_roundw
      case rel => exact ⟨.int .i64 ((n : Int) + (m : Int)), _, _, _, _, _, _, _, _, _, _, _, _, _, ⟨n + m, by simp, by omega, by have := HMm.out; omega, HR5, HB5⟩, rfl⟩
      case measure => have := HMm.out; simp [intOf]; omega
    · obtain rfl : n = O := by omega
      have i1 : ¬ (n : Int) < (n : Int) := by omega
      clear hlt hnO hn1 b0
      go_wp2
      go_ret
      exact ⟨w.heap.size, rfl, Nat.le_refl _, by rw [← half_all]; exact hR.out, hB.out⟩
end Go.Proofs.Ytakeodnebegbhaa
