/-
  The document's own epoch (layer 13): what is given back, what waits.
-/
import Derived.Test.YtakeodnebegbhaaEpD
namespace Go.Proofs.Ytakeodnebegbhaa
open Go.RowKit
set_option linter.unusedVariables false

/-- What is given back of n, when those from lo to hi are to be. -/
def pE (lo hi n : Nat) : Nat := max lo (min n hi)
theorem EpD0.set_gv {w : World} {d gA gG gI lo : Nat} {all ins : List Int} (h : EpD0 w d gA gG gI all lo ins) (hl : lo < all.length) : EpD0 (w.setCell ⟨gG, lo, none⟩ (.bool true)) d gA gG gI all (lo + 1) ins := by
  obtain ⟨cA, cG, cI, k1, k2, k3, k4, k5, k6⟩ := h
  have hT : Tch w (w.setCell ⟨gG, lo, none⟩ (.bool true)) [gG] := (Tch.refl w [gG]).set_ (p := ⟨gG, lo, none⟩) (by simp) _
  refine ⟨cA, cG, cI, hT.blk k1 (nin1 k5.2.1), hT.own k2 (nown (w := w) (nin1 k5.2.2.2.1)), ?_, hT.own k4 (nown (w := w) (nin1 k5.2.2.2.2.2.symm)), k5, k6⟩
  rw [← gvE_set hl]
  exact own_set1 k3 hl _
/-- What an append onto a row of the call's own, made behind B, leaves: everything below B. -/
theorem tch_app {w w5 : World} {S0 : Nat} {o : Obj} {t : TypeId} {v : Value} {n : Nat} {xs : List Value} (hg : (w.alloc o).grownBy w5 v.ownBlock) (ho : (w.alloc o).ownsRow S0 t 1 v n xs) :
    ∃ S, Tch w w5 S ∧ ∀ s ∈ S, S0 ≤ s := by
  refine ⟨match v.ownBlock with | some k => [k] | none => [], ?_, fun s hs => ?_⟩
  · have h1 : Tch (w.alloc o) w5 (match v.ownBlock with | some k => [k] | none => []) := Tch.of_grown' hg (fun g e => by rw [e]; simp)
    exact ((Tch.refl w _).alloc o).trans h1
  · cases e : v.ownBlock with
    | none => rw [e] at hs; cases hs
    | some k => rw [e] at hs; rw [List.mem_singleton.1 hs]; exact own_basek ho k e
theorem EpD0.tch_own {w w' : World} {S0 d gA gG gI lo : Nat} {all ins : List Int} (h : EpD0 w d gA gG gI all lo ins) (ht : ∃ S, Tch w w' S ∧ ∀ s ∈ S, S0 ≤ s) (h1 : d < S0) (h2 : gA < S0) (h3 : gG < S0) (h4 : gI < S0) : EpD0 w' d gA gG gI all lo ins := by
  obtain ⟨S, ht, hs⟩ := ht
  exact h.tch ht (fun hm => by have := hs _ hm; omega) (fun hm => by have := hs _ hm; omega) (fun hm => by have := hs _ hm; omega) (fun hm => by have := hs _ hm; omega)
/-- What is done behind the first world's end is nothing to it. -/
theorem Tch.trans_own {w w' w'' : World} {S : List Nat} (h : Tch w w' S) (ht : ∃ T, Tch w' w'' T ∧ ∀ s ∈ T, w.heap.size ≤ s) : Tch w w'' S := by
  obtain ⟨T, ht, hs⟩ := ht
  exact ⟨ht.os.trans h.os, ht.tape.trans h.tape, ht.output.trans h.output, Nat.le_trans h.size ht.size, fun k hk hn => (ht.block k (Nat.lt_of_lt_of_le hk h.size) (fun hm => by have := hs _ hm; omega)).trans (h.block k hk hn)⟩
set_option maxRecDepth 100000 in
set_option maxHeartbeats 4000000 in
theorem rback_any (d gA gG gI : Nat) (all : List Int) (lo : Nat) (ins : List Int) (hl : all.length ≤ 100000) (hlo : lo ≤ lowE all ins) (w : World) (h : EpD0 w d gA gG gI all lo ins) :
    Calls Try.prog 28 #[.pointer (some ⟨d, 0, none⟩)] w fun e w' => ∃ A c, e = .returned (.slice A (bkE all lo (lowE all ins)).length c) ∧
      w'.ownsRow w.heap.size 3 1 (.slice A (bkE all lo (lowE all ins)).length c) (bkE all lo (lowE all ins)).length (ints (bkE all lo (lowE all ins))) ∧ EpD0 w' d gA gG gI all (lowE all ins) ins ∧ Tch w w' [gG] := by
  have HI := Lib.hid h.inv
  have HLt := Lib.hid h.lt
  have hhi : lowE all ins ≤ all.length - 1 := lowE_le _ _
  have HW := Lib.hid (fun n (hn : n < all.length - 1) => waitE_lo (l := ins) hn)
  have HLow : Hid (loE ins (all.length - 1) = lowE all ins) := Lib.hid rfl
  obtain ⟨hi, hhe⟩ : ∃ hi, lowE all ins = hi := ⟨_, rfl⟩
  rw [hhe] at hlo hhi HLow ⊢
  have hone := h.inv.one
  have HNe : Hid (d ≠ gA ∧ d ≠ gG ∧ d ≠ gI ∧ gA ≠ gG ∧ gA ≠ gI ∧ gG ≠ gI) := by
    obtain ⟨cA, cG, cI, k1, k2, k3, k4, k5, k6⟩ := h
    exact Lib.hid k5
  have hf := h.inv.few
  have HD0 := Lib.hid h
  clear hhe h
  go_enter Try.func28, Try.ntmps28
  go_wp2
  go_loopw [3, 4] (fun ov nv wr => ∃ (n : Nat) (A : Option Addr) (c : Nat), ov = .slice A (pE lo hi n - lo) c ∧ nv = .int .i64 (n : Int) ∧ n + 1 ≤ all.length ∧ Hid (wr.ownsRow w.heap.size 3 1 (.slice A (pE lo hi n - lo) c) (pE lo hi n - lo) (ints (bkE all lo (pE lo hi n)))) ∧
    Hid (EpD0 wr d gA gG gI all (pE lo hi n) ins) ∧ Hid (Tch w wr [gG])) (fun _ nv _ => all.length - (intOf nv).toNat)
  case atStart => exact ⟨0, none, 0, by simp [pE], rfl, hone, Lib.hid (by simp [pE, bkE]; exact ⟨rfl, .inl ⟨rfl, rfl⟩⟩), by simpa [pE] using HD0, Lib.hid (Tch.refl _ _)⟩
  case round =>
    obtain ⟨n, A, c, rfl, rfl, hn, hO, hD, hT⟩ := hrel
    obtain ⟨cA, cG, cI, k1, k2, k3, k4, k5, k6⟩ := hD.out
    have c0 := (k1.cell 0).trans (show _ = some (Value.slice (some ⟨gA, 0, none⟩) all.length cA) by rfl)
    have c1 := (k1.cell 1).trans (show _ = some (Value.slice (some ⟨gG, 0, none⟩) all.length cG) by rfl)
    have c2 := (k1.cell 2).trans (show _ = some (Value.slice (some ⟨gI, 0, none⟩) ins.length cI) by rfl)
    have j1 : IntKind.i64.wrap ((n : Int) + 1) = (n : Int) + 1 := by rw [IntKind.wrap_i64]; omega
    obtain ⟨L, hL⟩ : ∃ L, all.length = L := ⟨_, rfl⟩
    obtain ⟨R, hR⟩ : ∃ R, ins.length = R := ⟨_, rfl⟩
    have HLL := Lib.hid hL
    have HRR := Lib.hid hR
    have HLl := Lib.hid hl
    rw [hL] at c0 c1 hn hl hhi
    rw [hR] at c2 hf
    have HLow2 := HLow
    by_cases hlt : n + 1 < L
    · have i1 : (n : Int) + 1 < (L : Int) := by omega
      have n0 : (0 : Int) ≤ (n : Int) := by omega
      have n1 : (n : Int) < (L : Int) := by omega
      clear hL hR
      go_wp2
      go_loop [5, 6] (fun bv jv => ∃ (j : Nat) (b : Bool), bv = .bool b ∧ jv = .int .i64 (j : Int) ∧ j ≤ R ∧ Hid (waitE (ins.take j) n = b)) (fun _ jv => R - (intOf jv).toNat)
      case atStart => exact ⟨0, false, rfl, rfl, Nat.zero_le _, Lib.hid (by simp [waitE])⟩
      case round =>
        obtain ⟨j, b, rfl, rfl, hj, hb⟩ := hrel
        by_cases hjR : j < R
        · obtain ⟨x, hx⟩ : ∃ x, ins[j]? = some x := ⟨_, List.getElem?_eq_getElem (by have := HRR.out; omega)⟩
          have e3 := own_cell k4 (ints_at hx)
          have HX := Lib.hid (waitE_take (n := n) hx)
          have j2 : IntKind.i64.wrap ((j : Int) + 1) = (j : Int) + 1 := by rw [IntKind.wrap_i64]; omega
          have jR : (j : Int) < (R : Int) := by omega
          have j0 : (0 : Int) ≤ (j : Int) := by omega
          clear hx
          cases b with
          | true =>
            go_wp2
            go_round
            case rel => exact ⟨j + 1, true, rfl, by go_num, hjR, Lib.hid (by rw [HX.out, hb.out]; rfl)⟩
            case measure => have := HLL.out; simp [intOf]; omega
          | false =>
            by_cases x0 : 0 ≤ x
            · by_cases xn : x ≤ (n : Int)
              · go_wp2
                go_round
                case rel => exact ⟨j + 1, true, rfl, by go_num, hjR, Lib.hid (by rw [HX.out, hb.out, decide_eq_true x0, decide_eq_true xn]; rfl)⟩
                case measure => have := HLL.out; simp [intOf]; omega
              · go_wp2
                go_round
                case rel => exact ⟨j + 1, false, rfl, by go_num, hjR, Lib.hid (by rw [HX.out, hb.out, decide_eq_true x0, decide_eq_false xn]; rfl)⟩
                case measure => have := HLL.out; simp [intOf]; omega
            · go_wp2
              go_round
              case rel => exact ⟨j + 1, false, rfl, by go_num, hjR, Lib.hid (by rw [HX.out, hb.out, decide_eq_false x0]; rfl)⟩
              case measure => have := HLL.out; simp [intOf]; omega
        · have jR : ¬ (j : Int) < (R : Int) := by omega
          have hjR' : R = j := by omega
          have hbv := hb.out
          clear hb hjR hj
          have hwn : waitE ins n = decide (hi ≤ n) := by rw [HW.out n (by have := HLL.out; omega), HLow.out]
          rw [show ins.take j = ins by rw [← hjR']; exact List.take_of_length_le (Nat.le_of_eq HRR.out), hwn] at hbv
          subst hbv
          by_cases hhn : hi ≤ n
          · have hq : pE lo hi (n + 1) = pE lo hi n := by unfold pE; omega
            have d1 : decide (hi ≤ n) = true := decide_eq_true hhn
            rw [d1]
            have HQ := Lib.hid hq
            clear hwn hq d1 hhn
            go_wp2
            go_roundw
            case rel => exact ⟨n + 1, A, c, by rw [HQ.out], by go_num, by have := HLL.out; omega, by rw [HQ.out]; exact hO, by rw [HQ.out]; exact hD, hT⟩
            case measure => have := HLL.out; simp [intOf]; omega
          · have d1 : decide (hi ≤ n) = false := decide_eq_false hhn
            rw [d1]
            have hpn : pE lo hi n = max lo n := by unfold pE; omega
            have g3 := own_cell k3 (gvE_at (n := all.length) (lo := pE lo hi n) (k := n) (by have := HLL.out; omega))
            rw [hpn] at g3
            by_cases hln : n < lo
            · have hq : pE lo hi (n + 1) = pE lo hi n := by unfold pE; omega
              rw [decide_eq_true (show n < max lo n by omega)] at g3
              have HQ := Lib.hid hq
              clear hwn hq d1 hhn hln hpn
              go_wp2
              go_roundw
              case rel => exact ⟨n + 1, A, c, by rw [HQ.out], by go_num, by have := HLL.out; omega, by rw [HQ.out]; exact hO, by rw [HQ.out]; exact hD, hT⟩
              case measure => have := HLL.out; simp [intOf]; omega
            · have hq : pE lo hi (n + 1) = n + 1 := by unfold pE; omega
              have hq0 : pE lo hi n = n := by unfold pE; omega
              rw [decide_eq_false (show ¬ n < max lo n by omega)] at g3
              have o3 := own_frozen k3 n
              obtain ⟨z, hz⟩ : ∃ z, all[n]? = some z := ⟨_, List.getElem?_eq_getElem (by have := HLL.out; omega)⟩
              have a3 := own_cell k2 (ints_at hz)
              have HD2 := Lib.hid (EpD0.set_gv (hq0 ▸ hD.out) (by have := HLL.out; omega))
              have b0 := (World.cell?_setCell_far wr ⟨gG, n, none⟩ ⟨d, 0, none⟩ (.bool true) (by show gG ≠ d; exact HNe.out.2.1.symm)).trans c0
              have b3 := (World.cell?_setCell_far wr ⟨gG, n, none⟩ ⟨gA, n, none⟩ (.bool true) (by show gG ≠ gA; exact HNe.out.2.2.2.1.symm)).trans a3
              obtain ⟨K, hK⟩ : ∃ K, pE lo hi n - lo = K := ⟨_, rfl⟩
              have HSz : Hid (K ≤ 900000) := Lib.hid (by rw [← hK, hq0]; have := HLl.out; omega)
              have HSn : Hid (bkE all lo (n + 1) = bkE all lo (pE lo hi n) ++ [z]) := Lib.hid (by rw [hq0]; exact bkE_snoc (by omega) hz)
              have HQ : Hid (pE lo hi (n + 1) = n + 1 ∧ n + 1 - lo = K + 1) := Lib.hid ⟨hq, by rw [← hK, hq0]; omega⟩
              rw [hK] at hO ⊢
              have HT2 : Hid (Tch w (wr.setCell ⟨gG, n, none⟩ (.bool true)) [gG]) := Lib.hid (hT.out.set_ (p := ⟨gG, n, none⟩) (by simp) _)
              have HO2 : Hid (((wr.setCell ⟨gG, n, none⟩ (.bool true)).alloc (.cells #[.int .i64 z] 3)).ownsRow w.heap.size 3 1 (.slice A K c) K (ints (bkE all lo (pE lo hi n)))) :=
                Lib.hid (((((Tch.refl wr [gG]).set_ (p := ⟨gG, n, none⟩) (by simp) (.bool true)).alloc (.cells #[.int .i64 z] 3)).own hO.out (fun k hk => by have := own_basek hO.out k hk; have := HLt.out; simp; omega)))
              have HSrc := Lib.hid (by have h0 := src_new (wr.setCell ⟨gG, n, none⟩ (.bool true)) 3 [.int .i64 z]; rw [World.size_setCell] at h0; exact h0)
              clear hwn hq hq0 d1 hhn hln hpn hz hK
              go_wp2_with (at_builtin; refine wpList_apc 33 3 (.int .i64 0) 1 8 Try.underlying33 infoInt rfl (by decide) (by decide) _ rfl (.tmp 66) (.tmp 74) rfl w.heap.size (.slice A K c) K (ints (bkE all lo (pE lo hi n))) rfl HO2.out ⟨wr.heap.size, 0, none⟩ 1 [.int .i64 z] rfl rfl (fun j u hj => HSrc.out j u hj) (by simp [Value.oneCell']) (by have := HSz.out; omega) (by have := HT2.out.size; simp at this ⊢; omega) ?_; intro v1 w5 hown1 hg1 hv1; obtain ⟨A1, c1', e1, -, -⟩ := own_sl hown1; subst e1; have HO5 := Lib.hid hown1; have HG5 := Lib.hid hg1; clear hown1 hg1 hv1)
              go_roundw
              case rel =>
                have hTn := tch_app (S0 := w.heap.size) HG5.out HO2.out
                have hb : ∀ g, g < w.heap.size → g < (wr.setCell ⟨gG, n, none⟩ (.bool true)).heap.size := fun g hg => by have := hT.out.size; rw [World.size_setCell]; omega
                have hL4 := HLt.out
                refine ⟨n + 1, A1, c1', by rw [HQ.out.1, HQ.out.2], by go_num, by have := HLL.out; omega, by rw [HQ.out.1, HQ.out.2, HSn.out, ints_app]; exact HO5, by rw [HQ.out.1]; exact Lib.hid (HD2.out.tch_own hTn hL4.1 hL4.2.1 hL4.2.2.1 hL4.2.2.2), Lib.hid (HT2.out.trans_own hTn)⟩
              case measure => have := HLL.out; simp [intOf]; omega
    · have hne : n = L - 1 := by omega
      have i1 : ¬ (n : Int) + 1 < (L : Int) := by omega
      have hq : pE lo hi n = hi := by unfold pE; omega
      rw [hq] at hO hD ⊢
      have HB : Hid ((bkE all lo hi).length = hi - lo) := Lib.hid (bkE_len (by omega))
      clear hL hR hq
      go_wp2
      go_ret
      exact ⟨A, c, by rw [HB.out]; rfl, by rw [HB.out]; exact hO.out, hD.out, hT.out⟩
end Go.Proofs.Ytakeodnebegbhaa
