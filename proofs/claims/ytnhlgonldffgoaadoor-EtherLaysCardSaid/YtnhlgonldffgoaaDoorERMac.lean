/-
  The document's own mac, digit, ParseMac and Group.
-/
import Derived.Test.YtnhlgonldffgoaaDoorEPm
import Derived.Test.YtnhlgonldffgoaaDoorERCls
namespace Go.Proofs.YtnhlgonldffgoaaDoor
open Go.RowKit
set_option linter.unusedVariables false

theorem rmac_at (m : Int) {b : Bool} (h : mcB m = b) (w : World) :
    Calls Tryd.prog 67 #[.int .u64 m] w fun e w' => e = .returned (.bool b) ∧ w = w' := by
  have hb : decide (m < 281474976710656) = b := by rw [← h]; unfold mcB; congr 1; exact propext (by omega)
  subst h
  go_enter Tryd.func67, Tryd.ntmps67
  go_wp2
  go_ret
  exact ⟨by rw [← hb]; rfl, rfl⟩

/-- The digits in their order. -/
def lsl : List UInt8 := [48, 49, 50, 51, 52, 53, 54, 55, 56, 57, 97, 98, 99, 100, 101, 102, 65, 66, 67, 68, 69, 70]
theorem lsl_at : ∀ k : Fin 22, xdv (lsl.getD k.val 0) = some (if 15 < k.val then k.val - 6 else k.val) := by decide +kernel
theorem lsl_all : ∀ m : Fin 256, xdv (UInt8.ofNat m.val) = none ∨ ∃ k : Fin 22, lsl.getD k.val 0 = UInt8.ofNat m.val := by decide +kernel
theorem lsl_some {k : Nat} {c : UInt8} (h : lsl[k]? = some c) : k < 22 ∧ xdv c = some (if 15 < k then k - 6 else k) := by
  have hk : k < 22 := (List.getElem?_eq_some_iff.1 h).1
  have := lsl_at ⟨k, hk⟩
  rw [List.getD_eq_getElem?_getD, h] at this
  exact ⟨hk, this⟩
theorem lsl_none {c : UInt8} (h : ∀ k < 22, lsl[k]? ≠ some c) : xdv c = none := by
  rcases lsl_all ⟨c.toNat, UInt8.toNat_lt c⟩ with h1 | ⟨k, hk⟩
  · simpa using h1
  · exfalso
    refine h k.val k.isLt ?_
    have hlt : k.val < lsl.length := k.isLt
    rw [List.getD_eq_getElem?_getD, List.getElem?_eq_getElem hlt] at hk
    rw [List.getElem?_eq_getElem hlt]
    simp at hk
    rw [hk]
set_option maxRecDepth 100000 in
theorem run_lsl' (k : Nat) (hk : k < 22) (w : World) :
    (Instr.index 9 (.string ⟨#[48, 49, 50, 51, 52, 53, 54, 55, 56, 57, 97, 98, 99, 100, 101, 102, 65, 66, 67, 68, 69, 70]⟩) (.int .i64 (k : Int))).run Tryd.prog w = .ok (.int .u8 ((lsl.getD k 0).toNat : Int)) w := by
  rcases (show k = 0 ∨ k = 1 ∨ k = 2 ∨ k = 3 ∨ k = 4 ∨ k = 5 ∨ k = 6 ∨ k = 7 ∨ k = 8 ∨ k = 9 ∨ k = 10 ∨ k = 11 ∨ k = 12 ∨ k = 13 ∨ k = 14 ∨ k = 15 ∨ k = 16 ∨ k = 17 ∨ k = 18 ∨ k = 19 ∨ k = 20 ∨ k = 21 by omega) with rfl | rfl | rfl | rfl | rfl | rfl | rfl | rfl | rfl | rfl | rfl | rfl | rfl | rfl | rfl | rfl | rfl | rfl | rfl | rfl | rfl | rfl
  all_goals kernel_rfl
theorem run_lsl (k : Nat) (v : UInt8) (h : lsl[k]? = some v) (w : World) :
    (Instr.index 9 (.string ⟨#[48, 49, 50, 51, 52, 53, 54, 55, 56, 57, 97, 98, 99, 100, 101, 102, 65, 66, 67, 68, 69, 70]⟩) (.int .i64 (k : Int))).run Tryd.prog w = .ok (.int .u8 (v.toNat : Int)) w := by
  have hk : k < 22 := (List.getElem?_eq_some_iff.1 h).1
  have := run_lsl' k hk w
  rwa [List.getD_eq_getElem?_getD, h] at this
/-- What the document's digit answers. -/
def digR (c : UInt8) : Int := match xdv c with | some d => (d : Int) | none => -1
set_option maxRecDepth 100000 in
set_option maxHeartbeats 2000000 in
theorem rdigit_any (c : UInt8) (w : World) :
    Calls Tryd.prog 78 #[.int .u8 (c.toNat : Int)] w fun e w' => e = .returned (.int .i64 (digR c)) ∧ w = w' := by
  have hcb := UInt8.toNat_lt c
  go_enter Tryd.func78, Tryd.ntmps78
  go_wp2
  go_loop [4] (fun i => ∃ k : Nat, k ≤ 22 ∧ i = .int .i64 (k : Int) ∧ Hid (∀ j < k, lsl[j]? ≠ some c)) (fun i => 22 - (intOf i).toNat)
  case atStart => exact ⟨0, by decide, rfl, Lib.hid (fun j h => by omega)⟩
  case round =>
    obtain ⟨k, hk, rfl, hh⟩ := hrel
    by_cases hlt : k < 22
    · obtain ⟨v, hv⟩ : ∃ v, lsl[k]? = some v := ⟨_, List.getElem?_eq_getElem hlt⟩
      have hix := fun W => run_lsl k v hv W
      have hvb := UInt8.toNat_lt v
      have hk1 : (k : Int) < 22 := by omega
      have HV := Lib.hid hv
      clear hv
      by_cases hvc : v = c
      · subst hvc
        obtain ⟨-, hx⟩ := lsl_some HV.out
        have HX := Lib.hid hx
        clear hx
        by_cases h15 : 15 < k
        · have h151 : (15 : Int) < k := by omega
          go_wp2
          go_ret
          exact ⟨ret_k (by unfold digR; rw [HX.out, if_pos h15]; simp only; omega), rfl⟩
        · have h151 : ¬ (15 : Int) < k := by omega
          go_wp2
          go_ret
          exact ⟨ret_k (by unfold digR; rw [HX.out, if_neg h15]), rfl⟩
      · have hne : ¬ (v.toNat : Int) = c.toNat := fun e => hvc (UInt8.toNat_inj.1 (by omega))
        have HN : Hid (∀ j < k + 1, lsl[j]? ≠ some c) := Lib.hid (fun j hj => by
          rcases Nat.lt_or_eq_of_le (Nat.le_of_lt_succ hj) with h | rfl
          · exact hh.out j h
          · rw [HV.out]; intro e; injection e with e; exact hvc e)
        clear hh
        go_wp2
        go_round
        case rel => exact ⟨k + 1, by omega, by go_num, HN⟩
        case measure => simp [intOf]; omega
    · obtain rfl : k = 22 := by omega
      have HX := Lib.hid (lsl_none hh.out)
      clear hh
      go_wp2
      go_ret
      exact ⟨ret_k (by unfold digR; rw [HX.out]), rfl⟩

theorem digR_some {c : UInt8} {d : Nat} (h : xdv c = some d) : digR c = (d : Int) := by unfold digR; rw [h]
theorem digR_none {c : UInt8} (h : xdv c = none) : digR c = -1 := by unfold digR; rw [h]
set_option maxRecDepth 100000 in
set_option maxHeartbeats 2000000 in
theorem rparseMac_any (s : ByteArray) (w : World) :
    Calls Tryd.prog 39 #[.string s] w fun e w' => e = .returned (pmV s) ∧ w = w' := by
  by_cases hs : s.size = 17
  · have HS := Lib.hid hs
    have hs1 : (s.size : Int) = 17 := by omega
    clear hs
    go_enter Tryd.func39, Tryd.ntmps39
    go_wp2
    clear hs1
    go_loop [4, 5] (fun m i => ∃ k a : Nat, k ≤ 17 ∧ i = .int .i64 (k : Int) ∧ m = .int .i64 (a : Int) ∧ Hid (a < 16 ^ (k - k / 3) ∧ pmF 0 s.data.toList 0 = pmF k (s.data.toList.drop k) a)) (fun _ i => 17 - (intOf i).toNat)
    case atStart => exact ⟨0, 0, by decide, rfl, rfl, Lib.hid ⟨by decide, by simp⟩⟩
    case round =>
      obtain ⟨k, a, hk, rfl, rfl, hh⟩ := hrel
      by_cases hlt : k < 17
      · have hp : k < s.size := by have := HS.out; omega
        have hp1 : (k : Int) < s.size := by omega
        have hk1 : (k : Int) < 17 := by omega
        have hdb := drop_byte s k hp
        obtain ⟨c, hc⟩ : ∃ c, s[k] = c := ⟨_, rfl⟩
        have hcb := UInt8.toNat_lt c
        rw [hc] at hdb
        obtain ⟨h2, h3⟩ := hh.out
        rw [hdb] at h3
        obtain ⟨R, hR⟩ : ∃ R, s.data.toList.drop (k + 1) = R := ⟨_, rfl⟩
        rw [hR] at h3
        have HR := Lib.hid hR
        by_cases hm : k % 3 = 2
        · have hm1 : (k : Int) % 3 = 2 := by omega
          by_cases hcol : c = 58
          · have hc1 : (c.toNat : Int) = 58 := by rw [hcol]; rfl
            have HN : Hid (a < 16 ^ ((k + 1) - (k + 1) / 3) ∧ pmF 0 s.data.toList 0 = pmF (k + 1) (s.data.toList.drop (k + 1)) a) := Lib.hid ⟨pm_same h2 hm, by rw [h3, HR.out, hcol, pmF_mark hm]⟩
            clear hh h2 h3 hdb hR hcol
            go_wp2
            go_round
            case rel => exact ⟨k + 1, a, by omega, by go_num, rfl, HN⟩
            case measure => simp [intOf]; omega
          · have e58 : (58 : UInt8).toNat = 58 := rfl
            have hc1 : ¬ (c.toNat : Int) = 58 := fun e => hcol (UInt8.toNat_inj.1 (by omega))
            have HN : Hid (pmV s = .tuple #[.int .u64 0, .int .i64 40]) := Lib.hid (pmV_none HS.out (by rw [h3, pmF_bad hm hcol]))
            clear hh h2 h3 hdb hR e58 hcol
            go_wp2
            go_ret2
            exact ⟨by rw [HN.out]; rfl, rfl⟩
        · have hm1 : ¬ (k : Int) % 3 = 2 := by omega
          cases hx : xdv c with
          | none =>
            have HD := Lib.hid (fun W => by have := rdigit_any c W; rw [digR_none hx] at this; exact this)
            have HN : Hid (pmV s = .tuple #[.int .u64 0, .int .i64 40]) := Lib.hid (pmV_none HS.out (by rw [h3, pmF_none hm hx]))
            clear hh h2 h3 hdb hR hx
            go_wp2_with fail
            refine Calls.mono (HD.out _) ?_
            rintro e w1 ⟨rfl, rfl⟩
            go_wp2
            go_ret2
            exact ⟨by rw [HN.out]; rfl, rfl⟩
          | some d =>
            have hd := xdv_lt hx
            have HD := Lib.hid (fun W => by have := rdigit_any c W; rw [digR_some hx] at this; exact this)
            have ha := pm_bd2 h2 hlt hm
            obtain ⟨M, hM1, hM2⟩ : ∃ M : Int, (a : Int) ≤ M ∧ M ≤ 17592186044416 := ⟨17592186044416, by omega, Int.le_refl _⟩
            have ha2 : 16 * (a : Int) + (d : Int) ≤ 9223372036854775807 := by omega
            have ha3 : 16 * (a : Int) ≤ 9223372036854775807 := by omega
            have ha4 : 0 ≤ 16 * (a : Int) := by omega
            clear hM1 hM2
            have HN : Hid (a * 16 + d < 16 ^ ((k + 1) - (k + 1) / 3) ∧ pmF 0 s.data.toList 0 = pmF (k + 1) (s.data.toList.drop (k + 1)) (a * 16 + d)) := Lib.hid ⟨pm_grow h2 hd hm, by rw [h3, HR.out, pmF_digit hm hx]⟩
            clear hh h2 h3 hdb hR hx ha
            go_wp2_with fail
            refine Calls.mono (HD.out _) ?_
            rintro e w1 ⟨rfl, rfl⟩
            go_wp2
            go_round
            case rel => exact ⟨k + 1, a * 16 + d, by omega, by go_num, by congr 1; omega, HN⟩
            case measure => simp [intOf]; omega
      · obtain rfl : k = 17 := by omega
        obtain ⟨h2, h3⟩ := hh.out
        have ha := pm_bd h2 (Nat.le_refl _)
        have ha2 : (a : Int) < 281474976710656 := by omega
        have HN : Hid (pmV s = .tuple #[.int .u64 (a : Int), .int .i64 0]) := Lib.hid (pmV_some HS.out (by
          rw [h3, List.drop_eq_nil_of_le (by rw [Array.length_toList]; exact Nat.le_of_eq HS.out)]; rfl))
        clear hh h2 h3 ha
        go_wp2
        go_ret2
        exact ⟨by rw [HN.out]; rfl, rfl⟩
  · have HN : Hid (pmV s = .tuple #[.int .u64 0, .int .i64 40]) := Lib.hid (by unfold pmV; rw [if_neg hs])
    have hs1 : ¬ (s.size : Int) = 17 := by omega
    clear hs
    go_enter Tryd.func39, Tryd.ntmps39
    go_wp2
    go_ret2
    exact ⟨by rw [HN.out]; rfl, rfl⟩

theorem grp_val' (s : Bool) (h l : Int) {c : Int} (hc : clsV s h l = c) : grpV s h l = if c = 4 then 281474976710655 else if c = 3 then (if s = true then 56294136348672 + l % 4294967296 else 1101088686080 + l % 8388608) else 0 := by
  unfold grpV; rw [hc]
set_option maxRecDepth 100000 in
set_option maxHeartbeats 2000000 in
theorem rgroup_any (s : Bool) (h l : Int) (hh : U6 h) (hl : U6 l) (w : World) :
    Calls Tryd.prog 43 #[adr s h l] w fun e w' => e = .returned (.int .u64 (grpV s h l)) ∧ Below w.heap.size w w' := by
  obtain ⟨c, hc⟩ : ∃ c, clsV s h l = c := ⟨_, rfl⟩
  have HC := Lib.hid (fun W => rclass_at s h l hh hl hc W)
  obtain ⟨G, hG⟩ : ∃ G, grpV s h l = G := ⟨_, rfl⟩
  have HG := Lib.hid (show G = _ from hG.symm.trans (grp_val' s h l hc))
  rw [hG]
  obtain ⟨l0, l1⟩ := hl
  clear hG hc hh
  have HF : Hid (∀ w1, Below (w.alloc (.cells #[.bool s, .int .u64 h, .int .u64 l] 25)).heap.size (w.alloc (.cells #[.bool s, .int .u64 h, .int .u64 l] 25)) w1 → (w1.cell? ⟨w.heap.size, 0, none⟩ = some (.bool s) ∧ w1.cell? ⟨w.heap.size, 1, none⟩ = some (.int .u64 h) ∧ w1.cell? ⟨w.heap.size, 2, none⟩ = some (.int .u64 l)) ∧ Below w.heap.size w w1) :=
    Lib.hid fun w1 hb => ⟨((Blk.new w 25 _).below hb (by simp only [World.size_alloc]; omega)).c3, ((Below.refl _ w).alloc (Nat.le_refl _) _).trans (hb.mono (by simp only [World.size_alloc]; omega))⟩
  by_cases c4 : c = 4
  · have HV : Hid (G = 281474976710655) := Lib.hid (by rw [HG.out, if_pos c4])
    go_enter Tryd.func43, Tryd.ntmps43
    go_wp2_with fail
    refine Calls.mono (HC.out _) ?_
    rintro e w1 ⟨rfl, hb⟩
    have L1 := (HF.out w1 hb).2
    clear hb
    go_wp2
    go_ret
    exact ⟨ret_k HV.out.symm, L1⟩
  · by_cases c3 : c = 3
    · subst c3
      cases s
      · have HV : Hid (G = 1101088686080 + l % 8388608) := Lib.hid (by rw [HG.out, if_neg (by decide), if_pos rfl, if_neg (by decide)])
        go_enter Tryd.func43, Tryd.ntmps43
        go_wp2_with fail
        refine Calls.mono (HC.out _) ?_
        rintro e w1 ⟨rfl, hb⟩
        obtain ⟨⟨f1, f2, f3⟩, L1⟩ := HF.out w1 hb
        clear hb
        go_wp2
        go_ret
        exact ⟨ret_k HV.out.symm, L1⟩
      · have HV : Hid (G = 56294136348672 + l % 4294967296) := Lib.hid (by rw [HG.out, if_neg (by decide), if_pos rfl, if_pos rfl])
        go_enter Tryd.func43, Tryd.ntmps43
        go_wp2_with fail
        refine Calls.mono (HC.out _) ?_
        rintro e w1 ⟨rfl, hb⟩
        obtain ⟨⟨f1, f2, f3⟩, L1⟩ := HF.out w1 hb
        clear hb
        go_wp2
        go_ret
        exact ⟨ret_k HV.out.symm, L1⟩
    · have HV : Hid (G = 0) := Lib.hid (by rw [HG.out, if_neg c4, if_neg c3])
      go_enter Tryd.func43, Tryd.ntmps43
      go_wp2_with fail
      refine Calls.mono (HC.out _) ?_
      rintro e w1 ⟨rfl, hb⟩
      have L1 := (HF.out w1 hb).2
      clear hb
      go_wp2
      go_ret
      exact ⟨ret_k HV.out.symm, L1⟩
end Go.Proofs.YtnhlgonldffgoaaDoor
