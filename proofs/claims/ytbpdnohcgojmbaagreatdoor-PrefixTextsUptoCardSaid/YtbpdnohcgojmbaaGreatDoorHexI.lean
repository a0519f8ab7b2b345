/-
  strconv.ParseUint of at most four bytes in base 16, for 16 bits; and of any bytes in base 10, for 8 bits.
-/
import Derived.Test.YtbpdnohcgojmbaaGreatDoorFmt
import Derived.Lib.ConvBytes
import Derived.Lib.AtoiErrMem
namespace Go.Proofs.YtbpdnohcgojmbaaGreatDoor
open Go.RowKit
set_option linter.unusedVariables false

/-- What a digit in base 16 stands for. -/
def hexv (c : UInt8) : Option Nat :=
  if 48 ≤ c.toNat ∧ c.toNat ≤ 57 then some (c.toNat - 48) else if 97 ≤ c.toNat ∧ c.toNat ≤ 102 then some (c.toNat - 87) else if 65 ≤ c.toNat ∧ c.toNat ≤ 70 then some (c.toNat - 55) else none
def hexFrom : Nat → List UInt8 → Option Nat
  | acc, [] => some acc
  | acc, c :: r => match hexv c with
    | some d => hexFrom (acc * 16 + d) r
    | none => none
/-- What a group's text stands for. -/
def hexw (l : List UInt8) : Option Nat := if l = [] ∨ 4 < l.length then none else hexFrom 0 l
def hexTup : Option Nat → Value
  | some v => .tuple #[.int .u64 v, .nilIface]
  | none => .tuple #[.int .u64 0, .iface 106 (.int .i64 2)]
theorem hexv_lt {c : UInt8} {d : Nat} (h : hexv c = some d) : d < 16 := by
  unfold hexv at h
  repeat (first | (cases h; done) | (cases h; omega) | (split at h))
/-- How the library sees a byte: lower-case'd. -/
theorem or_u8 (n : Nat) (h : n < 256) : bits BinOp.or .u8 (n : Int) 32 = ((n ||| 32 : Nat) : Int) := by
  have e : ∀ m : Fin 256, bits BinOp.or .u8 ((m.val : Nat) : Int) 32 = ((m.val ||| 32 : Nat) : Int) := by decide +kernel
  exact e ⟨n, h⟩
theorem hex_let (n : Nat) (h : n < 256) (hd : ¬ (48 ≤ n ∧ n ≤ 57)) :
    (∃ d, hexv (UInt8.ofNat n) = some d ∧ 97 ≤ (n ||| 32) ∧ (n ||| 32) ≤ 102 ∧ (n ||| 32) - 87 = d) ∨ (hexv (UInt8.ofNat n) = none ∧ ((n ||| 32) < 97 ∨ 102 < (n ||| 32))) := by
  have e : ∀ m : Fin 256, ¬ (48 ≤ m.val ∧ m.val ≤ 57) → (hexv (UInt8.ofNat m.val) = some ((m.val ||| 32) - 87) ∧ 97 ≤ (m.val ||| 32) ∧ (m.val ||| 32) ≤ 102) ∨ (hexv (UInt8.ofNat m.val) = none ∧ ((m.val ||| 32) < 97 ∨ 102 < (m.val ||| 32))) := by decide +kernel
  rcases e ⟨n, h⟩ hd with ⟨h1, h2, h3⟩ | h1
  · exact .inl ⟨_, h1, h2, h3, rfl⟩
  · exact .inr h1

set_option maxRecDepth 100000 in
set_option maxHeartbeats 4000000 in
theorem pu16i (t : ByteArray) (h0 : t.size ≠ 0) (h4 : t.size ≤ 4) (w : World) :
    Calls Tryz.prog 60 #[.string t, .int .i64 16, .int .i64 16] w fun e w' => e = .returned (hexTup (hexFrom 0 t.data.toList)) ∧ Lib.bytesWorld w 5 t = w' := by
  have hne : t.data.toList ≠ [] := fun h => h0 (by rw [Lib.size_eq, h]; rfl)
  have hemp : t.toList.isEmpty = false := by rw [Lib.toList_data]; exact List.isEmpty_eq_false_iff.2 hne
  have hcv := Lib.run_convert_string_bytes (P := Tryz.prog) w 9 71 5 t Tryz.underlying9 Tryz.underlying71 Tryz.underlying5
  have HC := Lib.hid (Lib.bytesWorld_cell w 5 t)
  obtain ⟨W, hW⟩ : ∃ W, W = Lib.bytesWorld w 5 t := ⟨_, rfl⟩
  rw [← hW] at hcv HC ⊢
  obtain ⟨cap, hcap⟩ : ∃ cap, cap = grownCap w t.size 0 5 := ⟨_, rfl⟩
  rw [← hcap] at hcv
  have hlen := Lib.hid (Lib.size_eq t)
  obtain ⟨V, hV⟩ : ∃ V, hexTup (hexFrom 0 t.data.toList) = V := ⟨_, rfl⟩
  rw [hV]
  have HV := Lib.hid hV
  clear hW hcap hV
  go_enter Tryz.func60, Tryz.ntmps60
  go_wp2
  go_loop [12, 13, 101] (fun vu vn vi => ∃ (k acc : Nat) (a : Int), vu = .bool false ∧ vn = .int .u64 a ∧ vi = .int .i64 k ∧ k ≤ t.size ∧ Hid (a = (acc : Int) ∧ acc < 16 ^ k ∧ hexFrom 0 t.data.toList = hexFrom acc (t.data.toList.drop k)))
    (fun _ _ vi => t.size - (intOf vi).toNat)
  case atStart => exact ⟨0, 0, 0, rfl, rfl, rfl, by omega, rfl, by decide, rfl⟩
  case round =>
    obtain ⟨k, acc, a, rfl, rfl, rfl, hk, hh⟩ := hrel
    obtain ⟨ha, hacc, hdec⟩ := hh.out
    clear hh
    by_cases hkn : k < t.size
    · have hc := HC.out k hkn
      have hkl : k < t.data.toList.length := by rw [← hlen.out]; exact hkn
      have hdrop : t.data.toList.drop k = t.data.toList[k]'hkl :: t.data.toList.drop (k + 1) := List.drop_eq_getElem_cons hkl
      have hget : t.data.toList.getD k 0 = t.data.toList[k]'hkl := by simp [List.getD, List.getElem?_eq_getElem hkl]
      rw [hdrop] at hdec
      rw [hget] at hc
      generalize t.data.toList[k]'hkl = c at hc hdec
      have hc256 : c.toNat < 256 := c.toNat_lt
      have hp : 16 ^ k ≤ 16 ^ 3 := Nat.pow_le_pow_right (by decide) (by omega)
      have a0 : 0 ≤ a := by omega
      have a1 : a ≤ 4095 := by omega
      have hps : 16 ^ (k + 1) = 16 ^ k * 16 := Nat.pow_succ ..
      clear hdrop hget hkl
      by_cases hdig : 48 ≤ c.toNat ∧ c.toNat ≤ 57
      · obtain ⟨hd0, hd1⟩ := hdig
        have hF : hexFrom acc (c :: t.data.toList.drop (k + 1)) = hexFrom (acc * 16 + (c.toNat - 48)) (t.data.toList.drop (k + 1)) := by simp [hexFrom, hexv, hd0, hd1]
        have HN : Hid (a * 16 + ((c.toNat : Int) - 48) = ((acc * 16 + (c.toNat - 48) : Nat) : Int) ∧ acc * 16 + (c.toNat - 48) < 16 ^ (k + 1) ∧ hexFrom 0 t.data.toList = hexFrom (acc * 16 + (c.toNat - 48)) (t.data.toList.drop (k + 1))) := Lib.hid ⟨by omega, by omega, hdec.trans hF⟩
        clear hF hdec ha hacc hp hps
        go_wp2
        refine ⟨⟨k + 1, acc * 16 + (c.toNat - 48), a * 16 + ((c.toNat : Int) - 48), rfl, (by first | rfl | (congr 1; omega)), (by first | rfl | (congr 1; omega)), by omega, HN⟩, by simp [intOf]; omega⟩
      · obtain ⟨L, hL⟩ : ∃ L : Nat, c.toNat ||| 32 = L := ⟨_, rfl⟩
        have hor := or_u8 c.toNat hc256
        rw [hL] at hor
        have hlet := hex_let c.toNat hc256 hdig
        rw [hL, UInt8.ofNat_toNat] at hlet
        have hL256 : L < 256 := by rw [← hL]; exact Nat.or_lt_two_pow (n := 8) (by omega) (by omega)
        have HLow := Lib.hid (fun W' => Tryz.internal_strconv_lower (c.toNat : Int) W')
        rw [hor] at HLow
        have h95 : c.toNat = 95 → L = 127 := fun e => by rw [e] at hL; exact hL.symm
        clear hor hL
        have hdig' : ¬ (48 ≤ (c.toNat : Int) ∧ (c.toNat : Int) ≤ 57) := by omega
        clear hdig
        rcases hlet with ⟨d, hd, hl0, hl1, hld⟩ | ⟨hd, hl⟩
        · have n95 : ¬ (c.toNat : Int) = 95 := fun e => by have := h95 (by omega); omega
          clear h95
          have hF : hexFrom acc (c :: t.data.toList.drop (k + 1)) = hexFrom (acc * 16 + d) (t.data.toList.drop (k + 1)) := by simp [hexFrom, hd]
          have HN : Hid (a * 16 + ((L : Int) - 97 + 10) = ((acc * 16 + d : Nat) : Int) ∧ acc * 16 + d < 16 ^ (k + 1) ∧ hexFrom 0 t.data.toList = hexFrom (acc * 16 + d) (t.data.toList.drop (k + 1))) := Lib.hid ⟨by omega, by omega, hdec.trans hF⟩
          clear hF hdec ha hacc hp hps hd hld
          by_cases hlo : c.toNat < 48
          · have h1 : ¬ 48 ≤ (c.toNat : Int) := by omega
            clear hdig' hlo
            go_wp2_with (go_at_call 76; refine (HLow.out _).mono ?_; rintro e w' ⟨rfl, rfl⟩)
            refine ⟨⟨k + 1, acc * 16 + d, a * 16 + ((L : Int) - 97 + 10), rfl, (by first | rfl | (congr 1; omega)), (by first | rfl | (congr 1; omega)), by omega, HN⟩, by simp [intOf]; omega⟩
          · have h1 : 48 ≤ (c.toNat : Int) := by omega
            have h2 : ¬ (c.toNat : Int) ≤ 57 := by omega
            clear hdig' hlo
            go_wp2_with (go_at_call 76; refine (HLow.out _).mono ?_; rintro e w' ⟨rfl, rfl⟩)
            refine ⟨⟨k + 1, acc * 16 + d, a * 16 + ((L : Int) - 97 + 10), rfl, (by first | rfl | (congr 1; omega)), (by first | rfl | (congr 1; omega)), by omega, HN⟩, by simp [intOf]; omega⟩
        · have hF : V = hexTup none := by rw [← HV.out, hdec]; simp [hexFrom, hd]
          have HF := Lib.hid hF
          clear hF hdec ha hacc hp hps hd
          by_cases e95 : c.toNat = 95
          · have HL95 := Lib.hid (fun W' => Tryz.internal_strconv_lower 95 W')
            rw [show bits BinOp.or IntKind.u8 95 32 = 127 by decide +kernel] at HL95
            rw [e95] at hc
            clear hl h95 e95 hdig' hc256 HLow
            go_wp2_with (go_at_call 76; refine (HL95.out _).mono ?_; rintro e w' ⟨rfl, rfl⟩)
            all_goals go_ret2
            all_goals exact ⟨by rw [HF.out]; rfl, rfl⟩
          · have n95 : ¬ (c.toNat : Int) = 95 := by omega
            clear h95 e95
            by_cases hlo : c.toNat < 48
            · have h1 : ¬ 48 ≤ (c.toNat : Int) := by omega
              clear hdig' hlo
              rcases hl with hl | hl
              all_goals
                go_wp2_with (go_at_call 76; refine (HLow.out _).mono ?_; rintro e w' ⟨rfl, rfl⟩)
                all_goals go_ret2
                all_goals exact ⟨by rw [HF.out]; rfl, rfl⟩
            · have h1 : 48 ≤ (c.toNat : Int) := by omega
              have h2 : ¬ (c.toNat : Int) ≤ 57 := by omega
              clear hdig' hlo
              rcases hl with hl | hl
              all_goals
                go_wp2_with (go_at_call 76; refine (HLow.out _).mono ?_; rintro e w' ⟨rfl, rfl⟩)
                all_goals go_ret2
                all_goals exact ⟨by rw [HF.out]; rfl, rfl⟩
    · have hkk : k = t.size := by omega
      subst hkk
      have hF : hexFrom acc (t.data.toList.drop t.size) = some acc := by rw [List.drop_eq_nil_of_le (by rw [hlen.out]; exact Nat.le_refl _)]; rfl
      rw [hF] at hdec
      have HF : Hid (V = hexTup (some acc)) := Lib.hid (by rw [← HV.out, hdec])
      subst ha
      clear hacc hF hdec
      go_wp2
      go_ret2
      exact ⟨by rw [HF.out]; rfl, rfl⟩
end Go.Proofs.YtbpdnohcgojmbaaGreatDoor
