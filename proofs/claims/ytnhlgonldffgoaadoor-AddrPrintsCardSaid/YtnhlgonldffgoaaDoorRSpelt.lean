/-
  The law's own spelling of a group.
-/
import Derived.Test.YtnhlgonldffgoaaDoorRDig
import Derived.Laws.BytesArg
namespace Go.Proofs.YtnhlgonldffgoaaDoor
open Go.RowKit
set_option linter.unusedVariables false

/-- A text that stands for a group. -/
def Sp (n : Nat) (t : List UInt8) : Prop := hexw t = some n ∧ (58 : UInt8) ∉ t
theorem hexFrom_zero (l : List UInt8) : hexFrom 0 (48 :: l) = hexFrom 0 l := rfl
theorem Sp.pad {n : Nat} {t : List UInt8} (h : Sp n t) (hl : t.length < 4) : Sp n (48 :: t) := by
  obtain ⟨h1, h2⟩ := h
  unfold hexw at h1
  split at h1
  · cases h1
  · refine ⟨?_, by simp [h2]⟩
    unfold hexw
    rw [if_neg (by simp; omega), hexFrom_zero]
    exact h1
theorem Sp.start (n : Nat) (hn : n ≤ 65535) : Sp n (dg 16 n) := by
  rw [dg_sixteen n hn]
  exact ⟨by have := hexw_d16 (n : Int) (by omega) (by omega); simpa using this, d16_no _⟩
theorem Sp.len {n : Nat} {t : List UInt8} (h : Sp n t) : 1 ≤ t.length ∧ t.length ≤ 4 := by
  have h1 := h.1
  unfold hexw at h1
  split at h1
  · cases h1
  · rename_i hn
    refine ⟨?_, by omega⟩
    cases t with
    | nil => exact absurd (.inl rfl) hn
    | cons x r => simp
/-- A digit in a great letter. -/
def up (c : UInt8) : UInt8 := if 97 ≤ c then c - 32 else c
theorem up_all : ∀ m : Fin 256, hexv (up (UInt8.ofNat m.val)) = hexv (UInt8.ofNat m.val) ∨ hexv (UInt8.ofNat m.val) = none := by decide +kernel
theorem up_hex {c : UInt8} {d : Nat} (h : hexv c = some d) : hexv (up c) = some d ∧ up c ≠ 58 := by
  have e : UInt8.ofNat c.toNat = c := UInt8.ofNat_toNat
  have h1 := up_all ⟨c.toNat, UInt8.toNat_lt c⟩
  simp only [e] at h1
  rcases h1 with h1 | h1
  · refine ⟨by rw [h1]; exact h, fun e => ?_⟩
    rw [e] at h1
    rw [← h1] at h
    exact absurd h (by decide +revert)
  · rw [h1] at h; cases h
theorem hexFrom_up : ∀ (l : List UInt8) (acc v : Nat), hexFrom acc l = some v → hexFrom acc (l.map up) = some v ∧ (58 : UInt8) ∉ l.map up
  | [], acc, v, h => ⟨h, by simp⟩
  | c :: r, acc, v, h => by
    simp only [List.map_cons, hexFrom] at h ⊢
    cases hc : hexv c with
    | none => rw [hc] at h; cases h
    | some d =>
      rw [hc] at h
      obtain ⟨u1, u2⟩ := up_hex hc
      rw [u1]
      obtain ⟨i1, i2⟩ := hexFrom_up r _ v h
      exact ⟨i1, by simp only [List.mem_cons, not_or]; exact ⟨fun e => u2 e.symm, i2⟩⟩
theorem Sp.up {n : Nat} {t : List UInt8} (h : Sp n t) : Sp n (t.map up) := by
  have h1 := h.1
  unfold hexw at h1
  split at h1
  · cases h1
  · rename_i hn
    obtain ⟨u1, u2⟩ := hexFrom_up t 0 n h1
    refine ⟨?_, u2⟩
    unfold hexw
    rw [if_neg (by simpa using hn), u1]

theorem one_size (X : Int) : (strOfNums [X]).size = 1 := by rw [Lib.size_eq]; rfl
theorem conv_one (g : Nat) (w : World) (hg : g = w.heap.size) (X : Int) : (convert 30 9 (.slice (some ⟨g, 0, none⟩) 1 1)).run Tryd.prog (w.alloc (.cells #[.int .u8 X] 5)) = .ok (.string (strOfNums [X])) (w.alloc (.cells #[.int .u8 X] 5)) := by
  subst hg
  refine run_convert_bytes_arg _ 30 5 (by kernel_rfl) (by kernel_rfl) _ 0 1 1 [X] rfl (fun i hi => ?_) 9 (by kernel_rfl)
  obtain rfl : i = 0 := by omega
  rw [(Blk.new w 5 #[.int .u8 X]).cell]
  rfl
theorem up_step {out t : ByteArray} {k : Nat} (hk : k < t.size) (X : Int) (hX : X = ((up t[k]).toNat : Int)) (h : out.data.toList = (t.data.toList.take k).map up) : (out ++ strOfNums [X]).data.toList = (t.data.toList.take (k + 1)).map up := by
  have e : (strOfNums [X]).data.toList = [up t[k]] := by
    subst hX
    show [UInt8.ofNat ((up t[k]).toNat : Int).toNat] = _
    simp
  have hk' : k < t.data.toList.length := by rw [← Lib.size_eq]; exact hk
  have e2 : (out ++ strOfNums [X]).data.toList = out.data.toList ++ (strOfNums [X]).data.toList := by simp
  rw [e2, e, h, List.take_add_one, List.getElem?_eq_getElem hk', List.map_append]
  rfl
theorem up_big {c : UInt8} (h : (97 : Int) ≤ (c.toNat : Int)) : (c.toNat : Int) - 32 = ((up c).toNat : Int) := by
  have e : ∀ m : Fin 256, 97 ≤ m.val → m.val - 32 = (up (UInt8.ofNat m.val)).toNat := by decide +kernel
  have := e ⟨c.toNat, UInt8.toNat_lt c⟩ (by show 97 ≤ c.toNat; omega)
  simp only [UInt8.ofNat_toNat] at this
  omega
theorem up_small {c : UInt8} (h : ¬ (97 : Int) ≤ (c.toNat : Int)) : (c.toNat : Int) = ((up c).toNat : Int) := by
  have e : ∀ m : Fin 256, m.val < 97 → m.val = (up (UInt8.ofNat m.val)).toNat := by decide +kernel
  have := e ⟨c.toNat, UInt8.toNat_lt c⟩ (by show c.toNat < 97; omega)
  simp only [UInt8.ofNat_toNat] at this
  omega

set_option maxRecDepth 100000 in
set_option maxHeartbeats 1000000 in
theorem spelt_any (n : Nat) (how : Int) (hn : n ≤ 65535) (w : World) :
    Calls Tryd.prog 28 #[.int .u64 n, .int .i64 how] w fun e w' => ∃ t : ByteArray, e = .returned (.string t) ∧ Sp n t.data.toList ∧ Below w.heap.size w w' := by
  have HS := Lib.hid (Sp.start n hn)
  have HD := Lib.hid (rdig_any n 16 16 rfl (by decide) (by decide) (by omega) w)
  obtain ⟨q, hq⟩ : ∃ q, bits BinOp.and IntKind.i64 how 3 = q := ⟨_, rfl⟩
  obtain ⟨q4, hq4⟩ : ∃ q4, bits BinOp.and IntKind.i64 how 4 = q4 := ⟨_, rfl⟩
  clear hn
  go_enter Tryd.func28, Tryd.ntmps28
  go_wp2_with fail
  refine Calls.mono HD.out ?_
  rintro e w1 ⟨rfl, rfl⟩
  go_wp2
  go_loop [5, 6] (fun s i => ∃ (t : ByteArray) (j : Nat), s = .string t ∧ i = .int .i64 (j : Int) ∧ j < 100 ∧ Hid (Sp n t.data.toList ∧ j + 1 ≤ t.size)) (fun s i => 4 - (match s with | .string t => t.size | _ => 0))
  case atStart =>
    refine ⟨_, 0, rfl, rfl, by decide, ?_⟩
    have h := HS.out
    exact ⟨by simpa using h, by rw [Lib.size_eq]; simpa using h.len.1⟩
  case round =>
    obtain ⟨t, j, rfl, rfl, hj, hh⟩ := hrel
    obtain ⟨L0, L1⟩ := hh.out.1.len
    have hsz : t.size = t.data.toList.length := Lib.size_eq t
    have hts : t.size ≤ 4 := by omega
    have hj2 : j ≤ 3 := by have := hh.out.2; omega
    clear L0 L1 hsz
    by_cases h1 : (j : Int) < q
    · by_cases h2 : t.size < 4
      · have HN : Hid (Sp n ((⟨#[48]⟩ : ByteArray) ++ t).data.toList ∧ j + 1 + 1 ≤ ((⟨#[48]⟩ : ByteArray) ++ t).size) := Lib.hid (by
          have e : ((⟨#[48]⟩ : ByteArray) ++ t).data.toList = 48 :: t.data.toList := by simp
          refine ⟨by rw [e]; exact hh.out.1.pad (by rw [← Lib.size_eq]; exact h2), ?_⟩
          rw [Lib.size_eq, e, List.length_cons, ← Lib.size_eq]
          have := hh.out.2; omega)
        have h3 : (t.size : Int) < 4 := by omega
        clear hh
        go_wp2
        go_round
        case rel => exact ⟨_, j + 1, rfl, by go_num, by omega, HN.out⟩
        case measure =>
          have e : ((⟨#[48]⟩ : ByteArray) ++ t).size = t.size + 1 := by rw [Lib.size_eq, Lib.size_eq]; simp
          show 4 - ((⟨#[48]⟩ : ByteArray) ++ t).size < 4 - t.size
          omega
      · have h3 : ¬ (t.size : Int) < 4 := by omega
        have HE := Lib.hid hh.out.1
        clear hh
        by_cases h4 : q4 = 0
        · go_wp2
          go_ret
          exact ⟨t, rfl, HE.out, Below.refl _ _⟩
        · go_wp2
          go_loopw [7, 8, 9] (fun o i c wr => ∃ (out : ByteArray) (k : Nat), o = .string out ∧ i = .int .i64 (k : Int) ∧ k ≤ t.size ∧ Hid (out.data.toList = (t.data.toList.take k).map up) ∧ Below w.heap.size w wr) (fun _ i _ _ => t.size - (intOf i).toNat)
          case atStart => exact ⟨⟨#[]⟩, 0, rfl, rfl, Nat.zero_le _, Lib.hid (by simp), Below.refl _ _⟩
          case round =>
            obtain ⟨out, k, rfl, rfl, hk, hout, hbel⟩ := hrel
            by_cases hlt : k < t.size
            · have hki : (k : Int) < t.size := by omega
              have hos : out.size ≤ 4 := by rw [Lib.size_eq, hout.out, List.length_map, List.length_take]; omega
              by_cases hbig : (97 : Int) ≤ (t[k].toNat : Int)
              · have hwb : IntKind.u8.wrap ((t[k].toNat : Int) - 32) = (t[k].toNat : Int) - 32 := by
                  have := UInt8.toNat_lt t[k]
                  rw [IntKind.wrap_u8]; omega
                obtain ⟨S, hS⟩ : ∃ S, strOfNums [(t[k].toNat : Int) - 32] = S := ⟨_, rfl⟩
                have hS1 : S.size = 1 := by rw [← hS]; exact one_size _
                have hcv := conv_one wr.heap.size wr rfl ((t[k].toNat : Int) - 32)
                rw [hS] at hcv
                have HU := Lib.hid (up_step hlt _ (up_big hbig) hout.out)
                rw [hS] at HU
                have HBl := Lib.hid hbel
                clear hout hbel hS
                go_wp2
                go_roundw
                case rel => exact ⟨_, k + 1, rfl, by go_num, by omega, HU, HBl.out.alloc HBl.out.size _⟩
                case measure => simp [intOf]; omega
              · obtain ⟨S, hS⟩ : ∃ S, strOfNums [(t[k].toNat : Int)] = S := ⟨_, rfl⟩
                have hS1 : S.size = 1 := by rw [← hS]; exact one_size _
                have hcv := conv_one wr.heap.size wr rfl (t[k].toNat : Int)
                rw [hS] at hcv
                have HU := Lib.hid (up_step hlt _ (up_small hbig) hout.out)
                rw [hS] at HU
                have HBl := Lib.hid hbel
                clear hout hbel hS
                go_wp2
                go_roundw
                case rel => exact ⟨_, k + 1, rfl, by go_num, by omega, HU, HBl.out.alloc HBl.out.size _⟩
                case measure => simp [intOf]; omega
            · obtain rfl : k = t.size := by omega
              have hX : Sp n out.data.toList := by
                rw [hout.out, List.take_of_length_le (by rw [← Lib.size_eq]; exact Nat.le_refl _)]
                exact HE.out.up
              have HX := Lib.hid hX
              clear hX hout
              go_wp2
              go_ret
              exact ⟨out, rfl, HX.out, hbel⟩
    · have HE := Lib.hid hh.out.1
      clear hh
      by_cases h4 : q4 = 0
      · go_wp2
        go_ret
        exact ⟨t, rfl, HE.out, Below.refl _ _⟩
      · go_wp2
        go_loopw [7, 8, 9] (fun o i c wr => ∃ (out : ByteArray) (k : Nat), o = .string out ∧ i = .int .i64 (k : Int) ∧ k ≤ t.size ∧ Hid (out.data.toList = (t.data.toList.take k).map up) ∧ Below w.heap.size w wr) (fun _ i _ _ => t.size - (intOf i).toNat)
        case atStart => exact ⟨⟨#[]⟩, 0, rfl, rfl, Nat.zero_le _, Lib.hid (by simp), Below.refl _ _⟩
        case round =>
          obtain ⟨out, k, rfl, rfl, hk, hout, hbel⟩ := hrel
          by_cases hlt : k < t.size
          · have hki : (k : Int) < t.size := by omega
            have hos : out.size ≤ 4 := by rw [Lib.size_eq, hout.out, List.length_map, List.length_take]; omega
            by_cases hbig : (97 : Int) ≤ (t[k].toNat : Int)
            · have hwb : IntKind.u8.wrap ((t[k].toNat : Int) - 32) = (t[k].toNat : Int) - 32 := by
                have := UInt8.toNat_lt t[k]
                rw [IntKind.wrap_u8]; omega
              obtain ⟨S, hS⟩ : ∃ S, strOfNums [(t[k].toNat : Int) - 32] = S := ⟨_, rfl⟩
              have hS1 : S.size = 1 := by rw [← hS]; exact one_size _
              have hcv := conv_one wr.heap.size wr rfl ((t[k].toNat : Int) - 32)
              rw [hS] at hcv
              have HU := Lib.hid (up_step hlt _ (up_big hbig) hout.out)
              rw [hS] at HU
              have HBl := Lib.hid hbel
              clear hout hbel hS
              go_wp2
              go_roundw
              case rel => exact ⟨_, k + 1, rfl, by go_num, by omega, HU, HBl.out.alloc HBl.out.size _⟩
              case measure => simp [intOf]; omega
            · obtain ⟨S, hS⟩ : ∃ S, strOfNums [(t[k].toNat : Int)] = S := ⟨_, rfl⟩
              have hS1 : S.size = 1 := by rw [← hS]; exact one_size _
              have hcv := conv_one wr.heap.size wr rfl (t[k].toNat : Int)
              rw [hS] at hcv
              have HU := Lib.hid (up_step hlt _ (up_small hbig) hout.out)
              rw [hS] at HU
              have HBl := Lib.hid hbel
              clear hout hbel hS
              go_wp2
              go_roundw
              case rel => exact ⟨_, k + 1, rfl, by go_num, by omega, HU, HBl.out.alloc HBl.out.size _⟩
              case measure => simp [intOf]; omega
          · obtain rfl : k = t.size := by omega
            have hX : Sp n out.data.toList := by
              rw [hout.out, List.take_of_length_le (by rw [← Lib.size_eq]; exact Nat.le_refl _)]
              exact HE.out.up
            have HX := Lib.hid hX
            clear hX hout
            go_wp2
            go_ret
            exact ⟨out, rfl, HX.out, hbel⟩
end Go.Proofs.YtnhlgonldffgoaaDoor
