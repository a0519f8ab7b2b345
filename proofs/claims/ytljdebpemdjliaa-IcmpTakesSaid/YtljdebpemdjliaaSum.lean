/-
  What tally.Sum and tally.Check answer of any parts.
-/
import Derived.Test.YtljdebpemdjliaaTally
namespace Go.Proofs.Ytljdebpemdjliaa
open Go.RowKit
set_option linter.unusedVariables false

/-- A slice of slices of bytes: its elements read as the lists zss. -/
def RS (w : World) (A : Option Addr) (n : Nat) (zss : List (List Int)) : Prop :=
  zss.length = n ∧ (0 < n → ∃ b o, A = some ⟨b, o, none⟩ ∧ ∀ j zs, zss[j]? = some zs → ∃ A' n' c' B, w.cell? ⟨b, o + j, none⟩ = some (.slice A' n' c') ∧ RI .u8 w B A' n' zs)

theorem RS.at_ {w : World} {A : Option Addr} {n j : Nat} {zss : List (List Int)} (h : RS w A n zss) (hj : j < n) :
    ∃ b o zs A' n' c' B, A = some ⟨b, o, none⟩ ∧ zss[j]? = some zs ∧ w.cell? ⟨b, o + j, none⟩ = some (.slice A' n' c') ∧ RI .u8 w B A' n' zs := by
  obtain ⟨b, o, e, hc⟩ := h.2 (by omega)
  have hl : j < zss.length := by have := h.1; omega
  have hz : zss[j]? = some zss[j] := List.getElem?_eq_getElem hl
  obtain ⟨A', n', c', B, h1, h2⟩ := hc j _ hz
  exact ⟨b, o, _, A', n', c', B, e, hz, h1, h2⟩

theorem By.bys {l : List Int} (h : By l) : Bys l := fun z hz => h z hz

/-- The parts ahead of part j, end to end. -/
def pre (zss : List (List Int)) (j : Nat) : List Int := (zss.take j).flatten
theorem pre_step {zss : List (List Int)} {j : Nat} {zs : List Int} (h : zss[j]? = some zs) : pre zss (j + 1) = pre zss j ++ zs := by
  unfold pre
  rw [List.take_add_one, h, List.flatten_append]; simp
theorem pre_all {zss : List (List Int)} {n : Nat} (h : zss.length = n) : pre zss n = zss.flatten := by unfold pre; rw [List.take_of_length_le (by omega)]
theorem pre_len (zss : List (List Int)) (j : Nat) : (pre zss j).length ≤ zss.flatten.length := by
  have e : zss.flatten = pre zss j ++ (zss.drop j).flatten := by
    unfold pre; rw [← List.flatten_append, List.take_append_drop]
  rw [e, List.length_append]; omega

theorem sum_round {P zs : List Int} {i : Nat} {z : Int} (hP : Bys P) (hz : Bys zs) (h : zs[i]? = some z) :
    ad (fo (tot 0 (P ++ zs.take i))) (wt (P.length + i) z) = fo (tot 0 (P ++ zs.take (i + 1))) := by
  have hi := (List.getElem?_eq_some_iff.1 h).1
  have hl : (zs.take i).length = i := by simp; omega
  have hzb := hz z (List.mem_of_getElem? h)
  rw [ad_fo (tot_nonneg (hP.append (hz.take i)) 0) (wt_bd hzb)]
  rw [List.take_add_one, h]
  simp only [Option.toList]
  rw [← List.append_assoc, tot_snoc 0, List.length_append, hl, Nat.zero_add]

theorem RS.bys {w : World} {A : Option Addr} {n : Nat} {zss : List (List Int)} (h : RS w A n zss) : ∀ j, Bys (pre zss j) := by
  intro j z hz
  unfold pre at hz
  rw [List.mem_flatten] at hz
  obtain ⟨zs, h1, h2⟩ := hz
  obtain ⟨k, hk, e⟩ := List.getElem_of_mem h1
  have hk' : k < n := by have := h.1; simp at hk; omega
  obtain ⟨b, o, zs', A', n', c', B, _, h3, _, h5⟩ := h.at_ hk'
  have : zs' = zs := by
    rw [List.getElem_take] at e
    rw [List.getElem?_eq_getElem (by have := h.1; omega), e] at h3
    injection h3 with h3; exact h3.symm
  subst this
  exact h5.by_ z h2

theorem u16_eq {x y : Int} (h : x = y) : Value.int IntKind.u16 x = Value.int IntKind.u16 y := by rw [h]
theorem i64_eq {x y : Int} (h : x = y) : Value.int IntKind.i64 x = Value.int IntKind.i64 y := by rw [h]

set_option maxHeartbeats 1000000 in
theorem sum_any (w : World) (A : Option Addr) (n c : Nat) (zss : List (List Int)) (h : RS w A n zss) (hn : n ≤ 4611686018427387904) (hm : zss.flatten.length ≤ 4611686018427387904) :
    Calls Try.prog 62 #[.slice A n c] w fun e w' => e = .returned (.int .u16 (fo (tot 0 zss.flatten))) ∧ w = w' := by
  have HR := Lib.hid h
  have HB := Lib.hid h.bys
  clear h
  go_enter Try.func62, Try.ntmps62
  go_wp2_with fail
  go_loop [3, 4, 5, 6, 7, 10] (fun s a _ _ _ i => ∃ j : Nat, j ≤ n ∧ i = .int .i64 j ∧ s = .int .u16 (fo (tot 0 (pre zss j))) ∧ a = .int .i64 ((pre zss j).length : Nat)) (fun _ _ _ _ _ i => n - (intOf i).toNat)
  case atStart => exact ⟨0, Nat.zero_le _, rfl, rfl, rfl⟩
  case round =>
    obtain ⟨j, hj, rfl, rfl, rfl⟩ := hrel
    by_cases hlt : j < n
    · obtain ⟨b, o, zs, A', n', c', B, rfl, hz, hcell, hri⟩ := HR.out.at_ hlt
      have HS := Lib.hid (pre_step hz)
      have hlen := pre_len zss (j + 1)
      rw [HS.out, List.length_append, hri.1] at hlen
      obtain ⟨P, hP⟩ : ∃ P, P = pre zss j := ⟨_, rfl⟩
      rw [← hP] at hlen ⊢
      obtain ⟨L, hL⟩ : ∃ L, L = P.length := ⟨_, rfl⟩
      rw [← hL] at hlen ⊢
      have HL := Lib.hid hL
      have HPP := Lib.hid hP
      have HRI := Lib.hid hri
      have HBP : Hid (Bys P) := by show Bys P; rw [hP]; exact HB.out j
      clear hz hL hP hri
      have hjn : (j : Int) < n := by omega
      go_wp2_with fail
      go_loop [3, 7, 19] (fun s _ t => ∃ i : Nat, i ≤ n' ∧ t = .int .i64 i ∧ s = .int .u16 (fo (tot 0 (P ++ zs.take i)))) (fun _ _ t => n' - (intOf t).toNat)
      case atStart => exact ⟨0, Nat.zero_le _, rfl, by simp⟩
      case round =>
        obtain ⟨i, hi, rfl, rfl⟩ := hrel
        by_cases hlt2 : i < n'
        · obtain ⟨b1, o1, z, rfl, hb1, hz1, hzw, hcell1⟩ := HRI.out.at_ hlt2
          have hbd := u8_bd hzw
          have hin : (i : Int) < n' := by omega
          have HR1 := Lib.hid (sum_round HBP.out HRI.out.by_.bys hz1)
          have hW := worth_any z (L + i) hbd w (by omega)
          rw [Int.natCast_add] at hW
          have HW := Lib.hid hW
          have hF := W16.fo (tot_nonneg (HBP.out.append (HRI.out.by_.bys.take i)) 0)
          have hwt : W16 (wt (L + i) z) := wt_bd hbd
          have HA := Lib.hid (add_any _ _ hF hwt w)
          clear hz1 hW hF hwt
          go_wp2_with fail
          refine Calls.mono HW.out ?_
          rintro e w' ⟨rfl, rfl⟩
          go_wp2_with fail
          refine Calls.mono HA.out ?_
          rintro e w' ⟨rfl, rfl⟩
          go_wp2
          go_round
          case rel => exact ⟨i + 1, by omega, by go_num, u16_eq (by rw [← HR1.out, HL.out])⟩
          case measure => simp [intOf]; omega
        · obtain rfl : i = n' := by omega
          have HT : Hid (zs.take i = zs) := by show _ = _; exact List.take_of_length_le (by rw [HRI.out.1]; exact Nat.le_refl _)
          go_wp2
          go_round
          case rel => exact ⟨j + 1, by omega, by go_num, u16_eq (by rw [HS.out, HT.out, HPP.out]), i64_eq (by rw [HS.out, List.length_append, HRI.out.1, ← HPP.out, ← HL.out]; omega)⟩
          case measure => simp [intOf]; omega
    · obtain rfl : j = n := by omega
      have HT := Lib.hid (pre_all HR.out.1)
      go_wp2
      go_ret
      exact ⟨ret_k (by rw [HT.out]), rfl⟩

end Go.Proofs.Ytljdebpemdjliaa
