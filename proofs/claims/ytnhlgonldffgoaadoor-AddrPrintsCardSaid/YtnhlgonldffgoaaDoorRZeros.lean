/-
  The document's own zeros: how many groups from one on are 0.
-/
import Derived.Test.YtnhlgonldffgoaaDoorRGroups
namespace Go.Proofs.YtnhlgonldffgoaaDoor
open Go.RowKit
set_option linter.unusedVariables false

/-- How many noughts a list begins with. -/
def lz : List Int → Nat
  | [] => 0
  | z :: r => if z = 0 then lz r + 1 else 0
theorem lz_le (l : List Int) : lz l ≤ l.length := by
  induction l with
  | nil => exact Nat.le_refl _
  | cons z r ih => unfold lz; split <;> simp <;> omega

set_option maxRecDepth 100000 in
set_option maxHeartbeats 1000000 in
theorem rzeros_any (w : World) (B c i : Nat) (A : Option Addr) (G : List Int) (hG : RI .u64 w B A 8 G) (hi : i ≤ 8) :
    Calls Tryd.prog 59 #[.slice A 8 c, .int .i64 (i : Int)] w fun e w' => e = .returned (.int .i64 (lz (G.drop i) : Int)) ∧ w = w' := by
  obtain ⟨b, o, rfl, hbk, hc⟩ := hG.2.1 (by decide)
  have hl := hG.1
  have HC := Lib.hid hc
  have HL := Lib.hid hl
  clear hG hc hl hbk
  go_enter Tryd.func59, Tryd.ntmps59
  go_wp2
  go_loop [5] (fun x => ∃ k : Nat, i + k ≤ 8 ∧ x = .int .i64 (k : Int) ∧ Hid (lz (G.drop i) = k + lz (G.drop (i + k)))) (fun x => 8 - (intOf x).toNat)
  case atStart => exact ⟨0, by omega, rfl, Lib.hid (by simp)⟩
  case round =>
    obtain ⟨k, hk, rfl, hh⟩ := hrel
    have hw1 : IntKind.i64.wrap ((i : Int) + (k : Int)) = (i : Int) + (k : Int) := by rw [IntKind.wrap_i64]; omega
    by_cases hlt : i + k < 8
    · have hlt1 : (i : Int) + (k : Int) < 8 := by omega
      have hn : ((i : Int) + (k : Int)).toNat = i + k := by omega
      have h0 : 0 ≤ (i : Int) + (k : Int) := by omega
      obtain ⟨z, hz⟩ : ∃ z, G[i + k]? = some z := ⟨_, List.getElem?_eq_getElem (by rw [HL.out]; exact hlt)⟩
      have d0 := HC.out _ _ hz
      have hd : G.drop (i + k) = z :: G.drop (i + k + 1) := by
        have hlt' : i + k < G.length := by rw [HL.out]; exact hlt
        rw [List.drop_eq_getElem_cons hlt']
        congr 1
        rw [List.getElem?_eq_getElem hlt'] at hz
        exact Option.some.inj hz
      have h2 := hh.out
      rw [hd] at h2
      by_cases hz0 : z = 0
      · subst hz0
        have HN : Hid (lz (G.drop i) = (k + 1) + lz (G.drop (i + (k + 1)))) := Lib.hid (by rw [h2, show i + (k + 1) = i + k + 1 by omega]; simp [lz]; omega)
        clear h2 hd hh hz
        go_wp2
        go_round
        case rel => exact ⟨k + 1, by omega, by go_num, HN⟩
        case measure => simp [intOf]; omega
      · have HN : Hid (lz (G.drop i) = k) := Lib.hid (by rw [h2]; simp [lz, hz0])
        clear h2 hd hh hz
        go_wp2
        go_ret
        rw [HN.out]
        exact ⟨rfl, rfl⟩
    · have hlt1 : ¬ (i : Int) + (k : Int) < 8 := by omega
      have HN : Hid (lz (G.drop i) = k) := Lib.hid (by rw [hh.out, List.drop_eq_nil_of_le (by rw [HL.out]; omega)]; rfl)
      clear hh
      go_wp2
      go_ret
      rw [HN.out]
      exact ⟨rfl, rfl⟩
end Go.Proofs.YtnhlgonldffgoaaDoor
