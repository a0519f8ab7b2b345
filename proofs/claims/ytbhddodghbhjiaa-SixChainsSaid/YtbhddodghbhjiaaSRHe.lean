/-
  The document's own Head of any number and any text.
-/
import Derived.Test.YtbhddodghbhjiaaSRCh
import Derived.Test.YtbhddodghbhjiaaSHe
namespace Go.Proofs.Ytbhddodghbhjiaa
open Go.RowKit
set_option linter.unusedVariables false

set_option maxRecDepth 100000 in
set_option maxHeartbeats 4000000 in
theorem srhead_any (nx0 : Int) (s : ByteArray) (hs : (s.size : Int) ≤ 9223372036854775807) (w : World) :
    Calls Try.prog 26 #[.int .i64 nx0, .string s] w fun e w' => e = .returned (.int .i64 (hdX (chS s 16 nx0 0).l 0 : Int)) ∧ Below w.heap.size w w' := by
  have HCh := Lib.hid (srchain_any nx0 s hs w)
  have hall := chS_all s nx0
  have hn16 := chS_l16 s nx0
  have hbad : (chS s 16 nx0 0).e ≠ 0 → (chS s 16 nx0 0).l = [] := fun h => by rw [chS_bad h]
  obtain ⟨X, hX⟩ : ∃ X, chS s 16 nx0 0 = X := ⟨_, rfl⟩
  rw [hX] at HCh hall hn16 hbad ⊢
  clear hX
  have HALL : Hid (∀ (j : Nat) (x : Ex), X.l[j]? = some x → fur x.k = true ∧ (x.a : Int) + x.n ≤ 9223372036854775807) := Lib.hid fun j x hx => by
    obtain ⟨a, b⟩ := hall x (List.mem_of_getElem? hx)
    exact ⟨a, by omega⟩
  clear hall hs
  by_cases he : X.e = 0
  · have hE : (X.e == 0) = true := by simpa using he
    clear he hbad
    go_enter Try.func26, Try.ntmps26
    go_wp2_with fail
    refine Calls.mono HCh.out ?_
    rintro e w1 ⟨v, rfl, hown, hb⟩
    obtain ⟨A, c, rfl, hrx, -⟩ := own_rx rfl hown
    have HR := Lib.hid hrx
    have HB := Lib.hid hb
    obtain ⟨n, hn⟩ : ∃ n, X.l.length = n := ⟨_, rfl⟩
    rw [hn] at HR hn16 ⊢
    have HN := Lib.hid hn
    have hn16I : (n : Int) ≤ 16 := by omega
    clear hown hb hrx hn
    go_wp2_with fail
    go_loopw [9, 10] (fun sv i wr => ∃ (j e : Nat), j ≤ n ∧ i = .int .i64 (j : Int) ∧ sv = .int .i64 (e : Int) ∧ Hid ((∃ q, wr = w1.drewN q) ∧ hdX (X.l.drop j) e = hdX X.l 0)) (fun _ i _ => n - (intOf i).toNat)
    case atStart => exact ⟨0, 0, Nat.zero_le _, rfl, rfl, Lib.hid ⟨⟨0, rfl⟩, by simp⟩⟩
    case round =>
      obtain ⟨j, e, hj, rfl, rfl, hh⟩ := hrel
      obtain ⟨⟨q, rfl⟩, hst⟩ := hh.out
      by_cases hlt : j < n
      · have hji : (j : Int) < n := by omega
        obtain ⟨b, rfl, hlb, hc⟩ := HR.out.2 (by omega)
        obtain ⟨x, hx⟩ : ∃ x, X.l[j]? = some x := ⟨_, List.getElem?_eq_getElem (by rw [HN.out]; exact hlt)⟩
        obtain ⟨p1, p2, p3⟩ := hc j x hx
        obtain ⟨hfu, hsum⟩ := HALL.out j x hx
        have hd : X.l.drop j = x :: X.l.drop (j + 1) := by
          obtain ⟨hk, e1⟩ := List.getElem?_eq_some_iff.1 hx
          rw [List.drop_eq_getElem_cons hk, e1]
        rw [hd, hdX_cons] at hst
        obtain ⟨k, a, m⟩ := x
        simp only at p1 p2 p3 hfu hsum hst
        have q1 : ∀ k', (w1.drewN k').cell? ⟨b, j * 3, none⟩ = some (.int .i64 k) := fun _ => p1
        have q2 : ∀ k', (w1.drewN k').cell? ⟨b, j * 3 + 1, none⟩ = some (.int .i64 (a : Int)) := fun _ => p2
        have q3 : ∀ k', (w1.drewN k').cell? ⟨b, j * 3 + 2, none⟩ = some (.int .i64 (m : Int)) := fun _ => p3
        have HST := Lib.hid hst
        obtain ⟨S, hS⟩ : ∃ S : Nat, a + m = S := ⟨_, rfl⟩
        have hSI : (a : Int) + m = (S : Int) := by omega
        rw [hS] at HST
        have hS2 : (S : Int) ≤ 9223372036854775807 := by omega
        have hSw : IntKind.i64.wrap (S : Int) = (S : Int) := by rw [IntKind.wrap_i64]; omega
        have hcs := fur_cs hfu
        clear hc hx p1 p2 p3 hfu hd hst hS hsum hh
        rcases hcs with rfl | rfl | rfl | rfl
        rotate_right
        · go_wp2
          go_ret
          exact ⟨by rw [show hdX X.l 0 = e by have h3 := HST.out; simpa using h3.symm]; rfl, below_drewN HB.out q⟩
        rotate_right
        · have HST2 := Lib.hid HST.out
          rw [if_neg (by decide), if_pos rfl] at HST2
          go_wp2
          go_roundw
          case rel => exact ⟨j + 1, e, hlt, by go_num, rfl, Lib.hid ⟨⟨_, rfl⟩, HST2.out⟩⟩
          case measure => simp [intOf]; omega
        all_goals
          have HST2 := Lib.hid HST.out
          rw [if_neg (by decide), if_neg (by decide)] at HST2
          go_wp2
          go_quiet (fail)
          go_wp2
          go_roundw
          case rel => exact ⟨j + 1, S, hlt, by go_num, rfl, Lib.hid ⟨⟨_, rfl⟩, HST2.out⟩⟩
          case measure => simp [intOf]; omega
      · obtain rfl : j = n := by omega
        rw [List.drop_eq_nil_of_le (by rw [HN.out]; exact Nat.le_refl _)] at hst
        have h2 := Lib.hid (show hdX X.l 0 = e from hst.symm)
        clear hst hh
        go_wp2
        go_ret
        exact ⟨by rw [h2.out]; rfl, below_drewN HB.out q⟩
  · have hE : (X.e == 0) = false := by simpa using he
    have hl := Lib.hid (hbad he)
    clear he hbad
    go_enter Try.func26, Try.ntmps26
    go_wp2_with fail
    refine Calls.mono HCh.out ?_
    rintro e w1 ⟨v, rfl, hown, hb⟩
    have HB := Lib.hid hb
    clear hown hb
    go_wp2
    go_ret
    exact ⟨by rw [hl.out]; rfl, HB.out⟩
end Go.Proofs.Ytbhddodghbhjiaa
