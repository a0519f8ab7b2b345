/-
  ip6.Head of any number and any text; the law's comparison of two rows of headers.
-/
import Derived.Test.YtbhddodghbhjiaaSCh
import Derived.Test.YtbhddodghbhjiaaFVal
import Derived.Deep.QuietTactic
namespace Go.Proofs.Ytbhddodghbhjiaa
open Go.RowKit
set_option linter.unusedVariables false

/-- A slice of headers that reads as l. -/
def RX (w : World) (A : Option Addr) (n : Nat) (l : List Ex) : Prop :=
  l.length = n ∧ (0 < n → ∃ b, A = some ⟨b, 0, none⟩ ∧ b < w.heap.size ∧ ∀ j x, l[j]? = some x → w.cell? ⟨b, j * 3, none⟩ = some (.int .i64 x.k) ∧ w.cell? ⟨b, j * 3 + 1, none⟩ = some (.int .i64 (x.a : Int)) ∧ w.cell? ⟨b, j * 3 + 2, none⟩ = some (.int .i64 (x.n : Int)))
theorem ecells_at : ∀ (l : List Ex) (j : Nat) (x : Ex), l[j]? = some x → (ecells l)[j * 3]? = some (.int .i64 x.k) ∧ (ecells l)[j * 3 + 1]? = some (.int .i64 (x.a : Int)) ∧ (ecells l)[j * 3 + 2]? = some (.int .i64 (x.n : Int))
  | y :: r, 0, x, h => by cases h; exact ⟨rfl, rfl, rfl⟩
  | y :: r, j + 1, x, h => by
    have := ecells_at r j x h
    simp only [ecells, List.flatMap_cons] at this ⊢
    have hl : (ecell y).length = 3 := rfl
    rw [List.getElem?_append_right (by omega), List.getElem?_append_right (by omega), List.getElem?_append_right (by omega), hl, show (j + 1) * 3 - 3 = j * 3 by omega, show (j + 1) * 3 + 1 - 3 = j * 3 + 1 by omega, show (j + 1) * 3 + 2 - 3 = j * 3 + 2 by omega]
    exact this
theorem own_rx {w : World} {base n : Nat} {l : List Ex} {v : Value} (hn : l.length = n) (h : w.ownsRow base 45 3 v n (ecells l)) : ∃ A c, v = .slice A n c ∧ RX w A n l ∧ n ≤ c := by
  rcases h.2 with ⟨rfl, h0⟩ | ⟨g, cap, cur, rfl, h1, h2, h3, h4, h5, h6⟩
  · subst h0
    exact ⟨none, 0, rfl, ⟨hn, fun h => absurd h (by omega)⟩, Nat.le_refl _⟩
  · have hb : Blk w g 45 cur := h2
    refine ⟨_, _, rfl, ⟨hn, fun _ => ⟨g, rfl, hb.lt, fun j x hx => ?_⟩⟩, h3⟩
    have hj : j < n := by rw [← hn]; exact (List.getElem?_eq_some_iff.1 hx).1
    obtain ⟨e1, e2, e3⟩ := ecells_at l j x hx
    rw [← h6, List.getElem?_take, if_pos (by omega)] at e1 e2 e3
    exact ⟨by rw [hb.cell]; simpa using e1, by rw [hb.cell]; simpa using e2, by rw [hb.cell]; simpa using e3⟩
theorem RX.below {w w' : World} {A : Option Addr} {n : Nat} {l : List Ex} (h : RX w A n l) (hb : Below w.heap.size w w') : RX w' A n l := by
  refine ⟨h.1, fun h0 => ?_⟩
  obtain ⟨b, e, hlt, hc⟩ := h.2 h0
  refine ⟨b, e, by have := hb.size; omega, fun j x hx => ?_⟩
  obtain ⟨c1, c2, c3⟩ := hc j x hx
  exact ⟨by rw [hb.cell (p := ⟨b, j * 3, none⟩) hlt]; exact c1, by rw [hb.cell (p := ⟨b, j * 3 + 1, none⟩) hlt]; exact c2, by rw [hb.cell (p := ⟨b, j * 3 + 2, none⟩) hlt]; exact c3⟩
theorem chS_all (s : ByteArray) (nx : Int) : ∀ x ∈ (chS s 16 nx 0).l, fur x.k = true ∧ x.a + x.n ≤ s.size := by
  by_cases he : (chS s 16 nx 0).e = 0
  · have h : chS s 16 nx 0 = ⟨(chS s 16 nx 0).l, (chS s 16 nx 0).n, (chS s 16 nx 0).t, 0⟩ := by rw [← he]
    exact chS_fur h
  · rw [chS_bad he]; intro x hx; cases hx
theorem chS_l16 (s : ByteArray) (nx : Int) : (chS s 16 nx 0).l.length ≤ 16 := by
  by_cases he : (chS s 16 nx 0).e = 0
  · have h : chS s 16 nx 0 = ⟨(chS s 16 nx 0).l, (chS s 16 nx 0).n, (chS s 16 nx 0).t, 0⟩ := by rw [← he]
    exact (chS_len h).1
  · rw [chS_bad he]; exact Nat.zero_le _
theorem hdX_cons (x : Ex) (r : List Ex) (e : Nat) : hdX (x :: r) e = if x.k = 44 then e else hdX r (if x.k = 60 then e else x.a + x.n) := rfl
theorem fur_cs {k : Int} (h : fur k = true) : k = 0 ∨ k = 43 ∨ k = 60 ∨ k = 44 := by
  simp only [fur, Bool.or_eq_true, beq_iff_eq] at h
  omega
set_option maxRecDepth 100000 in
set_option maxHeartbeats 4000000 in
theorem shead_any (nx0 : Int) (s : ByteArray) (hs : (s.size : Int) ≤ 9223372036854775807) (w : World) :
    Calls Try.prog 25 #[.int .i64 nx0, .string s] w fun e w' => e = .returned (.int .i64 (hdX (chS s 16 nx0 0).l 0 : Int)) ∧ Below w.heap.size w w' := by
  have HCh := Lib.hid (schain_any nx0 s hs w)
  have hall := chS_all s nx0
  have hn16 := chS_l16 s nx0
  obtain ⟨X, hX⟩ : ∃ X, chS s 16 nx0 0 = X := ⟨_, rfl⟩
  rw [hX] at HCh hall hn16 ⊢
  clear hX
  have HALL : Hid (∀ (j : Nat) (x : Ex), X.l[j]? = some x → fur x.k = true ∧ (x.a : Int) + x.n ≤ 9223372036854775807) := Lib.hid fun j x hx => by
    obtain ⟨a, b⟩ := hall x (List.mem_of_getElem? hx)
    exact ⟨a, by omega⟩
  clear hall hs
  go_enter Try.func25, Try.ntmps25
  go_wp2_with fail
  refine Calls.mono HCh.out ?_
  rintro e w1 ⟨v, rfl, hown, hb⟩
  obtain ⟨A, c, rfl, hrx, -⟩ := own_rx rfl hown
  have HR := Lib.hid hrx
  have HB := Lib.hid hb
  obtain ⟨n, hn⟩ : ∃ n, X.l.length = n := ⟨_, rfl⟩
  rw [hn] at HR hn16 ⊢
  have HN := Lib.hid hn
  have hn16I : (n : Int) ≤ 16 := by omega
  clear hown hb hrx hn
  go_wp2_with fail
  go_loopw [9, 22] (fun sv i wr => ∃ (j e : Nat), j ≤ n ∧ i = .int .i64 (j : Int) ∧ sv = .int .i64 (e : Int) ∧ Hid (Below w1.heap.size w1 wr ∧ hdX (X.l.drop j) e = hdX X.l 0)) (fun _ i _ => n - (intOf i).toNat)
  case atStart => exact ⟨0, 0, Nat.zero_le _, rfl, rfl, Lib.hid ⟨Below.refl _ _, by simp⟩⟩
  case round =>
    obtain ⟨j, e, hj, rfl, rfl, hh⟩ := hrel
    by_cases hlt : j < n
    · have hji : (j : Int) < n := by omega
      obtain ⟨b, rfl, hlb, hc⟩ := HR.out.2 (by omega)
      obtain ⟨x, hx⟩ : ∃ x, X.l[j]? = some x := ⟨_, List.getElem?_eq_getElem (by rw [HN.out]; exact hlt)⟩
      obtain ⟨p1, p2, p3⟩ := hc j x hx
      have q1 : wr.cell? ⟨b, j * 3, none⟩ = some (.int .i64 x.k) := by rw [hh.out.1.cell (p := ⟨b, j * 3, none⟩) hlb]; exact p1
      have q2 : wr.cell? ⟨b, j * 3 + 1, none⟩ = some (.int .i64 (x.a : Int)) := by rw [hh.out.1.cell (p := ⟨b, j * 3 + 1, none⟩) hlb]; exact p2
      have q3 : wr.cell? ⟨b, j * 3 + 2, none⟩ = some (.int .i64 (x.n : Int)) := by rw [hh.out.1.cell (p := ⟨b, j * 3 + 2, none⟩) hlb]; exact p3
      obtain ⟨hfu, hsum⟩ := HALL.out j x hx
      have hd : X.l.drop j = x :: X.l.drop (j + 1) := by
        obtain ⟨hk, e1⟩ := List.getElem?_eq_some_iff.1 hx
        rw [List.drop_eq_getElem_cons hk, e1]
      have hst := hh.out.2
      rw [hd, hdX_cons] at hst
      obtain ⟨k, a, m⟩ := x
      simp only at q1 q2 q3 hfu hsum hst
      have HST := Lib.hid hst
      obtain ⟨S, hS⟩ : ∃ S : Nat, a + m = S := ⟨_, rfl⟩
      have hSI : (a : Int) + m = (S : Int) := by omega
      rw [hS] at HST
      have hS2 : (S : Int) ≤ 9223372036854775807 := by omega
      have hcs := fur_cs hfu
      clear hc hx p1 p2 p3 hfu hd hst hS hsum
      rcases hcs with rfl | rfl | rfl | rfl
      rotate_right
      · go_wp2
        go_ret
        exact ⟨by rw [show hdX X.l 0 = e by have h3 := HST.out; simpa using h3.symm]; rfl, HB.out.trans ((hh.out.1.alloc hh.out.1.size _).mono HB.out.size)⟩
      all_goals
        have HST2 := Lib.hid HST.out
        rw [if_neg (by decide)] at HST2
        first
          | rw [if_pos rfl] at HST2
          | rw [if_neg (by decide)] at HST2
        go_wp2
        go_roundw
        case rel => exact ⟨j + 1, _, hlt, by go_num, rfl, Lib.hid ⟨hh.out.1.alloc hh.out.1.size _, HST2.out⟩⟩
        case measure => simp [intOf]; omega
    · obtain rfl : j = n := by omega
      go_wp2
      go_ret
      have h2 := hh.out.2
      rw [List.drop_eq_nil_of_le (by rw [HN.out]; exact Nat.le_refl _)] at h2
      exact ⟨by rw [← h2]; rfl, HB.out.trans (hh.out.1.mono HB.out.size)⟩
set_option maxRecDepth 100000 in
set_option maxHeartbeats 2000000 in
theorem ssame_yes (A1 A2 : Option Addr) (n c1 c2 : Nat) (l : List Ex) (hn : n ≤ 16) (w : World) (h1 : RX w A1 n l) (h2 : RX w A2 n l) :
    Calls Try.prog 24 #[.slice A1 n c1, .slice A2 n c2] w fun e w' => e = .returned (.bool true) ∧ ∃ m, w' = w.drewN m := by
  have H1 := Lib.hid h1
  have H2 := Lib.hid h2
  have hnb : (n : Int) ≤ 16 := by omega
  clear h1 h2
  go_enter Try.func24, Try.ntmps24
  go_wp2
  go_loopw [5] (fun i wr => ∃ j : Nat, j ≤ n ∧ i = .int .i64 (j : Int) ∧ Hid (∃ m, wr = w.drewN m)) (fun i _ => n - (intOf i).toNat)
  case atStart => exact ⟨0, Nat.zero_le _, rfl, Lib.hid ⟨0, rfl⟩⟩
  case round =>
    obtain ⟨j, hj, rfl, hw⟩ := hrel
    obtain ⟨m, rfl⟩ := hw.out
    by_cases hlt : j < n
    · have hji : (j : Int) < n := by omega
      obtain ⟨b1, e1, -, hc1⟩ := H1.out.2 (by omega)
      obtain ⟨b2, e2, -, hc2⟩ := H2.out.2 (by omega)
      subst e1 e2
      obtain ⟨x, hx⟩ : ∃ x, l[j]? = some x := ⟨_, List.getElem?_eq_getElem (by rw [H1.out.1]; exact hlt)⟩
      obtain ⟨p1, p2, p3⟩ := hc1 j x hx
      obtain ⟨q1, q2, q3⟩ := hc2 j x hx
      obtain ⟨k, a, b⟩ := x
      simp only at p1 p2 p3 q1 q2 q3
      have r1 : ∀ k', (w.drewN k').cell? ⟨b1, j * 3, none⟩ = some (.int .i64 k) := fun _ => p1
      have r2 : ∀ k', (w.drewN k').cell? ⟨b1, j * 3 + 1, none⟩ = some (.int .i64 (a : Int)) := fun _ => p2
      have r3 : ∀ k', (w.drewN k').cell? ⟨b1, j * 3 + 2, none⟩ = some (.int .i64 (b : Int)) := fun _ => p3
      have s1 : ∀ k', (w.drewN k').cell? ⟨b2, j * 3, none⟩ = some (.int .i64 k) := fun _ => q1
      have s2 : ∀ k', (w.drewN k').cell? ⟨b2, j * 3 + 1, none⟩ = some (.int .i64 (a : Int)) := fun _ => q2
      have s3 : ∀ k', (w.drewN k').cell? ⟨b2, j * 3 + 2, none⟩ = some (.int .i64 (b : Int)) := fun _ => q3
      clear hc1 hc2 hx p1 p2 p3 q1 q2 q3 hw
      go_wp2
      go_quiet (fail)
      go_wp2
      go_roundw
      case rel => exact ⟨j + 1, hlt, by go_num, Lib.hid ⟨_, rfl⟩⟩
      case measure => simp [intOf]; omega
    · obtain rfl : j = n := by omega
      clear hw
      go_wp2
      go_ret
      exact ⟨rfl, _, rfl⟩
end Go.Proofs.Ytbhddodghbhjiaa
