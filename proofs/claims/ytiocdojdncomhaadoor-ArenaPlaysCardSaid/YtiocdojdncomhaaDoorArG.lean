/-
  The document's own arena (layer 10): New, OrderAt, Free, Greatest, Taken.
-/
import Derived.Test.YtiocdojdncomhaaDoorArF
namespace Go.Proofs.YtiocdojdncomhaaDoor
open Go.RowKit
set_option linter.unusedVariables false

/-- The order of the taken block that begins at a place; below 0: there is none. -/
def ordS (L : List Bl) (p : Int) : Int := match L.find? (fun b => decide ((b.1 : Int) = p)) with | some b => (b.2 : Int) | none => -1
set_option maxRecDepth 100000 in
set_option maxHeartbeats 4000000 in
theorem orderAt_any (r O : Nat) (L : List Bl) (hL : Sml L) (p : Int) (w : World) (h : ArD w r O L) :
    Calls Tryd.prog 18 #[.pointer (some ⟨r, 0, none⟩), .int .i64 p] w fun e w' => e = .returned (.int .i64 (ordS L p)) ∧ w = w' := by
  obtain ⟨A, n, c, hb, hrb, hc⟩ := h
  have HR := Lib.hid hrb
  have hn : n ≤ 70000 := by rw [← hrb.1]; exact hL.1
  have f1 := (hb.cell 1).trans (show _ = some (Value.slice A n c) by rfl)
  obtain ⟨Y, hY⟩ : ∃ Y, ordS L p = Y := ⟨_, rfl⟩
  have HY : Hid (ordS (L.drop 0) p = Y) := Lib.hid hY
  rw [hY]
  clear hb hrb hL hY
  go_enter Tryd.func18, Tryd.ntmps18
  go_wp2
  go_loop [5] (fun i => ∃ j : Nat, i = .int .i64 (j : Int) ∧ j ≤ n ∧ Hid (ordS (L.drop j) p = Y)) (fun i => n - (intOf i).toNat)
  case atStart => exact ⟨0, rfl, Nat.zero_le _, HY⟩
  case round =>
    obtain ⟨j, rfl, hj, hH⟩ := hrel
    by_cases hlt : j < n
    · obtain ⟨b1, o1, e1, hb1, hc1⟩ := HR.out.2 (by omega)
      subst e1
      obtain ⟨x, hx⟩ : ∃ x, L[j]? = some x := ⟨_, List.getElem?_eq_getElem (by rw [HR.out.1]; exact hlt)⟩
      obtain ⟨p1, p2⟩ := hc1 j x hx
      have hdr : L.drop j = x :: L.drop (j + 1) := by
        obtain ⟨h1, h2⟩ := List.getElem?_eq_some_iff.1 hx
        rw [List.drop_eq_getElem_cons h1, h2]
      have HM : Hid (Y = if (x.1 : Int) = p then (x.2 : Int) else ordS (L.drop (j + 1)) p) := Lib.hid (by
        rw [← hH.out, hdr]
        unfold ordS
        by_cases hp : (x.1 : Int) = p
        · rw [List.find?_cons_of_pos (by simpa using hp), if_pos hp]
        · rw [List.find?_cons_of_neg (by simpa using hp), if_neg hp])
      obtain ⟨a, ha⟩ : ∃ a : Int, (x.1 : Int) = a := ⟨_, rfl⟩
      obtain ⟨o, ho⟩ : ∃ o : Int, (x.2 : Int) = o := ⟨_, rfl⟩
      rw [ha] at p1 HM
      rw [ho] at p2 HM
      have hjI : (j : Int) < n := by omega
      have j3 : IntKind.i64.wrap ((j : Int) + 1) = (j : Int) + 1 := by rw [IntKind.wrap_i64]; omega
      clear hc1 hx hdr ha ho
      by_cases hp : a = p
      · have HQ : Hid (o = Y) := Lib.hid (by rw [HM.out, if_pos hp])
        subst hp
        go_wp2
        go_ret
        exact ⟨ret_k HQ.out, rfl⟩
      · have HQ : Hid (ordS (L.drop (j + 1)) p = Y) := Lib.hid (by rw [HM.out, if_neg hp])
        have d1 : (a == p) = false := by simpa using hp
        clear hp
        go_wp2
        go_round
        case rel => exact ⟨j + 1, by go_num, hlt, HQ⟩
        case measure => simp [intOf]; omega
    · have HQ : Hid ((-1 : Int) = Y) := Lib.hid (by
        rw [← hH.out, List.drop_eq_nil_of_le (by rw [HR.out.1]; omega)]; rfl)
      have hjI : ¬ (j : Int) < n := by omega
      go_wp2
      go_ret
      exact ⟨ret_k HQ.out, rfl⟩
set_option maxRecDepth 100000 in
set_option maxHeartbeats 4000000 in
theorem freeN_any (r O : Nat) (hO : O ≤ 16) (L : List Bl) (hL : Sml L) (hs : sumB L ≤ 2 ^ O) (w : World) (h : ArD w r O L) :
    Calls Tryd.prog 22 #[.pointer (some ⟨r, 0, none⟩)] w fun e w' => e = .returned (.int .i64 (((2 ^ O - sumB L : Nat)) : Int)) ∧ w = w' := by
  have HSm := Lib.hid hL
  have HZ := Lib.hid (size_any O hO w)
  have hO16 := pow16 hO
  obtain ⟨A, n, c, hb, hrb, hc⟩ := h
  have HR := Lib.hid hrb
  have hn : n ≤ 70000 := by rw [← hrb.1]; exact hL.1
  have f0 := (hb.cell 0).trans (show _ = some (Value.int .i64 (O : Int)) by rfl)
  have f1 := (hb.cell 1).trans (show _ = some (Value.slice A n c) by rfl)
  obtain ⟨P, hP⟩ : ∃ P : Nat, 2 ^ O = P := ⟨_, rfl⟩
  rw [hP] at HZ hs hO16 ⊢
  have HS := Lib.hid hs
  clear hb hrb hL hP hs
  go_enter Tryd.func22, Tryd.ntmps22
  go_wp2_with fail
  refine Calls.mono HZ.out ?_
  rintro e w1 ⟨rfl, rfl⟩
  go_wp2
  go_loop [3, 4] (fun m i => ∃ j q : Nat, i = .int .i64 (j : Int) ∧ m = .int .i64 (q : Int) ∧ j ≤ n ∧ Hid (q + sumB (L.take j) = P)) (fun _ i => n - (intOf i).toNat)
  case atStart => exact ⟨0, P, rfl, rfl, Nat.zero_le _, Lib.hid (by simp [sumB])⟩
  case round =>
    obtain ⟨j, q, rfl, rfl, hj, hH⟩ := hrel
    by_cases hlt : j < n
    · obtain ⟨b1, o1, e1, hb1, hc1⟩ := HR.out.2 (by omega)
      subst e1
      obtain ⟨x, hx⟩ : ∃ x, L[j]? = some x := ⟨_, List.getElem?_eq_getElem (by rw [HR.out.1]; exact hlt)⟩
      obtain ⟨p1, p2⟩ := hc1 j x hx
      have hxm := (HSm.out.2 x (List.mem_of_getElem? hx)).2
      have HX := Lib.hid (size_any x.2 hxm w)
      have ht : sumB (L.take (j + 1)) = sumB (L.take j) + 2 ^ x.2 := by
        rw [List.take_add_one, hx]; simp [sumB]
      have hle : sumB (L.take (j + 1)) ≤ sumB L := by
        have : sumB L = sumB (L.take (j + 1)) + sumB (L.drop (j + 1)) := by
          unfold sumB; rw [← List.sum_append, ← List.map_append, List.take_append_drop]
        omega
      have hqq := hH.out
      have hss := HS.out
      obtain ⟨X, hX⟩ : ∃ X : Nat, 2 ^ x.2 = X := ⟨_, rfl⟩
      rw [hX] at HX ht
      obtain ⟨q', hq'⟩ : ∃ q' : Nat, q' + X = q := ⟨q - X, by omega⟩
      have HQ : Hid (q' + sumB (L.take (j + 1)) = P) := Lib.hid (by omega)
      have hqP : q ≤ P := by omega
      obtain ⟨o, ho⟩ : ∃ o : Nat, x.2 = o := ⟨_, rfl⟩
      rw [ho] at p2 HX
      have hjI : (j : Int) < n := by omega
      have j2 : IntKind.i64.wrap ((q : Int) - (X : Int)) = (q' : Int) := by rw [IntKind.wrap_i64]; omega
      have j3 : IntKind.i64.wrap ((j : Int) + 1) = (j : Int) + 1 := by rw [IntKind.wrap_i64]; omega
      clear hc1 hx ht hle hqq hss hX hq' ho
      go_wp2_with fail
      refine Calls.mono HX.out ?_
      rintro e w2 ⟨rfl, rfl⟩
      go_wp2
      go_round
      case rel => exact ⟨j + 1, q', by go_num, rfl, hlt, HQ⟩
      case measure => simp [intOf]; omega
    · have HQ : Hid ((q : Int) = ((P - sumB L : Nat) : Int)) := Lib.hid (by
        have := hH.out
        rw [List.take_of_length_le (by rw [HR.out.1]; omega)] at this
        omega)
      have hjI : ¬ (j : Int) < n := by omega
      go_wp2
      go_ret
      exact ⟨ret_k HQ.out, rfl⟩
set_option maxHeartbeats 1000000 in
theorem rnew_bad (O : Int) (h : O < 0 ∨ 16 < O) (w : World) : Calls Tryd.prog 10 #[.int .i64 O] w fun e w' => e = .returned (.tuple #[.pointer none, .int .i64 1]) ∧ w = w' := by
  by_cases h0 : O < 0
  · clear h
    go_enter Tryd.func10, Tryd.ntmps10
    go_wp2
    exact bodyPost_ret (v := .tuple #[.pointer none, .int .i64 1]) (by simp [results, Tryd.results10, go_sem]) rfl ⟨rfl, rfl⟩
  · have h1 : 16 < O := by omega
    clear h
    go_enter Tryd.func10, Tryd.ntmps10
    go_wp2
    exact bodyPost_ret (v := .tuple #[.pointer none, .int .i64 1]) (by simp [results, Tryd.results10, go_sem]) rfl ⟨rfl, rfl⟩
set_option maxHeartbeats 1000000 in
theorem rnew_ok (O : Nat) (h : O ≤ 16) (w : World) : Calls Tryd.prog 10 #[.int .i64 (O : Int)] w fun e w' => e = .returned (.tuple #[.pointer (some ⟨w.heap.size, 0, none⟩), .int .i64 0]) ∧ ArD w' w.heap.size O [] ∧ Below w.heap.size w w' := by
  have h0 : ¬ (O : Int) < 0 := by omega
  have h1 : ¬ (16 : Int) < O := by omega
  go_enter Tryd.func10, Tryd.ntmps10
  go_wp2
  exact bodyPost_ret (v := .tuple #[.pointer (some ⟨w.heap.size, 0, none⟩), .int .i64 0]) (by simp [results, Tryd.results10, go_sem]) rfl ⟨rfl, ⟨none, 0, 0, Blk.new _ _ _, ⟨rfl, fun h => absurd h (by omega)⟩, Nat.le_refl _⟩, (Below.refl _ _).alloc (Nat.le_refl _) _⟩
end Go.Proofs.YtiocdojdncomhaaDoor
