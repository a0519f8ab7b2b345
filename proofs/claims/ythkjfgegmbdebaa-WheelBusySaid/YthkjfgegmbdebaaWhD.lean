/-
  The program's own wheel (layer 17): cmp.Compare; the two questions of timers; slices.SortFunc by number; slices.MinFunc by the time at which one is due.
-/
import Derived.Test.YthkjfgegmbdebaaWhC
import Derived.Test.YthkjfgegmbdebaaSrt
import Derived.Test.YthkjfgegmbdebaaWhShelf
namespace Go.Proofs.Ythkjfgegmbdebaa
open Go.RowKit Go.Shelf Go.Sort
set_option linter.unusedVariables false

def cmpI (a b : Int) : Int := if a < b then -1 else if b < a then 1 else 0
theorem nan_i (a : Int) (w : World) : Calls Try.prog 37 #[.int .i64 a] w fun e w' => e = .returned (.bool false) ∧ w' = w := by
  have e0 : (a != a) = false := by simp
  go_enter Try.func37, Try.ntmps37
  go_wp2
  go_ret
  exact ⟨rfl, rfl⟩
set_option maxHeartbeats 2000000 in
theorem cmp_i (a b : Int) (w : World) : Calls Try.prog 31 #[.int .i64 a, .int .i64 b] w fun e w' => e = .returned (.int .i64 (cmpI a b)) ∧ w' = w := by
  have HA := Lib.hid (nan_i a w)
  have HB := Lib.hid (nan_i b w)
  unfold cmpI
  by_cases h1 : a < b
  · rw [if_pos h1]
    go_enter Try.func31, Try.ntmps31
    go_wp2_with fail
    refine Calls.mono HA.out ?_
    rintro e w' ⟨rfl, rfl⟩
    go_wp2_with fail
    refine Calls.mono HB.out ?_
    rintro e w' ⟨rfl, rfl⟩
    go_wp2
    go_ret
    exact ⟨rfl, rfl⟩
  · by_cases h2 : b < a
    · rw [if_neg h1, if_pos h2]
      go_enter Try.func31, Try.ntmps31
      go_wp2_with fail
      refine Calls.mono HA.out ?_
      rintro e w' ⟨rfl, rfl⟩
      go_wp2_with fail
      refine Calls.mono HB.out ?_
      rintro e w' ⟨rfl, rfl⟩
      go_wp2
      go_ret
      exact ⟨rfl, rfl⟩
    · rw [if_neg h1, if_neg h2]
      go_enter Try.func31, Try.ntmps31
      go_wp2_with fail
      refine Calls.mono HA.out ?_
      rintro e w' ⟨rfl, rfl⟩
      go_wp2_with fail
      refine Calls.mono HB.out ?_
      rintro e w' ⟨rfl, rfl⟩
      go_wp2
      go_ret
      exact ⟨rfl, rfl⟩
set_option maxRecDepth 100000 in
set_option maxHeartbeats 1000000 in
theorem tick1_any (x y : TmI) (w : World) : Calls Try.prog 30 #[tmV x, tmV y] w fun e w' => e = .returned (.int .i64 (cmpI (x.2.2 : Int) (y.2.2 : Int))) ∧ BelowD w.heap.size w w' := by
  obtain ⟨i1, d1, n1⟩ := x
  obtain ⟨i2, d2, n2⟩ := y
  have H1 := Lib.hid (fun w => cmp_i (n1 : Int) (n2 : Int) w)
  go_enter Try.func30, Try.ntmps30
  go_wp2_with fail
  refine Calls.mono (H1.out _) ?_
  rintro e w1 ⟨rfl, rfl⟩
  go_wp2
  go_ret
  exact ⟨rfl, ((BelowD.refl _ w).alloc (Nat.le_refl _) _).alloc (by simp) _⟩
set_option maxRecDepth 100000 in
set_option maxHeartbeats 1000000 in
theorem next1_any (x y : TmI) (w : World) : Calls Try.prog 39 #[tmV x, tmV y] w fun e w' => e = .returned (.int .i64 (cmpI (x.2.1 : Int) (y.2.1 : Int))) ∧ Tch w w' [] := by
  obtain ⟨i1, d1, n1⟩ := x
  obtain ⟨i2, d2, n2⟩ := y
  have H1 := Lib.hid (fun w => cmp_i (d1 : Int) (d2 : Int) w)
  go_enter Try.func39, Try.ntmps39
  go_wp2_with fail
  refine Calls.mono (H1.out _) ?_
  rintro e w1 ⟨rfl, rfl⟩
  go_wp2
  go_ret
  exact ⟨rfl, ((Tch.refl w []).alloc _).alloc _⟩
def cmpN (x y : TmI) : Int := cmpI (x.2.2 : Int) (y.2.2 : Int)
theorem cmpN_lt (x y : TmI) : ltOf cmpN x y = true ↔ x.2.2 < y.2.2 := by
  unfold ltOf cmpN cmpI
  simp only [decide_eq_true_eq]
  split
  · simp; omega
  · split <;> simp <;> omega
theorem cmpN_swo : SWO (ltOf cmpN) := by
  have hf : ∀ x y, ltOf cmpN x y = false ↔ ¬ x.2.2 < y.2.2 := fun x y => by rw [← cmpN_lt]; simp
  refine ⟨fun x => (hf x x).2 (by omega), fun x y z a b => (cmpN_lt x z).2 ?_, fun x y z a b => (hf x z).2 ?_⟩
  · have := (cmpN_lt x y).1 a
    have := (cmpN_lt y z).1 b
    omega
  · have := (hf x y).1 a
    have := (hf y z).1 b
    omega
theorem aggTm (w : World) : (isAgg 57).run Try.prog w = .ok true w := by kernel_rfl
theorem sizTm (w : World) : (Go.sizeOf 57).run Try.prog w = .ok 3 w := by kernel_rfl
/-- slices.SortFunc over timers, by their numbers. -/
theorem sort_tm (A : Option Addr) (n c : Nat) (l : List TmI) (hl : l.length = n) (hn : n ≤ 100000) (w : World) (h : w.ownsRow 0 57 3 (.slice A n c) n (l.flatMap tmC)) :
    Calls Try.prog 29 #[.slice A n c, .func (.func 30) #[] #[]] w fun e w' => e = .returned (.tuple #[]) ∧
      ∃ l' : List TmI, l'.Perm l ∧ (l'.Pairwise fun x y => ¬ y.2.2 < x.2.2) ∧ w'.ownsRow 0 57 3 (.slice A n c) n (l'.flatMap tmC) ∧ Tch w w' (obI (.slice A n c)) := by
  rcases Nat.eq_zero_or_pos n with h0 | h0
  · subst h0
    have hl0 : l = [] := List.eq_nil_of_length_eq_zero hl
    subst hl0
    refine (show Calls _ 29 _ _ _ from AnyF.slices_SortFunc_none Try.sortA A c (.func (.func 30) #[] #[]) w).mono ?_
    rintro e w' ⟨rfl, rfl⟩
    exact ⟨rfl, [], .refl _, .nil, h, Tch.refl _ _⟩
  · obtain ⟨g, rfl⟩ := slice_some h h0
    subst hl
    have hH : HoldsK tmC 3 w g 0 l.toArray := holds_of tmC 3 tm_three (by decide) rfl h
    have hlt := (own_openN h).choose_spec.1.lt
    have hcmp : CmpLays Try.prog 30 #[] tmC 3 cmpN g 0 l.toArray.size w := fun m os dk hs x y => (tick1_any x y _).mono fun e w' hw => ⟨hw.1, hw.2.grow⟩
    have eg : ∀ args w, (callFunc 30 args).run Try.prog w = .ok (.enter 30 args) w := enters_of Try.func30 rfl rfl
    refine (show Calls _ 29 _ _ _ from AnyQ.slices_SortFunc Try.sortA 3 aggTm sizTm tmC tm_three tm_one cmpN cmpN_swo 30 #[] g 0 c l.toArray w eg hcmp hH hlt (by rw [List.size_toArray]; omega)).mono ?_
    rintro e w' ⟨rfl, d', m, os, ⟨hp1, -, hp2⟩, hs, rfl⟩
    have hsz : d'.size = l.length := by rw [hp1, List.size_toArray]
    have hs' : SortedIn (ltOf cmpN) 0 d'.size d' := by rw [hp1]; exact hs
    obtain ⟨r1, r2⟩ := sortW_own tmC 3 tm_three (by decide) (m := m) (os := os) hsz rfl h
    refine ⟨rfl, d'.toList, ?_, (pw_of_srt hs').imp (fun hxy hc => ?_), r1, r2⟩
    · rw [← hp1] at hp2
      have e1 : d'.extract 0 d'.size = d' := Array.extract_size
      have e2 : l.toArray.extract 0 d'.size = l.toArray := by rw [hp1]; exact Array.extract_size
      rw [e1, e2] at hp2
      simpa using hp2
    · rw [(cmpN_lt _ _).2 hc] at hxy
      cases hxy
end Go.Proofs.Ythkjfgegmbdebaa
