/-
  What the document's own Put makes of any bytes, any width and any number.
-/
import Derived.Test.YtlbkphnbpenbcaaApp
namespace Go.Proofs.Ytlbkphnbpenbcaa
open Go.RowKit
set_option linter.unusedVariables false

theorem putOf_get (k : Nat) : ∀ (v : Int) (i : Nat), i < k → (putOf k v)[k - 1 - i]? = some (v / 256 ^ i % 256) := by
  induction k with
  | zero => intro v i h; omega
  | succ k ih =>
    intro v i h
    rw [putOf_cons]
    by_cases he : i = k
    · subst he; simp
    · rw [show k + 1 - 1 - i = (k - 1 - i) + 1 by omega, List.getElem?_cons_succ]
      exact ih v i (by omega)
theorem putOf_take (k : Nat) (v : Int) (i : Nat) (h : i < k) : (putOf k v).take (k - i) = (putOf k v).take (k - (i + 1)) ++ [v / 256 ^ i % 256] := by
  have e := putOf_get k v i h
  rw [show k - i = (k - (i + 1)) + 1 by omega, List.take_add_one]
  rw [show k - 1 - i = k - (i + 1) by omega] at e
  rw [e]; rfl

theorem own_base {w : World} {base e size n : Nat} {v : Value} {xs : List Value} (h : w.ownsRow base e size v n xs) : ∀ k, v.ownBlock = some k → base ≤ k := by
  intro k hk
  rcases h.2 with ⟨rfl, _⟩ | ⟨g, cap, cur, rfl, h1, _⟩
  · simp [Value.ownBlock] at hk
  · simp [Value.ownBlock] at hk; omega

/-- What the document's Put hands back. -/
def RefPut (w : World) (n : Nat) (zs : List Int) (e : Ending) (w' : World) : Prop :=
  ∃ A c, e = .returned (.slice A n c) ∧ RI .u8 w' w'.heap.size A n zs ∧ (∀ x, A = some x → w.heap.size ≤ x.block) ∧ Below w.heap.size w w'

theorem refPut_of {w w' : World} {n : Nat} {zs : List Int} {v : Value} (hw : ∀ z ∈ zs, (Lit.int .u8 z).wf = true) (hown : w'.ownsRow w.heap.size 5 1 v n (zs.map (Value.int .u8))) (hB : Below w.heap.size w w') : RefPut w n zs (.returned v) w' := by
  have hl : zs.length = n := by simpa using hown.1
  rcases hown.2 with ⟨rfl, rfl⟩ | ⟨g, cap, cur, rfl, h1, h2, h3, h4, h5, h6⟩
  · obtain rfl : zs = [] := List.eq_nil_of_length_eq_zero hl
    exact ⟨none, 0, rfl, RI.nil_, (fun _ h => by cases h), hB⟩
  · have hb : Blk w' g 5 cur := h2
    refine ⟨some ⟨g, 0, none⟩, cap, rfl, ⟨hl, fun _ => ⟨g, 0, rfl, hb.lt, fun j z hz => ?_⟩, hw⟩, (fun x hx => by injection hx with hx; rw [← hx]; exact h1), hB⟩
    rw [Nat.zero_add, hb.cell]
    have hj : j < n := by rw [← hl]; exact (List.getElem?_eq_some_iff.1 hz).1
    have e : (cur.toList.take (n * 1))[j]? = some (.int .u8 z) := by rw [h6, List.getElem?_map, hz]; rfl
    rw [List.getElem?_take, if_pos (by omega)] at e
    simpa using e

theorem div_step (v : Int) (t : Nat) (hv : 0 ≤ v) : (v / 256 ^ t) / 256 = v / 256 ^ (t + 1) := by rw [Int.pow_succ, Int.ediv_ediv_of_nonneg (Int.le_of_lt (pow256_pos t))]
theorem div_bd (v : Int) (t : Nat) (h0 : 0 ≤ v) (h1 : v ≤ 18446744073709551615) : 0 ≤ v / 256 ^ t ∧ v / 256 ^ t ≤ 18446744073709551615 := by
  have hp := pow256_pos t
  exact ⟨Int.ediv_nonneg h0 (by omega), Int.le_trans (Int.ediv_le_self _ h0) h1⟩

set_option maxHeartbeats 1000000 in
theorem refPut_at (w : World) (B : Nat) (A : Option Addr) (n c k : Nat) (v width x : Int) (zs : List Int) (hz : RI .u8 w B A n zs) (hA : A = none → c = 0) (hB : B ≤ w.heap.size) (hk : k ≤ 8) (hn : n + 9 ≤ 140737488355328)
    (hv0 : 0 ≤ v) (hv1 : v ≤ 18446744073709551615) (hx : (if width < 0 then 0 else width) = x) (hm : (if 8 < x then 8 else x) = (k : Int)) :
    Calls Try.prog 65 #[.slice A n c, .int .i64 width, .int .u64 v] w (RefPut w (n + k) (zs ++ putOf k v)) := by
  have HZ := Lib.hid hz
  have HA := Lib.hid hA
  clear hz hA
  go_enter Try.func65, Try.ntmps65
  go_wp2_with (first
    | (at_builtin; refine wpList_app _ rfl (.tmp 11) (.tmp 12) rfl w.heap.size (.slice none 0 0) 0 [] rfl ⟨by simp, .inl ⟨rfl, rfl⟩⟩ B A n c zs rfl HA.out HZ.out (by omega) (Nat.le_refl _) ?_; intro v1 w1 hown1 hg1 hat1; have HB1 : Below w.heap.size w w1 := (Below.refl _ _).grown hg1 (Nat.le_refl _) (fun k hk => by simp [Value.ownBlock] at hk); have HO1 := Lib.hid hown1; clear hown1 hat1 hg1))
  go_loopw [7, 8, 9, 10] (fun v' i _ _ wr => ∃ m : Nat, m ≤ k ∧ i = .int .i64 ((m : Int) - 1) ∧ wr.ownsRow w.heap.size 5 1 v' (n + (k - m)) ((zs ++ (putOf k v).take (k - m)).map (Value.int .u8)) ∧ Below w.heap.size w wr) (fun _ i _ _ _ => (intOf i + 1).toNat)
  case atStart => exact ⟨k, Nat.le_refl _, rfl, by have := HO1.out; simpa using this, HB1⟩
  case round =>
    obtain ⟨m, hmk, hi, hown, hbel⟩ := hrel
    rcases m with _ | i'
    · have hi' := hi.trans (show Value.int .i64 (((0 : Nat) : Int) - 1) = .int .i64 (-1) by congr 1)
      clear hi
      subst hi'
      have HO := Lib.hid hown
      clear hown
      go_wp2
      go_ret
      exact refPut_of (by
        intro z hz
        rcases List.mem_append.1 hz with h | h
        · exact HZ.out.2.2 z h
        · exact wf_u8 (putOf_by k v z h)) (by have := HO.out; rw [Nat.sub_zero, List.take_of_length_le (by rw [putOf_len]; exact Nat.le_refl _)] at this; exact this) hbel
    · have hi' := hi.trans (show Value.int .i64 (((i' + 1 : Nat) : Int) - 1) = .int .i64 (i' : Int) by congr 1; omega)
      clear hi
      subst hi'
      have HO := Lib.hid hown
      clear hown
      go_wp2_with fail
      go_loop [9, 10] (fun q t => ∃ t' : Nat, t' ≤ i' ∧ t = .int .i64 t' ∧ q = .int .u64 (v / 256 ^ t')) (fun _ t => i' - (intOf t).toNat)
      case atStart => exact ⟨0, Nat.zero_le _, rfl, by simp⟩
      case round =>
        obtain ⟨t, ht, rfl, rfl⟩ := hrel
        by_cases hlt : t < i'
        · have HD := Lib.hid (div_step v t hv0)
          obtain ⟨d0, d1⟩ := div_bd v t hv0 hv1
          go_wp2
          go_round
          case rel => exact ⟨t + 1, by omega, by go_num, u64_eq HD.out⟩
          case measure => simp [intOf]; omega
        · obtain rfl : t = i' := by omega
          obtain ⟨d0, d1⟩ := div_bd v t hv0 hv1
          obtain ⟨X, hX⟩ : ∃ X, X = v / 256 ^ t := ⟨_, rfl⟩
          rw [← hX] at d0 d1 ⊢
          have HX := Lib.hid hX
          clear hX
          have hwX : ∀ z ∈ [X % 256], (Lit.int .u8 z).wf = true := by
            intro z hz
            rw [List.mem_singleton] at hz
            subst hz
            exact wf_u8 (by omega)
          have HW := Lib.hid hwX
          clear hwX
          go_wp2_with (first
            | (at_builtin; refine wpList_app _ rfl (.tmp 30) (.tmp 34) rfl w.heap.size u7 (n + (k - (t + 1))) (zs ++ (putOf k v).take (k - (t + 1))) rfl (HO.out.alloc _) (wr.heap.size + 1) (some ⟨wr.heap.size, 0, none⟩) 1 1 [X % 256] rfl (fun h => by cases h) (Blk.reads (zs := [X % 256]) (Blk.new _ _ _) HW.out (Nat.lt_succ_self _)) (by omega) (by have := hbel.size; simp; omega) ?_; intro v2 w2 hown2 hg2 hat2; have HO2 := Lib.hid hown2; have HB2 : Below w.heap.size w w2 := (hbel.alloc hbel.size _).grown hg2 (by have := hbel.size; simp; omega) (own_base HO.out); clear hown2 hg2 hat2))
          go_roundw
          case rel => exact ⟨t, by omega, by first | rfl | go_num, by have := HO2.out; rw [HX.out, List.append_assoc, ← putOf_take k v t hmk, show n + (k - (t + 1)) + 1 = n + (k - t) by omega] at this; exact this, HB2⟩
          case measure => simp [intOf]
theorem refPut_any (w : World) (B : Nat) (A : Option Addr) (n c : Nat) (v width : Int) (zs : List Int) (hz : RI .u8 w B A n zs) (hA : A = none → c = 0) (hB : B ≤ w.heap.size) (hn : n + 9 ≤ 140737488355328)
    (hv0 : 0 ≤ v) (hv1 : v ≤ 18446744073709551615) :
    Calls Try.prog 65 #[.slice A n c, .int .i64 width, .int .u64 v] w (RefPut w (n + wide width) (zs ++ putOf (wide width) v)) :=
  refPut_at w B A n c (wide width) v width _ zs hz hA hB (wide_le width) hn hv0 hv1 rfl (wide_eq width)

end Go.Proofs.Ytlbkphnbpenbcaa
