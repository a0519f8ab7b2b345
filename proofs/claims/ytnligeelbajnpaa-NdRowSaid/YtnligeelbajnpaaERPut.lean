/-
  The document's own Put: the row that it hands back is the caller's own.
-/
import Derived.Test.YtnligeelbajnpaaRefPut
namespace Go.Proofs.Ytnligeelbajnpaa
open Go.RowKit
set_option linter.unusedVariables false

set_option maxHeartbeats 1000000 in
theorem refPut_own (w : World) (B : Nat) (A : Option Addr) (n c k : Nat) (v width x : Int) (zs : List Int) (hz : RI .u8 w B A n zs) (hA : A = none → c = 0) (hB : B ≤ w.heap.size) (hk : k ≤ 8) (hn : n + 9 ≤ 140737488355328)
    (hv0 : 0 ≤ v) (hv1 : v ≤ 18446744073709551615) (hx : (if width < 0 then 0 else width) = x) (hm : (if 8 < x then 8 else x) = (k : Int)) :
    Calls Try.prog 34 #[.slice A n c, .int .i64 width, .int .u64 v] w fun e w' => ∃ v', e = .returned v' ∧ w'.ownsRow w.heap.size 5 1 v' (n + k) ((zs ++ putOf k v).map (Value.int .u8)) ∧ Below w.heap.size w w' := by
  have HZ := Lib.hid hz
  have HA := Lib.hid hA
  clear hz hA
  go_enter Try.func34, Try.ntmps34
  go_wp2_with (first
    | (at_builtin; refine wpList_app _ rfl (.tmp 11) (.tmp 12) rfl w.heap.size (.slice none 0 0) 0 [] rfl ⟨by simp, .inl ⟨rfl, rfl⟩⟩ B A n c zs rfl HA.out HZ.out (by omega) (Nat.le_refl _) ?_; intro v1 w1 hown1 hg1 hat1; have HB1 : Below w.heap.size w w1 := (Below.refl _ _).grown hg1 (Nat.le_refl _) (fun k hk => by simp [Value.ownBlock] at hk); have HO1 := Lib.hid hown1; clear hown1 hat1 hg1))
  go_loopw [7, 8, 9, 10] (fun v' i _ _ wr => ∃ m : Nat, m ≤ k ∧ i = .int .i64 ((m : Int) - 1) ∧ wr.ownsRow w.heap.size 5 1 v' (n + (k - m)) ((zs ++ (putOf k v).take (k - m)).map (Value.int .u8)) ∧ Below w.heap.size w wr) (fun _ i _ _ _ => (intOf i + 1).toNat)
  case atStart => exact ⟨k, Nat.le_refl _, rfl, by have := HO1.out; simpa using this, HB1⟩
  case round =>
    obtain ⟨m, hmk, hi, hown, hbel⟩ := hrel
    rcases m with _ | i'
    · have hi' := hi.trans (show Value.int .i64 (((0 : Nat) : Int) - 1) = .int .i64 (-1) by congr 1)
      clear hi
      subst hi'
      have HO := Lib.hid hown
      clear hown
      go_wp2
      go_ret
      exact ⟨_, rfl, (by have := HO.out; rw [Nat.sub_zero, List.take_of_length_le (by rw [putOf_len]; exact Nat.le_refl _)] at this; exact this), hbel⟩
    · have hi' := hi.trans (show Value.int .i64 (((i' + 1 : Nat) : Int) - 1) = .int .i64 (i' : Int) by congr 1; omega)
      clear hi
      subst hi'
      have HO := Lib.hid hown
      clear hown
      go_wp2_with fail
      go_loop [9, 10] (fun q t => ∃ t' : Nat, t' ≤ i' ∧ t = .int .i64 t' ∧ q = .int .u64 (v / 256 ^ t')) (fun _ t => i' - (intOf t).toNat)
      case atStart => exact ⟨0, Nat.zero_le _, rfl, by simp⟩
      case round =>
        obtain ⟨t, ht, rfl, rfl⟩ := hrel
        by_cases hlt : t < i'
        · have HD := Lib.hid (div_step v t hv0)
          obtain ⟨d0, d1⟩ := div_bd v t hv0 hv1
          go_wp2
          go_round
          case rel => exact ⟨t + 1, by omega, by go_num, u64_eq HD.out⟩
          case measure => simp [intOf]; omega
        · obtain rfl : t = i' := by omega
          obtain ⟨d0, d1⟩ := div_bd v t hv0 hv1
          obtain ⟨X, hX⟩ : ∃ X, X = v / 256 ^ t := ⟨_, rfl⟩
          rw [← hX] at d0 d1 ⊢
          have HX := Lib.hid hX
          clear hX
          have hwX : ∀ z ∈ [X % 256], (Lit.int .u8 z).wf = true := by
            intro z hz
            rw [List.mem_singleton] at hz
            subst hz
            exact wf_u8 (by omega)
          have HW := Lib.hid hwX
          clear hwX
          go_wp2_with (first
            | (at_builtin; refine wpList_app _ rfl (.tmp 30) (.tmp 34) rfl w.heap.size u7 (n + (k - (t + 1))) (zs ++ (putOf k v).take (k - (t + 1))) rfl (HO.out.alloc _) (wr.heap.size + 1) (some ⟨wr.heap.size, 0, none⟩) 1 1 [X % 256] rfl (fun h => by cases h) (Blk.reads (zs := [X % 256]) (Blk.new _ _ _) HW.out (Nat.lt_succ_self _)) (by omega) (by have := hbel.size; simp; omega) ?_; intro v2 w2 hown2 hg2 hat2; have HO2 := Lib.hid hown2; have HB2 : Below w.heap.size w w2 := (hbel.alloc hbel.size _).grown hg2 (by have := hbel.size; simp; omega) (own_base HO.out); clear hown2 hg2 hat2))
          go_roundw
          case rel => exact ⟨t, by omega, by first | rfl | go_num, by have := HO2.out; rw [HX.out, List.append_assoc, ← putOf_take k v t hmk, show n + (k - (t + 1)) + 1 = n + (k - t) by omega] at this; exact this, HB2⟩
          case measure => simp [intOf]
end Go.Proofs.Ytnligeelbajnpaa
