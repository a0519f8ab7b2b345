/-
  What is proved: whatever numbers are laid by octet.Put, one behind the other, in whatever widths, are taken up by a reader as their lowest bytes, and nothing is left; the call returns true, and leaves its arguments alone. No condition.
-/
import Derived.Test.YtigkikoogolkkaaRefPut
import Derived.StillTailTactics
import Derived.Deep.RegionHeld3
import Derived.SizedLaws
namespace Go.Proofs.Ytigkikoogolkkaa.Back
open Go.ChangeShapes Go.WideShapes Go.ChangeAt Go.RowKit
open Go.Proofs.Ytigkikoogolkkaa
open Go.ChangeMaps (open_string shut_string)
set_option linter.unusedVariables false

theorem ret_u64 {a b : Int} (h : a = b) : Ending.returned (.int .u64 a) = .returned (.int .u64 b) := by rw [h]

/-- What numbers of some widths are laid as, one behind the other. -/
def lay (l : List (Int × Int)) : List Int := l.flatMap fun p => putOf (wide p.1) p.2
theorem lay_snoc (l : List (Int × Int)) (p : Int × Int) : lay (l ++ [p]) = lay l ++ putOf (wide p.1) p.2 := by simp [lay]
theorem lay_cons (p : Int × Int) (l : List (Int × Int)) : lay (p :: l) = putOf (wide p.1) p.2 ++ lay l := by simp [lay]

theorem low_pow (k : Nat) (h : k < 8) : IntKind.u64.wrap ((256 : Int) ^ k * 256) = 256 ^ (k + 1) ∨ k = 7 := by
  rcases (show k = 0 ∨ k = 1 ∨ k = 2 ∨ k = 3 ∨ k = 4 ∨ k = 5 ∨ k = 6 ∨ k = 7 by omega) with rfl | rfl | rfl | rfl | rfl | rfl | rfl | rfl
  all_goals first | (left; decide) | (right; rfl)

set_option maxHeartbeats 400000 in
theorem low_any (w : World) (v : Int) (k : Nat) (hk : k ≤ 8) (h0 : 0 ≤ v) (h1 : v ≤ 18446744073709551615) :
    Calls Try.prog 26 #[.int .u64 v, .int .i64 k] w fun e w' => e = .returned (.int .u64 (v % 256 ^ k)) ∧ w = w' := by
  by_cases h8 : k = 8
  · subst h8
    have e : v % 256 ^ 8 = v := Int.emod_eq_of_lt h0 (by omega)
    rw [e]
    clear e
    go_enter Try.func26, Try.ntmps26
    go_wp2
    go_ret
    exact ⟨rfl, rfl⟩
  · have hlt : ¬ 8 ≤ (k : Int) := by omega
    go_enter Try.func26, Try.ntmps26
    go_wp2
    go_loop [5, 6] (fun m i => ∃ j : Nat, j ≤ k ∧ i = .int .i64 j ∧ m = .int .u64 (256 ^ j)) (fun _ i => k - (intOf i).toNat)
    case atStart => exact ⟨0, Nat.zero_le _, rfl, rfl⟩
    case round =>
      obtain ⟨j, hj, rfl, rfl⟩ := hrel
      by_cases hjk : j < k
      · have HP := Lib.hid (show IntKind.u64.wrap ((256 : Int) ^ j * 256) = 256 ^ (j + 1) by rcases low_pow j (by omega) with h | h; exact h; omega)
        go_wp2
        go_round
        case rel => exact ⟨j + 1, by omega, by go_num, u64_eq HP.out⟩
        case measure => simp [intOf]; omega
      · obtain rfl : j = k := by omega
        have hp := pow256_pos j
        have hp7 := pow256_le j (by omega)
        obtain ⟨M, hM⟩ : ∃ M : Int, M = 256 ^ j := ⟨_, rfl⟩
        rw [← hM] at hp hp7 ⊢
        have HM := Lib.hid hM
        have hp7' : M ≤ 72057594037927936 := by simpa using hp7
        clear hM hp7
        go_wp2
        go_ret
        exact ⟨ret_u64 (by rw [HM.out]), rfl⟩

/-- The reading of the bytes so far. -/
def Sofar (w wr : World) (v : Value) (zs : List Int) (m : Nat) : Prop := ∃ A N c, v = .slice A N c ∧ N ≤ m ∧ RI .u8 wr wr.heap.size A N zs ∧ Below w.heap.size w wr

theorem pair_at {ws vs : List Int} {j : Nat} {x v : Int} (h1 : ws[j]? = some x) (h2 : vs[j]? = some v) : ((ws.zip vs).take (j + 1)) = (ws.zip vs).take j ++ [(x, v)] := by
  rw [List.take_add_one, List.getElem?_zip_eq_some (z := (x, v)) |>.2 ⟨h1, h2⟩]; rfl

theorem lay_by (l : List (Int × Int)) : By (lay l) := by
  intro z hz
  simp only [lay, List.mem_flatMap] at hz
  obtain ⟨p, _, hp⟩ := hz
  exact putOf_by _ _ z hp

set_option maxHeartbeats 1000000 in
theorem walk (a0 : Option Addr) (len0 cap0 : Nat) (z0 : List Int) (a1 : Option Addr) (len1 cap1 : Nat) (z1 : List Int) (w : World) (w0 : IsRow .i64 w a0 len0 cap0 z0) (s0 : cap0 * 8 ≤ 140737488351232) (w1 : IsRow .u64 w a1 len1 cap1 z1) (s1 : cap1 * 8 ≤ 140737488351232) :
    Calls Try.prog 6 #[.slice a0 len0 cap0, .slice a1 len1 cap1] w fun e w' => e = .returned (.bool true) ∧ Below w.heap.size w w' := by
  obtain ⟨hz0, hl0, hm0⟩ := w0.ri
  obtain ⟨hz1, hl1, hm1⟩ := w1.ri
  obtain ⟨ws, hws⟩ : ∃ ws, ws = z0.take len0 := ⟨_, rfl⟩
  obtain ⟨vs, hvs⟩ : ∃ vs, vs = z1.take len1 := ⟨_, rfl⟩
  rw [← hws] at hz0
  rw [← hvs] at hz1
  obtain ⟨n, hn⟩ : ∃ n, (if len1 < len0 then (len1 : Int) else (len0 : Int)) = ((n : Nat) : Int) := by
    split
    · exact ⟨len1, rfl⟩
    · exact ⟨len0, rfl⟩
  have hn0 : n ≤ len0 ∧ n ≤ len1 := by split at hn <;> omega
  have HZ0 := Lib.hid hz0
  have HZ1 := Lib.hid hz1
  clear w0 w1 hz0 hz1 hws hvs
  go_enter Try.func6, Try.ntmps6
  go_wp2_with fail
  refine (awake_yes _).mono ?_
  rintro e w1 ⟨rfl, hB1⟩
  go_wp2_with fail
  go_loopw [6, 8] (fun v i wr => ∃ j : Nat, j ≤ n ∧ i = .int .i64 j ∧ Sofar w wr v (lay ((ws.zip vs).take j)) (8 * j)) (fun _ i _ => n - (intOf i).toNat)
  case atStart => exact ⟨0, Nat.zero_le _, rfl, none, 0, 0, rfl, Nat.zero_le _, by simpa [lay] using RI.nil_, hB1⟩
  case round =>
    obtain ⟨j, hj, rfl, A, N, c, rfl, hN, hr, hbel⟩ := hrel
    by_cases hlt : j < n
    · obtain ⟨b0, o0, x, rfl, hb0, hx1, hxw, hc0⟩ := (HZ0.out.below hbel).at_ (j := j) (by omega)
      obtain ⟨b1, o1, v, rfl, hb1, hv1, hvw, hc1⟩ := (HZ1.out.below hbel).at_ (j := j) (by omega)
      have hvb := u64_bd hvw
      have hlt0 : (j : Int) < len0 := by omega
      have hlt1 : (j : Int) < len1 := by omega
      have HP := Lib.hid (put_any wr.drew wr.heap.size A N c v x _ hr (Nat.le_refl _) (by omega) hvb.1)
      have HT := Lib.hid (pair_at hx1 hv1)
      have HW := Lib.hid (wide_le x)
      have HR := Lib.hid hr
      clear hx1 hv1 hr
      go_wp2_with fail
      go_still_tail 9, (by kernel_rfl)
      go_wp2_with fail
      refine Calls.mono HP.out ?_
      rintro e w2 ⟨rfl, hb2, hB2⟩
      have hS : Sofar w w2 (.slice (some ⟨wr.drew.heap.size, 0, none⟩) (N + wide x) (N + wide x)) (lay ((ws.zip vs).take (j + 1))) (8 * (j + 1)) := by
        have h1 := hb2.reads (fun z hz => wf_u8 (by
          rcases List.mem_append.1 hz with h | h
          · exact lay_by _ z h
          · exact putOf_by _ _ z h)) hb2.lt
        have hl := (HR.out).1
        rw [List.length_append, putOf_len, hl] at h1
        refine ⟨_, _, _, rfl, by have := HW.out; omega, ?_, hbel.drew.trans (hB2.mono hbel.size)⟩
        rw [HT.out, lay_snoc]
        exact h1
      have HS := Lib.hid hS
      clear hS hb2 hB2 HP
      go_wp2
      go_roundw
      case rel => exact ⟨j + 1, by omega, by go_num, HS.out⟩
      case measure => simp [intOf]; omega
    · obtain rfl : j = n := by omega
      have HN := Lib.hid (new_any wr wr.heap.size A N c _ hr (Nat.le_refl _) (by omega))
      clear hr
      go_wp2_with fail
      refine Calls.mono HN.out ?_
      rintro e w3 ⟨r, rfl, hr3, hB3⟩
      have hB3' : Below w.heap.size w w3 := hbel.trans (hB3.mono hbel.size)
      have hL3 := hbel.size
      clear HN hB3
      have hn2 : ((ws.zip vs).take j).length = j := by
        rw [List.length_take, List.length_zip, HZ0.out.1, HZ1.out.1]
        omega
      obtain ⟨P, hP⟩ : ∃ P, P = (ws.zip vs).take j := ⟨_, rfl⟩
      rw [← hP] at hr3 hn2
      have HPP := Lib.hid hP
      have HN2 := Lib.hid hn2
      have hrL : w.heap.size ≤ r := Nat.le_trans hL3 hr3.bounds.1
      obtain ⟨L, hLL, hr3'⟩ : ∃ L, w.heap.size ≤ L ∧ Rd w3 L w3.heap.size r (lay P) false := ⟨_, hL3, hr3⟩
      clear hP hn2 hr3
      go_wp2_with fail
      go_loopw [10, 11] (fun i _ w4 => ∃ i' : Nat, i' ≤ j ∧ i = .int .i64 i' ∧ Rd w4 L w3.heap.size r (lay (P.drop i')) false ∧ Below w.heap.size w w4) (fun i _ _ => j - (intOf i).toNat)
      case atStart => exact ⟨0, Nat.zero_le _, rfl, hr3', hB3'⟩
      case round =>
        obtain ⟨i, hi, rfl, hrd, hbl⟩ := hrel
        clear hr3' hB3'
        by_cases hij : i < j
        · obtain ⟨b0, o0, x, rfl, hb0, hx1, hxw, hc0⟩ := (HZ0.out.below hbl).at_ (j := i) (by omega)
          obtain ⟨b1, o1, v, rfl, hb1, hv1, hvw, hc1⟩ := (HZ1.out.below hbl).at_ (j := i) (by omega)
          have hvb := u64_bd hvw
          have hlt0 : (i : Int) < len0 := by omega
          have hlt1 : (i : Int) < len1 := by omega
          have hPi : P.drop i = (x, v) :: P.drop (i + 1) := by
            have h1 : P[i]? = some (x, v) := by
              rw [HPP.out, List.getElem?_take, if_pos hij]
              exact List.getElem?_zip_eq_some (z := (x, v)) |>.2 ⟨hx1, hv1⟩
            rw [List.drop_eq_getElem_cons (List.getElem?_eq_some_iff.1 h1).1]
            rw [(List.getElem?_eq_some_iff.1 h1).2]
          rw [hPi, lay_cons] at hrd
          have hk8 := wide_le x
          obtain ⟨X, hX⟩ : ∃ X, (if x < 0 then 0 else x) = X := ⟨_, rfl⟩
          have hXk := wide_eq x
          rw [hX] at hXk
          have hNum := num_yes (w := wr.drew) (k := wide x) hrd hk8 (by simp [putOf_len])
          simp only at hNum
          rw [show (putOf (wide x) v ++ lay (P.drop (i + 1))).take (wide x) = putOf (wide x) v by rw [List.take_append_of_le_length (by rw [putOf_len]; exact Nat.le_refl _), List.take_of_length_le (by rw [putOf_len]; exact Nat.le_refl _)], show (putOf (wide x) v ++ lay (P.drop (i + 1))).drop (wide x) = lay (P.drop (i + 1)) by rw [List.drop_append_of_le_length (by rw [putOf_len]; exact Nat.le_refl _), List.drop_of_length_le (by rw [putOf_len]; exact Nat.le_refl _)]; rfl, numOf_putOf] at hNum
          obtain ⟨V, hV⟩ : ∃ V, V = v % 256 ^ wide x := ⟨_, rfl⟩
          have hLow := fun W => low_any W v (wide x) hk8 hvb.1 hvb.2
          rw [← hV] at hNum
          simp only [← hV] at hLow
          have HNum := Lib.hid (Calls.mono hNum (R' := fun e w' => e = .returned (.int .u64 V) ∧ Rd w' L w3.heap.size r (lay (P.drop (i + 1))) false ∧ Below w.heap.size wr w' ∧ w'.cell? ⟨b1, o1 + i, none⟩ = some (.int .u64 v)) (fun e w' ⟨h1, h2, h3⟩ => ⟨h1, h2, ⟨h3.1, h3.2.1, h3.2.2.1, by rw [h3.2.2.2.1]; exact Nat.le_refl _, fun k hk => h3.2.2.2.2 k (by omega)⟩, (World.cell?_of_block (w := wr.drew) (h3.2.2.2.2 b1 (by omega))).trans hc1⟩))
          have HLow := Lib.hid hLow
          have hVV : (V != V) = false := by simp
          clear hNum hLow hV hPi hrd hx1 hv1
          go_wp2_with fail
          go_region_held3 (fun w' => w'.cell? ⟨b1, o1 + i, none⟩ = some (.int .u64 v)) (first | exact hc1 | exact hc5 | go_keep) (first | (go_at_call 21; refine Calls.mono HNum.out ?_; rintro e w5 ⟨rfl, hr5, hB5, hc5⟩) | (go_at_call 26; refine Calls.mono (HLow.out _) ?_; rintro e w' ⟨rfl, rfl⟩))
          go_wp2
          go_roundw
          case rel => exact ⟨i + 1, by omega, by go_num, hr5, hbl.trans hB5⟩
          case measure => simp [intOf]; omega
        · obtain rfl : i = j := by omega
          rw [List.drop_of_length_le (by rw [HN2.out]; exact Nat.le_refl _)] at hrd
          have HLf := Lib.hid (left_any hrd)
          have HSh := Lib.hid (short_any hrd)
          clear hrd
          go_wp2_with (first | (go_at_call 23; refine Calls.mono HLf.out ?_; rintro e w' ⟨rfl, rfl⟩) | (go_at_call 25; refine Calls.mono HSh.out ?_; rintro e w' ⟨rfl, rfl⟩))
          go_ret
          exact ⟨rfl, hbl⟩

set_option maxRecDepth 100000 in
theorem lifted (os : Os) (started : os.Started) (H : Type) (enc : TypeId × Value → H) :
    ReturnsInHanded {} Try.checked os 6 .any (Rows.octetBackSpec.pre6 enc Try.prog Try.f6 Rows.octetBackRow.domain false) (Rows.octetBackSpec.post enc Try.prog Try.f6 false true false false) := by
  refine returnsInHanded_of_change_sized (C := Try.checked) own started (by kernel_rfl) Try.func6
    (ChangeSpec.witness6 (enc := enc) (C := Try.checked) false ⟨#[], #[.slice none 0 0, .slice none 0 0], []⟩ 8 (by kernel_rfl) (by kernel_rfl) (by kernel_rfl) (by kernel_rfl)) ?_
  intro W base args ds gs before hval0 hW hcnd hsz0 _
  have hsz : (DataW.weightsEach Try.prog (Try.f6.params.toList ++ Rows.octetBackSpec.plain.varTypes Try.prog) (ds ++ gs)).all (· ≤ reachBytes) = true := hsz0
  clear hsz0
  have hval : ∀ (j : Nat) t v, Try.f6.params[j]? = some t → args[j]? = some v → Value.okWide Try.prog W .any base t v := hval0
  have hW' := hW
  obtain ⟨p, q, hA0, hV, rfl, hfz, hnd⟩ := hW
  have hA : DataW.TrodAll enc Try.prog W 0 (fun _ => true) true Try.f6.params.toList args.toList ds p := hA0
  rw [Try.params6] at hA hval hsz
  obtain ⟨v0, vs0, d0, ds0, p0, q0, hargs, rfl, rfl, h0, r0⟩ := trodAll_cons hA
  obtain ⟨v1, vs1, d1, ds1, p1, q1, rfl, rfl, rfl, h1, r1⟩ := trodAll_cons r0
  obtain ⟨rfl, rfl, rfl⟩ := trodAll_nil r1
  obtain rfl : args = #[v0, v1] := by cases args; simp_all
  obtain ⟨rfl, rfl⟩ := trodVars_none hV
  obtain ⟨a0, len0, cap0, rfl⟩ := okWide_slice Try.underlying45 (hval 0 45 v0 rfl rfl)
  have k0 := h0
  have lt0 : ∀ x ∈ p0, x.block < W.heap.size := by obtain ⟨m, hm⟩ := k0; exact DataW.trod_lt m _ _ _ hm
  obtain ⟨z0, w0, s0⟩ : ∃ zs, IsRow .i64 W a0 len0 cap0 zs ∧ cap0 * 8 ≤ 140737488351232 := by
    obtain ⟨fuel, hf⟩ := h0
    rcases open_ints Try.underlying45 Try.underlying3 (by kernel_rfl) hf with ⟨hcs, _⟩ | ⟨x, l, c, zs, hcs, _, hl, hm, hz, hx, hcell, hwz⟩
    · simp [Value.cells] at hcs
      obtain ⟨rfl, rfl, rfl⟩ := hcs
      exact ⟨[], .inl ⟨rfl, rfl, rfl, rfl⟩, by omega⟩
    · simp [Value.cells] at hcs
      obtain ⟨rfl, rfl, rfl⟩ := hcs
      have hz' : zs.length = cap0 := by simpa using hz
      simp only [Prod.mk.injEq] at hx
      obtain ⟨rfl, rfl⟩ := hx
      have hs := sized_slice hsz (j := 0) (t := 45) (e := 3) rfl rfl Try.underlying45
      rw [Try.bytes3] at hs
      simp only [lits, List.length_map, List.length_take, List.length_drop, reachBytes] at hs
      exact ⟨zs, .inr ⟨_, rfl, hl, hm, hz', hcell, hwz⟩, by omega⟩
  obtain ⟨a1, len1, cap1, rfl⟩ := okWide_slice Try.underlying46 (hval 1 46 v1 rfl rfl)
  have k1 := h1
  have lt1 : ∀ x ∈ p1, x.block < W.heap.size := by obtain ⟨m, hm⟩ := k1; exact DataW.trod_lt m _ _ _ hm
  obtain ⟨z1, w1, s1⟩ : ∃ zs, IsRow .u64 W a1 len1 cap1 zs ∧ cap1 * 8 ≤ 140737488351232 := by
    obtain ⟨fuel, hf⟩ := h1
    rcases open_ints Try.underlying46 Try.underlying23 (by kernel_rfl) hf with ⟨hcs, _⟩ | ⟨x, l, c, zs, hcs, _, hl, hm, hz, hx, hcell, hwz⟩
    · simp [Value.cells] at hcs
      obtain ⟨rfl, rfl, rfl⟩ := hcs
      exact ⟨[], .inl ⟨rfl, rfl, rfl, rfl⟩, by omega⟩
    · simp [Value.cells] at hcs
      obtain ⟨rfl, rfl, rfl⟩ := hcs
      have hz' : zs.length = cap1 := by simpa using hz
      simp only [Prod.mk.injEq] at hx
      obtain ⟨rfl, rfl⟩ := hx
      have hs := sized_slice hsz (j := 1) (t := 46) (e := 23) rfl rfl Try.underlying46
      rw [Try.bytes23] at hs
      simp only [lits, List.length_map, List.length_take, List.length_drop, reachBytes] at hs
      exact ⟨zs, .inr ⟨_, rfl, hl, hm, hz', hcell, hwz⟩, by omega⟩
  clear hA0 hval0
  refine (walk a0 len0 cap0 z0 a1 len1 cap1 z1 W w0 s0 w1 s1).mono fun e W' ⟨he, bel⟩ => ?_
  subst he
  exact ⟨_, rfl, _, _, _, [], _, [], hW', trodAll_mk1 (shut_bool Try.underlying4 _), (trodAll_cons_mk (Below.trod laidOut (by kernel_rfl) (of_decide_eq_true (by kernel_rfl)) k0 bel lt0) (trodAll_cons_mk (Below.trod laidOut (by kernel_rfl) (of_decide_eq_true (by kernel_rfl)) k1 bel lt1) trodAll_mk0)), rfl, bel.frame _, fun h => by cases h⟩

theorem over : Rows.octetBackRow.holds Try.pinned (OpenSpec.ofChange Rows.octetBackSpec) :=
  OpenClaim.holds_of_wide 6 Try.f6 rfl rfl rfl rfl rfl rfl rfl ⟨rfl, rfl, rfl, rfl, rfl⟩ rfl rfl rfl rfl rfl (by kernel_rfl) Try.func6 (by kernel_rfl)
    (of_decide_eq_true (by kernel_rfl)) (by unfold Func.isWrapper; first | (rw [if_pos (by decide +kernel)]; kernel_rfl) | (rw [if_neg (by decide +kernel)]; exact ⟨rfl, rfl⟩))
    (fun os started H enc _ => lifted os started H enc)

theorem proved : Rows.OctetBackSaid := over
#print axioms proved
end Go.Proofs.Ytigkikoogolkkaa.Back

