/-
  What is proved: a reader that is short stays so, and has nothing, whatever is asked of it; the call returns true, and leaves its arguments alone. No condition.
-/
import Derived.Test.YtigkikoogolkkaaTakes
namespace Go.Proofs.Ytigkikoogolkkaa.Short
open Go.ChangeShapes Go.WideShapes Go.ChangeAt Go.RowKit
open Go.Proofs.Ytigkikoogolkkaa
set_option linter.unusedVariables false

theorem num_empty {w : World} {L B r : Nat} (h : Rd w L B r [] true) (k : Int) :
    Calls Try.prog 21 #[.pointer (some ⟨r, 0, none⟩), .int .i64 k] w fun e w' => e = .returned (.int .u64 0) ∧ Rd w' L B r [] true ∧ w.grownBy w' (some r) := by
  by_cases hk : NoNum 0 0 k
  · exact (num_no h hk).mono fun e w' ⟨h1, h2, h3⟩ => ⟨h1, h2, h3.grown⟩
  · unfold NoNum at hk
    obtain rfl : k = ((0 : Nat) : Int) := by omega
    exact (num_yes (k := 0) h (by omega) (Nat.zero_le _)).mono fun e w' ⟨h1, h2, h3⟩ => ⟨h1, h2, h3.grown⟩

/-- What Bytes hands back where nothing is left: no bytes. -/
def Nothing (w : World) (L B r : Nat) (e : Ending) (w' : World) : Prop := ∃ A c, e = .returned (.slice A 0 c) ∧ Rd w' L B r [] true ∧ w.grownBy w' (some r)
theorem bytes_empty {w : World} {L B r : Nat} (h : Rd w L B r [] true) (hB : B ≤ w.heap.size) (k : Int) :
    Calls Try.prog 19 #[.pointer (some ⟨r, 0, none⟩), .int .i64 k] w (Nothing w L B r) := by
  by_cases hk : k < 0 ∨ (([] : List Int).length : Int) < k
  · exact (bytes_no h hk).mono fun e w' ⟨h1, h2, h3⟩ => ⟨_, _, h1, h2, h3⟩
  · simp at hk
    obtain rfl : k = ((0 : Nat) : Int) := by omega
    exact (bytes_yes (k := 0) h hB (Nat.zero_le _)).mono fun e w' ⟨h1, h2, h3, h4⟩ => ⟨_, _, h1, h3, h4⟩

set_option maxHeartbeats 1000000 in
theorem walk (a0 : Option Addr) (len0 cap0 : Nat) (z0 : List Int) (a1 : Int) (a2 : Option Addr) (len2 cap2 : Nat) (l : List (Bool × Int)) (w : World) (w0 : IsRow .u8 w a0 len0 cap0 z0) (s0 : cap0 * 1 ≤ 140737488351232)
    (w1 : (Lit.int .i64 a1).wf = true) (w2 : TK w w.heap.size a2 len2 l) (hl2 : len2 ≤ 9223372036854775807) :
    Calls Try.prog 7 #[.slice a0 len0 cap0, .int .i64 a1, .slice a2 len2 cap2] w fun e w' => e = .returned (.bool true) ∧ Below w.heap.size w w' := by
  obtain ⟨hz, hl, hm⟩ := w0.ri
  have b1 := i64_bd w1
  have HZ := Lib.hid hz
  have HT := Lib.hid w2
  clear w0 hz w2 w1
  by_cases hpos : 0 < a1
  all_goals
    go_enter Try.func7, Try.ntmps7
    go_wp2_with fail
    refine (awake_yes _).mono ?_
    rintro e w1 ⟨rfl, hB1⟩
    have HN := Lib.hid (new_any w1 w1.heap.size a0 len0 cap0 _ ((HZ.out.below hB1).more hB1.size) (Nat.le_refl _) (by omega))
    go_wp2_with fail
    refine Calls.mono HN.out ?_
    rintro e w2 ⟨r, rfl, hr2, hB2⟩
    have hz1 := HZ.out.1
    have HNo : Hid (∀ k : Int, (len0 : Int) < k → Calls Try.prog 19 #[.pointer (some ⟨r, 0, none⟩), .int .i64 k] w2 fun e w' => e = .returned (.slice none 0 0) ∧ Rd w' w1.heap.size w2.heap.size r [] true ∧ w2.grownBy w' (some r)) := fun k hk => bytes_no hr2 (.inr (by rw [hz1]; exact hk))
    have hBw : Below w.heap.size w w2 := hB1.trans (hB2.mono hB1.size)
    have hrL : w.heap.size ≤ r := Nat.le_trans hB1.size hr2.bounds.1
    obtain ⟨L, hL⟩ : ∃ L, L = w1.heap.size := ⟨_, rfl⟩
    rw [← hL] at HNo
    clear HN hr2 hB1 hB2 hz1 hL
    go_wp2_with fail
    refine Calls.mono (HNo.out _ (by omega)) ?_
    rintro e w3 ⟨rfl, hr3, hg3⟩
    have hB3 : Below w.heap.size w w3 := hBw.trans (grown_below hg3 hrL hBw.size)
    have hs3 := hg3.size
    obtain ⟨B, hB, hr3'⟩ : ∃ B, B ≤ w3.heap.size ∧ Rd w3 L B r [] true := ⟨_, hs3, hr3⟩
    clear hg3 hs3 hr3
    go_wp2_with fail
    go_loopw [11] (fun i wr => ∃ i' : Nat, i' ≤ len2 ∧ i = .int .i64 i' ∧ Rd wr L B r [] true ∧ B ≤ wr.heap.size ∧ Below w.heap.size w wr) (fun i _ => len2 - (intOf i).toNat)
    case atStart => exact ⟨0, Nat.zero_le _, rfl, hr3', hB, hB3⟩
    case round =>
      obtain ⟨i, hi, rfl, hrd, hBr, hbl⟩ := hrel
      clear hr3' hB hB3
      have HSh := Lib.hid (fun (W : World) (h : Rd W L B r [] true) => short_any h)
      have HLf := Lib.hid (fun (W : World) (h : Rd W L B r [] true) => left_any h)
      by_cases hlt : i < len2
      · obtain ⟨b, o, p, rfl, hb, hp, hpw, hc0, hc1⟩ := (HT.out.below hbl).at_ hlt
        have hlt' : (i : Int) < len2 := by omega
        have HNu := Lib.hid (num_empty hrd p.2)
        have hc2 : Hid (∀ w4, wr.grownBy w4 (some r) → w4.cell? ⟨b, o + i * 2 + 1, none⟩ = some (.int .i64 p.2)) := fun w4 h4 => ((grown_below h4 hrL hbl.size).cell (p := ⟨b, o + i * 2 + 1, none⟩) hb).trans hc1
        have HBy := Lib.hid (fun (W : World) (h : Rd W L B r [] true) (hB : B ≤ W.heap.size) => bytes_empty h hB p.2)
        clear hp hpw
        go_wp2_with fail
        refine Calls.mono (HSh.out _ hrd) ?_
        rintro e w' ⟨rfl, rfl⟩
        go_wp2_with fail
        refine Calls.mono (HLf.out _ hrd) ?_
        rintro e w' ⟨rfl, rfl⟩
        go_wp2_with fail
        refine Calls.mono HNu.out ?_
        rintro e w4 ⟨rfl, hr4, hg4⟩
        have hc4 := hc2.out w4 hg4
        have hs4 : B ≤ w4.heap.size := Nat.le_trans hBr hg4.size
        have hB4 : Below w.heap.size w w4 := hbl.trans (grown_below hg4 hrL hbl.size)
        clear hg4 hbl hrd
        go_wp2_with fail
        refine Calls.mono (HBy.out _ hr4 hs4) ?_
        rintro e w5 ⟨A5, c5, rfl, hr5, hg5⟩
        have hs5 : B ≤ w5.heap.size := Nat.le_trans hs4 hg5.size
        have hB5 : Below w.heap.size w w5 := hB4.trans (grown_below hg5 hrL hB4.size)
        clear hg5 hB4 hr4
        go_wp2
        go_roundw
        case rel => exact ⟨i + 1, by omega, by go_num, hr5, hs5, hB5⟩
        case measure => simp [intOf]; omega
      · obtain rfl : i = len2 := by omega
        go_wp2_with fail
        refine Calls.mono (HSh.out _ hrd) ?_
        rintro e w' ⟨rfl, rfl⟩
        go_wp2
        go_ret
        exact ⟨rfl, hbl⟩

set_option maxRecDepth 100000 in
theorem lifted (os : Os) (started : os.Started) (H : Type) (enc : TypeId × Value → H) :
    ReturnsInHanded {} Try.checked os 7 .any (Rows.octetShortSpec.pre6 enc Try.prog Try.f7 Rows.octetShortRow.domain false) (Rows.octetShortSpec.post enc Try.prog Try.f7 false true false false) := by
  refine returnsInHanded_of_change_sized (C := Try.checked) own started (by kernel_rfl) Try.func7
    (ChangeSpec.witness6 (enc := enc) (C := Try.checked) false ⟨#[], #[.slice none 0 0, .int .i64 0, .slice none 0 0], []⟩ 8 (by kernel_rfl) (by kernel_rfl) (by kernel_rfl) (by kernel_rfl)) ?_
  intro W base args ds gs before hval0 hW hcnd hsz0 _
  have hsz : (DataW.weightsEach Try.prog (Try.f7.params.toList ++ Rows.octetShortSpec.plain.varTypes Try.prog) (ds ++ gs)).all (· ≤ reachBytes) = true := hsz0
  clear hsz0
  have hval : ∀ (j : Nat) t v, Try.f7.params[j]? = some t → args[j]? = some v → Value.okWide Try.prog W .any base t v := hval0
  have hW' := hW
  obtain ⟨p, q, hA0, hV, rfl, hfz, hnd⟩ := hW
  have hA : DataW.TrodAll enc Try.prog W 0 (fun _ => true) true Try.f7.params.toList args.toList ds p := hA0
  rw [Try.params7] at hA hval hsz
  obtain ⟨v0, vs0, d0, ds0, p0, q0, hargs, rfl, rfl, h0, r0⟩ := trodAll_cons hA
  obtain ⟨v1, vs1, d1, ds1, p1, q1, rfl, rfl, rfl, h1, r1⟩ := trodAll_cons r0
  obtain ⟨v2, vs2, d2, ds2, p2, q2, rfl, rfl, rfl, h2, r2⟩ := trodAll_cons r1
  obtain ⟨rfl, rfl, rfl⟩ := trodAll_nil r2
  obtain rfl : args = #[v0, v1, v2] := by cases args; simp_all
  obtain ⟨rfl, rfl⟩ := trodVars_none hV
  obtain ⟨a0, len0, cap0, rfl⟩ := okWide_slice Try.underlying22 (hval 0 22 v0 rfl rfl)
  have k0 := h0
  have lt0 : ∀ x ∈ p0, x.block < W.heap.size := by obtain ⟨m, hm⟩ := k0; exact DataW.trod_lt m _ _ _ hm
  obtain ⟨z0, w0, s0⟩ : ∃ zs, IsRow .u8 W a0 len0 cap0 zs ∧ cap0 * 1 ≤ 140737488351232 := by
    obtain ⟨fuel, hf⟩ := h0
    rcases open_ints Try.underlying22 Try.underlying5 (by kernel_rfl) hf with ⟨hcs, _⟩ | ⟨x, l, c, zs, hcs, _, hl, hm, hz, hx, hcell, hwz⟩
    · simp [Value.cells] at hcs
      obtain ⟨rfl, rfl, rfl⟩ := hcs
      exact ⟨[], .inl ⟨rfl, rfl, rfl, rfl⟩, by omega⟩
    · simp [Value.cells] at hcs
      obtain ⟨rfl, rfl, rfl⟩ := hcs
      have hz' : zs.length = cap0 := by simpa using hz
      simp only [Prod.mk.injEq] at hx
      obtain ⟨rfl, rfl⟩ := hx
      have hs := sized_slice hsz (j := 0) (t := 22) (e := 5) rfl rfl Try.underlying22
      rw [Try.bytes5] at hs
      simp only [lits, List.length_map, List.length_take, List.length_drop, reachBytes] at hs
      exact ⟨zs, .inr ⟨_, rfl, hl, hm, hz', hcell, hwz⟩, by omega⟩
  obtain ⟨a1, rfl, rfl, rfl, w1⟩ := open_int Try.underlying3 (hval 1 3 v1 rfl rfl) h1
  obtain ⟨a2, len2, cap2, rfl⟩ := okWide_slice Try.underlying32 (hval 2 32 v2 rfl rfl)
  have k2 := h2
  have lt2 : ∀ x ∈ p2, x.block < W.heap.size := by obtain ⟨m, hm⟩ := k2; exact DataW.trod_lt m _ _ _ hm
  obtain ⟨l2, w2, hl2, hm2⟩ : ∃ l, TK W W.heap.size a2 len2 l ∧ len2 ≤ cap2 ∧ cap2 ≤ 9223372036854775807 := by
    obtain ⟨fuel, hf⟩ := h2
    exact open_takes hf
  clear hA0 hval0
  refine (walk a0 len0 cap0 z0 a1 a2 len2 cap2 l2 W w0 s0 w1 w2 (by omega)).mono fun e W' ⟨he, bel⟩ => ?_
  subst he
  exact ⟨_, rfl, _, _, _, [], _, [], hW', trodAll_mk1 (shut_bool Try.underlying4 _), (trodAll_cons_mk (Below.trod laidOut (by kernel_rfl) (of_decide_eq_true (by kernel_rfl)) k0 bel lt0) (trodAll_cons_mk (shut_int Try.underlying3 w1) (trodAll_cons_mk (Below.trod laidOut (by kernel_rfl) (of_decide_eq_true (by kernel_rfl)) k2 bel lt2) trodAll_mk0))), rfl, bel.frame _, fun h => by cases h⟩

theorem over : Rows.octetShortRow.holds Try.pinned (OpenSpec.ofChange Rows.octetShortSpec) :=
  OpenClaim.holds_of_wide 7 Try.f7 rfl rfl rfl rfl rfl rfl rfl ⟨rfl, rfl, rfl, rfl, rfl⟩ rfl rfl rfl rfl rfl (by kernel_rfl) Try.func7 (by kernel_rfl)
    (of_decide_eq_true (by kernel_rfl)) (by unfold Func.isWrapper; first | (rw [if_pos (by decide +kernel)]; kernel_rfl) | (rw [if_neg (by decide +kernel)]; exact ⟨rfl, rfl⟩))
    (fun os started H enc _ => lifted os started H enc)

theorem proved : Rows.OctetShortSaid := over
#print axioms proved
end Go.Proofs.Ytigkikoogolkkaa.Short

