/-
  What is proved: of any bytes (the last one left out where they are odd): their sum is that of their words in any turn of their order; of words turned round it is turned round; it is the sum of an even part's sum and the rest's; the call returns true, and leaves its arguments alone. No condition.
-/
import Derived.Test.YtelkjcgfielbpaaTWords
import Derived.Test.YtelkjcgfielbpaaFrame
import Derived.Deep.RegionHeld3
import Derived.Deep.AppendLies
namespace Go.Proofs.Ytelkjcgfielbpaa.Ordr
open Go.ChangeShapes Go.WideShapes Go.ChangeAt Go.RowKit
open Go.Proofs.Ytelkjcgfielbpaa
set_option linter.unusedVariables false

/-- The contract of one Sum of one slice, at whatever world the walk has come to. -/
def SumAt (w4 : World) (A : Option Addr) (n c : Nat) (V : Int) : Prop := ∀ W', Below w4.heap.size w4 W' →
    Calls Try.prog 11 #[.slice (some ⟨W'.heap.size, 0, none⟩) 1 1] (W'.alloc (.cells #[.slice A n c] 24)) fun e w' => e = .returned (.int .u16 V) ∧ Below w4.heap.size w4 w'
theorem sumAt {w4 : World} {A : Option Addr} {n : Nat} (c : Nat) {V : Int} {B : Nat} {zs : List Int} (h : RI .u8 w4 B A n zs) (hB : B ≤ w4.heap.size) (hn : n ≤ 4611686018427387904) (hV : fo (tot 0 zs) = V) : SumAt w4 A n c V := by
  intro W' hb
  have h1 := sum_one W' w4.heap.size A n c zs ((h.more hB).below hb) hb.size hn
  rw [hV] at h1
  refine Calls.mono h1 ?_
  rintro e w' ⟨rfl, rfl⟩
  exact ⟨rfl, hb.alloc hb.size _⟩

/-- Both slices are laid out ahead of the first of the two calls. -/
theorem rs_one {W : World} {g : Nat} {A : Option Addr} {n c B : Nat} {zs : List Int} (hb : Blk W g 24 #[.slice A n c]) (h : RI .u8 W B A n zs) : RS W (some ⟨g, 0, none⟩) 1 [zs] := by
  refine ⟨rfl, fun _ => ⟨_, _, rfl, fun j ys hj => ?_⟩⟩
  rcases j with _ | j
  · obtain rfl : zs = ys := by simpa using hj
    exact ⟨A, n, c, B, by rw [hb.cell]; rfl, h⟩
  · simp at hj
theorem sum_rs {W : World} {g n : Nat} {zs : List Int} {V : Int} (h : RS W (some ⟨g, 0, none⟩) 1 [zs]) (hl : zs.length = n) (hn : n ≤ 4611686018427387904) (hV : fo (tot 0 zs) = V) :
    Calls Try.prog 11 #[.slice (some ⟨g, 0, none⟩) 1 1] W fun e w' => e = .returned (.int .u16 V) ∧ W = w' := by
  have h1 := sum_any W _ 1 1 _ h (by decide) (by simp [hl]; exact hn)
  simpa [hV] using h1
def SumTwo (w4 : World) (A A2 : Option Addr) (n c n2 c2 : Nat) (V V2 : Int) : Prop := ∀ W', Below w4.heap.size w4 W' →
    (Calls Try.prog 11 #[.slice (some ⟨W'.heap.size, 0, none⟩) 1 1] ((W'.alloc (.cells #[.slice A n c] 24)).alloc (.cells #[.slice A2 n2 c2] 24)) fun e w' => e = .returned (.int .u16 V) ∧ (W'.alloc (.cells #[.slice A n c] 24)).alloc (.cells #[.slice A2 n2 c2] 24) = w') ∧
    (Calls Try.prog 11 #[.slice (some ⟨W'.heap.size + 1, 0, none⟩) 1 1] ((W'.alloc (.cells #[.slice A n c] 24)).alloc (.cells #[.slice A2 n2 c2] 24)) fun e w' => e = .returned (.int .u16 V2) ∧ Below w4.heap.size w4 w') ∧
    (Calls Try.prog 11 #[.slice (some ⟨W'.heap.size + 1, 0, none⟩) 1 1] ((W'.alloc (.cells #[.slice A n c] 24)).alloc (.cells #[.slice A2 n2 c2] 24)) fun e w' => e = .returned (.int .u16 V2) ∧ (W'.alloc (.cells #[.slice A n c] 24)).alloc (.cells #[.slice A2 n2 c2] 24) = w') ∧
    (Calls Try.prog 11 #[.slice (some ⟨W'.heap.size, 0, none⟩) 1 1] ((W'.alloc (.cells #[.slice A n c] 24)).alloc (.cells #[.slice A2 n2 c2] 24)) fun e w' => e = .returned (.int .u16 V) ∧ Below w4.heap.size w4 w')
theorem sumTwo {w4 : World} {A A2 : Option Addr} {n n2 B : Nat} (c c2 : Nat) {V V2 : Int} {zs zs2 : List Int} (h : RI .u8 w4 B A n zs) (h2 : RI .u8 w4 B A2 n2 zs2) (hB : B ≤ w4.heap.size) (hn : n ≤ 4611686018427387904) (hn2 : n2 ≤ 4611686018427387904) (hV : fo (tot 0 zs) = V) (hV2 : fo (tot 0 zs2) = V2) : SumTwo w4 A A2 n c n2 c2 V V2 := by
  intro W' hb
  have hB1 : Below w4.heap.size w4 (W'.alloc (.cells #[.slice A n c] 24)) := hb.alloc hb.size _
  have hB2 : Below w4.heap.size w4 ((W'.alloc (.cells #[.slice A n c] 24)).alloc (.cells #[.slice A2 n2 c2] 24)) := hB1.alloc hB1.size _
  have b1 := (Blk.new W' 24 #[.slice A n c]).alloc (.cells #[.slice A2 n2 c2] 24)
  have b2 := Blk.new (W'.alloc (.cells #[.slice A n c] 24)) 24 #[.slice A2 n2 c2]
  have hz : (W'.alloc (.cells #[.slice A n c] 24)).heap.size = W'.heap.size + 1 := by simp
  rw [hz] at b2
  have e1 := sum_rs (rs_one b1 ((h.more hB).below hB2)) h.1 hn hV
  have e2 := sum_rs (rs_one b2 ((h2.more hB).below hB2)) h2.1 hn2 hV2
  refine ⟨e1, Calls.mono e2 ?_, e2, Calls.mono e1 ?_⟩
  · rintro e w' ⟨rfl, rfl⟩
    exact ⟨rfl, hB2⟩
  · rintro e w' ⟨rfl, rfl⟩
    exact ⟨rfl, hB2⟩

set_option maxRecDepth 100000 in
set_option maxHeartbeats 1000000 in
theorem walk (w : World) (a0 : Option Addr) (l0 c0 : Nat) (z0 : List Int) (w0 : IsRow .u8 w a0 l0 c0 z0) (s0 : c0 * 1 ≤ 140737488351232) (a1 : Int) (w1 : (Lit.int .i64 a1).wf = true) :
    Calls Try.prog 9 #[.slice a0 l0 c0, .int .i64 a1] w fun e w' => e = .returned (.bool true) ∧ Below w.heap.size w w' := by
  obtain ⟨hz, hl, hm⟩ := w0.ri
  have hA : a0 = none → c0 = 0 := by
    intro h
    rcases w0 with ⟨_, _, h, _⟩ | ⟨x, h', _⟩
    · exact h
    · rw [h] at h'; cases h'
  have b1 := i64_bd w1
  have HA := Lib.hid hA
  have hcase : (∃ L, l0 = L + 1 ∧ L % 2 = 0) ∨ l0 % 2 = 0 := by
    rcases Nat.mod_two_eq_zero_or_one l0 with h | h
    · exact .inr h
    · exact .inl ⟨l0 - 1, by omega, by omega⟩
  rcases hcase with ⟨L, rfl, hL⟩ | hL
  have ho : (((L : Int) + 1) % 2 == 1) = true := by simp; omega
  have HZ : Hid (RI .u8 w w.heap.size a0 L (z0.take L)) := by
    show RI .u8 w w.heap.size a0 L (z0.take L)
    have hlen := hz.1
    simp at hlen
    refine ⟨by simp; omega, fun h => ?_, fun z h => hz.2.2 z (by rw [show L = min L (L + 1) by omega, ← List.take_take] at h; exact List.mem_of_mem_take h)⟩
    obtain ⟨b, o, e, hb, hc⟩ := hz.2.1 (by omega)
    exact ⟨b, o, e, hb, fun j z hj => hc j z (by rw [List.getElem?_take] at hj ⊢; split at hj <;> simp_all; omega)⟩
  have HL := Lib.hid hL
  clear w0 hz hA hL
  go_enter Try.func9, Try.ntmps9
  go_wp2_with fail
  refine (tawake_yes _).mono ?_
  rintro e w1 ⟨rfl, hB1⟩
  go_wp2_with fail
  rotate_left
  obtain ⟨L, hLL⟩ : ∃ L, L = l0 := ⟨_, rfl⟩
  subst hLL
  have ho : ((L : Int) % 2 == 1) = false := by simp; omega
  have HZ := Lib.hid hz
  have HL := Lib.hid hL
  clear w0 hz hA hL
  go_enter Try.func9, Try.ntmps9
  go_wp2_with fail
  refine (tawake_yes _).mono ?_
  rintro e w1 ⟨rfl, hB1⟩
  go_wp2_with fail
  all_goals
    obtain ⟨z, hzz⟩ : ∃ z, z = z0.take L := ⟨_, rfl⟩
    rw [← hzz] at HZ
    clear hzz ho
    by_cases hlt : L < 2
    · refine (word_no _ _ _ _ _ hlt).mono ?_
      rintro e w' ⟨rfl, rfl⟩
      have hz0 : z = [] := List.eq_nil_of_length_eq_zero (by have := HZ.out.1; have := HL.out; omega)
      have HS := sum_one w1 w.heap.size a0 L c0 z (HZ.out.below hB1) hB1.size (by omega)
      rw [show fo (tot 0 z) = 0 by rw [hz0]; rfl] at HS
      have HSS := Lib.hid HS
      clear hz0 HS
      go_wp2_with fail
      refine Calls.mono HSS.out ?_
      rintro e w' ⟨rfl, rfl⟩
      go_wp2
      go_ret
      exact ⟨rfl, hB1.alloc hB1.size _⟩
    · refine (word_yes _ _ _ _ _ (by omega) (by omega) b1.1 b1.2).mono ?_
      rintro e w' ⟨k, hk, hkl, rfl, rfl⟩
      have HK := Lib.hid hk
      clear hk
      go_wp2_with fail
      go_loopw [8, 9] (fun v i wr => ∃ q : Nat, q ≤ L ∧ q % 2 = 0 ∧ i = .int .i64 q ∧ wr.ownsRow w.heap.size 5 1 v q ((swp (z.take q)).map (Value.int .u8)) ∧ Below w.heap.size w wr) (fun _ i _ => L - (intOf i).toNat)
      case atStart => exact ⟨0, Nat.zero_le _, rfl, rfl, ⟨by simp [swp], .inl ⟨rfl, rfl⟩⟩, hB1⟩
      case round =>
        obtain ⟨q, hq, hqe, rfl, hown, hbel⟩ := hrel
        by_cases hql : q < L
        · have hq1 : q + 1 < L := by have := HL.out; omega
          obtain ⟨b, o, x, ea, hb, hx, hxw, hcx⟩ := HZ.out.at_ (j := q) (by omega)
          obtain ⟨b', o', y, ea', hb', hy, hyw, hcy⟩ := HZ.out.at_ (j := q + 1) hq1
          rw [ea] at ea'
          injection ea' with ea'
          injection ea' with e1 e2
          subst e1 e2
          subst ea
          have hxb := u8_bd hxw
          have hyb := u8_bd hyw
          have hk0 : (q : Int) < L := by omega
          have hk1 : (q : Int) + 1 < L := by omega
          have hk2 : IntKind.i64.wrap ((q : Int) + 1) = (q : Int) + 1 := IntWalk.i64_in _ (by omega)
          have hk3 : 0 ≤ (q : Int) + 1 := by omega
          have hk4 : ((q : Int) + 1).toNat = q + 1 := by omega
          have HW := Lib.hid (swp_step (l := z) (j := q / 2) (x := x) (y := y) (by rw [show 2 * (q / 2) = q by omega]; exact hx) (by rw [show 2 * (q / 2) = q by omega]; exact hy))
          have HE := Lib.hid hqe
          have HO := Lib.hid hown
          have HC : Hid (∀ W', Below w.heap.size w W' → W'.cell? ⟨b, o + q, none⟩ = some (.int .u8 x) ∧ W'.cell? ⟨b, o + (q + 1), none⟩ = some (.int .u8 y)) := by
            show ∀ W', _ → _
            intro W' h
            exact ⟨(h.cell (p := ⟨b, o + q, none⟩) hb).trans hcx, (h.cell (p := ⟨b, o + (q + 1), none⟩) hb).trans hcy⟩
          obtain ⟨cx, cy⟩ := HC.out wr hbel
          obtain ⟨i0, hi0, hz0, hz1, hz2⟩ := info_parts Try.info5
          have HI := Lib.hid (And.intro hi0 (And.intro hz0 (And.intro hz1 hz2)))
          have HN1 : Hid (q + 2 ≤ maxLen ∧ (q + 2) * 1 ≤ 140737488355328) := by show _ ∧ _; unfold maxLen; omega
          clear hx hy hxw hyw hb hb' hown hqe hcx hcy hi0 hz0 hz1 hz2
          go_wp2_with fail
          go_region_held3 (fun w' => w'.cell? ⟨b, o + q, none⟩ = some (.int .u8 x) ∧ w'.cell? ⟨b, o + (q + 1), none⟩ = some (.int .u8 y))
            (first | exact HC.out _ HB2.out | go_keep)
            ((refine step_append_lies _ (by rfl) _ _ _ (by rfl) w.heap.size 5 i0 _ 1 1 Try.underlying24 HI.out.1 HI.out.2.1 HI.out.2.2.1 HI.out.2.2.2 rfl (by decide) u8 q _ (by rfl) ((HO.out.alloc _).drew)
                ⟨wr.heap.size, 0, none⟩ 2 2 [.int .u8 y, .int .u8 x] (by rfl) (by rfl) (World.news_of_block (cs := #[.int .u8 y, .int .u8 x]) (t := 5) (fr := (0, 0)) (heap_alloc_new wr _)) (by simp [Value.oneCell'])
                (by decide) HN1.out.1 HN1.out.2 (by have := hbel.size; simp; omega) (wr.heap.size + 1) (by simp) ?_; intro gg cap w2 hown2 hgrow hat hlt2
              have HO2 := Lib.hid hown2
              have HB2 : Hid (Below w.heap.size w w2) := (by show Below _ _ _; exact ((hbel.alloc hbel.size _).drew).grown hgrow (by have := hbel.size; simp; omega) (own_basek HO.out))
              clear hown2 hgrow hat hlt2))
          clear hk2 hk3 hk4
          go_wp2
          go_roundw
          case rel => exact ⟨q + 2, by omega, by have := HE.out; omega, by go_num, by have := HO2.out; have h2 := HW.out; have h3 := HE.out; rw [show 2 * (q / 2 + 1) = q + 2 by omega, show 2 * (q / 2) = q by omega] at h2; rw [h2]; simpa using this, HB2.out⟩
          case measure => simp [intOf]; omega
        · obtain rfl : q = L := by omega
          rw [List.take_of_length_le (by rw [HZ.out.1]; exact Nat.le_refl _)] at hown
          have hbz : Bys z := HZ.out.by_.bys
          obtain ⟨At, ct, rfl, hrt, hAt, hbt, hlt1, hlt2⟩ := own_ri (fun t ht => wf_u8 (swp_by hbz t ht)) hown
          obtain ⟨b, o, x, rfl, hb, hx, hxw, hcx⟩ := HZ.out.at_ (j := k) (by omega)
          have HRT := Lib.hid hrt
          have hkq : (k : Int) < q := by omega
          have HZr := HZ.out.below hbel
          have HD := Lib.hid (HZr.post (j := k) (by omega))
          have HP := Lib.hid (HZr.pre (j := k) (by omega))
          have HBZ := Lib.hid hbz
          clear hown hx hxw hcx hrt hAt hbt hlt1 hlt2 HZr hbz hqe
          go_wp2_with (first
            | (at_builtin; refine wpList_app0 _ rfl (.tmp 56) (.tmp 59) rfl w.heap.size rfl w.heap.size (some ⟨b, o + k, none⟩) (q - k) (c0 - k) (z.drop k) rfl HD.out (by omega) hbel.size (by omega) ?_; intro g3 cap3 w3 hown3 hg3 hat3; have HO3 := Lib.hid hown3; have HB3 : Below w.heap.size w w3 := hbel.grown hg3 hbel.size (fun k hk => by cases hk); have HR3 : Below wr.heap.size wr w3 := (Below.refl _ _).grown hg3 (Nat.le_refl _) (fun k hk => by cases hk); have HA3 := Lib.hid hat3; clear hown3 hg3 hat3)
            | (at_builtin; refine wpList_app1 _ rfl (.tmp 61) (.tmp 64) rfl w.heap.size (.slice (some ⟨g3, 0, none⟩) (q - k) cap3) (q - k) (z.drop k) rfl HO3.out w.heap.size (some ⟨b, o, none⟩) k c0 (z.take k) rfl (fun h => by cases h) (HP.out.keep (fun p hp => (HB3.cell hp).trans (hbel.cell hp).symm)) (by omega) HB3.size (by omega) ?_; intro g4 cap4 w4 hown4 hg4 hat4; have HO4 := Lib.hid hown4; have HB4 : Below w.heap.size w w4 := HB3.grown hg4 HB3.size (own_basek HO3.out); have HR4 : Below wr.heap.size wr w4 := HR3.grown hg4 HR3.size (fun k hk => by simp [Value.ownBlock] at hk; have := HA3.out; omega); clear hown4 hg4 hat4))
          have hst := Starts.of_own ((HBZ.out.drop k).append (HBZ.out.take k)) HO4.out
          have hZ4 := HZ.out.below HB4
          have hsz := HB4.size
          obtain ⟨S, hS⟩ : ∃ S, S = fo (tot 0 z) := ⟨_, rfl⟩
          obtain ⟨T, hT⟩ : ∃ T, T = fo (tot 0 (swp z)) := ⟨_, rfl⟩
          obtain ⟨X, hX⟩ : ∃ X, X = fo (tot 0 (z.take k)) := ⟨_, rfl⟩
          obtain ⟨Y, hY⟩ : ∃ Y, Y = fo (tot 0 (z.drop k)) := ⟨_, rfl⟩
          have hzl : z.length = q := HZ.out.1
          have hTS : T = S % 256 * 256 + S / 256 := by rw [hT, hS]; exact swp_fo HBZ.out (by rw [hzl]; exact HL.out)
          have hXY : ad X Y = S := by
            rw [hX, hY, hS, ad_fo_fo (tot_nonneg (HBZ.out.take k) 0) (tot_nonneg (HBZ.out.drop k) 0), parts_tot HK.out (by omega)]
          have M1 := Lib.hid (sumAt c0 hZ4 hsz (by omega) hS.symm)
          have M2 := Lib.hid (sumAt ct (HRT.out.below HR4) HR4.size (by omega) hT.symm)
          have M3 := Lib.hid (sumAt cap4 (hst.ri hst.lt) (Nat.le_refl _) (by omega) (V := S) (by rw [moved_tot HK.out (by rw [hzl]; exact HL.out) (by omega), ← hS]))
          have M4 := Lib.hid (sumTwo c0 (c0 - k) (hZ4.pre (j := k) (by omega)) (hZ4.post (j := k) (by omega)) hsz (by omega) (by omega) hX.symm hY.symm)
          have M10 := Lib.hid (sumTwo (c0 - k) c0 (hZ4.post (j := k) (by omega)) (hZ4.pre (j := k) (by omega)) hsz (by omega) (by omega) hY.symm hX.symm)
          have M8 := Lib.hid (sumAt c0 (hZ4.pre (j := k) (by omega)) hsz (by omega) hX.symm)
          have M9 := Lib.hid (sumAt (c0 - k) (hZ4.post (j := k) (by omega)) hsz (by omega) hY.symm)
          have bS : W16 S := by rw [hS]; exact W16.fo (tot_nonneg HBZ.out 0)
          have bX : W16 X := by rw [hX]; exact W16.fo (tot_nonneg (HBZ.out.take k) 0)
          have bY : W16 Y := by rw [hY]; exact W16.fo (tot_nonneg (HBZ.out.drop k) 0)
          have M6 : Hid (∀ W, Calls Try.prog 15 #[.int .u16 X, .int .u16 Y] W fun e w' => e = .returned (.int .u16 S) ∧ W = w') := by
            show ∀ W, _
            intro W; have := add_any X Y bX bY W; rwa [hXY] at this
          obtain ⟨s0', s1'⟩ := bS
          obtain ⟨R, hR⟩ : ∃ R, R = S % 256 := ⟨_, rfl⟩
          obtain ⟨D, hDD⟩ : ∃ D, D = S / 256 := ⟨_, rfl⟩
          obtain ⟨R2, hR2⟩ : ∃ R2, R2 = R * 256 := ⟨_, rfl⟩
          have r1 : S.tmod 256 = R := by rw [Int.tmod_eq_emod_of_nonneg s0', hR]
          have r2 : S.tdiv 256 = D := by rw [Int.tdiv_eq_ediv_of_nonneg s0', hDD]
          have r3 : IntKind.u16.wrap R = R := by rw [IntKind.wrap_u16]; omega
          have r4 : IntKind.u16.wrap D = D := by rw [IntKind.wrap_u16]; omega
          have r5 : IntKind.u16.wrap R2 = R2 := by rw [IntKind.wrap_u16]; omega
          have r6 : R2 + D = T := by rw [hTS, hR2, hR, hDD]
          have r7 : IntKind.u16.wrap T = T := by rw [IntKind.wrap_u16]; omega
          have r8 := hR.symm
          have r9 := hDD.symm
          have r10 := hR2.symm
          have E := Lib.hid (And.intro r1 (And.intro r2 (And.intro r3 (And.intro r4 (And.intro r5 (And.intro r6 (And.intro r7 (And.intro r8 (And.intro r9 r10)))))))))
          clear r1 r2 r3 r4 r5 r6 r7 r8 r9 r10 hR hDD hR2
          have hD : Below w4.heap.size w4 w4 := Below.refl _ _
          have HTS := Lib.hid hTS
          clear hst hZ4 hS hT hX hY hzl hTS hXY bX bY HO3 HO4 HA3 HB3 HR3 HD HP HRT hbel
          go_wp2_with fail
          have hc := M1.out _ hD
          (with_reducible refine Calls.mono hc ?_)
          clear hc
          rintro e w5 ⟨rfl, hD⟩
          go_wp2_with fail
          have hc := M2.out _ hD
          (with_reducible refine Calls.mono hc ?_)
          clear hc
          rintro e w6 ⟨rfl, hD⟩
          go_wp2_with fail
          have hD := hD.drew
          have M7 : Hid (Calls Try.prog 11 #[.slice (some ⟨w6.heap.size, 0, none⟩) 1 1] ((w6.alloc (.cells #[.slice (some ⟨g4, 0, none⟩) (q - k + k) cap4] 24)).drew) fun e w' => e = .returned (.int .u16 S) ∧ Below w4.heap.size w4 w') := Lib.hid (M3.out _ hD)
          clear hD
          obtain ⟨r1, r2, r3, r4, r5, r6, r7, r8, r9, r10⟩ := E.out
          have t1 : (0 : Int) ≤ (k : Int) := by omega
          have t2 : (k : Int) ≤ (c0 : Int) := by omega
          have t3 : (k : Int) ≤ (q : Int) := by omega
          have t4 : (q : Int) ≤ (c0 : Int) := by omega
          have t5 : ¬ (c0 = k) := by omega
          go_region_held3 (fun w' => True) (first | trivial | go_keep)
            ((first
              | (go_at_call 11; (first
                | (with_reducible refine Calls.mono M7.out ?_)
                | (have hc := M8.out _ hD; (with_reducible refine Calls.mono hc ?_); clear hc)
                | (have hc := M9.out _ hD; (with_reducible refine Calls.mono hc ?_); clear hc)); rintro e W' ⟨rfl, hD⟩)
              | (go_at_call 11; have hc := (M4.out _ hD).1; (with_reducible refine Calls.mono hc ?_); clear hc; rintro e w' ⟨rfl, rfl⟩)
              | (go_at_call 11; have hc := (M4.out _ hD).2.1; (with_reducible refine Calls.mono hc ?_); clear hc; rintro e W' ⟨rfl, hD⟩)
              | (go_at_call 11; have hc := (M10.out _ hD).2.2.1; (with_reducible refine Calls.mono hc ?_); clear hc; rintro e w' ⟨rfl, rfl⟩)
              | (go_at_call 11; have hc := (M10.out _ hD).2.2.2; (with_reducible refine Calls.mono hc ?_); clear hc; rintro e W' ⟨rfl, hD⟩)
              | (go_at_call 15; refine Calls.mono (M6.out _) ?_; rintro e w' ⟨rfl, rfl⟩)))
          all_goals
            clear r1 r2 r3 r4 r5 r6 r7 r8 r9 r10
            go_wp2
            go_ret
            exact ⟨rfl, HB4.trans (hD.mono HB4.size)⟩

set_option maxRecDepth 100000 in
theorem contract (H : Type) (enc : TypeId × Value → H) (W : World) (base : Nat) (args : Array Value) (ds gs : List (DataW H)) (before : List MemPlace)
    (hval0 : ∀ (j : Nat) t v, Try.f9.params[j]? = some t → args[j]? = some v → Value.okWide Try.prog W .any base t v)
    (hW : DataW.Whole enc Try.prog Try.f9.params.toList Rows.tallyOrderSpec.vars false W args.toList ds gs before)
    (hsz0 : (DataW.weightsEach Try.prog (Try.f9.params.toList ++ Rows.tallyOrderSpec.plain.varTypes Try.prog) (ds ++ gs)).all (· ≤ reachBytes) = true) :
    Calls Try.prog 9 args W fun e W' => ∃ v, e = .returned v ∧ Rows.tallyOrderSpec.post enc Try.prog Try.f9 false true false false W args v W' := by
  have hsz := hsz0
  clear hsz0
  have hval := hval0
  clear hval0
  have hW' := hW
  obtain ⟨p, q, hA0, hV, rfl, hfz, hnd⟩ := hW
  have hA : DataW.TrodAll enc Try.prog W 0 (fun _ => true) true Try.f9.params.toList args.toList ds p := hA0
  rw [Try.params9] at hA hval hsz
  obtain ⟨v0, vs0, d0, ds0, p0, q0, hargs, rfl, rfl, h0, r0⟩ := trodAll_cons hA
  obtain ⟨v1, vs1, d1, ds1, p1, q1, rfl, rfl, rfl, h1, r1⟩ := trodAll_cons r0
  obtain ⟨rfl, rfl, rfl⟩ := trodAll_nil r1
  obtain rfl : args = #[v0, v1] := by cases args; simp_all
  obtain ⟨rfl, rfl⟩ := trodVars_none hV
  obtain ⟨a0, l0, c0, rfl⟩ := okWide_slice Try.underlying24 (hval 0 24 v0 rfl rfl)
  have k0 := h0
  have lt0 : ∀ x ∈ p0, x.block < W.heap.size := by obtain ⟨m, hm⟩ := k0; exact DataW.trod_lt m _ _ _ hm
  obtain ⟨z0, w0, s0⟩ : ∃ zs, IsRow .u8 W a0 l0 c0 zs ∧ c0 * 1 ≤ 140737488351232 := isRow_of Try.underlying24 Try.underlying5 (by kernel_rfl) (by kernel_rfl) h0 (fun hx => sized_slice hsz (j := 0) (t := 24) (e := 5) rfl (by rw [hx]; rfl) Try.underlying24)
  obtain ⟨a1, rfl, rfl, rfl, w1⟩ := open_int Try.underlying3 (hval 1 3 v1 rfl rfl) h1
  clear hA0
  refine (walk W a0 l0 c0 z0 w0 s0 a1 w1).mono fun e W' ⟨he, bel⟩ => ?_
  subst he
  exact ⟨_, rfl, _, _, _, [], _, [], hW', trodAll_mk1 (shut_bool Try.underlying4 _), (trodAll_cons_mk (Below.trod laidOut (by kernel_rfl) (of_decide_eq_true (by kernel_rfl)) k0 bel lt0) (trodAll_cons_mk (shut_int Try.underlying3 w1) trodAll_mk0)), rfl, bel.frame _, fun h => by cases h⟩

set_option maxRecDepth 100000 in
theorem lifted (os : Os) (started : os.Started) (H : Type) (enc : TypeId × Value → H) :
    ReturnsInHanded {} Try.checked os 9 .any (Rows.tallyOrderSpec.pre6 enc Try.prog Try.f9 Rows.tallyOrderRow.domain false) (Rows.tallyOrderSpec.post enc Try.prog Try.f9 false true false false) := by
  refine returnsInHanded_of_change_sized (C := Try.checked) own started (by kernel_rfl) Try.func9
    (ChangeSpec.witness6 (enc := enc) (C := Try.checked) false ⟨#[], #[.slice none 0 0, .int .i64 0], []⟩ 8 (by kernel_rfl) (by kernel_rfl) (by kernel_rfl) (by kernel_rfl)) ?_
  intro W base args ds gs before hval hW _ hsz _
  exact contract H enc W base args ds gs before hval hW hsz

theorem over : Rows.tallyOrderRow.holds Try.pinned (OpenSpec.ofChange Rows.tallyOrderSpec) :=
  OpenClaim.holds_of_wide 9 Try.f9 rfl rfl rfl rfl rfl rfl rfl ⟨rfl, rfl, rfl, rfl, rfl⟩ rfl rfl rfl rfl rfl (by kernel_rfl) Try.func9 (by kernel_rfl)
    (of_decide_eq_true (by kernel_rfl)) (by unfold Func.isWrapper; first | (rw [if_pos (by decide +kernel)]; kernel_rfl) | (rw [if_neg (by decide +kernel)]; exact ⟨rfl, rfl⟩))
    (fun os started H enc _ => lifted os started H enc)

theorem proved : Rows.TallyOrderSaid := over
#print axioms proved
end Go.Proofs.Ytelkjcgfielbpaa.Ordr
