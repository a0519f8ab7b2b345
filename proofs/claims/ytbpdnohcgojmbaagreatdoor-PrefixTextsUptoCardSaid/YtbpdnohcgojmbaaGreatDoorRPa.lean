/-
  The document's own Parse of any text: four numbers, or eight groups, or none.
-/
import Derived.Test.YtbpdnohcgojmbaaGreatDoorRPb
import Derived.StillTailTactics
namespace Go.Proofs.YtbpdnohcgojmbaaGreatDoor
open Go.RowKit
set_option linter.unusedVariables false

theorem four_eq (l : List UInt8) : four l = match alls decw (spl 46 l) with | some vs => if vs.length = 4 then some vs else none | none => none := by
  unfold four fourFrom
  cases alls decw (spl 46 l) with
  | none => rfl
  | some vs => simp
theorem num_bd4 {l : List (List UInt8)} {vs : List Nat} {J : Nat} (h : alls decw l = some vs) (hJ : vs.length = J) (h4 : J ≤ 4) : 0 ≤ numOf (vs.map Int.ofNat) ∧ numOf (vs.map Int.ofNat) < 4294967296 := by
  have hb : By (vs.map Int.ofNat) := by
    intro z hz
    obtain ⟨v, hv, rfl⟩ := List.mem_map.1 hz
    obtain ⟨x, _, e⟩ := alls_vals h v hv
    have := decw_le e
    simp; omega
  have := numOf_bd J _ (by simpa using hJ) hb
  have h2 : (256 : Int) ^ J ≤ 256 ^ 4 := by
    rcases (show J = 0 ∨ J = 1 ∨ J = 2 ∨ J = 3 ∨ J = 4 by omega) with rfl | rfl | rfl | rfl | rfl <;> decide
  omega
theorem sixD_at {l : List UInt8} {g : List Nat} {a : Int} (h : sixD l = some (g, a)) : a = -1 ∨ (0 ≤ a ∧ a ≤ g.length) := by
  unfold sixD at h
  split at h
  · cases hq : alls hexw (spl 58 l) with
    | none => rw [hq] at h; cases h
    | some x => rw [hq] at h; cases h; exact .inl rfl
  · split at h
    · cases h; right; simp only [List.length_append]; omega
    · cases h
theorem sixD_bd {l : List UInt8} {g : List Nat} {a : Int} (h : sixD l = some (g, a)) : ∀ v ∈ g, v < 65536 := by
  unfold sixD at h
  split at h
  · cases hq : alls hexw (spl 58 l) with
    | none => rw [hq] at h; cases h
    | some x => rw [hq] at h; cases h; exact hex_bd hq
  · split at h
    · rename_i h1 h2
      cases h
      intro v hv
      rcases List.mem_append.1 hv with h | h
      · exact gpart_bd h1 v h
      · exact gpart_bd h2 v h
    · cases h
/-- Where the reading of four numbers stands. -/
def Fst (L : List UInt8) (P : List (List UInt8)) (b : Bool) (J : Nat) (X : Int) : Prop :=
  (b = true → P.length = 4 ∧ J ≤ 4 ∧ ∃ vs, alls decw (P.take J) = some vs ∧ vs.length = J ∧ X = numOf (vs.map Int.ofNat)) ∧ (b = false → four L = none)

set_option maxRecDepth 100000 in
set_option maxHeartbeats 8000000 in
theorem rparse_any (s : ByteArray) (hs : s.size ≤ 1000000000) (w : World) :
    Calls Tryz.prog 21 #[.string s] w fun e w' => e = .returned (prsD s.data.toList) ∧ Below w.heap.size w w' := by
  have HSp := Lib.hid (fun W => rsplit_any s hs 46 46 rfl W)
  have HS6 := Lib.hid (fun W => rsix_any s hs W)
  obtain ⟨L, hL⟩ : ∃ L, s.data.toList = L := ⟨_, rfl⟩
  have hl : L.length = s.size := by rw [← hL]; exact (Lib.size_eq s).symm
  rw [hL] at HSp HS6 ⊢
  obtain ⟨P, hP⟩ : ∃ P, spl 46 L = P := ⟨_, rfl⟩
  have HPl : Hid (P.length ≤ 1000000001) := Lib.hid (by rw [← hP]; have := spl_len 46 L; omega)
  have HF : Hid (four L = match alls decw P with | some vs => if vs.length = 4 then some vs else none | none => none) := Lib.hid (by rw [four_eq, hP])
  rw [hP] at HSp
  unfold SplOut at HSp
  obtain ⟨n, hn⟩ : ∃ n, P.length = n := ⟨_, rfl⟩
  rw [hn] at HPl
  simp only [hn] at HSp
  have HN := Lib.hid hn
  clear hL hl hP hn
  go_enter Tryz.func21, Tryz.ntmps21
  go_wp2_with fail
  refine Calls.mono (HSp.out _) ?_
  rintro e w2 ⟨A, c, rfl, hti, hge, hb⟩
  have HTI := Lib.hid hti
  have HR2 := Lib.hid ((Blk.new w 24 #[.bool false, .int .u64 0, .int .u64 0]).below hb (by simp))
  have HB2 := Lib.hid (((Below.refl _ w).alloc (Nat.le_refl _) (.cells #[.bool false, .int .u64 0, .int .u64 0] 24)).trans (hb.mono (by simp)))
  clear hti hge hb HSp
  obtain ⟨B, hB⟩ : ∃ B, decide ((n : Int) = 4) = B := ⟨_, rfl⟩
  have hB2 : ((n : Int) == 4) = B := by rw [← hB]; rfl
  have HBB := Lib.hid hB
  clear hB
  go_wp2
  go_loopw [6, 7] (fun f i wr => ∃ (b : Bool) (J : Nat) (X : Int), f = .bool b ∧ i = .int .i64 (J : Int) ∧ J ≤ n ∧ Hid (Blk wr w2.heap.size 24 #[.bool false, .int .u64 0, .int .u64 X] ∧ Below w2.heap.size w2 wr ∧ Fst L P b J X)) (fun _ i _ => (n - (intOf i).toNat))
  case atStart =>
    refine ⟨B, 0, 0, rfl, rfl, Nat.zero_le _, Lib.hid ⟨Blk.new _ _ _, (Below.refl _ _).alloc (Nat.le_refl _) _, ?_, ?_⟩⟩
    · intro h
      have h2 := HBB.out
      rw [h] at h2
      have h3 := of_decide_eq_true h2
      exact ⟨by rw [HN.out]; omega, by omega, [], rfl, rfl, rfl⟩
    · intro h
      have h2 := HBB.out
      rw [h] at h2
      have h3 := of_decide_eq_false h2
      rw [HF.out]
      cases hq : alls decw P with
      | none => rfl
      | some vs =>
        have := alls_len hq
        simp only []
        rw [if_neg (by rw [this, HN.out]; omega)]
  case round =>
    obtain ⟨b, J, X, rfl, rfl, hJ, hH⟩ := hrel
    cases b
    · have H4 : Hid (four L = none) := Lib.hid (hH.out.2.2.2 rfl)
      have hnJ : ((J : Int) < n) ∨ ¬ ((J : Int) < n) := by omega
      rcases hnJ with hlt | hlt
      all_goals
        have HP0 : Hid (prsD L = sixV (sixE (sixD L))) := Lib.hid (by unfold prsD; rw [H4.out])
        have HRB := Lib.hid (HR2.out.below hH.out.2.1 HR2.out.lt)
        have HBl := Lib.hid (HB2.out.trans (hH.out.2.1.mono HB2.out.size))
        have HWl := Lib.hid (show w.heap.size < wr.heap.size from (HR2.out.below hH.out.2.1 HR2.out.lt).lt)
        clear hH hJ H4
        go_wp2_with fail
        refine Calls.mono (HS6.out _) ?_
        intro e w5 h5
        unfold SixOut at h5
        cases hsx : sixD L with
        | none =>
          rw [hsx] at h5
          obtain ⟨rfl, hb5⟩ := h5
          have HRS : Hid (prsD L = .tuple #[adr false 0 0, .int .i64 20]) := Lib.hid (by rw [HP0.out, hsx]; rfl)
          have RB := HRB.out.below hb5 HWl.out
          obtain ⟨r1, r2, r3⟩ := RB.c3
          have y0 := RB.frozen 0
          have y1 := RB.frozen 1
          have y2 := RB.frozen 2
          have HB5 := Lib.hid (HBl.out.trans (hb5.mono HBl.out.size))
          clear hb5 RB hsx
          go_wp2
          exact bodyPost_ret (v := .tuple #[adr false 0 0, .int .i64 20]) (by simp [results, Tryz.results21, go_sem, r1, r2, r3]) rfl ⟨by rw [HRS.out], ((HB5.out.setCell (p := ⟨w.heap.size, 0, none⟩) (Nat.le_refl _) _).setCell (p := ⟨w.heap.size, 1, none⟩) (Nat.le_refl _) _).setCell (p := ⟨w.heap.size, 2, none⟩) (Nat.le_refl _) _⟩
        | some ga =>
          obtain ⟨gv, at_⟩ := ga
          rw [hsx] at h5
          obtain ⟨A5, c5, rfl, hri, hn5, hge5, hb5⟩ := h5
          have HRI := Lib.hid hri
          have RB := HRB.out.below hb5 HWl.out
          obtain ⟨r1, r2, r3⟩ := RB.c3
          have y0 := RB.frozen 0
          have y1 := RB.frozen 1
          have y2 := RB.frozen 2
          have HB5 := Lib.hid (HBl.out.trans (hb5.mono HBl.out.size))
          obtain ⟨m, hm⟩ : ∃ m, gv.length = m := ⟨_, rfl⟩
          rw [hm] at HRI ⊢
          by_cases hbad : (at_ < 0 ∧ m ≠ 8) ∨ (0 ≤ at_ ∧ 7 < m)
          · have HRS : Hid (prsD L = .tuple #[adr false 0 0, .int .i64 20]) := Lib.hid (by
              rw [HP0.out, hsx]
              simp only [sixE, hm]
              rcases hbad with ⟨h1, h2⟩ | ⟨h1, h2⟩
              · rw [if_pos h1, if_neg h2]; rfl
              · rw [if_neg (by omega), if_neg (by omega)]; rfl)
            rcases hbad with ⟨h1, h2⟩ | ⟨h1, h2⟩
            · have q1 : decide (at_ < 0) = true := by simpa using h1
              have q2 : ¬ (m : Int) = 8 := by omega
              clear hb5 RB hsx h1 h2 hm hri hn5 hge5
              go_wp2
              exact bodyPost_ret (v := .tuple #[adr false 0 0, .int .i64 20]) (by simp [results, Tryz.results21, go_sem, r1, r2, r3]) rfl ⟨by rw [HRS.out], ((HB5.out.setCell (p := ⟨w.heap.size, 0, none⟩) (Nat.le_refl _) _).setCell (p := ⟨w.heap.size, 1, none⟩) (Nat.le_refl _) _).setCell (p := ⟨w.heap.size, 2, none⟩) (Nat.le_refl _) _⟩
            · have q1 : decide (at_ < 0) = false := by simp; omega
              have q3 : decide (0 ≤ at_) = true := by simpa using h1
              have q4 : decide (7 < (m : Int)) = true := by simp; omega
              clear hb5 RB hsx h1 h2 hm hri hn5 hge5
              go_wp2
              exact bodyPost_ret (v := .tuple #[adr false 0 0, .int .i64 20]) (by simp [results, Tryz.results21, go_sem, r1, r2, r3]) rfl ⟨by rw [HRS.out], ((HB5.out.setCell (p := ⟨w.heap.size, 0, none⟩) (Nat.le_refl _) _).setCell (p := ⟨w.heap.size, 1, none⟩) (Nat.le_refl _) _).setCell (p := ⟨w.heap.size, 2, none⟩) (Nat.le_refl _) _⟩
          · obtain ⟨K, hK⟩ : ∃ K : Nat, (at_ = -1 ∧ m = 8 ∧ K = 8) ∨ (at_ = (K : Int) ∧ K ≤ m ∧ m ≤ 7) := by
              rcases sixD_at hsx with h | ⟨h1, h2⟩
              · exact ⟨8, .inl ⟨h, by omega, rfl⟩⟩
              · exact ⟨at_.toNat, .inr ⟨by omega, by omega, by omega⟩⟩
            obtain ⟨gl, hgl⟩ : ∃ gl, gv.map Int.ofNat = gl := ⟨_, rfl⟩
            rw [hgl] at HRI
            have HGL := Lib.hid hgl
            have HSX := Lib.hid hsx
            have HK := Lib.hid hK
            have HM8 : Hid (m ≤ 8) := Lib.hid (by rcases hK with h | h <;> omega)
            have hm8 : m ≤ 8 := HM8.out
            have q0 : (decide (at_ < 0) = true ∧ (m : Int) = 8) ∨ (decide (at_ < 0) = false ∧ decide (0 ≤ at_) = true ∧ ¬ (7 < (m : Int))) := by
              rcases hK with ⟨h1, h2, h3⟩ | ⟨h1, h2, h3⟩
              · left; exact ⟨by simp; omega, by omega⟩
              · right; exact ⟨by simp; omega, by simp; omega, by omega⟩
            have q9 : decide (0 ≤ at_) = !(decide (at_ < 0)) := by by_cases h : at_ < 0 <;> simp [h] <;> omega
            have HR5 := Lib.hid RB
            have HM0 := Lib.hid hm
            have HRS0 : Hid (prsD L = .tuple #[adr true (numG ((allA gl K m).take 4)) (numG (((allA gl K m).drop 4).take 4)), .int .i64 0]) := Lib.hid (by
              rw [HP0.out, hsx, ← hgl]; exact sixE_all hm hK)
            have HBD : Hid (∀ x ∈ allA gl K m, 0 ≤ x ∧ x < 65536) := Lib.hid (allA_bd fun x hx => by
              rw [← hgl] at hx
              obtain ⟨y, hy, rfl⟩ := List.mem_map.1 hx
              have := sixD_bd hsx y hy
              simp; omega)
            have HWG : Hid (∀ z ∈ gl, (Lit.int .i64 z).wf = true) := Lib.hid HRI.out.2.2
            clear hb5 RB hsx hbad hgl hri hn5 hge5 hK hm r1 r2 r3 y0 y1 y2
            rcases q0 with ⟨q1, q2⟩ | ⟨q1, q2, q3⟩
            · rw [q1] at q9
              go_wp2
              obtain ⟨d, hd⟩ : ∃ d : Nat, d + m = 8 := ⟨8 - m, by omega⟩
              have hwd : IntKind.i64.wrap (8 - (m : Int)) = (d : Int) := by rw [IntKind.wrap_i64]; omega
              have HDD := Lib.hid hd
              have hd8 : d ≤ 8 := by omega
              have HGM : Hid (gl.length = m) := Lib.hid HRI.out.1
              have HW5 : Hid (∀ wr2 : World, Below w5.heap.size w5 wr2 → RI .i64 wr2 w5.heap.size A5 m gl) := Lib.hid fun wr2 hb => HRI.out.below hb
              have HA8 : Hid ((allA gl K m).length = 8) := Lib.hid (allA_len HGM.out (by rcases HK.out with h | h <;> omega) HM8.out)
              have HWA : Hid (∀ z ∈ allA gl K m, (Lit.int .i64 z).wf = true) := Lib.hid fun z hz => by
                have := HBD.out z hz
                simp [Lit.wf, IntKind.min, IntKind.max, IntKind.bits, IntKind.signed]; omega
              clear hd
              go_loopw [12, 13] (fun v i wr2 => ∃ (I N : Nat), i = .int .i64 (I : Int) ∧ I ≤ m ∧ Hid (wr2.ownsRow w5.heap.size 3 1 v N ((preA gl K m I).map (Value.int .i64)) ∧ Below w5.heap.size w5 wr2)) (fun _ i _ => (m - (intOf i).toNat))
              case atStart => exact ⟨0, 0, rfl, by omega, Lib.hid ⟨⟨by simp [preA], .inl ⟨rfl, rfl⟩⟩, Below.refl _ _⟩⟩
              case round =>
                obtain ⟨I, N, rfl, hI, hH2⟩ := hrel
                obtain ⟨Av, cv, rfl⟩ := own_form1 hH2.out.1
                have hN24 : N ≤ 24 := by
                  have h := hH2.out.1.1
                  rw [List.length_map] at h
                  have := preA_len HGM.out (K := K) hI
                  omega
                by_cases hIm : I < m
                · obtain ⟨b5, o5, z, hA5, hb5', hz, hwz, hcz⟩ := (HW5.out _ hH2.out.2).at_ hIm
                  subst hA5
                  have HWZ := Lib.hid hwz
                  have HZ := Lib.hid hz
                  have hIi : (I : Int) < m := by omega
                  have jI : IntKind.i64.wrap ((I : Int) + 1) = (I : Int) + 1 := by rw [IntKind.wrap_i64]; omega
                  by_cases hKI : at_ = (I : Int)
                  · have hKe : K = I ∧ m ≤ 7 := by rcases HK.out with ⟨h1, h2, h3⟩ | ⟨h1, h2, h3⟩ <;> omega
                    have HKe := Lib.hid hKe
                    have hd0 : 0 < d := by have := HDD.out; omega
                    have HCZ : Hid (∀ W : World, Below w5.heap.size w5 W → W.cell? ⟨b5, o5 + I, none⟩ = some (.int .i64 z)) := Lib.hid fun W hW => by
                      obtain ⟨b6, o6, z6, e6, -, hz6, -, hc6⟩ := (HW5.out W hW).at_ hIm
                      injection e6 with e6
                      injection e6 with e6 e7
                      subst e6 e7
                      rw [HZ.out] at hz6
                      injection hz6 with hz6
                      rw [hz6]; exact hc6
                    exact absurd (of_decide_eq_true q1) (by omega)
                  · have qI : ((I : Int) == at_) = false := by simp; omega
                    have HKI : Hid (I ≠ K) := Lib.hid (by rcases HK.out with ⟨h1, h2, h3⟩ | ⟨h1, h2, h3⟩ <;> omega)
                    clear hz hwz
                    go_wp2_with (at_builtin; refine wpList_appk .i64 66 3 8 Tryz.underlying66 (by kernel_rfl) _ rfl (.tmp 89) (.tmp 94) rfl w5.heap.size (.slice Av N cv) N (preA gl K m I) rfl (hH2.out.1.alloc _) (wr.heap.size + 1) (some ⟨wr.heap.size, 0, none⟩) 1 1 [z] rfl (fun h => by cases h) (Blk.readsk (zs := [z]) (Blk.new _ _ _) (fun q hq => by rw [List.mem_singleton.1 hq]; exact HWZ.out) (Nat.lt_succ_self _)) (by omega) (by omega) (by have := hH2.out.2.size; simp; omega) ?_; intro v7 w7 hown7 hg7 hat7; have HO7 := Lib.hid hown7; have HG7 := Lib.hid hg7; clear hown7 hg7 hat7)
                    have HB7 : Hid (Below w5.heap.size w5 w7) := Lib.hid ((hH2.out.2.alloc hH2.out.2.size _).grown HG7.out (by have := hH2.out.2.size; simp; omega) (fun j hj => own_basek hH2.out.1 j hj))
                    go_wp2
                    go_roundw
                    case rel =>
                      refine ⟨I + 1, N + 1, by go_num, by omega, Lib.hid ⟨?_, HB7.out⟩⟩
                      rw [preA_next HZ.out HKI.out]; exact HO7.out
                    case measure => simp [intOf]; omega
                · have hIe : I = m := by omega
                  have hIi : ¬ (I : Int) < m := by omega
                  have hOm := hH2.out.1
                  rw [hIe] at hOm
                  have hNl := hOm.1
                  rw [List.length_map] at hNl
                  have HBm := Lib.hid hH2.out.2
                  by_cases hKm : at_ = (m : Int)
                  · have hKe : K = m ∧ m ≤ 7 := by rcases HK.out with ⟨h1, h2, h3⟩ | ⟨h1, h2, h3⟩ <;> omega
                    have hd0 : 0 < d := by have := HDD.out; omega
                    have qI : (at_ == (m : Int)) = true := by simp; omega
                    have HNl : Hid (N = m) := Lib.hid (by
                      rw [hKe.1] at hNl
                      have e : preA gl m m m = gl := by unfold preA; rw [if_neg (Nat.lt_irrefl _), List.take_of_length_le (Nat.le_of_eq HGM.out)]
                      rw [e, HGM.out] at hNl; omega)
                    have HKe := Lib.hid hKe
                    have HOm := Lib.hid hOm
                    exact absurd (of_decide_eq_true q1) (by omega)
                  · have hKe : (K < m ∧ m ≤ 7) ∨ (K = 8 ∧ m = 8) := by rcases HK.out with ⟨h1, h2, h3⟩ | ⟨h1, h2, h3⟩ <;> omega
                    have qI : (at_ == (m : Int)) = false := by simp; omega
                    have HO8 : Hid (wr.ownsRow w5.heap.size 3 1 (.slice Av N cv) 8 ((allA gl K m).map (Value.int .i64))) := Lib.hid (by
                      have e : preA gl K m m = allA gl K m := by
                        rcases hKe with ⟨h1, h2⟩ | ⟨h1, h2⟩
                        · exact preA_all HGM.out h1
                        · subst h1 h2; exact preA_eight HGM.out
                      have h8 := allA_len HGM.out (K := K) (by rcases hKe with ⟨h1, h2⟩ | ⟨h1, h2⟩ <;> omega) HM8.out
                      rw [e] at hOm hNl
                      rw [h8] at hNl
                      rw [show N = 8 by omega] at hOm ⊢
                      exact hOm)
                    have HB8 := HBm
                    obtain ⟨w8, hw8⟩ : ∃ x, x = wr := ⟨_, rfl⟩
                    rw [← hw8] at HO8 HB8 ⊢
                    obtain ⟨v8, hv8⟩ : ∃ x, Value.slice Av N cv = x := ⟨_, rfl⟩
                    rw [hv8] at HO8 ⊢
                    clear hH2 hKe hNl hOm hIm HBm hw8 hv8
                    obtain ⟨A8, c8, rfl, hri8, -, hge8, hnc8, hcm8⟩ := own_ri HWA.out HO8.out
                    have RI8 := Lib.hid hri8
                    have hc8 : (8 : Int) ≤ c8 := by omega
                    have R8 := Lib.hid (HR5.out.below HB8.out HR5.out.lt)
                    have L8 := Lib.hid (HB5.out.trans (HB8.out.mono HB5.out.size))
                    have HW8 : Hid (w.heap.size < w8.heap.size) := Lib.hid R8.out.lt
                    clear hri8 hge8 hnc8 hcm8
                    go_wp2
                    go_loopw [15] (fun i wr3 => ∃ J : Nat, i = .int .i64 (J : Int) ∧ J ≤ 4 ∧ Hid (Blk wr3 w8.heap.size 24 #[.bool true, .int .u64 (numG ((allA gl K m).take J)), .int .u64 (numG (((allA gl K m).drop 4).take J))] ∧ Below w8.heap.size w8 wr3)) (fun i _ => (4 - (intOf i).toNat))
                    case atStart => exact ⟨0, rfl, by omega, Lib.hid ⟨Blk.new _ _ _, (Below.refl _ _).alloc (Nat.le_refl _) _⟩⟩
                    case round =>
                      obtain ⟨J, rfl, hJ, hH3⟩ := hrel
                      by_cases hJ4 : J < 4
                      · have RI9 := RI8.out.below hH3.out.2
                        obtain ⟨ga, oa, x, hA8, hga, hx, hwx, hcx⟩ := RI9.at_ (show J < 8 by omega)
                        obtain ⟨ga', oa', y, hA8', hga', hy, hwy, hcy⟩ := RI9.at_ (show 4 + J < 8 by omega)
                        subst hA8
                        injection hA8' with e1
                        injection e1 with e1 e2
                        subst e1 e2
                        obtain ⟨x0, x1⟩ := HBD.out x (List.mem_of_getElem? hx)
                        obtain ⟨y0, y1⟩ := HBD.out y (List.mem_of_getElem? hy)
                        have hX := numG_bd J ((allA gl K m).take J) (by rw [List.length_take, HA8.out]; omega) (fun z hz => HBD.out z (List.mem_of_mem_take hz))
                        have hY := numG_bd J (((allA gl K m).drop 4).take J) (by rw [List.length_take, List.length_drop, HA8.out]; omega) (fun z hz => HBD.out z (List.mem_of_mem_drop (List.mem_of_mem_take hz)))
                        have hp : (65536 : Int) ^ J ≤ 65536 ^ 3 := by
                          rcases (show J = 0 ∨ J = 1 ∨ J = 2 ∨ J = 3 by omega) with rfl | rfl | rfl | rfl <;> decide
                        have hp3 : (65536 : Int) ^ 3 = 281474976710656 := by decide
                        have nX : numG ((allA gl K m).take (J + 1)) = numG ((allA gl K m).take J) * 65536 + x := by rw [List.take_add_one, hx]; exact numG_snoc _ _
                        have nY : numG (((allA gl K m).drop 4).take (J + 1)) = numG (((allA gl K m).drop 4).take J) * 65536 + y := by rw [List.take_add_one, List.getElem?_drop, hy]; exact numG_snoc _ _
                        obtain ⟨X, hXe⟩ : ∃ X, numG ((allA gl K m).take J) = X := ⟨_, rfl⟩
                        obtain ⟨Y, hYe⟩ : ∃ Y, numG (((allA gl K m).drop 4).take J) = Y := ⟨_, rfl⟩
                        rw [hXe] at hX nX
                        rw [hYe] at hY nY
                        have hK3 := hH3.out.1
                        rw [hXe, hYe] at hK3
                        have HK3 := Lib.hid hK3
                        have HL3 := Lib.hid hH3.out.2
                        have NX := Lib.hid nX
                        have NY := Lib.hid nY
                        obtain ⟨g1, g2, g3⟩ := hK3.c3
                        have z1 := hK3.frozen 1
                        have z2 := hK3.frozen 2
                        have hJI : (J : Int) < 4 := by omega
                        have hJ8 : (J : Int) < 8 := by omega
                        have hJ48 : (4 : Int) + (J : Int) < 8 := by omega
                        have hJ40 : (0 : Int) ≤ (4 : Int) + (J : Int) := by omega
                        have hJ41 : ¬ (4 : Int) + (J : Int) < 0 := by omega
                        have hne : ga ≠ w8.heap.size := by omega
                        have j1 : IntKind.i64.wrap (4 + (J : Int)) = 4 + (J : Int) := by rw [IntKind.wrap_i64]; omega
                        have j2 : IntKind.u64.wrap x = x := by rw [IntKind.wrap_u64]; omega
                        have j3 : IntKind.u64.wrap y = y := by rw [IntKind.wrap_u64]; omega
                        have j4 : IntKind.u64.wrap (X * 65536) = X * 65536 := by rw [IntKind.wrap_u64]; omega
                        have j5 : IntKind.u64.wrap (Y * 65536) = Y * 65536 := by rw [IntKind.wrap_u64]; omega
                        have j6 : IntKind.u64.wrap (X * 65536 + x) = X * 65536 + x := by rw [IntKind.wrap_u64]; omega
                        have j7 : IntKind.u64.wrap (Y * 65536 + y) = Y * 65536 + y := by rw [IntKind.wrap_u64]; omega
                        have j8 : IntKind.i64.wrap ((J : Int) + 1) = (J : Int) + 1 := by rw [IntKind.wrap_i64]; omega
                        have j9 : (4 + (J : Int)).toNat = 4 + J := by omega
                        have HJ4 := Lib.hid hJ4
                        clear hJ hH3 RI9 hx hwx hy hwy x0 x1 y0 y1 hX hY hp hp3 nX nY hXe hYe hK3 hga hga' hJ4
                        go_wp2
                        go_still_tail 10, (by kernel_rfl)
                        go_wp2
                        generalize hwS : (wr.setCell ⟨w8.heap.size, 1, none⟩ (.int .u64 (X * 65536 + x))).drew = wS
                        have KS : Blk wS w8.heap.size 24 #[.bool true, .int .u64 (X * 65536 + x), .int .u64 Y] := by
                          rw [← hwS]; have h := HK3.out.set_ 1 (.int .u64 (X * 65536 + x))
                          have h2 : Blk (wr.setCell ⟨w8.heap.size, 1, none⟩ (.int .u64 (X * 65536 + x))) w8.heap.size 24 #[.bool true, .int .u64 (X * 65536 + x), .int .u64 Y] := by simpa using h
                          exact h2.drew
                        have LS : Below w8.heap.size w8 wS := by rw [← hwS]; exact (HL3.out.setCell (p := ⟨w8.heap.size, 1, none⟩) (Nat.le_refl _) _).drew
                        have hcyS : wS.cell? ⟨ga, oa + (4 + J), none⟩ = some (.int .i64 y) := by
                          rw [← hwS]
                          exact (World.cell?_setCell_other wr _ _ _ (by intro h; injection h with h1; exact hne h1.symm)).trans hcy
                        have HKS := Lib.hid KS
                        have HLS := Lib.hid LS
                        clear g1 g2 g3 z1 z2 hcx hcy hwS LS
                        obtain ⟨g1, g2, g3⟩ := KS.c3
                        have z2 := KS.frozen 2
                        clear KS
                        go_still_tail 11, (by kernel_rfl)
                        go_wp2
                        go_roundw
                        case rel => exact ⟨J + 1, by go_num, by have := HJ4.out; omega, Lib.hid ⟨by rw [NX.out, NY.out]; have h := HKS.out.set_ 2 (.int .u64 (Y * 65536 + y)); have h2 : Blk (wS.setCell ⟨w8.heap.size, 2, none⟩ (.int .u64 (Y * 65536 + y))) w8.heap.size 24 #[.bool true, .int .u64 (X * 65536 + x), .int .u64 (Y * 65536 + y)] := (by simpa using h); exact h2.drew, (HLS.out.setCell (p := ⟨w8.heap.size, 2, none⟩) (Nat.le_refl _) _).drew⟩⟩
                        case measure => simp [intOf]; have := HJ4.out; omega
                      · obtain rfl : J = 4 := by omega
                        have hK3 := hH3.out.1
                        have L9 := Lib.hid (L8.out.trans (hH3.out.2.mono L8.out.size))
                        have R9 := R8.out.below hH3.out.2 HW8.out
                        obtain ⟨X, hXe⟩ : ∃ X, numG ((allA gl K m).take 4) = X := ⟨_, rfl⟩
                        obtain ⟨Y, hYe⟩ : ∃ Y, numG (((allA gl K m).drop 4).take 4) = Y := ⟨_, rfl⟩
                        have hS0 := HRS0.out
                        rw [hXe, hYe] at hK3 hS0
                        have HS0 := Lib.hid hS0
                        obtain ⟨g1, g2, g3⟩ := hK3.c3
                        obtain ⟨r1, r2, r3⟩ := R9.c3
                        have y0 := R9.frozen 0
                        have y1 := R9.frozen 1
                        have y2 := R9.frozen 2
                        clear hK3 R9 hH3 hXe hYe hS0 hJ hJ4
                        go_wp2
                        exact bodyPost_ret (v := .tuple #[adr true X Y, .int .i64 0]) (by simp [results, Tryz.results21, go_sem, r1, r2, r3]) rfl ⟨by rw [HS0.out], ((L9.out.setCell (p := ⟨w.heap.size, 0, none⟩) (Nat.le_refl _) _).setCell (p := ⟨w.heap.size, 1, none⟩) (Nat.le_refl _) _).setCell (p := ⟨w.heap.size, 2, none⟩) (Nat.le_refl _) _⟩
            · rw [q1] at q9
              go_wp2
              obtain ⟨d, hd⟩ : ∃ d : Nat, d + m = 8 := ⟨8 - m, by omega⟩
              have hwd : IntKind.i64.wrap (8 - (m : Int)) = (d : Int) := by rw [IntKind.wrap_i64]; omega
              have HDD := Lib.hid hd
              have hd8 : d ≤ 8 := by omega
              have HGM : Hid (gl.length = m) := Lib.hid HRI.out.1
              have HW5 : Hid (∀ wr2 : World, Below w5.heap.size w5 wr2 → RI .i64 wr2 w5.heap.size A5 m gl) := Lib.hid fun wr2 hb => HRI.out.below hb
              have HA8 : Hid ((allA gl K m).length = 8) := Lib.hid (allA_len HGM.out (by rcases HK.out with h | h <;> omega) HM8.out)
              have HWA : Hid (∀ z ∈ allA gl K m, (Lit.int .i64 z).wf = true) := Lib.hid fun z hz => by
                have := HBD.out z hz
                simp [Lit.wf, IntKind.min, IntKind.max, IntKind.bits, IntKind.signed]; omega
              clear hd
              go_loopw [12, 13] (fun v i wr2 => ∃ (I N : Nat), i = .int .i64 (I : Int) ∧ I ≤ m ∧ Hid (wr2.ownsRow w5.heap.size 3 1 v N ((preA gl K m I).map (Value.int .i64)) ∧ Below w5.heap.size w5 wr2)) (fun _ i _ => (m - (intOf i).toNat))
              case atStart => exact ⟨0, 0, rfl, by omega, Lib.hid ⟨⟨by simp [preA], .inl ⟨rfl, rfl⟩⟩, Below.refl _ _⟩⟩
              case round =>
                obtain ⟨I, N, rfl, hI, hH2⟩ := hrel
                obtain ⟨Av, cv, rfl⟩ := own_form1 hH2.out.1
                have hN24 : N ≤ 24 := by
                  have h := hH2.out.1.1
                  rw [List.length_map] at h
                  have := preA_len HGM.out (K := K) hI
                  omega
                by_cases hIm : I < m
                · obtain ⟨b5, o5, z, hA5, hb5', hz, hwz, hcz⟩ := (HW5.out _ hH2.out.2).at_ hIm
                  subst hA5
                  have HWZ := Lib.hid hwz
                  have HZ := Lib.hid hz
                  have hIi : (I : Int) < m := by omega
                  have jI : IntKind.i64.wrap ((I : Int) + 1) = (I : Int) + 1 := by rw [IntKind.wrap_i64]; omega
                  by_cases hKI : at_ = (I : Int)
                  · have hKe : K = I ∧ m ≤ 7 := by rcases HK.out with ⟨h1, h2, h3⟩ | ⟨h1, h2, h3⟩ <;> omega
                    have HKe := Lib.hid hKe
                    have hd0 : 0 < d := by have := HDD.out; omega
                    have HCZ : Hid (∀ W : World, Below w5.heap.size w5 W → W.cell? ⟨b5, o5 + I, none⟩ = some (.int .i64 z)) := Lib.hid fun W hW => by
                      obtain ⟨b6, o6, z6, e6, -, hz6, -, hc6⟩ := (HW5.out W hW).at_ hIm
                      injection e6 with e6
                      injection e6 with e6 e7
                      subst e6 e7
                      rw [HZ.out] at hz6
                      injection hz6 with hz6
                      rw [hz6]; exact hc6
                    clear hz hwz hcz hKe
                    subst hKI
                    go_wp2_with (first
                      | (at_builtin; refine wpList_appz _ rfl (.tmp 84) (.tmp 87) rfl w5.heap.size (.slice Av N cv) N (preA gl K m I) rfl hH2.out.1 d rfl hd0 (by omega) hH2.out.2.size ?_; intro v6 w6 hown6 hg6; have HO6 := Lib.hid hown6; have HB6 : Hid (Below w5.heap.size w5 w6) := Lib.hid (hH2.out.2.grown hg6 hH2.out.2.size (fun j hj => own_basek hH2.out.1 j hj)); have hcz6 := HCZ.out w6 HB6.out; clear hown6 hg6)
                      | (at_builtin; refine wpList_appk .i64 66 3 8 Tryz.underlying66 (by kernel_rfl) _ rfl (.tmp 89) (.tmp 94) rfl w5.heap.size v6 (N + d) (preA gl K m I ++ List.replicate d 0) rfl (HO6.out.alloc _) (w6.heap.size + 1) (some ⟨w6.heap.size, 0, none⟩) 1 1 [z] rfl (fun h => by cases h) (Blk.readsk (zs := [z]) (Blk.new _ _ _) (fun q hq => by rw [List.mem_singleton.1 hq]; exact HWZ.out) (Nat.lt_succ_self _)) (by omega) (by omega) (by have := HB6.out.size; simp; omega) ?_; intro v7 w7 hown7 hg7 hat7; have HO7 := Lib.hid hown7; have HG7 := Lib.hid hg7; have HB7 : Hid (Below w5.heap.size w5 w7) := Lib.hid ((HB6.out.alloc HB6.out.size _).grown HG7.out (by have := HB6.out.size; simp; omega) (fun j hj => own_basek HO6.out j hj)); clear hown7 hg7 hat7))
                    go_wp2
                    go_roundw
                    case rel =>
                      refine ⟨I + 1, N + d + 1, by go_num, by omega, Lib.hid ⟨?_, HB7.out⟩⟩
                      have h := HO7.out
                      rw [← HKe.out.1] at h ⊢
                      rw [preA_gap (by rw [HKe.out.1]; exact HZ.out), show 8 - m = d by have := HDD.out; omega]
                      exact h
                    case measure => simp [intOf]; omega
                  · have qI : ((I : Int) == at_) = false := by simp; omega
                    have HKI : Hid (I ≠ K) := Lib.hid (by rcases HK.out with ⟨h1, h2, h3⟩ | ⟨h1, h2, h3⟩ <;> omega)
                    clear hz hwz
                    go_wp2_with (at_builtin; refine wpList_appk .i64 66 3 8 Tryz.underlying66 (by kernel_rfl) _ rfl (.tmp 89) (.tmp 94) rfl w5.heap.size (.slice Av N cv) N (preA gl K m I) rfl (hH2.out.1.alloc _) (wr.heap.size + 1) (some ⟨wr.heap.size, 0, none⟩) 1 1 [z] rfl (fun h => by cases h) (Blk.readsk (zs := [z]) (Blk.new _ _ _) (fun q hq => by rw [List.mem_singleton.1 hq]; exact HWZ.out) (Nat.lt_succ_self _)) (by omega) (by omega) (by have := hH2.out.2.size; simp; omega) ?_; intro v7 w7 hown7 hg7 hat7; have HO7 := Lib.hid hown7; have HG7 := Lib.hid hg7; clear hown7 hg7 hat7)
                    have HB7 : Hid (Below w5.heap.size w5 w7) := Lib.hid ((hH2.out.2.alloc hH2.out.2.size _).grown HG7.out (by have := hH2.out.2.size; simp; omega) (fun j hj => own_basek hH2.out.1 j hj))
                    go_wp2
                    go_roundw
                    case rel =>
                      refine ⟨I + 1, N + 1, by go_num, by omega, Lib.hid ⟨?_, HB7.out⟩⟩
                      rw [preA_next HZ.out HKI.out]; exact HO7.out
                    case measure => simp [intOf]; omega
                · have hIe : I = m := by omega
                  have hIi : ¬ (I : Int) < m := by omega
                  have hOm := hH2.out.1
                  rw [hIe] at hOm
                  have hNl := hOm.1
                  rw [List.length_map] at hNl
                  have HBm := Lib.hid hH2.out.2
                  by_cases hKm : at_ = (m : Int)
                  · have hKe : K = m ∧ m ≤ 7 := by rcases HK.out with ⟨h1, h2, h3⟩ | ⟨h1, h2, h3⟩ <;> omega
                    have hd0 : 0 < d := by have := HDD.out; omega
                    have qI : (at_ == (m : Int)) = true := by simp; omega
                    have HNl : Hid (N = m) := Lib.hid (by
                      rw [hKe.1] at hNl
                      have e : preA gl m m m = gl := by unfold preA; rw [if_neg (Nat.lt_irrefl _), List.take_of_length_le (Nat.le_of_eq HGM.out)]
                      rw [e, HGM.out] at hNl; omega)
                    have HKe := Lib.hid hKe
                    have HOm := Lib.hid hOm
                    clear hH2 hKe hNl hOm hIm
                    go_wp2_with (at_builtin; refine wpList_appz _ rfl (.tmp 100) (.tmp 103) rfl w5.heap.size (.slice Av N cv) N (preA gl K m m) rfl HOm.out d rfl hd0 (by omega) HBm.out.size ?_; intro v8 w8 hown8 hg8; have HO8' := Lib.hid hown8; have HG8 := Lib.hid hg8; clear hown8 hg8)
                    have HB8 : Hid (Below w5.heap.size w5 w8) := Lib.hid (HBm.out.grown HG8.out HBm.out.size (fun j hj => own_basek HOm.out j hj))
                    have HO8 : Hid (w8.ownsRow w5.heap.size 3 1 v8 8 ((allA gl K m).map (Value.int .i64))) := Lib.hid (by
                      have h := HO8'.out
                      rw [HKe.out.1] at h ⊢
                      rw [← preA_last HGM.out, show 8 - m = d by have := HDD.out; omega]
                      rw [show N + d = 8 by have := HNl.out; have := HDD.out; omega] at h
                      exact h)
                    obtain ⟨A8, c8, rfl, hri8, -, hge8, hnc8, hcm8⟩ := own_ri HWA.out HO8.out
                    have RI8 := Lib.hid hri8
                    have hc8 : (8 : Int) ≤ c8 := by omega
                    have R8 := Lib.hid (HR5.out.below HB8.out HR5.out.lt)
                    have L8 := Lib.hid (HB5.out.trans (HB8.out.mono HB5.out.size))
                    have HW8 : Hid (w.heap.size < w8.heap.size) := Lib.hid R8.out.lt
                    clear hri8 hge8 hnc8 hcm8
                    go_wp2
                    go_loopw [15] (fun i wr3 => ∃ J : Nat, i = .int .i64 (J : Int) ∧ J ≤ 4 ∧ Hid (Blk wr3 w8.heap.size 24 #[.bool true, .int .u64 (numG ((allA gl K m).take J)), .int .u64 (numG (((allA gl K m).drop 4).take J))] ∧ Below w8.heap.size w8 wr3)) (fun i _ => (4 - (intOf i).toNat))
                    case atStart => exact ⟨0, rfl, by omega, Lib.hid ⟨Blk.new _ _ _, (Below.refl _ _).alloc (Nat.le_refl _) _⟩⟩
                    case round =>
                      obtain ⟨J, rfl, hJ, hH3⟩ := hrel
                      by_cases hJ4 : J < 4
                      · have RI9 := RI8.out.below hH3.out.2
                        obtain ⟨ga, oa, x, hA8, hga, hx, hwx, hcx⟩ := RI9.at_ (show J < 8 by omega)
                        obtain ⟨ga', oa', y, hA8', hga', hy, hwy, hcy⟩ := RI9.at_ (show 4 + J < 8 by omega)
                        subst hA8
                        injection hA8' with e1
                        injection e1 with e1 e2
                        subst e1 e2
                        obtain ⟨x0, x1⟩ := HBD.out x (List.mem_of_getElem? hx)
                        obtain ⟨y0, y1⟩ := HBD.out y (List.mem_of_getElem? hy)
                        have hX := numG_bd J ((allA gl K m).take J) (by rw [List.length_take, HA8.out]; omega) (fun z hz => HBD.out z (List.mem_of_mem_take hz))
                        have hY := numG_bd J (((allA gl K m).drop 4).take J) (by rw [List.length_take, List.length_drop, HA8.out]; omega) (fun z hz => HBD.out z (List.mem_of_mem_drop (List.mem_of_mem_take hz)))
                        have hp : (65536 : Int) ^ J ≤ 65536 ^ 3 := by
                          rcases (show J = 0 ∨ J = 1 ∨ J = 2 ∨ J = 3 by omega) with rfl | rfl | rfl | rfl <;> decide
                        have hp3 : (65536 : Int) ^ 3 = 281474976710656 := by decide
                        have nX : numG ((allA gl K m).take (J + 1)) = numG ((allA gl K m).take J) * 65536 + x := by rw [List.take_add_one, hx]; exact numG_snoc _ _
                        have nY : numG (((allA gl K m).drop 4).take (J + 1)) = numG (((allA gl K m).drop 4).take J) * 65536 + y := by rw [List.take_add_one, List.getElem?_drop, hy]; exact numG_snoc _ _
                        obtain ⟨X, hXe⟩ : ∃ X, numG ((allA gl K m).take J) = X := ⟨_, rfl⟩
                        obtain ⟨Y, hYe⟩ : ∃ Y, numG (((allA gl K m).drop 4).take J) = Y := ⟨_, rfl⟩
                        rw [hXe] at hX nX
                        rw [hYe] at hY nY
                        have hK3 := hH3.out.1
                        rw [hXe, hYe] at hK3
                        have HK3 := Lib.hid hK3
                        have HL3 := Lib.hid hH3.out.2
                        have NX := Lib.hid nX
                        have NY := Lib.hid nY
                        obtain ⟨g1, g2, g3⟩ := hK3.c3
                        have z1 := hK3.frozen 1
                        have z2 := hK3.frozen 2
                        have hJI : (J : Int) < 4 := by omega
                        have hJ8 : (J : Int) < 8 := by omega
                        have hJ48 : (4 : Int) + (J : Int) < 8 := by omega
                        have hJ40 : (0 : Int) ≤ (4 : Int) + (J : Int) := by omega
                        have hJ41 : ¬ (4 : Int) + (J : Int) < 0 := by omega
                        have hne : ga ≠ w8.heap.size := by omega
                        have j1 : IntKind.i64.wrap (4 + (J : Int)) = 4 + (J : Int) := by rw [IntKind.wrap_i64]; omega
                        have j2 : IntKind.u64.wrap x = x := by rw [IntKind.wrap_u64]; omega
                        have j3 : IntKind.u64.wrap y = y := by rw [IntKind.wrap_u64]; omega
                        have j4 : IntKind.u64.wrap (X * 65536) = X * 65536 := by rw [IntKind.wrap_u64]; omega
                        have j5 : IntKind.u64.wrap (Y * 65536) = Y * 65536 := by rw [IntKind.wrap_u64]; omega
                        have j6 : IntKind.u64.wrap (X * 65536 + x) = X * 65536 + x := by rw [IntKind.wrap_u64]; omega
                        have j7 : IntKind.u64.wrap (Y * 65536 + y) = Y * 65536 + y := by rw [IntKind.wrap_u64]; omega
                        have j8 : IntKind.i64.wrap ((J : Int) + 1) = (J : Int) + 1 := by rw [IntKind.wrap_i64]; omega
                        have j9 : (4 + (J : Int)).toNat = 4 + J := by omega
                        have HJ4 := Lib.hid hJ4
                        clear hJ hH3 RI9 hx hwx hy hwy x0 x1 y0 y1 hX hY hp hp3 nX nY hXe hYe hK3 hga hga' hJ4
                        go_wp2
                        go_still_tail 10, (by kernel_rfl)
                        go_wp2
                        generalize hwS : (wr.setCell ⟨w8.heap.size, 1, none⟩ (.int .u64 (X * 65536 + x))).drew = wS
                        have KS : Blk wS w8.heap.size 24 #[.bool true, .int .u64 (X * 65536 + x), .int .u64 Y] := by
                          rw [← hwS]; have h := HK3.out.set_ 1 (.int .u64 (X * 65536 + x))
                          have h2 : Blk (wr.setCell ⟨w8.heap.size, 1, none⟩ (.int .u64 (X * 65536 + x))) w8.heap.size 24 #[.bool true, .int .u64 (X * 65536 + x), .int .u64 Y] := by simpa using h
                          exact h2.drew
                        have LS : Below w8.heap.size w8 wS := by rw [← hwS]; exact (HL3.out.setCell (p := ⟨w8.heap.size, 1, none⟩) (Nat.le_refl _) _).drew
                        have hcyS : wS.cell? ⟨ga, oa + (4 + J), none⟩ = some (.int .i64 y) := by
                          rw [← hwS]
                          exact (World.cell?_setCell_other wr _ _ _ (by intro h; injection h with h1; exact hne h1.symm)).trans hcy
                        have HKS := Lib.hid KS
                        have HLS := Lib.hid LS
                        clear g1 g2 g3 z1 z2 hcx hcy hwS LS
                        obtain ⟨g1, g2, g3⟩ := KS.c3
                        have z2 := KS.frozen 2
                        clear KS
                        go_still_tail 11, (by kernel_rfl)
                        go_wp2
                        go_roundw
                        case rel => exact ⟨J + 1, by go_num, by have := HJ4.out; omega, Lib.hid ⟨by rw [NX.out, NY.out]; have h := HKS.out.set_ 2 (.int .u64 (Y * 65536 + y)); have h2 : Blk (wS.setCell ⟨w8.heap.size, 2, none⟩ (.int .u64 (Y * 65536 + y))) w8.heap.size 24 #[.bool true, .int .u64 (X * 65536 + x), .int .u64 (Y * 65536 + y)] := (by simpa using h); exact h2.drew, (HLS.out.setCell (p := ⟨w8.heap.size, 2, none⟩) (Nat.le_refl _) _).drew⟩⟩
                        case measure => simp [intOf]; have := HJ4.out; omega
                      · obtain rfl : J = 4 := by omega
                        have hK3 := hH3.out.1
                        have L9 := Lib.hid (L8.out.trans (hH3.out.2.mono L8.out.size))
                        have R9 := R8.out.below hH3.out.2 HW8.out
                        obtain ⟨X, hXe⟩ : ∃ X, numG ((allA gl K m).take 4) = X := ⟨_, rfl⟩
                        obtain ⟨Y, hYe⟩ : ∃ Y, numG (((allA gl K m).drop 4).take 4) = Y := ⟨_, rfl⟩
                        have hS0 := HRS0.out
                        rw [hXe, hYe] at hK3 hS0
                        have HS0 := Lib.hid hS0
                        obtain ⟨g1, g2, g3⟩ := hK3.c3
                        obtain ⟨r1, r2, r3⟩ := R9.c3
                        have y0 := R9.frozen 0
                        have y1 := R9.frozen 1
                        have y2 := R9.frozen 2
                        clear hK3 R9 hH3 hXe hYe hS0 hJ hJ4
                        go_wp2
                        exact bodyPost_ret (v := .tuple #[adr true X Y, .int .i64 0]) (by simp [results, Tryz.results21, go_sem, r1, r2, r3]) rfl ⟨by rw [HS0.out], ((L9.out.setCell (p := ⟨w.heap.size, 0, none⟩) (Nat.le_refl _) _).setCell (p := ⟨w.heap.size, 1, none⟩) (Nat.le_refl _) _).setCell (p := ⟨w.heap.size, 2, none⟩) (Nat.le_refl _) _⟩
                  · have hKe : (K < m ∧ m ≤ 7) ∨ (K = 8 ∧ m = 8) := by rcases HK.out with ⟨h1, h2, h3⟩ | ⟨h1, h2, h3⟩ <;> omega
                    have qI : (at_ == (m : Int)) = false := by simp; omega
                    have HO8 : Hid (wr.ownsRow w5.heap.size 3 1 (.slice Av N cv) 8 ((allA gl K m).map (Value.int .i64))) := Lib.hid (by
                      have e : preA gl K m m = allA gl K m := by
                        rcases hKe with ⟨h1, h2⟩ | ⟨h1, h2⟩
                        · exact preA_all HGM.out h1
                        · subst h1 h2; exact preA_eight HGM.out
                      have h8 := allA_len HGM.out (K := K) (by rcases hKe with ⟨h1, h2⟩ | ⟨h1, h2⟩ <;> omega) HM8.out
                      rw [e] at hOm hNl
                      rw [h8] at hNl
                      rw [show N = 8 by omega] at hOm ⊢
                      exact hOm)
                    have HB8 := HBm
                    obtain ⟨w8, hw8⟩ : ∃ x, x = wr := ⟨_, rfl⟩
                    rw [← hw8] at HO8 HB8 ⊢
                    obtain ⟨v8, hv8⟩ : ∃ x, Value.slice Av N cv = x := ⟨_, rfl⟩
                    rw [hv8] at HO8 ⊢
                    clear hH2 hKe hNl hOm hIm HBm hw8 hv8
                    obtain ⟨A8, c8, rfl, hri8, -, hge8, hnc8, hcm8⟩ := own_ri HWA.out HO8.out
                    have RI8 := Lib.hid hri8
                    have hc8 : (8 : Int) ≤ c8 := by omega
                    have R8 := Lib.hid (HR5.out.below HB8.out HR5.out.lt)
                    have L8 := Lib.hid (HB5.out.trans (HB8.out.mono HB5.out.size))
                    have HW8 : Hid (w.heap.size < w8.heap.size) := Lib.hid R8.out.lt
                    clear hri8 hge8 hnc8 hcm8
                    go_wp2
                    go_loopw [15] (fun i wr3 => ∃ J : Nat, i = .int .i64 (J : Int) ∧ J ≤ 4 ∧ Hid (Blk wr3 w8.heap.size 24 #[.bool true, .int .u64 (numG ((allA gl K m).take J)), .int .u64 (numG (((allA gl K m).drop 4).take J))] ∧ Below w8.heap.size w8 wr3)) (fun i _ => (4 - (intOf i).toNat))
                    case atStart => exact ⟨0, rfl, by omega, Lib.hid ⟨Blk.new _ _ _, (Below.refl _ _).alloc (Nat.le_refl _) _⟩⟩
                    case round =>
                      obtain ⟨J, rfl, hJ, hH3⟩ := hrel
                      by_cases hJ4 : J < 4
                      · have RI9 := RI8.out.below hH3.out.2
                        obtain ⟨ga, oa, x, hA8, hga, hx, hwx, hcx⟩ := RI9.at_ (show J < 8 by omega)
                        obtain ⟨ga', oa', y, hA8', hga', hy, hwy, hcy⟩ := RI9.at_ (show 4 + J < 8 by omega)
                        subst hA8
                        injection hA8' with e1
                        injection e1 with e1 e2
                        subst e1 e2
                        obtain ⟨x0, x1⟩ := HBD.out x (List.mem_of_getElem? hx)
                        obtain ⟨y0, y1⟩ := HBD.out y (List.mem_of_getElem? hy)
                        have hX := numG_bd J ((allA gl K m).take J) (by rw [List.length_take, HA8.out]; omega) (fun z hz => HBD.out z (List.mem_of_mem_take hz))
                        have hY := numG_bd J (((allA gl K m).drop 4).take J) (by rw [List.length_take, List.length_drop, HA8.out]; omega) (fun z hz => HBD.out z (List.mem_of_mem_drop (List.mem_of_mem_take hz)))
                        have hp : (65536 : Int) ^ J ≤ 65536 ^ 3 := by
                          rcases (show J = 0 ∨ J = 1 ∨ J = 2 ∨ J = 3 by omega) with rfl | rfl | rfl | rfl <;> decide
                        have hp3 : (65536 : Int) ^ 3 = 281474976710656 := by decide
                        have nX : numG ((allA gl K m).take (J + 1)) = numG ((allA gl K m).take J) * 65536 + x := by rw [List.take_add_one, hx]; exact numG_snoc _ _
                        have nY : numG (((allA gl K m).drop 4).take (J + 1)) = numG (((allA gl K m).drop 4).take J) * 65536 + y := by rw [List.take_add_one, List.getElem?_drop, hy]; exact numG_snoc _ _
                        obtain ⟨X, hXe⟩ : ∃ X, numG ((allA gl K m).take J) = X := ⟨_, rfl⟩
                        obtain ⟨Y, hYe⟩ : ∃ Y, numG (((allA gl K m).drop 4).take J) = Y := ⟨_, rfl⟩
                        rw [hXe] at hX nX
                        rw [hYe] at hY nY
                        have hK3 := hH3.out.1
                        rw [hXe, hYe] at hK3
                        have HK3 := Lib.hid hK3
                        have HL3 := Lib.hid hH3.out.2
                        have NX := Lib.hid nX
                        have NY := Lib.hid nY
                        obtain ⟨g1, g2, g3⟩ := hK3.c3
                        have z1 := hK3.frozen 1
                        have z2 := hK3.frozen 2
                        have hJI : (J : Int) < 4 := by omega
                        have hJ8 : (J : Int) < 8 := by omega
                        have hJ48 : (4 : Int) + (J : Int) < 8 := by omega
                        have hJ40 : (0 : Int) ≤ (4 : Int) + (J : Int) := by omega
                        have hJ41 : ¬ (4 : Int) + (J : Int) < 0 := by omega
                        have hne : ga ≠ w8.heap.size := by omega
                        have j1 : IntKind.i64.wrap (4 + (J : Int)) = 4 + (J : Int) := by rw [IntKind.wrap_i64]; omega
                        have j2 : IntKind.u64.wrap x = x := by rw [IntKind.wrap_u64]; omega
                        have j3 : IntKind.u64.wrap y = y := by rw [IntKind.wrap_u64]; omega
                        have j4 : IntKind.u64.wrap (X * 65536) = X * 65536 := by rw [IntKind.wrap_u64]; omega
                        have j5 : IntKind.u64.wrap (Y * 65536) = Y * 65536 := by rw [IntKind.wrap_u64]; omega
                        have j6 : IntKind.u64.wrap (X * 65536 + x) = X * 65536 + x := by rw [IntKind.wrap_u64]; omega
                        have j7 : IntKind.u64.wrap (Y * 65536 + y) = Y * 65536 + y := by rw [IntKind.wrap_u64]; omega
                        have j8 : IntKind.i64.wrap ((J : Int) + 1) = (J : Int) + 1 := by rw [IntKind.wrap_i64]; omega
                        have j9 : (4 + (J : Int)).toNat = 4 + J := by omega
                        have HJ4 := Lib.hid hJ4
                        clear hJ hH3 RI9 hx hwx hy hwy x0 x1 y0 y1 hX hY hp hp3 nX nY hXe hYe hK3 hga hga' hJ4
                        go_wp2
                        go_still_tail 10, (by kernel_rfl)
                        go_wp2
                        generalize hwS : (wr.setCell ⟨w8.heap.size, 1, none⟩ (.int .u64 (X * 65536 + x))).drew = wS
                        have KS : Blk wS w8.heap.size 24 #[.bool true, .int .u64 (X * 65536 + x), .int .u64 Y] := by
                          rw [← hwS]; have h := HK3.out.set_ 1 (.int .u64 (X * 65536 + x))
                          have h2 : Blk (wr.setCell ⟨w8.heap.size, 1, none⟩ (.int .u64 (X * 65536 + x))) w8.heap.size 24 #[.bool true, .int .u64 (X * 65536 + x), .int .u64 Y] := by simpa using h
                          exact h2.drew
                        have LS : Below w8.heap.size w8 wS := by rw [← hwS]; exact (HL3.out.setCell (p := ⟨w8.heap.size, 1, none⟩) (Nat.le_refl _) _).drew
                        have hcyS : wS.cell? ⟨ga, oa + (4 + J), none⟩ = some (.int .i64 y) := by
                          rw [← hwS]
                          exact (World.cell?_setCell_other wr _ _ _ (by intro h; injection h with h1; exact hne h1.symm)).trans hcy
                        have HKS := Lib.hid KS
                        have HLS := Lib.hid LS
                        clear g1 g2 g3 z1 z2 hcx hcy hwS LS
                        obtain ⟨g1, g2, g3⟩ := KS.c3
                        have z2 := KS.frozen 2
                        clear KS
                        go_still_tail 11, (by kernel_rfl)
                        go_wp2
                        go_roundw
                        case rel => exact ⟨J + 1, by go_num, by have := HJ4.out; omega, Lib.hid ⟨by rw [NX.out, NY.out]; have h := HKS.out.set_ 2 (.int .u64 (Y * 65536 + y)); have h2 : Blk (wS.setCell ⟨w8.heap.size, 2, none⟩ (.int .u64 (Y * 65536 + y))) w8.heap.size 24 #[.bool true, .int .u64 (X * 65536 + x), .int .u64 (Y * 65536 + y)] := (by simpa using h); exact h2.drew, (HLS.out.setCell (p := ⟨w8.heap.size, 2, none⟩) (Nat.le_refl _) _).drew⟩⟩
                        case measure => simp [intOf]; have := HJ4.out; omega
                      · obtain rfl : J = 4 := by omega
                        have hK3 := hH3.out.1
                        have L9 := Lib.hid (L8.out.trans (hH3.out.2.mono L8.out.size))
                        have R9 := R8.out.below hH3.out.2 HW8.out
                        obtain ⟨X, hXe⟩ : ∃ X, numG ((allA gl K m).take 4) = X := ⟨_, rfl⟩
                        obtain ⟨Y, hYe⟩ : ∃ Y, numG (((allA gl K m).drop 4).take 4) = Y := ⟨_, rfl⟩
                        have hS0 := HRS0.out
                        rw [hXe, hYe] at hK3 hS0
                        have HS0 := Lib.hid hS0
                        obtain ⟨g1, g2, g3⟩ := hK3.c3
                        obtain ⟨r1, r2, r3⟩ := R9.c3
                        have y0 := R9.frozen 0
                        have y1 := R9.frozen 1
                        have y2 := R9.frozen 2
                        clear hK3 R9 hH3 hXe hYe hS0 hJ hJ4
                        go_wp2
                        exact bodyPost_ret (v := .tuple #[adr true X Y, .int .i64 0]) (by simp [results, Tryz.results21, go_sem, r1, r2, r3]) rfl ⟨by rw [HS0.out], ((L9.out.setCell (p := ⟨w.heap.size, 0, none⟩) (Nat.le_refl _) _).setCell (p := ⟨w.heap.size, 1, none⟩) (Nat.le_refl _) _).setCell (p := ⟨w.heap.size, 2, none⟩) (Nat.le_refl _) _⟩
    · obtain ⟨h4, hJ4, vs, hv1, hv2, hv3⟩ := hH.out.2.2.1 rfl
      have HV := Lib.hid (And.intro hv1 (And.intro hv2 hv3))
      have hXb := num_bd4 hv1 hv2 hJ4
      rw [← hv3] at hXb
      obtain ⟨g1, g2, g3⟩ := hH.out.1.c3
      have z3 := hH.out.1.frozen 2
      by_cases hlt : J < n
      · have hlt' : (J : Int) < n := by omega
        have hgt : P[J]? = some (P[J]'(by rw [HN.out]; exact hlt)) := List.getElem?_eq_getElem _
        obtain ⟨Z, hZ⟩ : ∃ Z, P[J]'(by rw [HN.out]; exact hlt) = Z := ⟨_, rfl⟩
        rw [hZ] at hgt
        obtain ⟨g, o, hA, hgb, hcell⟩ := (HTI.out.below hH.out.2.1).2 (by omega)
        have d1 := hcell J _ hgt
        obtain ⟨q, hq⟩ : ∃ q : ByteArray, (⟨Z.toArray⟩ : ByteArray) = q := ⟨_, rfl⟩
        rw [hq] at d1
        have HD := Lib.hid (fun W => rdecimal_any q W)
        have eq_ : q.data.toList = Z := by rw [← hq]
        rw [eq_, decV_decw] at HD
        have HGT := Lib.hid hgt
        subst hA
        have hw1 : IntKind.i64.wrap ((J : Int) + 1) = (J : Int) + 1 := by rw [IntKind.wrap_i64]; have := HPl.out; omega
        have hw2 : IntKind.u64.wrap (X * 256) = X * 256 := by rw [IntKind.wrap_u64]; omega
        have HX := Lib.hid hXb
        have HJ := Lib.hid (And.intro h4 hJ4)
        clear hv1 hv2 hv3 hZ hgt hgb hcell hq eq_ hXb h4 hJ4
        cases hx : decw Z with
        | none =>
          have HNO : Hid (four L = none) := Lib.hid (by rw [HF.out, alls_no (List.mem_of_getElem? HGT.out) hx])
          simp only [hx] at HD
          clear hx
          go_wp2_with fail
          refine Calls.mono (HD.out _) ?_
          rintro e w4 ⟨rfl, rfl⟩
          go_wp2
          go_roundw
          case rel => exact ⟨false, J + 1, IntKind.u64.wrap (X * 256 + max (-1) 0), rfl, by go_num, by omega, Lib.hid ⟨by have h := hH.out.1.set_ 2 (.int .u64 (IntKind.u64.wrap (X * 256 + max (-1) 0))); simpa using h, hH.out.2.1.setCell (p := ⟨w2.heap.size, 2, none⟩) (Nat.le_refl _) _, (fun h => by cases h), fun _ => HNO.out⟩⟩
          case measure => simp [intOf]; omega
        | some v =>
          have hv := decw_le hx
          simp only [hx] at HD
          obtain ⟨V, hV⟩ : ∃ V : Int, (v : Int) = V := ⟨_, rfl⟩
          rw [hV] at HD
          have hV0 : 0 ≤ V := by omega
          have hV1 : V ≤ 255 := by omega
          have hx0 := hx
          have HXX := Lib.hid hx0
          have HVV := Lib.hid hV
          have HW3 : Hid (IntKind.u64.wrap (X * 256 + max V 0) = X * 256 + V) := Lib.hid (by rw [IntKind.wrap_u64]; have := HX.out; omega)
          clear hx hx0 hv hV
          go_wp2_with fail
          refine Calls.mono (HD.out _) ?_
          rintro e w4 ⟨rfl, rfl⟩
          go_wp2
          go_roundw
          case rel =>
            refine ⟨true, J + 1, X * 256 + V, rfl, by go_num, by omega, Lib.hid ⟨by rw [HW3.out]; have h := hH.out.1.set_ 2 (.int .u64 (X * 256 + V)); simpa using h, hH.out.2.1.setCell (p := ⟨w2.heap.size, 2, none⟩) (Nat.le_refl _) _, fun _ => ⟨HJ.out.1, by have h1 := HJ.out.1; have h2 := HN.out; omega, vs ++ [v], ?_, ?_, ?_⟩, fun h => by cases h⟩⟩
            · rw [List.take_add_one, HGT.out]; exact alls_snoc HV.out.1 HXX.out
            · rw [List.length_append, HV.out.2.1]; rfl
            · rw [List.map_append, List.map_singleton, numOf_snoc, ← HV.out.2.2, ← HVV.out]; rfl
          case measure => simp [intOf]; omega
      · have hJn : J = n := by omega
        have hfull : alls decw P = some vs := by rw [← hv1, List.take_of_length_le (by rw [HN.out]; omega)]
        have HRS : Hid (prsD L = .tuple #[adr false 0 X, .int .i64 0]) := Lib.hid (by
          unfold prsD
          rw [HF.out, hfull]
          simp only []
          rw [if_pos (by rw [hv2, hJn, ← HN.out]; exact h4)]
          simp only [fourV, ← hv3])
        have RB := HR2.out.below hH.out.2.1 HR2.out.lt
        obtain ⟨r1, r2, r3⟩ := RB.c3
        have y0 := RB.frozen 0
        have y1 := RB.frozen 1
        have y2 := RB.frozen 2
        have hlt' : ¬ (J : Int) < n := by omega
        have HBl := Lib.hid hH.out.2.1
        have HRL := Lib.hid HR2.out.lt
        have HRB := Lib.hid RB
        clear hv1 hv2 hv3 hfull hXb RB hJn
        go_wp2
        exact bodyPost_ret (v := .tuple #[adr false 0 X, .int .i64 0]) (by simp [results, Tryz.results21, go_sem, r1, r2, r3]) rfl ⟨by rw [HRS.out], (((HB2.out.trans (HBl.out.mono HB2.out.size)).setCell (p := ⟨w.heap.size, 0, none⟩) (Nat.le_refl _) _).setCell (p := ⟨w.heap.size, 1, none⟩) (Nat.le_refl _) _).setCell (p := ⟨w.heap.size, 2, none⟩) (Nat.le_refl _) _⟩
end Go.Proofs.YtbpdnohcgojmbaaGreatDoor
