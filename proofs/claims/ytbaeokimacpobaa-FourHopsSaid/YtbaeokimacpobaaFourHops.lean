/-
  F5: a packet goes as many hops as its Ttl says, less one; each is the packet with less to go, its sum mended: for every packet.
-/
import Derived.Test.YtbaeokimacpobaaFAwk
import Derived.Test.YtbaeokimacpobaaFFrm
namespace Go.Proofs.Ytbaeokimacpobaa.Hops
open Go.ChangeShapes Go.WideShapes Go.ChangeAt Go.RowKit
set_option linter.unusedVariables false

/-- The bytes of a packet with so much to go. -/
def LS (p : Pk) (t : Int) : ByteArray := strOfNums (hdN { p with ttl := t } (chk { p with ttl := t })) ++ p.d
theorem LS_size (p : Pk) (t : Int) : (LS p t).size = 20 + p.o.size + p.d.size := by
  unfold LS; rw [ByteArray.size_append, strOfNums_size, hdN_len]
theorem LS_hop {p : Pk} (h : Rg p) (w : Wf p) (ht : 20 + p.o.size + p.d.size ≤ 65535) {t : Int} (h1 : 1 < t) (h2 : t ≤ 255) : hpR (LS p t) = (LS p (t - 1), 0) :=
  hp_lyR { p with ttl := t } (h.down (by omega) h2) w ht h1
theorem LS_last {p : Pk} (h : Rg p) (w : Wf p) (ht : 20 + p.o.size + p.d.size ≤ 65535) {t : Int} (h0 : 0 ≤ t) (h1 : t ≤ 1) : hpR (LS p t) = (⟨#[]⟩, 54) :=
  hp_lastR { p with ttl := t } (h.down h0 (by omega)) w ht h1
theorem LS_take {p : Pk} (h : Rg p) (w : Wf p) (ht : 20 + p.o.size + p.d.size ≤ 65535) {t : Int} (h0 : 0 ≤ t) (h1 : t ≤ 255) : tkR (LS p t) = ({ p with ttl := t }, 0) := by
  have e : strOfNums (hdN { p with ttl := t } (chk { p with ttl := t })) ++ p.d ++ (⟨#[]⟩ : ByteArray) = LS p t := ByteArray.append_empty
  have hh : tkR (strOfNums (hdN { p with ttl := t } (chk { p with ttl := t })) ++ p.d ++ (⟨#[]⟩ : ByteArray)) = ({ p with ttl := t }, 0) := tk_lyR { p with ttl := t } (h.down h0 h1) w ht ⟨#[]⟩
  rwa [e] at hh
set_option maxRecDepth 100000 in
set_option maxHeartbeats 8000000 in
theorem walk (w : World) (a0_0 : Int) (w0_0 : (Lit.int .i64 a0_0).wf = true) (a0_1 : Int) (w0_1 : (Lit.int .i64 a0_1).wf = true) (a0_2 : Bool) (a0_3 : Bool) (a0_4 : Int) (w0_4 : (Lit.int .i64 a0_4).wf = true) (a0_5 : Int) (w0_5 : (Lit.int .i64 a0_5).wf = true) (a0_6 : Int) (w0_6 : (Lit.int .i64 a0_6).wf = true) (a0_7 : Bool) (a0_8 : Int) (w0_8 : (Lit.int .u64 a0_8).wf = true) (a0_9 : Int) (w0_9 : (Lit.int .u64 a0_9).wf = true) (a0_10 : Bool) (a0_11 : Int) (w0_11 : (Lit.int .u64 a0_11).wf = true) (a0_12 : Int) (w0_12 : (Lit.int .u64 a0_12).wf = true) (a0_13 : ByteArray) (w0_13 : a0_13.size ≤ maxLen) (a0_14 : ByteArray) (w0_14 : a0_14.size ≤ maxLen) :
    Calls Try.prog 7 #[.agg #[.int .i64 a0_0, .int .i64 a0_1, .bool a0_2, .bool a0_3, .int .i64 a0_4, .int .i64 a0_5, .int .i64 a0_6, .bool a0_7, .int .u64 a0_8, .int .u64 a0_9, .bool a0_10, .int .u64 a0_11, .int .u64 a0_12, .string a0_13, .string a0_14]] w fun e w' => e = .returned (.bool true) ∧ Below w.heap.size w w' := by
  have hw : Wf (⟨a0_0, a0_1, a0_2, a0_3, a0_4, a0_5, a0_6, a0_7, a0_8, a0_9, a0_10, a0_11, a0_12, a0_13, a0_14⟩ : Pk) := ⟨wf_nonneg w0_9, wf_nonneg w0_12⟩
  have HP : Hid (∀ (W : World) (g : Nat), Blk W g 26 #[.int .i64 a0_0, .int .i64 a0_1, .bool a0_2, .bool a0_3, .int .i64 a0_4, .int .i64 a0_5, .int .i64 a0_6, .bool a0_7, .int .u64 a0_8, .int .u64 a0_9, .bool a0_10, .int .u64 a0_11, .int .u64 a0_12, .string a0_13, .string a0_14] → _) := Lib.hid (fun W g (h : Blk W g 26 (fcs (⟨a0_0, a0_1, a0_2, a0_3, a0_4, a0_5, a0_6, a0_7, a0_8, a0_9, a0_10, a0_11, a0_12, a0_13, a0_14⟩ : Pk))) => h.f15)
  have HA := Lib.hid (fun W => fawake_yes W)
  have HL0 := Lib.hid (fun W => lay_any (⟨a0_0, a0_1, a0_2, a0_3, a0_4, a0_5, a0_6, a0_7, a0_8, a0_9, a0_10, a0_11, a0_12, a0_13, a0_14⟩ : Pk) hw W)
  have HL : Hid (∀ W : World, Calls Try.prog 9 #[.agg #[.int .i64 a0_0, .int .i64 a0_1, .bool a0_2, .bool a0_3, .int .i64 a0_4, .int .i64 a0_5, .int .i64 a0_6, .bool a0_7, .int .u64 a0_8, .int .u64 a0_9, .bool a0_10, .int .u64 a0_11, .int .u64 a0_12, .string a0_13, .string a0_14]] W fun e w' => e = .returned (lyRV (⟨a0_0, a0_1, a0_2, a0_3, a0_4, a0_5, a0_6, a0_7, a0_8, a0_9, a0_10, a0_11, a0_12, a0_13, a0_14⟩ : Pk)) ∧ Below W.heap.size W w') := Lib.hid HL0.out
  have K0 := Lib.hid (Blk.new w 26 #[.int .i64 a0_0, .int .i64 a0_1, .bool a0_2, .bool a0_3, .int .i64 a0_4, .int .i64 a0_5, .int .i64 a0_6, .bool a0_7, .int .u64 a0_8, .int .u64 a0_9, .bool a0_10, .int .u64 a0_11, .int .u64 a0_12, .string a0_13, .string a0_14])
  have L0 := Lib.hid ((Below.refl _ w).alloc (Nat.le_refl _) (.cells #[.int .i64 a0_0, .int .i64 a0_1, .bool a0_2, .bool a0_3, .int .i64 a0_4, .int .i64 a0_5, .int .i64 a0_6, .bool a0_7, .int .u64 a0_8, .int .u64 a0_9, .bool a0_10, .int .u64 a0_11, .int .u64 a0_12, .string a0_13, .string a0_14] 26))
  clear HL0 w0_0 w0_1 w0_4 w0_5 w0_6 w0_8 w0_9 w0_11 w0_12 w0_13 w0_14
  by_cases hok : Rg (⟨a0_0, a0_1, a0_2, a0_3, a0_4, a0_5, a0_6, a0_7, a0_8, a0_9, a0_10, a0_11, a0_12, a0_13, a0_14⟩ : Pk) ∧ 20 + a0_13.size + a0_14.size ≤ 65535
  · obtain ⟨hrg, ht⟩ := hok
    have hR := ly_ok hrg ht
    have hsz : ∀ t, (LS (⟨a0_0, a0_1, a0_2, a0_3, a0_4, a0_5, a0_6, a0_7, a0_8, a0_9, a0_10, a0_11, a0_12, a0_13, a0_14⟩ : Pk) t).size = 20 + a0_13.size + a0_14.size := fun t => LS_size (⟨a0_0, a0_1, a0_2, a0_3, a0_4, a0_5, a0_6, a0_7, a0_8, a0_9, a0_10, a0_11, a0_12, a0_13, a0_14⟩ : Pk) t
    have HH : Hid (∀ t : Int, 1 < t → t ≤ 255 → ∀ W : World, Calls Try.prog 13 #[.string (LS (⟨a0_0, a0_1, a0_2, a0_3, a0_4, a0_5, a0_6, a0_7, a0_8, a0_9, a0_10, a0_11, a0_12, a0_13, a0_14⟩ : Pk) t)] W fun e w' => e = .returned (.tuple #[.string (LS (⟨a0_0, a0_1, a0_2, a0_3, a0_4, a0_5, a0_6, a0_7, a0_8, a0_9, a0_10, a0_11, a0_12, a0_13, a0_14⟩ : Pk) (t - 1)), .int .i64 0]) ∧ Below W.heap.size W w') := Lib.hid fun t h1 h2 W => by
      have := hop_any (LS (⟨a0_0, a0_1, a0_2, a0_3, a0_4, a0_5, a0_6, a0_7, a0_8, a0_9, a0_10, a0_11, a0_12, a0_13, a0_14⟩ : Pk) t) (by rw [hsz]; omega) W
      unfold hpRV at this
      rw [LS_hop hrg hw ht h1 h2] at this
      exact this
    have HZ : Hid (∀ t : Int, 0 ≤ t → t ≤ 1 → ∀ W : World, Calls Try.prog 13 #[.string (LS (⟨a0_0, a0_1, a0_2, a0_3, a0_4, a0_5, a0_6, a0_7, a0_8, a0_9, a0_10, a0_11, a0_12, a0_13, a0_14⟩ : Pk) t)] W fun e w' => e = .returned (.tuple #[.string ⟨#[]⟩, .int .i64 54]) ∧ Below W.heap.size W w') := Lib.hid fun t h1 h2 W => by
      have := hop_any (LS (⟨a0_0, a0_1, a0_2, a0_3, a0_4, a0_5, a0_6, a0_7, a0_8, a0_9, a0_10, a0_11, a0_12, a0_13, a0_14⟩ : Pk) t) (by rw [hsz]; omega) W
      unfold hpRV at this
      rw [LS_last hrg hw ht h1 h2] at this
      exact this
    have HT : Hid (∀ t : Int, 0 ≤ t → t ≤ 255 → ∀ W : World, Calls Try.prog 11 #[.string (LS (⟨a0_0, a0_1, a0_2, a0_3, a0_4, a0_5, a0_6, a0_7, a0_8, a0_9, a0_10, a0_11, a0_12, a0_13, a0_14⟩ : Pk) t)] W fun e w' => e = .returned (.tuple #[.agg #[.int .i64 a0_0, .int .i64 a0_1, .bool a0_2, .bool a0_3, .int .i64 a0_4, .int .i64 t, .int .i64 a0_6, .bool a0_7, .int .u64 a0_8, .int .u64 a0_9, .bool a0_10, .int .u64 a0_11, .int .u64 a0_12, .string a0_13, .string a0_14], .int .i64 0]) ∧ Below W.heap.size W w') := Lib.hid fun t h1 h2 W => by
      have := take_any (LS (⟨a0_0, a0_1, a0_2, a0_3, a0_4, a0_5, a0_6, a0_7, a0_8, a0_9, a0_10, a0_11, a0_12, a0_13, a0_14⟩ : Pk) t) (by rw [hsz]; omega) W
      unfold tkRV at this
      rw [LS_take hrg hw ht h1 h2] at this
      exact this
    have htt : 0 ≤ a0_5 ∧ a0_5 ≤ 255 := hrg.ttl
    unfold lyRV at HL
    rw [hR] at HL
    have hS0 : strOfNums (hdN (⟨a0_0, a0_1, a0_2, a0_3, a0_4, a0_5, a0_6, a0_7, a0_8, a0_9, a0_10, a0_11, a0_12, a0_13, a0_14⟩ : Pk) (chk (⟨a0_0, a0_1, a0_2, a0_3, a0_4, a0_5, a0_6, a0_7, a0_8, a0_9, a0_10, a0_11, a0_12, a0_13, a0_14⟩ : Pk))) ++ a0_14 = LS (⟨a0_0, a0_1, a0_2, a0_3, a0_4, a0_5, a0_6, a0_7, a0_8, a0_9, a0_10, a0_11, a0_12, a0_13, a0_14⟩ : Pk) a0_5 := rfl
    have hS0' : strOfNums (hdN (⟨a0_0, a0_1, a0_2, a0_3, a0_4, a0_5, a0_6, a0_7, a0_8, a0_9, a0_10, a0_11, a0_12, a0_13, a0_14⟩ : Pk) (chk (⟨a0_0, a0_1, a0_2, a0_3, a0_4, a0_5, a0_6, a0_7, a0_8, a0_9, a0_10, a0_11, a0_12, a0_13, a0_14⟩ : Pk))) ++ ((⟨a0_0, a0_1, a0_2, a0_3, a0_4, a0_5, a0_6, a0_7, a0_8, a0_9, a0_10, a0_11, a0_12, a0_13, a0_14⟩ : Pk)).d = LS (⟨a0_0, a0_1, a0_2, a0_3, a0_4, a0_5, a0_6, a0_7, a0_8, a0_9, a0_10, a0_11, a0_12, a0_13, a0_14⟩ : Pk) a0_5 := rfl
    rw [hS0'] at HL
    obtain ⟨N, hN⟩ : ∃ N, 20 + a0_13.size + a0_14.size = N := ⟨_, rfl⟩
    rw [hN] at hsz
    obtain ⟨F, hF⟩ : ∃ F : Int → ByteArray, LS (⟨a0_0, a0_1, a0_2, a0_3, a0_4, a0_5, a0_6, a0_7, a0_8, a0_9, a0_10, a0_11, a0_12, a0_13, a0_14⟩ : Pk) = F := ⟨_, rfl⟩
    rw [hF] at HL HH HZ HT hsz
    have hN2 : N ≤ 65535 := by omega
    have HSZ := Lib.hid hsz
    obtain ⟨t0, t1⟩ := htt
    clear hrg ht hR hw hS0 hS0' hN hF hsz hN2
    go_enter Try.func7, Try.ntmps7
    go_wp2_with fail
    refine Calls.mono (HA.out _) ?_
    rintro e w1 ⟨rfl, hb⟩
    have L1 := Lib.hid (L0.out.trans (hb.mono L0.out.size))
    have K1 := Lib.hid (K0.out.below hb K0.out.lt)
    clear hb
    obtain ⟨f0, f1, f2, f3, f4, f5, f6, f7, f8, f9, f10, f11, f12, f13, f14⟩ := HP.out _ _ K1.out
    go_wp2_with fail
    refine Calls.mono (HL.out _) ?_
    rintro e w2 ⟨rfl, hb⟩
    have L2 := Lib.hid (L1.out.trans (hb.mono L1.out.size))
    have K2 := Lib.hid (K1.out.below hb K1.out.lt)
    clear hb f0 f1 f2 f3 f4 f5 f6 f7 f8 f9 f10 f11 f12 f13 f14
    obtain ⟨f0, f1, f2, f3, f4, f5, f6, f7, f8, f9, f10, f11, f12, f13, f14⟩ := HP.out _ _ K2.out
    go_wp2_with fail
    clear f0 f1 f2 f3 f4 f5 f6 f7 f8 f9 f10 f11 f12 f13 f14
    go_loopw [4, 6] (fun sv tv wr => ∃ t : Int, t ≤ a0_5 ∧ (1 ≤ t ∨ t = a0_5) ∧ tv = .int .i64 t ∧ sv = .string (F t) ∧ Hid (Blk wr w.heap.size 26 #[.int .i64 a0_0, .int .i64 a0_1, .bool a0_2, .bool a0_3, .int .i64 a0_4, .int .i64 a0_5, .int .i64 a0_6, .bool a0_7, .int .u64 a0_8, .int .u64 a0_9, .bool a0_10, .int .u64 a0_11, .int .u64 a0_12, .string a0_13, .string a0_14] ∧ Below w.heap.size w wr)) (fun _ tv _ => (intOf tv).toNat)
    case atStart => exact ⟨a0_5, Int.le_refl _, .inr rfl, rfl, rfl, Lib.hid ⟨K2.out, L2.out⟩⟩
    case round =>
      obtain ⟨t, hle, hge, rfl, rfl, hh⟩ := hrel
      have ht0 : 0 ≤ t := by omega
      have ht255 : t ≤ 255 := by omega
      by_cases h1 : 1 < t
      · have HH1 := Lib.hid (HH.out t h1 ht255)
        have HT1 := Lib.hid (HT.out (t - 1) (by omega) (by omega))
        have s1 := HSZ.out t
        have s2 := HSZ.out (t - 1)
        obtain ⟨S, hS⟩ : ∃ S, F t = S := ⟨_, rfl⟩
        obtain ⟨T, hT⟩ : ∃ T, F (t - 1) = T := ⟨_, rfl⟩
        rw [hS] at HH1 s1
        rw [hT] at HH1 HT1 s2
        rw [hS]
        have HTT := Lib.hid hT
        obtain ⟨T1, hT1⟩ : ∃ T1, t - 1 = T1 := ⟨_, rfl⟩
        rw [hT1] at HT1
        clear hS hT
        go_wp2_with fail
        refine Calls.mono (HH1.out _) ?_
        rintro e w3 ⟨rfl, hb⟩
        have K3 := Lib.hid (hh.out.1.below hb hh.out.1.lt)
        have L3 := Lib.hid (hh.out.2.trans (hb.mono hh.out.2.size))
        clear hb
        go_wp2_with fail
        refine Calls.mono (HT1.out _) ?_
        rintro e w4 ⟨rfl, hb⟩
        have K4 := Lib.hid (K3.out.below hb K3.out.lt)
        have L4 := Lib.hid (L3.out.trans (hb.mono L3.out.size))
        have K5 := (K4.out.alloc (.cells #[.int .i64 a0_0, .int .i64 a0_1, .bool a0_2, .bool a0_3, .int .i64 a0_4, .int .i64 a0_5, .int .i64 a0_6, .bool a0_7, .int .u64 a0_8, .int .u64 a0_9, .bool a0_10, .int .u64 a0_11, .int .u64 a0_12, .string a0_13, .string a0_14] 26))
        have L5 := Lib.hid (L4.out.alloc L4.out.size (.cells #[.int .i64 a0_0, .int .i64 a0_1, .bool a0_2, .bool a0_3, .int .i64 a0_4, .int .i64 a0_5, .int .i64 a0_6, .bool a0_7, .int .u64 a0_8, .int .u64 a0_9, .bool a0_10, .int .u64 a0_11, .int .u64 a0_12, .string a0_13, .string a0_14] 26))
        have hlt := K4.out.lt
        clear hb
        obtain ⟨f0, f1, f2, f3, f4, f5, f6, f7, f8, f9, f10, f11, f12, f13, f14⟩ := HP.out _ _ K4.out
        have K6 := Lib.hid K5
        clear K5
        go_wp2
        go_roundw
        case rel => exact ⟨T1, by omega, .inl (by omega), rfl, by rw [← hT1, HTT.out], Lib.hid ⟨K6.out, L5.out⟩⟩
        case measure => simp [intOf]; omega
      · have HZ1 := Lib.hid (HZ.out t ht0 (by omega))
        obtain ⟨S, hS⟩ : ∃ S, F t = S := ⟨_, rfl⟩
        rw [hS] at HZ1
        rw [hS]
        clear hS
        go_wp2_with fail
        refine Calls.mono (HZ1.out _) ?_
        rintro e w3 ⟨rfl, hb⟩
        have L3 := Lib.hid (hh.out.2.trans (hb.mono hh.out.2.size))
        clear hb
        go_wp2
        go_ret
        exact ⟨rfl, L3.out⟩
  · have hz : ∃ E, E ≠ 0 ∧ lyR (⟨a0_0, a0_1, a0_2, a0_3, a0_4, a0_5, a0_6, a0_7, a0_8, a0_9, a0_10, a0_11, a0_12, a0_13, a0_14⟩ : Pk) = (⟨#[]⟩, E) := by
      unfold lyR
      by_cases h1 : rgB (⟨a0_0, a0_1, a0_2, a0_3, a0_4, a0_5, a0_6, a0_7, a0_8, a0_9, a0_10, a0_11, a0_12, a0_13, a0_14⟩ : Pk) = false
      · exact ⟨50, by decide, by rw [if_pos h1]⟩
      · by_cases h2 : 65535 < 20 + a0_13.size + a0_14.size
        · exact ⟨53, by decide, by rw [if_neg h1, if_pos h2]⟩
        · exact absurd ⟨rg_iff.1 (by simpa using h1), by omega⟩ hok
    obtain ⟨E, hE, hR⟩ := hz
    unfold lyRV at HL
    rw [hR] at HL
    have hE0 : (E == 0) = false := by simpa using hE
    clear hok hw hR hE
    go_enter Try.func7, Try.ntmps7
    go_wp2_with fail
    refine Calls.mono (HA.out _) ?_
    rintro e w1 ⟨rfl, hb⟩
    have L1 := Lib.hid (L0.out.trans (hb.mono L0.out.size))
    have K1 := Lib.hid (K0.out.below hb K0.out.lt)
    clear hb
    obtain ⟨f0, f1, f2, f3, f4, f5, f6, f7, f8, f9, f10, f11, f12, f13, f14⟩ := HP.out _ _ K1.out
    go_wp2_with fail
    refine Calls.mono (HL.out _) ?_
    rintro e w2 ⟨rfl, hb⟩
    have L2 := L1.out.trans (hb.mono L1.out.size)
    clear hb f0 f1 f2 f3 f4 f5 f6 f7 f8 f9 f10 f11 f12 f13 f14
    go_wp2
    go_ret
    exact ⟨rfl, L2⟩
set_option maxRecDepth 100000 in
theorem contract (H : Type) (enc : TypeId × Value → H) (W : World) (base : Nat) (args : Array Value) (ds gs : List (DataW H)) (before : List MemPlace)
    (hval0 : ∀ (j : Nat) t v, Try.f7.params[j]? = some t → args[j]? = some v → Value.okWide Try.prog W .any base t v)
    (hW : DataW.Whole enc Try.prog Try.f7.params.toList Rows.fourHopsSpec.vars false W args.toList ds gs before)
    (hsz0 : (DataW.weightsEach Try.prog (Try.f7.params.toList ++ Rows.fourHopsSpec.plain.varTypes Try.prog) (ds ++ gs)).all (· ≤ reachBytes) = true) :
    Calls Try.prog 7 args W fun e W' => ∃ v, e = .returned v ∧ Rows.fourHopsSpec.post enc Try.prog Try.f7 false true false false W args v W' := by
  have hsz := hsz0
  clear hsz0
  have hval := hval0
  clear hval0
  have hW' := hW
  obtain ⟨p, q, hA0, hV, rfl, hfz, hnd⟩ := hW
  have hA : DataW.TrodAll enc Try.prog W 0 (fun _ => true) true Try.f7.params.toList args.toList ds p := hA0
  rw [Try.params7] at hA hval hsz
  obtain ⟨v0, vs0, d0, ds0, p0, q0, hargs, rfl, rfl, h0, r0⟩ := trodAll_cons hA
  obtain ⟨rfl, rfl, rfl⟩ := trodAll_nil r0
  obtain rfl : args = #[v0] := by cases args; simp_all
  obtain ⟨rfl, rfl⟩ := trodVars_none hV
  have k0 := h0
  have lt0 : ∀ x ∈ p0, x.block < W.heap.size := by obtain ⟨m, hm⟩ := k0; exact DataW.trod_lt m _ _ _ hm
  obtain ⟨a0_0, a0_1, a0_2, a0_3, a0_4, a0_5, a0_6, a0_7, a0_8, a0_9, a0_10, a0_11, a0_12, a0_13, a0_14, rfl, w0_0, w0_1, w0_4, w0_5, w0_6, w0_8, w0_9, w0_11, w0_12, w0_13, w0_14, ep0⟩ := open_four (hval 0 26 v0 rfl rfl) h0
  clear hA0
  refine (walk W a0_0 w0_0 a0_1 w0_1 a0_2 a0_3 a0_4 w0_4 a0_5 w0_5 a0_6 w0_6 a0_7 a0_8 w0_8 a0_9 w0_9 a0_10 a0_11 w0_11 a0_12 w0_12 a0_13 w0_13 a0_14 w0_14).mono fun e W' ⟨he, bel⟩ => ?_
  subst he
  exact ⟨_, rfl, _, _, _, [], _, [], hW', trodAll_mk1 (shut_bool Try.underlying4 _), (trodAll_cons_mk (Below.trod laidOut (by kernel_rfl) (of_decide_eq_true (by kernel_rfl)) k0 bel lt0) trodAll_mk0), rfl, bel.frame _, fun h => by cases h⟩

set_option maxRecDepth 100000 in
theorem lifted (os : Os) (started : os.Started) (H : Type) (enc : TypeId × Value → H) :
    ReturnsInHanded {} Try.checked os 7 .any (Rows.fourHopsSpec.pre6 enc Try.prog Try.f7 Rows.fourHopsRow.domain false) (Rows.fourHopsSpec.post enc Try.prog Try.f7 false true false false) := by
  refine returnsInHanded_of_change_sized (C := Try.checked) own started (by kernel_rfl) Try.func7
    (ChangeSpec.witness6 (enc := enc) (C := Try.checked) false ⟨#[], #[.agg #[.int .i64 0, .int .i64 0, .bool false, .bool false, .int .i64 0, .int .i64 0, .int .i64 0, .bool false, .int .u64 0, .int .u64 0, .bool false, .int .u64 0, .int .u64 0, .string ByteArray.empty, .string ByteArray.empty]], []⟩ 8 (by kernel_rfl) (by kernel_rfl) (by kernel_rfl) (by kernel_rfl)) ?_
  intro W base args ds gs before hval hW _ hsz _
  exact contract H enc W base args ds gs before hval hW hsz

theorem over : Rows.fourHopsRow.holds Try.pinned (OpenSpec.ofChange Rows.fourHopsSpec) :=
  OpenClaim.holds_of_wide 7 Try.f7 rfl rfl rfl rfl rfl rfl rfl ⟨rfl, rfl, rfl, rfl, rfl⟩ rfl rfl rfl rfl rfl (by kernel_rfl) Try.func7 (by kernel_rfl)
    (of_decide_eq_true (by kernel_rfl)) (by unfold Func.isWrapper; first | (rw [if_pos (by decide +kernel)]; kernel_rfl) | (rw [if_neg (by decide +kernel)]; exact ⟨rfl, rfl⟩))
    (fun os started H enc _ => lifted os started H enc)

theorem proved : Rows.FourHopsSaid := over
#print axioms proved
end Go.Proofs.Ytbaeokimacpobaa.Hops
