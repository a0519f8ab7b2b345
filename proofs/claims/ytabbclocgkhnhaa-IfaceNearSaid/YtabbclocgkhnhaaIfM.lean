/-
  The document's own set of ports (layer 14): Add.
-/
import Derived.Test.YtabbclocgkhnhaaIfK
namespace Go.Proofs.Ytabbclocgkhnhaa
open Go.RowKit
set_option linter.unusedVariables false

theorem infoPt : (Try.prog.info? 46).map (fun i => (i.zero, i.size, i.bytes)) = some (some (.agg #[.string ⟨#[]⟩, .int .u64 0, .int .i64 0, .bool false]), 4, 40) := by kernel_rfl
theorem infoLs : (Try.prog.info? 39).map (fun i => (i.zero, i.size, i.bytes)) = some (some (.slice none 0 0), 1, 24) := by kernel_rfl
theorem IfD.rep {w : World} {t : Nat} {S : List Nat} {st : StI} (h : IfD w t S st) : ∃ (AP AL : Option Addr) (cP cL : Nat) (lv : List Value), S = t :: (obI (.slice AP st.1.length cP) ++ (obI (.slice AL st.1.length cL) ++ lv.flatMap obI)) ∧
    RepI w t (.slice AP st.1.length cP) st.1.length (st.1.flatMap prC) (.slice AL st.1.length cL) st.1.length lv st.2 ∧ lv.length = st.1.length := by
  obtain ⟨AP, AL, cP, cL, lv, h1, h2, h3, h4, h5, h6, h7, h8⟩ := h
  exact ⟨AP, AL, cP, cL, lv, h1, ⟨h1 ▸ h2, h3, h4, h5, h7⟩, h6⟩
def addE (mac mtu : Int) : Prop := macOk mac = true ∧ mtuOk mtu = true
set_option maxRecDepth 100000 in
set_option maxHeartbeats 4000000 in
theorem addD_bad (t : Nat) (S : List Nat) (st : StI) (nm : ByteArray) (mac mtu : Int) (hm : 0 ≤ mac ∧ mac ≤ 18446744073709551615) (hb : nameOk nm = false ∨ namedI st.1 nm ≠ 0 ∨ (macOk mac && mtuOk mtu) = false ∨ 8 ≤ st.1.length) (w : World) (h : IfD w t S st) :
    Calls Try.prog 27 #[.pointer (some ⟨t, 0, none⟩), .string nm, .int .u64 mac, .int .i64 mtu] w fun e w' => e = .returned (.tuple #[.int .i64 (addI st nm mac mtu).2.1, .int .i64 (addI st nm mac mtu).2.2]) ∧ (addI st nm mac mtu).1 = st ∧ w = w' := by
  have HNa := Lib.hid (nameD nm w)
  have HNd := Lib.hid (namedD t S st nm w h)
  have hf := h.few
  obtain ⟨AP, AL, cP, cL, lv, -, hR, hlv⟩ := h.rep
  have c0 := (hR.blk.cell 0).trans (show _ = some (Value.slice AP st.1.length cP) by rfl)
  have hAdd : addI st nm mac mtu = (if nameOk nm = false ∨ namedI st.1 nm ≠ 0 then (st, 0, 130) else if (macOk mac && mtuOk mtu) = false then (st, 0, 1) else (st, 0, 131)) := by
    unfold addI
    by_cases h1 : nameOk nm = false ∨ namedI st.1 nm ≠ 0
    · rw [if_pos h1, if_pos h1]
    · rw [if_neg h1, if_neg h1]
      by_cases h2 : (macOk mac && mtuOk mtu) = false
      · rw [if_pos h2, if_pos h2]
      · rw [if_neg h2, if_neg h2]
        have h3 : 8 ≤ st.1.length := by
          rcases hb with x | x | x | x
          · exact absurd (.inl x) h1
          · exact absurd (.inr x) h1
          · exact absurd x h2
          · exact x
        rw [if_pos h3]
  have tup := fun (v : Int) => (show (Ending.returned (Value.tuple #[.int .i64 0, .int .i64 v])) = Ending.returned (Value.tuple #[.int .i64 0, .int .i64 v]) from rfl)
  obtain ⟨n, hn⟩ : ∃ n, st.1.length = n := ⟨_, rfl⟩
  obtain ⟨k, hk⟩ : ∃ k, namedI st.1 nm = k := ⟨_, rfl⟩
  rw [hn] at c0 hf hb
  rw [hk] at HNd hAdd hb
  clear hR hlv h hn
  cases hno : nameOk nm with
  | false =>
    rw [hno] at HNa hAdd
    rw [if_pos (.inl rfl)] at hAdd
    have HE := Lib.hid hAdd
    clear hAdd hb hk hm hf tup
    go_enter Try.func27, Try.ntmps27
    go_wp2_with fail
    refine Calls.mono HNa.out ?_
    rintro e w' ⟨rfl, rfl⟩
    go_wp2
    exact bodyPost_ret (v := .tuple #[.int .i64 0, .int .i64 130]) (by simp [results, Try.results27, go_sem]) rfl ⟨by rw [HE.out], by rw [HE.out], rfl⟩
  | true =>
    rw [hno] at HNa hAdd hb
    by_cases hk0 : k = 0
    · subst hk0
      rw [if_neg (by simp)] at hAdd
      have hb2 : (macOk mac && mtuOk mtu) = false ∨ 8 ≤ n := by
        rcases hb with x | x | x | x
        · cases x
        · exact absurd rfl x
        · exact .inl x
        · exact .inr x
      cases hmm : (macOk mac && mtuOk mtu) with
      | false =>
        rw [hmm, if_pos rfl] at hAdd
        have HE := Lib.hid hAdd
        obtain ⟨q, hq⟩ : ∃ q, Int.tdiv mac 1099511627776 = q := ⟨_, rfl⟩
        have hq2 : mac / 1099511627776 = q := by rw [← hq, Int.tdiv_eq_ediv_of_nonneg hm.1]
        have hq0 : 0 ≤ q ∧ q ≤ 18446744073709551615 := by omega
        obtain ⟨r, hr⟩ : ∃ r, Int.tmod q 2 = r := ⟨_, rfl⟩
        have hr2 : q % 2 = r := by rw [← hr, Int.tmod_eq_emod_of_nonneg hq0.1]
        have jq : IntKind.u64.wrap q = q := by rw [IntKind.wrap_u64]; omega
        have jr : IntKind.u64.wrap r = r := by rw [IntKind.wrap_u64]; omega
        have hcs : mac = 0 ∨ (¬ mac = 0 ∧ 281474976710656 ≤ mac) ∨ (¬ mac = 0 ∧ ¬ 281474976710656 ≤ mac ∧ r = 1) ∨ (¬ mac = 0 ∧ ¬ 281474976710656 ≤ mac ∧ ¬ r = 1 ∧ mtu < 68) ∨ (¬ mac = 0 ∧ ¬ 281474976710656 ≤ mac ∧ ¬ r = 1 ∧ ¬ mtu < 68 ∧ 1500 < mtu) := by
          rw [Bool.and_eq_false_iff] at hmm
          unfold macOk mtuOk at hmm
          rw [decide_eq_false_iff_not, decide_eq_false_iff_not, hq2, hr2] at hmm
          omega
        clear hAdd hb hb2 hk hm hf tup hq2 hq0 hr2 hmm hno
        rcases hcs with m1 | ⟨m1, m2⟩ | ⟨m1, m2, m3⟩ | ⟨m1, m2, m3, m4⟩ | ⟨m1, m2, m3, m4, m5⟩
        · subst m1
          go_enter Try.func27, Try.ntmps27
          go_wp2_with fail
          refine Calls.mono HNa.out ?_
          rintro e w' ⟨rfl, rfl⟩
          go_wp2_with fail
          refine Calls.mono HNd.out ?_
          rintro e w' ⟨rfl, rfl⟩
          go_wp2
          exact bodyPost_ret (v := .tuple #[.int .i64 0, .int .i64 1]) (by simp [results, Try.results27, go_sem]) rfl ⟨by rw [HE.out], by rw [HE.out], rfl⟩
        · have bm : (mac == (0 : Int)) = false := by simpa using m1
          go_enter Try.func27, Try.ntmps27
          go_wp2_with fail
          refine Calls.mono HNa.out ?_
          rintro e w' ⟨rfl, rfl⟩
          go_wp2_with fail
          refine Calls.mono HNd.out ?_
          rintro e w' ⟨rfl, rfl⟩
          go_wp2
          exact bodyPost_ret (v := .tuple #[.int .i64 0, .int .i64 1]) (by simp [results, Try.results27, go_sem]) rfl ⟨by rw [HE.out], by rw [HE.out], rfl⟩
        · have bm : (mac == (0 : Int)) = false := by simpa using m1
          have br : (r == (1 : Int)) = true := by simpa using m3
          go_enter Try.func27, Try.ntmps27
          go_wp2_with fail
          refine Calls.mono HNa.out ?_
          rintro e w' ⟨rfl, rfl⟩
          go_wp2_with fail
          refine Calls.mono HNd.out ?_
          rintro e w' ⟨rfl, rfl⟩
          go_wp2
          exact bodyPost_ret (v := .tuple #[.int .i64 0, .int .i64 1]) (by simp [results, Try.results27, go_sem]) rfl ⟨by rw [HE.out], by rw [HE.out], rfl⟩
        · have bm : (mac == (0 : Int)) = false := by simpa using m1
          have br : (r == (1 : Int)) = false := by simpa using m3
          go_enter Try.func27, Try.ntmps27
          go_wp2_with fail
          refine Calls.mono HNa.out ?_
          rintro e w' ⟨rfl, rfl⟩
          go_wp2_with fail
          refine Calls.mono HNd.out ?_
          rintro e w' ⟨rfl, rfl⟩
          go_wp2
          exact bodyPost_ret (v := .tuple #[.int .i64 0, .int .i64 1]) (by simp [results, Try.results27, go_sem]) rfl ⟨by rw [HE.out], by rw [HE.out], rfl⟩
        · have bm : (mac == (0 : Int)) = false := by simpa using m1
          have br : (r == (1 : Int)) = false := by simpa using m3
          go_enter Try.func27, Try.ntmps27
          go_wp2_with fail
          refine Calls.mono HNa.out ?_
          rintro e w' ⟨rfl, rfl⟩
          go_wp2_with fail
          refine Calls.mono HNd.out ?_
          rintro e w' ⟨rfl, rfl⟩
          go_wp2
          exact bodyPost_ret (v := .tuple #[.int .i64 0, .int .i64 1]) (by simp [results, Try.results27, go_sem]) rfl ⟨by rw [HE.out], by rw [HE.out], rfl⟩
      | true =>
        rw [hmm, if_neg (by decide)] at hAdd
        have hn8 : 8 ≤ n := by
          rcases hb2 with x | x
          · rw [hmm] at x; cases x
          · exact x
        have HE := Lib.hid hAdd
        obtain ⟨q, hq⟩ : ∃ q, Int.tdiv mac 1099511627776 = q := ⟨_, rfl⟩
        have hq2 : mac / 1099511627776 = q := by rw [← hq, Int.tdiv_eq_ediv_of_nonneg hm.1]
        have hq0 : 0 ≤ q ∧ q ≤ 18446744073709551615 := by omega
        obtain ⟨r, hr⟩ : ∃ r, Int.tmod q 2 = r := ⟨_, rfl⟩
        have hr2 : q % 2 = r := by rw [← hr, Int.tmod_eq_emod_of_nonneg hq0.1]
        have jq : IntKind.u64.wrap q = q := by rw [IntKind.wrap_u64]; omega
        have jr : IntKind.u64.wrap r = r := by rw [IntKind.wrap_u64]; omega
        have hcs : ¬ mac = 0 ∧ ¬ 281474976710656 ≤ mac ∧ ¬ r = 1 ∧ ¬ mtu < 68 ∧ ¬ 1500 < mtu := by
          rw [Bool.and_eq_true] at hmm
          unfold macOk mtuOk at hmm
          rw [decide_eq_true_eq, decide_eq_true_eq, hq2, hr2] at hmm
          omega
        obtain ⟨m1, m2, m3, m4, m5⟩ := hcs
        have bm : (mac == (0 : Int)) = false := by simpa using m1
        have br : (r == (1 : Int)) = false := by simpa using m3
        have n8 : (8 : Int) ≤ (n : Int) := by omega
        clear hAdd hb hb2 hk hm hf tup hq2 hq0 hr2 hmm hno hn8
        go_enter Try.func27, Try.ntmps27
        go_wp2_with fail
        refine Calls.mono HNa.out ?_
        rintro e w' ⟨rfl, rfl⟩
        go_wp2_with fail
        refine Calls.mono HNd.out ?_
        rintro e w' ⟨rfl, rfl⟩
        go_wp2
        exact bodyPost_ret (v := .tuple #[.int .i64 0, .int .i64 131]) (by simp [results, Try.results27, go_sem]) rfl ⟨by rw [HE.out], by rw [HE.out], rfl⟩
    · rw [if_pos (.inr hk0)] at hAdd
      have HE := Lib.hid hAdd
      have k0 : (0 : Int) < (k : Int) := by omega
      clear hAdd hb hk hm hf tup
      go_enter Try.func27, Try.ntmps27
      go_wp2_with fail
      refine Calls.mono HNa.out ?_
      rintro e w' ⟨rfl, rfl⟩
      go_wp2_with fail
      refine Calls.mono HNd.out ?_
      rintro e w' ⟨rfl, rfl⟩
      go_wp2
      exact bodyPost_ret (v := .tuple #[.int .i64 0, .int .i64 130]) (by simp [results, Try.results27, go_sem]) rfl ⟨by rw [HE.out], by rw [HE.out], rfl⟩
end Go.Proofs.Ytabbclocgkhnhaa
