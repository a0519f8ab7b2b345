/-
  Several texts in one: IfM, IfO, IfQ, IfR.
-/
import Derived.Test.YtgfkmgbcajdcdaaGreatDoorYax
import Derived.Test.YtgfkmgbcajdcdaaGreatDoorYaa
set_option linter.unusedVariables false
set_option maxRecDepth 100000
set_option maxHeartbeats 16000000
namespace Go.Proofs.YtgfkmgbcajdcdaaGreatDoor.Ifs
open Go.RowKit

theorem infoPt : (Tryz.prog.info? 74).map (fun i => (i.zero, i.size, i.bytes)) = some (some (.agg #[.string ⟨#[]⟩, .int .u64 0, .int .i64 0, .bool false]), 4, 40) := by kernel_rfl
theorem infoLs : (Tryz.prog.info? 132).map (fun i => (i.zero, i.size, i.bytes)) = some (some (.slice none 0 0), 1, 24) := by kernel_rfl
theorem IfD.rep {w : World} {t : Nat} {S : List Nat} {st : StI} (h : IfD w t S st) : ∃ (AP AL : Option Addr) (cP cL : Nat) (lv : List Value), S = t :: (obI (.slice AP st.1.length cP) ++ (obI (.slice AL st.1.length cL) ++ lv.flatMap obI)) ∧
  RepI w t (.slice AP st.1.length cP) st.1.length (st.1.flatMap prC) (.slice AL st.1.length cL) st.1.length lv st.2 ∧ lv.length = st.1.length := by
 obtain ⟨AP, AL, cP, cL, lv, h1, h2, h3, h4, h5, h6, h7, h8⟩ := h
 exact ⟨AP, AL, cP, cL, lv, h1, ⟨h1 ▸ h2, h3, h4, h5, h7⟩, h6⟩
theorem addD_bad (t : Nat) (S : List Nat) (st : StI) (nm : ByteArray) (mac mtu : Int) (hm : 0 ≤ mac ∧ mac ≤ 18446744073709551615) (hb : nameOk nm = false ∨ namedI st.1 nm ≠ 0 ∨ (macOk mac && mtuOk mtu) = false ∨ 8 ≤ st.1.length) (w : World) (h : IfD w t S st) :
  Calls Tryz.prog 89 #[.pointer (some ⟨t, 0, none⟩), .string nm, .int .u64 mac, .int .i64 mtu] w fun e w' => e = .returned (.tuple #[.int .i64 (addI st nm mac mtu).2.1, .int .i64 (addI st nm mac mtu).2.2]) ∧ (addI st nm mac mtu).1 = st ∧ w = w' := by
 have HNa := lH (nameD nm w)
 have HNd := lH (namedD t S st nm w h)
 have hf := h.few
 obtain ⟨AP, AL, cP, cL, lv, -, hR, hlv⟩ := h.rep
 have c0 := (hR.blk.cell 0).trans (show _ = some (Value.slice AP st.1.length cP) by rfl)
 have hAdd : addI st nm mac mtu = (if nameOk nm = false ∨ namedI st.1 nm ≠ 0 then (st, 0, 130) else if (macOk mac && mtuOk mtu) = false then (st, 0, 1) else (st, 0, 131)) := by
  unfold addI
  by_cases h1 : nameOk nm = false ∨ namedI st.1 nm ≠ 0
  ·rw [if_pos h1, if_pos h1]
  ·rw [if_neg h1, if_neg h1]
   by_cases h2 : (macOk mac && mtuOk mtu) = false
   ·rw [if_pos h2, if_pos h2]
   ·rw [if_neg h2, if_neg h2]
    have h3 : 8 ≤ st.1.length := by
     rcases hb with x | x | x | x
     ·exact absurd (.inl x) h1
     ·exact absurd (.inr x) h1
     ·exact absurd x h2
     ·exact x
    rw [if_pos h3]
 have tup := fun (v : Int) => (show (Ending.returned (Value.tuple #[.int .i64 0, .int .i64 v])) = Ending.returned (Value.tuple #[.int .i64 0, .int .i64 v]) from rfl)
 obtain ⟨n, hn⟩ : ∃ n, st.1.length = n := ⟨_, rfl⟩
 obtain ⟨k, hk⟩ : ∃ k, namedI st.1 nm = k := ⟨_, rfl⟩
 rw [hn] at c0 hf hb
 rw [hk] at HNd hAdd hb
 clear hR hlv h hn
 cases hno : nameOk nm with
 | false =>
  rw [hno] at HNa hAdd
  rw [if_pos (.inl rfl)] at hAdd
  have HE := lH hAdd
  clear hAdd hb hk hm hf tup
  go_enter Tryz.func89, Tryz.ntmps89
  go_wp2_with fail
  refine cZm HNa.out ?_
  rintro e w' ⟨rfl, rfl⟩
  go_wp2
  exact bodyPost_ret (v := .tuple #[.int .i64 0, .int .i64 130]) (by simp [results, Tryz.results89, go_sem]) rfl ⟨by rw [HE.out], by rw [HE.out], rfl⟩
 | true =>
  rw [hno] at HNa hAdd hb
  by_cases hk0 : k = 0
  ·subst hk0
   rw [if_neg (by simp)] at hAdd
   have hb2 : (macOk mac && mtuOk mtu) = false ∨ 8 ≤ n := by
    rcases hb with x | x | x | x
    ·cases x
    ·exact absurd rfl x
    ·exact .inl x
    ·exact .inr x
   cases hmm : (macOk mac && mtuOk mtu) with
   | false =>
    rw [hmm, if_pos rfl] at hAdd
    have HE := lH hAdd
    obtain ⟨q, hq⟩ : ∃ q, Int.tdiv mac 1099511627776 = q := ⟨_, rfl⟩
    have hq2 : mac / 1099511627776 = q := by rw [← hq, Int.tdiv_eq_ediv_of_nonneg hm.1]
    have hq0 : 0 ≤ q ∧ q ≤ 18446744073709551615 := by omega
    obtain ⟨r, hr⟩ : ∃ r, Int.tmod q 2 = r := ⟨_, rfl⟩
    have hr2 : q % 2 = r := by rw [← hr, Int.tmod_eq_emod_of_nonneg hq0.1]
    have jq : IntKind.u64.wrap q = q := by rw [IntKind.wrap_u64]; omega
    have jr : IntKind.u64.wrap r = r := by rw [IntKind.wrap_u64]; omega
    have hcs : mac = 0 ∨ (¬ mac = 0 ∧ 281474976710656 ≤ mac) ∨ (¬ mac = 0 ∧ ¬ 281474976710656 ≤ mac ∧ r = 1) ∨ (¬ mac = 0 ∧ ¬ 281474976710656 ≤ mac ∧ ¬ r = 1 ∧ mtu < 68) ∨ (¬ mac = 0 ∧ ¬ 281474976710656 ≤ mac ∧ ¬ r = 1 ∧ ¬ mtu < 68 ∧ 1500 < mtu) := by
     rw [Bool.and_eq_false_iff] at hmm
     unfold macOk mtuOk at hmm
     rw [decide_eq_false_iff_not, decide_eq_false_iff_not, hq2, hr2] at hmm
     omega
    clear hAdd hb hb2 hk hm hf tup hq2 hq0 hr2 hmm hno
    rcases hcs with m1 | ⟨m1, m2⟩ | ⟨m1, m2, m3⟩ | ⟨m1, m2, m3, m4⟩ | ⟨m1, m2, m3, m4, m5⟩
    ·subst m1
     go_enter Tryz.func89, Tryz.ntmps89
     go_wp2_with fail
     refine cZm HNa.out ?_
     rintro e w' ⟨rfl, rfl⟩
     go_wp2_with fail
     refine cZm HNd.out ?_
     rintro e w' ⟨rfl, rfl⟩
     go_wp2
     exact bodyPost_ret (v := .tuple #[.int .i64 0, .int .i64 1]) (by simp [results, Tryz.results89, go_sem]) rfl ⟨by rw [HE.out], by rw [HE.out], rfl⟩
    ·have bm : (mac == (0 : Int)) = false := by simpa using m1
     go_enter Tryz.func89, Tryz.ntmps89
     go_wp2_with fail
     refine cZm HNa.out ?_
     rintro e w' ⟨rfl, rfl⟩
     go_wp2_with fail
     refine cZm HNd.out ?_
     rintro e w' ⟨rfl, rfl⟩
     go_wp2
     exact bodyPost_ret (v := .tuple #[.int .i64 0, .int .i64 1]) (by simp [results, Tryz.results89, go_sem]) rfl ⟨by rw [HE.out], by rw [HE.out], rfl⟩
    ·have bm : (mac == (0 : Int)) = false := by simpa using m1
     have br : (r == (1 : Int)) = true := by simpa using m3
     go_enter Tryz.func89, Tryz.ntmps89
     go_wp2_with fail
     refine cZm HNa.out ?_
     rintro e w' ⟨rfl, rfl⟩
     go_wp2_with fail
     refine cZm HNd.out ?_
     rintro e w' ⟨rfl, rfl⟩
     go_wp2
     exact bodyPost_ret (v := .tuple #[.int .i64 0, .int .i64 1]) (by simp [results, Tryz.results89, go_sem]) rfl ⟨by rw [HE.out], by rw [HE.out], rfl⟩
    ·have bm : (mac == (0 : Int)) = false := by simpa using m1
     have br : (r == (1 : Int)) = false := by simpa using m3
     go_enter Tryz.func89, Tryz.ntmps89
     go_wp2_with fail
     refine cZm HNa.out ?_
     rintro e w' ⟨rfl, rfl⟩
     go_wp2_with fail
     refine cZm HNd.out ?_
     rintro e w' ⟨rfl, rfl⟩
     go_wp2
     exact bodyPost_ret (v := .tuple #[.int .i64 0, .int .i64 1]) (by simp [results, Tryz.results89, go_sem]) rfl ⟨by rw [HE.out], by rw [HE.out], rfl⟩
    ·have bm : (mac == (0 : Int)) = false := by simpa using m1
     have br : (r == (1 : Int)) = false := by simpa using m3
     go_enter Tryz.func89, Tryz.ntmps89
     go_wp2_with fail
     refine cZm HNa.out ?_
     rintro e w' ⟨rfl, rfl⟩
     go_wp2_with fail
     refine cZm HNd.out ?_
     rintro e w' ⟨rfl, rfl⟩
     go_wp2
     exact bodyPost_ret (v := .tuple #[.int .i64 0, .int .i64 1]) (by simp [results, Tryz.results89, go_sem]) rfl ⟨by rw [HE.out], by rw [HE.out], rfl⟩
   | true =>
    rw [hmm, if_neg (by decide)] at hAdd
    have hn8 : 8 ≤ n := by
     rcases hb2 with x | x
     ·rw [hmm] at x; cases x
     ·exact x
    have HE := lH hAdd
    obtain ⟨q, hq⟩ : ∃ q, Int.tdiv mac 1099511627776 = q := ⟨_, rfl⟩
    have hq2 : mac / 1099511627776 = q := by rw [← hq, Int.tdiv_eq_ediv_of_nonneg hm.1]
    have hq0 : 0 ≤ q ∧ q ≤ 18446744073709551615 := by omega
    obtain ⟨r, hr⟩ : ∃ r, Int.tmod q 2 = r := ⟨_, rfl⟩
    have hr2 : q % 2 = r := by rw [← hr, Int.tmod_eq_emod_of_nonneg hq0.1]
    have jq : IntKind.u64.wrap q = q := by rw [IntKind.wrap_u64]; omega
    have jr : IntKind.u64.wrap r = r := by rw [IntKind.wrap_u64]; omega
    have hcs : ¬ mac = 0 ∧ ¬ 281474976710656 ≤ mac ∧ ¬ r = 1 ∧ ¬ mtu < 68 ∧ ¬ 1500 < mtu := by
     rw [Bool.and_eq_true] at hmm
     unfold macOk mtuOk at hmm
     rw [decide_eq_true_eq, decide_eq_true_eq, hq2, hr2] at hmm
     omega
    obtain ⟨m1, m2, m3, m4, m5⟩ := hcs
    have bm : (mac == (0 : Int)) = false := by simpa using m1
    have br : (r == (1 : Int)) = false := by simpa using m3
    have n8 : (8 : Int) ≤ (n : Int) := by omega
    clear hAdd hb hb2 hk hm hf tup hq2 hq0 hr2 hmm hno hn8
    go_enter Tryz.func89, Tryz.ntmps89
    go_wp2_with fail
    refine cZm HNa.out ?_
    rintro e w' ⟨rfl, rfl⟩
    go_wp2_with fail
    refine cZm HNd.out ?_
    rintro e w' ⟨rfl, rfl⟩
    go_wp2
    exact bodyPost_ret (v := .tuple #[.int .i64 0, .int .i64 131]) (by simp [results, Tryz.results89, go_sem]) rfl ⟨by rw [HE.out], by rw [HE.out], rfl⟩
  ·rw [if_pos (.inr hk0)] at hAdd
   have HE := lH hAdd
   have k0 : (0 : Int) < (k : Int) := by omega
   clear hAdd hb hk hm hf tup
   go_enter Tryz.func89, Tryz.ntmps89
   go_wp2_with fail
   refine cZm HNa.out ?_
   rintro e w' ⟨rfl, rfl⟩
   go_wp2_with fail
   refine cZm HNd.out ?_
   rintro e w' ⟨rfl, rfl⟩
   go_wp2
   exact bodyPost_ret (v := .tuple #[.int .i64 0, .int .i64 130]) (by simp [results, Tryz.results89, go_sem]) rfl ⟨by rw [HE.out], by rw [HE.out], rfl⟩
end Go.Proofs.YtgfkmgbcajdcdaaGreatDoor.Ifs

namespace Go.Proofs.YtgfkmgbcajdcdaaGreatDoor.Ifs
open Go.RowKit

theorem RepI.back {w : World} {t : Nat} {vP vL : Value} {lv : List Value} {st : StI} {n : Nat} (hn : st.1.length = n) (h : RepI w t vP n (st.1.flatMap prC) vL n lv st.2) (hl : lv.length = n) (hi : InvI st) : IfD w t (t :: (obI vP ++ (obI vL ++ lv.flatMap obI))) st := by
 subst hn
 obtain ⟨AP, cP, e1, -⟩ := own_sl h.rowP
 obtain ⟨AL, cL, e2, -⟩ := own_sl h.rowL
 subst e1 e2
 exact ⟨AP, AL, cP, cL, lv, rfl, h.nod, h.blk, h.rowP, h.rowL, hl, h.inn, hi⟩
theorem addD_ok (t : Nat) (S : List Nat) (st : StI) (nm : ByteArray) (mac mtu : Int) (hm : 0 ≤ mac ∧ mac ≤ 18446744073709551615) (hb : nameOk nm = true ∧ namedI st.1 nm = 0 ∧ (macOk mac && mtuOk mtu) = true ∧ st.1.length < 8) (w : World) (h : IfD w t S st) :
  Calls Tryz.prog 89 #[.pointer (some ⟨t, 0, none⟩), .string nm, .int .u64 mac, .int .i64 mtu] w fun e w' => e = .returned (.tuple #[.int .i64 (addI st nm mac mtu).2.1, .int .i64 (addI st nm mac mtu).2.2]) ∧ ∃ S', IfD w' t S' (addI st nm mac mtu).1 ∧ Goes w w' S S' := by
 have HNa := lH (nameD nm w)
 have HNd := lH (namedD t S st nm w h)
 have hinv := h.inv.add nm mac mtu
 have hlen := h.inv.len
 obtain ⟨AP, AL, cP, cL, lv, hS, hR, hlv⟩ := h.rep
 have c0 := (hR.blk.cell 0).trans (show _ = some (Value.slice AP st.1.length cP) by rfl)
 have c1 := (hR.blk.cell 1).trans (show _ = some (Value.slice AL st.1.length cL) by rfl)
 have hAdd : addI st nm mac mtu = ((st.1 ++ [(nm, mac, mtu, false)], st.2 ++ [[]]), ((st.1.length + 1 : Nat) : Int), 0) := by
  unfold addI
  rw [if_neg (by rw [hb.1, hb.2.1]; simp), if_neg (by rw [hb.2.2.1]; simp), if_neg (by omega)]
 have hmm := hb.2.2.1
 have hn8 := hb.2.2.2
 rw [hb.1] at HNa
 rw [hb.2.1] at HNd
 rw [hAdd] at hinv
 obtain ⟨n, hn⟩ : ∃ n, st.1.length = n := ⟨_, rfl⟩
 rw [hn] at c0 c1 hn8 hR hlv hAdd hlen hS
 obtain ⟨q, hq⟩ : ∃ q, Int.tdiv mac 1099511627776 = q := ⟨_, rfl⟩
 have hq2 : mac / 1099511627776 = q := by rw [← hq, Int.tdiv_eq_ediv_of_nonneg hm.1]
 have hq0 : 0 ≤ q ∧ q ≤ 18446744073709551615 := by omega
 obtain ⟨r, hr⟩ : ∃ r, Int.tmod q 2 = r := ⟨_, rfl⟩
 have hr2 : q % 2 = r := by rw [← hr, Int.tmod_eq_emod_of_nonneg hq0.1]
 have jq : IntKind.u64.wrap q = q := by rw [IntKind.wrap_u64]; omega
 have jr : IntKind.u64.wrap r = r := by rw [IntKind.wrap_u64]; omega
 have hcs : ¬ mac = 0 ∧ ¬ 281474976710656 ≤ mac ∧ ¬ r = 1 ∧ ¬ mtu < 68 ∧ ¬ 1500 < mtu := by
  rw [Bool.and_eq_true] at hmm
  unfold macOk mtuOk at hmm
  rw [decide_eq_true_eq, decide_eq_true_eq, hq2, hr2] at hmm
  omega
 obtain ⟨m1, m2, m3, m4, m5⟩ := hcs
 have bm : (mac == (0 : Int)) = false := by simpa using m1
 have br : (r == (1 : Int)) = false := by simpa using m3
 have n8 : ¬ (8 : Int) ≤ (n : Int) := by omega
 have HR := lH hR
 have HLe := lH (show lv.length = st.2.length ∧ n ≤ 1000000 from ⟨by omega, by omega⟩)
 have HO1 : Hid ((w.alloc (.cells #[.string nm, .int .u64 mac, .int .i64 mtu, .bool false] 74)).ownsRow 0 74 4 (.slice AP n cP) n (st.1.flatMap prC)) := lH (hR.rowP.alloc _)
 have HS1 := lH (src_new w 74 [.string nm, .int .u64 mac, .int .i64 mtu, .bool false])
 have HE := lH (And.intro hAdd (And.intro hinv (And.intro hn (And.intro hlv hS))))
 clear hAdd hb hm hq2 hq0 hr2 hmm hn8 hR hlv hlen hinv hn hS h
 go_enter Tryz.func89, Tryz.ntmps89
 go_wp2_with fail
 refine cZm HNa.out ?_
 rintro e w' ⟨rfl, rfl⟩
 go_wp2_with fail
 refine cZm HNd.out ?_
 rintro e w' ⟨rfl, rfl⟩
 go_wp2_with (first
  | (at_builtin; (refine wpList_apc 167 74 (.agg #[.string ⟨#[]⟩, .int .u64 0, .int .i64 0, .bool false]) 4 40 Tryz.underlying167 infoPt rfl (by decide) (by decide) _ rfl (.tmp 51) (.tmp 56) rfl 0 (.slice AP n cP) n (st.1.flatMap prC) rfl HO1.out ⟨w.heap.size, 0, none⟩ 1 [.string nm, .int .u64 mac, .int .i64 mtu, .bool false] rfl rfl (fun j u hj => HS1.out j u hj) (by simp [Value.oneCell']) HLe.out.2 (Nat.zero_le _) ?_; intro v1 w1 hown1 hg1 hv1; obtain ⟨hR2, hG2, f0, u0, hu0⟩ := RepI.growP HR.out HLe.out.1 hown1 hg1 hv1; obtain ⟨A1, c1', e1, -, -⟩ := own_sl hown1; subst e1; have HR2 := lH hR2; have HG2 := lH hG2; have d1 := (hR2.blk.cell 1).trans (show _ = some (Value.slice AL n cL) by rfl); have HO2 : Hid (((w1.setCell ⟨t, 0, none⟩ (.slice A1 (n + 1) c1')).alloc (.cells #[Value.slice none 0 0] 132)).ownsRow 0 132 1 (.slice AL n cL) n lv) := lH (hR2.rowL.alloc _); have HS2 := lH (by have h0 := src_new (w1.setCell ⟨t, 0, none⟩ (.slice A1 (n + 1) c1')) 132 [Value.slice none 0 0]; rw [World.size_setCell] at h0; exact h0); have d0 := (hR2.blk.cell 0).trans (show _ = some (Value.slice A1 (n + 1) c1') by rfl); clear c0 c1 hown1 hg1 hv1 hR2 hG2))
  | (at_builtin; (refine wpList_apc 168 132 (.slice none 0 0) 1 24 Tryz.underlying168 infoLs rfl (by decide) (by decide) _ rfl (.tmp 64) (.tmp 65) rfl 0 (.slice AL n cL) n lv rfl HO2.out ⟨w1.heap.size, 0, none⟩ 1 [Value.slice none 0 0] rfl rfl (fun j u hj => HS2.out j u hj) (by simp [Value.oneCell']) HLe.out.2 (Nat.zero_le _) ?_; intro v3 w3 hown3 hg3 hv3; obtain ⟨hR4, hG4, f1, u1, hu1⟩ := RepI.growL HR2.out HLe.out.1 hown3 hg3 hv3; obtain ⟨A3, c3', e3, -, -⟩ := own_sl hown3; subst e3; have HR4 := lH hR4; have HG4 := lH hG4; have d3 := (hR4.blk.cell 0).trans (show _ = some (Value.slice A1 (n + 1) c1') by rfl); clear d0 d1 hown3 hg3 hv3 hR4 hG4)))
 refine bodyPost_ret (v := .tuple #[.int .i64 ((n + 1 : Nat) : Int), .int .i64 0]) (by simp [results, Tryz.results89, go_sem]) rfl ?_
 obtain ⟨q1, q2, q3, q4, q5⟩ := HE.out
 refine ⟨by rw [q1], t :: (obI (.slice A1 (n + 1) c1') ++ (obI (.slice A3 (n + 1) c3') ++ (lv ++ [Value.slice none 0 0]).flatMap obI)), ?_, ?_⟩
 ·rw [q1]
  refine RepI.back (n := n + 1) (by simp [q3]) ?_ (by simp [q4]) q2
  have h4 := HR4.out
  rw [show (st.1 ++ [(nm, mac, mtu, false)]).flatMap prC = st.1.flatMap prC ++ [.string nm, .int .u64 mac, .int .i64 mtu, .bool false] by rw [List.flatMap_append]; rfl]
  exact h4
 ·rw [q5]
  exact HG2.out.trans HG4.out
theorem addD (t : Nat) (S : List Nat) (st : StI) (nm : ByteArray) (mac mtu : Int) (hm : 0 ≤ mac ∧ mac ≤ 18446744073709551615) (w : World) (h : IfD w t S st) :
  Calls Tryz.prog 89 #[.pointer (some ⟨t, 0, none⟩), .string nm, .int .u64 mac, .int .i64 mtu] w fun e w' => e = .returned (.tuple #[.int .i64 (addI st nm mac mtu).2.1, .int .i64 (addI st nm mac mtu).2.2]) ∧ ∃ S', IfD w' t S' (addI st nm mac mtu).1 ∧ Goes w w' S S' := by
 by_cases hb : nameOk nm = true ∧ namedI st.1 nm = 0 ∧ (macOk mac && mtuOk mtu) = true ∧ st.1.length < 8
 ·exact addD_ok t S st nm mac mtu hm hb w h
 ·have hb2 : nameOk nm = false ∨ namedI st.1 nm ≠ 0 ∨ (macOk mac && mtuOk mtu) = false ∨ 8 ≤ st.1.length := by
   by_cases h1 : nameOk nm = true
   ·by_cases h2 : namedI st.1 nm = 0
    ·by_cases h3 : (macOk mac && mtuOk mtu) = true
     ·exact .inr (.inr (.inr (by rcases Nat.lt_or_ge st.1.length 8 with h4 | h4; exact absurd ⟨h1, h2, h3, h4⟩ hb; exact h4)))
     ·exact .inr (.inr (.inl (by simpa using h3)))
    ·exact .inr (.inl h2)
   ·exact .inl (by simpa using h1)
  refine cZm (addD_bad t S st nm mac mtu hm hb2 w h) ?_
  rintro e w' ⟨rfl, h1, rfl⟩
  exact ⟨rfl, S, by rw [h1]; exact h, Goes.of_tch (Tch.refl _ _)⟩
end Go.Proofs.YtgfkmgbcajdcdaaGreatDoor.Ifs

namespace Go.Proofs.YtgfkmgbcajdcdaaGreatDoor.Ifs
open Go.RowKit

theorem newD (w : World) : Calls Tryz.prog 46 #[] w fun e w' => ∃ t S, e = .returned (.pointer (some ⟨t, 0, none⟩)) ∧ IfD w' t S ([], []) ∧ Tch w w' [] ∧ ∀ s ∈ S, w.heap.size ≤ s := by
 go_enter Tryz.func46, Tryz.ntmps46
 go_wp2
 refine bodyPost_ret (v := .pointer (some ⟨w.heap.size, 0, none⟩)) (by simp [results, Tryz.results46, go_sem]) rfl ?_
 have hB := Blk.new w 170 #[.slice none 0 0, .slice none 0 0]
 refine ⟨w.heap.size, [w.heap.size], rfl, ⟨none, none, 0, 0, [], rfl, by simp, hB, ⟨rfl, .inl ⟨rfl, rfl⟩⟩, ⟨rfl, .inl ⟨rfl, rfl⟩⟩, rfl, by simp, InvI.nil⟩, (Tch.refl w _).alloc _, by simp⟩
end Go.Proofs.YtgfkmgbcajdcdaaGreatDoor.Ifs

namespace Go.Proofs.YtgfkmgbcajdcdaaGreatDoor.Ifs
open Go.RowKit

theorem putD_none (t : Nat) (S : List Nat) (st : StI) (port : Int) (a : AdI) (bits : Int) (hth : thereI st port = false) (w : World) (h : IfD w t S st) :
  Calls Tryz.prog 92 #[.pointer (some ⟨t, 0, none⟩), .int .i64 port, adV a, .int .i64 bits] w fun e w' => e = .returned (.int .i64 (putI st port a bits).2) ∧ (putI st port a bits).1 = st ∧ Tch w w' [] := by
 have HE : Hid (putI st port a bits = (st, 132)) := lH (by unfold putI; rw [if_pos hth])
 obtain ⟨s, ah, al⟩ := a
 obtain ⟨xb, hxb⟩ : ∃ xb, w.heap.size = xb := ⟨_, rfl⟩
 obtain ⟨W0, hW0⟩ : ∃ W, w.alloc (.cells #[.bool s, .int .u64 (ah : Int), .int .u64 (al : Int)] 28) = W := ⟨_, rfl⟩
 have HT0 : Hid (Tch w W0 []) := lH (hW0 ▸ (Tch.refl w []).alloc _)
 have HTh := lH (there_any t S st port W0 (h.tch HT0.out (by simp)))
 have HW0 := lH (And.intro hW0 hxb)
 rw [hth] at HTh
 clear hW0 hxb h hth
 go_enter Tryz.func92, Tryz.ntmps92
 go_wp2_with fail
 rw [HW0.out.1, HW0.out.2]
 refine cZm HTh.out ?_
 rintro e w' ⟨rfl, rfl⟩
 go_wp2
 exact bodyPost_ret (v := .int .i64 132) (by simp [results, Tryz.results92, go_sem]) rfl ⟨by rw [HE.out], by rw [HE.out], HT0.out⟩
theorem putD_cls (t : Nat) (S : List Nat) (st : StI) (port : Int) (a : AdI) (ha : N64 a.2.1 ∧ N64 a.2.2) (bits : Int) (hth : thereI st port = true) (hc : clsI a ≠ 2 ∧ clsI a ≠ 5) (w : World) (h : IfD w t S st) :
  Calls Tryz.prog 92 #[.pointer (some ⟨t, 0, none⟩), .int .i64 port, adV a, .int .i64 bits] w fun e w' => e = .returned (.int .i64 (putI st port a bits).2) ∧ (putI st port a bits).1 = st ∧ Tch w w' [] := by
 have HE : Hid (putI st port a bits = (st, 133)) := lH (by unfold putI; rw [if_neg (by rw [hth]; simp), if_pos (by unfold adOk; simp [hc.1, hc.2])])
 obtain ⟨s, ah, al⟩ := a
 have ha : N64 ah ∧ N64 al := ha
 obtain ⟨c, hcv⟩ : ∃ c, clsV s (ah : Int) (al : Int) = c := ⟨_, rfl⟩
 have hc1 : c ≠ 2 ∧ c ≠ 5 := by rw [← hcv]; exact hc
 have b2 : (c == (2 : Int)) = false := by simpa using hc1.1
 have b5 : (c == (5 : Int)) = false := by simpa using hc1.2
 have HC := lH (fun W => rclass_at s (ah : Int) (al : Int) (by unfold U6; have := ha.1; unfold N64 at this; omega) (by unfold U6; have := ha.2; unfold N64 at this; omega) hcv W)
 obtain ⟨xb, hxb⟩ : ∃ xb, w.heap.size = xb := ⟨_, rfl⟩
 obtain ⟨W0, hW0⟩ : ∃ W, w.alloc (.cells #[.bool s, .int .u64 (ah : Int), .int .u64 (al : Int)] 28) = W := ⟨_, rfl⟩
 have hX : Blk W0 xb 28 #[.bool s, .int .u64 (ah : Int), .int .u64 (al : Int)] := hW0 ▸ hxb ▸ Blk.new _ _ _
 have x0 := (hX.cell 0).trans (show _ = some (Value.bool s) by rfl)
 have x1 := (hX.cell 1).trans (show _ = some (Value.int .u64 (ah : Int)) by rfl)
 have x2 := (hX.cell 2).trans (show _ = some (Value.int .u64 (al : Int)) by rfl)
 have HT0 : Hid (Tch w W0 []) := lH (hW0 ▸ (Tch.refl w []).alloc _)
 have HTh := lH (there_any t S st port W0 (h.tch HT0.out (by simp)))
 have HW0 := lH (And.intro hW0 hxb)
 have HXb : Hid (w.heap.size ≤ xb) := lH (by omega)
 have HX := lH hX
 rw [hth] at HTh
 clear hW0 hxb h hth hX ha hcv hc
 go_enter Tryz.func92, Tryz.ntmps92
 go_wp2_with fail
 rw [HW0.out.1, HW0.out.2]
 refine cZm HTh.out ?_
 rintro e w' ⟨rfl, rfl⟩
 go_wp2_with fail
 refine cZm (HC.out _) ?_
 rintro e w1 ⟨rfl, hb1⟩
 have hB1 := (Tch.of_below [] hb1).blk HX.out (by simp)
 have y0 := (hB1.cell 0).trans (show _ = some (Value.bool s) by rfl)
 have y1 := (hB1.cell 1).trans (show _ = some (Value.int .u64 (ah : Int)) by rfl)
 have y2 := (hB1.cell 2).trans (show _ = some (Value.int .u64 (al : Int)) by rfl)
 have HB1 := lH hb1
 clear hB1 hb1 x0 x1 x2
 go_wp2_with fail
 exact bodyPost_ret (v := .int .i64 133) (by simp [results, Tryz.results92, go_sem]) rfl ⟨by rw [HE.out], by rw [HE.out], HT0.out.trans_fre (Tch.of_below [] HB1.out) (by simp)⟩
theorem IfD.reads {W : World} {t : Nat} {S : List Nat} {st : StI} {port : Int} (h : IfD W t S st) (ht : thereI st port = true) : ∃ (gP cP gL cL : Nat) (A : Option Addr) (c n i : Nat), W.cell? ⟨t, 0, none⟩ = some (.slice (some ⟨gP, 0, none⟩) n cP) ∧ W.cell? ⟨gP, i * 4 + 2, none⟩ = some (.int .i64 (mtuI st port)) ∧
  W.cell? ⟨t, 1, none⟩ = some (.slice (some ⟨gL, 0, none⟩) n cL) ∧ W.cell? ⟨gL, i, none⟩ = some (.slice A (locI st port).length c) ∧ IntKind.i64.wrap (port - 1) = (i : Int) ∧ i < n ∧ n ≤ 8 := by
 obtain ⟨p, l, hp, hl, hle, hmt, hlt, hpe⟩ := locI_at h.inv ht
 have hf := h.few
 have hlen := h.inv.len
 obtain ⟨AP, AL, cP, cL, lv, rfl, h2, h3, h4, h5, h6, h7, h8⟩ := h
 obtain ⟨gP, rfl⟩ := slice_some h4 (by omega)
 obtain ⟨gL, rfl⟩ := slice_some h5 (by omega)
 obtain ⟨A, c, e, ho⟩ := h7 _ l hl
 refine ⟨gP, cP, gL, cL, A, c, st.1.length, idxI port, (h3.cell 0).trans rfl, ?_, (h3.cell 1).trans rfl, ?_, ?_, hlt, hf⟩
 ·rw [hmt]; exact own_cellN h4 ((flat4_at (f := prC) (fun _ => rfl) hp (k := 2) (by decide)).trans rfl)
 ·rw [hle]; exact own_cellN h5 e
 ·rw [IntKind.wrap_i64]; omega
theorem putD_low (t : Nat) (S : List Nat) (st : StI) (port : Int) (a : AdI) (ha : N64 a.2.1 ∧ N64 a.2.2) (bits : Int) (hth : thereI st port = true) (hc : clsI a = 2 ∨ clsI a = 5) (hb : bits < 1) (w : World) (h : IfD w t S st) :
  Calls Tryz.prog 92 #[.pointer (some ⟨t, 0, none⟩), .int .i64 port, adV a, .int .i64 bits] w fun e w' => e = .returned (.int .i64 (putI st port a bits).2) ∧ (putI st port a bits).1 = st ∧ Tch w w' [] := by
 have HE : Hid (putI st port a bits = (st, 133)) := lH (by unfold putI; rw [if_neg (by rw [hth]; simp), if_pos (by unfold adOk; simp; omega)])
 have HMi := lH (fun W h => mineD t S st a W h)
 obtain ⟨s, ah, al⟩ := a
 have ha : N64 ah ∧ N64 al := ha
 obtain ⟨c, hcv⟩ : ∃ c, clsV s (ah : Int) (al : Int) = c := ⟨_, rfl⟩
 have hc1 : c = 2 ∨ c = 5 := by rw [← hcv]; exact hc
 have HC := lH (fun W => rclass_at s (ah : Int) (al : Int) (by unfold U6; have := ha.1; unfold N64 at this; omega) (by unfold U6; have := ha.2; unfold N64 at this; omega) hcv W)
 have HWd := lH (fun W => rwidth_at s (ah : Int) (al : Int) (wd s : Int) rfl W)
 obtain ⟨xb, hxb⟩ : ∃ xb, w.heap.size = xb := ⟨_, rfl⟩
 obtain ⟨W0, hW0⟩ : ∃ W, w.alloc (.cells #[.bool s, .int .u64 (ah : Int), .int .u64 (al : Int)] 28) = W := ⟨_, rfl⟩
 have hX : Blk W0 xb 28 #[.bool s, .int .u64 (ah : Int), .int .u64 (al : Int)] := hW0 ▸ hxb ▸ Blk.new _ _ _
 have x0 := (hX.cell 0).trans (show _ = some (Value.bool s) by rfl)
 have x1 := (hX.cell 1).trans (show _ = some (Value.int .u64 (ah : Int)) by rfl)
 have x2 := (hX.cell 2).trans (show _ = some (Value.int .u64 (al : Int)) by rfl)
 have HT0 : Hid (Tch w W0 []) := lH (hW0 ▸ (Tch.refl w []).alloc _)
 have hD0 := h.tch HT0.out (by simp)
 have HD0 := lH hD0
 have HTh := lH (there_any t S st port W0 hD0)
 have HW0 := lH (And.intro hW0 hxb)
 have HX := lH hX
 rw [hth] at HTh
 have HTt := lH hth
 clear hW0 hxb h hth hX ha hcv hc hD0
 have hcc : ∀ c : Int, c = 2 ∨ c = 5 → (c != 2 && c != 5) = false := by rintro c (rfl | rfl) <;> rfl
 have bc := hcc c hc1
 clear hcc
 have key : ∀ (b2 b5 : Bool), (c == (2 : Int)) = b2 → (c == (5 : Int)) = b5 → (b2 = true ∨ b2 = false ∧ b5 = true) → True := fun _ _ _ _ _ => trivial
 clear key
 rcases hc1 with rfl | rfl <;> clear bc
 all_goals
  go_enter Tryz.func92, Tryz.ntmps92
  go_wp2_with fail
  rw [HW0.out.1, HW0.out.2]
  refine cZm HTh.out ?_
  rintro e w' ⟨rfl, rfl⟩
  go_wp2_with fail
  refine cZm (HC.out _) ?_
  rintro e w1 ⟨rfl, hb1⟩
  have hT1 := Tch.of_below [] hb1
  have hB1 := hT1.blk HX.out (by simp)
  have y0 := (hB1.cell 0).trans (show _ = some (Value.bool s) by rfl)
  have y1 := (hB1.cell 1).trans (show _ = some (Value.int .u64 (ah : Int)) by rfl)
  have y2 := (hB1.cell 2).trans (show _ = some (Value.int .u64 (al : Int)) by rfl)
  have HT1 := lH (HT0.out.trans_fre hT1 (by simp))
  have HX1 := lH hB1
  have HD1 := lH (HD0.out.tch hT1 (by simp))
  clear hB1 hb1 hT1 x0 x1 x2
  go_wp2_with fail
  exact bodyPost_ret (v := .int .i64 133) (by simp [results, Tryz.results92, go_sem]) rfl ⟨by rw [HE.out], by rw [HE.out], HT1.out⟩
theorem putD_wide (t : Nat) (S : List Nat) (st : StI) (port : Int) (a : AdI) (ha : N64 a.2.1 ∧ N64 a.2.2) (bits : Int) (hth : thereI st port = true) (hc : clsI a = 2 ∨ clsI a = 5) (hb : 1 ≤ bits) (hb2 : (wd a.1 : Int) < bits) (w : World) (h : IfD w t S st) :
  Calls Tryz.prog 92 #[.pointer (some ⟨t, 0, none⟩), .int .i64 port, adV a, .int .i64 bits] w fun e w' => e = .returned (.int .i64 (putI st port a bits).2) ∧ (putI st port a bits).1 = st ∧ Tch w w' [] := by
 have HE : Hid (putI st port a bits = (st, 133)) := lH (by unfold putI; rw [if_neg (by rw [hth]; simp), if_pos (by unfold adOk; simp; omega)])
 have HMi := lH (fun W h => mineD t S st a W h)
 obtain ⟨s, ah, al⟩ := a
 have ha : N64 ah ∧ N64 al := ha
 obtain ⟨c, hcv⟩ : ∃ c, clsV s (ah : Int) (al : Int) = c := ⟨_, rfl⟩
 have hc1 : c = 2 ∨ c = 5 := by rw [← hcv]; exact hc
 have HC := lH (fun W => rclass_at s (ah : Int) (al : Int) (by unfold U6; have := ha.1; unfold N64 at this; omega) (by unfold U6; have := ha.2; unfold N64 at this; omega) hcv W)
 have HWd := lH (fun W => rwidth_at s (ah : Int) (al : Int) (wd s : Int) rfl W)
 obtain ⟨xb, hxb⟩ : ∃ xb, w.heap.size = xb := ⟨_, rfl⟩
 obtain ⟨W0, hW0⟩ : ∃ W, w.alloc (.cells #[.bool s, .int .u64 (ah : Int), .int .u64 (al : Int)] 28) = W := ⟨_, rfl⟩
 have hX : Blk W0 xb 28 #[.bool s, .int .u64 (ah : Int), .int .u64 (al : Int)] := hW0 ▸ hxb ▸ Blk.new _ _ _
 have x0 := (hX.cell 0).trans (show _ = some (Value.bool s) by rfl)
 have x1 := (hX.cell 1).trans (show _ = some (Value.int .u64 (ah : Int)) by rfl)
 have x2 := (hX.cell 2).trans (show _ = some (Value.int .u64 (al : Int)) by rfl)
 have HT0 : Hid (Tch w W0 []) := lH (hW0 ▸ (Tch.refl w []).alloc _)
 have hD0 := h.tch HT0.out (by simp)
 have HD0 := lH hD0
 have HTh := lH (there_any t S st port W0 hD0)
 have HW0 := lH (And.intro hW0 hxb)
 have HX := lH hX
 rw [hth] at HTh
 have HTt := lH hth
 have hb2 : (wd s : Int) < bits := hb2
 clear hW0 hxb h hth hX ha hcv hc hD0
 have hcc : ∀ c : Int, c = 2 ∨ c = 5 → (c != 2 && c != 5) = false := by rintro c (rfl | rfl) <;> rfl
 have bc := hcc c hc1
 clear hcc
 have key : ∀ (b2 b5 : Bool), (c == (2 : Int)) = b2 → (c == (5 : Int)) = b5 → (b2 = true ∨ b2 = false ∧ b5 = true) → True := fun _ _ _ _ _ => trivial
 clear key
 rcases hc1 with rfl | rfl <;> clear bc
 all_goals
  go_enter Tryz.func92, Tryz.ntmps92
  go_wp2_with fail
  rw [HW0.out.1, HW0.out.2]
  refine cZm HTh.out ?_
  rintro e w' ⟨rfl, rfl⟩
  go_wp2_with fail
  refine cZm (HC.out _) ?_
  rintro e w1 ⟨rfl, hb1⟩
  have hT1 := Tch.of_below [] hb1
  have hB1 := hT1.blk HX.out (by simp)
  have y0 := (hB1.cell 0).trans (show _ = some (Value.bool s) by rfl)
  have y1 := (hB1.cell 1).trans (show _ = some (Value.int .u64 (ah : Int)) by rfl)
  have y2 := (hB1.cell 2).trans (show _ = some (Value.int .u64 (al : Int)) by rfl)
  have HT1 := lH (HT0.out.trans_fre hT1 (by simp))
  have HX1 := lH hB1
  have HD1 := lH (HD0.out.tch hT1 (by simp))
  clear hB1 hb1 hT1 x0 x1 x2
  go_wp2_with fail
  refine cZm (HWd.out _) ?_
  rintro e w2 ⟨rfl, hb2⟩
  have hT2 := Tch.of_below [] hb2
  have hB2 := hT2.blk HX1.out (by simp)
  have z0 := (hB2.cell 0).trans (show _ = some (Value.bool s) by rfl)
  have z1 := (hB2.cell 1).trans (show _ = some (Value.int .u64 (ah : Int)) by rfl)
  have z2 := (hB2.cell 2).trans (show _ = some (Value.int .u64 (al : Int)) by rfl)
  have HT2 := lH (HT1.out.trans_fre hT2 (by simp))
  have HX2 := lH hB2
  have HD2 := lH (HD1.out.tch hT2 (by simp))
  clear hB2 hb2 hT2 y0 y1 y2
  go_wp2_with fail
  exact bodyPost_ret (v := .int .i64 133) (by simp [results, Tryz.results92, go_sem]) rfl ⟨by rw [HE.out], by rw [HE.out], HT2.out⟩
theorem putD_mine (t : Nat) (S : List Nat) (st : StI) (port : Int) (a : AdI) (ha : N64 a.2.1 ∧ N64 a.2.2) (bits : Int) (hth : thereI st port = true) (hc : clsI a = 2 ∨ clsI a = 5) (hb : 1 ≤ bits) (hb2 : bits ≤ (wd a.1 : Int)) (hmi : mineI st.2 a ≠ 0) (w : World) (h : IfD w t S st) :
  Calls Tryz.prog 92 #[.pointer (some ⟨t, 0, none⟩), .int .i64 port, adV a, .int .i64 bits] w fun e w' => e = .returned (.int .i64 (putI st port a bits).2) ∧ (putI st port a bits).1 = st ∧ Tch w w' [] := by
 have HE : Hid (putI st port a bits = (st, 133)) := lH (by unfold putI; rw [if_neg (by rw [hth]; simp), if_pos (by unfold adOk; simp [hmi])])
 have HMi := lH (fun W h => mineD t S st a W h)
 obtain ⟨s, ah, al⟩ := a
 have ha : N64 ah ∧ N64 al := ha
 obtain ⟨c, hcv⟩ : ∃ c, clsV s (ah : Int) (al : Int) = c := ⟨_, rfl⟩
 have hc1 : c = 2 ∨ c = 5 := by rw [← hcv]; exact hc
 have HC := lH (fun W => rclass_at s (ah : Int) (al : Int) (by unfold U6; have := ha.1; unfold N64 at this; omega) (by unfold U6; have := ha.2; unfold N64 at this; omega) hcv W)
 have HWd := lH (fun W => rwidth_at s (ah : Int) (al : Int) (wd s : Int) rfl W)
 obtain ⟨xb, hxb⟩ : ∃ xb, w.heap.size = xb := ⟨_, rfl⟩
 obtain ⟨W0, hW0⟩ : ∃ W, w.alloc (.cells #[.bool s, .int .u64 (ah : Int), .int .u64 (al : Int)] 28) = W := ⟨_, rfl⟩
 have hX : Blk W0 xb 28 #[.bool s, .int .u64 (ah : Int), .int .u64 (al : Int)] := hW0 ▸ hxb ▸ Blk.new _ _ _
 have x0 := (hX.cell 0).trans (show _ = some (Value.bool s) by rfl)
 have x1 := (hX.cell 1).trans (show _ = some (Value.int .u64 (ah : Int)) by rfl)
 have x2 := (hX.cell 2).trans (show _ = some (Value.int .u64 (al : Int)) by rfl)
 have HT0 : Hid (Tch w W0 []) := lH (hW0 ▸ (Tch.refl w []).alloc _)
 have hD0 := h.tch HT0.out (by simp)
 have HD0 := lH hD0
 have HTh := lH (there_any t S st port W0 hD0)
 have HW0 := lH (And.intro hW0 hxb)
 have HX := lH hX
 rw [hth] at HTh
 have HTt := lH hth
 have hb2 : bits ≤ (wd s : Int) := hb2
 have mi : (0 : Int) < (mineI st.2 (s, ah, al) : Int) := by omega
 clear hW0 hxb h hth hX ha hcv hc hD0
 have hcc : ∀ c : Int, c = 2 ∨ c = 5 → (c != 2 && c != 5) = false := by rintro c (rfl | rfl) <;> rfl
 have bc := hcc c hc1
 clear hcc
 have key : ∀ (b2 b5 : Bool), (c == (2 : Int)) = b2 → (c == (5 : Int)) = b5 → (b2 = true ∨ b2 = false ∧ b5 = true) → True := fun _ _ _ _ _ => trivial
 clear key
 rcases hc1 with rfl | rfl <;> clear bc
 all_goals
  go_enter Tryz.func92, Tryz.ntmps92
  go_wp2_with fail
  rw [HW0.out.1, HW0.out.2]
  refine cZm HTh.out ?_
  rintro e w' ⟨rfl, rfl⟩
  go_wp2_with fail
  refine cZm (HC.out _) ?_
  rintro e w1 ⟨rfl, hb1⟩
  have hT1 := Tch.of_below [] hb1
  have hB1 := hT1.blk HX.out (by simp)
  have y0 := (hB1.cell 0).trans (show _ = some (Value.bool s) by rfl)
  have y1 := (hB1.cell 1).trans (show _ = some (Value.int .u64 (ah : Int)) by rfl)
  have y2 := (hB1.cell 2).trans (show _ = some (Value.int .u64 (al : Int)) by rfl)
  have HT1 := lH (HT0.out.trans_fre hT1 (by simp))
  have HX1 := lH hB1
  have HD1 := lH (HD0.out.tch hT1 (by simp))
  clear hB1 hb1 hT1 x0 x1 x2
  go_wp2_with fail
  refine cZm (HWd.out _) ?_
  rintro e w2 ⟨rfl, hb2⟩
  have hT2 := Tch.of_below [] hb2
  have hB2 := hT2.blk HX1.out (by simp)
  have z0 := (hB2.cell 0).trans (show _ = some (Value.bool s) by rfl)
  have z1 := (hB2.cell 1).trans (show _ = some (Value.int .u64 (ah : Int)) by rfl)
  have z2 := (hB2.cell 2).trans (show _ = some (Value.int .u64 (al : Int)) by rfl)
  have HT2 := lH (HT1.out.trans_fre hT2 (by simp))
  have HX2 := lH hB2
  have HD2 := lH (HD1.out.tch hT2 (by simp))
  clear hB2 hb2 hT2 y0 y1 y2
  go_wp2_with fail
  refine cZm (HMi.out _ HD2.out) ?_
  rintro e w3 ⟨rfl, hT3⟩
  have hB3 := hT3.blk HX2.out (by simp)
  have v0 := (hB3.cell 0).trans (show _ = some (Value.bool s) by rfl)
  have HT3 := lH (HT2.out.trans_fre hT3 (by simp))
  obtain ⟨gP, cP, gL, cL, A, c, n, i, r0, r1, r2, r3, r4, r5, r6⟩ := (HD2.out.tch hT3 (by simp)).reads HTt.out
  clear hB3 hT3 z0 z1 z2
  go_wp2_with fail
  exact bodyPost_ret (v := .int .i64 133) (by simp [results, Tryz.results92, go_sem]) rfl ⟨by rw [HE.out], by rw [HE.out], HT3.out⟩
end Go.Proofs.YtgfkmgbcajdcdaaGreatDoor.Ifs
