/-
  The document's own set of ports (layer 14): Add, whole.
-/
import Derived.Test.YtabbclocgkhnhaaIfM
namespace Go.Proofs.Ytabbclocgkhnhaa
open Go.RowKit
set_option linter.unusedVariables false

theorem RepI.back {w : World} {t : Nat} {vP vL : Value} {lv : List Value} {st : StI} {n : Nat} (hn : st.1.length = n) (h : RepI w t vP n (st.1.flatMap prC) vL n lv st.2) (hl : lv.length = n) (hi : InvI st) : IfD w t (t :: (obI vP ++ (obI vL ++ lv.flatMap obI))) st := by
  subst hn
  obtain ⟨AP, cP, e1, -⟩ := own_sl h.rowP
  obtain ⟨AL, cL, e2, -⟩ := own_sl h.rowL
  subst e1 e2
  exact ⟨AP, AL, cP, cL, lv, rfl, h.nod, h.blk, h.rowP, h.rowL, hl, h.inn, hi⟩
theorem Goes.trans {w w1 w2 : World} {S S1 S2 : List Nat} (h : Goes w w1 S S1) (h2 : Goes w1 w2 S1 S2) : Goes w w2 S S2 := by
  refine ⟨h.tch.trans_fre h2.tch h.fre, fun s hs => ?_⟩
  rcases h2.fre s hs with h3 | h3
  · exact h.fre s h3
  · exact .inr (Nat.le_trans h.tch.size h3)
set_option maxRecDepth 100000 in
set_option maxHeartbeats 4000000 in
theorem addD_ok (t : Nat) (S : List Nat) (st : StI) (nm : ByteArray) (mac mtu : Int) (hm : 0 ≤ mac ∧ mac ≤ 18446744073709551615) (hb : nameOk nm = true ∧ namedI st.1 nm = 0 ∧ (macOk mac && mtuOk mtu) = true ∧ st.1.length < 8) (w : World) (h : IfD w t S st) :
    Calls Try.prog 27 #[.pointer (some ⟨t, 0, none⟩), .string nm, .int .u64 mac, .int .i64 mtu] w fun e w' => e = .returned (.tuple #[.int .i64 (addI st nm mac mtu).2.1, .int .i64 (addI st nm mac mtu).2.2]) ∧ ∃ S', IfD w' t S' (addI st nm mac mtu).1 ∧ Goes w w' S S' := by
  have HNa := Lib.hid (nameD nm w)
  have HNd := Lib.hid (namedD t S st nm w h)
  have hinv := h.inv.add nm mac mtu
  have hlen := h.inv.len
  obtain ⟨AP, AL, cP, cL, lv, hS, hR, hlv⟩ := h.rep
  have c0 := (hR.blk.cell 0).trans (show _ = some (Value.slice AP st.1.length cP) by rfl)
  have c1 := (hR.blk.cell 1).trans (show _ = some (Value.slice AL st.1.length cL) by rfl)
  have hAdd : addI st nm mac mtu = ((st.1 ++ [(nm, mac, mtu, false)], st.2 ++ [[]]), ((st.1.length + 1 : Nat) : Int), 0) := by
    unfold addI
    rw [if_neg (by rw [hb.1, hb.2.1]; simp), if_neg (by rw [hb.2.2.1]; simp), if_neg (by omega)]
  have hmm := hb.2.2.1
  have hn8 := hb.2.2.2
  rw [hb.1] at HNa
  rw [hb.2.1] at HNd
  rw [hAdd] at hinv
  obtain ⟨n, hn⟩ : ∃ n, st.1.length = n := ⟨_, rfl⟩
  rw [hn] at c0 c1 hn8 hR hlv hAdd hlen hS
  obtain ⟨q, hq⟩ : ∃ q, Int.tdiv mac 1099511627776 = q := ⟨_, rfl⟩
  have hq2 : mac / 1099511627776 = q := by rw [← hq, Int.tdiv_eq_ediv_of_nonneg hm.1]
  have hq0 : 0 ≤ q ∧ q ≤ 18446744073709551615 := by omega
  obtain ⟨r, hr⟩ : ∃ r, Int.tmod q 2 = r := ⟨_, rfl⟩
  have hr2 : q % 2 = r := by rw [← hr, Int.tmod_eq_emod_of_nonneg hq0.1]
  have jq : IntKind.u64.wrap q = q := by rw [IntKind.wrap_u64]; omega
  have jr : IntKind.u64.wrap r = r := by rw [IntKind.wrap_u64]; omega
  have hcs : ¬ mac = 0 ∧ ¬ 281474976710656 ≤ mac ∧ ¬ r = 1 ∧ ¬ mtu < 68 ∧ ¬ 1500 < mtu := by
    rw [Bool.and_eq_true] at hmm
    unfold macOk mtuOk at hmm
    rw [decide_eq_true_eq, decide_eq_true_eq, hq2, hr2] at hmm
    omega
  obtain ⟨m1, m2, m3, m4, m5⟩ := hcs
  have bm : (mac == (0 : Int)) = false := by simpa using m1
  have br : (r == (1 : Int)) = false := by simpa using m3
  have n8 : ¬ (8 : Int) ≤ (n : Int) := by omega
  have HR := Lib.hid hR
  have HLe := Lib.hid (show lv.length = st.2.length ∧ n ≤ 1000000 from ⟨by omega, by omega⟩)
  have HO1 : Hid ((w.alloc (.cells #[.string nm, .int .u64 mac, .int .i64 mtu, .bool false] 46)).ownsRow 0 46 4 (.slice AP n cP) n (st.1.flatMap prC)) := Lib.hid (hR.rowP.alloc _)
  have HS1 := Lib.hid (src_new w 46 [.string nm, .int .u64 mac, .int .i64 mtu, .bool false])
  have HE := Lib.hid (And.intro hAdd (And.intro hinv (And.intro hn (And.intro hlv hS))))
  clear hAdd hb hm hq2 hq0 hr2 hmm hn8 hR hlv hlen hinv hn hS h
  go_enter Try.func27, Try.ntmps27
  go_wp2_with fail
  refine Calls.mono HNa.out ?_
  rintro e w' ⟨rfl, rfl⟩
  go_wp2_with fail
  refine Calls.mono HNd.out ?_
  rintro e w' ⟨rfl, rfl⟩
  go_wp2_with (first
    | (at_builtin; (refine wpList_apc 64 46 (.agg #[.string ⟨#[]⟩, .int .u64 0, .int .i64 0, .bool false]) 4 40 Try.underlying64 infoPt rfl (by decide) (by decide) _ rfl (.tmp 51) (.tmp 56) rfl 0 (.slice AP n cP) n (st.1.flatMap prC) rfl HO1.out ⟨w.heap.size, 0, none⟩ 1 [.string nm, .int .u64 mac, .int .i64 mtu, .bool false] rfl rfl (fun j u hj => HS1.out j u hj) (by simp [Value.oneCell']) HLe.out.2 (Nat.zero_le _) ?_; intro v1 w1 hown1 hg1 hv1; obtain ⟨hR2, hG2, f0, u0, hu0⟩ := RepI.growP HR.out HLe.out.1 hown1 hg1 hv1; obtain ⟨A1, c1', e1, -, -⟩ := own_sl hown1; subst e1; have HR2 := Lib.hid hR2; have HG2 := Lib.hid hG2; have d1 := (hR2.blk.cell 1).trans (show _ = some (Value.slice AL n cL) by rfl); have HO2 : Hid (((w1.setCell ⟨t, 0, none⟩ (.slice A1 (n + 1) c1')).alloc (.cells #[Value.slice none 0 0] 39)).ownsRow 0 39 1 (.slice AL n cL) n lv) := Lib.hid (hR2.rowL.alloc _); have HS2 := Lib.hid (by have h0 := src_new (w1.setCell ⟨t, 0, none⟩ (.slice A1 (n + 1) c1')) 39 [Value.slice none 0 0]; rw [World.size_setCell] at h0; exact h0); have d0 := (hR2.blk.cell 0).trans (show _ = some (Value.slice A1 (n + 1) c1') by rfl); clear c0 c1 hown1 hg1 hv1 hR2 hG2))
    | (at_builtin; (refine wpList_apc 65 39 (.slice none 0 0) 1 24 Try.underlying65 infoLs rfl (by decide) (by decide) _ rfl (.tmp 64) (.tmp 65) rfl 0 (.slice AL n cL) n lv rfl HO2.out ⟨w1.heap.size, 0, none⟩ 1 [Value.slice none 0 0] rfl rfl (fun j u hj => HS2.out j u hj) (by simp [Value.oneCell']) HLe.out.2 (Nat.zero_le _) ?_; intro v3 w3 hown3 hg3 hv3; obtain ⟨hR4, hG4, f1, u1, hu1⟩ := RepI.growL HR2.out HLe.out.1 hown3 hg3 hv3; obtain ⟨A3, c3', e3, -, -⟩ := own_sl hown3; subst e3; have HR4 := Lib.hid hR4; have HG4 := Lib.hid hG4; have d3 := (hR4.blk.cell 0).trans (show _ = some (Value.slice A1 (n + 1) c1') by rfl); clear d0 d1 hown3 hg3 hv3 hR4 hG4)))
  refine bodyPost_ret (v := .tuple #[.int .i64 ((n + 1 : Nat) : Int), .int .i64 0]) (by simp [results, Try.results27, go_sem]) rfl ?_
  obtain ⟨q1, q2, q3, q4, q5⟩ := HE.out
  refine ⟨by rw [q1], t :: (obI (.slice A1 (n + 1) c1') ++ (obI (.slice A3 (n + 1) c3') ++ (lv ++ [Value.slice none 0 0]).flatMap obI)), ?_, ?_⟩
  · rw [q1]
    refine RepI.back (n := n + 1) (by simp [q3]) ?_ (by simp [q4]) q2
    have h4 := HR4.out
    rw [show (st.1 ++ [(nm, mac, mtu, false)]).flatMap prC = st.1.flatMap prC ++ [.string nm, .int .u64 mac, .int .i64 mtu, .bool false] by rw [List.flatMap_append]; rfl]
    exact h4
  · rw [q5]
    exact HG2.out.trans HG4.out
/-- Add, whatever it is given. -/
theorem addD (t : Nat) (S : List Nat) (st : StI) (nm : ByteArray) (mac mtu : Int) (hm : 0 ≤ mac ∧ mac ≤ 18446744073709551615) (w : World) (h : IfD w t S st) :
    Calls Try.prog 27 #[.pointer (some ⟨t, 0, none⟩), .string nm, .int .u64 mac, .int .i64 mtu] w fun e w' => e = .returned (.tuple #[.int .i64 (addI st nm mac mtu).2.1, .int .i64 (addI st nm mac mtu).2.2]) ∧ ∃ S', IfD w' t S' (addI st nm mac mtu).1 ∧ Goes w w' S S' := by
  by_cases hb : nameOk nm = true ∧ namedI st.1 nm = 0 ∧ (macOk mac && mtuOk mtu) = true ∧ st.1.length < 8
  · exact addD_ok t S st nm mac mtu hm hb w h
  · have hb2 : nameOk nm = false ∨ namedI st.1 nm ≠ 0 ∨ (macOk mac && mtuOk mtu) = false ∨ 8 ≤ st.1.length := by
      by_cases h1 : nameOk nm = true
      · by_cases h2 : namedI st.1 nm = 0
        · by_cases h3 : (macOk mac && mtuOk mtu) = true
          · exact .inr (.inr (.inr (by rcases Nat.lt_or_ge st.1.length 8 with h4 | h4; exact absurd ⟨h1, h2, h3, h4⟩ hb; exact h4)))
          · exact .inr (.inr (.inl (by simpa using h3)))
        · exact .inr (.inl h2)
      · exact .inl (by simpa using h1)
    refine Calls.mono (addD_bad t S st nm mac mtu hm hb2 w h) ?_
    rintro e w' ⟨rfl, h1, rfl⟩
    exact ⟨rfl, S, by rw [h1]; exact h, Goes.of_tch (Tch.refl _ _)⟩
end Go.Proofs.Ytabbclocgkhnhaa
