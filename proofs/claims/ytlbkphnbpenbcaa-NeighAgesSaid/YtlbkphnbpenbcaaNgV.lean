/-
  The laws of layer 19: a step done by the program's cache; the document's Right; SameActs.
-/
import Derived.Test.YtlbkphnbpenbcaaNgQ
import Derived.Test.YtlbkphnbpenbcaaNgT
import Derived.Test.YtlbkphnbpenbcaaNgU
import Derived.Test.YtlbkphnbpenbcaaERCls
namespace Go.Proofs.Ytlbkphnbpenbcaa
open Go.RowKit
set_option linter.unusedVariables false

/-- A step: What, Port, Addr, Mac, Packet, Answer, Over. -/
structure StpI where
  what : Int
  port : Int
  ad : AdR
  mac : Int
  pkt : ByteArray
  ans : Bool
  ov : Bool
abbrev spA (x : StpI) : Array Value := #[.int .i64 x.what, .int .i64 x.port, .bool x.ad.1, .int .u64 (x.ad.2.1 : Int), .int .u64 (x.ad.2.2 : Int), .int .u64 x.mac, .string x.pkt, .bool x.ans, .bool x.ov]
/-- What a step tells and leaves. -/
def doT (L : TbI) (x : StpI) : List AcI × Int × TbI :=
  if x.what % 8 = 3 then lrnT L (x.port, x.ad) x.mac
  else if x.what % 8 = 4 then telT L (x.port, x.ad) x.mac x.ans x.ov
  else if x.what % 8 = 5 ∨ x.what % 8 = 6 then (tikA L, 0, tikL L)
  else if x.what % 8 = 7 then (drpA L x.port, 0, drpL L x.port)
  else sendT L (x.port, x.ad) x.pkt
theorem and_lowI (n : Int) (k : Nat) (hk : k ≤ 16) : bits .and .i64 n ((2 ^ k - 1 : Nat) : Int) = n % ((2 ^ k : Nat) : Int) := by
  have h0 : 2 ^ k ≤ 2 ^ 16 := Nat.pow_le_pow_right (by decide) hk
  have h00 : 0 < 2 ^ k := Nat.pow_pos (by decide)
  have h7 : (BitVec.ofInt 64 ((2 ^ k - 1 : Nat) : Int)).toNat = 2 ^ k - 1 := by
    rw [BitVec.toNat_ofInt]
    omega
  have key : (BitVec.ofInt 64 n &&& BitVec.ofInt 64 ((2 ^ k - 1 : Nat) : Int)).toNat = (n % ((2 ^ 64 : Nat) : Int)).toNat % 2 ^ k := by
    rw [BitVec.toNat_and, BitVec.toNat_ofInt, h7, Nat.and_two_pow_sub_one_eq_mod]
  show IntKind.i64.wrap ((BitVec.ofInt 64 n &&& BitVec.ofInt 64 ((2 ^ k - 1 : Nat) : Int)).toNat : Nat) = n % ((2 ^ k : Nat) : Int)
  rw [key, IntKind.wrap_i64]
  have hd : ((2 ^ k : Nat) : Int) ∣ ((2 ^ 64 : Nat) : Int) := Int.natCast_dvd_natCast.2 (Nat.pow_dvd_pow 2 (by omega))
  have h1 : (((n % ((2 ^ 64 : Nat) : Int)).toNat % 2 ^ k : Nat) : Int) = n % ((2 ^ k : Nat) : Int) := by
    rw [Int.natCast_emod, Int.toNat_of_nonneg (by omega), Int.emod_emod_of_dvd n hd]
  have h2 := Int.emod_lt_of_pos n (show (0 : Int) < ((2 ^ k : Nat) : Int) by omega)
  have h3 := Int.emod_nonneg n (show ((2 ^ k : Nat) : Int) ≠ 0 by omega)
  rw [h1]
  omega
theorem and7I (n : Int) : bits .and .i64 n 7 = n % 8 := by have := and_lowI n 3 (by decide); simpa using this
theorem ActR.open {w w' : World} {t : Nat} {S : List Nat} {r : List AcI × Int × TbI} {e : Ending} (h : ActR w w' t S r e) : ∃ A n c no S', e = .returned (.tuple #[.slice A n c, .int .i64 no]) ∧ r.1.length = n ∧ r.2.1 = no ∧ w'.ownsRow w.heap.size 41 7 (.slice A n c) n (r.1.flatMap acC) ∧ NgP w' t S' r.2.2 ∧ Goes w w' S S' := by
  obtain ⟨A, c, S', he, ho, hp, hg⟩ := h
  exact ⟨A, _, c, _, S', he, rfl, rfl, ho, hp, hg⟩
theorem ActS.open {w w' : World} {t : Nat} {S : List Nat} {r : List AcI × TbI} {e : Ending} (h : ActS w w' t S r e) : ∃ A n c S', e = .returned (.slice A n c) ∧ r.1.length = n ∧ w'.ownsRow w.heap.size 41 7 (.slice A n c) n (r.1.flatMap acC) ∧ NgP w' t S' r.2 ∧ Goes w w' S S' := by
  obtain ⟨A, c, S', he, ho, hp, hg⟩ := h
  exact ⟨A, _, c, S', he, rfl, ho, hp, hg⟩
theorem ActR.up {w W1 W2 : World} {t : Nat} {S : List Nat} {r : List AcI × Int × TbI} {e : Ending} (hT : Tch w W1 []) (h : ActR W1 W2 t S r e) : ActR w W2 t S r e := by
  obtain ⟨A, c, S', he, ho, hp, hg⟩ := h
  exact ⟨A, c, S', he, own_mono ho hT.size, hp, (Goes.of_nil hT S).trans_ hg⟩
theorem ActS.toR {w w' : World} {t : Nat} {S : List Nat} {r : List AcI × TbI} {A : Option Addr} {n c : Nat} (h : ActS w w' t S r (.returned (.slice A n c))) : ActR w w' t S (r.1, 0, r.2) (.returned (.tuple #[.slice A n c, .int .i64 0])) := by
  obtain ⟨A', c', S', he, ho, hp, hg⟩ := h
  injection he with he
  injection he with h1 h2 h3
  subst h1 h2 h3
  exact ⟨_, _, S', rfl, ho, hp, hg⟩
set_option maxRecDepth 100000 in
set_option maxHeartbeats 4000000 in
theorem doN {w : World} {t : Nat} {S : List Nat} {L : TbI} (h : NgP w t S L) (x : StpI) (hn : KyN (x.port, x.ad)) :
    Calls Try.prog 10 #[.pointer (some ⟨t, 0, none⟩), .agg (spA x)] w fun e w' => ActR w w' t S (doT L x) e := by
  obtain ⟨wh, po, ⟨s, ah, al⟩, mac, pk, an, ov⟩ := x
  simp only at hn
  obtain ⟨xb, hxb⟩ : ∃ xb, w.heap.size = xb := ⟨_, rfl⟩
  obtain ⟨W0, hW0⟩ : ∃ W, w.alloc (.cells #[.int .i64 wh, .int .i64 po, .bool s, .int .u64 (ah : Int), .int .u64 (al : Int), .int .u64 mac, .string pk, .bool an, .bool ov] 33) = W := ⟨_, rfl⟩
  have hX : Blk W0 xb 33 #[.int .i64 wh, .int .i64 po, .bool s, .int .u64 (ah : Int), .int .u64 (al : Int), .int .u64 mac, .string pk, .bool an, .bool ov] := hW0 ▸ hxb ▸ Blk.new _ _ _
  have x0 := (hX.cell 0).trans (show _ = some (Value.int .i64 wh) by rfl)
  have x1 := (hX.cell 1).trans (show _ = some (Value.int .i64 po) by rfl)
  have x2 := (hX.cell 2).trans (show _ = some (Value.bool s) by rfl)
  have x3 := (hX.cell 3).trans (show _ = some (Value.int .u64 (ah : Int)) by rfl)
  have x4 := (hX.cell 4).trans (show _ = some (Value.int .u64 (al : Int)) by rfl)
  have x5 := (hX.cell 5).trans (show _ = some (Value.int .u64 mac) by rfl)
  have x6 := (hX.cell 6).trans (show _ = some (Value.string pk) by rfl)
  have x7 := (hX.cell 7).trans (show _ = some (Value.bool an) by rfl)
  have x8 := (hX.cell 8).trans (show _ = some (Value.bool ov) by rfl)
  have HT0 : Hid (Tch w W0 []) := Lib.hid (hW0 ▸ (Tch.refl w []).alloc _)
  have hP0 := h.tch HT0.out (by simp)
  have HW0 := Lib.hid (And.intro hW0 hxb)
  obtain ⟨k, hk⟩ : ∃ k, wh % 8 = k := ⟨_, rfl⟩
  have ha : bits .and .i64 wh 7 = k := by rw [and7I]; exact hk
  clear hW0 hxb h
  by_cases k3 : k = 3
  · subst k3
    have HE : Hid (doT L ⟨wh, po, (s, ah, al), mac, pk, an, ov⟩ = lrnT L (po, s, ah, al) mac) := Lib.hid (by unfold doT; rw [if_pos (show wh % 8 = 3 from hk)])
    rw [HE.out]
    have HC := Lib.hid (learnN hP0 (po, s, ah, al) hn mac)
    clear hk hP0 hX HE
    go_enter Try.func10, Try.ntmps10
    go_wp2_with (first | (rw [HW0.out.1, HW0.out.2]))
    refine Calls.mono HC.out ?_
    rintro e w1 h1
    have HFin := Lib.hid (ActR.up HT0.out h1)
    obtain ⟨A, n, c, no, S', rfl, -⟩ := h1.open
    clear h1 x0 x1 x2 x3 x4 x5 x6 x7 x8
    go_wp2
    go_ret2
    exact HFin.out
  by_cases k4 : k = 4
  · subst k4
    have HE : Hid (doT L ⟨wh, po, (s, ah, al), mac, pk, an, ov⟩ = telT L (po, s, ah, al) mac an ov) := Lib.hid (by unfold doT; rw [if_neg (show ¬ wh % 8 = 3 by omega), if_pos (show wh % 8 = 4 from hk)])
    rw [HE.out]
    have HC := Lib.hid (tellN hP0 (po, s, ah, al) hn mac an ov)
    clear hk hP0 hX HE
    go_enter Try.func10, Try.ntmps10
    go_wp2_with (first | (rw [HW0.out.1, HW0.out.2]))
    refine Calls.mono HC.out ?_
    rintro e w1 h1
    have HFin := Lib.hid (ActR.up HT0.out h1)
    obtain ⟨A, n, c, no, S', rfl, -⟩ := h1.open
    clear h1 x0 x1 x2 x3 x4 x5 x6 x7 x8
    go_wp2
    go_ret2
    exact HFin.out
  by_cases k5 : k = 5
  · subst k5
    have HE : Hid (doT L ⟨wh, po, (s, ah, al), mac, pk, an, ov⟩ = (tikA L, 0, tikL L)) := Lib.hid (by unfold doT; rw [if_neg (show ¬ wh % 8 = 3 by omega), if_neg (show ¬ wh % 8 = 4 by omega), if_pos (show wh % 8 = 5 ∨ wh % 8 = 6 by omega)])
    rw [HE.out]
    have HC := Lib.hid (tickN hP0)
    clear hk hP0 hX HE
    go_enter Try.func10, Try.ntmps10
    go_wp2_with (first | (rw [HW0.out.1, HW0.out.2]))
    refine Calls.mono HC.out ?_
    rintro e w1 h1
    obtain ⟨A, n, c, S', rfl, -⟩ := h1.open
    have HFin := Lib.hid (ActR.up HT0.out h1.toR)
    clear h1 x0 x1 x2 x3 x4 x5 x6 x7 x8
    go_wp2
    go_ret2
    exact HFin.out
  by_cases k6 : k = 6
  · subst k6
    have HE : Hid (doT L ⟨wh, po, (s, ah, al), mac, pk, an, ov⟩ = (tikA L, 0, tikL L)) := Lib.hid (by unfold doT; rw [if_neg (show ¬ wh % 8 = 3 by omega), if_neg (show ¬ wh % 8 = 4 by omega), if_pos (show wh % 8 = 5 ∨ wh % 8 = 6 by omega)])
    rw [HE.out]
    have HC := Lib.hid (tickN hP0)
    clear hk hP0 hX HE
    go_enter Try.func10, Try.ntmps10
    go_wp2_with (first | (rw [HW0.out.1, HW0.out.2]))
    refine Calls.mono HC.out ?_
    rintro e w1 h1
    obtain ⟨A, n, c, S', rfl, -⟩ := h1.open
    have HFin := Lib.hid (ActR.up HT0.out h1.toR)
    clear h1 x0 x1 x2 x3 x4 x5 x6 x7 x8
    go_wp2
    go_ret2
    exact HFin.out
  by_cases k7 : k = 7
  · subst k7
    have HE : Hid (doT L ⟨wh, po, (s, ah, al), mac, pk, an, ov⟩ = (drpA L po, 0, drpL L po)) := Lib.hid (by unfold doT; rw [if_neg (show ¬ wh % 8 = 3 by omega), if_neg (show ¬ wh % 8 = 4 by omega), if_neg (show ¬ (wh % 8 = 5 ∨ wh % 8 = 6) by omega), if_pos (show wh % 8 = 7 from hk)])
    rw [HE.out]
    have HC := Lib.hid (dropN hP0 po)
    clear hk hP0 hX HE
    go_enter Try.func10, Try.ntmps10
    go_wp2_with (first | (rw [HW0.out.1, HW0.out.2]))
    refine Calls.mono HC.out ?_
    rintro e w1 h1
    obtain ⟨A, n, c, S', rfl, -⟩ := h1.open
    have HFin := Lib.hid (ActR.up HT0.out h1.toR)
    clear h1 x0 x1 x2 x3 x4 x5 x6 x7 x8
    go_wp2
    go_ret2
    exact HFin.out
  have b3 : (k == 3) = false := by simpa using k3
  have b4 : (k == 4) = false := by simpa using k4
  have b5 : (k == 5) = false := by simpa using k5
  have b6 : (k == 6) = false := by simpa using k6
  have b7 : (k == 7) = false := by simpa using k7
  have HE : Hid (doT L ⟨wh, po, (s, ah, al), mac, pk, an, ov⟩ = sendT L (po, s, ah, al) pk) := Lib.hid (by unfold doT; rw [if_neg (show ¬ wh % 8 = 3 by omega), if_neg (show ¬ wh % 8 = 4 by omega), if_neg (show ¬ (wh % 8 = 5 ∨ wh % 8 = 6) by omega), if_neg (show ¬ wh % 8 = 7 by omega)])
  rw [HE.out]
  have HC := Lib.hid (sendN hP0 (po, s, ah, al) hn pk)
  clear hk hP0 hX HE k3 k4 k5 k6 k7
  go_enter Try.func10, Try.ntmps10
  go_wp2_with (first | (rw [HW0.out.1, HW0.out.2]))
  refine Calls.mono HC.out ?_
  rintro e w1 h1
  have HFin := Lib.hid (ActR.up HT0.out h1)
  obtain ⟨A, n, c, no, S', rfl, -⟩ := h1.open
  clear h1 x0 x1 x2 x3 x4 x5 x6 x7 x8
  go_wp2
  go_ret2
  exact HFin.out
set_option maxRecDepth 100000 in
set_option maxHeartbeats 1000000 in
theorem rightN (k : KyI) (hn : KyN k) (w : World) : Calls Try.prog 19 #[.int .i64 k.1, adV k.2] w fun e w' => e = .returned (.bool (rgtK k)) ∧ Tch w w' [] := by
  obtain ⟨b, hb⟩ : ∃ b, rgtK k = b := ⟨_, rfl⟩
  rw [hb]
  obtain ⟨p, s, h, l⟩ := k
  obtain ⟨V, hV⟩ : ∃ V, clsV s (h : Int) (l : Int) = V := ⟨_, rfl⟩
  have HC := Lib.hid (fun W => rclass_at s (h : Int) (l : Int) (u6_of hn.1) (u6_of hn.2) hV W)
  have hb2 : (decide (1 ≤ p) && (decide (p ≤ 8) && (decide (V = 2) || decide (V = 5)))) = b := by rw [← hb]; unfold rgtK clsR; rw [hV]
  have HB := Lib.hid hb2
  obtain ⟨W0, hW0⟩ : ∃ W, w.alloc (.cells #[.bool s, .int .u64 (h : Int), .int .u64 (l : Int)] 30) = W := ⟨_, rfl⟩
  obtain ⟨kb, hkb⟩ : ∃ kb, w.heap.size = kb := ⟨_, rfl⟩
  have hB : Blk W0 kb 30 #[.bool s, .int .u64 (h : Int), .int .u64 (l : Int)] := hW0 ▸ hkb ▸ Blk.new w _ _
  have HT : Hid (Tch w W0 []) := Lib.hid (hW0 ▸ (Tch.refl w []).alloc _)
  have HW := Lib.hid (And.intro hW0 hkb)
  obtain ⟨c1, c2, c3⟩ := hB.c3
  clear hW0 hkb hB hb hb2 hV hn
  by_cases h1 : 1 ≤ p
  · by_cases h2 : p ≤ 8
    · go_enter Try.func19, Try.ntmps19
      go_wp2_with (first | (rw [HW.out.1, HW.out.2]))
      refine Calls.mono (HC.out W0) ?_
      rintro e w1 ⟨rfl, hb1⟩
      have HT1 : Hid (Tch w w1 []) := Lib.hid (HT.out.trans (Tch.of_below [] hb1))
      clear hb1 c1 c2 c3
      go_wp2
      all_goals
        go_ret
        refine ⟨ret_bool ?_, HT1.out⟩
        rw [← HB.out]
        by_cases v2 : V = 2 <;> by_cases v5 : V = 5 <;> simp [h1, h2, v2, v5] <;> (try contradiction)
    · have e : b = false := by rw [← HB.out]; simp [h2]
      subst e
      go_enter Try.func19, Try.ntmps19
      go_wp2_with (first | (rw [HW.out.1, HW.out.2]))
      refine Calls.mono (HC.out W0) ?_
      rintro e w1 ⟨rfl, hb1⟩
      have HT1 : Hid (Tch w w1 []) := Lib.hid (HT.out.trans (Tch.of_below [] hb1))
      clear hb1 c1 c2 c3
      go_wp2
      all_goals (go_ret; exact ⟨by simp_all, HT1.out⟩)
  · have e : b = false := by rw [← HB.out]; simp [h1]
    subst e
    go_enter Try.func19, Try.ntmps19
    go_wp2_with (first | (rw [HW.out.1, HW.out.2]))
    refine Calls.mono (HC.out W0) ?_
    rintro e w1 ⟨rfl, hb1⟩
    have HT1 : Hid (Tch w w1 []) := Lib.hid (HT.out.trans (Tch.of_below [] hb1))
    clear hb1 c1 c2 c3
    go_wp2
    all_goals (go_ret; exact ⟨by simp_all, HT1.out⟩)
theorem eqAc (a : AcI) (W : World) : (Op.equalIn 10000 41 (acV a) (acV a)).run Try.prog W = .ok true W := by
  have h1 := str_eq a.pkt
  go_simp
set_option maxRecDepth 100000 in
set_option maxHeartbeats 2000000 in
theorem sameA {b1 b2 : Nat} (l : List AcI) (hl : l.length ≤ 1000) {A1 A2 : Option Addr} {n c1 c2 : Nat} (w : World) (h1 : w.ownsRow b1 41 7 (.slice A1 n c1) n (l.flatMap acC)) (h2 : w.ownsRow b2 41 7 (.slice A2 n c2) n (l.flatMap acC)) :
    Calls Try.prog 12 #[.slice A1 n c1, .slice A2 n c2] w fun e w' => e = .returned (.bool true) ∧ Tch w w' [] := by
  have hn : l.length = n := by
    have := h1.1
    rw [flatk_len acC_len] at this
    omega
  have H1 := Lib.hid h1
  have H2 := Lib.hid h2
  have HN := Lib.hid hn
  have HL : Hid (n ≤ 1000) := Lib.hid (by omega)
  have hnI : IntKind.i64.wrap (n : Int) = (n : Int) := by rw [IntKind.wrap_i64]; omega
  have e0 : ((n : Int) != (n : Int)) = false := by simp
  clear h1 h2 hn hl
  go_enter Try.func12, Try.ntmps12
  go_wp2
  go_loopw [5] (fun iv wr => ∃ i : Nat, iv = .int .i64 (i : Int) ∧ i ≤ n ∧ Hid (Tch w wr [])) (fun iv _ => n - (intOf iv).toNat)
  case atStart => exact ⟨0, rfl, Nat.zero_le _, Lib.hid (Tch.refl _ _)⟩
  case round =>
    obtain ⟨i, rfl, hi5, hT5⟩ := hrel
    by_cases hin : i < n
    · have iI : (i : Int) < (n : Int) := by omega
      have i0 : (0 : Int) ≤ (i : Int) := by omega
      have i1 : IntKind.i64.wrap ((i : Int) + 1) = (i : Int) + 1 := by have := HL.out; rw [IntKind.wrap_i64]; omega
      obtain ⟨x, hx⟩ : ∃ x, l[i]? = some x := ⟨_, List.getElem?_eq_getElem (by rw [HN.out]; exact hin)⟩
      obtain ⟨g1, rfl⟩ := slice_some H1.out (by omega)
      obtain ⟨g2, rfl⟩ := slice_some H2.out (by omega)
      have hc1 : ∀ j u, (acC x)[j]? = some u → wr.cell? ⟨g1, i * 7 + j, none⟩ = some u := fun j u hj => own_cellN (own_tch H1.out hT5.out (by simp)) (by rw [flatk_at acC_len hx (List.getElem?_eq_some_iff.1 hj).1, hj])
      have hc2 : ∀ j u, (acC x)[j]? = some u → wr.cell? ⟨g2, i * 7 + j, none⟩ = some u := fun j u hj => own_cellN (own_tch H2.out hT5.out (by simp)) (by rw [flatk_at acC_len hx (List.getElem?_eq_some_iff.1 hj).1, hj])
      have p0 := hc1 0 _ rfl
      have p1 := hc1 1 _ rfl
      have p2 := hc1 2 _ rfl
      have p3 := hc1 3 _ rfl
      have p4 := hc1 4 _ rfl
      have p5 := hc1 5 _ rfl
      have p6 := hc1 6 _ rfl
      have q0 := hc2 0 _ rfl
      have q1 := hc2 1 _ rfl
      have q2 := hc2 2 _ rfl
      have q3 := hc2 3 _ rfl
      have q4 := hc2 4 _ rfl
      have q5 := hc2 5 _ rfl
      have q6 := hc2 6 _ rfl
      rw [Nat.add_zero] at p0 q0
      have hq : ∀ W, (binOp .neq 41 (.agg #[.int .i64 x.kind, .int .i64 x.key.1, .bool x.key.2.1, .int .u64 (x.key.2.2.1 : Int), .int .u64 (x.key.2.2.2 : Int), .int .u64 x.mac, .string x.pkt]) (.agg #[.int .i64 x.kind, .int .i64 x.key.1, .bool x.key.2.1, .int .u64 (x.key.2.2.1 : Int), .int .u64 (x.key.2.2.2 : Int), .int .u64 x.mac, .string x.pkt])).run Try.prog W = .ok (.bool false) W := fun W => eq_neq 41 _ _ (fun W => eqAc x W) W
      have HI := Lib.hid (And.intro i1 hin)
      clear hc1 hc2 hx
      go_wp2_with fail
      go_quiet (fail)
      go_wp2
      go_roundw
      case rel => exact ⟨i + 1, by go_num, HI.out.2, Lib.hid (hT5.out.drewN _)⟩
      case measure => have := HI.out.2; simp [intOf]; omega
    · have iI : ¬ (i : Int) < (n : Int) := by omega
      go_wp2
      go_ret
      exact ⟨rfl, hT5.out⟩
end Go.Proofs.Ytlbkphnbpenbcaa
