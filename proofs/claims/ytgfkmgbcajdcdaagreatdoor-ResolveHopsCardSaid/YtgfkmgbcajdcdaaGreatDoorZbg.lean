/-
  Several texts in one: IpO, IfT, IfDo, IfF, IgS, IfMd, RvT, RLess.
-/
import Derived.Test.YtgfkmgbcajdcdaaGreatDoorZbf
import Derived.Test.YtgfkmgbcajdcdaaGreatDoorZad
import Derived.Test.YtgfkmgbcajdcdaaGreatDoorZbe
import Derived.Test.YtgfkmgbcajdcdaaGreatDoorZbb
import Derived.Deep.SlicePairs
import Derived.Deep.Strs
import Derived.Test.YtgfkmgbcajdcdaaGreatDoorZaq
import Derived.Test.YtgfkmgbcajdcdaaGreatDoorZbd
import Derived.Test.YtgfkmgbcajdcdaaGreatDoorZab
import Derived.Test.YtgfkmgbcajdcdaaGreatDoorZaa
set_option linter.unusedVariables false
set_option maxRecDepth 100000
set_option maxHeartbeats 16000000
namespace Go.Proofs.YtgfkmgbcajdcdaaGreatDoor.Ifs
open Go.RowKit Go.Maps

theorem IfP.mrow {w : World} {p : Nat} {S : List Nat} {st : StI} (h : IfP w p S st) : ∃ (AM : Option Addr) (cM : Nat) (lv : List Value), w.cell? ⟨p, 0, none⟩ = some (.slice AM st.1.length cM) ∧ w.ownsRow 0 134 5 (.slice AM st.1.length cM) st.1.length (mmC st.1 lv) := by
 obtain ⟨AM, cM, m, lv, D, rfl, h2, h3, h4, -⟩ := h
 exact ⟨AM, cM, lv, (h3.cell 0).trans rfl, h4⟩
theorem addP_ok (p : Nat) (S : List Nat) (st : StI) (nm : ByteArray) (mac mtu : Int) (hm : 0 ≤ mac ∧ mac ≤ 18446744073709551615) (hb : nameOk nm = true ∧ namedI st.1 nm = 0 ∧ (macOk mac && mtuOk mtu) = true ∧ st.1.length < 8) (w : World) (h : IfP w p S st) :
  Calls Tryz.prog 37 #[.pointer (some ⟨p, 0, none⟩), .string nm, .int .u64 mac, .int .i64 mtu] w fun e w' => e = .returned (.tuple #[.int .i64 (addI st nm mac mtu).2.1, .int .i64 (addI st nm mac mtu).2.2]) ∧ ∃ S', IfP w' p S' (addI st nm mac mtu).1 ∧ Goes w w' S S' := by
 obtain ⟨hN0, hN1, hmm, hlt8⟩ := hb
 have hinv := h.inv.add nm mac mtu
 have hAdd : addI st nm mac mtu = ((st.1 ++ [(nm, mac, mtu, false)], st.2 ++ [[]]), ((st.1.length + 1 : Nat) : Int), 0) := by
  unfold addI
  rw [if_neg (by rw [hN0, hN1]; simp), if_neg (by rw [hmm]; simp), if_neg (by omega)]
 rw [hAdd] at hinv
 have hs8 : nm.size ≤ 8 := ((nameOk_iff).1 hN0).1.2
 have HNa := lH (isName_any nm w)
 rw [hN0] at HNa
 have HNd := lH (fun W (hT : Tch w W []) => pnamed_any p S st nm (by omega) W (h.tch hT (by simp)))
 rw [hN1] at HNd
 have HMc := lH (fun W => macI_any mac hm W)
 have hC1 : macOk mac = true ∧ ¬ mtu < 68 ∧ ¬ 1500 < mtu := by
  rw [Bool.and_eq_true] at hmm
  have h9 := hmm.2
  unfold mtuOk at h9
  have := of_decide_eq_true h9
  exact ⟨hmm.1, by omega, by omega⟩
 rw [hC1.1] at HMc
 obtain ⟨-, m1, m2⟩ := hC1
 have HSc := lH (fun W => sclone_any nm (by omega) W)
 obtain ⟨AM, cM, lv, c0, hrow⟩ := h.mrow
 have HKey := lH (WideMaps.keyOf_string_mk Tryz.underlying9 (s := nm) (by unfold maxLen; omega))
 have HAd : Hid (∀ k : Nat, st.1.length + 1 = k → addI st nm mac mtu = ((st.1 ++ [(nm, mac, mtu, false)], st.2 ++ [[]]), (k : Int), 0)) := lH (fun k hk => by rw [hAdd, hk])
 have hpl : p < w.heap.size := h.lt p h.pin
 obtain ⟨n, hn⟩ : ∃ n, st.1.length = n := ⟨_, rfl⟩
 rw [hn] at c0 hrow hlt8
 have HN := lH hn
 have HP := lH h
 have HC0 : Hid (∀ W, Tch w W [] → W.cell? ⟨p, 0, none⟩ = some (.slice AM n cM)) := lH (fun W hT => (hT.cell (p := ⟨p, 0, none⟩) hpl (by simp)).trans c0)
 have HC := lH c0
 have HRow : Hid (∀ W, Tch w W [] → W.ownsRow 0 134 5 (.slice AM n cM) n (mmC st.1 lv)) := lH (fun W hT => own_tch hrow hT (by simp))
 have HXs : Hid (∀ lv' : List Value, w.ownsRow 0 134 5 (.slice AM n cM) n (mmC st.1 lv') → mmC st.1 lv ++ [.string nm, .int .u64 mac, .int .i64 mtu, .bool false, .slice none 0 0] = mmC st.1 lv' ++ (prC (nm, mac, mtu, false) ++ [.slice none 0 0])) := lH (fun lv' h' => by rw [own_uniq hrow h']; rfl)
 have HInv := lH hinv
 have HMX : Hid (n < maxLen ∧ n ≤ 1000000 ∧ n + 1 ≤ 100) := lH ⟨by unfold maxLen; omega, by omega, by omega⟩
 have HN1 := lH hN1
 have b8 : ((n : Int) == 8) = false := by simp; omega
 have b1 : (((0 : Nat) : Int) != 0) = false := by rfl
 clear h hinv hN0 hN1 hmm hs8 hm hAdd hpl hn c0 hrow hlt8
 go_enter Tryz.func37, Tryz.ntmps37
 go_wp2_with fail
 refine cZm HNa.out ?_
 rintro e w1 ⟨rfl, hT⟩
 have HT := lH hT
 have c1 := HC0.out w1 hT
 clear hT
 go_wp2_with fail
 refine cZm (HNd.out _ HT.out) ?_
 rintro e w2 ⟨rfl, rfl⟩
 go_wp2_with fail
 refine cZm (HMc.out _) ?_
 rintro e w2 ⟨rfl, rfl⟩
 go_wp2_with fail
 refine cZm (HSc.out _) ?_
 rintro e w2 ⟨rfl, hb2⟩
 have HT2 := lH (HT.out.trans (Tch.of_below [] hb2))
 have c2 := HC0.out w2 HT2.out
 have HR2 := lH ((HRow.out w2 HT2.out).alloc (.cells #[.string nm, .int .u64 mac, .int .i64 mtu, .bool false, .slice none 0 0] 134))
 have HTW := lH (HT2.out.alloc (.cells #[.string nm, .int .u64 mac, .int .i64 mtu, .bool false, .slice none 0 0] 134))
 have HSr := lH (src_new w2 134 [.string nm, .int .u64 mac, .int .i64 mtu, .bool false, .slice none 0 0])
 clear hb2 c1
 go_wp2_with (at_builtin; (refine wpList_apc 153 134 (.agg #[.string ⟨#[]⟩, .int .u64 0, .int .i64 0, .bool false, .slice none 0 0]) 5 64 Tryz.underlying153 infoMm rfl (by decide) (by decide) _ rfl (.tmp 45) (.tmp 51) rfl 0 (.slice AM n cM) n (mmC st.1 lv) rfl HR2.out ⟨w2.heap.size, 0, none⟩ 1 [.string nm, .int .u64 mac, .int .i64 mtu, .bool false, .slice none 0 0] rfl rfl (fun j u hj => HSr.out j u hj) (by simp [Value.oneCell']) HMX.out.2.1 (Nat.zero_le _) ?_; intro v1 w3 hown hg hv; obtain ⟨m, D, A1, c1, rfl, ⟨u, hu⟩, f3, d0, d1, pm, hM, hNm, hn8, hclose⟩ := IfP.grow HP.out HC.out (nm, mac, mtu, false) HTW.out HXs.out hown hg hv HInv.out; have HM := lH hM; have HNm := lH hNm; have HCl := lH hclose; have HD := lH (And.intro d1 d0); have HPm := lH pm; clear hM hNm hclose hown hg hv pm hn8 c2))
 refine wp_region_held_drew (S := (fun W => W.cell? ⟨p, 1, none⟩ = some (Value.map (some m)) ∧ W.cell? ⟨p, 0, none⟩ = some (Value.slice A1 (n + 1) c1))) (by kernel_rfl) ?_ (fun hHeld => ?_)
 ·(exact HD.out)
 refine tkH 0 ?_
 refine tkH 1 ?_
 refine tkH 2 ?_
 refine tkH 3 ?_
 refine tkH 4 ?_
 refine tkH 5 ?_
 refine tkH 6 ?_
 refine tkH 7 ?_
 refine tkH 8 ?_
 refine tkH 9 ?_
 refine wpAnyH_ready (rs := [10]) (by kernel_rfl) (by simp) ?_
 refine AllReadyH.cons (o := { dst := none, op := Go.Op.mapUpdate 152 (Go.Operand.tmp 58) (Go.Operand.tmp 59) (Go.Operand.tmp 64), type := 0, pos := "iface.go:53", after := #[{ on := 3, ground := Go.Ground.data }, { on := 4, ground := Go.Ground.data }, { on := 9, ground := Go.Ground.data }, { on := 0, ground := Go.Ground.phase }, { on := 1, ground := Go.Ground.phase }, { on := 2, ground := Go.Ground.phase }, { on := 3, ground := Go.Ground.phase }, { on := 4, ground := Go.Ground.phase }, { on := 5, ground := Go.Ground.phase }, { on := 6, ground := Go.Ground.phase }, { on := 7, ground := Go.Ground.phase }, { on := 8, ground := Go.Ground.phase }, { on := 9, ground := Go.Ground.phase }], guard := none }) rfl (fun K hK => ?_) AllReadyH.nil
 rw [if_pos (by rfl)]
 refine wpo_mup (.tmp 58) (.tmp 59) (.tmp 64) 152 rfl 9 3 lawN Tryz.underlying152 (plainElem Tryz.prog 3) m n D rfl HM.out.drew HMX.out.1 (.string nm) (.int .i64 ((n + 1 : Nat) : Int)) _ rfl rfl HKey.out _ [] (plainElem_int Tryz.underlying3 (i64w HMX.out.2.2)) (fun w5 hM5 hG5 => ?_)
 have HM5 := lH hM5
 have HG5 := lH hG5
 clear hM5 hG5
 refine hK.out _ _ ?_ (fun hHeld => ?_)
 ·(exact And.intro (HG5.out.cell HD.out.1 (by simpa using HPm.out)) (HG5.out.cell HD.out.2 (by simpa using HPm.out)))
 clear hK K
 try simp only [Act.put]
 refine wpAnyH_done (by kernel_rfl) ?_ _
 have HS5 := lH (And.intro (HG5.out.cell HD.out.1 (by simpa using HPm.out)) (HG5.out.cell HD.out.2 (by simpa using HPm.out)))
 have e0 := HS5.out.2
 clear d0 d1 hu f3
 go_wp2
 go_ret2
 obtain ⟨S', hI, hG⟩ := HCl.out w5 _ ⟨HG5.out.os, HG5.out.tape, HG5.out.output, HG5.out.size, HG5.out.block⟩ HM5.out (by
  have h1 := HNm.out.put HM.out.isMap (q := (nm, mac, mtu, false)) HN1.out
  rw [HN.out] at h1
  exact h1)
 rw [HAd.out (n + 1) (by rw [HN.out])]
 exact ⟨rfl, S', hI, hG⟩
theorem addP (p : Nat) (S : List Nat) (st : StI) (nm : ByteArray) (mac mtu : Int) (hs : nm.size ≤ 9223372036854775807) (hm : 0 ≤ mac ∧ mac ≤ 18446744073709551615) (hi : I64 mtu) (w : World) (h : IfP w p S st) :
  Calls Tryz.prog 37 #[.pointer (some ⟨p, 0, none⟩), .string nm, .int .u64 mac, .int .i64 mtu] w fun e w' => e = .returned (.tuple #[.int .i64 (addI st nm mac mtu).2.1, .int .i64 (addI st nm mac mtu).2.2]) ∧ ∃ S', IfP w' p S' (addI st nm mac mtu).1 ∧ Goes w w' S S' := by
 by_cases hb : nameOk nm = false ∨ namedI st.1 nm ≠ 0 ∨ (macOk mac && mtuOk mtu) = false ∨ 8 ≤ st.1.length
 ·refine cZm (addP_bad p S st nm mac mtu hm hb w h) ?_
  rintro e w' ⟨rfl, h1, hT⟩
  exact ⟨rfl, S, by rw [h1]; exact h.tch hT (by simp), Goes.of_tch (hT.mono (by simp))⟩
 ·refine addP_ok p S st nm mac mtu hm ⟨?_, ?_, ?_, ?_⟩ w h
  ·cases e : nameOk nm with
   | true => rfl
   | false => exact absurd (.inl e) hb
  ·exact Classical.byContradiction fun e => hb (.inr (.inl e))
  ·cases e : (macOk mac && mtuOk mtu) with
   | true => rfl
   | false => exact absurd (.inr (.inr (.inl e))) hb
  ·exact Nat.lt_of_not_le fun e => hb (.inr (.inr (.inr e)))
end Go.Proofs.YtgfkmgbcajdcdaaGreatDoor.Ifs

namespace Go.Proofs.YtgfkmgbcajdcdaaGreatDoor.Ifs
open Go.RowKit

structure StpI where
 what : Int
 name : ByteArray
 mac : Int
 num : Int
 port : Int
 up : Bool
 ad : AdI
def StpI.ok (x : StpI) : Prop := I64 x.what ∧ x.name.size ≤ 9223372036854775807 ∧ (0 ≤ x.mac ∧ x.mac ≤ 18446744073709551615) ∧ I64 x.num ∧ I64 x.port ∧ (N64 x.ad.2.1 ∧ N64 x.ad.2.2)
def stC (x : StpI) : List Value := [.int .i64 x.what, .string x.name, .int .u64 x.mac, .int .i64 x.num, .int .i64 x.port, .bool x.up, .bool x.ad.1, .int .u64 (x.ad.2.1 : Int), .int .u64 (x.ad.2.2 : Int)]
abbrev stV (x : StpI) : Value := .agg #[.int .i64 x.what, .string x.name, .int .u64 x.mac, .int .i64 x.num, .int .i64 x.port, .bool x.up, .bool x.ad.1, .int .u64 (x.ad.2.1 : Int), .int .u64 (x.ad.2.2 : Int)]
def doI (st : StI) (x : StpI) : StI × Int × Int :=
 if x.what % 8 = 0 then addI st x.name x.mac x.num
 else if x.what % 8 = 1 then ((turnI st x.port x.up).1, 0, (turnI st x.port x.up).2)
 else if x.what % 8 = 5 then ((dropI st x.port x.ad).1, 0, (dropI st x.port x.ad).2)
 else ((putI st x.port x.ad x.num).1, 0, (putI st x.port x.ad x.num).2)
theorem InvI.do_ {st : StI} (h : InvI st) {x : StpI} (hx : x.ok) : InvI (doI st x).1 := by
 unfold doI
 split
 ·exact h.add _ _ _
 ·split
  ·exact h.turn _ _
  ·split
   ·exact h.drop _ _
   ·exact h.put _ _ _ hx.2.2.2.2.2
theorem and_lowI (n : Int) (k : Nat) (hk : k ≤ 16) : bits .and .i64 n ((2 ^ k - 1 : Nat) : Int) = n % ((2 ^ k : Nat) : Int) := by
 have h0 : 2 ^ k ≤ 2 ^ 16 := Nat.pow_le_pow_right (by decide) hk
 have h00 : 0 < 2 ^ k := Nat.pow_pos (by decide)
 have h7 : (BitVec.ofInt 64 ((2 ^ k - 1 : Nat) : Int)).toNat = 2 ^ k - 1 := by
  rw [BitVec.toNat_ofInt]
  omega
 have key : (BitVec.ofInt 64 n &&& BitVec.ofInt 64 ((2 ^ k - 1 : Nat) : Int)).toNat = (n % ((2 ^ 64 : Nat) : Int)).toNat % 2 ^ k := by
  rw [BitVec.toNat_and, BitVec.toNat_ofInt, h7, Nat.and_two_pow_sub_one_eq_mod]
 show IntKind.i64.wrap ((BitVec.ofInt 64 n &&& BitVec.ofInt 64 ((2 ^ k - 1 : Nat) : Int)).toNat : Nat) = n % ((2 ^ k : Nat) : Int)
 rw [key, IntKind.wrap_i64]
 have hd : ((2 ^ k : Nat) : Int) ∣ ((2 ^ 64 : Nat) : Int) := Int.natCast_dvd_natCast.2 (Nat.pow_dvd_pow 2 (by omega))
 have h1 : (((n % ((2 ^ 64 : Nat) : Int)).toNat % 2 ^ k : Nat) : Int) = n % ((2 ^ k : Nat) : Int) := by
  rw [Int.natCast_emod, Int.toNat_of_nonneg (by omega), Int.emod_emod_of_dvd n hd]
 have h2 := Int.emod_lt_of_pos n (show (0 : Int) < ((2 ^ k : Nat) : Int) by omega)
 have h3 := Int.emod_nonneg n (show ((2 ^ k : Nat) : Int) ≠ 0 by omega)
 rw [h1]
 omega
theorem and7I (n : Int) : bits .and .i64 n 7 = n % 8 := by have := and_lowI n 3 (by decide); simpa using this
end Go.Proofs.YtgfkmgbcajdcdaaGreatDoor.Ifs

namespace Go.Proofs.YtgfkmgbcajdcdaaGreatDoor.Ifs
open Go.RowKit

theorem do_any (p : Nat) (S : List Nat) (st : StI) (x : StpI) (hx : x.ok) (w : World) (h : IfP w p S st) :
  Calls Tryz.prog 85 #[.pointer (some ⟨p, 0, none⟩), stV x] w fun e w' => e = .returned (.tuple #[.int .i64 (doI st x).2.1, .int .i64 (doI st x).2.2]) ∧ ∃ S', IfP w' p S' (doI st x).1 ∧ Goes w w' S S' := by
 obtain ⟨wh, nm, mac, nu, po, up, s, ah, al⟩ := x
 obtain ⟨o1, o2, o3, o4, o5, o6⟩ := hx
 have o6 : N64 ah ∧ N64 al := o6
 obtain ⟨xb, hxb⟩ : ∃ xb, w.heap.size = xb := ⟨_, rfl⟩
 obtain ⟨W0, hW0⟩ : ∃ W, w.alloc (.cells #[.int .i64 wh, .string nm, .int .u64 mac, .int .i64 nu, .int .i64 po, .bool up, .bool s, .int .u64 (ah : Int), .int .u64 (al : Int)] 111) = W := ⟨_, rfl⟩
 have hX : Blk W0 xb 111 #[.int .i64 wh, .string nm, .int .u64 mac, .int .i64 nu, .int .i64 po, .bool up, .bool s, .int .u64 (ah : Int), .int .u64 (al : Int)] := hW0 ▸ hxb ▸ Blk.new _ _ _
 have x0 := (hX.cell 0).trans (show _ = some (Value.int .i64 wh) by rfl)
 have x1 := (hX.cell 1).trans (show _ = some (Value.string nm) by rfl)
 have x2 := (hX.cell 2).trans (show _ = some (Value.int .u64 mac) by rfl)
 have x3 := (hX.cell 3).trans (show _ = some (Value.int .i64 nu) by rfl)
 have x4 := (hX.cell 4).trans (show _ = some (Value.int .i64 po) by rfl)
 have x5 := (hX.cell 5).trans (show _ = some (Value.bool up) by rfl)
 have x6 := (hX.cell 6).trans (show _ = some (Value.bool s) by rfl)
 have x7 := (hX.cell 7).trans (show _ = some (Value.int .u64 (ah : Int)) by rfl)
 have x8 := (hX.cell 8).trans (show _ = some (Value.int .u64 (al : Int)) by rfl)
 have hT0 : Tch w W0 [] := hW0 ▸ (Tch.refl w []).alloc _
 have HT0 : Hid (Tch w W0 S) := lH (hT0.mono (by simp))
 have hP0 := h.tch hT0 (by simp)
 have HW0 := lH (And.intro hW0 hxb)
 obtain ⟨k, hk⟩ : ∃ k, wh % 8 = k := ⟨_, rfl⟩
 have ha : bits .and .i64 wh 7 = k := by rw [and7I]; exact hk
 have HGo : Hid (∀ W S', Goes W0 W S S' → Goes w W S S') := lH (fun W S' hg => (Goes.of_tch HT0.out).trans hg)
 by_cases k0 : k = 0
 ·subst k0
  have HE : Hid (doI st ⟨wh, nm, mac, nu, po, up, s, ah, al⟩ = addI st nm mac nu) := lH (by unfold doI; rw [if_pos (show wh % 8 = 0 from hk)])
  have HC := lH (addP p S st nm mac nu o2 o3 o4 W0 hP0)
  clear hk hP0 h hT0 hX hW0 hxb o1 o2 o3 o4 o5 o6
  go_enter Tryz.func85, Tryz.ntmps85
  go_wp2_with fail
  rw [HW0.out.1, HW0.out.2]
  refine cZm HC.out ?_
  rintro e w1 ⟨rfl, S', hI, hg⟩
  have HI := lH hI
  have HG := lH (HGo.out _ _ hg)
  clear hI hg x0 x1 x2 x3 x4 x5 x6 x7 x8
  go_wp2
  refine bodyPost_ret (v := .tuple #[.int .i64 (addI st nm mac nu).2.1, .int .i64 (addI st nm mac nu).2.2]) (by simp [results, Tryz.results85, go_sem]) rfl ⟨by rw [HE.out], S', by rw [HE.out]; exact HI.out, HG.out⟩
 by_cases k1 : k = 1
 ·subst k1
  have HE : Hid (doI st ⟨wh, nm, mac, nu, po, up, s, ah, al⟩ = ((turnI st po up).1, 0, (turnI st po up).2)) := lH (by unfold doI; rw [if_neg (show ¬ wh % 8 = 0 by omega), if_pos (show wh % 8 = 1 from hk)])
  have HC := lH (turnP p S st po up o5 W0 hP0)
  clear hk hP0 h hT0 hX hW0 hxb o1 o2 o3 o4 o5 o6
  go_enter Tryz.func85, Tryz.ntmps85
  go_wp2_with fail
  rw [HW0.out.1, HW0.out.2]
  refine cZm HC.out ?_
  rintro e w1 ⟨rfl, S', hI, hg⟩
  have HI := lH hI
  have HG := lH (HGo.out _ _ hg)
  clear hI hg x0 x1 x2 x3 x4 x5 x6 x7 x8
  go_wp2
  refine bodyPost_ret (v := .tuple #[.int .i64 (((turnI st po up).1, 0, (turnI st po up).2)).2.1, .int .i64 (((turnI st po up).1, 0, (turnI st po up).2)).2.2]) (by simp [results, Tryz.results85, go_sem]) rfl ⟨by rw [HE.out], S', by rw [HE.out]; exact HI.out, HG.out⟩
 by_cases k5 : k = 5
 ·subst k5
  have HE : Hid (doI st ⟨wh, nm, mac, nu, po, up, s, ah, al⟩ = ((dropI st po (s, ah, al)).1, 0, (dropI st po (s, ah, al)).2)) := lH (by unfold doI; rw [if_neg (show ¬ wh % 8 = 0 by omega), if_neg (show ¬ wh % 8 = 1 by omega), if_pos (show wh % 8 = 5 from hk)])
  have HC := lH (dropP p S st po (s, ah, al) o6 o5 W0 hP0)
  clear hk hP0 h hT0 hX hW0 hxb o1 o2 o3 o4 o5 o6
  go_enter Tryz.func85, Tryz.ntmps85
  go_wp2_with fail
  rw [HW0.out.1, HW0.out.2]
  refine cZm HC.out ?_
  rintro e w1 ⟨rfl, S', hI, hg⟩
  have HI := lH hI
  have HG := lH (HGo.out _ _ hg)
  clear hI hg x0 x1 x2 x3 x4 x5 x6 x7 x8
  go_wp2
  refine bodyPost_ret (v := .tuple #[.int .i64 (((dropI st po (s, ah, al)).1, 0, (dropI st po (s, ah, al)).2)).2.1, .int .i64 (((dropI st po (s, ah, al)).1, 0, (dropI st po (s, ah, al)).2)).2.2]) (by simp [results, Tryz.results85, go_sem]) rfl ⟨by rw [HE.out], S', by rw [HE.out]; exact HI.out, HG.out⟩
 ·have b0 : (k == (0 : Int)) = false := by simpa using k0
  have b1 : (k == (1 : Int)) = false := by simpa using k1
  have b5 : (k == (5 : Int)) = false := by simpa using k5
  have HE : Hid (doI st ⟨wh, nm, mac, nu, po, up, s, ah, al⟩ = ((putI st po (s, ah, al) nu).1, 0, (putI st po (s, ah, al) nu).2)) := lH (by unfold doI; rw [if_neg (show ¬ wh % 8 = 0 by omega), if_neg (show ¬ wh % 8 = 1 by omega), if_neg (show ¬ wh % 8 = 5 by omega)])
  have HC := lH (putP p S st po (s, ah, al) o6 nu o5 o4 W0 hP0)
  clear hk k0 k1 k5 hP0 h hT0 hX hW0 hxb o1 o2 o3 o4 o5 o6
  go_enter Tryz.func85, Tryz.ntmps85
  go_wp2_with fail
  rw [HW0.out.1, HW0.out.2]
  refine cZm HC.out ?_
  rintro e w1 ⟨rfl, S', hI, hg⟩
  have HI := lH hI
  have HG := lH (HGo.out _ _ hg)
  clear hI hg x0 x1 x2 x3 x4 x5 x6 x7 x8
  go_wp2
  refine bodyPost_ret (v := .tuple #[.int .i64 (((putI st po (s, ah, al) nu).1, 0, (putI st po (s, ah, al) nu).2)).2.1, .int .i64 (((putI st po (s, ah, al) nu).1, 0, (putI st po (s, ah, al) nu).2)).2.2]) (by simp [results, Tryz.results85, go_sem]) rfl ⟨by rw [HE.out], S', by rw [HE.out]; exact HI.out, HG.out⟩
end Go.Proofs.YtgfkmgbcajdcdaaGreatDoor.Ifs

namespace Go.Proofs.YtgfkmgbcajdcdaaGreatDoor.Ifs
open Go.RowKit Go.ChangeShapes Go.WideShapes Go.ChangeAt

abbrev Stp := StpI
instance : Inhabited Stp := ⟨⟨0, ⟨#[]⟩, 0, 0, 0, false, (false, 0, 0)⟩⟩
def IsStp (w : World) (a : Option Addr) (l : Nat) (z : List Stp) : Prop :=
 z.length = l ∧ (∀ x ∈ z, x.ok) ∧ (0 < l → ∃ b o, a = some ⟨b, o, none⟩ ∧ b < w.heap.size ∧ ∀ j x, z[j]? = some x → ∀ k v, (stC x)[k]? = some v → w.cell? ⟨b, o + j * 9 + k, none⟩ = some v)
theorem IsStp.below {w w' : World} {a : Option Addr} {l : Nat} {z : List Stp} (h : IsStp w a l z) (hb : Below w.heap.size w w') : IsStp w' a l z := by
 refine ⟨h.1, h.2.1, fun h0 => ?_⟩
 obtain ⟨b, o, e, hlt, hc⟩ := h.2.2 h0
 exact ⟨b, o, e, by have := hb.size; omega, fun j x hx k v hv => (hb.cell (p := ⟨b, o + j * 9 + k, none⟩) hlt).trans (hc j x hx k v hv)⟩
theorem u64_nat {x : Int} (h : (Lit.int .u64 x).wf = true) : ∃ n : Nat, x = (n : Int) ∧ N64 n := by
 have h2 : 0 ≤ x ∧ x ≤ 18446744073709551615 := by
  simp [Lit.wf, IntKind.min, IntKind.max, IntKind.bits, IntKind.signed] at h
  exact h
 exact ⟨x.toNat, by omega, by unfold N64; omega⟩
theorem u64_bdI {x : Int} (h : (Lit.int .u64 x).wf = true) : 0 ≤ x ∧ x ≤ 18446744073709551615 := by
 simp [Lit.wf, IntKind.min, IntKind.max, IntKind.bits, IntKind.signed] at h
 exact h
theorem open_step {H : Type} {enc : TypeId × Value → H} {W : World} {base n : Nat} {spare : Nat → Bool} {held : Bool} {cs : List Value} {y : DataW H × List MemPlace} (hl : cs.length = 9) (hf : DataW.trod enc Tryz.prog W base spare held n 111 cs = some y) :
  ∃ q : StpI, cs = stC q ∧ q.ok := by
 match cs, hl with
 | [c0, c1, c2, c3, c4, c5, c6, c7, c8], _ =>
  have e0 : Tryz.prog.cellsOf 28 = 3 := by kernel_rfl
  have e1 : Tryz.prog.cellsOf 3 = 1 := by kernel_rfl
  have e2 : Tryz.prog.cellsOf 4 = 1 := by kernel_rfl
  have e3 : Tryz.prog.cellsOf 26 = 1 := by kernel_rfl
  have e4 : Tryz.prog.cellsOf 9 = 1 := by kernel_rfl
  have e5 : Tryz.prog.cellsOf 72 = 1 := by kernel_rfl
  cases n with
  | zero => simp [DataW.trod] at hf
  | succ n =>
   simp only [DataW.trod, Tryz.underlying111] at hf
   split at hf
   ·obtain ⟨xs, hm, hx⟩ := Option.map_eq_some_iff.1 hf
    simp only [List.mapM_cons, List.mapM_nil, bind, Option.bind_eq_some_iff, pure, Option.some.injEq] at hm
    obtain ⟨y0, g0, r0, ⟨y1, g1, r1, ⟨y2, g2, r2, ⟨y3, g3, r3, ⟨y4, g4, r4, ⟨y5, g5, r5, ⟨y6, g6, r6, rfl, rfl⟩, rfl⟩, rfl⟩, rfl⟩, rfl⟩, rfl⟩, rfl⟩ := hm
    simp only [e0, e1, e2, e4, e5, List.drop_zero, List.take_succ_cons, List.take_zero, List.drop_succ_cons] at g0 g1 g2 g3 g4 g5 g6
    obtain ⟨x0, t0, q0, w0⟩ := DataW.trod_int Tryz.underlying3 g0
    obtain ⟨x1, t1, q1, w1⟩ := DataW.trod_string Tryz.underlying9 g1
    obtain ⟨x2, t2, q2, w2⟩ := DataW.trod_int Tryz.underlying72 g2
    obtain ⟨x3, t3, q3, w3⟩ := DataW.trod_int Tryz.underlying3 g3
    obtain ⟨x4, t4, q4, w4⟩ := DataW.trod_int Tryz.underlying3 g4
    obtain ⟨x5, t5, q5⟩ := DataW.trod_bool Tryz.underlying4 g5
    obtain ⟨z0, z1, z2, m, hz, _, k0, k1, k2⟩ := Go.Deep.trod_struct3 Tryz.underlying28 g6
    simp only [e2, e3, List.drop_zero, List.take_succ_cons, List.take_zero, List.drop_succ_cons] at k0 k1 k2
    obtain ⟨x6, t6, q6⟩ := DataW.trod_bool Tryz.underlying4 k0
    obtain ⟨x7, t7, q7, w7⟩ := DataW.trod_int Tryz.underlying26 k1
    obtain ⟨x8, t8, q8, w8⟩ := DataW.trod_int Tryz.underlying26 k2
    injection t0 with t0 _
    injection t1 with t1 _
    injection t2 with t2 _
    injection t3 with t3 _
    injection t4 with t4 _
    injection t5 with t5 _
    injection t6 with t6 _
    injection t7 with t7 _
    injection t8 with t8 _
    subst t0 t1 t2 t3 t4 t5 t6 t7 t8
    obtain ⟨n7, rfl, v7⟩ := u64_nat w7
    obtain ⟨n8, rfl, v8⟩ := u64_nat w8
    exact ⟨⟨x0, x1, x2, x3, x4, x5, x6, n7, n8⟩, rfl, w0, w1, u64_bdI w2, w3, w4, v7, v8⟩
   ·cases hf
theorem isStp_of {H : Type} {enc : TypeId × Value → H} {W : World} {a : Option Addr} {l c : Nat} {d : DataW H} {p : List MemPlace} (h : DataW.Trod enc Tryz.prog W 0 (fun _ => true) true 22 (.slice a l c) d p) : ∃ z, IsStp W a l z := by
 obtain ⟨fuel, hf⟩ := h
 have ce : Tryz.prog.cellsOf 111 = 9 := by kernel_rfl
 rcases Go.Deep.open_slice Tryz.underlying22 hf with ⟨hcs, _⟩ | ⟨ad, len, cap, m, n, D, Pl, hcs, _, hl, hm, hmm, _, hx⟩
 ·simp [Value.cells] at hcs
  obtain ⟨rfl, rfl, rfl⟩ := hcs
  exact ⟨[], rfl, fun x hx => (by cases hx), fun h0 => absurd h0 (by omega)⟩
 ·simp [Value.cells] at hcs
  obtain ⟨rfl, rfl, rfl⟩ := hcs
  simp only [if_true] at hmm
  have each : ∀ i, i < l → ∃ q : Stp, (∀ k v, (stC q)[k]? = some v → W.cell? ((ad.add (i * 9)).add k) = some v) ∧ q.ok := by
   intro i hi
   obtain ⟨cs', h1, h2⟩ := hx i (by omega)
   rw [ce] at h1
   obtain ⟨_, hlen, hcell⟩ := World.cells?_some h1
   obtain ⟨q, hq, hok⟩ := open_step hlen h2
   refine ⟨q, fun k v hv => ?_, hok⟩
   rw [← hq] at hv
   have hk := (List.getElem?_eq_some_iff.1 hv).1
   have := hcell k (by omega)
   rw [this]
   simpa using hv
  obtain ⟨q, hq⟩ := Go.Deep.choose_lt each
  refine ⟨(List.range l).map q, by simp, fun x hx => ?_, fun h0 => ?_⟩
  ·obtain ⟨i, hi, rfl⟩ := List.mem_map.1 hx
   exact (hq i (List.mem_range.1 hi)).2
  ·obtain ⟨b, off, spot⟩ := ad
   have hc := (hq 0 h0).1 0 _ rfl
   have hspot : spot = none := by simpa [Addr.add] using World.cell?_spot hc
   subst hspot
   refine ⟨b, off, rfl, by simpa [Addr.add] using World.block_lt_of_cell? W _ hc, fun j x hjx k v hv => ?_⟩
   rw [List.getElem?_map, Option.map_eq_some_iff] at hjx
   obtain ⟨i, hi, rfl⟩ := hjx
   have hil := (List.getElem?_eq_some_iff.1 hi).1
   have hij : i = j := by rw [List.getElem?_range (by simpa using hil)] at hi; injection hi with hi; exact hi.symm
   subst hij
   have k0 := (hq i (by simpa using hil)).1 k v hv
   have ea : ∀ x : Nat, (⟨b, off, none⟩ : Addr).add x = ⟨b, off + x, none⟩ := fun x => by unfold Addr.add; split <;> simp_all
   have eb : ∀ y x : Nat, (⟨b, y, none⟩ : Addr).add x = ⟨b, y + x, none⟩ := fun y x => by unfold Addr.add; split <;> simp_all
   rw [ea, eb] at k0
   exact k0
end Go.Proofs.YtgfkmgbcajdcdaaGreatDoor.Ifs

namespace Go.Proofs.YtgfkmgbcajdcdaaGreatDoor.Ifs
open Go.RowKit

structure StdI (w W : World) (p : Nat) (S : List Nat) (st : StI) : Prop where
 P : IfP W p S st
 bel : Below w.heap.size w W
 abv : ∀ s ∈ S, w.heap.size ≤ s
theorem StdI.go {w W W' : World} {p : Nat} {S S' : List Nat} {st st' : StI} (h : StdI w W p S st) (hP : IfP W' p S' st') (hg : Goes W W' S S') : StdI w W' p S' st' :=
 have k := hg.below h.bel.size h.abv
 ⟨hP, h.bel.trans k.1, k.2⟩
theorem StdI.read {w W W' : World} {p : Nat} {S : List Nat} {st : StI} (h : StdI w W p S st) (hP : IfP W' p S st) (ht : Tch W W' S) : StdI w W' p S st := h.go hP (Goes.of_tch ht)
theorem StdI.alloc {w W : World} {p : Nat} {S : List Nat} {st : StI} (h : StdI w W p S st) (o : Obj) : StdI w (W.alloc o) p S st :=
 ⟨h.P.tch ((Tch.refl W []).alloc o) (by simp), h.bel.alloc h.bel.size o, h.abv⟩
end Go.Proofs.YtgfkmgbcajdcdaaGreatDoor.Ifs

namespace Go.Proofs.YtgfkmgbcajdcdaaGreatDoor.Ifs
open Go.RowKit

def plI (z : List StpI) (n : Nat) : StI := (z.take n).foldl (fun st x => (doI st x).1) ([], [])
theorem plI_zero (z : List StpI) : plI z 0 = ([], []) := by simp [plI]
theorem plI_succ {z : List StpI} {n : Nat} {x : StpI} (hx : z[n]? = some x) : plI z (n + 1) = (doI (plI z n) x).1 := by
 unfold plI
 rw [List.take_add_one, hx, List.foldl_append]
 rfl
theorem IsStp.cells {w wr : World} {a : Option Addr} {l j : Nat} {z : List Stp} (h : IsStp w a l z) (hb : Below w.heap.size w wr) (hj : j < l) : ∃ g o wh nm mac nu po up s ah al, a = some ⟨g, o, none⟩ ∧ z[j]? = some ⟨wh, nm, mac, nu, po, up, s, ah, al⟩ ∧ StpI.ok ⟨wh, nm, mac, nu, po, up, s, ah, al⟩ ∧
  wr.cell? ⟨g, o + j * 9, none⟩ = some (.int .i64 wh) ∧ wr.cell? ⟨g, o + j * 9 + 1, none⟩ = some (.string nm) ∧ wr.cell? ⟨g, o + j * 9 + 2, none⟩ = some (.int .u64 mac) ∧ wr.cell? ⟨g, o + j * 9 + 3, none⟩ = some (.int .i64 nu) ∧ wr.cell? ⟨g, o + j * 9 + 4, none⟩ = some (.int .i64 po) ∧
  wr.cell? ⟨g, o + j * 9 + 5, none⟩ = some (.bool up) ∧ wr.cell? ⟨g, o + j * 9 + 6, none⟩ = some (.bool s) ∧ wr.cell? ⟨g, o + j * 9 + 7, none⟩ = some (.int .u64 (ah : Int)) ∧ wr.cell? ⟨g, o + j * 9 + 8, none⟩ = some (.int .u64 (al : Int)) := by
 obtain ⟨b, o, e, hlt, hc⟩ := h.2.2 (by omega)
 have hlz : j < z.length := by rw [h.1]; exact hj
 have hz : z[j]? = some z[j] := List.getElem?_eq_getElem hlz
 have hok := h.2.1 _ (List.mem_of_getElem? hz)
 generalize z[j] = x at hz hok
 obtain ⟨wh, nm, mac, nu, po, up, s, ah, al⟩ := x
 have k : ∀ k v, (stC ⟨wh, nm, mac, nu, po, up, s, ah, al⟩)[k]? = some v → wr.cell? ⟨b, o + j * 9 + k, none⟩ = some v := fun k v hv => (hb.cell (p := ⟨b, o + j * 9 + k, none⟩) hlt).trans (hc j _ hz k v hv)
 exact ⟨b, o, wh, nm, mac, nu, po, up, s, ah, al, e, hz, hok, k 0 _ rfl, k 1 _ rfl, k 2 _ rfl, k 3 _ rfl, k 4 _ rfl, k 5 _ rfl, k 6 _ rfl, k 7 _ rfl, k 8 _ rfl⟩
theorem made_any (w : World) (a : Option Addr) (l c : Nat) (z : List Stp) (hz : IsStp w a l z) (w0 : World) (hb0 : Below w.heap.size w w0) :
  Calls Tryz.prog 43 #[.slice a l c] w0 fun e w' => ∃ p S, e = .returned (.pointer (some ⟨p, 0, none⟩)) ∧ StdI w0 w' p S (plI z (min l 60)) := by
 have HNew := lH (newP w0)
 have HZ := lH hz
 have HB0 := lH hb0
 clear hz hb0
 go_enter Tryz.func43, Tryz.ntmps43
 go_wp2_with fail
 refine cZm HNew.out ?_
 rintro e w1 ⟨p, S0, rfl, hP, hb, hs⟩
 have Y0 : Hid (StdI w0 w1 p S0 (plI z 0)) := lH ⟨by rw [plI_zero]; exact hP, hb, hs⟩
 clear hP hb hs
 go_wp2_with fail
 go_loopw [4] (fun iv wr => ∃ (i : Nat) (S : List Nat), iv = .int .i64 (i : Int) ∧ i ≤ l ∧ i ≤ 60 ∧ Hid (StdI w0 wr p S (plI z i))) (fun iv _ => 60 - (intOf iv).toNat)
 case atStart => exact ⟨0, S0, rfl, Nat.zero_le _, Nat.zero_le _, Y0⟩
 case round =>
  obtain ⟨i, S, rfl, hil, hi6, hY⟩ := hrel
  have j1 : IntKind.i64.wrap ((i : Int) + 1) = (i : Int) + 1 := by rw [IntKind.wrap_i64]; omega
  by_cases hlt : i < l
  ·have i1 : (i : Int) < (l : Int) := by omega
   have i0 : (0 : Int) ≤ (i : Int) := by omega
   by_cases h60 : i < 60
   ·have i6 : (i : Int) < 60 := by omega
    obtain ⟨g, o, wh, nm, mac, nu, po, up, s, ah, al, rfl, hzi, hok, c0, c1, c2, c3, c4, c5, c6, c7, c8⟩ := HZ.out.cells (HB0.out.trans (hY.out.bel.mono HB0.out.size)) hlt
    have HD : Hid (Calls Tryz.prog 85 #[.pointer (some ⟨p, 0, none⟩), .agg #[.int .i64 wh, .string nm, .int .u64 mac, .int .i64 nu, .int .i64 po, .bool up, .bool s, .int .u64 (ah : Int), .int .u64 (al : Int)]] wr _) := lH (do_any p S (plI z i) ⟨wh, nm, mac, nu, po, up, s, ah, al⟩ hok wr hY.out.P)
    have HS := lH (plI_succ hzi)
    clear hzi hok
    go_wp2_with fail
    refine cZm HD.out ?_
    rintro e w2 ⟨rfl, S', hP, hg⟩
    rw [← HS.out] at hP
    have Y2 := lH (hY.out.go hP hg)
    clear hP hg c0 c1 c2 c3 c4 c5 c6 c7 c8
    go_wp2
    go_roundw
    case rel => exact ⟨i + 1, S', by go_num, hlt, h60, Y2⟩
    case measure => simp [intOf]; omega
   ·have i6 : ¬ (i : Int) < 60 := by omega
    have he : min l 60 = i := by omega
    have HE := lH he
    clear he h60 hil hi6
    go_wp2
    go_ret
    rw [HE.out]
    exact ⟨p, rfl, S, hY.out⟩
  ·have i1 : ¬ (i : Int) < (l : Int) := by omega
   have i1b : decide ((i : Int) < (l : Int)) = false := decide_eq_false i1
   have he : min l 60 = i := by omega
   have HE := lH he
   clear he hlt hil hi6
   go_wp2
   go_ret
   rw [HE.out]
   exact ⟨p, rfl, S, hY.out⟩
end Go.Proofs.YtgfkmgbcajdcdaaGreatDoor.Ifs

namespace Go.Proofs.YtgfkmgbcajdcdaaGreatDoor
open Go.RowKit Ifs

theorem net_any (a b c d n : Int) (ha : 0 ≤ a ∧ a ≤ 255) (hb : 0 ≤ b ∧ b ≤ 255) (hc : 0 ≤ c ∧ c ≤ 255) (hd : 0 ≤ d ∧ d ≤ 255) (hn : a * 16777216 + b * 65536 + c * 256 + d = n) (w : World) :
  Calls Tryz.prog 39 #[.int .u64 a, .int .u64 b, .int .u64 c, .int .u64 d] w fun e w' => e = .returned (.agg #[.bool false, .int .u64 0, .int .u64 n]) ∧ Tch w w' [] := by
 obtain ⟨A, hA⟩ : ∃ A, a * 16777216 = A := ⟨_, rfl⟩
 obtain ⟨B, hB⟩ : ∃ B, b * 65536 = B := ⟨_, rfl⟩
 obtain ⟨C, hC⟩ : ∃ C, c * 256 = C := ⟨_, rfl⟩
 have k1 : IntKind.u64.wrap (a * 16777216) = A := by rw [IntKind.wrap_u64]; omega
 have k2 : IntKind.u64.wrap (b * 65536) = B := by rw [IntKind.wrap_u64]; omega
 have k3 : IntKind.u64.wrap (c * 256) = C := by rw [IntKind.wrap_u64]; omega
 obtain ⟨AB, hAB⟩ : ∃ X, A + B = X := ⟨_, rfl⟩
 obtain ⟨ABC, hABC⟩ : ∃ X, AB + C = X := ⟨_, rfl⟩
 have k4 : IntKind.u64.wrap (A + B) = AB := by rw [IntKind.wrap_u64]; omega
 have k5 : IntKind.u64.wrap (AB + C) = ABC := by rw [IntKind.wrap_u64]; omega
 have k6 : IntKind.u64.wrap (ABC + d) = n := by rw [IntKind.wrap_u64]; omega
 have HT : Hid (∀ o, Tch w (w.alloc o) []) := lH (fun o => (Tch.refl w []).alloc o)
 clear hA hB hC hAB hABC hn ha hb hc hd
 go_enter Tryz.func39, Tryz.ntmps39
 go_wp2
 refine bodyPost_ret (v := .agg #[.bool false, .int .u64 0, .int .u64 n]) (by simp [results, Tryz.results39, go_sem]) rfl ⟨rfl, HT.out _⟩
theorem pfSz : (Tryz.prog.info? 30).map (·.size) = some 4 := by kernel_rfl
theorem eight_any (a n : Int) (ha : 0 ≤ a ∧ a ≤ 255) (hn : a * 16777216 = n) (w : World) :
  Calls Tryz.prog 41 #[.int .u64 a] w fun e w' => e = .returned (.agg #[.bool false, .int .u64 0, .int .u64 n, .int .i64 8]) ∧ Tch w w' [] := by
 have HN := lH (fun W => net_any a 0 0 0 n ha (by omega) (by omega) (by omega) (by omega) W)
 obtain ⟨rb, hrb⟩ : ∃ rb, w.heap.size = rb := ⟨_, rfl⟩
 obtain ⟨W0, hW0⟩ : ∃ W, w.alloc (.cells #[.bool false, .int .u64 0, .int .u64 0, .int .i64 0] 30) = W := ⟨_, rfl⟩
 have HR : Hid (Blk W0 rb 30 #[.bool false, .int .u64 0, .int .u64 0, .int .i64 0]) := lH (hW0 ▸ hrb ▸ Blk.new w _ _)
 have HT0 : Hid (Tch w W0 []) := lH (hW0 ▸ (Tch.refl w []).alloc _)
 have HW0 := lH (And.intro hW0 hrb)
 clear hW0 hrb ha hn
 go_enter Tryz.func41, Tryz.ntmps41
 go_wp2_with fail
 rw [HW0.out.1, HW0.out.2]
 refine cZm (HN.out W0) ?_
 rintro e w1 ⟨rfl, hT1⟩
 have HR1 := lH (hT1.blk HR.out (by simp))
 have HT1 := lH (HT0.out.trans hT1)
 have HS := lH HW0.out.2
 clear hT1
 go_wp2_with (refine wpList_sta rfl 30 (.tmp 2) (.tmp 5) rfl rb 0 #[.bool false, .int .u64 0, .int .u64 n, .int .i64 8] rfl rfl 30 _ HR1.out 4 pfSz rfl (show 0 + 4 ≤ 4 from by decide) (by simp [Value.oneCell']) ?_; intro w6 hs6; have HS6 := lH hs6; clear hs6)
 obtain ⟨z0, z1, z2, z3⟩ := (sta_whole HS6.out rfl).c4
 exact bodyPost_ret (v := .agg #[.bool false, .int .u64 0, .int .u64 n, .int .i64 8]) (by simp [results, Tryz.results41, go_sem, z0, z1, z2, z3]) rfl ⟨rfl, HT1.out.trans_fre HS6.out.tch (by simp; have := HS.out; omega)⟩
structure Bth (w W : World) (t p : Nat) (S T : List Nat) (L : List TdI) (st : StI) : Prop where
 R : RbP W t S L
 I : IfP W p T st
 dis : ∀ s ∈ S, s ∉ T
 bel : Below w.heap.size w W
 ra : ∀ s ∈ S, w.heap.size ≤ s
 ia : ∀ s ∈ T, w.heap.size ≤ s
section
variable {w W W' : World} {t p : Nat} {S S' T T' : List Nat} {L M : List TdI} {st st' : StI}
theorem Bth.goR (h : Bth w W t p S T L st) (hP : RbP W' t S' M) (hg : Goes W W' S S') : Bth w W' t p S' T M st := by
 have k := hg.below h.bel.size h.ra
 refine ⟨hP, h.I.tch hg.tch (fun s hs hm => h.dis s hm hs), fun s hs hm => ?_, h.bel.trans k.1, k.2, h.ia⟩
 rcases hg.fre s hs with h1 | h1
 ·exact h.dis s h1 hm
 ·have := h.I.lt s hm; omega
theorem Bth.goI (h : Bth w W t p S T L st) (hP : IfP W' p T' st') (hg : Goes W W' T T') : Bth w W' t p S T' L st' := by
 have k := hg.below h.bel.size h.ia
 refine ⟨h.R.tch hg.tch (fun s hs hm => h.dis s hs hm), hP, fun s hs hm => ?_, h.bel.trans k.1, h.ra, k.2⟩
 rcases hg.fre s hm with h1 | h1
 ·exact h.dis s hs h1
 ·have := h.R.lt s hs; omega
theorem Bth.tch0 (h : Bth w W t p S T L st) (ht : Tch W W' []) : Bth w W' t p S T L st :=
 ⟨h.R.tch ht (by simp), h.I.tch ht (by simp), h.dis, h.bel.trans (ht.below h.bel.size (by simp)), h.ra, h.ia⟩
theorem Bth.env (h : Bth w W t p S T L st) (hE : EnvR w) : EnvN W S := hE.n h.bel h.ra
end
theorem made16 (w : World) (a b : Option Addr) (l c l2 c2 : Nat) (z : List Ifs.Stp) (y : List Stp) (hz : Ifs.IsStp w a l z) (hy : IsStp w b l2 y) (w0 : World) (hb0 : Below w.heap.size w w0) (hE : EnvR w) :
  Calls Tryz.prog 9 #[.agg #[.slice a l c, .slice b l2 c2]] w0 fun e w' => ∃ t p S T, e = .returned (.tuple #[ptrV t, ptrV p]) ∧ Bth w0 w' t p S T (plR y (min l2 60)) (plI z (min l 60)) := by
 have HR := lH (fun W (hW : Below w.heap.size w W) => made_any w b l2 c2 y hy W hW hE)
 have HI := lH (fun W (hW : Below w.heap.size w W) => Ifs.made_any w a l c z hz W hW)
 obtain ⟨xb, hxb⟩ : ∃ xb, w0.heap.size = xb := ⟨_, rfl⟩
 obtain ⟨W0, hW0⟩ : ∃ W, w0.alloc (.cells #[.slice a l c, .slice b l2 c2] 25) = W := ⟨_, rfl⟩
 have HX : Hid (Blk W0 xb 25 #[.slice a l c, .slice b l2 c2]) := lH (hW0 ▸ hxb ▸ Blk.new w0 _ _)
 have HT0 : Hid (Tch w0 W0 []) := lH (hW0 ▸ (Tch.refl w0 []).alloc _)
 have HB0 : Hid (Below w.heap.size w W0.drew) := lH (hb0.trans (HT0.out.drew.below hb0.size (by simp)))
 have HW0 := lH (And.intro hW0 hxb)
 have HC := lH (fun W (hW : Tch W0 W []) => show W.cell? ⟨xb, 0, none⟩ = some (Value.slice a l c) ∧ W.cell? ⟨xb, 1, none⟩ = some (Value.slice b l2 c2) from ⟨((hW.blk HX.out (by simp)).cell 0).trans rfl, ((hW.blk HX.out (by simp)).cell 1).trans rfl⟩)
 have HC0 := lH (HC.out _ (Tch.refl W0 []).drew)
 clear hW0 hxb hz hy hb0
 go_enter Tryz.func9, Tryz.ntmps9
 go_wp2
 rw [HW0.out.1, HW0.out.2]
 refine wp_region_held_drew (S := (fun W => W.cell? ⟨xb, 0, none⟩ = some (Value.slice a l c) ∧ W.cell? ⟨xb, 1, none⟩ = some (Value.slice b l2 c2))) (by kernel_rfl) ?_ (fun hHeld => ?_)
 ·(first | exact HC0.out | exact HC5.out | exact HC6.out)
 refine tkH 0 ?_
 refine tkH 1 ?_
 refine tkH 3 ?_
 refine tkH 4 ?_
 refine wpAnyH_ready (rs := [2]) (by kernel_rfl) (by simp) ?_
 refine AllReadyH.cons (o := { dst := some 6, op := Go.Op.call { callee := Go.Callee.value (Go.Operand.func 42), args := #[Go.Operand.tmp 5], argTypes := #[23] }, type := 32, pos := "law.go:66", after := #[{ on := 1, ground := Go.Ground.data }], guard := none }) rfl (fun K hK => ?_) AllReadyH.nil
 go_simp
 (go_at_call 42; (with_reducible refine cZm (HR.out _ HB0.out) ?_); rintro e w5 ⟨t, S, rfl, hY⟩; have HY := lH hY; have HT5 := lH (Tch.of_below [] hY.bel); have HC5 := lH (HC.out w5 ((Tch.refl W0 []).drew.trans HT5.out)); have HB5 : Hid (Below w.heap.size w w5) := lH (HB0.out.trans (HT5.out.below HB0.out.size (by simp))); clear hY)
 go_wp2_with fail
 refine hK.out _ _ ?_ (fun hHeld => ?_)
 ·(first | exact HC0.out | exact HC5.out | exact HC6.out)
 clear hK K
 try simp only [Act.put, List.setIfInBounds_toArray, List.set_cons_zero, List.set_cons_succ]
 refine wpAnyH_ready (rs := [5]) (by kernel_rfl) (by simp) ?_
 refine AllReadyH.cons (o := { dst := some 9, op := Go.Op.call { callee := Go.Callee.value (Go.Operand.func 43), args := #[Go.Operand.tmp 8], argTypes := #[22] }, type := 33, pos := "law.go:66", after := #[{ on := 4, ground := Go.Ground.data }, { on := 2, ground := Go.Ground.chain }], guard := none }) rfl (fun K hK => ?_) AllReadyH.nil
 go_simp
 (go_at_call 43; (with_reducible refine cZm (HI.out _ HB5.out) ?_); rintro e w6 ⟨p, T, rfl, hY⟩; have HZ := lH hY; have HT6 := lH (Tch.of_below [] hY.bel); have HC6 := lH (HC.out w6 (((Tch.refl W0 []).drew.trans HT5.out).trans HT6.out)); clear hY)
 go_wp2_with fail
 refine hK.out _ _ ?_ (fun hHeld => ?_)
 ·(first | exact HC0.out | exact HC5.out | exact HC6.out)
 clear hK K
 try simp only [Act.put, List.setIfInBounds_toArray, List.set_cons_zero, List.set_cons_succ]
 refine tkH 6 ?_
 refine tkH 7 ?_
 refine wpAnyH_done (by kernel_rfl) ?_ _
 go_wp2
 have HT06 : Hid (Tch w0 w6 []) := lH (((HT0.out.drew).trans HT5.out).trans HT6.out)
 have HBth : Hid (Bth w0 w6 t p S T (plR y (min l2 60)) (plI z (min l 60))) := lH ⟨HY.out.P.tch HT6.out (by simp), HZ.out.P, fun s hs hm => by have h1 := HY.out.P.lt s hs; have h2 := HZ.out.abv s hm; omega, HT06.out.below (Nat.le_refl _) (by simp), fun s hs => Nat.le_trans HT0.out.size (HY.out.abv s hs), fun s hs => Nat.le_trans (HT0.out.drew.trans HT5.out).size (HZ.out.abv s hs)⟩
 refine bodyPost_ret (v := .tuple #[ptrV t, ptrV p]) (by simp [results, Tryz.results9, go_sem]) rfl ⟨t, p, S, T, rfl, HBth.out⟩
end Go.Proofs.YtgfkmgbcajdcdaaGreatDoor

namespace Go.Proofs.YtgfkmgbcajdcdaaGreatDoor
open Go.RowKit

theorem rless_any (s : Bool) (h l : Int) (s' : Bool) (h' l' : Int) (w : World) :
  Calls Tryz.prog 61 #[adr s h l, adr s' h' l'] w fun e w' => e = .returned (.bool (lss s h l s' h' l')) ∧ Below w.heap.size w w' := by
 obtain ⟨V1, hV1⟩ : ∃ v, vld s h l = v := ⟨_, rfl⟩
 obtain ⟨V2, hV2⟩ : ∃ v, vld s' h' l' = v := ⟨_, rfl⟩
 obtain ⟨R, hR⟩ : ∃ v, lss s h l s' h' l' = v := ⟨_, rfl⟩
 have HR := lH hR
 rw [hR]
 have H1 := lH (fun W => rvalid_at s h l W hV1)
 have H2 := lH (fun W => rvalid_at s' h' l' W hV2)
 have G1 := lH hV1
 have G2 := lH hV2
 clear hR hV1 hV2
 cases V1
 ·go_enter Tryz.func61, Tryz.ntmps61
  go_wp2_with fail
  refine cZm (H1.out _) ?_
  rintro e w1 ⟨rfl, hb⟩
  go_wp2
  go_ret
  exact ⟨by rw [← HR.out]; simp [lss, G1.out], (((Below.refl _ _).alloc (Nat.le_refl _) _).alloc (by simp) _).trans (hb.mono (by simp; omega))⟩
 ·cases V2
  ·go_enter Tryz.func61, Tryz.ntmps61
   go_wp2_with fail
   refine cZm (H1.out _) ?_
   rintro e w1 ⟨rfl, hb⟩
   obtain ⟨hc, hf⟩ := bcell hb
   go_wp2_with fail
   refine cZm (H2.out _) ?_
   rintro e w2 ⟨rfl, hb2⟩
   go_wp2
   go_ret
   have B1 := (((Below.refl _ w).alloc (Nat.le_refl _) _).alloc (by simp) _).trans (hb.mono (by simp; omega))
   exact ⟨by rw [← HR.out]; simp [lss, G1.out, G2.out], B1.trans (hb2.mono B1.size)⟩
  ·rcases s with _ | _ <;> rcases s' with _ | _
   all_goals first | (by_cases hh : h = h'; subst hh; try (have h9 : ¬ h < h := by omega)) | skip
   all_goals first | (by_cases h8 : h < h') | skip
   all_goals
    go_enter Tryz.func61, Tryz.ntmps61
    go_wp2_with fail
    refine cZm (H1.out _) ?_
    rintro e w1 ⟨rfl, hb⟩
    obtain ⟨hc, hf⟩ := bcell hb
    go_wp2_with fail
    refine cZm (H2.out _) ?_
    rintro e w2 ⟨rfl, hb2⟩
    obtain ⟨c0, c1, c2⟩ := ((((Blk.new w 28 _).alloc _).below hb (by simp only [zA]; omega)).below hb2 (by have := hb.size; simp at this; omega)).c3
    obtain ⟨d0, d1, d2⟩ := (((Blk.new (w.alloc _) 28 _).below hb (by simp only [zA]; omega)).below hb2 (by have := hb.size; simp at this ⊢; omega)).c3
    rw [zA] at d0 d1 d2
    have B1 := lH ((((Below.refl _ w).alloc (Nat.le_refl _) _).alloc (by simp) _).trans (hb.mono (by simp; omega)))
    have B2 := lH (B1.out.trans (hb2.mono B1.out.size))
    go_wp2
    go_ret
    exact ⟨ret_bool (by rw [← HR.out]; simp [lss, G1.out, G2.out, *]), B2.out⟩
end Go.Proofs.YtgfkmgbcajdcdaaGreatDoor
