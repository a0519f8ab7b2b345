/-
  Several texts in one: IpN, IpI, ShelfC, SCl, IpJ.
-/
import Derived.Test.YtgfkmgbcajdcdaaGreatDoorZbe
import Derived.Test.YtgfkmgbcajdcdaaGreatDoorZad
import Derived.Test.YtgfkmgbcajdcdaaGreatDoorZak
import Derived.Laws.RangeAny
import Derived.Laws.RangeString
import Derived.Carry
import Derived.Shelf.LaysM
import Derived.Shelf.Strconv.Clone
import Derived.Test.YtgfkmgbcajdcdaaGreatDoorProg
import Derived.Test.YtgfkmgbcajdcdaaGreatDoorZaa
import Derived.Lib.Hide
import Derived.Test.YtgfkmgbcajdcdaaGreatDoorZab
set_option linter.unusedVariables false
set_option maxRecDepth 100000
set_option maxHeartbeats 16000000
namespace Go.Proofs.YtgfkmgbcajdcdaaGreatDoor.Ifs
open Go.RowKit Go.Maps

theorem filter_erase {a : AdI} : ∀ {l : List Loc} {i : Nat} {x : Loc}, (l.map (·.1)).Nodup → l[i]? = some x → x.1 = a → l.filter (fun y => !isA a y) = l.eraseIdx i
 | [], i, x, _, hx, _ => by simp at hx
 | y :: r, 0, x, hn, hx, he => by
  simp at hx
  subst hx
  rw [List.map_cons, List.nodup_cons] at hn
  have h1 : isA a y = true := decide_eq_true he
  rw [List.filter_cons, h1, List.eraseIdx_cons_zero]
  simp only [Bool.not_true, Bool.false_eq_true, if_false]
  rw [List.filter_eq_self]
  intro z hz
  have : isA a z = false := decide_eq_false (fun e => hn.1 (List.mem_map.2 ⟨z, hz, e.trans he.symm⟩))
  rw [this]; rfl
 | y :: r, i + 1, x, hn, hx, he => by
  rw [List.map_cons, List.nodup_cons] at hn
  have hx : r[i]? = some x := by simpa using hx
  have h1 : isA a y = false := decide_eq_false (fun e => hn.1 (List.mem_map.2 ⟨x, List.mem_of_getElem? hx, he.trans e.symm⟩))
  rw [List.filter_cons, h1, List.eraseIdx_cons_succ, filter_erase hn.2 hx he]
  rfl
theorem dropP (p : Nat) (S : List Nat) (st : StI) (port : Int) (a : AdI) (ha : N64 a.2.1 ∧ N64 a.2.2) (hi : I64 port) (w : World) (h : IfP w p S st) :
  Calls Tryz.prog 128 #[.pointer (some ⟨p, 0, none⟩), .int .i64 port, adV a] w fun e w' => e = .returned (.int .i64 (dropI st port a).2) ∧ ∃ S', IfP w' p S' (dropI st port a).1 ∧ Goes w w' S S' := by
 have hinv := h.inv.drop port a
 have hone := h.inv.one
 have HP0 := lH h
 have HFd := lH (fun q A c (l : List Loc) (hl : l.length ≤ 8) W hO => find_any q a A l.length c l rfl (by omega) W hO)
 obtain ⟨s, ah, al⟩ := a
 obtain ⟨xb, hxb⟩ : ∃ xb, w.heap.size = xb := ⟨_, rfl⟩
 obtain ⟨W0, hW0⟩ : ∃ W, w.alloc (.cells #[.bool s, .int .u64 (ah : Int), .int .u64 (al : Int)] 28) = W := ⟨_, rfl⟩
 have hX : Blk W0 xb 28 #[.bool s, .int .u64 (ah : Int), .int .u64 (al : Int)] := hW0 ▸ hxb ▸ Blk.new _ _ _
 have HT0 : Hid (Tch w W0 []) := lH (hW0 ▸ (Tch.refl w []).alloc _)
 have hD0 := h.tch HT0.out (by simp)
 have HW0 := lH (And.intro hW0 hxb)
 have HX := lH hX
 cases hth : thereI st port with
 | false =>
  have HMb := lH (pmember_no p S st port hth W0 hD0)
  have HE : Hid (dropI st port (s, ah, al) = (st, 132)) := lH (by unfold dropI; rw [if_pos hth])
  clear h hinv hone hX hD0 hW0 hxb hth hi
  go_enter Tryz.func128, Tryz.ntmps128
  go_wp2_with fail
  rw [HW0.out.1, HW0.out.2]
  refine cZm HMb.out ?_
  rintro e w' ⟨rfl, rfl⟩
  go_wp2
  go_ret
  rw [HE.out]
  exact ⟨rfl, S, HP0.out.tch HT0.out (by simp), Goes.of_tch (HT0.out.mono (by simp))⟩
 | true =>
  obtain ⟨gM, cM, c, i, n, A, q, l, c0, hq, hl, x0, x1, x2, x3, x4, hO, hl8, hpl, hgl, hfz, hgS, hnn, hn8, hin, hpe, hix⟩ := hD0.is hth
  have HMb := lH (member_at p gM n cM i port hn8 hin hpe W0 c0)
  obtain ⟨-, -, eLoc, -⟩ := there_idx hix hq hl hth
  have hnd := nodup_in hone hl
  have HNo : Hid (fndI (isA (s, ah, al)) l = 0 → dropI st port (s, ah, al) = (st, 132)) := lH (fun e => by
   unfold dropI
   rw [if_neg (by rw [hth]; simp), eLoc, if_pos (by rw [List.any_eq_false]; intro x hx; obtain ⟨j, hj⟩ := List.mem_iff_getElem?.1 hx; simpa using fndI_zero.1 e j x hj)])
  have HYes : Hid (∀ k, fndI (isA (s, ah, al)) l = k + 1 → k < l.length ∧ dropI st port (s, ah, al) = ((st.1, st.2.set i (l.eraseIdx k)), 0)) := lH (fun k e => by
   obtain ⟨⟨x, hx, hp⟩, -⟩ := fndI_succ.1 e
   have hx1 : x.1 = (s, ah, al) := of_decide_eq_true hp
   refine ⟨(List.getElem?_eq_some_iff.1 hx).1, ?_⟩
   unfold dropI
   rw [if_neg (by rw [hth]; simp), eLoc, if_neg (by rw [Bool.not_eq_false]; exact List.any_eq_true.2 ⟨x, List.mem_of_getElem? hx, hp⟩), hix, modI_set hl, filter_erase hnd hx hx1])
  have HInv := lH hinv
  have HRd : Hid (∀ W, Tch W0 W [] → W.cell? ⟨gM, i * 5, none⟩ = some (.string q.1) ∧ W.cell? ⟨gM, i * 5 + 1, none⟩ = some (.int .u64 q.2.1) ∧ W.cell? ⟨gM, i * 5 + 2, none⟩ = some (.int .i64 q.2.2.1) ∧ W.cell? ⟨gM, i * 5 + 3, none⟩ = some (.bool q.2.2.2) ∧ W.cell? ⟨gM, i * 5 + 4, none⟩ = some (.slice A l.length c) ∧ W.cell? ⟨xb, 0, none⟩ = some (.bool s) ∧ W.cell? ⟨xb, 1, none⟩ = some (.int .u64 (ah : Int)) ∧ W.cell? ⟨xb, 2, none⟩ = some (.int .u64 (al : Int))) :=
   lH (fun W hT => ⟨(hT.cell (p := ⟨gM, i * 5, none⟩) hgl (by simp)).trans x0, (hT.cell (p := ⟨gM, i * 5 + 1, none⟩) hgl (by simp)).trans x1, (hT.cell (p := ⟨gM, i * 5 + 2, none⟩) hgl (by simp)).trans x2, (hT.cell (p := ⟨gM, i * 5 + 3, none⟩) hgl (by simp)).trans x3, (hT.cell (p := ⟨gM, i * 5 + 4, none⟩) hgl (by simp)).trans x4, (hT.blk HX.out (by simp)).c3⟩)
  have HOw : Hid (∀ W, Tch W0 W [] → W.ownsRow 0 202 4 (.slice A l.length c) l.length (l.flatMap lcC)) := lH (fun W hT => own_tch hO hT (by simp))
  have HF := lH (fun W (hT : Tch W0 W []) => HFd.out q A c l hl8 W (HOw.out W hT))
  have hpS : p < w.heap.size := h.lt p h.pin
  have HC0 : Hid (w.cell? ⟨p, 0, none⟩ = some (.slice (some ⟨gM, 0, none⟩) n cM)) := lH ((HT0.out.cell (p := ⟨p, 0, none⟩) hpS (by simp)).symm.trans c0)
  have HC4 : Hid (w.cell? ⟨gM, i * 5 + 4, none⟩ = some (.slice A l.length c)) := lH ((HT0.out.cell (p := ⟨gM, i * 5 + 4, none⟩) (h.lt gM hgS) (by simp)).symm.trans x4)
  have HIn : Hid (i < st.1.length) := lH (by omega)
  obtain ⟨m, hm⟩ : ∃ m, l.length = m := ⟨_, rfl⟩
  rw [hm] at HRd HOw HF HC4 hl8
  have HLm := lH hm
  have HL8 := lH hl8
  obtain ⟨z, hz⟩ : ∃ z : Int, ((fndI (isA (s, ah, al)) l : Nat) : Int) - 1 = z := ⟨_, rfl⟩
  rw [hz] at HF
  have HZ := lH hz
  obtain ⟨qn, qm, qt, qu⟩ := q
  have HRx := lH (HRd.out W0 (Tch.refl _ _))
  have HTd : Hid (Tch W0 W0.drew []) := lH ((Tch.refl W0 []).drew)
  clear h hinv hone hX hD0 hW0 hxb hth hi c0 hq hl x0 x1 x2 x3 x4 hO hpl hgl hfz hgS hnn hn8 hin hpe hix eLoc hnd hpS hm hz HFd
  go_enter Tryz.func128, Tryz.ntmps128
  go_wp2_with fail
  rw [HW0.out.1, HW0.out.2]
  refine cZm HMb.out ?_
  rintro e w' ⟨rfl, rfl⟩
  go_wp2_with fail
  refine wp_region_held_drew (S := (fun W => W.cell? ⟨gM, i * 5, none⟩ = some (.string qn) ∧ W.cell? ⟨gM, i * 5 + 1, none⟩ = some (.int .u64 qm) ∧ W.cell? ⟨gM, i * 5 + 2, none⟩ = some (.int .i64 qt) ∧ W.cell? ⟨gM, i * 5 + 3, none⟩ = some (.bool qu) ∧ W.cell? ⟨gM, i * 5 + 4, none⟩ = some (.slice A m c) ∧ W.cell? ⟨xb, 0, none⟩ = some (.bool s) ∧ W.cell? ⟨xb, 1, none⟩ = some (.int .u64 (ah : Int)) ∧ W.cell? ⟨xb, 2, none⟩ = some (.int .u64 (al : Int)))) (by kernel_rfl) ?_ (fun hHeld => ?_)
  ·(first | exact HRx.out | exact HRd.out _ HT5.out)
  refine tkH 0 ?_
  refine tkH 1 ?_
  refine tkH 2 ?_
  refine tkH 3 ?_
  refine wpAnyH_ready (rs := [4]) (by kernel_rfl) (by simp) ?_
  refine AllReadyH.cons (o := { dst := some 18, op := Go.Op.call { callee := Go.Callee.value (Go.Operand.func 169), args := #[Go.Operand.tmp 16, Go.Operand.tmp 17], argTypes := #[130, 28] }, type := 3, pos := "iface.go:128", after := #[{ on := 2, ground := Go.Ground.data }, { on := 3, ground := Go.Ground.data }], guard := none }) rfl (fun K hK => ?_) AllReadyH.nil
  go_simp
  (go_at_call 169; (with_reducible refine cZm (HF.out _ HTd.out) ?_); rintro e w5 ⟨rfl, hT'⟩; have HT5 := lH (HTd.out.trans hT'); clear hT')
  go_wp2_with fail
  refine hK.out _ _ ?_ (fun hHeld => ?_)
  ·(first | exact HRx.out | exact HRd.out _ HT5.out)
  clear hK K
  try simp only [Act.put, List.setIfInBounds_toArray, List.set_cons_zero, List.set_cons_succ]
  refine tkH 5 ?_
  refine wpAnyH_done (by kernel_rfl) ?_ _
  obtain ⟨-, -, -, -, y4, -, -, -⟩ := HRd.out w5 HT5.out
  by_cases hz0 : z < 0
  ·have HE := lH (HNo.out (by have := HZ.out; omega))
   clear y4
   go_wp2
   go_ret
   rw [HE.out]
   exact ⟨rfl, S, HP0.out.tch (HT0.out.trans HT5.out) (by simp), Goes.of_tch ((HT0.out.trans HT5.out).mono (by simp))⟩
  ·obtain ⟨k, rfl⟩ : ∃ k : Nat, z = (k : Int) := ⟨z.toNat, by omega⟩
   obtain ⟨hk, hE⟩ := HYes.out k (by have := HZ.out; omega)
   rw [HLm.out] at hk
   have HE := lH hE
   have o5 := HOw.out w5 HT5.out
   obtain ⟨gl, rfl⟩ := slice_some o5 (by omega)
   have HDl := lH (delete_lc gl m c k l HLm.out (by omega) hk w5 o5)
   have HInv2 : Hid (InvI (st.1, st.2.set i (l.eraseIdx k))) := lH (by have h1 := HInv.out; rw [hE] at h1; exact h1)
   have HLe : Hid ((l.eraseIdx k).length = m - 1) := lH (by rw [List.length_eraseIdx, HLm.out, if_pos hk])
   have j1 : IntKind.i64.wrap ((k : Int) + 1) = (k : Int) + 1 := by rw [IntKind.wrap_i64]; omega
   clear hE o5
   go_wp2_with fail
   refine cZm HDl.out ?_
   rintro e w7 ⟨rfl, hown, hT7⟩
   obtain ⟨g1, ⟨u7, k7⟩, f7, S', hI7, hG7⟩ := IfP.inner HP0.out HIn.out HC0.out HC4.out (HT0.out.trans HT5.out) (show Tch w5 w7 (obI (.slice (some ⟨gl, 0, none⟩) m c)) from hT7) (k' := m - 1) HLe.out hown (fun s hs => .inl hs) HInv2.out
   have HI7 := lH hI7
   have HG7 := lH hG7
   clear hown hT7 g1 hI7 hG7 y4 hk
   go_wp2
   go_ret
   rw [HE.out]
   exact ⟨rfl, S', HI7.out, HG7.out⟩
end Go.Proofs.YtgfkmgbcajdcdaaGreatDoor.Ifs

namespace Go.Proofs.YtgfkmgbcajdcdaaGreatDoor.Ifs
open Go.RowKit Go.Maps

theorem newP (w : World) : Calls Tryz.prog 35 #[] w fun e w' => ∃ p S, e = .returned (.pointer (some ⟨p, 0, none⟩)) ∧ IfP w' p S ([], []) ∧ Below w.heap.size w w' ∧ ∀ s ∈ S, w.heap.size ≤ s := by
 have hM := World.ownsMap_made (H := Unit) w Tryz.prog 9 (plainElem Tryz.prog 3)
 have hB := Blk.new (w.alloc (.map #[] 0)) 155 #[.slice none 0 0, .map (some w.heap.size)]
 rw [zA] at hB
 have HI : Hid (IfP ((w.alloc (.map #[] 0)).alloc (.cells #[.slice none 0 0, .map (some w.heap.size)] 155)) (w.heap.size + 1) [w.heap.size + 1, w.heap.size] ([], [])) :=
  lH ⟨none, 0, w.heap.size, [], .map [], rfl, by simp, hB, ⟨rfl, .inl ⟨rfl, rfl⟩⟩, hM.alloc _, NmIs.nil, rfl, fun i l hl => by simp at hl, InvI.nil⟩
 have hmm := @run_makeMap Tryz.prog
 clear hM hB
 go_enter Tryz.func35, Tryz.ntmps35
 go_wp2
 go_ret
 exact ⟨_, _, rfl, HI.out, ((Below.refl _ w).alloc (Nat.le_refl _) _).alloc (by simp) _, by simp⟩
theorem letter_any (r : Int) (w : World) : Calls Tryz.prog 117 #[.int .i32 r] w fun e w' => e = .returned (.bool (decide (97 ≤ r ∧ r ≤ 122))) ∧ w = w' := by
 obtain ⟨L, hL⟩ : ∃ L, decide (97 ≤ r ∧ r ≤ 122) = L := ⟨_, rfl⟩
 rw [hL]
 by_cases h1 : 97 ≤ r
 ·by_cases h2 : r ≤ 122
  ·have HE : Hid (L = true) := lH (hL.symm.trans (decide_eq_true (And.intro h1 h2)))
   clear hL
   go_enter Tryz.func117, Tryz.ntmps117
   go_wp2
   go_ret
   exact ⟨by rw [HE.out]; rfl, rfl⟩
  ·have HE : Hid (L = false) := lH (hL.symm.trans (decide_eq_false (fun x => h2 x.2)))
   clear hL
   go_enter Tryz.func117, Tryz.ntmps117
   go_wp2
   go_ret
   exact ⟨by rw [HE.out]; rfl, rfl⟩
 ·have HE : Hid (L = false) := lH (hL.symm.trans (decide_eq_false (fun x => h1 x.1)))
  clear hL
  go_enter Tryz.func117, Tryz.ntmps117
  go_wp2
  go_ret
  exact ⟨by rw [HE.out]; rfl, rfl⟩
theorem digitI_any (r : Int) (w : World) : Calls Tryz.prog 118 #[.int .i32 r] w fun e w' => e = .returned (.bool (decide (48 ≤ r ∧ r ≤ 57))) ∧ w = w' := by
 obtain ⟨L, hL⟩ : ∃ L, decide (48 ≤ r ∧ r ≤ 57) = L := ⟨_, rfl⟩
 rw [hL]
 by_cases h1 : 48 ≤ r
 ·by_cases h2 : r ≤ 57
  ·have HE : Hid (L = true) := lH (hL.symm.trans (decide_eq_true (And.intro h1 h2)))
   clear hL
   go_enter Tryz.func118, Tryz.ntmps118
   go_wp2
   go_ret
   exact ⟨by rw [HE.out]; rfl, rfl⟩
  ·have HE : Hid (L = false) := lH (hL.symm.trans (decide_eq_false (fun x => h2 x.2)))
   clear hL
   go_enter Tryz.func118, Tryz.ntmps118
   go_wp2
   go_ret
   exact ⟨by rw [HE.out]; rfl, rfl⟩
 ·have HE : Hid (L = false) := lH (hL.symm.trans (decide_eq_false (fun x => h1 x.1)))
  clear hL
  go_enter Tryz.func118, Tryz.ntmps118
  go_wp2
  go_ret
  exact ⟨by rw [HE.out]; rfl, rfl⟩
def okAt (i : Nat) (b : UInt8) : Bool := (decide (97 ≤ b.toNat ∧ b.toNat ≤ 122)) || (decide (i ≠ 0) && decide (48 ≤ b.toNat ∧ b.toNat ≤ 57))
theorem nameOk_def (s : ByteArray) : nameOk s = (decide (1 ≤ s.size ∧ s.size ≤ 8) && (s.data.toList.zipIdx.all fun x => okAt x.2 x.1)) := rfl
theorem zip_all {l : List UInt8} : (l.zipIdx.all fun x => okAt x.2 x.1) = true ↔ ∀ (j : Nat) (b : UInt8), l[j]? = some b → okAt j b = true := by
 rw [List.all_eq_true]
 constructor
 ·intro h j b hb
  exact h (b, j) (List.mem_zipIdx_iff_getElem?.2 hb)
 ·rintro h ⟨b, j⟩ hm
  exact h j b (List.mem_zipIdx_iff_getElem?.1 hm)
theorem name_yes {s : ByteArray} (h : 1 ≤ s.size ∧ s.size ≤ 8) (ha : ∀ (j : Nat) (b : UInt8), s.data.toList[j]? = some b → okAt j b = true) : nameOk s = true := by
 rw [nameOk_def, decide_eq_true h, zip_all.2 ha]; rfl
theorem name_size {s : ByteArray} (h : ¬ (1 ≤ s.size ∧ s.size ≤ 8)) : nameOk s = false := by
 rw [nameOk_def, decide_eq_false h]; rfl
theorem name_no {s : ByteArray} {j : Nat} {b : UInt8} (hb : s.data.toList[j]? = some b) (h : okAt j b = false) : nameOk s = false := by
 rw [nameOk_def]
 have : (s.data.toList.zipIdx.all fun x => okAt x.2 x.1) = false := by
  rw [Bool.eq_false_iff]
  intro e
  rw [zip_all.1 e j b hb] at h
  cases h
 rw [this, Bool.and_false]
theorem rune_at (s : ByteArray) (pos : Nat) (hp : pos < s.size) : ∃ (r : Int) (d : Nat) (b : UInt8), Utf8.decode s pos = (r.toNat, d) ∧ 0 ≤ r ∧ r ≤ 2147483647 ∧ s.data.toList[pos]? = some b ∧ okAt pos b = (decide (97 ≤ r ∧ r ≤ 122) || (decide (pos ≠ 0) && decide (48 ≤ r ∧ r ≤ 57))) ∧ (okAt pos b = true → d = 1) := by
 have hle := decode_le s pos
 have hb : s.data.toList[pos]? = some (s[pos]'hp) := by
  rw [Array.getElem?_toList]
  exact Array.getElem?_eq_getElem (xs := s.data) hp
 by_cases ha : (s[pos]'hp).toNat < 128
 ·have hd := decode_ascii s pos hp ha
  rw [hd] at hle
  refine ⟨((s[pos]'hp).toNat : Int), 1, _, by rw [hd]; rfl, by omega, by omega, hb, ?_, fun _ => rfl⟩
  unfold okAt
  obtain ⟨x, hx⟩ : ∃ x : Nat, (s[pos]'hp).toNat = x := ⟨_, rfl⟩
  rw [hx]
  have e1 : (97 ≤ x ∧ x ≤ 122) ↔ (97 ≤ (x : Int) ∧ (x : Int) ≤ 122) := by omega
  have e2 : (48 ≤ x ∧ x ≤ 57) ↔ (48 ≤ (x : Int) ∧ (x : Int) ≤ 57) := by omega
  rw [decide_eq_decide.2 e1, decide_eq_decide.2 e2]
 ·obtain ⟨h1, h2⟩ := decode_high s pos hp (by omega)
  have hno : okAt pos (s[pos]'hp) = false := by
   unfold okAt
   rw [decide_eq_false (fun x => by omega), decide_eq_false (p := 48 ≤ (s[pos]'hp).toNat ∧ (s[pos]'hp).toNat ≤ 57) (fun x => by omega)]
   simp
  refine ⟨((Utf8.decode s pos).1 : Int), (Utf8.decode s pos).2, _, by simp, by omega, by omega, hb, ?_, fun h => by rw [hno] at h; cases h⟩
  rw [hno, decide_eq_false (fun x => by omega), decide_eq_false (p := 48 ≤ ((Utf8.decode s pos).1 : Int) ∧ ((Utf8.decode s pos).1 : Int) ≤ 57) (fun x => by omega)]
  simp
set_option maxRecDepth 1000000 in
theorem isName_any (s : ByteArray) (w : World) : Calls Tryz.prog 76 #[.string s] w fun e w' => e = .returned (.bool (nameOk s)) ∧ Tch w w' [] := by
 have HLt := lH (fun r W => letter_any r W)
 have HDg := lH (fun r W => digitI_any r W)
 by_cases h0 : s.size = 0
 ·have hs : s = ⟨#[]⟩ := by
   apply ByteArray.ext
   exact Array.eq_empty_of_size_eq_zero h0
  subst hs
  have HE : Hid (nameOk ⟨#[]⟩ = false) := lH (name_size (by simp [ByteArray.size]))
  clear h0
  go_enter Tryz.func76, Tryz.ntmps76
  go_wp2
  go_ret
  exact ⟨by rw [HE.out]; rfl, Tch.refl _ _⟩
 ·have b0 : (s.toList == []) = false := by
   have : s.toList ≠ [] := fun e => h0 (by rw [ByteArray.toList_eq] at e; have := congrArg List.length e; rw [Array.length_toList] at this; exact this)
   simpa using this
  by_cases h8 : (8 : Int) < (s.size : Int)
  ·have HE : Hid (nameOk s = false) := lH (name_size (by omega))
   clear h0
   go_enter Tryz.func76, Tryz.ntmps76
   go_wp2
   go_ret
   exact ⟨by rw [HE.out]; rfl, Tch.refl _ _⟩
  ·have HSz : Hid (1 ≤ s.size ∧ s.size ≤ 8) := lH (by omega)
   clear h0
   go_enter Tryz.func76, Tryz.ntmps76
   go_wp2
   clear b0 h8
   go_loopw [3] (fun _ wr => ∃ pos : Nat, wr = w.iter s pos ∧ pos ≤ s.size ∧ Hid (∀ (j : Nat) (b : UInt8), j < pos → s.data.toList[j]? = some b → okAt j b = true)) (fun _ wr => s.size - wr.iterPos w.heap.size)
   case atStart => exact ⟨0, rfl, Nat.zero_le _, lH (fun j b hj => absurd hj (by omega))⟩
   case round =>
    obtain ⟨pos, rfl, hps, hA⟩ := hrel
    have HTi : Hid (Tch w (w.iter s pos) []) := lH ((Tch.refl w []).alloc _)
    by_cases hp : pos < s.size
    ·obtain ⟨r, d, b, hd, r0, r1, hb, ho, hd1⟩ := rune_at s pos hp
     have hnx : ∀ ty, (Instr.next (.pointer (some ⟨w.heap.size, 0, none⟩)) true ty).run Tryz.prog (w.iter s pos) = .ok (.tuple #[.bool true, .int .i64 (pos : Int), .int .i32 r]) (w.iter s (pos + d)) := fun ty => by
      rw [run_next_any w s pos ty hp, hd]
      show Result.ok (Value.tuple #[.bool true, .int .i64 (pos : Int), .int .i32 ((r.toNat : Nat) : Int)]) _ = _
      rw [Int.toNat_of_nonneg r0]
     have HTd : Hid (Tch w (w.iter s (pos + d)) []) := lH ((Tch.refl w []).alloc _)
     have Hb := lH hb
     have HL := lH (HLt.out r (w.iter s (pos + d)))
     have HD := lH (HDg.out r (w.iter s (pos + d)))
     obtain ⟨L, hL⟩ : ∃ L, decide (97 ≤ r ∧ r ≤ 122) = L := ⟨_, rfl⟩
     obtain ⟨G, hG⟩ : ∃ G, decide (48 ≤ r ∧ r ≤ 57) = G := ⟨_, rfl⟩
     rw [hL] at HL ho
     rw [hG] at HD ho
     have HO := lH ho
     have HD1 := lH hd1
     clear hd hb ho hd1 hL hG r0 r1
     have HGo : Hid (okAt pos b = true → ∀ (j : Nat) (c : UInt8), j < pos + 1 → s.data.toList[j]? = some c → okAt j c = true) := lH (fun hk j c hj hc => by
      rcases Nat.lt_or_ge j pos with h1 | h1
      ·exact hA.out j c h1 hc
      ·obtain rfl : j = pos := by omega
       rw [Hb.out] at hc
       injection hc with hc
       subst hc
       exact hk)
     cases L with
     | true =>
      have hk : okAt pos b = true := by rw [HO.out]; rfl
      have e1 := HD1.out hk
      subst e1
      have HG2 := lH (HGo.out hk)
      clear hk
      go_wp2_with (go_at_call 117; (with_reducible refine cZm HL.out ?_); rintro e w' ⟨rfl, rfl⟩)
      go_roundw
      case rel => exact ⟨pos + 1, rfl, hp, HG2⟩
      case measure => simp; omega
     | false =>
      by_cases hz : pos = 0
      ·have bz : ((pos : Int) == 0) = true := by simpa using hz
       have hzz : decide (pos ≠ 0) = false := decide_eq_false (fun x => x hz)
       rw [hzz] at HO
       have hk : okAt pos b = false := by rw [HO.out]; rfl
       clear hzz hz
       have HE : Hid (nameOk s = false) := lH (name_no Hb.out hk)
       clear hk
       go_wp2_with (go_at_call 117; (with_reducible refine cZm HL.out ?_); rintro e w' ⟨rfl, rfl⟩)
       go_ret
       exact ⟨by rw [HE.out]; rfl, HTd.out⟩
      ·have bz : ((pos : Int) == 0) = false := by simpa using hz
       have hzz : decide (pos ≠ 0) = true := decide_eq_true hz
       rw [hzz] at HO
       clear hzz
       cases G with
       | true =>
        have hk : okAt pos b = true := by rw [HO.out]; rfl
        have e1 := HD1.out hk
        subst e1
        have HG2 := lH (HGo.out hk)
        clear hk
        go_wp2_with (first | (go_at_call 117; (with_reducible refine cZm HL.out ?_); rintro e w' ⟨rfl, rfl⟩) | (go_at_call 118; (with_reducible refine cZm HD.out ?_); rintro e w' ⟨rfl, rfl⟩))
        go_roundw
        case rel => exact ⟨pos + 1, rfl, hp, HG2⟩
        case measure => simp; omega
       | false =>
        have hk : okAt pos b = false := by rw [HO.out]; rfl
        have HE : Hid (nameOk s = false) := lH (name_no Hb.out hk)
        clear hk
        go_wp2_with (first | (go_at_call 117; (with_reducible refine cZm HL.out ?_); rintro e w' ⟨rfl, rfl⟩) | (go_at_call 118; (with_reducible refine cZm HD.out ?_); rintro e w' ⟨rfl, rfl⟩))
        go_ret
        exact ⟨by rw [HE.out]; rfl, HTd.out⟩
    ·obtain rfl : pos = s.size := by omega
     have hnx : ∀ ty, (Instr.next (.pointer (some ⟨w.heap.size, 0, none⟩)) true ty).run Tryz.prog (w.iter s s.size) = _ := fun ty => run_next_end w s s.size ty hp
     have HE : Hid (nameOk s = true) := lH (name_yes HSz.out (fun j b hb => hA.out j b (by have := (List.getElem?_eq_some_iff.1 hb).1; rw [Array.length_toList] at this; exact this) hb))
     clear hp hps
     go_wp2
     go_ret
     exact ⟨by rw [HE.out]; rfl, HTi.out⟩
end Go.Proofs.YtgfkmgbcajdcdaaGreatDoor.Ifs

namespace Go.Proofs
open Go.Shelf
def Tryz.laysM316_ren : Go.Shelf.Ren := ⟨fun | 316 => 119 | n => n, fun | 9 => 9 | 3 => 3 | 4 => 4 | 37 => 225 | 0 => 0 | 127 => 226 | 5 => 5 | n => n, fun | n => n⟩
theorem Tryz.laysM316 : Go.Proofs.LaysM.n316 Tryz.prog Tryz.laysM316_ren := {
 mixed := by kernel_rfl
 f316 := Tryz.func119.trans (congrArg some (by kernel_rfl))
 t0 := Tryz.underlying0
 a0 := Tryz.isAgg0
 z0 := Tryz.sizeOf0
 v0 := Tryz.zeroValue0
 t3 := Tryz.underlying3
 a3 := Tryz.isAgg3
 z3 := Tryz.sizeOf3
 v3 := Tryz.zeroValue3
 t4 := Tryz.underlying4
 a4 := Tryz.isAgg4
 z4 := Tryz.sizeOf4
 v4 := Tryz.zeroValue4
 t9 := Tryz.underlying9
 a9 := Tryz.isAgg9
 z9 := Tryz.sizeOf9
 v9 := Tryz.zeroValue9
 t37 := Tryz.underlying225
 a37 := Tryz.isAgg225
 z37 := Tryz.sizeOf225
 v37 := Tryz.zeroValue225
 t127 := Tryz.underlying226
 a127 := Tryz.isAgg226
 z127 := Tryz.sizeOf226
 v127 := Tryz.zeroValue226
 t5 := Tryz.underlying5
 a5 := Tryz.isAgg5
 z5 := Tryz.sizeOf5
 v5 := Tryz.zeroValue5
 i0 := by kernel_rfl
 i3 := by kernel_rfl
 i4 := by kernel_rfl
 i5 := by kernel_rfl
 i9 := by kernel_rfl
 i37 := by kernel_rfl
 i127 := by kernel_rfl }
open Go.RowKit in
theorem Tryz.stringslite_Clone (s : ByteArray) (w : World) (hlim : s.size ≤ 281474976710656) :
  Calls Tryz.prog 119 #[.string s] w fun e w' => e = .returned (.string s) ∧ Below w.heap.size w w' := Any.stringslite_Clone Tryz.laysM316 s w hlim
end Go.Proofs

namespace Go.Proofs.YtgfkmgbcajdcdaaGreatDoor
open Go.RowKit

theorem sclone_any (s : ByteArray) (hs : s.size ≤ 281474976710656) (w : World) :
  Calls Tryz.prog 79 #[.string s] w fun e w' => e = .returned (.string s) ∧ Below w.heap.size w w' := by
 have H := lH (Tryz.stringslite_Clone s w hs)
 go_enter Tryz.func79, Tryz.ntmps79
 go_wp2_with fail
 refine cZm H.out ?_
 rintro e w1 ⟨rfl, hb⟩
 go_wp2
 go_ret
 exact ⟨rfl, hb⟩
end Go.Proofs.YtgfkmgbcajdcdaaGreatDoor

namespace Go.Proofs.YtgfkmgbcajdcdaaGreatDoor.Ifs
open Go.RowKit Go.Maps

theorem and_bit (x : Nat) : x &&& 1099511627776 = x / 1099511627776 % 2 * 1099511627776 := by
 rw [show (1099511627776 : Nat) = 2 ^ 40 by decide]
 apply Nat.eq_of_testBit_eq
 intro j
 rw [Nat.testBit_and, Nat.testBit_two_pow]
 rcases Nat.mod_two_eq_zero_or_one (x / 2 ^ 40) with h | h
 ·rw [h, Nat.zero_mul, Nat.zero_testBit]
  by_cases e : 40 = j
  ·subst e; rw [Nat.testBit_eq_decide_div_mod_eq, h]; rfl
  ·simp [e]
 ·rw [h, Nat.one_mul, Nat.testBit_two_pow]
  by_cases e : 40 = j
  ·subst e; rw [Nat.testBit_eq_decide_div_mod_eq, h]; rfl
  ·simp [e]
theorem and_forty (x : Nat) (hx : x < 18446744073709551616) : bits .and .u64 (x : Int) 1099511627776 = ((x / 1099511627776 % 2 * 1099511627776 : Nat) : Int) := by
 have h := u64_and_nat x 1099511627776 hx (by omega)
 rw [show ((1099511627776 : Nat) : Int) = 1099511627776 from rfl] at h
 rw [h]
 rw [and_bit]
theorem macI_any (m : Int) (hm : 0 ≤ m ∧ m ≤ 18446744073709551615) (w : World) : Calls Tryz.prog 78 #[.int .u64 m] w fun e w' => e = .returned (.bool (macOk m)) ∧ w = w' := by
 obtain ⟨R, hR⟩ : ∃ R, macOk m = R := ⟨_, rfl⟩
 rw [hR]
 unfold macOk at hR
 by_cases h0 : m = 0
 ·have HE : Hid (R = false) := lH (by rw [← hR]; exact decide_eq_false (fun x => x.1 h0))
  have b0 : (m != 0) = false := by simpa using h0
  clear hR hm h0
  go_enter Tryz.func78, Tryz.ntmps78
  go_wp2
  go_ret
  exact ⟨by rw [HE.out]; rfl, rfl⟩
 ·have b0 : (m != 0) = true := by simpa using h0
  by_cases h1 : m < 281474976710656
  ·obtain ⟨x, rfl⟩ : ∃ x : Nat, m = (x : Int) := ⟨m.toNat, by omega⟩
   have ha := and_forty x (by omega)
   obtain ⟨q, hq⟩ : ∃ q : Int, ((x / 1099511627776 % 2 * 1099511627776 : Nat) : Int) = q := ⟨_, rfl⟩
   rw [hq] at ha
   have HE : Hid (R = (q == 0)) := lH (by
    rw [← hR]
    by_cases h3 : x / 1099511627776 % 2 = 1
    ·have : (q == 0) = false := by simp; omega
     rw [this]
     exact decide_eq_false (fun z => z.2.2 (by omega))
    ·have : (q == 0) = true := by simp; omega
     rw [this]
     exact decide_eq_true ⟨h0, h1, by omega⟩)
   obtain ⟨X, hX⟩ : ∃ X : Int, (x : Int) = X := ⟨_, rfl⟩
   rw [hX] at b0 h1 ha ⊢
   clear hR hm h0 hq hX
   go_enter Tryz.func78, Tryz.ntmps78
   go_wp2
   go_ret
   exact ⟨by rw [HE.out]; rfl, rfl⟩
  ·have HE : Hid (R = false) := lH (by rw [← hR]; exact decide_eq_false (fun x => h1 x.2.1))
   clear hR hm h0
   go_enter Tryz.func78, Tryz.ntmps78
   go_wp2
   go_ret
   exact ⟨by rw [HE.out]; rfl, rfl⟩
theorem wpo_mup {o : Oper} {a : Act} {w : World} {K : Act → World → Prop} {Q : Exit → Act → World → Prop} (m x v : Operand) (t : TypeId) (hop : o.op = Op.mapUpdate t m x v)
  (k e : TypeId) (Kd : Keyed Tryz.prog k) (ht : Tryz.prog.underlying t = some (.map k e)) (R : Value → Option (DataW Unit × List MemPlace)) (b n : Nat) (D : DataW Unit)
  (hm : a.eval m = .map (some b)) (hown : w.ownsMap Tryz.prog k R b n D) (hn : n < maxLen) (key val : Value) (kl : Lit) (hx : a.eval x = key) (hv : a.eval v = val) (hkey : keyOf Tryz.prog k key = some kl)
  (d : DataW Unit) (ps : List MemPlace) (hval : R val = some (d, ps))
  (hK : ∀ w', w'.ownsMap Tryz.prog k R b (n + 1) (D.put kl d) → w.grownBy w' (some b) → K (a.put o.dst undef) w') : o.wp Tryz.prog a w K Q := by
 obtain ⟨w', hrun, r1, r2⟩ := hown.update Kd ht hn hkey hval
 unfold Oper.wp
 simp [execOp, hop, hm, hx, hv, hrun, Result.andThen]
 exact hK w' r1 r2
theorem IfP.grow {w W w3 : World} {p : Nat} {S : List Nat} {st : StI} (h : IfP w p S st) {AM : Option Addr} {cM n : Nat} (hc0 : w.cell? ⟨p, 0, none⟩ = some (.slice AM n cM)) (q : Prt) (hT : Tch w W []) {v1 : Value} {xs : List Value}
  (hxs : ∀ lv : List Value, w.ownsRow 0 134 5 (.slice AM n cM) n (mmC st.1 lv) → xs = mmC st.1 lv ++ (prC q ++ [.slice none 0 0]))
  (hown : w3.ownsRow 0 134 5 v1 (n + 1) xs) (hg : W.grownBy w3 (Value.slice AM n cM).ownBlock) (hv : v1.ownBlock = (Value.slice AM n cM).ownBlock ∨ v1.ownBlock = some W.heap.size) (hinv : InvI (st.1 ++ [q], st.2 ++ [[]])) :
  ∃ (m : Nat) (D : DataW Unit) (A1 : Option Addr) (c1 : Nat), v1 = .slice A1 (n + 1) c1 ∧ (∃ u, w3.cell? ⟨p, 0, none⟩ = some u) ∧ w3.frozen? ⟨p, 0, none⟩ = false ∧ (w3.setCell ⟨p, 0, none⟩ v1).cell? ⟨p, 0, none⟩ = some v1 ∧ (w3.setCell ⟨p, 0, none⟩ v1).cell? ⟨p, 1, none⟩ = some (.map (some m)) ∧ p ≠ m ∧
   (w3.setCell ⟨p, 0, none⟩ v1).ownsMap Tryz.prog 9 (plainElem Tryz.prog 3) m n D ∧ NmIs D st.1 ∧ n ≤ 8 ∧
   ∀ (w5 : World) (D' : DataW Unit), (w3.setCell ⟨p, 0, none⟩ v1).grownBy w5 (some m) → w5.ownsMap Tryz.prog 9 (plainElem Tryz.prog 3) m (n + 1) D' → NmIs D' (st.1 ++ [q]) → ∃ S', IfP w5 p S' (st.1 ++ [q], st.2 ++ [[]]) ∧ Goes w w5 S S' := by
 have hlt := h.lt
 have hf := h.few
 obtain ⟨AM', cM', m, lv, D, rfl, h2, h3, h4, h5, h6, h7, h8, h9⟩ := h
 rw [(h3.cell 0).trans (show _ = some (Value.slice AM' st.1.length cM') by rfl)] at hc0
 injection hc0 with hc
 injection hc with hc hcn hcc
 subst hc hcc hcn
 obtain rfl := hxs lv h4
 obtain ⟨A1, c1, rfl, -, -⟩ := own_sl hown
 have hnd := h2
 rw [List.nodup_cons, List.nodup_cons, List.nodup_append] at hnd
 obtain ⟨n1, n2, n3, n4, n5⟩ := hnd
 have hin : ∀ s, s ∈ obI (.slice AM' st.1.length cM') → s ∈ p :: m :: (obI (.slice AM' st.1.length cM') ++ lv.flatMap obI) := fun s hs => by simp [hs]
 have hob : ∀ s ∈ obI (.slice A1 (st.1.length + 1) c1), s ∈ obI (.slice AM' st.1.length cM') ∨ w.heap.size ≤ s := fun s hs => by
  have h10 := hT.size
  rcases hv with hv | hv
  ·exact .inl (by unfold obI at hs ⊢; rw [← hv]; exact hs)
  ·unfold obI at hs
   rw [hv] at hs
   have := List.mem_singleton.1 hs
   exact .inr (by omega)
 have hT3 : Tch W w3 (obI (.slice AM' st.1.length cM')) := Tch.of_grown' hg (fun g e => by rw [obI_some e]; simp)
 have pn : p ∉ obI (.slice AM' st.1.length cM') := fun hm => n1 (List.mem_cons_of_mem _ (List.mem_append_left _ hm))
 have mn : m ∉ obI (.slice AM' st.1.length cM') := fun hm => n2 (List.mem_append_left _ hm)
 have pm : p ≠ m := fun x => n1 (by simp [x])
 have hpl : p < w.heap.size := hlt p (by simp)
 have hml : m < w.heap.size := hlt m (by simp)
 have b3 := hT3.blk (hT.blk h3 (by simp)) pn
 have hTp : Tch w3 (w3.setCell ⟨p, 0, none⟩ (.slice A1 (st.1.length + 1) c1)) [p] := (Tch.refl w3 [p]).set_ (p := ⟨p, 0, none⟩) (by simp) _
 have b4 := b3.set_ 0 (.slice A1 (st.1.length + 1) c1)
 have m4 := map_tch (map_tch (map_tch h5 hT (by simp)) hT3 mn) hTp (by simpa using fun x => pm x.symm)
 have r4 := own_tch hown hTp (fun s hs hm => by
  have := List.mem_singleton.1 hm
  rcases hob s hs with k | k
  ·exact pn (by rw [← this]; exact k)
  ·omega)
 refine ⟨m, D, A1, c1, rfl, ⟨_, b3.cell 0⟩, b3.frozen 0, (b4.cell 0).trans rfl, (b4.cell 1).trans rfl, pm, m4, h6, hf, fun w5 D' hg5 hM5 hN5 => ?_⟩
 have hT5 : Tch (w3.setCell ⟨p, 0, none⟩ (.slice A1 (st.1.length + 1) c1)) w5 [m] := Tch.of_grown hg5 (by simp)
 have hl1 : (st.1 ++ [q]).length = st.1.length + 1 := by simp
 have hfm : (lv ++ [Value.slice none 0 0]).flatMap obI = lv.flatMap obI := by simp [obI, Value.ownBlock]
 refine ⟨p :: m :: (obI (.slice A1 (st.1.length + 1) c1) ++ lv.flatMap obI), ⟨A1, c1, m, lv ++ [.slice none 0 0], D', by simp only [hl1, hfm], ?_, ?_, ?_, ?_, hN5, by simp [h7], fun j l hj => ?_, hinv⟩, ⟨?_, fun s hs => ?_⟩⟩
 ·rw [List.nodup_cons, List.nodup_cons, List.nodup_append]
  refine ⟨fun hm => ?_, fun hm => ?_, obI_nodup _, n4, fun a ha b hb e => ?_⟩
  ·rcases List.mem_cons.1 hm with k | k
   ·exact pm k
   rcases List.mem_append.1 k with k | k
   ·rcases hob p k with k | k
    ·exact pn k
    ·omega
   ·exact n1 (List.mem_cons_of_mem _ (List.mem_append_right _ k))
  ·rcases List.mem_append.1 hm with k | k
   ·rcases hob m k with k | k
    ·exact mn k
    ·omega
   ·exact n2 (List.mem_append_right _ k)
  ·rcases hob a ha with k | k
   ·exact n5 a k b hb e
   ·have := hlt b (List.mem_cons_of_mem _ (List.mem_cons_of_mem _ (List.mem_append_right _ hb)))
    omega
 ·simp only [hl1]
  exact hT5.blk b4 (by simpa using pm)
 ·simp only [hl1]
  rw [mm_app h7]
  exact own_tch r4 hT5 (fun s hs hm => by
   have := List.mem_singleton.1 hm
   rcases hob s hs with k | k
   ·exact mn (by rw [← this]; exact k)
   ·omega)
 ·simp only [hl1]; exact hM5
 ·have hj : (st.2 ++ [[]])[j]? = some l := hj
  rcases Nat.lt_or_ge j st.2.length with hjl | hjl
  ·rw [List.getElem?_append_left hjl] at hj
   obtain ⟨A2, c2, e2, ho2⟩ := h8 j l hj
   have hm2 : ∀ s ∈ obI (.slice A2 l.length c2), s ∈ lv.flatMap obI := fun s hs => List.mem_flatMap.2 ⟨_, List.mem_of_getElem? e2, hs⟩
   refine ⟨A2, c2, by rw [List.getElem?_append_left (List.getElem?_eq_some_iff.1 e2).1]; exact e2, own_tch (own_tch (own_tch (own_tch ho2 hT (fun s _ => by simp)) hT3 (fun s hs hm => n5 s hm s (hm2 s hs) rfl)) hTp (fun s hs hm => ?_)) hT5 (fun s hs hm => ?_)⟩
   ·rw [List.mem_singleton.1 hm] at hs
    exact n1 (List.mem_cons_of_mem _ (List.mem_append_right _ (hm2 _ hs)))
   ·rw [List.mem_singleton.1 hm] at hs
    exact n2 (List.mem_append_right _ (hm2 _ hs))
  ·have hjl2 : j < (st.2 ++ [[]]).length := (List.getElem?_eq_some_iff.1 hj).1
   have hj2 : j = st.2.length := by simp at hjl2; omega
   subst hj2
   rw [List.getElem?_append_right (Nat.le_refl _), Nat.sub_self] at hj
   simp at hj
   subst hj
   refine ⟨none, 0, ?_, ⟨rfl, .inl ⟨rfl, rfl⟩⟩⟩
   have e3 : st.2.length = lv.length := by rw [h7]; exact h9.len.symm
   rw [e3, List.getElem?_append_right (Nat.le_refl _), Nat.sub_self]
   rfl
 ·exact (((hT.mono (by simp)).trans (hT3.mono hin)).trans (hTp.mono (by simp))).trans (hT5.mono (by simp))
 ·rcases List.mem_cons.1 hs with k | k
  ·exact .inl (by rw [k]; simp)
  rcases List.mem_cons.1 k with k | k
  ·exact .inl (by rw [k]; simp)
  rcases List.mem_append.1 k with k | k
  ·rcases hob s k with k | k
   ·exact .inl (hin s k)
   ·exact .inr k
  ·exact .inl (List.mem_cons_of_mem _ (List.mem_cons_of_mem _ (List.mem_append_right _ k)))
theorem i64w {x : Nat} (h : x ≤ 100) : (Lit.int .i64 (x : Int)).wf = true := by
 simp [Lit.wf, IntKind.min, IntKind.max, IntKind.bits, IntKind.signed]; omega
theorem addP_bad (p : Nat) (S : List Nat) (st : StI) (nm : ByteArray) (mac mtu : Int) (hm : 0 ≤ mac ∧ mac ≤ 18446744073709551615) (hb : nameOk nm = false ∨ namedI st.1 nm ≠ 0 ∨ (macOk mac && mtuOk mtu) = false ∨ 8 ≤ st.1.length) (w : World) (h : IfP w p S st) :
    Calls Tryz.prog 37 #[.pointer (some ⟨p, 0, none⟩), .string nm, .int .u64 mac, .int .i64 mtu] w fun e w' => e = .returned (.tuple #[.int .i64 (addI st nm mac mtu).2.1, .int .i64 (addI st nm mac mtu).2.2]) ∧ (addI st nm mac mtu).1 = st ∧ Tch w w' [] := by
  have HNa := lH (isName_any nm w)
  obtain ⟨N0, hN0⟩ : ∃ b, nameOk nm = b := ⟨_, rfl⟩
  rw [hN0] at HNa hb
  cases N0 with
  | false =>
    have HE : Hid (addI st nm mac mtu = (st, 0, 130)) := lH (by unfold addI; rw [if_pos (.inl hN0)])
    clear h hm hb hN0
    go_enter Tryz.func37, Tryz.ntmps37
    go_wp2_with fail
    refine cZm HNa.out ?_
    rintro e w1 ⟨rfl, hT⟩
    have HT := lH hT
    clear hT
    go_wp2
    go_ret2
    rw [HE.out]
    exact ⟨rfl, rfl, HT.out⟩
  | true =>
    have hs8 : nm.size ≤ 8 := ((nameOk_iff).1 hN0).1.2
    have HNd := lH (fun W (hT : Tch w W []) => pnamed_any p S st nm (by omega) W (h.tch hT (by simp)))
    obtain ⟨N1, hN1⟩ : ∃ k, namedI st.1 nm = k := ⟨_, rfl⟩
    rw [hN1] at HNd hb
    by_cases h1 : N1 = 0
    · subst h1
      have b1 : (((0 : Nat) : Int) != 0) = false := by rfl
      have HMc := lH (fun W => macI_any mac hm W)
      obtain ⟨AM, cM, m, D, c0, -, -, -, hpl⟩ := h.head
      obtain ⟨C, hC⟩ : ∃ b, macOk mac = b := ⟨_, rfl⟩
      rw [hC] at HMc hb
      have HC0 : Hid (∀ W, Tch w W [] → W.cell? ⟨p, 0, none⟩ = some (.slice AM st.1.length cM)) := lH (fun W hT => (hT.cell (p := ⟨p, 0, none⟩) hpl (by simp)).trans c0)
      by_cases h2 : (C && mtuOk mtu) = false
      · have HE : Hid (addI st nm mac mtu = (st, 0, 1)) := lH (by
          unfold addI
          rw [if_neg (fun x => by rcases x with x | x; (rw [hN0] at x; cases x); exact x hN1), if_pos (by rw [hC]; exact h2)])
        have hcs : C = false ∨ mtu < 68 ∨ 1500 < mtu := by
          cases C with
          | false => exact .inl rfl
          | true =>
            rw [Bool.true_and] at h2
            unfold mtuOk at h2
            have := of_decide_eq_false h2
            omega
        clear h hm hb hN0 hs8 hN1 hC h2 c0 hpl HC0
        go_enter Tryz.func37, Tryz.ntmps37
        go_wp2_with fail
        refine cZm HNa.out ?_
        rintro e w1 ⟨rfl, hT⟩
        have HT := lH hT
        clear hT
        go_wp2_with fail
        refine cZm (HNd.out _ HT.out) ?_
        rintro e w2 ⟨rfl, rfl⟩
        go_wp2_with fail
        refine cZm (HMc.out _) ?_
        rintro e w2 ⟨rfl, rfl⟩
        cases C with
        | false =>
          clear hcs
          go_wp2
          go_ret2
          rw [HE.out]
          exact ⟨rfl, rfl, HT.out⟩
        | true =>
          have hcs : mtu < 68 ∨ 1500 < mtu := by rcases hcs with h | h; cases h; exact h
          by_cases h3 : mtu < 68
          · clear hcs
            go_wp2
            go_ret2
            rw [HE.out]
            exact ⟨rfl, rfl, HT.out⟩
          · have h4 : 1500 < mtu := by rcases hcs with h | h; exact absurd h h3; exact h
            clear hcs
            go_wp2
            go_ret2
            rw [HE.out]
            exact ⟨rfl, rfl, HT.out⟩
      · have h8 : 8 ≤ st.1.length := by
          rcases hb with h | h | h | h
          · cases h
          · exact absurd rfl h
          · exact absurd h h2
          · exact h
        have hn8 := h.few
        have HE : Hid (addI st nm mac mtu = (st, 0, 131)) := lH (by
          unfold addI
          rw [if_neg (fun x => by rcases x with x | x; (rw [hN0] at x; cases x); exact x hN1), if_neg (by rw [hC]; exact h2), if_pos h8])
        have hC1 : C = true ∧ ¬ mtu < 68 ∧ ¬ 1500 < mtu := by
          cases C with
          | false => exact absurd rfl h2
          | true =>
            rw [Bool.true_and, Bool.not_eq_false] at h2
            unfold mtuOk at h2
            have := of_decide_eq_true h2
            exact ⟨rfl, by omega, by omega⟩
        obtain ⟨rfl, m1, m2⟩ := hC1
        obtain ⟨n, hn⟩ : ∃ n, st.1.length = n := ⟨_, rfl⟩
        rw [hn] at HC0 h8 hn8
        have b8 : ((n : Int) == 8) = true := by have : n = 8 := by omega
                                                subst this; rfl
        clear h hm hb hN0 hs8 hN1 hC h2 c0 hpl h8 hn8 hn
        go_enter Tryz.func37, Tryz.ntmps37
        go_wp2_with fail
        refine cZm HNa.out ?_
        rintro e w1 ⟨rfl, hT⟩
        have HT := lH hT
        have c1 := HC0.out w1 hT
        clear hT
        go_wp2_with fail
        refine cZm (HNd.out _ HT.out) ?_
        rintro e w2 ⟨rfl, rfl⟩
        go_wp2_with fail
        refine cZm (HMc.out _) ?_
        rintro e w2 ⟨rfl, rfl⟩
        go_wp2
        go_ret2
        rw [HE.out]
        exact ⟨rfl, rfl, HT.out⟩
    · have HE : Hid (addI st nm mac mtu = (st, 0, 130)) := lH (by unfold addI; rw [if_pos (.inr (by rw [hN1]; exact h1))])
      have b1 : ((N1 : Int) != 0) = true := by simpa using h1
      clear h hm hb hN0 hs8 hN1 h1
      go_enter Tryz.func37, Tryz.ntmps37
      go_wp2_with fail
      refine cZm HNa.out ?_
      rintro e w1 ⟨rfl, hT⟩
      have HT := lH hT
      clear hT
      go_wp2_with fail
      refine cZm (HNd.out _ HT.out) ?_
      rintro e w2 ⟨rfl, rfl⟩
      go_wp2
      go_ret2
      rw [HE.out]
      exact ⟨rfl, rfl, HT.out⟩
end Go.Proofs.YtgfkmgbcajdcdaaGreatDoor.Ifs
