/-
  Several texts in one: IpN, IpI, ShelfC, SCl.
-/
import Derived.Test.YtgfkmgbcajdcdaaGreatDoorKaw
import Derived.Test.YtgfkmgbcajdcdaaGreatDoorKav
import Derived.Test.YtgfkmgbcajdcdaaGreatDoorKal
import Derived.Laws.RangeAny
import Derived.Laws.RangeString
import Derived.Carry
import Derived.Shelf.LaysM
import Derived.Shelf.Strconv.Clone
import Derived.Test.YtgfkmgbcajdcdaaGreatDoorProg
import Derived.Test.YtgfkmgbcajdcdaaGreatDoorKaa
import Derived.Lib.Hide
namespace Go.Proofs.YtgfkmgbcajdcdaaGreatDoor.Ifs
open Go.RowKit Go.Maps
set_option linter.unusedVariables false

theorem filter_erase {a : AdI} : ∀ {l : List Loc} {i : Nat} {x : Loc}, (l.map (·.1)).Nodup → l[i]? = some x → x.1 = a → l.filter (fun y => !isA a y) = l.eraseIdx i
  | [], i, x, _, hx, _ => by simp at hx
  | y :: r, 0, x, hn, hx, he => by
    simp at hx
    subst hx
    rw [List.map_cons, List.nodup_cons] at hn
    have h1 : isA a y = true := decide_eq_true he
    rw [List.filter_cons, h1, List.eraseIdx_cons_zero]
    simp only [Bool.not_true, Bool.false_eq_true, if_false]
    rw [List.filter_eq_self]
    intro z hz
    have : isA a z = false := decide_eq_false (fun e => hn.1 (List.mem_map.2 ⟨z, hz, e.trans he.symm⟩))
    rw [this]; rfl
  | y :: r, i + 1, x, hn, hx, he => by
    rw [List.map_cons, List.nodup_cons] at hn
    have hx : r[i]? = some x := by simpa using hx
    have h1 : isA a y = false := decide_eq_false (fun e => hn.1 (List.mem_map.2 ⟨x, List.mem_of_getElem? hx, he.trans e.symm⟩))
    rw [List.filter_cons, h1, List.eraseIdx_cons_succ, filter_erase hn.2 hx he]
    rfl
set_option maxRecDepth 100000 in
set_option maxHeartbeats 4000000 in
theorem dropP (p : Nat) (S : List Nat) (st : StI) (port : Int) (a : AdI) (ha : N64 a.2.1 ∧ N64 a.2.2) (hi : I64 port) (w : World) (h : IfP w p S st) :
    Calls Tryz.prog 128 #[.pointer (some ⟨p, 0, none⟩), .int .i64 port, adV a] w fun e w' => e = .returned (.int .i64 (dropI st port a).2) ∧ ∃ S', IfP w' p S' (dropI st port a).1 ∧ Goes w w' S S' := by
  have hinv := h.inv.drop port a
  have hone := h.inv.one
  have HP0 := Lib.hid h
  have HFd := Lib.hid (fun q A c (l : List Loc) (hl : l.length ≤ 8) W hO => find_any q a A l.length c l rfl (by omega) W hO)
  obtain ⟨s, ah, al⟩ := a
  obtain ⟨xb, hxb⟩ : ∃ xb, w.heap.size = xb := ⟨_, rfl⟩
  obtain ⟨W0, hW0⟩ : ∃ W, w.alloc (.cells #[.bool s, .int .u64 (ah : Int), .int .u64 (al : Int)] 28) = W := ⟨_, rfl⟩
  have hX : Blk W0 xb 28 #[.bool s, .int .u64 (ah : Int), .int .u64 (al : Int)] := hW0 ▸ hxb ▸ Blk.new _ _ _
  have HT0 : Hid (Tch w W0 []) := Lib.hid (hW0 ▸ (Tch.refl w []).alloc _)
  have hD0 := h.tch HT0.out (by simp)
  have HW0 := Lib.hid (And.intro hW0 hxb)
  have HX := Lib.hid hX
  cases hth : thereI st port with
  | false =>
    have HMb := Lib.hid (pmember_no p S st port hth W0 hD0)
    have HE : Hid (dropI st port (s, ah, al) = (st, 132)) := Lib.hid (by unfold dropI; rw [if_pos hth])
    clear h hinv hone hX hD0 hW0 hxb hth hi
    go_enter Tryz.func128, Tryz.ntmps128
    go_wp2_with fail
    rw [HW0.out.1, HW0.out.2]
    refine Calls.mono HMb.out ?_
    rintro e w' ⟨rfl, rfl⟩
    go_wp2
    go_ret
    rw [HE.out]
    exact ⟨rfl, S, HP0.out.tch HT0.out (by simp), Goes.of_tch (HT0.out.mono (by simp))⟩
  | true =>
    obtain ⟨gM, cM, c, i, n, A, q, l, c0, hq, hl, x0, x1, x2, x3, x4, hO, hl8, hpl, hgl, hfz, hgS, hnn, hn8, hin, hpe, hix⟩ := hD0.is hth
    have HMb := Lib.hid (member_at p gM n cM i port hn8 hin hpe W0 c0)
    obtain ⟨-, -, eLoc, -⟩ := there_idx hix hq hl hth
    have hnd := nodup_in hone hl
    have HNo : Hid (fndI (isA (s, ah, al)) l = 0 → dropI st port (s, ah, al) = (st, 132)) := Lib.hid (fun e => by
      unfold dropI
      rw [if_neg (by rw [hth]; simp), eLoc, if_pos (by rw [List.any_eq_false]; intro x hx; obtain ⟨j, hj⟩ := List.mem_iff_getElem?.1 hx; simpa using fndI_zero.1 e j x hj)])
    have HYes : Hid (∀ k, fndI (isA (s, ah, al)) l = k + 1 → k < l.length ∧ dropI st port (s, ah, al) = ((st.1, st.2.set i (l.eraseIdx k)), 0)) := Lib.hid (fun k e => by
      obtain ⟨⟨x, hx, hp⟩, -⟩ := fndI_succ.1 e
      have hx1 : x.1 = (s, ah, al) := of_decide_eq_true hp
      refine ⟨(List.getElem?_eq_some_iff.1 hx).1, ?_⟩
      unfold dropI
      rw [if_neg (by rw [hth]; simp), eLoc, if_neg (by rw [Bool.not_eq_false]; exact List.any_eq_true.2 ⟨x, List.mem_of_getElem? hx, hp⟩), hix, modI_set hl, filter_erase hnd hx hx1])
    have HInv := Lib.hid hinv
    have HRd : Hid (∀ W, Tch W0 W [] → W.cell? ⟨gM, i * 5, none⟩ = some (.string q.1) ∧ W.cell? ⟨gM, i * 5 + 1, none⟩ = some (.int .u64 q.2.1) ∧ W.cell? ⟨gM, i * 5 + 2, none⟩ = some (.int .i64 q.2.2.1) ∧ W.cell? ⟨gM, i * 5 + 3, none⟩ = some (.bool q.2.2.2) ∧ W.cell? ⟨gM, i * 5 + 4, none⟩ = some (.slice A l.length c) ∧ W.cell? ⟨xb, 0, none⟩ = some (.bool s) ∧ W.cell? ⟨xb, 1, none⟩ = some (.int .u64 (ah : Int)) ∧ W.cell? ⟨xb, 2, none⟩ = some (.int .u64 (al : Int))) :=
      Lib.hid (fun W hT => ⟨(hT.cell (p := ⟨gM, i * 5, none⟩) hgl (by simp)).trans x0, (hT.cell (p := ⟨gM, i * 5 + 1, none⟩) hgl (by simp)).trans x1, (hT.cell (p := ⟨gM, i * 5 + 2, none⟩) hgl (by simp)).trans x2, (hT.cell (p := ⟨gM, i * 5 + 3, none⟩) hgl (by simp)).trans x3, (hT.cell (p := ⟨gM, i * 5 + 4, none⟩) hgl (by simp)).trans x4, (hT.blk HX.out (by simp)).c3⟩)
    have HOw : Hid (∀ W, Tch W0 W [] → W.ownsRow 0 202 4 (.slice A l.length c) l.length (l.flatMap lcC)) := Lib.hid (fun W hT => own_tch hO hT (by simp))
    have HF := Lib.hid (fun W (hT : Tch W0 W []) => HFd.out q A c l hl8 W (HOw.out W hT))
    have hpS : p < w.heap.size := h.lt p h.pin
    have HC0 : Hid (w.cell? ⟨p, 0, none⟩ = some (.slice (some ⟨gM, 0, none⟩) n cM)) := Lib.hid ((HT0.out.cell (p := ⟨p, 0, none⟩) hpS (by simp)).symm.trans c0)
    have HC4 : Hid (w.cell? ⟨gM, i * 5 + 4, none⟩ = some (.slice A l.length c)) := Lib.hid ((HT0.out.cell (p := ⟨gM, i * 5 + 4, none⟩) (h.lt gM hgS) (by simp)).symm.trans x4)
    have HIn : Hid (i < st.1.length) := Lib.hid (by omega)
    obtain ⟨m, hm⟩ : ∃ m, l.length = m := ⟨_, rfl⟩
    rw [hm] at HRd HOw HF HC4 hl8
    have HLm := Lib.hid hm
    have HL8 := Lib.hid hl8
    obtain ⟨z, hz⟩ : ∃ z : Int, ((fndI (isA (s, ah, al)) l : Nat) : Int) - 1 = z := ⟨_, rfl⟩
    rw [hz] at HF
    have HZ := Lib.hid hz
    obtain ⟨qn, qm, qt, qu⟩ := q
    have HRx := Lib.hid (HRd.out W0 (Tch.refl _ _))
    have HTd : Hid (Tch W0 W0.drew []) := Lib.hid ((Tch.refl W0 []).drew)
    clear h hinv hone hX hD0 hW0 hxb hth hi c0 hq hl x0 x1 x2 x3 x4 hO hpl hgl hfz hgS hnn hn8 hin hpe hix eLoc hnd hpS hm hz HFd
    go_enter Tryz.func128, Tryz.ntmps128
    go_wp2_with fail
    rw [HW0.out.1, HW0.out.2]
    refine Calls.mono HMb.out ?_
    rintro e w' ⟨rfl, rfl⟩
    go_wp2_with fail
    refine wp_region_held_drew (S := (fun W => W.cell? ⟨gM, i * 5, none⟩ = some (.string qn) ∧ W.cell? ⟨gM, i * 5 + 1, none⟩ = some (.int .u64 qm) ∧ W.cell? ⟨gM, i * 5 + 2, none⟩ = some (.int .i64 qt) ∧ W.cell? ⟨gM, i * 5 + 3, none⟩ = some (.bool qu) ∧ W.cell? ⟨gM, i * 5 + 4, none⟩ = some (.slice A m c) ∧ W.cell? ⟨xb, 0, none⟩ = some (.bool s) ∧ W.cell? ⟨xb, 1, none⟩ = some (.int .u64 (ah : Int)) ∧ W.cell? ⟨xb, 2, none⟩ = some (.int .u64 (al : Int)))) (by kernel_rfl) ?_ (fun hHeld => ?_)
    · (first | exact HRx.out | exact HRd.out _ HT5.out)
    refine wpAnyH_take (i := 0) (oi := { dst := some 14, op := Go.Op.move (Go.Operand.tmp 7), type := 130, pos := "iface.go:128", after := #[], guard := none }) (v := ?_) rfl (by kernel_rfl) (by kernel_rfl) (by kernel_rfl) (fun _ _ _ h => h) (Or.inl ⟨by rfl, ?_⟩) (by assumption) ?_
    rotate_left
    · intro w hSw
      (try dsimp only at hSw)
      go_simp
      try (with_reducible rfl)
    try simp only [Act.put, List.setIfInBounds_toArray, List.set_cons_zero, List.set_cons_succ]
    refine wpAnyH_take (i := 1) (oi := { dst := some 15, op := Go.Op.nilCheck (Go.Operand.tmp 14), type := 0, pos := "iface.go:128", after := #[{ on := 0, ground := Go.Ground.data }], guard := none }) (v := ?_) rfl (by kernel_rfl) (by kernel_rfl) (by kernel_rfl) (fun _ _ _ h => h) (Or.inl ⟨by rfl, ?_⟩) (by assumption) ?_
    rotate_left
    · intro w hSw
      (try dsimp only at hSw)
      go_simp
      try (with_reducible rfl)
    try simp only [Act.put, List.setIfInBounds_toArray, List.set_cons_zero, List.set_cons_succ]
    refine wpAnyH_take (i := 2) (oi := { dst := some 16, op := Go.Op.load 134 (Go.Operand.tmp 15), type := 134, pos := "iface.go:128", after := #[{ on := 1, ground := Go.Ground.data }], guard := none }) (v := ?_) rfl (by kernel_rfl) (by kernel_rfl) (by kernel_rfl) (fun _ _ _ h => h) (Or.inl ⟨by rfl, ?_⟩) (by assumption) ?_
    rotate_left
    · intro w hSw
      (try dsimp only at hSw)
      go_simp
      try (with_reducible rfl)
    try simp only [Act.put, List.setIfInBounds_toArray, List.set_cons_zero, List.set_cons_succ]
    refine wpAnyH_take (i := 3) (oi := { dst := some 17, op := Go.Op.load 28 (Go.Operand.tmp 5), type := 28, pos := "iface.go:128", after := #[], guard := none }) (v := ?_) rfl (by kernel_rfl) (by kernel_rfl) (by kernel_rfl) (fun _ _ _ h => h) (Or.inl ⟨by rfl, ?_⟩) (by assumption) ?_
    rotate_left
    · intro w hSw
      (try dsimp only at hSw)
      go_simp
      try (with_reducible rfl)
    try simp only [Act.put, List.setIfInBounds_toArray, List.set_cons_zero, List.set_cons_succ]
    refine wpAnyH_ready (rs := [4]) (by kernel_rfl) (by simp) ?_
    refine AllReadyH.cons (o := { dst := some 18, op := Go.Op.call { callee := Go.Callee.value (Go.Operand.func 169), args := #[Go.Operand.tmp 16, Go.Operand.tmp 17], argTypes := #[130, 28] }, type := 3, pos := "iface.go:128", after := #[{ on := 2, ground := Go.Ground.data }, { on := 3, ground := Go.Ground.data }], guard := none }) rfl (fun K hK => ?_) AllReadyH.nil
    go_simp
    (go_at_call 169; (with_reducible refine Calls.mono (HF.out _ HTd.out) ?_); rintro e w5 ⟨rfl, hT'⟩; have HT5 := Lib.hid (HTd.out.trans hT'); clear hT')
    go_wp2_with fail
    refine hK.out _ _ ?_ (fun hHeld => ?_)
    · (first | exact HRx.out | exact HRd.out _ HT5.out)
    clear hK K
    try simp only [Act.put, List.setIfInBounds_toArray, List.set_cons_zero, List.set_cons_succ]
    refine wpAnyH_take (i := 5) (oi := { dst := some 8, op := Go.Op.assign (Go.Operand.tmp 18), type := 3, pos := "iface.go:128", after := #[{ on := 4, ground := Go.Ground.data }, { on := 4, ground := Go.Ground.chain }, { on := 0, ground := Go.Ground.phase }, { on := 1, ground := Go.Ground.phase }, { on := 2, ground := Go.Ground.phase }, { on := 3, ground := Go.Ground.phase }, { on := 4, ground := Go.Ground.phase }], guard := none }) (v := ?_) rfl (by kernel_rfl) (by kernel_rfl) (by kernel_rfl) (fun _ _ _ h => h) (Or.inl ⟨by rfl, ?_⟩) (by assumption) ?_
    rotate_left
    · intro w hSw
      (try dsimp only at hSw)
      go_simp
      try (with_reducible rfl)
    try simp only [Act.put, List.setIfInBounds_toArray, List.set_cons_zero, List.set_cons_succ]
    refine wpAnyH_done (by kernel_rfl) ?_ _
    obtain ⟨-, -, -, -, y4, -, -, -⟩ := HRd.out w5 HT5.out
    by_cases hz0 : z < 0
    · have HE := Lib.hid (HNo.out (by have := HZ.out; omega))
      clear y4
      go_wp2
      go_ret
      rw [HE.out]
      exact ⟨rfl, S, HP0.out.tch (HT0.out.trans HT5.out) (by simp), Goes.of_tch ((HT0.out.trans HT5.out).mono (by simp))⟩
    · obtain ⟨k, rfl⟩ : ∃ k : Nat, z = (k : Int) := ⟨z.toNat, by omega⟩
      obtain ⟨hk, hE⟩ := HYes.out k (by have := HZ.out; omega)
      rw [HLm.out] at hk
      have HE := Lib.hid hE
      have o5 := HOw.out w5 HT5.out
      obtain ⟨gl, rfl⟩ := slice_some o5 (by omega)
      have HDl := Lib.hid (delete_lc gl m c k l HLm.out (by omega) hk w5 o5)
      have HInv2 : Hid (InvI (st.1, st.2.set i (l.eraseIdx k))) := Lib.hid (by have h1 := HInv.out; rw [hE] at h1; exact h1)
      have HLe : Hid ((l.eraseIdx k).length = m - 1) := Lib.hid (by rw [List.length_eraseIdx, HLm.out, if_pos hk])
      have j1 : IntKind.i64.wrap ((k : Int) + 1) = (k : Int) + 1 := by rw [IntKind.wrap_i64]; omega
      clear hE o5
      go_wp2_with fail
      refine Calls.mono HDl.out ?_
      rintro e w7 ⟨rfl, hown, hT7⟩
      obtain ⟨g1, ⟨u7, k7⟩, f7, S', hI7, hG7⟩ := IfP.inner HP0.out HIn.out HC0.out HC4.out (HT0.out.trans HT5.out) (show Tch w5 w7 (obI (.slice (some ⟨gl, 0, none⟩) m c)) from hT7) (k' := m - 1) HLe.out hown (fun s hs => .inl hs) HInv2.out
      have HI7 := Lib.hid hI7
      have HG7 := Lib.hid hG7
      clear hown hT7 g1 hI7 hG7 y4 hk
      go_wp2
      go_ret
      rw [HE.out]
      exact ⟨rfl, S', HI7.out, HG7.out⟩
end Go.Proofs.YtgfkmgbcajdcdaaGreatDoor.Ifs

namespace Go.Proofs.YtgfkmgbcajdcdaaGreatDoor.Ifs
open Go.RowKit Go.Maps
set_option linter.unusedVariables false

set_option maxHeartbeats 1000000 in
theorem newP (w : World) : Calls Tryz.prog 35 #[] w fun e w' => ∃ p S, e = .returned (.pointer (some ⟨p, 0, none⟩)) ∧ IfP w' p S ([], []) ∧ Below w.heap.size w w' ∧ ∀ s ∈ S, w.heap.size ≤ s := by
  have hM := World.ownsMap_made (H := Unit) w Tryz.prog 9 (plainElem Tryz.prog 3)
  have hB := Blk.new (w.alloc (.map #[] 0)) 155 #[.slice none 0 0, .map (some w.heap.size)]
  rw [World.size_alloc] at hB
  have HI : Hid (IfP ((w.alloc (.map #[] 0)).alloc (.cells #[.slice none 0 0, .map (some w.heap.size)] 155)) (w.heap.size + 1) [w.heap.size + 1, w.heap.size] ([], [])) :=
    Lib.hid ⟨none, 0, w.heap.size, [], .map [], rfl, by simp, hB, ⟨rfl, .inl ⟨rfl, rfl⟩⟩, hM.alloc _, NmIs.nil, rfl, fun i l hl => by simp at hl, InvI.nil⟩
  have hmm := @run_makeMap Tryz.prog
  clear hM hB
  go_enter Tryz.func35, Tryz.ntmps35
  go_wp2
  go_ret
  exact ⟨_, _, rfl, HI.out, ((Below.refl _ w).alloc (Nat.le_refl _) _).alloc (by simp) _, by simp⟩
set_option maxHeartbeats 1000000 in
theorem letter_any (r : Int) (w : World) : Calls Tryz.prog 117 #[.int .i32 r] w fun e w' => e = .returned (.bool (decide (97 ≤ r ∧ r ≤ 122))) ∧ w = w' := by
  obtain ⟨L, hL⟩ : ∃ L, decide (97 ≤ r ∧ r ≤ 122) = L := ⟨_, rfl⟩
  rw [hL]
  by_cases h1 : 97 ≤ r
  · by_cases h2 : r ≤ 122
    · have HE : Hid (L = true) := Lib.hid (hL.symm.trans (decide_eq_true (And.intro h1 h2)))
      clear hL
      go_enter Tryz.func117, Tryz.ntmps117
      go_wp2
      go_ret
      exact ⟨by rw [HE.out]; rfl, rfl⟩
    · have HE : Hid (L = false) := Lib.hid (hL.symm.trans (decide_eq_false (fun x => h2 x.2)))
      clear hL
      go_enter Tryz.func117, Tryz.ntmps117
      go_wp2
      go_ret
      exact ⟨by rw [HE.out]; rfl, rfl⟩
  · have HE : Hid (L = false) := Lib.hid (hL.symm.trans (decide_eq_false (fun x => h1 x.1)))
    clear hL
    go_enter Tryz.func117, Tryz.ntmps117
    go_wp2
    go_ret
    exact ⟨by rw [HE.out]; rfl, rfl⟩
set_option maxHeartbeats 1000000 in
theorem digitI_any (r : Int) (w : World) : Calls Tryz.prog 118 #[.int .i32 r] w fun e w' => e = .returned (.bool (decide (48 ≤ r ∧ r ≤ 57))) ∧ w = w' := by
  obtain ⟨L, hL⟩ : ∃ L, decide (48 ≤ r ∧ r ≤ 57) = L := ⟨_, rfl⟩
  rw [hL]
  by_cases h1 : 48 ≤ r
  · by_cases h2 : r ≤ 57
    · have HE : Hid (L = true) := Lib.hid (hL.symm.trans (decide_eq_true (And.intro h1 h2)))
      clear hL
      go_enter Tryz.func118, Tryz.ntmps118
      go_wp2
      go_ret
      exact ⟨by rw [HE.out]; rfl, rfl⟩
    · have HE : Hid (L = false) := Lib.hid (hL.symm.trans (decide_eq_false (fun x => h2 x.2)))
      clear hL
      go_enter Tryz.func118, Tryz.ntmps118
      go_wp2
      go_ret
      exact ⟨by rw [HE.out]; rfl, rfl⟩
  · have HE : Hid (L = false) := Lib.hid (hL.symm.trans (decide_eq_false (fun x => h1 x.1)))
    clear hL
    go_enter Tryz.func118, Tryz.ntmps118
    go_wp2
    go_ret
    exact ⟨by rw [HE.out]; rfl, rfl⟩
/-- May a byte stand at a place of a name. -/
def okAt (i : Nat) (b : UInt8) : Bool := (decide (97 ≤ b.toNat ∧ b.toNat ≤ 122)) || (decide (i ≠ 0) && decide (48 ≤ b.toNat ∧ b.toNat ≤ 57))
theorem nameOk_def (s : ByteArray) : nameOk s = (decide (1 ≤ s.size ∧ s.size ≤ 8) && (s.data.toList.zipIdx.all fun x => okAt x.2 x.1)) := rfl
theorem zip_all {l : List UInt8} : (l.zipIdx.all fun x => okAt x.2 x.1) = true ↔ ∀ (j : Nat) (b : UInt8), l[j]? = some b → okAt j b = true := by
  rw [List.all_eq_true]
  constructor
  · intro h j b hb
    exact h (b, j) (List.mem_zipIdx_iff_getElem?.2 hb)
  · rintro h ⟨b, j⟩ hm
    exact h j b (List.mem_zipIdx_iff_getElem?.1 hm)
theorem name_yes {s : ByteArray} (h : 1 ≤ s.size ∧ s.size ≤ 8) (ha : ∀ (j : Nat) (b : UInt8), s.data.toList[j]? = some b → okAt j b = true) : nameOk s = true := by
  rw [nameOk_def, decide_eq_true h, zip_all.2 ha]; rfl
theorem name_size {s : ByteArray} (h : ¬ (1 ≤ s.size ∧ s.size ≤ 8)) : nameOk s = false := by
  rw [nameOk_def, decide_eq_false h]; rfl
theorem name_no {s : ByteArray} {j : Nat} {b : UInt8} (hb : s.data.toList[j]? = some b) (h : okAt j b = false) : nameOk s = false := by
  rw [nameOk_def]
  have : (s.data.toList.zipIdx.all fun x => okAt x.2 x.1) = false := by
    rw [Bool.eq_false_iff]
    intro e
    rw [zip_all.1 e j b hb] at h
    cases h
  rw [this, Bool.and_false]
/-- What is asked of the rune at a place that begins there. -/
theorem rune_at (s : ByteArray) (pos : Nat) (hp : pos < s.size) : ∃ (r : Int) (d : Nat) (b : UInt8), Utf8.decode s pos = (r.toNat, d) ∧ 0 ≤ r ∧ r ≤ 2147483647 ∧ s.data.toList[pos]? = some b ∧ okAt pos b = (decide (97 ≤ r ∧ r ≤ 122) || (decide (pos ≠ 0) && decide (48 ≤ r ∧ r ≤ 57))) ∧ (okAt pos b = true → d = 1) := by
  have hle := decode_le s pos
  have hb : s.data.toList[pos]? = some (s[pos]'hp) := by
    rw [Array.getElem?_toList]
    exact Array.getElem?_eq_getElem (xs := s.data) hp
  by_cases ha : (s[pos]'hp).toNat < 128
  · have hd := decode_ascii s pos hp ha
    rw [hd] at hle
    refine ⟨((s[pos]'hp).toNat : Int), 1, _, by rw [hd]; rfl, by omega, by omega, hb, ?_, fun _ => rfl⟩
    unfold okAt
    obtain ⟨x, hx⟩ : ∃ x : Nat, (s[pos]'hp).toNat = x := ⟨_, rfl⟩
    rw [hx]
    have e1 : (97 ≤ x ∧ x ≤ 122) ↔ (97 ≤ (x : Int) ∧ (x : Int) ≤ 122) := by omega
    have e2 : (48 ≤ x ∧ x ≤ 57) ↔ (48 ≤ (x : Int) ∧ (x : Int) ≤ 57) := by omega
    rw [decide_eq_decide.2 e1, decide_eq_decide.2 e2]
  · obtain ⟨h1, h2⟩ := decode_high s pos hp (by omega)
    have hno : okAt pos (s[pos]'hp) = false := by
      unfold okAt
      rw [decide_eq_false (fun x => by omega), decide_eq_false (p := 48 ≤ (s[pos]'hp).toNat ∧ (s[pos]'hp).toNat ≤ 57) (fun x => by omega)]
      simp
    refine ⟨((Utf8.decode s pos).1 : Int), (Utf8.decode s pos).2, _, by simp, by omega, by omega, hb, ?_, fun h => by rw [hno] at h; cases h⟩
    rw [hno, decide_eq_false (fun x => by omega), decide_eq_false (p := 48 ≤ ((Utf8.decode s pos).1 : Int) ∧ ((Utf8.decode s pos).1 : Int) ≤ 57) (fun x => by omega)]
    simp
set_option maxRecDepth 1000000 in
set_option maxHeartbeats 4000000 in
theorem isName_any (s : ByteArray) (w : World) : Calls Tryz.prog 76 #[.string s] w fun e w' => e = .returned (.bool (nameOk s)) ∧ Tch w w' [] := by
  have HLt := Lib.hid (fun r W => letter_any r W)
  have HDg := Lib.hid (fun r W => digitI_any r W)
  by_cases h0 : s.size = 0
  · have hs : s = ⟨#[]⟩ := by
      apply ByteArray.ext
      exact Array.eq_empty_of_size_eq_zero h0
    subst hs
    have HE : Hid (nameOk ⟨#[]⟩ = false) := Lib.hid (name_size (by simp [ByteArray.size]))
    clear h0
    go_enter Tryz.func76, Tryz.ntmps76
    go_wp2
    go_ret
    exact ⟨by rw [HE.out]; rfl, Tch.refl _ _⟩
  · have b0 : (s.toList == []) = false := by
      have : s.toList ≠ [] := fun e => h0 (by rw [ByteArray.toList_eq] at e; have := congrArg List.length e; rw [Array.length_toList] at this; exact this)
      simpa using this
    by_cases h8 : (8 : Int) < (s.size : Int)
    · have HE : Hid (nameOk s = false) := Lib.hid (name_size (by omega))
      clear h0
      go_enter Tryz.func76, Tryz.ntmps76
      go_wp2
      go_ret
      exact ⟨by rw [HE.out]; rfl, Tch.refl _ _⟩
    · have HSz : Hid (1 ≤ s.size ∧ s.size ≤ 8) := Lib.hid (by omega)
      clear h0
      go_enter Tryz.func76, Tryz.ntmps76
      go_wp2
      clear b0 h8
      go_loopw [3] (fun _ wr => ∃ pos : Nat, wr = w.iter s pos ∧ pos ≤ s.size ∧ Hid (∀ (j : Nat) (b : UInt8), j < pos → s.data.toList[j]? = some b → okAt j b = true)) (fun _ wr => s.size - wr.iterPos w.heap.size)
      case atStart => exact ⟨0, rfl, Nat.zero_le _, Lib.hid (fun j b hj => absurd hj (by omega))⟩
      case round =>
        obtain ⟨pos, rfl, hps, hA⟩ := hrel
        have HTi : Hid (Tch w (w.iter s pos) []) := Lib.hid ((Tch.refl w []).alloc _)
        by_cases hp : pos < s.size
        · obtain ⟨r, d, b, hd, r0, r1, hb, ho, hd1⟩ := rune_at s pos hp
          have hnx : ∀ ty, (Instr.next (.pointer (some ⟨w.heap.size, 0, none⟩)) true ty).run Tryz.prog (w.iter s pos) = .ok (.tuple #[.bool true, .int .i64 (pos : Int), .int .i32 r]) (w.iter s (pos + d)) := fun ty => by
            rw [run_next_any w s pos ty hp, hd]
            show Result.ok (Value.tuple #[.bool true, .int .i64 (pos : Int), .int .i32 ((r.toNat : Nat) : Int)]) _ = _
            rw [Int.toNat_of_nonneg r0]
          have HTd : Hid (Tch w (w.iter s (pos + d)) []) := Lib.hid ((Tch.refl w []).alloc _)
          have Hb := Lib.hid hb
          have HL := Lib.hid (HLt.out r (w.iter s (pos + d)))
          have HD := Lib.hid (HDg.out r (w.iter s (pos + d)))
          obtain ⟨L, hL⟩ : ∃ L, decide (97 ≤ r ∧ r ≤ 122) = L := ⟨_, rfl⟩
          obtain ⟨G, hG⟩ : ∃ G, decide (48 ≤ r ∧ r ≤ 57) = G := ⟨_, rfl⟩
          rw [hL] at HL ho
          rw [hG] at HD ho
          have HO := Lib.hid ho
          have HD1 := Lib.hid hd1
          clear hd hb ho hd1 hL hG r0 r1
          have HGo : Hid (okAt pos b = true → ∀ (j : Nat) (c : UInt8), j < pos + 1 → s.data.toList[j]? = some c → okAt j c = true) := Lib.hid (fun hk j c hj hc => by
            rcases Nat.lt_or_ge j pos with h1 | h1
            · exact hA.out j c h1 hc
            · obtain rfl : j = pos := by omega
              rw [Hb.out] at hc
              injection hc with hc
              subst hc
              exact hk)
          cases L with
          | true =>
            have hk : okAt pos b = true := by rw [HO.out]; rfl
            have e1 := HD1.out hk
            subst e1
            have HG2 := Lib.hid (HGo.out hk)
            clear hk
            go_wp2_with (go_at_call 117; (with_reducible refine Calls.mono HL.out ?_); rintro e w' ⟨rfl, rfl⟩)
            go_roundw
            case rel => exact ⟨pos + 1, rfl, hp, HG2⟩
            case measure => simp; omega
          | false =>
            by_cases hz : pos = 0
            · have bz : ((pos : Int) == 0) = true := by simpa using hz
              have hzz : decide (pos ≠ 0) = false := decide_eq_false (fun x => x hz)
              rw [hzz] at HO
              have hk : okAt pos b = false := by rw [HO.out]; rfl
              clear hzz hz
              have HE : Hid (nameOk s = false) := Lib.hid (name_no Hb.out hk)
              clear hk
              go_wp2_with (go_at_call 117; (with_reducible refine Calls.mono HL.out ?_); rintro e w' ⟨rfl, rfl⟩)
              go_ret
              exact ⟨by rw [HE.out]; rfl, HTd.out⟩
            · have bz : ((pos : Int) == 0) = false := by simpa using hz
              have hzz : decide (pos ≠ 0) = true := decide_eq_true hz
              rw [hzz] at HO
              clear hzz
              cases G with
              | true =>
                have hk : okAt pos b = true := by rw [HO.out]; rfl
                have e1 := HD1.out hk
                subst e1
                have HG2 := Lib.hid (HGo.out hk)
                clear hk
                go_wp2_with (first | (go_at_call 117; (with_reducible refine Calls.mono HL.out ?_); rintro e w' ⟨rfl, rfl⟩) | (go_at_call 118; (with_reducible refine Calls.mono HD.out ?_); rintro e w' ⟨rfl, rfl⟩))
                go_roundw
                case rel => exact ⟨pos + 1, rfl, hp, HG2⟩
                case measure => simp; omega
              | false =>
                have hk : okAt pos b = false := by rw [HO.out]; rfl
                have HE : Hid (nameOk s = false) := Lib.hid (name_no Hb.out hk)
                clear hk
                go_wp2_with (first | (go_at_call 117; (with_reducible refine Calls.mono HL.out ?_); rintro e w' ⟨rfl, rfl⟩) | (go_at_call 118; (with_reducible refine Calls.mono HD.out ?_); rintro e w' ⟨rfl, rfl⟩))
                go_ret
                exact ⟨by rw [HE.out]; rfl, HTd.out⟩
        · obtain rfl : pos = s.size := by omega
          have hnx : ∀ ty, (Instr.next (.pointer (some ⟨w.heap.size, 0, none⟩)) true ty).run Tryz.prog (w.iter s s.size) = _ := fun ty => run_next_end w s s.size ty hp
          have HE : Hid (nameOk s = true) := Lib.hid (name_yes HSz.out (fun j b hb => hA.out j b (by have := (List.getElem?_eq_some_iff.1 hb).1; rw [Array.length_toList] at this; exact this) hb))
          clear hp hps
          go_wp2
          go_ret
          exact ⟨by rw [HE.out]; rfl, HTi.out⟩
end Go.Proofs.YtgfkmgbcajdcdaaGreatDoor.Ifs

namespace Go.Proofs
open Go.Shelf
def Tryz.laysM316_ren : Go.Shelf.Ren := ⟨fun | 316 => 119 | n => n, fun | 9 => 9 | 3 => 3 | 4 => 4 | 37 => 225 | 0 => 0 | 127 => 226 | 5 => 5 | n => n, fun | n => n⟩
theorem Tryz.laysM316 : Go.Proofs.LaysM.n316 Tryz.prog Tryz.laysM316_ren := {
  mixed := by kernel_rfl
  f316 := Tryz.func119.trans (congrArg some (by kernel_rfl))
  t0 := Tryz.underlying0
  a0 := Tryz.isAgg0
  z0 := Tryz.sizeOf0
  v0 := Tryz.zeroValue0
  t3 := Tryz.underlying3
  a3 := Tryz.isAgg3
  z3 := Tryz.sizeOf3
  v3 := Tryz.zeroValue3
  t4 := Tryz.underlying4
  a4 := Tryz.isAgg4
  z4 := Tryz.sizeOf4
  v4 := Tryz.zeroValue4
  t9 := Tryz.underlying9
  a9 := Tryz.isAgg9
  z9 := Tryz.sizeOf9
  v9 := Tryz.zeroValue9
  t37 := Tryz.underlying225
  a37 := Tryz.isAgg225
  z37 := Tryz.sizeOf225
  v37 := Tryz.zeroValue225
  t127 := Tryz.underlying226
  a127 := Tryz.isAgg226
  z127 := Tryz.sizeOf226
  v127 := Tryz.zeroValue226
  t5 := Tryz.underlying5
  a5 := Tryz.isAgg5
  z5 := Tryz.sizeOf5
  v5 := Tryz.zeroValue5
  i0 := by kernel_rfl
  i3 := by kernel_rfl
  i4 := by kernel_rfl
  i5 := by kernel_rfl
  i9 := by kernel_rfl
  i37 := by kernel_rfl
  i127 := by kernel_rfl }
open Go.RowKit in
theorem Tryz.stringslite_Clone (s : ByteArray) (w : World) (hlim : s.size ≤ 281474976710656) :
    Calls Tryz.prog 119 #[.string s] w fun e w' => e = .returned (.string s) ∧ Below w.heap.size w w' := Any.stringslite_Clone Tryz.laysM316 s w hlim
end Go.Proofs

namespace Go.Proofs.YtgfkmgbcajdcdaaGreatDoor
open Go.RowKit
set_option linter.unusedVariables false

set_option maxHeartbeats 1000000 in
theorem sclone_any (s : ByteArray) (hs : s.size ≤ 281474976710656) (w : World) :
    Calls Tryz.prog 79 #[.string s] w fun e w' => e = .returned (.string s) ∧ Below w.heap.size w w' := by
  have H := Lib.hid (Tryz.stringslite_Clone s w hs)
  go_enter Tryz.func79, Tryz.ntmps79
  go_wp2_with fail
  refine Calls.mono H.out ?_
  rintro e w1 ⟨rfl, hb⟩
  go_wp2
  go_ret
  exact ⟨rfl, hb⟩
end Go.Proofs.YtgfkmgbcajdcdaaGreatDoor
