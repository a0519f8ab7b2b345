/-
  Several texts in one: IfD, IfE, IfG.
-/
import Derived.Test.YtgfkmgbcajdcdaaGreatDoorZad
import Derived.Test.YtgfkmgbcajdcdaaGreatDoorZaa
set_option linter.unusedVariables false
set_option maxRecDepth 100000
set_option maxHeartbeats 16000000
namespace Go.Proofs.YtgfkmgbcajdcdaaGreatDoor.Ifs
open Go.RowKit

def IfD (w : World) (t : Nat) (S : List Nat) (st : StI) : Prop := ∃ (AP AL : Option Addr) (cP cL : Nat) (lv : List Value),
 S = t :: (obI (.slice AP st.1.length cP) ++ (obI (.slice AL st.1.length cL) ++ lv.flatMap obI)) ∧ S.Nodup ∧
 Blk w t 170 #[.slice AP st.1.length cP, .slice AL st.1.length cL] ∧
 w.ownsRow 0 74 4 (.slice AP st.1.length cP) st.1.length (st.1.flatMap prC) ∧ w.ownsRow 0 132 1 (.slice AL st.1.length cL) st.1.length lv ∧
 lv.length = st.1.length ∧ (∀ (i : Nat) (l : List Loc), st.2[i]? = some l → ∃ A c, lv[i]? = some (.slice A l.length c) ∧ w.ownsRow 0 202 4 (.slice A l.length c) l.length (l.flatMap lcC)) ∧ InvI st
section
variable {w w' : World} {t : Nat} {S T : List Nat} {st : StI}
theorem IfD.inv (h : IfD w t S st) : InvI st := by
 obtain ⟨AP, AL, cP, cL, lv, h1, h2, h3, h4, h5, h6, h7, h8⟩ := h
 exact h8
theorem IfD.lt (h : IfD w t S st) : ∀ s ∈ S, s < w.heap.size := by
 obtain ⟨AP, AL, cP, cL, lv, rfl, h2, h3, h4, h5, h6, h7, h8⟩ := h
 intro s hs
 rcases List.mem_cons.1 hs with h | h
 ·subst h; exact h3.lt
 rcases List.mem_append.1 h with h | h
 ·exact own_lts h4 s h
 rcases List.mem_append.1 h with h | h
 ·exact own_lts h5 s h
 obtain ⟨v, hv, hs⟩ := List.mem_flatMap.1 h
 obtain ⟨i, hi⟩ := List.mem_iff_getElem?.1 hv
 have hil := (List.getElem?_eq_some_iff.1 hi).1
 obtain ⟨A, c, e, ho⟩ := h7 i _ (List.getElem?_eq_getElem (by rw [← h8.len]; omega))
 rw [hi] at e
 injection e with e
 subst e
 exact own_lts ho s hs
theorem IfD.tch (h : IfD w t S st) (ht : Tch w w' T) (hn : ∀ s ∈ S, s ∉ T) : IfD w' t S st := by
 obtain ⟨AP, AL, cP, cL, lv, rfl, h2, h3, h4, h5, h6, h7, h8⟩ := h
 refine ⟨AP, AL, cP, cL, lv, rfl, h2, ht.blk h3 (hn t (by simp)), own_tch h4 ht (fun s hs => hn s (by simp [hs])), own_tch h5 ht (fun s hs => hn s (by simp [hs])), h6, fun i l hl => ?_, h8⟩
 obtain ⟨A, c, e, ho⟩ := h7 i l hl
 refine ⟨A, c, e, own_tch ho ht (fun s hs => hn s ?_)⟩
 have : s ∈ lv.flatMap obI := List.mem_flatMap.2 ⟨_, List.mem_of_getElem? e, hs⟩
 simp only [List.mem_cons, List.mem_append]
 exact .inr (.inr (.inr this))
end
theorem IfD.few {w : World} {t : Nat} {S : List Nat} {st : StI} (h : IfD w t S st) : st.1.length ≤ 8 := h.inv.few
theorem there_any (t : Nat) (S : List Nat) (st : StI) (port : Int) (w : World) (h : IfD w t S st) :
  Calls Tryz.prog 99 #[.pointer (some ⟨t, 0, none⟩), .int .i64 port] w fun e w' => e = .returned (.bool (thereI st port)) ∧ w = w' := by
 have hf := h.few
 obtain ⟨AP, AL, cP, cL, lv, h1, h2, h3, h4, h5, h6, h7, h8⟩ := h
 have c0 := (h3.cell 0).trans (show _ = some (Value.slice AP st.1.length cP) by rfl)
 have hT : Hid (thereI st port = decide (1 ≤ port ∧ port ≤ (st.1.length : Int))) := lH rfl
 obtain ⟨n, hn⟩ : ∃ n, st.1.length = n := ⟨_, rfl⟩
 rw [hn] at c0 hT hf
 clear h1 h2 h3 h4 h5 h6 h7 h8 hn
 by_cases p1 : 1 ≤ port
 ·by_cases p2 : port ≤ (n : Int)
  ·have HR : Hid (thereI st port = true) := lH (by rw [hT.out]; exact decide_eq_true ⟨p1, p2⟩)
   go_enter Tryz.func99, Tryz.ntmps99
   go_wp2
   go_ret
   exact ⟨by rw [HR.out]; rfl, rfl⟩
  ·have HR : Hid (thereI st port = false) := lH (by rw [hT.out]; exact decide_eq_false (fun x => p2 x.2))
   go_enter Tryz.func99, Tryz.ntmps99
   go_wp2
   go_ret
   exact ⟨by rw [HR.out]; rfl, rfl⟩
 ·have HR : Hid (thereI st port = false) := lH (by rw [hT.out]; exact decide_eq_false (fun x => p1 x.1))
  go_enter Tryz.func99, Tryz.ntmps99
  go_wp2
  go_ret
  exact ⟨by rw [HR.out]; rfl, rfl⟩
theorem flat4_modify {P : List Prt} {i : Nat} {p : Prt} (hp : P[i]? = some p) (up : Bool) : (P.modify i fun p => (p.1, p.2.1, p.2.2.1, up)).flatMap prC = (P.flatMap prC).set (i * 4 + 3) (.bool up) := by
 induction P generalizing i with
 | nil => simp at hp
 | cons y r ih =>
  cases i with
  | zero =>
   simp at hp; subst hp
   rw [List.modify_zero_cons, List.flatMap_cons, List.flatMap_cons]
   simp [prC]
  | succ i =>
   rw [List.modify_succ_cons, List.flatMap_cons, List.flatMap_cons, ih (by simpa using hp), show (i + 1) * 4 + 3 = (prC y).length + (i * 4 + 3) by simp [prC]; omega, List.set_append_right _ _ (by omega)]
   congr 1
   rw [Nat.add_sub_cancel_left]
theorem turnD (t : Nat) (S : List Nat) (st : StI) (port : Int) (up : Bool) (w : World) (h : IfD w t S st) :
  Calls Tryz.prog 90 #[.pointer (some ⟨t, 0, none⟩), .int .i64 port, .bool up] w fun e w' => e = .returned (.int .i64 (turnI st port up).2) ∧ IfD w' t S (turnI st port up).1 ∧ Tch w w' S := by
 have HTh := lH (there_any t S st port w h)
 have HI2 := h.inv.turn port up
 cases hth : thereI st port with
 | false =>
  rw [hth] at HTh
  have e1 : turnI st port up = (st, 132) := by unfold turnI; rw [hth]; rfl
  rw [e1]
  have HH := lH h
  clear h HI2 e1 hth
  go_enter Tryz.func90, Tryz.ntmps90
  go_wp2_with fail
  refine cZm HTh.out ?_
  rintro e w' ⟨rfl, rfl⟩
  go_wp2
  go_ret
  exact ⟨rfl, HH.out, Tch.refl _ _⟩
 | true =>
  rw [hth] at HTh
  obtain ⟨p, l, hp, -, -, -, hlt, hpe⟩ := locI_at h.inv hth
  have hf := h.few
  have e1 : turnI st port up = ((st.1.modify (idxI port) fun p => (p.1, p.2.1, p.2.2.1, up), st.2), 0) := by unfold turnI; rw [hth]; rfl
  rw [e1] at HI2 ⊢
  obtain ⟨AP, AL, cP, cL, lv, rfl, h2, h3, h4, h5, h6, h7, h8⟩ := h
  obtain ⟨gP, rfl⟩ := slice_some h4 (by omega)
  obtain ⟨i, hi⟩ : ∃ i, idxI port = i := ⟨_, rfl⟩
  rw [hi] at hp hlt hpe HI2 ⊢
  have c0 := (h3.cell 0).trans (show _ = some (Value.slice (some ⟨gP, 0, none⟩) st.1.length cP) by rfl)
  have hat := flat4_at (f := prC) (fun _ => rfl) hp (k := 3) (by decide)
  have c3 := own_cellN h4 hat
  have o3 : w.frozen? ⟨gP, i * 4 + 3, none⟩ = false := by
   rcases h4.2 with ⟨e, -⟩ | ⟨g', cap, cur, e, -, hb, -⟩
   ·cases e
   ·injection e with e2
    injection e2 with e2
    injection e2 with e2
    subst e2
    exact Blk.frozen hb _
  have hset := own_setN h4 (i := i * 4 + 3) (by omega) (.bool up)
  rw [← flat4_modify hp up] at hset
  have hm : (st.1.modify i fun p => (p.1, p.2.1, p.2.2.1, up)).length = st.1.length := by simp
  have hT : Tch w (w.setCell ⟨gP, i * 4 + 3, none⟩ (.bool up)) [gP] := (Tch.refl w [gP]).set_ (p := ⟨gP, i * 4 + 3, none⟩) (by simp) _
  have hnd := h2
  rw [List.nodup_cons] at hnd
  have ob0 : obI (.slice (some ⟨gP, 0, none⟩) st.1.length cP) = [gP] := rfl
  rw [ob0, List.singleton_append, List.nodup_cons] at hnd
  have hne1 : t ≠ gP := fun e => hnd.1 (by simp [e])
  have hrest : ∀ s ∈ obI (.slice AL st.1.length cL) ++ lv.flatMap obI, s ∉ [gP] := fun s hs hm => hnd.2.1 (by rw [List.mem_singleton.1 hm] at hs; exact hs)
  have HN := lH (show IfD (w.setCell ⟨gP, i * 4 + 3, none⟩ (.bool up)) t (t :: (obI (.slice (some ⟨gP, 0, none⟩) st.1.length cP) ++ (obI (.slice AL st.1.length cL) ++ lv.flatMap obI))) (st.1.modify i fun p => (p.1, p.2.1, p.2.2.1, up), st.2) from by
   refine ⟨some ⟨gP, 0, none⟩, AL, cP, cL, lv, ?_, h2, ?_, ?_, ?_, ?_, fun j m hj => ?_, HI2⟩
   ·simp only [hm]
   ·simp only [hm]; exact hT.blk h3 (nin1 hne1)
   ·simp only [hm]; exact hset
   ·simp only [hm]; exact own_tch h5 hT (fun s hs => hrest s (by simp [hs]))
   ·simp only [hm]; exact h6
   ·obtain ⟨A, c, e, ho⟩ := h7 j m hj
    refine ⟨A, c, e, own_tch ho hT (fun s hs => hrest s ?_)⟩
    exact List.mem_append_right _ (List.mem_flatMap.2 ⟨_, List.mem_of_getElem? e, hs⟩))
  have HTc := lH (hT.mono (T := t :: (obI (.slice (some ⟨gP, 0, none⟩) st.1.length cP) ++ (obI (.slice AL st.1.length cL) ++ lv.flatMap obI))) (by rw [ob0]; simp))
  obtain ⟨n, hn⟩ : ∃ n, st.1.length = n := ⟨_, rfl⟩
  rw [hn] at c0 hlt hf
  have j1 : IntKind.i64.wrap (port - 1) = (i : Int) := by rw [IntKind.wrap_i64]; omega
  have i0 : (0 : Int) ≤ (i : Int) := by omega
  have i1 : (i : Int) < (n : Int) := by omega
  obtain ⟨old, hold⟩ : ∃ v, (prC p)[3]? = some v := ⟨_, rfl⟩
  rw [hold] at hat
  have c3 : w.cell? ⟨gP, i * 4 + 3, none⟩ = some old := by rw [c3]; exact hold
  clear h2 h3 h4 h5 h6 h7 h8 hat hset hm hT hnd ob0 hne1 hrest hn hold hp hi e1 hth hpe HI2
  go_enter Tryz.func90, Tryz.ntmps90
  go_wp2_with fail
  refine cZm HTh.out ?_
  rintro e w' ⟨rfl, rfl⟩
  go_wp2
  go_ret
  exact ⟨rfl, HN.out, HTc.out⟩
end Go.Proofs.YtgfkmgbcajdcdaaGreatDoor.Ifs

namespace Go.Proofs.YtgfkmgbcajdcdaaGreatDoor.Ifs
open Go.RowKit

theorem namedD (t : Nat) (S : List Nat) (st : StI) (nm : ByteArray) (w : World) (h : IfD w t S st) :
  Calls Tryz.prog 135 #[.pointer (some ⟨t, 0, none⟩), .string nm] w fun e w' => e = .returned (.int .i64 (namedI st.1 nm : Int)) ∧ w = w' := by
 have hf := h.few
 obtain ⟨AP, AL, cP, cL, lv, rfl, h2, h3, h4, h5, h6, h7, h8⟩ := h
 have c0 := (h3.cell 0).trans (show _ = some (Value.slice AP st.1.length cP) by rfl)
 have H4 := lH h4
 obtain ⟨n, hn⟩ : ∃ n, st.1.length = n := ⟨_, rfl⟩
 have HN := lH hn
 rw [hn] at c0 hf H4
 clear h2 h3 h4 h5 h6 h7 h8 hn
 go_enter Tryz.func135, Tryz.ntmps135
 go_wp2
 go_loop [4, 5] (fun fv iv => ∃ i : Nat, fv = .int .i64 0 ∧ iv = .int .i64 (i : Int) ∧ i ≤ n ∧ Hid (∀ (j : Nat) (p : Prt), j < i → st.1[j]? = some p → decide (p.1 = nm) = false)) (fun _ iv => n - (intOf iv).toNat)
 case atStart => exact ⟨0, rfl, rfl, Nat.zero_le _, lH (fun j p hj => absurd hj (by omega))⟩
 case round =>
  obtain ⟨i, rfl, rfl, hi, hA⟩ := hrel
  have j1 : IntKind.i64.wrap ((i : Int) + 1) = (i : Int) + 1 := by rw [IntKind.wrap_i64]; omega
  by_cases hlt : i < n
  ·have i1 : (i : Int) < (n : Int) := by omega
   have i0 : (0 : Int) ≤ (i : Int) := by omega
   obtain ⟨p, hp⟩ : ∃ p, st.1[i]? = some p := ⟨_, List.getElem?_eq_getElem (by rw [HN.out]; exact hlt)⟩
   obtain ⟨g, e⟩ := slice_some H4.out (by omega)
   subst e
   have c1 := own_cellN H4.out ((flat4_at (f := prC) (fun _ => rfl) hp (k := 0) (by decide)).trans (show _ = some (Value.string p.1) by rfl))
   have c1 : w.cell? ⟨g, i * 4, none⟩ = some (.string p.1) := c1
   have HP := lH hp
   obtain ⟨s, hs⟩ : ∃ s, p.1 = s := ⟨_, rfl⟩
   have HS := lH hs
   rw [hs] at c1
   clear hp hs
   by_cases hq : s = nm
   ·have HR : Hid (namedI st.1 nm = i + 1) := lH (fndI_succ.2 ⟨⟨p, HP.out, decide_eq_true (HS.out.trans hq)⟩, fun j q hj hq => hA.out j q hj hq⟩)
    subst hq
    go_wp2
    go_ret
    exact ⟨by rw [HR.out]; rfl, rfl⟩
   ·have HQ := lH hq
    have b1 := str_ne hq
    go_wp2
    go_round
    case rel => exact ⟨i + 1, rfl, by go_num, hlt, lH (fun j q hj hq => by
     rcases Nat.lt_or_ge j i with h1 | h1
     ·exact hA.out j q h1 hq
     ·obtain rfl : j = i := by omega
      rw [HP.out] at hq
      injection hq with hq
      subst hq
      rw [HS.out]
      exact decide_eq_false HQ.out)⟩
    case measure => simp [intOf]; omega
  ·obtain rfl : i = n := by omega
   have i1 : ¬ (i : Int) < (i : Int) := by omega
   have HR : Hid (namedI st.1 nm = 0) := lH (fndI_zero.2 fun j q hq => hA.out j q (by rw [← HN.out]; exact (List.getElem?_eq_some_iff.1 hq).1) hq)
   clear hlt hi
   go_wp2
   go_ret
   exact ⟨by rw [HR.out]; rfl, rfl⟩
def noneI (L : List (List Loc)) (a : AdI) (i k : Nat) : Prop := (∀ j l, j < i → L[j]? = some l → l.any (isA a) = false) ∧ ∀ l, L[i]? = some l → ∀ j x, j < k → l[j]? = some x → isA a x = false
theorem mineD (t : Nat) (S : List Nat) (st : StI) (a : AdI) (w : World) (h : IfD w t S st) :
  Calls Tryz.prog 137 #[.pointer (some ⟨t, 0, none⟩), adV a] w fun e w' => e = .returned (.int .i64 (mineI st.2 a : Int)) ∧ Tch w w' [] := by
 have hf := h.few
 have hlen := h.inv.len
 have HLoc := lH h.inv.loc
 have HH := lH h
 obtain ⟨s, ah, al⟩ := a
 obtain ⟨xb, hxb⟩ : ∃ xb, w.heap.size = xb := ⟨_, rfl⟩
 obtain ⟨W0, hW0⟩ : ∃ W, w.alloc (.cells #[.bool s, .int .u64 (ah : Int), .int .u64 (al : Int)] 28) = W := ⟨_, rfl⟩
 have HX : Hid (Blk W0 xb 28 #[.bool s, .int .u64 (ah : Int), .int .u64 (al : Int)]) := lH (hW0 ▸ hxb ▸ Blk.new _ _ _)
 have HT0 : Hid (Tch w W0 []) := lH (hW0 ▸ (Tch.refl w []).alloc _)
 have HD0 := lH (h.tch HT0.out (by simp))
 have HW0 := lH (And.intro hW0 hxb)
 obtain ⟨n, hn⟩ : ∃ n, st.1.length = n := ⟨_, rfl⟩
 have HN := lH hn
 have HN2 : Hid (st.2.length = n) := lH (by omega)
 rw [hn] at hf
 clear hW0 hxb h hn hlen
 go_enter Tryz.func137, Tryz.ntmps137
 go_wp2
 rw [HW0.out.1, HW0.out.2]
 go_loopw [4, 5] (fun fv iv wr => ∃ i q : Nat, fv = .int .i64 0 ∧ iv = .int .i64 (i : Int) ∧ i ≤ n ∧ wr = W0.drewN q ∧ Hid (noneI st.2 (s, ah, al) i 0)) (fun _ iv _ => n - (intOf iv).toNat)
 case atStart => exact ⟨0, 0, rfl, rfl, Nat.zero_le _, rfl, lH ⟨fun j l hj => absurd hj (by omega), fun l _ j x hj => absurd hj (by omega)⟩⟩
 case round =>
  obtain ⟨i, q, rfl, rfl, hi, rfl, hA⟩ := hrel
  obtain ⟨AP, AL, cP, cL, lv, hS, h2, h3, h4, h5, h6, h7, h8⟩ := HD0.out
  rw [HN.out] at h3 h4 h5
  have c1 : (W0.drewN q).cell? ⟨t, 1, none⟩ = some (Value.slice AL n cL) := (h3.cell 1).trans (show _ = some (Value.slice AL n cL) by rfl)
  have j1 : IntKind.i64.wrap ((i : Int) + 1) = (i : Int) + 1 := by rw [IntKind.wrap_i64]; omega
  by_cases hlt : i < n
  ·have i1 : (i : Int) < (n : Int) := by omega
   have i0 : (0 : Int) ≤ (i : Int) := by omega
   obtain ⟨l, hl⟩ : ∃ l, st.2[i]? = some l := ⟨_, List.getElem?_eq_getElem (by rw [HN2.out]; exact hlt)⟩
   obtain ⟨A, c, hv, ho⟩ := h7 i l hl
   obtain ⟨gL, rfl⟩ := slice_some h5 (by omega)
   have c2 : (W0.drewN q).cell? ⟨gL, i, none⟩ = some (Value.slice A l.length c) := own_cell h5 hv
   have hl8 := HLoc.out l (List.mem_of_getElem? hl)
   obtain ⟨m, hm⟩ : ∃ m, l.length = m := ⟨_, rfl⟩
   have HM := lH hm
   have HO := lH ho
   have HL := lH hl
   have HC := lH (And.intro c1 c2)
   rw [hm] at c2 HO HC hl8
   clear hS h2 h3 h4 h5 h6 h7 h8 hv ho hl hm
   obtain ⟨w1, hw1⟩ : ∃ x, W0.drewN q = x := ⟨_, rfl⟩
   have HW1 := lH hw1
   rw [hw1] at c1 c2 HC ⊢
   clear hw1
   go_wp2
   go_loopw [4, 6] (fun fv kv wr => ∃ k p : Nat, fv = .int .i64 0 ∧ kv = .int .i64 (k : Int) ∧ k ≤ m ∧ wr = w1.drewN p ∧ Hid (noneI st.2 (s, ah, al) i k)) (fun _ kv _ => m - (intOf kv).toNat)
   case atStart => exact ⟨0, 0, rfl, rfl, Nat.zero_le _, rfl, hA⟩
   case round =>
    obtain ⟨k, p, rfl, rfl, hk, rfl, hB⟩ := hrel
    have d1 : (w1.drewN p).cell? ⟨t, 1, none⟩ = some (Value.slice (some ⟨gL, 0, none⟩) n cL) := HC.out.1
    have d2 : (w1.drewN p).cell? ⟨gL, i, none⟩ = some (Value.slice A m c) := HC.out.2
    have k1 : IntKind.i64.wrap ((k : Int) + 1) = (k : Int) + 1 := by rw [IntKind.wrap_i64]; omega
    by_cases hkm : k < m
    ·have kI : (k : Int) < (m : Int) := by omega
     have k0 : (0 : Int) ≤ (k : Int) := by omega
     obtain ⟨x, hx⟩ : ∃ x, l[k]? = some x := ⟨_, List.getElem?_eq_getElem (by rw [HM.out]; exact hkm)⟩
     obtain ⟨gx, rfl⟩ := slice_some HO.out (by omega)
     obtain ⟨⟨xs, xh, xl⟩, xbt⟩ := x
     obtain ⟨wp, hwp⟩ : ∃ x, w1.drewN p = x := ⟨_, rfl⟩
     have HWp := lH hwp
     have hcell : ∀ q : Addr, wp.cell? q = W0.cell? q := fun q => by rw [← hwp, ← HW1.out]; rfl
     have x0 := (hcell ⟨gx, k * 4, none⟩).trans (own_cellN HO.out ((flat4_at (f := lcC) (fun _ => rfl) hx (k := 0) (by decide)).trans (show _ = some (Value.bool xs) by rfl)))
     have x1 := (hcell ⟨gx, k * 4 + 1, none⟩).trans (own_cellN HO.out ((flat4_at (f := lcC) (fun _ => rfl) hx (k := 1) (by decide)).trans (show _ = some (Value.int .u64 (xh : Int)) by rfl)))
     have x2 := (hcell ⟨gx, k * 4 + 2, none⟩).trans (own_cellN HO.out ((flat4_at (f := lcC) (fun _ => rfl) hx (k := 2) (by decide)).trans (show _ = some (Value.int .u64 (xl : Int)) by rfl)))
     have y0 := (hcell ⟨xb, 0, none⟩).trans ((HX.out.cell 0).trans (show _ = some (Value.bool s) by rfl))
     have y1 := (hcell ⟨xb, 1, none⟩).trans ((HX.out.cell 1).trans (show _ = some (Value.int .u64 (ah : Int)) by rfl))
     have y2 := (hcell ⟨xb, 2, none⟩).trans ((HX.out.cell 2).trans (show _ = some (Value.int .u64 (al : Int)) by rfl))
     rw [hwp] at d1 d2 ⊢
     have HC2 := lH (And.intro d1 (And.intro d2 (And.intro x0 (And.intro x1 (And.intro x2 (And.intro y0 (And.intro y1 y2)))))))
     have Hx := lH hx
     clear hx hcell hwp x0 x1 x2 y0 y1 y2
     by_cases hq : ((xs, xh, xl) : AdI) = (s, ah, al)
     ·simp only [Prod.mk.injEq] at hq
      obtain ⟨q1, q2, q3⟩ := hq
      subst q1 q2 q3
      have HR : Hid (mineI st.2 (xs, xh, xl) = i + 1) := lH (fndI_succ.2 ⟨⟨l, HL.out, List.any_eq_true.2 ⟨_, List.mem_of_getElem? Hx.out, by simp [isA]⟩⟩, fun j m hj hm => hB.out.1 j m hj hm⟩)
      go_wp2
      refine wp_region_held_drew (S := (fun W => W.cell? ⟨t, 1, none⟩ = some (Value.slice (some ⟨gL, 0, none⟩) n cL) ∧ W.cell? ⟨gL, i, none⟩ = some (Value.slice (some ⟨gx, 0, none⟩) m c) ∧ W.cell? ⟨gx, k * 4, none⟩ = some (Value.bool xs) ∧ W.cell? ⟨gx, k * 4 + 1, none⟩ = some (Value.int .u64 (xh : Int)) ∧ W.cell? ⟨gx, k * 4 + 2, none⟩ = some (Value.int .u64 (xl : Int)) ∧ W.cell? ⟨xb, 0, none⟩ = some (Value.bool xs) ∧ W.cell? ⟨xb, 1, none⟩ = some (Value.int .u64 (xh : Int)) ∧ W.cell? ⟨xb, 2, none⟩ = some (Value.int .u64 (xl : Int)))) (by kernel_rfl) ?_ (fun hHeld => ?_)
      ·(exact HC2.out)
      refine tkH 0 ?_
      refine tkH 1 ?_
      refine tkH 2 ?_
      refine tkH 3 ?_
      refine tkH 4 ?_
      refine tkH 5 ?_
      refine tkH 6 ?_
      refine tkH 7 ?_
      refine tkH 8 ?_
      refine tkH 9 ?_
      refine tkH 10 ?_
      refine tkH 11 ?_
      refine tkH 12 ?_
      refine wpAnyH_done (by kernel_rfl) ?_ _
      go_wp2
      go_ret
      exact ⟨by rw [HR.out]; rfl, by rw [← HWp.out, ← HW1.out]; exact (((HT0.out).drewN q).drewN p).drew⟩
     ·have HB2 : Hid (noneI st.2 (s, ah, al) i (k + 1)) := lH ⟨hB.out.1, fun l2 hl2 j y hj hy => by
       rw [HL.out] at hl2
       injection hl2 with hl2
       subst hl2
       rcases Nat.lt_or_ge j k with h9 | h9
       ·exact hB.out.2 l HL.out j y h9 hy
       ·obtain rfl : j = k := by omega
        rw [Hx.out] at hy
        injection hy with hy
        subst hy
        unfold isA
        exact decide_eq_false hq⟩
      have hcs : (¬ xs = s) ∨ (xs = s ∧ ¬ xh = ah) ∨ (xs = s ∧ xh = ah ∧ ¬ xl = al) := by
       by_cases q1 : xs = s
       ·by_cases q2 : xh = ah
        ·exact .inr (.inr ⟨q1, q2, fun q3 => hq (by rw [q1, q2, q3])⟩)
        ·exact .inr (.inl ⟨q1, q2⟩)
       ·exact .inl q1
      clear hq
      rcases hcs with q1 | ⟨q1, q2⟩ | ⟨q1, q2, q3⟩
      ·go_wp2
       refine wp_region_held_drew (S := (fun W => W.cell? ⟨t, 1, none⟩ = some (Value.slice (some ⟨gL, 0, none⟩) n cL) ∧ W.cell? ⟨gL, i, none⟩ = some (Value.slice (some ⟨gx, 0, none⟩) m c) ∧ W.cell? ⟨gx, k * 4, none⟩ = some (Value.bool xs) ∧ W.cell? ⟨gx, k * 4 + 1, none⟩ = some (Value.int .u64 (xh : Int)) ∧ W.cell? ⟨gx, k * 4 + 2, none⟩ = some (Value.int .u64 (xl : Int)) ∧ W.cell? ⟨xb, 0, none⟩ = some (Value.bool s) ∧ W.cell? ⟨xb, 1, none⟩ = some (Value.int .u64 (ah : Int)) ∧ W.cell? ⟨xb, 2, none⟩ = some (Value.int .u64 (al : Int)))) (by kernel_rfl) ?_ (fun hHeld => ?_)
       ·(exact HC2.out)
       refine tkH 0 ?_
       refine tkH 1 ?_
       refine tkH 2 ?_
       refine tkH 3 ?_
       refine tkH 4 ?_
       refine tkH 5 ?_
       refine tkH 6 ?_
       refine tkH 7 ?_
       refine tkH 8 ?_
       refine tkH 9 ?_
       refine tkH 10 ?_
       refine tkH 11 ?_
       refine tkH 12 ?_
       refine wpAnyH_done (by kernel_rfl) ?_ _
       go_wp2
       go_roundw
       case rel => exact ⟨k + 1, p + 1, rfl, by go_num, hkm, by rw [← HWp.out]; rfl, HB2⟩
       case measure => simp [intOf]; omega
      ·have q2' : ¬ (xh : Int) = (ah : Int) := by omega
       have q1 := q1.symm
       subst q1
       go_wp2
       refine wp_region_held_drew (S := (fun W => W.cell? ⟨t, 1, none⟩ = some (Value.slice (some ⟨gL, 0, none⟩) n cL) ∧ W.cell? ⟨gL, i, none⟩ = some (Value.slice (some ⟨gx, 0, none⟩) m c) ∧ W.cell? ⟨gx, k * 4, none⟩ = some (Value.bool s) ∧ W.cell? ⟨gx, k * 4 + 1, none⟩ = some (Value.int .u64 (xh : Int)) ∧ W.cell? ⟨gx, k * 4 + 2, none⟩ = some (Value.int .u64 (xl : Int)) ∧ W.cell? ⟨xb, 0, none⟩ = some (Value.bool s) ∧ W.cell? ⟨xb, 1, none⟩ = some (Value.int .u64 (ah : Int)) ∧ W.cell? ⟨xb, 2, none⟩ = some (Value.int .u64 (al : Int)))) (by kernel_rfl) ?_ (fun hHeld => ?_)
       ·(exact HC2.out)
       refine tkH 0 ?_
       refine tkH 1 ?_
       refine tkH 2 ?_
       refine tkH 3 ?_
       refine tkH 4 ?_
       refine tkH 5 ?_
       refine tkH 6 ?_
       refine tkH 7 ?_
       refine tkH 8 ?_
       refine tkH 9 ?_
       refine tkH 10 ?_
       refine tkH 11 ?_
       refine tkH 12 ?_
       refine wpAnyH_done (by kernel_rfl) ?_ _
       go_wp2
       go_roundw
       case rel => exact ⟨k + 1, p + 1, rfl, by go_num, hkm, by rw [← HWp.out]; rfl, HB2⟩
       case measure => simp [intOf]; omega
      ·have q3' : ¬ (xl : Int) = (al : Int) := by omega
       have q1 := q1.symm
       have q2 := q2.symm
       subst q1 q2
       go_wp2
       refine wp_region_held_drew (S := (fun W => W.cell? ⟨t, 1, none⟩ = some (Value.slice (some ⟨gL, 0, none⟩) n cL) ∧ W.cell? ⟨gL, i, none⟩ = some (Value.slice (some ⟨gx, 0, none⟩) m c) ∧ W.cell? ⟨gx, k * 4, none⟩ = some (Value.bool s) ∧ W.cell? ⟨gx, k * 4 + 1, none⟩ = some (Value.int .u64 (ah : Int)) ∧ W.cell? ⟨gx, k * 4 + 2, none⟩ = some (Value.int .u64 (xl : Int)) ∧ W.cell? ⟨xb, 0, none⟩ = some (Value.bool s) ∧ W.cell? ⟨xb, 1, none⟩ = some (Value.int .u64 (ah : Int)) ∧ W.cell? ⟨xb, 2, none⟩ = some (Value.int .u64 (al : Int)))) (by kernel_rfl) ?_ (fun hHeld => ?_)
       ·(exact HC2.out)
       refine tkH 0 ?_
       refine tkH 1 ?_
       refine tkH 2 ?_
       refine tkH 3 ?_
       refine tkH 4 ?_
       refine tkH 5 ?_
       refine tkH 6 ?_
       refine tkH 7 ?_
       refine tkH 8 ?_
       refine tkH 9 ?_
       refine tkH 10 ?_
       refine tkH 11 ?_
       refine tkH 12 ?_
       refine wpAnyH_done (by kernel_rfl) ?_ _
       go_wp2
       go_roundw
       case rel => exact ⟨k + 1, p + 1, rfl, by go_num, hkm, by rw [← HWp.out]; rfl, HB2⟩
       case measure => simp [intOf]; omega
    ·obtain rfl : k = m := by omega
     have kI : ¬ (k : Int) < (k : Int) := by omega
     have HA2 : Hid (noneI st.2 (s, ah, al) (i + 1) 0) := lH ⟨fun j l2 hj hl2 => by
      rcases Nat.lt_or_ge j i with h9 | h9
      ·exact hB.out.1 j l2 h9 hl2
      ·obtain rfl : j = i := by omega
       rw [HL.out] at hl2
       injection hl2 with hl2
       subst hl2
       rw [List.any_eq_false]
       intro y hy
       obtain ⟨j2, hj2⟩ := List.mem_iff_getElem?.1 hy
       rw [hB.out.2 l HL.out j2 y (by rw [← HM.out]; exact (List.getElem?_eq_some_iff.1 hj2).1) hj2]
       decide, fun l2 _ j y hj => absurd hj (by omega)⟩
     clear hkm hk
     go_wp2
     go_roundw
     case rel => exact ⟨i + 1, q + p, rfl, by go_num, hlt, by rw [← HW1.out, drewN_add], HA2⟩
     case measure => simp [intOf]; omega
  ·obtain rfl : i = n := by omega
   have i1 : ¬ (i : Int) < (i : Int) := by omega
   have HR : Hid (mineI st.2 (s, ah, al) = 0) := lH (fndI_zero.2 fun j l hj => hA.out.1 j l (by rw [← HN2.out]; exact (List.getElem?_eq_some_iff.1 hj).1) hj)
   clear hS h2 h3 h4 h5 h6 h7 h8 hlt hi
   go_wp2
   go_ret
   exact ⟨by rw [HR.out]; rfl, (HT0.out).drewN q⟩
end Go.Proofs.YtgfkmgbcajdcdaaGreatDoor.Ifs

namespace Go.Proofs.YtgfkmgbcajdcdaaGreatDoor.Ifs
open Go.RowKit

theorem portD (t : Nat) (S : List Nat) (st : StI) (port : Int) (w : World) (h : IfD w t S st) :
  Calls Tryz.prog 55 #[.pointer (some ⟨t, 0, none⟩), .int .i64 port] w fun e w' => e = .returned (.tuple #[.agg (prC (portI st port)).toArray, .bool (thereI st port)]) ∧ Tch w w' [] := by
 obtain ⟨xb, hxb⟩ : ∃ xb, w.heap.size = xb := ⟨_, rfl⟩
 obtain ⟨W0, hW0⟩ : ∃ W, w.alloc (.cells #[.string ⟨#[]⟩, .int .u64 0, .int .i64 0, .bool false] 74) = W := ⟨_, rfl⟩
 have HX : Hid (Blk W0 xb 74 #[.string ⟨#[]⟩, .int .u64 0, .int .i64 0, .bool false]) := lH (hW0 ▸ hxb ▸ Blk.new _ _ _)
 have HT0 : Hid (Tch w W0 []) := lH (hW0 ▸ (Tch.refl w []).alloc _)
 have hD0 := h.tch HT0.out (by simp)
 have HW0 := lH (And.intro hW0 hxb)
 have HTh := lH (there_any t S st port W0 hD0)
 have HXb : Hid (w.heap.size ≤ xb) := lH (by omega)
 cases hth : thereI st port with
 | false =>
  rw [hth] at HTh
  have HE : Hid (portI st port = (⟨#[]⟩, 0, 0, false)) := lH (by unfold portI; rw [hth]; rfl)
  clear hW0 hxb h hD0 hth
  go_enter Tryz.func55, Tryz.ntmps55
  go_wp2_with fail
  rw [HW0.out.1, HW0.out.2]
  refine cZm HTh.out ?_
  rintro e w' ⟨rfl, rfl⟩
  go_wp2_with (refine wpList_sta rfl 74 (.tmp 4) (.tmp 10) rfl xb 0 #[.string ⟨#[]⟩, .int .u64 0, .int .i64 0, .bool false] rfl rfl 74 #[.string ⟨#[]⟩, .int .u64 0, .int .i64 0, .bool false] HX.out 4 sizePt rfl (by decide) (by simp [Value.oneCell']) ?_; intro w4 hs4; have HS4 := lH hs4; clear hs4)
  obtain ⟨⟨cur', k1, k2, k3, k4⟩, hT4⟩ := HS4.out
  have z0 := (k1.cell 0).trans ((k4 0 (by decide)).trans rfl)
  have z1 := (k1.cell 1).trans ((k4 1 (by decide)).trans rfl)
  have z2 := (k1.cell 2).trans ((k4 2 (by decide)).trans rfl)
  have z3 := (k1.cell 3).trans ((k4 3 (by decide)).trans rfl)
  exact bodyPost_ret (v := .tuple #[.agg #[.string ⟨#[]⟩, .int .u64 0, .int .i64 0, .bool false], .bool false]) (by simp [results, Tryz.results55, go_sem, z0, z1, z2, z3]) rfl ⟨by rw [HE.out]; rfl, HT0.out.trans_fre hT4 (by simp; exact HXb.out)⟩
 | true =>
  rw [hth] at HTh
  obtain ⟨p, l, hp, hl, hle, -, hlt, hpe⟩ := locI_at h.inv hth
  have hf := h.few
  have HE : Hid (portI st port = p) := lH (by unfold portI; rw [hth, hp]; rfl)
  obtain ⟨AP, AL, cP, cL, lv, rfl, h2, h3, h4, h5, h6, h7, h8⟩ := hD0
  obtain ⟨gP, rfl⟩ := slice_some h4 (by omega)
  obtain ⟨i, hi⟩ : ∃ i, idxI port = i := ⟨_, rfl⟩
  rw [hi] at hp hlt hpe
  obtain ⟨pn, pm, pt, pu⟩ := p
  have c0 := (h3.cell 0).trans (show _ = some (Value.slice (some ⟨gP, 0, none⟩) st.1.length cP) by rfl)
  have x0 := own_cellN h4 ((flat4_at (f := prC) (fun _ => rfl) hp (k := 0) (by decide)).trans (show _ = some (Value.string pn) by rfl))
  have x1 := own_cellN h4 ((flat4_at (f := prC) (fun _ => rfl) hp (k := 1) (by decide)).trans (show _ = some (Value.int .u64 pm) by rfl))
  have x2 := own_cellN h4 ((flat4_at (f := prC) (fun _ => rfl) hp (k := 2) (by decide)).trans (show _ = some (Value.int .i64 pt) by rfl))
  have x3 := own_cellN h4 ((flat4_at (f := prC) (fun _ => rfl) hp (k := 3) (by decide)).trans (show _ = some (Value.bool pu) by rfl))
  have x0 : W0.cell? ⟨gP, i * 4, none⟩ = some (.string pn) := x0
  obtain ⟨n, hn⟩ : ∃ n, st.1.length = n := ⟨_, rfl⟩
  rw [hn] at c0 hlt hf
  have j1 : IntKind.i64.wrap (port - 1) = (i : Int) := by rw [IntKind.wrap_i64]; omega
  have i0 : (0 : Int) ≤ (i : Int) := by omega
  have i1 : (i : Int) < (n : Int) := by omega
  clear h2 h3 h4 h5 h6 h7 h8 hn hp hl hle hi hth hpe h hW0 hxb
  go_enter Tryz.func55, Tryz.ntmps55
  go_wp2_with fail
  rw [HW0.out.1, HW0.out.2]
  refine cZm HTh.out ?_
  rintro e w' ⟨rfl, rfl⟩
  go_wp2_with (refine wpList_sta rfl 74 (.tmp 4) (.tmp 18) rfl xb 0 #[.string pn, .int .u64 pm, .int .i64 pt, .bool pu] rfl rfl 74 #[.string ⟨#[]⟩, .int .u64 0, .int .i64 0, .bool false] HX.out 4 sizePt rfl (by decide) (by simp [Value.oneCell']) ?_; intro w4 hs4; have HS4 := lH hs4; clear hs4)
  obtain ⟨⟨cur', k1, k2, k3, k4⟩, hT4⟩ := HS4.out
  have z0 := (k1.cell 0).trans ((k4 0 (by simp)).trans rfl)
  have z1 := (k1.cell 1).trans ((k4 1 (by simp)).trans rfl)
  have z2 := (k1.cell 2).trans ((k4 2 (by simp)).trans rfl)
  have z3 := (k1.cell 3).trans ((k4 3 (by simp)).trans rfl)
  exact bodyPost_ret (v := .tuple #[.agg #[.string pn, .int .u64 pm, .int .i64 pt, .bool pu], .bool true]) (by simp [results, Tryz.results55, go_sem, z0, z1, z2, z3]) rfl ⟨by rw [HE.out]; rfl, HT0.out.trans_fre hT4 (by simp; exact HXb.out)⟩
end Go.Proofs.YtgfkmgbcajdcdaaGreatDoor.Ifs
