/-
  Several texts in one: PRHo, RbJ, RxB, RxC.
-/
import Derived.Test.YtgfkmgbcajdcdaaGreatDoorZas
import Derived.Test.YtgfkmgbcajdcdaaGreatDoorZad
import Derived.Test.YtgfkmgbcajdcdaaGreatDoorZaw
import Derived.Deep.RegionHeld3
import Derived.BigGuard
import Derived.StillTailTactics
import Derived.Test.YtgfkmgbcajdcdaaGreatDoorZau
import Derived.Test.YtgfkmgbcajdcdaaGreatDoorZaz
import Derived.Test.YtgfkmgbcajdcdaaGreatDoorZao
import Derived.Test.YtgfkmgbcajdcdaaGreatDoorZaa
set_option linter.unusedVariables false
set_option maxRecDepth 100000
set_option maxHeartbeats 16000000
namespace Go.Proofs.YtgfkmgbcajdcdaaGreatDoor
open Go.RowKit

theorem rholds_at (s : Bool) (h l : Nat) (b : Int) (s' : Bool) (h' l' : Nat) (hh : N64 h) (hl : N64 l) (hh' : N64 h') (hl' : N64 l') {v : Bool} (ev : hld s h l b s' h' l' = v) (w : World) :
  Calls Tryz.prog 70 #[pfx s h l b, adr s' h' l'] w fun e w' => e = .returned (.bool v) ∧ Below w.heap.size w w' := by
 rw [← hld_com hh hl hh' hl'] at ev
 obtain ⟨V, hV⟩ : ∃ V, pvl s h l b = V := ⟨_, rfl⟩
 obtain ⟨c, hc⟩ : ∃ c, comV s h l s' h' l' = c := ⟨_, rfl⟩
 rw [hV, hc] at ev
 have H1 := lH (fun w => rpvalid_at s h l b hh hl hV w)
 have H2 := lH (fun w => rcommon_at s h l s' h' l' hh hl hh' hl' hc w)
 clear hV hc hh hl hh' hl'
 cases V
 ·simp only [Bool.false_and] at ev
  subst ev
  go_enter Tryz.func70, Tryz.ntmps70
  go_wp2_with fail
  refine cZm (H1.out _) ?_
  rintro e w1 ⟨rfl, hb⟩
  have K1 := lH ((Blk.new w 30 #[.bool s, .int .u64 h, .int .u64 l, .int .i64 b]).alloc (.cells #[.bool s', .int .u64 h', .int .u64 l'] 28) |>.below hb (by simp only [zA]; omega))
  have Q1 := lH ((Blk.new (w.alloc (.cells #[.bool s, .int .u64 h, .int .u64 l, .int .i64 b] 30)) 28 #[.bool s', .int .u64 h', .int .u64 l']).below hb (by simp only [zA]; omega))
  rw [zA] at Q1
  have L1 := lH ((((Below.refl _ w).alloc (Nat.le_refl _) _).alloc (by simp) _).trans (hb.mono (by simp only [zA]; omega)))
  have s1 : w.heap.size + 1 < w1.heap.size := by have := hb.size; simp only [zA] at this; omega
  clear hb
  obtain ⟨f0, f1, f2, f3⟩ := K1.out.c4
  obtain ⟨g0, g1, g2⟩ := Q1.out.c3
  have HC : Hid (∀ W', Below w1.heap.size w1 W' → W'.cell? ⟨w.heap.size, 0, none⟩ = some (.bool s) ∧ W'.cell? ⟨w.heap.size, 1, none⟩ = some (.int .u64 h) ∧ W'.cell? ⟨w.heap.size, 2, none⟩ = some (.int .u64 l) ∧ W'.cell? ⟨w.heap.size, 3, none⟩ = some (.int .i64 b) ∧ W'.cell? ⟨w.heap.size + 1, 0, none⟩ = some (.bool s') ∧ W'.cell? ⟨w.heap.size + 1, 1, none⟩ = some (.int .u64 h') ∧ W'.cell? ⟨w.heap.size + 1, 2, none⟩ = some (.int .u64 l')) := by
   show ∀ W', _ → _
   intro W' hB
   obtain ⟨a0, a1, a2, a3⟩ := (K1.out.below hB K1.out.lt).c4
   obtain ⟨b0, b1, b2⟩ := (Q1.out.below hB Q1.out.lt).c3
   exact ⟨a0, a1, a2, a3, b0, b1, b2⟩
  have hR : Below w1.heap.size w1 w1.drew := (Below.refl _ _).drew
  clear f0 f1 f2 f3 g0 g1 g2
  go_wp2
  refine wp_region_held_drew (S := (fun w' => w'.cell? ⟨w.heap.size, 0, none⟩ = some (.bool s) ∧ w'.cell? ⟨w.heap.size, 1, none⟩ = some (.int .u64 h) ∧ w'.cell? ⟨w.heap.size, 2, none⟩ = some (.int .u64 l) ∧ w'.cell? ⟨w.heap.size, 3, none⟩ = some (.int .i64 b) ∧ w'.cell? ⟨w.heap.size + 1, 0, none⟩ = some (.bool s') ∧ w'.cell? ⟨w.heap.size + 1, 1, none⟩ = some (.int .u64 h') ∧ w'.cell? ⟨w.heap.size + 1, 2, none⟩ = some (.int .u64 l'))) (by kernel_rfl) ?_ (fun hHeld => ?_)
  ·exact HC.out _ hR
  refine tkH 0 ?_
  refine tkH 1 ?_
  refine tkO 2 ?_
  refine tkO 3 ?_
  refine tkO 4 ?_
  refine tkO 5 ?_
  refine tkO 6 ?_
  refine tkO 7 ?_
  refine tkO 8 ?_
  refine tkH 9 ?_
  refine tkH 10 ?_
  refine wpAnyH_done (by kernel_rfl) ?_ _
  have L5 := lH (L1.out.trans (hR.mono L1.out.size))
  clear hR
  go_wp2
  go_ret
  exact ⟨ret_bool (by simp [*]), L5.out⟩
 ·simp only [Bool.true_and] at ev
  subst ev
  go_enter Tryz.func70, Tryz.ntmps70
  go_wp2_with fail
  refine cZm (H1.out _) ?_
  rintro e w1 ⟨rfl, hb⟩
  have K1 := lH ((Blk.new w 30 #[.bool s, .int .u64 h, .int .u64 l, .int .i64 b]).alloc (.cells #[.bool s', .int .u64 h', .int .u64 l'] 28) |>.below hb (by simp only [zA]; omega))
  have Q1 := lH ((Blk.new (w.alloc (.cells #[.bool s, .int .u64 h, .int .u64 l, .int .i64 b] 30)) 28 #[.bool s', .int .u64 h', .int .u64 l']).below hb (by simp only [zA]; omega))
  rw [zA] at Q1
  have L1 := lH ((((Below.refl _ w).alloc (Nat.le_refl _) _).alloc (by simp) _).trans (hb.mono (by simp only [zA]; omega)))
  have s1 : w.heap.size + 1 < w1.heap.size := by have := hb.size; simp only [zA] at this; omega
  clear hb
  obtain ⟨f0, f1, f2, f3⟩ := K1.out.c4
  obtain ⟨g0, g1, g2⟩ := Q1.out.c3
  have HC : Hid (∀ W', Below w1.heap.size w1 W' → W'.cell? ⟨w.heap.size, 0, none⟩ = some (.bool s) ∧ W'.cell? ⟨w.heap.size, 1, none⟩ = some (.int .u64 h) ∧ W'.cell? ⟨w.heap.size, 2, none⟩ = some (.int .u64 l) ∧ W'.cell? ⟨w.heap.size, 3, none⟩ = some (.int .i64 b) ∧ W'.cell? ⟨w.heap.size + 1, 0, none⟩ = some (.bool s') ∧ W'.cell? ⟨w.heap.size + 1, 1, none⟩ = some (.int .u64 h') ∧ W'.cell? ⟨w.heap.size + 1, 2, none⟩ = some (.int .u64 l')) := by
   show ∀ W', _ → _
   intro W' hB
   obtain ⟨a0, a1, a2, a3⟩ := (K1.out.below hB K1.out.lt).c4
   obtain ⟨b0, b1, b2⟩ := (Q1.out.below hB Q1.out.lt).c3
   exact ⟨a0, a1, a2, a3, b0, b1, b2⟩
  have hR : Below w1.heap.size w1 w1.drew := (Below.refl _ _).drew
  clear f0 f1 f2 f3 g0 g1 g2
  go_wp2
  refine wp_region_held_drew (S := (fun w' => w'.cell? ⟨w.heap.size, 0, none⟩ = some (.bool s) ∧ w'.cell? ⟨w.heap.size, 1, none⟩ = some (.int .u64 h) ∧ w'.cell? ⟨w.heap.size, 2, none⟩ = some (.int .u64 l) ∧ w'.cell? ⟨w.heap.size, 3, none⟩ = some (.int .i64 b) ∧ w'.cell? ⟨w.heap.size + 1, 0, none⟩ = some (.bool s') ∧ w'.cell? ⟨w.heap.size + 1, 1, none⟩ = some (.int .u64 h') ∧ w'.cell? ⟨w.heap.size + 1, 2, none⟩ = some (.int .u64 l'))) (by kernel_rfl) ?_ (fun hHeld => ?_)
  ·exact HC.out _ hR
  refine tkH 0 ?_
  refine tkH 1 ?_
  refine tkH 2 ?_
  refine tkH 3 ?_
  refine tkH 4 ?_
  refine tkH 6 ?_
  refine tkH 7 ?_
  refine wpAnyH_ready (rs := [5]) (by kernel_rfl) (by simp) ?_
  refine AllReadyH.cons (o := { dst := some 13, op := Go.Op.call { callee := Go.Callee.value (Go.Operand.func 113), args := #[Go.Operand.tmp 11, Go.Operand.tmp 12], argTypes := #[28, 28] }, type := 3, pos := "ref.go:85", after := #[{ on := 3, ground := Go.Ground.data }, { on := 4, ground := Go.Ground.data }, { on := 1, ground := Go.Ground.chain }, { on := 1, ground := Go.Ground.guard }], guard := some (1, true) }) rfl (fun K hK => ?_) AllReadyH.nil
  go_simp
  (go_at_call 113; (with_reducible refine cZm (H2.out _) ?_); rintro e W' ⟨rfl, hb⟩; replace hR := hR.trans (hb.mono hR.size); clear hb)
  go_wp2_with fail
  refine hK.out _ _ ?_ (fun hHeld => ?_)
  ·exact HC.out _ hR
  clear hK K
  try simp only [Act.put, List.setIfInBounds_toArray, List.set_cons_zero, List.set_cons_succ]
  refine tkH 8 ?_
  refine tkH 9 ?_
  refine tkH 10 ?_
  refine wpAnyH_done (by kernel_rfl) ?_ _
  have L5 := lH (L1.out.trans (hR.mono L1.out.size))
  clear hR
  go_wp2
  go_ret
  exact ⟨ret_bool (by simp [*]), L5.out⟩

end Go.Proofs.YtgfkmgbcajdcdaaGreatDoor

namespace Go.Proofs.YtgfkmgbcajdcdaaGreatDoor
open Go.RowKit

def overK (l : List PfI) (a : AdR) (k : Nat) : List PfI := ((l.take k).filter fun p => hldP p a).reverse
theorem overK_yes {l : List PfI} {a : AdR} {k : Nat} {q : PfI} (hq : l[k]? = some q) (h : hldP q a = true) : overK l a (k + 1) = [q] ++ overK l a k := by
 unfold overK
 rw [List.take_add_one, hq, List.filter_append]
 simp [h]
theorem overK_no {l : List PfI} {a : AdR} {k : Nat} {q : PfI} (hq : l[k]? = some q) (h : hldP q a = false) : overK l a (k + 1) = overK l a k := by
 unfold overK
 rw [List.take_add_one, hq, List.filter_append]
 simp [h]
theorem overK_le (l : List PfI) (a : AdR) (k : Nat) : (overK l a k).length ≤ l.length := by
 unfold overK
 rw [List.length_reverse]
 exact Nat.le_trans (List.length_filter_le _ _) (by simp; omega)
theorem overK_all (l : List PfI) (a : AdR) : overK l a l.length = overL l a := by unfold overK overL; rw [List.take_length]
theorem overD (t : Nat) (S : List Nat) (L : List TdI) (hL : L.length ≤ 1000) (a : AdR) (ha : N64 a.2.1 ∧ N64 a.2.2) (w : World) (h : RbD w t S L) :
  Calls Tryz.prog 97 #[.pointer (some ⟨t, 0, none⟩), adR a] w fun e w' => ∃ A c, e = .returned (.slice A (overI L a).length c) ∧ w'.ownsRow w.heap.size 30 4 (.slice A (overI L a).length c) (overI L a).length ((overI L a).flatMap pfC) ∧ Tch w w' [] := by
 have hnum : ∀ q ∈ prefsI L, N64 q.1.2.1 ∧ N64 q.1.2.2 := fun q hq => by
  obtain ⟨u, hu, e⟩ := prefK_sub _ hq
  rw [← e]; exact (h.num u hu).1
 have HPr := lH (fun W (hT : Tch w W []) => prefsD t S L hL W (h.tch hT (by simp)))
 have hle : (prefsI L).length ≤ L.length := prefK_le L L.length
 obtain ⟨l, hl⟩ : ∃ l, prefsI L = l := ⟨_, rfl⟩
 have HOv : Hid (overI L a = overL l a) := lH (by unfold overI; rw [hl])
 rw [hl] at HPr hnum hle
 obtain ⟨n, hn⟩ : ∃ n, l.length = n := ⟨_, rfl⟩
 rw [hn] at HPr hle
 have HN := lH hn
 have HNum := lH hnum
 have hn1 : n ≤ 1000 := by omega
 obtain ⟨s9, ah, al⟩ := a
 have HAl : Hid (N64 ah ∧ N64 al) := lH ha
 obtain ⟨xb, hxb⟩ : ∃ xb, w.heap.size = xb := ⟨_, rfl⟩
 obtain ⟨W0, hW0⟩ : ∃ W, w.alloc (.cells #[.bool s9, .int .u64 (ah : Int), .int .u64 (al : Int)] 28) = W := ⟨_, rfl⟩
 have HB0 : Hid (Blk W0 xb 28 #[.bool s9, .int .u64 (ah : Int), .int .u64 (al : Int)]) := lH (hW0 ▸ hxb ▸ Blk.new w _ _)
 have HT0 : Hid (Tch w W0 []) := lH (hW0 ▸ (Tch.refl w []).alloc _)
 have HW0 := lH (And.intro hW0 hxb)
 clear h hl hn hnum ha hxb hW0 hle
 go_enter Tryz.func97, Tryz.ntmps97
 go_wp2_with fail
 rw [HW0.out.1, HW0.out.2]
 refine cZm (HPr.out _ HT0.out) ?_
 rintro e W1 ⟨Al, cl, rfl, hol, hT1⟩
 have HOl := lH (own_mono hol (Nat.zero_le _))
 have HB1 := lH (hT1.blk HB0.out (by simp))
 have HT1 := lH (HT0.out.trans hT1)
 obtain ⟨yb, hyb⟩ : ∃ yb, W1.heap.size = yb := ⟨_, rfl⟩
 have HYb := lH hyb
 clear hol hT1 hyb
 go_wp2
 go_loopw [5, 7] (fun ov kv wr => ∃ (k f : Nat) (A1 : Option Addr) (cc : Nat), ov = .slice A1 f cc ∧ kv = .int .i64 (k : Int) ∧ k ≤ n ∧ f ≤ n ∧ Hid ((overK l (s9, ah, al) k).length = f) ∧ Hid (wr.ownsRow yb 30 4 (.slice A1 f cc) f ((overK l (s9, ah, al) k).flatMap pfC)) ∧ Hid (Tch W1 wr [])) (fun _ kv _ => n - (intOf kv).toNat)
 case atStart => exact ⟨0, 0, none, 0, rfl, rfl, Nat.zero_le _, Nat.zero_le _, lH rfl, lH ⟨rfl, .inl ⟨rfl, rfl⟩⟩, lH (Tch.refl W1 [])⟩
 case round =>
  obtain ⟨k, f, A1, cc, rfl, rfl, hk, hf, hF, hO, hT⟩ := hrel
  have k1 : IntKind.i64.wrap ((k : Int) + 1) = (k : Int) + 1 := by rw [IntKind.wrap_i64]; omega
  by_cases hkn : k < n
  ·have kI : (k : Int) < (n : Int) := by omega
   have k0 : (0 : Int) ≤ (k : Int) := by omega
   obtain ⟨q, hq⟩ : ∃ q, l[k]? = some q := ⟨_, List.getElem?_eq_getElem (by rw [HN.out]; exact hkn)⟩
   have d3 := own_tch HOl.out hT.out (by simp)
   obtain ⟨g, rfl⟩ := slice_some d3 (by omega)
   have HQn := lH (HNum.out q (List.mem_of_getElem? hq))
   obtain ⟨b, hb⟩ : ∃ b, hldP q (s9, ah, al) = b := ⟨_, rfl⟩
   have HBb := lH hb
   have HRdl : Hid (∀ W, Tch W1 W [] → (W.cell? ⟨g, k * 4, none⟩ = some (.bool q.1.1) ∧ W.cell? ⟨g, k * 4 + 1, none⟩ = some (.int .u64 (q.1.2.1 : Int)) ∧ W.cell? ⟨g, k * 4 + 2, none⟩ = some (.int .u64 (q.1.2.2 : Int)) ∧ W.cell? ⟨g, k * 4 + 3, none⟩ = some (.int .i64 q.2)) ∧ (W.cell? ⟨xb, 0, none⟩ = some (.bool s9) ∧ W.cell? ⟨xb, 1, none⟩ = some (.int .u64 (ah : Int)) ∧ W.cell? ⟨xb, 2, none⟩ = some (.int .u64 (al : Int)))) := lH (fun W hW => ⟨pf_cells (own_tch HOl.out hW (by simp)) hq, (hW.blk HB1.out (by simp)).c3⟩)
   have Hq := lH hq
   obtain ⟨⟨us, uh, ul⟩, ub⟩ := q
   have HHo := lH (fun W => rholds_at us uh ul ub s9 ah al HQn.out.1 HQn.out.2 HAl.out.1 HAl.out.2 hb W)
   have HCl := lH (HRdl.out wr hT.out)
   have HTd : Hid (Tch W1 wr.drew []) := lH hT.out.drew
   clear d3 hq hb
   go_wp2
   refine wp_region_held_drew (S := (fun W => (W.cell? ⟨g, k * 4, none⟩ = some (Value.bool us) ∧ W.cell? ⟨g, k * 4 + 1, none⟩ = some (Value.int .u64 (uh : Int)) ∧ W.cell? ⟨g, k * 4 + 2, none⟩ = some (Value.int .u64 (ul : Int)) ∧ W.cell? ⟨g, k * 4 + 3, none⟩ = some (Value.int .i64 ub)) ∧ (W.cell? ⟨xb, 0, none⟩ = some (Value.bool s9) ∧ W.cell? ⟨xb, 1, none⟩ = some (Value.int .u64 (ah : Int)) ∧ W.cell? ⟨xb, 2, none⟩ = some (Value.int .u64 (al : Int))))) (by kernel_rfl) ?_ (fun hHeld => ?_)
   ·(first | exact HCl.out | exact HRdl.out _ HT5.out)
   refine tkH 0 ?_
   refine tkH 1 ?_
   refine tkH 2 ?_
   refine tkH 3 ?_
   refine tkH 4 ?_
   refine wpAnyH_ready (rs := [5]) (by kernel_rfl) (by simp) ?_
   refine AllReadyH.cons (o := { dst := some 22, op := Go.Op.call { callee := Go.Callee.value (Go.Operand.func 70), args := #[Go.Operand.tmp 20, Go.Operand.tmp 21], argTypes := #[30, 28] }, type := 4, pos := "ref.go:190", after := #[{ on := 3, ground := Go.Ground.data }, { on := 4, ground := Go.Ground.data }], guard := none }) rfl (fun K hK => ?_) AllReadyH.nil
   go_simp
   (go_at_call 70; (with_reducible refine cZm (HHo.out _) ?_); rintro e w5 ⟨rfl, hb5⟩; have HT5 := lH (HTd.out.trans (Tch.of_below [] hb5)); have HO5 := lH (own_tch hO.out.drew (Tch.of_below [] hb5) (by simp)); clear hb5)
   go_wp2_with fail
   refine hK.out _ _ ?_ (fun hHeld => ?_)
   ·(first | exact HCl.out | exact HRdl.out _ HT5.out)
   clear hK K
   try simp only [Act.put, List.setIfInBounds_toArray, List.set_cons_zero, List.set_cons_succ]
   refine wpAnyH_done (by kernel_rfl) ?_ _
   obtain ⟨⟨z0, z1, z2, z3⟩, -⟩ := HRdl.out w5 HT5.out
   cases b with
   | false =>
    have HFl : Hid (overK l (s9, ah, al) (k + 1) = overK l (s9, ah, al) k) := lH (overK_no Hq.out HBb.out)
    go_wp2
    go_roundw
    case rel => exact ⟨k + 1, f, A1, cc, rfl, by go_num, hkn, hf, by rw [HFl.out]; exact hF, by rw [HFl.out]; exact HO5, HT5⟩
    case measure => simp [intOf]; omega
   | true =>
    have HFl : Hid (overK l (s9, ah, al) (k + 1) = [((us, uh, ul), ub)] ++ overK l (s9, ah, al) k) := lH (overK_yes Hq.out HBb.out)
    have hfm : 1 + f ≤ n := by have h1 := overK_le l (s9, ah, al) (k + 1); rw [HFl.out, List.length_append, List.length_singleton, hF.out, HN.out] at h1; exact h1
    have HNil : Hid ((w5.alloc (.cells #[.bool us, .int .u64 (uh : Int), .int .u64 (ul : Int), .int .i64 ub] 30)).ownsRow yb 30 4 (.slice none 0 0) 0 []) := lH ⟨rfl, .inl ⟨rfl, rfl⟩⟩
    have HSr := lH (src_new w5 30 [.bool us, .int .u64 (uh : Int), .int .u64 (ul : Int), .int .i64 ub])
    have HSz5 : Hid (yb ≤ (w5.alloc (.cells #[.bool us, .int .u64 (uh : Int), .int .u64 (ul : Int), .int .i64 ub] 30)).heap.size) := lH (by have h1 := HT5.out.size; have h2 := HYb.out; rw [zA]; omega)
    have HT6 := lH (HT5.out.alloc (.cells #[.bool us, .int .u64 (uh : Int), .int .u64 (ul : Int), .int .i64 ub] 30))
    have HO6 := lH (HO5.out.alloc (.cells #[.bool us, .int .u64 (uh : Int), .int .u64 (ul : Int), .int .i64 ub] 30))
    have HSzf : Hid (0 ≤ 1000000 ∧ 0 + 1 + f ≤ 1000000) := lH ⟨by omega, by omega⟩
    go_wp2_with (first
     | (at_builtin; (refine wpList_apc 40 30 (.agg #[.bool false, .int .u64 0, .int .u64 0, .int .i64 0]) 4 32 Tryz.underlying40 infoPf rfl (by decide) (by decide) _ rfl (.tmp 23) (.tmp 28) rfl yb (.slice none 0 0) 0 [] rfl HNil.out ⟨w5.heap.size, 0, none⟩ 1 [.bool us, .int .u64 (uh : Int), .int .u64 (ul : Int), .int .i64 ub] rfl rfl (fun j u hj => HSr.out j u hj) (by simp [Value.oneCell']) HSzf.out.1 HSz5.out ?_; intro v7 w7 hown hg hv; have hT67 : Tch (w5.alloc (.cells #[.bool us, .int .u64 (uh : Int), .int .u64 (ul : Int), .int .i64 ub] 30)) w7 [] := Tch.of_grown' hg (fun k e => by cases e); have HO7 := lH hown; have HT7 := lH (HT6.out.trans hT67); have HOo := lH (own_tch HO6.out hT67 (by simp)); clear hown hg hv hT67))
     | (at_builtin; (refine wpList_apm 40 30 (.agg #[.bool false, .int .u64 0, .int .u64 0, .int .i64 0]) 4 32 Tryz.underlying40 infoPf rfl (by decide) (by decide) _ rfl (.tmp 30) (.tmp 31) rfl yb v7 (0 + 1) _ rfl HO7.out yb (.slice A1 f cc) f ((overK l (s9, ah, al) k).flatMap pfC) rfl HOo.out (flat_one pf_one _) HSzf.out.2 (by have h1 := HT7.out.size; have h2 := HYb.out; omega) ?_; intro v9 w9 hown hg hv; obtain ⟨A9, c9, e9, -, -⟩ := own_sl hown; subst e9; have HO9 := lH hown; have HT9 := lH (HT7.out.trans_fre (Tch.of_grown' (S := obI v7) hg (fun k e => by rw [obI_some e]; simp)) (fun s hs => .inr (by have h1 := (own_geI HO7.out s hs).1; have h2 := HYb.out; omega))); clear hown hg hv)))
    go_roundw
    case rel => exact ⟨k + 1, 0 + 1 + f, A9, c9, rfl, by go_num, hkn, by omega, lH (by rw [HFl.out, List.length_append, hF.out]; rfl), lH (by rw [HFl.out, List.flatMap_append]; exact HO9.out), HT9⟩
    case measure => simp [intOf]; omega
  ·obtain rfl : k = n := by omega
   have kI : ¬ (k : Int) < (k : Int) := by omega
   have HAll : Hid (overK l (s9, ah, al) k = overI L (s9, ah, al)) := lH (by rw [← HN.out, overK_all, HOv.out])
   have HO9 := lH hO.out
   rw [HAll.out] at hF HO9
   have HF9 := lH hF.out
   have HT9 := lH (HT1.out.trans hT.out)
   clear hkn hk hF hO hT
   go_wp2
   go_ret
   exact ⟨A1, cc, by rw [HF9.out]; rfl, by rw [HF9.out]; exact own_mono HO9.out (by have h1 := HT1.out.size; have h2 := HYb.out; omega), HT9.out⟩
end Go.Proofs.YtgfkmgbcajdcdaaGreatDoor

namespace Go.Proofs.YtgfkmgbcajdcdaaGreatDoor
open Go.RowKit Ifs

def HopC (t p : Nat) (S T : List Nat) (L : List TdI) (st : StI) (f : Nat) : Prop := ∀ (x : PaI) (r : Nat), r + f = 9 → okX x → (N64 x.2.2.1.2.1 ∧ N64 x.2.2.1.2.2) → ∀ w, RbD w t S L → IfD w p T st →
  Calls Tryz.prog 51 #[ptrV t, ptrV p, paR x, .int .i64 (r : Int)] w fun e w' => e = .returned (.tuple #[hpR (hopF L st f x).1, .int .i64 (hopF L st f x).2]) ∧ Tch w w' []
theorem folX_yes {x y : PaI} (h : ¬ y.2.2.2.1 = 0) (k : y.2.2.1 = zeroA) : folX x y = (y.1, y.2.1, x.2.2.1, y.2.2.2.1, y.2.2.2.2) := by unfold folX; rw [if_pos ⟨h, k⟩]
theorem folX_no {x y : PaI} (h : ¬ (¬ y.2.2.2.1 = 0 ∧ y.2.2.1 = zeroA)) : folX x y = y := by unfold folX; rw [if_neg h]
theorem prefsD_le (L : List TdI) : (prefsI L).length ≤ L.length := prefK_le L _
theorem dhop_step (t p : Nat) (S T : List Nat) (L : List TdI) (st : StI) (hL : L.length ≤ 1000) (hI : InvR L) (f : Nat) (ih : ∀ f', f = f' + 1 → HopC t p S T L st f') : HopC t p S T L st f := by
 intro x r hrf hx hxn w h k
 have HOv := lH (fun W (hT : Tch w W []) => overD t S L hL x.2.2.1 hxn W (h.tch hT (by simp)))
 have HPa := lH (fun q W (hT : Tch w W []) => dpath_any t p S T L st q hL hI W (h.tch hT (by simp)) (k.tch hT (by simp)))
 have HIh : Hid (∀ f', f = f' + 1 → ∀ (y : PaI), okX y → (N64 y.2.2.1.2.1 ∧ N64 y.2.2.1.2.2) → ∀ W, Tch w W [] → Calls Tryz.prog 51 #[ptrV t, ptrV p, paR y, .int .i64 (((r + 1 : Nat) : Int))] W fun e w' => e = .returned (.tuple #[hpR (hopF L st f' y).1, .int .i64 (hopF L st f' y).2]) ∧ Tch W w' []) :=
  lH (fun f' e y hy hyn W hW => ih f' e y (r + 1) (by omega) hy hyn W (h.tch hW (by simp)) (k.tch hW (by simp)))
 have HYo : Hid (∀ z y, pathI L st z = some y → okX y ∧ (N64 y.2.2.1.2.1 ∧ N64 y.2.2.1.2.2)) := lH (fun z y hy => by
  have h1 := (pathI_some hI hy).2
  exact ⟨hI.okX _ h1, (h.num _ h1).2⟩)
 have HRf := lH hrf
 have HLn := lH hL
 obtain ⟨D, hD⟩ : ∃ D, hopF L st f x = D := ⟨_, rfl⟩
 have HD := lH hD
 rw [hD]
 have HOx := lH hx
 obtain ⟨pr, me, ⟨vs, vh, vl⟩, po, aw⟩ := x
 obtain ⟨xb, hxb⟩ : ∃ xb, w.heap.size = xb := ⟨_, rfl⟩
 obtain ⟨W1, hW1⟩ : ∃ W, w.alloc (.cells #[.int .i64 pr, .int .i64 me, .bool vs, .int .u64 (vh : Int), .int .u64 (vl : Int), .int .i64 po, .bool aw] 49) = W := ⟨_, rfl⟩
 obtain ⟨rb, hrb⟩ : ∃ rb, xb + 1 = rb := ⟨_, rfl⟩
 obtain ⟨W0, hW0⟩ : ∃ W, W1.alloc (.cells #[.int .i64 0, .bool false, .int .u64 0, .int .u64 0, .bool false] 43) = W := ⟨_, rfl⟩
 have z1 : W1.heap.size = rb := by rw [← hW1, zA, hxb, hrb]
 have hT0 : Tch w W0 [] := hW0 ▸ hW1 ▸ (((Tch.refl w []).alloc _).alloc _)
 have hX : Blk W0 xb 49 #[.int .i64 pr, .int .i64 me, .bool vs, .int .u64 (vh : Int), .int .u64 (vl : Int), .int .i64 po, .bool aw] := hW0 ▸ hW1 ▸ hxb ▸ ((Blk.new w _ _).alloc _)
 have hR : Blk W0 rb 43 #[.int .i64 0, .bool false, .int .u64 0, .int .u64 0, .bool false] := hW0 ▸ z1 ▸ (Blk.new W1 _ _)
 have HR := lH (fun W (hT : Tch W0 W []) => hT.blk hR (by simp))
 have HXb := lH (fun W (hT : Tch W0 W []) => (hT.blk hX (by simp)).p7)
 have HT0 := lH hT0
 have HW0 : Hid ((w.alloc (.cells #[.int .i64 pr, .int .i64 me, .bool vs, .int .u64 (vh : Int), .int .u64 (vl : Int), .int .i64 po, .bool aw] 49)).alloc (.cells #[.int .i64 0, .bool false, .int .u64 0, .int .u64 0, .bool false] 43) = W0) := lH (by rw [hW1, hW0])
 have HSz : Hid (w.heap.size = xb ∧ xb + 1 = rb) := lH (by omega)
 obtain ⟨x0, x1, x2, x3, x4, x5, x6⟩ := hX.p7
 have HR0 := lH (HR.out W0 (Tch.refl _ _))
 have hx' := hx.1
 have hx2 := hx.2
 simp only at hx' hx2
 clear h k hrf hL hI ih hD hxb hrb hW1 z1 hT0 hX hR hxn hx
 cases aw with
 | true =>
  obtain ⟨e1, e2⟩ := hx' rfl
  simp only [zeroA, Prod.mk.injEq] at e2
  obtain ⟨rfl, rfl, rfl⟩ := e2
  subst e1
  have HDe : Hid (D = ((0, (false, 0, 0), true), 0)) := lH (by rw [← HD.out]; cases f <;> rfl)
  clear hW0 hx' hx2
  go_enter Tryz.func51, Tryz.ntmps51
  go_wp2_with (first | (rw [HW0.out, HSz.out.1, HSz.out.2]) | (refine wpList_sta rfl 43 (.tmp 8) (.tmp 16) rfl rb 0 #[.int .i64 0, .bool false, .int .u64 0, .int .u64 0, .bool true] rfl rfl 43 _ HR0.out 5 hpSz rfl (show 0 + 5 ≤ 5 from by decide) (by simp [Value.oneCell']) ?_; intro w6 hs6; have HS6 := lH hs6; clear hs6))
  obtain ⟨z0, z1, z2, z3, z4⟩ := (sta_whole HS6.out rfl).h5
  exact bodyPost_ret (v := .tuple #[.agg #[.int .i64 0, .bool false, .int .u64 0, .int .u64 0, .bool true], .int .i64 0]) (by simp [results, Tryz.results51, go_sem, z0, z1, z2, z3, z4]) rfl ⟨by rw [HDe.out]; rfl, HT0.out.trans_fre HS6.out.tch (by simp; have := HSz.out; omega)⟩
 | false =>
  by_cases hp0 : po = 0
  ·subst hp0
   have hnb : nbX (pr, me, (vs, vh, vl), 0, false) = true := rfl
   cases f with
   | zero =>
    have HDe : Hid (D = (zeroH, 151)) := lH (by rw [← HD.out, hopF_deep hnb])
    obtain rfl : r = 9 := HRf.out
    clear hW0 hx' hx2 hnb
    go_enter Tryz.func51, Tryz.ntmps51
    go_wp2_with (first | (rw [HW0.out, HSz.out.1, HSz.out.2]) | (refine wpList_sta rfl 43 (.tmp 8) (.tmp 27) rfl rb 0 #[.int .i64 0, .bool false, .int .u64 0, .int .u64 0, .bool false] rfl rfl 43 _ HR0.out 5 hpSz rfl (show 0 + 5 ≤ 5 from by decide) (by simp [Value.oneCell']) ?_; intro w6 hs6; have HS6 := lH hs6; clear hs6))
    obtain ⟨z0, z1, z2, z3, z4⟩ := (sta_whole HS6.out rfl).h5
    exact bodyPost_ret (v := .tuple #[.agg #[.int .i64 0, .bool false, .int .u64 0, .int .u64 0, .bool false], .int .i64 151]) (by simp [results, Tryz.results51, go_sem, z0, z1, z2, z3, z4]) rfl ⟨by rw [HDe.out]; rfl, HT0.out.trans_fre HS6.out.tch (by simp; have := HSz.out; omega)⟩
   | succ f =>
    have r8 : ¬ (8 : Int) < (r : Int) := by have := HRf.out; omega
    have HNx : Hid (nxtI L st (vs, vh, vl) = (overI L (vs, vh, vl)).findSome? (pathI L st)) := lH rfl
    have hol : (overI L (vs, vh, vl)).length ≤ 1000 := by
     unfold overI overL
     rw [List.length_reverse]
     exact Nat.le_trans (List.length_filter_le _ _) (Nat.le_trans (prefsD_le L) HLn.out)
    simp only at HOv
    obtain ⟨l, hl⟩ : ∃ l, overI L (vs, vh, vl) = l := ⟨_, rfl⟩
    rw [hl] at HOv HNx hol
    obtain ⟨n, hnl⟩ : ∃ n, l.length = n := ⟨_, rfl⟩
    rw [hnl] at HOv hol
    have HNl := lH (And.intro hnl hol)
    have HNb := lH hnb
    clear hW0 hx' hx2 hnb hl hnl hol
    go_enter Tryz.func51, Tryz.ntmps51
    go_wp2_with fail
    rw [HW0.out, HSz.out.1, HSz.out.2]
    go_wp2_with fail
    refine cZm (HOv.out W0 HT0.out) ?_
    rintro e w1 ⟨A, c, rfl, ho, hT1⟩
    have HOw := lH (own_mono ho (Nat.zero_le _))
    have HT1 := lH hT1
    clear ho hT1 x0 x1 x2 x3 x4 x5 x6
    go_wp2
    go_loopw [11] (fun iv wr => ∃ i : Nat, iv = .int .i64 (i : Int) ∧ i ≤ n ∧ Hid (∀ z ∈ l.take i, pathI L st z = none) ∧ Hid (Tch w1 wr [])) (fun iv _ => n - (intOf iv).toNat)
    case atStart => exact ⟨0, rfl, Nat.zero_le _, lH (by simp), lH (Tch.refl _ _)⟩
    case round =>
     obtain ⟨i, rfl, hi, hno, hT⟩ := hrel
     by_cases hin : i < n
     ·have iI : (i : Int) < (n : Int) := by omega
      have i0 : (0 : Int) ≤ (i : Int) := by omega
      have i1 : IntKind.i64.wrap ((i : Int) + 1) = (i : Int) + 1 := by have := HNl.out; rw [IntKind.wrap_i64]; omega
      have rI : IntKind.i64.wrap ((r : Int) + 1) = ((r + 1 : Nat) : Int) := by have := HRf.out; rw [IntKind.wrap_i64]; omega
      obtain ⟨r1, hr1⟩ : ∃ r1 : Int, ((r + 1 : Nat) : Int) = r1 := ⟨_, rfl⟩
      rw [hr1] at rI
      have HR1 := lH hr1
      obtain ⟨z, hz⟩ : ∃ z, l[i]? = some z := ⟨_, List.getElem?_eq_getElem (by rw [HNl.out.1]; exact hin)⟩
      have HZ := lH hz
      have ho2 := own_tch HOw.out hT.out (by simp)
      obtain ⟨g, rfl⟩ := slice_some ho2 (by omega)
      obtain ⟨c0, c1, c2, c3⟩ := pf_cells ho2 hz
      have HTw := lH (HT0.out.trans (HT1.out.trans hT.out))
      have HPz := lH (HPa.out z wr HTw.out)
      obtain ⟨o, ho⟩ : ∃ o, pathI L st z = o := ⟨_, rfl⟩
      rw [ho] at HPz
      have HOo := lH ho
      obtain ⟨⟨zs, zh, zl⟩, zb⟩ := z
      clear hz ho2 ho hr1
      go_wp2_with fail
      refine cZm HPz.out ?_
      rintro e w4 ⟨rfl, hT4⟩
      cases o with
      | none =>
       have HTr : Hid (∀ o, Tch w1 (w4.alloc o) []) := lH (fun o => (hT.out.trans hT4).alloc o)
       simp only [bestV, zeroX, Option.getD_none, Option.isSome_none]
       clear hT4 c0 c1 c2 c3
       go_wp2
       go_roundw
       case rel => exact ⟨i + 1, by go_num, hin, lH (take_more HZ.out hno.out HOo.out), HTr.out _⟩
       case measure => simp [intOf]; omega
      | some y =>
       obtain ⟨oy, ny⟩ := HYo.out _ y HOo.out
       have HNy : Hid (nxtI L st (vs, vh, vl) = some y) := lH (by rw [HNx.out]; exact some_at HZ.out HOo.out hno.out)
       have HDy : Hid (D = hopF L st f (folX (pr, me, (vs, vh, vl), 0, false) y)) := lH (by rw [← HD.out]; exact hopF_some HNb.out HNy.out)
       have HIy := lH (HIh.out f rfl y oy ny)
       rw [HR1.out] at HIy
       have hya := oy.1
       have hyo := oy.2
       simp only [bestV, Option.getD_some, Option.isSome_some]
       obtain ⟨yr, ym, ⟨ys, yh, yl⟩, yo, ya⟩ := y
       simp only at hya hyo
       obtain ⟨vb, hvb⟩ : ∃ vb, w4.heap.size = vb := ⟨_, rfl⟩
       obtain ⟨W3, hW3⟩ : ∃ W, w4.alloc (.cells #[.int .i64 yr, .int .i64 ym, .bool ys, .int .u64 (yh : Int), .int .u64 (yl : Int), .int .i64 yo, .bool ya] 49) = W := ⟨_, rfl⟩
       have hP3 : Blk W3 vb 49 #[.int .i64 yr, .int .i64 ym, .bool ys, .int .u64 (yh : Int), .int .u64 (yl : Int), .int .i64 yo, .bool ya] := hW3 ▸ hvb ▸ Blk.new w4 _ _
       have HT3 : Hid (Tch w W3 []) := lH (HTw.out.trans (hT4.trans (hW3 ▸ (Tch.refl w4 []).alloc _)))
       have HT03 : Hid (Tch W0 W3 []) := lH (HT1.out.trans (hT.out.trans (hT4.trans (hW3 ▸ (Tch.refl w4 []).alloc _))))
       have HR3 := lH (HR.out W3 HT03.out)
       obtain ⟨x0, x1, x2, x3, x4, x5, x6⟩ := HXb.out W3 HT03.out
       obtain ⟨y0, y1, y2, y3, y4, y5, y6⟩ := hP3.p7
       have HW3 := lH (And.intro hW3 hvb)
       clear hT4 c0 c1 c2 c3 hP3 hW3 hvb oy ny
       by_cases hyp : yo = 0
       ·subst hyp
        have HDr : Hid (D = hopF L st f (yr, ym, (ys, yh, yl), 0, ya)) := lH (by rw [HDy.out, folX_no (by simp)])
        clear hya hyo
        rw [← HDr.out] at HIy
        obtain ⟨⟨hp, ⟨hs, hh, hl⟩, hw⟩, he⟩ := D
        go_wp2_with (rw [HW3.out.1, HW3.out.2])
        refine cZm (HIy.out W3 HT3.out) ?_
        rintro e w7 ⟨rfl, hT7⟩
        have HR7 := lH (hT7.blk HR3.out (by simp))
        have HT7 := lH (HT3.out.trans hT7)
        clear hT7 x0 x1 x2 x3 x4 x5 x6 y0 y1 y2 y3 y4 y5 y6
        go_wp2_with (refine wpList_sta rfl 43 (.tmp 8) (.tmp 70) rfl rb 0 #[.int .i64 hp, .bool hs, .int .u64 (hh : Int), .int .u64 (hl : Int), .bool hw] rfl rfl 43 _ HR7.out 5 hpSz rfl (show 0 + 5 ≤ 5 from by decide) (by simp [Value.oneCell']) ?_; intro w6 hs6; have HS6 := lH hs6; clear hs6)
        obtain ⟨z0, z1, z2, z3, z4⟩ := (sta_whole HS6.out rfl).h5
        exact bodyPost_ret (v := .tuple #[.agg #[.int .i64 hp, .bool hs, .int .u64 (hh : Int), .int .u64 (hl : Int), .bool hw], .int .i64 he]) (by simp [results, Tryz.results51, go_sem, z0, z1, z2, z3, z4]) rfl ⟨rfl, HT7.out.trans_fre HS6.out.tch (by simp; have := HSz.out; omega)⟩
       ·have hyp2 : (0 : Int) < yo := by omega
        have hya2 : ya = false := by cases ya with
         | false => rfl
         | true => exact absurd (hya rfl).1 hyp
        subst hya2
        obtain ⟨b, hb⟩ : ∃ b, decide ((ys, yh, yl) = zeroA) = b := ⟨_, rfl⟩
        have EQ := eqA_eql 28 _ _ (eq_adR (ys, yh, yl) zeroA hb)
        simp only [zeroA, Int.natCast_zero] at EQ
        cases b with
        | true =>
         have hvz : (ys, yh, yl) = zeroA := of_decide_eq_true hb
         have HDe : Hid (D = ((yo, (vs, vh, vl), false), 0)) := lH (by
          rw [HDy.out, folX_yes (y := (yr, ym, (ys, yh, yl), yo, false)) hyp hvz, hopF_end (by unfold nbX; simp [hyp])]; rfl)
         clear hya hyo hyp hb hvz
         go_wp2_with (first | (rw [HW3.out.1, HW3.out.2]) | (refine wpList_sta rfl 43 (.tmp 8) (.tmp 63) rfl rb 0 #[.int .i64 yo, .bool vs, .int .u64 (vh : Int), .int .u64 (vl : Int), .bool false] rfl rfl 43 _ HR3.out 5 hpSz rfl (show 0 + 5 ≤ 5 from by decide) (by simp [Value.oneCell']) ?_; intro w6 hs6; have HS6 := lH hs6; clear hs6))
         obtain ⟨z0, z1, z2, z3, z4⟩ := (sta_whole HS6.out rfl).h5
         exact bodyPost_ret (v := .tuple #[.agg #[.int .i64 yo, .bool vs, .int .u64 (vh : Int), .int .u64 (vl : Int), .bool false], .int .i64 0]) (by simp [results, Tryz.results51, go_sem, z0, z1, z2, z3, z4]) rfl ⟨by rw [HDe.out], HT3.out.trans_fre HS6.out.tch (by simp; have := HSz.out; omega)⟩
        | false =>
         have hvz : ¬ (ys, yh, yl) = zeroA := of_decide_eq_false hb
         have HDr : Hid (D = hopF L st f (yr, ym, (ys, yh, yl), yo, false)) := lH (by rw [HDy.out, folX_no (fun e => hvz e.2)])
         clear hya hyo hyp hb hvz
         rw [← HDr.out] at HIy
         obtain ⟨⟨hp, ⟨hs, hh, hl⟩, hw⟩, he⟩ := D
         go_wp2_with (rw [HW3.out.1, HW3.out.2])
         refine cZm (HIy.out W3 HT3.out) ?_
         rintro e w7 ⟨rfl, hT7⟩
         have HR7 := lH (hT7.blk HR3.out (by simp))
         have HT7 := lH (HT3.out.trans hT7)
         clear hT7 x0 x1 x2 x3 x4 x5 x6 y0 y1 y2 y3 y4 y5 y6
         go_wp2_with (refine wpList_sta rfl 43 (.tmp 8) (.tmp 70) rfl rb 0 #[.int .i64 hp, .bool hs, .int .u64 (hh : Int), .int .u64 (hl : Int), .bool hw] rfl rfl 43 _ HR7.out 5 hpSz rfl (show 0 + 5 ≤ 5 from by decide) (by simp [Value.oneCell']) ?_; intro w6 hs6; have HS6 := lH hs6; clear hs6)
         obtain ⟨z0, z1, z2, z3, z4⟩ := (sta_whole HS6.out rfl).h5
         exact bodyPost_ret (v := .tuple #[.agg #[.int .i64 hp, .bool hs, .int .u64 (hh : Int), .int .u64 (hl : Int), .bool hw], .int .i64 he]) (by simp [results, Tryz.results51, go_sem, z0, z1, z2, z3, z4]) rfl ⟨rfl, HT7.out.trans_fre HS6.out.tch (by simp; have := HSz.out; omega)⟩
     ·have iI : ¬ (i : Int) < (n : Int) := by omega
      have HNn : Hid (nxtI L st (vs, vh, vl) = none) := lH (by
       rw [HNx.out, List.findSome?_eq_none_iff]
       intro z hz
       refine hno.out z ?_
       rw [List.take_of_length_le (by rw [HNl.out.1]; omega)]
       exact hz)
      have HDe : Hid (D = (zeroH, 150)) := lH (by rw [← HD.out]; exact hopF_none HNb.out HNn.out)
      have HT03 : Hid (Tch W0 wr []) := lH (HT1.out.trans hT.out)
      have HR3 := lH (HR.out wr HT03.out)
      have HT3 := lH (HT0.out.trans HT03.out)
      go_wp2_with (refine wpList_sta rfl 43 (.tmp 8) (.tmp 72) rfl rb 0 #[.int .i64 0, .bool false, .int .u64 0, .int .u64 0, .bool false] rfl rfl 43 _ HR3.out 5 hpSz rfl (show 0 + 5 ≤ 5 from by decide) (by simp [Value.oneCell']) ?_; intro w6 hs6; have HS6 := lH hs6; clear hs6)
      obtain ⟨z0, z1, z2, z3, z4⟩ := (sta_whole HS6.out rfl).h5
      exact bodyPost_ret (v := .tuple #[.agg #[.int .i64 0, .bool false, .int .u64 0, .int .u64 0, .bool false], .int .i64 150]) (by simp [results, Tryz.results51, go_sem, z0, z1, z2, z3, z4]) rfl ⟨by rw [HDe.out]; rfl, HT3.out.trans_fre HS6.out.tch (by simp; have := HSz.out; omega)⟩
  ·have hpp : (0 : Int) < po := by omega
   have HDe : Hid (D = ((po, (vs, vh, vl), false), 0)) := lH (by rw [← HD.out, hopF_end (by unfold nbX; simp [hp0])]; rfl)
   clear hW0 hx' hx2 hp0
   go_enter Tryz.func51, Tryz.ntmps51
   go_wp2_with (first | (rw [HW0.out, HSz.out.1, HSz.out.2]) | (refine wpList_sta rfl 43 (.tmp 8) (.tmp 24) rfl rb 0 #[.int .i64 po, .bool vs, .int .u64 (vh : Int), .int .u64 (vl : Int), .bool false] rfl rfl 43 _ HR0.out 5 hpSz rfl (show 0 + 5 ≤ 5 from by decide) (by simp [Value.oneCell']) ?_; intro w6 hs6; have HS6 := lH hs6; clear hs6))
   obtain ⟨z0, z1, z2, z3, z4⟩ := (sta_whole HS6.out rfl).h5
   exact bodyPost_ret (v := .tuple #[.agg #[.int .i64 po, .bool vs, .int .u64 (vh : Int), .int .u64 (vl : Int), .bool false], .int .i64 0]) (by simp [results, Tryz.results51, go_sem, z0, z1, z2, z3, z4]) rfl ⟨by rw [HDe.out], HT0.out.trans_fre HS6.out.tch (by simp; have := HSz.out; omega)⟩
theorem dhop_any (t p : Nat) (S T : List Nat) (L : List TdI) (st : StI) (hL : L.length ≤ 1000) (hI : InvR L) : ∀ f, HopC t p S T L st f
 | 0 => dhop_step t p S T L st hL hI 0 (fun f' e => by omega)
 | f + 1 => dhop_step t p S T L st hL hI (f + 1) (fun f' e => by
  obtain rfl : f' = f := by omega
  exact dhop_any t p S T L st hL hI f')
end Go.Proofs.YtgfkmgbcajdcdaaGreatDoor

namespace Go.Proofs.YtgfkmgbcajdcdaaGreatDoor
open Go.RowKit Ifs
theorem dHop_any (t p : Nat) (S T : List Nat) (L : List TdI) (st : StI) (q : PfI) (hL : L.length ≤ 1000) (hI : InvR L) (w : World) (h : RbD w t S L) (k : IfD w p T st) :
  Calls Tryz.prog 13 #[ptrV t, ptrV p, pfR q] w fun e w' => e = .returned (.tuple #[hpR (hopI L st q).1, .int .i64 (hopI L st q).2]) ∧ Tch w w' [] := by
 have HPa := lH (fun W (hT : Tch w W []) => dpath_any t p S T L st q hL hI W (h.tch hT (by simp)) (k.tch hT (by simp)))
 obtain ⟨o, ho⟩ : ∃ o, pathI L st q = o := ⟨_, rfl⟩
 obtain ⟨D, hD⟩ : ∃ D, hopI L st q = D := ⟨_, rfl⟩
 have HD : Hid ((o = none → D = (zeroH, 150)) ∧ ∀ x, o = some x → D = hopF L st 8 x) := lH (by
  rw [← hD]
  unfold hopI
  rw [ho]
  exact ⟨fun e => (by rw [e]), fun x e => (by rw [e])⟩)
 have HX : Hid (∀ x, o = some x → ∀ W, Tch w W [] → Calls Tryz.prog 51 #[ptrV t, ptrV p, paR x, .int .i64 1] W fun e w' => e = .returned (.tuple #[hpR (hopF L st 8 x).1, .int .i64 (hopF L st 8 x).2]) ∧ Tch W w' []) := lH (fun x e W hW => by
  have h1 := (pathI_some hI (ho.trans e)).2
  exact dhop_any t p S T L st hL hI 8 x 1 rfl (hI.okX _ h1) (h.num _ h1).2 W (h.tch hW (by simp)) (k.tch hW (by simp)))
 rw [hD]
 rw [ho] at HPa
 obtain ⟨⟨qs, qh, ql⟩, qb⟩ := q
 obtain ⟨xb, hxb⟩ : ∃ xb, w.heap.size = xb := ⟨_, rfl⟩
 obtain ⟨W1, hW1⟩ : ∃ W, w.alloc (.cells #[.bool qs, .int .u64 (qh : Int), .int .u64 (ql : Int), .int .i64 qb] 30) = W := ⟨_, rfl⟩
 obtain ⟨rb, hrb⟩ : ∃ rb, xb + 1 = rb := ⟨_, rfl⟩
 obtain ⟨W0, hW0⟩ : ∃ W, W1.alloc (.cells #[.int .i64 0, .bool false, .int .u64 0, .int .u64 0, .bool false] 43) = W := ⟨_, rfl⟩
 have z1 : W1.heap.size = rb := by rw [← hW1, zA, hxb, hrb]
 have hT0 : Tch w W0 [] := hW0 ▸ hW1 ▸ (((Tch.refl w []).alloc _).alloc _)
 have hX : Blk W0 xb 30 #[.bool qs, .int .u64 (qh : Int), .int .u64 (ql : Int), .int .i64 qb] := hW0 ▸ hW1 ▸ hxb ▸ ((Blk.new w _ _).alloc _)
 have hR : Blk W0 rb 43 #[.int .i64 0, .bool false, .int .u64 0, .int .u64 0, .bool false] := hW0 ▸ z1 ▸ (Blk.new W1 _ _)
 have HR := lH (fun W (hT : Tch W0 W []) => hT.blk hR (by simp))
 have HT0 := lH hT0
 have HW0 : Hid ((w.alloc (.cells #[.bool qs, .int .u64 (qh : Int), .int .u64 (ql : Int), .int .i64 qb] 30)).alloc (.cells #[.int .i64 0, .bool false, .int .u64 0, .int .u64 0, .bool false] 43) = W0) := lH (by rw [hW1, hW0])
 have HSz : Hid (w.heap.size = xb ∧ xb + 1 = rb) := lH (by omega)
 obtain ⟨x0, x1, x2, x3⟩ := hX.c4
 clear h k hL hI hD ho hxb hrb hW1 hW0 z1 hT0 hX hR
 go_enter Tryz.func13, Tryz.ntmps13
 go_wp2_with fail
 rw [HW0.out, HSz.out.1, HSz.out.2]
 go_wp2_with fail
 refine cZm (HPa.out W0 HT0.out) ?_
 rintro e w1 ⟨rfl, hT1⟩
 clear x0 x1 x2 x3
 cases o with
 | none =>
  obtain rfl := HD.out.1 rfl
  have HA : Hid (∀ o, Tch w (w1.alloc o) []) := lH (fun o => (HT0.out.trans hT1).alloc o)
  have HRa : Hid (∀ o, Blk (w1.alloc o) rb 43 #[.int .i64 0, .bool false, .int .u64 0, .int .u64 0, .bool false]) := lH (fun o => HR.out _ (hT1.alloc o))
  simp only [bestV, zeroX, Option.getD_none, Option.isSome_none]
  clear hT1
  go_wp2_with (refine wpList_sta rfl 43 (.tmp 6) (.tmp 19) rfl rb 0 #[.int .i64 0, .bool false, .int .u64 0, .int .u64 0, .bool false] rfl rfl 43 _ (HRa.out _) 5 hpSz rfl (show 0 + 5 ≤ 5 from by decide) (by simp [Value.oneCell']) ?_; intro w6 hs6; have HS6 := lH hs6; clear hs6)
  obtain ⟨z0, z1, z2, z3, z4⟩ := (sta_whole HS6.out rfl).h5
  exact bodyPost_ret (v := .tuple #[.agg #[.int .i64 0, .bool false, .int .u64 0, .int .u64 0, .bool false], .int .i64 150]) (by simp [results, Tryz.results13, go_sem, z0, z1, z2, z3, z4]) rfl ⟨rfl, (HA.out _).trans_fre HS6.out.tch (by simp; have := HSz.out; omega)⟩
 | some x =>
  have HDe := lH (HD.out.2 x rfl)
  have HXx := lH (HX.out x rfl)
  rw [← HDe.out] at HXx
  simp only [bestV, Option.getD_some, Option.isSome_some]
  obtain ⟨⟨hp, ⟨hs, hh, hl⟩, hw⟩, he⟩ := D
  obtain ⟨yr, ym, ⟨ys, yh, yl⟩, yo, ya⟩ := x
  obtain ⟨vb, hvb⟩ : ∃ vb, w1.heap.size = vb := ⟨_, rfl⟩
  obtain ⟨W3, hW3⟩ : ∃ W, w1.alloc (.cells #[.int .i64 yr, .int .i64 ym, .bool ys, .int .u64 (yh : Int), .int .u64 (yl : Int), .int .i64 yo, .bool ya] 49) = W := ⟨_, rfl⟩
  have hP3 : Blk W3 vb 49 #[.int .i64 yr, .int .i64 ym, .bool ys, .int .u64 (yh : Int), .int .u64 (yl : Int), .int .i64 yo, .bool ya] := hW3 ▸ hvb ▸ Blk.new w1 _ _
  have HT03 : Hid (Tch W0 W3 []) := lH (hT1.trans (hW3 ▸ (Tch.refl w1 []).alloc _))
  have HT3 := lH (HT0.out.trans HT03.out)
  have HR3 := lH (HR.out W3 HT03.out)
  obtain ⟨y0, y1, y2, y3, y4, y5, y6⟩ := hP3.p7
  have HW3 := lH (And.intro hW3 hvb)
  clear hT1 hP3 hW3 hvb
  go_wp2_with (rw [HW3.out.1, HW3.out.2])
  refine cZm (HXx.out W3 HT3.out) ?_
  rintro e w7 ⟨rfl, hT7⟩
  have HR7 := lH (hT7.blk HR3.out (by simp))
  have HT7 := lH (HT3.out.trans hT7)
  clear hT7 y0 y1 y2 y3 y4 y5 y6
  go_wp2_with (refine wpList_sta rfl 43 (.tmp 6) (.tmp 24) rfl rb 0 #[.int .i64 hp, .bool hs, .int .u64 (hh : Int), .int .u64 (hl : Int), .bool hw] rfl rfl 43 _ HR7.out 5 hpSz rfl (show 0 + 5 ≤ 5 from by decide) (by simp [Value.oneCell']) ?_; intro w6 hs6; have HS6 := lH hs6; clear hs6)
  obtain ⟨z0, z1, z2, z3, z4⟩ := (sta_whole HS6.out rfl).h5
  exact bodyPost_ret (v := .tuple #[.agg #[.int .i64 hp, .bool hs, .int .u64 (hh : Int), .int .u64 (hl : Int), .bool hw], .int .i64 he]) (by simp [results, Tryz.results13, go_sem, z0, z1, z2, z3, z4]) rfl ⟨rfl, HT7.out.trans_fre HS6.out.tch (by simp; have := HSz.out; omega)⟩
end Go.Proofs.YtgfkmgbcajdcdaaGreatDoor
