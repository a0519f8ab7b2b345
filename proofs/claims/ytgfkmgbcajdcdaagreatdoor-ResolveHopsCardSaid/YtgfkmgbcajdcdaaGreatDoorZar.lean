/-
  Several texts in one: RwS, RbD, RBytes, ERCls, PBt, PRBit.
-/
import Derived.Test.YtgfkmgbcajdcdaaGreatDoorZaq
import Derived.BigQuiet
import Derived.Test.YtgfkmgbcajdcdaaGreatDoorZae
import Derived.Test.YtgfkmgbcajdcdaaGreatDoorZab
import Derived.Test.YtgfkmgbcajdcdaaGreatDoorZaa
import Derived.Deep.RegionHeld3
import Derived.Test.YtgfkmgbcajdcdaaGreatDoorZai
import Derived.Test.YtgfkmgbcajdcdaaGreatDoorZaj
set_option linter.unusedVariables false
set_option maxRecDepth 100000
set_option maxHeartbeats 16000000
namespace Go.Proofs.YtgfkmgbcajdcdaaGreatDoor
open Go.RowKit Ifs

theorem same_pf_eq (n0 h0 l0 : Int) (s0 : Bool) (W : World) : (Op.equalIn 10000 30 (.agg #[.bool s0, .int .u64 h0, .int .u64 l0, .int .i64 n0]) (.agg #[.bool s0, .int .u64 h0, .int .u64 l0, .int .i64 n0])).run Tryz.prog W = .ok true W := by
 go_simp
theorem same_pf (A B : Option Addr) (n c d : Nat) (l : List PfI) (hl : l.length = n) (hn : n ≤ 100000) (w : World) (h1 : w.ownsRow 0 30 4 (.slice A n c) n (l.flatMap pfC)) (h2 : w.ownsRow 0 30 4 (.slice B n d) n (l.flatMap pfC)) :
  Calls Tryz.prog 17 #[.slice A n c, .slice B n d] w fun e w' => e = .returned (.bool true) ∧ Tch w w' [] := by
 have HX := lH hl
 have H1 := lH (fun W (hW : Tch w W []) => own_tch h1 hW (by simp))
 have H2 := lH (fun W (hW : Tch w W []) => own_tch h2 hW (by simp))
 have bn : ((n : Int) != (n : Int)) = false := by simp
 clear hl h1 h2
 go_enter Tryz.func17, Tryz.ntmps17
 go_wp2
 clear bn
 go_loopw [5] (fun kv wr => ∃ k : Nat, kv = .int .i64 (k : Int) ∧ k ≤ n ∧ Hid (Tch w wr [])) (fun kv _ => n - (intOf kv).toNat)
 case atStart => exact ⟨0, rfl, Nat.zero_le _, lH (Tch.refl _ _)⟩
 case round =>
  obtain ⟨k, rfl, hk, hT⟩ := hrel
  have k1 : IntKind.i64.wrap ((k : Int) + 1) = (k : Int) + 1 := by rw [IntKind.wrap_i64]; omega
  by_cases hkn : k < n
  ·have kI : (k : Int) < (n : Int) := by omega
   have k0 : (0 : Int) ≤ (k : Int) := by omega
   obtain ⟨u, hu⟩ : ∃ u, l[k]? = some u := ⟨_, List.getElem?_eq_getElem (by rw [HX.out]; exact hkn)⟩
   obtain ⟨g, rfl⟩ := slice_some (H1.out wr hT.out) (by omega)
   obtain ⟨g', rfl⟩ := slice_some (H2.out wr hT.out) (by omega)
   have hat := fun q hq => flatk_at (n := 4) pf_four hu (k := q) hq
   obtain ⟨⟨s0, h0, l0⟩, n0⟩ := u

   have a0 : wr.cell? ⟨g, k * 4, none⟩ = some (Value.bool s0) := own_cellN (H1.out wr hT.out) (hat 0 (by decide))
   have b0 : wr.cell? ⟨g', k * 4, none⟩ = some (Value.bool s0) := own_cellN (H2.out wr hT.out) (hat 0 (by decide))
   have a1 : wr.cell? ⟨g, k * 4 + 1, none⟩ = some (Value.int .u64 (h0 : Int)) := own_cellN (H1.out wr hT.out) (hat 1 (by decide))
   have b1 : wr.cell? ⟨g', k * 4 + 1, none⟩ = some (Value.int .u64 (h0 : Int)) := own_cellN (H2.out wr hT.out) (hat 1 (by decide))
   have a2 : wr.cell? ⟨g, k * 4 + 2, none⟩ = some (Value.int .u64 (l0 : Int)) := own_cellN (H1.out wr hT.out) (hat 2 (by decide))
   have b2 : wr.cell? ⟨g', k * 4 + 2, none⟩ = some (Value.int .u64 (l0 : Int)) := own_cellN (H2.out wr hT.out) (hat 2 (by decide))
   have a3 : wr.cell? ⟨g, k * 4 + 3, none⟩ = some (Value.int .i64 n0) := own_cellN (H1.out wr hT.out) (hat 3 (by decide))
   have b3 : wr.cell? ⟨g', k * 4 + 3, none⟩ = some (Value.int .i64 n0) := own_cellN (H2.out wr hT.out) (hat 3 (by decide))
   have HQ := eq_neq 30 #[.bool s0, .int .u64 (h0 : Int), .int .u64 (l0 : Int), .int .i64 n0] #[.bool s0, .int .u64 (h0 : Int), .int .u64 (l0 : Int), .int .i64 n0] (same_pf_eq n0 h0 l0 s0)
   simp only [Bool.not_true] at HQ
   clear hu hat
   go_wp2
   go_quiet (fail)
   have HT8 : Hid (Tch w (wr.drewN nq) []) := lH (hT.out.drewN nq)
   clear a0 b0 a1 b1 a2 b2 a3 b3 HQ
   go_wp2
   go_roundw
   case rel => exact ⟨k + 1, by go_num, hkn, HT8⟩
   case measure => simp [intOf]; omega
  ·obtain rfl : k = n := by omega
   have kI : ¬ (k : Int) < (k : Int) := by omega
   clear hkn hk
   go_wp2
   go_ret
   exact ⟨rfl, hT.out⟩
end Go.Proofs.YtgfkmgbcajdcdaaGreatDoor

namespace Go.Proofs.YtgfkmgbcajdcdaaGreatDoor
open Go.RowKit

def tdC (t : TdI) : List Value := pfC t.1 ++ paC t.2
theorem td_eleven (t : TdI) : (tdC t).length = 11 := rfl
theorem td_one (t : TdI) : ∀ u ∈ tdC t, u.oneCell' = true := by
 intro u hu
 rcases List.mem_append.1 hu with h | h
 ·exact pf_one _ u h
 ·exact pa_one _ u h
def NumT (t : TdI) : Prop := (N64 t.1.1.2.1 ∧ N64 t.1.1.2.2) ∧ (N64 t.2.2.2.1.2.1 ∧ N64 t.2.2.2.1.2.2)
def RbD (w : World) (t : Nat) (S : List Nat) (L : List TdI) : Prop := ∃ (A : Option Addr) (c : Nat),
 S = t :: obI (.slice A L.length c) ∧ S.Nodup ∧ Blk w t 56 #[.slice A L.length c] ∧ w.ownsRow 0 113 11 (.slice A L.length c) L.length (L.flatMap tdC) ∧ ∀ u ∈ L, NumT u
section
variable {w w' : World} {t : Nat} {S T : List Nat} {L : List TdI}
theorem RbD.num (h : RbD w t S L) : ∀ u ∈ L, NumT u := by
 obtain ⟨A, c, h1, h2, h3, h4, h5⟩ := h
 exact h5
theorem RbD.lt (h : RbD w t S L) : ∀ s ∈ S, s < w.heap.size := by
 obtain ⟨A, c, rfl, h2, h3, h4, h5⟩ := h
 intro s hs
 rcases List.mem_cons.1 hs with h | h
 ·subst h; exact h3.lt
 ·exact own_lts h4 s h
theorem RbD.tch (h : RbD w t S L) (ht : Tch w w' T) (hn : ∀ s ∈ S, s ∉ T) : RbD w' t S L := by
 obtain ⟨A, c, rfl, h2, h3, h4, h5⟩ := h
 exact ⟨A, c, rfl, h2, ht.blk h3 (hn t (by simp)), own_tch h4 ht (fun s hs => hn s (by simp [hs])), h5⟩
theorem RbD.tin (h : RbD w t S L) : t ∈ S := by
 obtain ⟨A, c, rfl, -⟩ := h
 simp
theorem RbD.set_ {W : World} {M : List TdI} {A : Option Addr} {c : Nat} (h : RbD w t S L) (hT : Tch w W []) (hown : W.ownsRow w.heap.size 113 11 (.slice A M.length c) M.length (M.flatMap tdC)) (hM : ∀ u ∈ M, NumT u) :
  (∃ u, W.cell? ⟨t, 0, none⟩ = some u) ∧ W.frozen? ⟨t, 0, none⟩ = false ∧ ∃ S', RbD (W.setCell ⟨t, 0, none⟩ (.slice A M.length c)) t S' M ∧ Goes w (W.setCell ⟨t, 0, none⟩ (.slice A M.length c)) S S' := by
 have hlt := h.lt t h.tin
 obtain ⟨A0, c0, rfl, h2, h3, h4, h5⟩ := h
 have b := hT.blk h3 (by simp)
 have hg := own_geI hown
 have hTs : Tch W (W.setCell ⟨t, 0, none⟩ (.slice A M.length c)) [t] := (Tch.refl W [t]).set_ (p := ⟨t, 0, none⟩) (by simp) _
 refine ⟨⟨_, b.cell 0⟩, b.frozen 0, t :: obI (.slice A M.length c), ⟨A, c, rfl, ?_, b.set_ 0 _, own_tch (own_mono hown (Nat.zero_le _)) hTs (fun s hs hm => ?_), hM⟩, ⟨(hT.mono (by simp)).trans (hTs.mono (by simp)), fun s hs => ?_⟩⟩
 ·rw [List.nodup_cons]
  refine ⟨fun hm => ?_, ?_⟩
  ·have := (hg t hm).1; omega
  ·unfold obI; cases (Value.slice A M.length c).ownBlock <;> simp
 ·have h1 := List.mem_singleton.1 hm
  have := (hg s hs).1
  omega
 ·rcases List.mem_cons.1 hs with k | k
  ·exact .inl (by rw [k]; simp)
  ·exact .inr (hg s k).1
theorem RbD.head (h : RbD w t S L) : ∃ (A : Option Addr) (c : Nat), w.cell? ⟨t, 0, none⟩ = some (.slice A L.length c) ∧ w.ownsRow 0 113 11 (.slice A L.length c) L.length (L.flatMap tdC) ∧ t < w.heap.size ∧ w.frozen? ⟨t, 0, none⟩ = false := by
 obtain ⟨A, c, rfl, h2, h3, h4, h5⟩ := h
 exact ⟨A, c, (h3.cell 0).trans rfl, h4, h3.lt, h3.frozen 0⟩
end
theorem td_cells {w : World} {g n c k : Nat} {L : List TdI} (h : w.ownsRow 0 113 11 (.slice (some ⟨g, 0, none⟩) n c) n (L.flatMap tdC)) {u : TdI} (hu : L[k]? = some u) :
  w.cell? ⟨g, k * 11, none⟩ = some (.bool u.1.1.1) ∧ w.cell? ⟨g, k * 11 + 1, none⟩ = some (.int .u64 (u.1.1.2.1 : Int)) ∧ w.cell? ⟨g, k * 11 + 2, none⟩ = some (.int .u64 (u.1.1.2.2 : Int)) ∧ w.cell? ⟨g, k * 11 + 3, none⟩ = some (.int .i64 u.1.2) ∧
  w.cell? ⟨g, k * 11 + 4, none⟩ = some (.int .i64 u.2.1) ∧ w.cell? ⟨g, k * 11 + 5, none⟩ = some (.int .i64 u.2.2.1) ∧ w.cell? ⟨g, k * 11 + 6, none⟩ = some (.bool u.2.2.2.1.1) ∧ w.cell? ⟨g, k * 11 + 7, none⟩ = some (.int .u64 (u.2.2.2.1.2.1 : Int)) ∧
  w.cell? ⟨g, k * 11 + 8, none⟩ = some (.int .u64 (u.2.2.2.1.2.2 : Int)) ∧ w.cell? ⟨g, k * 11 + 9, none⟩ = some (.int .i64 u.2.2.2.2.1) ∧ w.cell? ⟨g, k * 11 + 10, none⟩ = some (.bool u.2.2.2.2.2) := by
 refine ⟨?_, ?_, ?_, ?_, ?_, ?_, ?_, ?_, ?_, ?_, ?_⟩
 ·exact own_cellN h ((flatk_at (f := tdC) td_eleven hu (k := 0) (by decide)).trans rfl)
 ·exact own_cellN h ((flatk_at (f := tdC) td_eleven hu (k := 1) (by decide)).trans rfl)
 ·exact own_cellN h ((flatk_at (f := tdC) td_eleven hu (k := 2) (by decide)).trans rfl)
 ·exact own_cellN h ((flatk_at (f := tdC) td_eleven hu (k := 3) (by decide)).trans rfl)
 ·exact own_cellN h ((flatk_at (f := tdC) td_eleven hu (k := 4) (by decide)).trans rfl)
 ·exact own_cellN h ((flatk_at (f := tdC) td_eleven hu (k := 5) (by decide)).trans rfl)
 ·exact own_cellN h ((flatk_at (f := tdC) td_eleven hu (k := 6) (by decide)).trans rfl)
 ·exact own_cellN h ((flatk_at (f := tdC) td_eleven hu (k := 7) (by decide)).trans rfl)
 ·exact own_cellN h ((flatk_at (f := tdC) td_eleven hu (k := 8) (by decide)).trans rfl)
 ·exact own_cellN h ((flatk_at (f := tdC) td_eleven hu (k := 9) (by decide)).trans rfl)
 ·exact own_cellN h ((flatk_at (f := tdC) td_eleven hu (k := 10) (by decide)).trans rfl)
theorem infoTd : (Tryz.prog.info? 113).map (fun i => (i.zero, i.size, i.bytes)) = some (some (.agg #[.bool false, .int .u64 0, .int .u64 0, .int .i64 0, .int .i64 0, .int .i64 0, .bool false, .int .u64 0, .int .u64 0, .int .i64 0, .bool false]), 11, 88) := by kernel_rfl
theorem newR (w : World) : Calls Tryz.prog 44 #[] w fun e w' => ∃ t S, e = .returned (.pointer (some ⟨t, 0, none⟩)) ∧ RbD w' t S [] ∧ Below w.heap.size w w' ∧ ∀ s ∈ S, w.heap.size ≤ s := by
 have HI : Hid (RbD (w.alloc (.cells #[.slice none 0 0] 56)) w.heap.size [w.heap.size] []) := lH ⟨none, 0, rfl, by simp, Blk.new _ _ _, ⟨rfl, .inl ⟨rfl, rfl⟩⟩, by simp⟩
 go_enter Tryz.func44, Tryz.ntmps44
 go_wp2
 go_ret
 exact ⟨_, _, rfl, HI.out, (Below.refl _ w).alloc (Nat.le_refl _) _, by simp⟩
end Go.Proofs.YtgfkmgbcajdcdaaGreatDoor

namespace Go.Proofs.YtgfkmgbcajdcdaaGreatDoor
open Go.RowKit

def RB (w W : World) (A : Option Addr) (n c : Nat) (zs : List Int) : Prop := RI .u8 w w.heap.size A n zs ∧ (A = none → c = 0) ∧ Below W.heap.size W w ∧ (∀ x, A = some x → W.heap.size ≤ x.block)
def RBStep (W : World) (n n' k : Nat) (width v : Int) : Prop := ∀ (w : World) (A : Option Addr) (c : Nat) (zs : List Int), RB w W A n c zs →
  Calls Tryz.prog 201 #[.slice A n c, .int .i64 width, .int .u64 v] w fun e w' => ∃ A' c', e = .returned (.slice A' n' c') ∧ RB w' W A' n' c' (zs ++ putOf k v)
theorem rbStep (W : World) (n n' k : Nat) (width v : Int) (hk : k ≤ 8) (hw : width = (k : Int)) (hn : n + k = n') (h0 : 0 < n') (hn2 : n ≤ 1000) (hv : U6 v) : RBStep W n n' k width v := by
 intro w A c zs h
 have e : wide width = k := by
  subst hw
  unfold wide; split <;> split <;> omega
 have hp := refPut_any w w.heap.size A n c v width zs h.1 h.2.1 (Nat.le_refl _) (by omega) hv.1 hv.2
 rw [e, hn] at hp
 refine cZm hp ?_
 rintro e w' ⟨A', c', rfl, h1, h2, h3⟩
 obtain ⟨b, o, e, _⟩ := h1.2.1 h0
 exact ⟨A', c', rfl, h1, (fun h => by rw [e] at h; cases h), h.2.2.1.trans (h3.mono h.2.2.1.size), fun x hx => Nat.le_trans h.2.2.1.size (h2 x hx)⟩
theorem RB.start (w : World) : RB w.drew w none 0 0 [] := ⟨RI.nil_, fun _ => rfl, (Below.refl _ _).drew, fun _ h => by cases h⟩
theorem RB.start0 (w : World) : RB w w none 0 0 [] := ⟨RI.nil_, fun _ => rfl, Below.refl _ _, fun _ h => by cases h⟩

def OutR (w : World) (zs : List Int) (e : Ending) (w' : World) : Prop :=
 ∃ A c, e = .returned (.slice A zs.length c) ∧ RI .u8 w' w'.heap.size A zs.length zs ∧ (A = none → c = 0) ∧ (∀ g, A = some g → w.heap.size ≤ g.block) ∧ Below w.heap.size w w'

theorem rbytes_any (s : Bool) (h l : Int) (hh : U6 h) (hl : U6 l) (w : World) :
  Calls Tryz.prog 176 #[adr s h l] w (OutR w (byts s h l)) := by
 obtain ⟨V, hV⟩ : ∃ V, vld s h l = V := ⟨_, rfl⟩
 have HVa := lH (rvalid_at s h l (w.alloc (.cells #[.bool s, .int .u64 h, .int .u64 l] 28)) hV)
 cases V
 ·have e : byts s h l = [] := by unfold byts; rw [hV]; rfl
  rw [e]
  clear hV e
  go_enter Tryz.func176, Tryz.ntmps176
  go_wp2_with fail
  refine cZm HVa.out ?_
  rintro e w1 ⟨rfl, hb⟩
  have L1 := ((Below.refl _ w).alloc (Nat.le_refl _) _).trans (hb.mono (by simp only [zA]; omega))
  clear hb
  go_wp2
  go_ret
  exact ⟨none, 0, rfl, RI.nil_, fun _ => rfl, (fun g e => by cases e), L1⟩
 ·cases s
  ·have e : byts false h l = putOf 4 l := by unfold byts; rw [hV]; rfl
   rw [e]
   clear hV e
   have HL := lH hl
   go_enter Tryz.func176, Tryz.ntmps176
   go_wp2_with fail
   refine cZm HVa.out ?_
   rintro e w1 ⟨rfl, hb⟩
   have R1 := lH ((Blk.new w 28 _).below hb (by simp only [zA]; omega))
   have L1 := lH (((Below.refl _ w).alloc (Nat.le_refl _) _).trans (hb.mono (by simp only [zA]; omega)))
   obtain ⟨g1, g2, g3⟩ := R1.out.c3
   have HS := lH (rbStep w1 0 4 4 4 l (by decide) rfl rfl (by decide) (by decide) HL.out w1 none 0 [] (RB.start0 w1))
   clear hb
   go_wp2_with fail
   refine cZm HS.out ?_
   rintro e w2 ⟨A, c, rfl, q1, q2, q3, q4⟩
   have Q := lH (And.intro q1 (And.intro q2 (And.intro q3 q4)))
   clear q1 q2 q3 q4 g1 g2 g3
   go_wp2
   go_ret
   obtain ⟨q1, q2, q3, q4⟩ := Q.out
   refine ⟨A, c, ?_, ?_, q2, fun g e => Nat.le_trans L1.out.size (q4 g e), L1.out.trans (q3.mono L1.out.size)⟩
   ·rw [putOf_len]; rfl
   ·rw [putOf_len]; exact q1
  ·have e : byts true h l = putOf 8 h ++ putOf 8 l := by unfold byts; rw [hV]; rfl
   rw [e]
   clear hV e
   have HL := lH hl
   have HH := lH hh
   go_enter Tryz.func176, Tryz.ntmps176
   go_wp2_with fail
   refine cZm HVa.out ?_
   rintro e w1 ⟨rfl, hb⟩
   have R1 := lH ((Blk.new w 28 _).below hb (by simp only [zA]; omega))
   have L1 := lH (((Below.refl _ w).alloc (Nat.le_refl _) _).trans (hb.mono (by simp only [zA]; omega)))
   have hs1 : w.heap.size < w1.heap.size := by have := hb.size; simp only [zA] at this; omega
   have HC : Hid (∀ W', Below w1.heap.size w1 W' → W'.cell? ⟨w.heap.size, 1, none⟩ = some (.int .u64 h) ∧ W'.cell? ⟨w.heap.size, 2, none⟩ = some (.int .u64 l)) := by
    show ∀ W', _ → _
    intro W' hB
    have := (R1.out.below hB hs1).c3
    exact ⟨this.2.1, this.2.2⟩
   obtain ⟨g1, g2, g3⟩ := R1.out.c3
   have hR := RB.start w1
   have H1 := lH (rbStep w1 0 8 8 8 h (by decide) rfl rfl (by decide) (by decide) HH.out)
   have H2 := lH (rbStep w1 8 16 8 8 l (by decide) rfl rfl (by decide) (by decide) HL.out)
   clear hb
   go_wp2
   go_region_held3 (fun w' => w'.cell? ⟨w.heap.size, 1, none⟩ = some (.int .u64 h) ∧ w'.cell? ⟨w.heap.size, 2, none⟩ = some (.int .u64 l))
    (first | exact HC.out _ hR.2.2.1 | go_keep)
    ((go_at_call 201; (first
      | (have hc := H1.out _ _ _ _ hR; (with_reducible refine cZm hc ?_); clear hc)
      | (have hc := H2.out _ _ _ _ hR; (with_reducible refine cZm hc ?_); clear hc)); rintro e W' ⟨A', c', rfl, hR⟩))
   all_goals
    have Q := lH hR
    clear hR
    go_wp2
    go_ret
    obtain ⟨q1, q2, q3, q4⟩ := Q.out
    have el : (putOf 8 h ++ putOf 8 l).length = 16 := by rw [List.length_append, putOf_len, putOf_len]
    refine ⟨_, _, ?_, ?_, q2, fun g e => Nat.le_trans L1.out.size (q4 g e), L1.out.trans (q3.mono L1.out.size)⟩
    ·rw [el]; rfl
    ·rw [el]; exact q1
end Go.Proofs.YtgfkmgbcajdcdaaGreatDoor

namespace Go.Proofs.YtgfkmgbcajdcdaaGreatDoor
open Go.RowKit

theorem rclassSix (h l : Int) (hh : U6 h) (hl : U6 l) (w : World) :
  Calls Tryz.prog 136 #[adr true h l] w fun e w' => e = .returned (.int .i64 (clsV true h l)) ∧ Below w.heap.size w w' := by
 obtain ⟨V, hV⟩ : ∃ V, clsV true h l = V := ⟨_, rfl⟩
 have hV2 : V = (if h = 0 ∧ l = 0 then 0 else if h = 0 ∧ l = 1 then 1 else if h / 18014398509481984 = 1018 then 2 else if h / 72057594037927936 = 255 then 3 else 5) := by rw [← hV]; simp [clsV]
 rw [hV]
 have HV := lH hV2
 have H1 := lH (fun W => rvalid_at true h l W (vld_six h l))
 have HB := lH (fun W => rbytes_any true h l hh hl W)
 have eb : byts true h l = putOf 8 h ++ putOf 8 l := by unfold byts; rw [vld_six]; rfl
 rw [eb] at HB
 have e1 : putOf 8 h ++ putOf 8 l = (h / 72057594037927936 % 256) :: (h / 281474976710656 % 256) :: (putOf 6 h ++ putOf 8 l) := by rw [putOf_cons, putOf_cons]; rfl
 obtain ⟨zs, hzs⟩ : ∃ zs, putOf 8 h ++ putOf 8 l = zs := ⟨_, rfl⟩
 have hln : zs.length = 16 := by rw [← hzs]; simp [putOf_len]
 rw [hzs] at e1 HB
 obtain ⟨B0, hB0⟩ : ∃ B0, h / 72057594037927936 % 256 = B0 := ⟨_, rfl⟩
 obtain ⟨B1, hB1⟩ : ∃ B1, h / 281474976710656 % 256 = B1 := ⟨_, rfl⟩
 rw [hB0, hB1] at e1
 have HLn := lH hln
 have HZ0 := lH (show zs[0]? = some B0 by rw [e1]; rfl)
 have HZ1 := lH (show zs[1]? = some B1 by rw [e1]; rfl)
 have b0 : 0 ≤ B0 ∧ B0 ≤ 255 := by omega
 have b1 : 0 ≤ B1 ∧ B1 ≤ 255 := by omega
 have d54 : h / 18014398509481984 = B0 * 4 + B1 / 64 := by have := hh.1; have := hh.2; omega
 have d56 : h / 72057594037927936 = B0 := by have := hh.1; have := hh.2; omega
 have h00 : h = 0 → B0 = 0 := by omega
 rw [d54, d56] at HV
 have HD := lH h00
 obtain ⟨b00, b01⟩ := b0
 obtain ⟨b10, b11⟩ := b1
 clear hV hV2 hh hl eb e1 hzs hln hB0 hB1 d54 d56 h00
 by_cases c0 : h = 0
 ·subst c0
  have e0 := HD.out rfl
  subst e0
  by_cases c1 : l = 0
  ·subst c1
   have HX : Hid (V = 0) := lH (by rw [HV.out]; simp)
   clear HV HD
   go_enter Tryz.func136, Tryz.ntmps136
   go_wp2_with fail
   refine cZm (H1.out _) ?_
   rintro e w1 ⟨rfl, hb⟩
   have R1 := lH ((Blk.new w 28 #[.bool true, .int .u64 0, .int .u64 0]).below hb (by simp only [zA]; omega))
   have L1 := lH (((Below.refl _ w).alloc (Nat.le_refl _) _).trans (hb.mono (by simp only [zA]; omega)))
   obtain ⟨g1, g2, g3⟩ := R1.out.c3
   clear hb
   go_wp2_with fail
   refine cZm (HB.out _) ?_
   rintro e w2 ⟨A, c, rfl, hri, -, -, hb⟩
   have R2 := lH (R1.out.below hb R1.out.lt)
   have L2 := lH (L1.out.trans (hb.mono L1.out.size))
   have HRI := lH hri
   clear hb g1 g2 g3 hri
   obtain ⟨g1, g2, g3⟩ := R2.out.c3
   obtain ⟨b, o, rfl, -, hc⟩ := HRI.out.2.1 (by rw [HLn.out]; decide)
   have d0 := hc 0 _ HZ0.out
   rw [Nat.add_zero] at d0
   have d1 := hc 1 _ HZ1.out
   rw [HLn.out]
   clear hc
   go_wp2
   go_ret
   exact ⟨ret_k HX.out.symm, L2.out⟩
  ·by_cases c2 : l = 1
   ·subst c2
    have HX : Hid (V = 1) := lH (by rw [HV.out]; simp)
    clear HV HD
    go_enter Tryz.func136, Tryz.ntmps136
    go_wp2_with fail
    refine cZm (H1.out _) ?_
    rintro e w1 ⟨rfl, hb⟩
    have R1 := lH ((Blk.new w 28 #[.bool true, .int .u64 0, .int .u64 1]).below hb (by simp only [zA]; omega))
    have L1 := lH (((Below.refl _ w).alloc (Nat.le_refl _) _).trans (hb.mono (by simp only [zA]; omega)))
    obtain ⟨g1, g2, g3⟩ := R1.out.c3
    clear hb
    go_wp2_with fail
    refine cZm (HB.out _) ?_
    rintro e w2 ⟨A, c, rfl, hri, -, -, hb⟩
    have R2 := lH (R1.out.below hb R1.out.lt)
    have L2 := lH (L1.out.trans (hb.mono L1.out.size))
    have HRI := lH hri
    clear hb g1 g2 g3 hri
    obtain ⟨g1, g2, g3⟩ := R2.out.c3
    obtain ⟨b, o, rfl, -, hc⟩ := HRI.out.2.1 (by rw [HLn.out]; decide)
    have d0 := hc 0 _ HZ0.out
    rw [Nat.add_zero] at d0
    have d1 := hc 1 _ HZ1.out
    rw [HLn.out]
    clear hc
    go_wp2
    go_ret
    exact ⟨ret_k HX.out.symm, L2.out⟩
   ·have HX : Hid (V = 5) := lH (by rw [HV.out, if_neg (by omega), if_neg (by omega), if_neg (by omega), if_neg (by omega)])
    clear HV HD
    go_enter Tryz.func136, Tryz.ntmps136
    go_wp2_with fail
    refine cZm (H1.out _) ?_
    rintro e w1 ⟨rfl, hb⟩
    have R1 := lH ((Blk.new w 28 #[.bool true, .int .u64 0, .int .u64 l]).below hb (by simp only [zA]; omega))
    have L1 := lH (((Below.refl _ w).alloc (Nat.le_refl _) _).trans (hb.mono (by simp only [zA]; omega)))
    obtain ⟨g1, g2, g3⟩ := R1.out.c3
    clear hb
    go_wp2_with fail
    refine cZm (HB.out _) ?_
    rintro e w2 ⟨A, c, rfl, hri, -, -, hb⟩
    have R2 := lH (R1.out.below hb R1.out.lt)
    have L2 := lH (L1.out.trans (hb.mono L1.out.size))
    have HRI := lH hri
    clear hb g1 g2 g3 hri
    obtain ⟨g1, g2, g3⟩ := R2.out.c3
    obtain ⟨b, o, rfl, -, hc⟩ := HRI.out.2.1 (by rw [HLn.out]; decide)
    have d0 := hc 0 _ HZ0.out
    rw [Nat.add_zero] at d0
    have d1 := hc 1 _ HZ1.out
    rw [HLn.out]
    clear hc
    go_wp2
    go_ret
    exact ⟨ret_k HX.out.symm, L2.out⟩
 ·by_cases c1 : B0 = 254
  ·by_cases c2 : B1 / 64 = 2
   ·have HX : Hid (V = 2) := lH (by rw [HV.out, if_neg (by omega), if_neg (by omega), if_pos (by omega)])
    clear HV HD
    go_enter Tryz.func136, Tryz.ntmps136
    go_wp2_with fail
    refine cZm (H1.out _) ?_
    rintro e w1 ⟨rfl, hb⟩
    have R1 := lH ((Blk.new w 28 #[.bool true, .int .u64 h, .int .u64 l]).below hb (by simp only [zA]; omega))
    have L1 := lH (((Below.refl _ w).alloc (Nat.le_refl _) _).trans (hb.mono (by simp only [zA]; omega)))
    obtain ⟨g1, g2, g3⟩ := R1.out.c3
    clear hb
    go_wp2_with fail
    refine cZm (HB.out _) ?_
    rintro e w2 ⟨A, c, rfl, hri, -, -, hb⟩
    have R2 := lH (R1.out.below hb R1.out.lt)
    have L2 := lH (L1.out.trans (hb.mono L1.out.size))
    have HRI := lH hri
    clear hb g1 g2 g3 hri
    obtain ⟨g1, g2, g3⟩ := R2.out.c3
    obtain ⟨b, o, rfl, -, hc⟩ := HRI.out.2.1 (by rw [HLn.out]; decide)
    have d0 := hc 0 _ HZ0.out
    rw [Nat.add_zero] at d0
    have d1 := hc 1 _ HZ1.out
    rw [HLn.out]
    clear hc
    go_wp2
    go_ret
    exact ⟨ret_k HX.out.symm, L2.out⟩
   ·have HX : Hid (V = 5) := lH (by rw [HV.out, if_neg (by omega), if_neg (by omega), if_neg (by omega), if_neg (by omega)])
    clear HV HD
    go_enter Tryz.func136, Tryz.ntmps136
    go_wp2_with fail
    refine cZm (H1.out _) ?_
    rintro e w1 ⟨rfl, hb⟩
    have R1 := lH ((Blk.new w 28 #[.bool true, .int .u64 h, .int .u64 l]).below hb (by simp only [zA]; omega))
    have L1 := lH (((Below.refl _ w).alloc (Nat.le_refl _) _).trans (hb.mono (by simp only [zA]; omega)))
    obtain ⟨g1, g2, g3⟩ := R1.out.c3
    clear hb
    go_wp2_with fail
    refine cZm (HB.out _) ?_
    rintro e w2 ⟨A, c, rfl, hri, -, -, hb⟩
    have R2 := lH (R1.out.below hb R1.out.lt)
    have L2 := lH (L1.out.trans (hb.mono L1.out.size))
    have HRI := lH hri
    clear hb g1 g2 g3 hri
    obtain ⟨g1, g2, g3⟩ := R2.out.c3
    obtain ⟨b, o, rfl, -, hc⟩ := HRI.out.2.1 (by rw [HLn.out]; decide)
    have d0 := hc 0 _ HZ0.out
    rw [Nat.add_zero] at d0
    have d1 := hc 1 _ HZ1.out
    rw [HLn.out]
    clear hc
    go_wp2
    go_ret
    exact ⟨ret_k HX.out.symm, L2.out⟩
  ·by_cases c2 : B0 = 255
   ·have HX : Hid (V = 3) := lH (by rw [HV.out, if_neg (by omega), if_neg (by omega), if_neg (by omega), if_pos c2])
    clear HV HD
    go_enter Tryz.func136, Tryz.ntmps136
    go_wp2_with fail
    refine cZm (H1.out _) ?_
    rintro e w1 ⟨rfl, hb⟩
    have R1 := lH ((Blk.new w 28 #[.bool true, .int .u64 h, .int .u64 l]).below hb (by simp only [zA]; omega))
    have L1 := lH (((Below.refl _ w).alloc (Nat.le_refl _) _).trans (hb.mono (by simp only [zA]; omega)))
    obtain ⟨g1, g2, g3⟩ := R1.out.c3
    clear hb
    go_wp2_with fail
    refine cZm (HB.out _) ?_
    rintro e w2 ⟨A, c, rfl, hri, -, -, hb⟩
    have R2 := lH (R1.out.below hb R1.out.lt)
    have L2 := lH (L1.out.trans (hb.mono L1.out.size))
    have HRI := lH hri
    clear hb g1 g2 g3 hri
    obtain ⟨g1, g2, g3⟩ := R2.out.c3
    obtain ⟨b, o, rfl, -, hc⟩ := HRI.out.2.1 (by rw [HLn.out]; decide)
    have d0 := hc 0 _ HZ0.out
    rw [Nat.add_zero] at d0
    have d1 := hc 1 _ HZ1.out
    rw [HLn.out]
    clear hc
    go_wp2
    go_ret
    exact ⟨ret_k HX.out.symm, L2.out⟩
   ·have HX : Hid (V = 5) := lH (by rw [HV.out, if_neg (by omega), if_neg (by omega), if_neg (by omega), if_neg c2])
    clear HV HD
    go_enter Tryz.func136, Tryz.ntmps136
    go_wp2_with fail
    refine cZm (H1.out _) ?_
    rintro e w1 ⟨rfl, hb⟩
    have R1 := lH ((Blk.new w 28 #[.bool true, .int .u64 h, .int .u64 l]).below hb (by simp only [zA]; omega))
    have L1 := lH (((Below.refl _ w).alloc (Nat.le_refl _) _).trans (hb.mono (by simp only [zA]; omega)))
    obtain ⟨g1, g2, g3⟩ := R1.out.c3
    clear hb
    go_wp2_with fail
    refine cZm (HB.out _) ?_
    rintro e w2 ⟨A, c, rfl, hri, -, -, hb⟩
    have R2 := lH (R1.out.below hb R1.out.lt)
    have L2 := lH (L1.out.trans (hb.mono L1.out.size))
    have HRI := lH hri
    clear hb g1 g2 g3 hri
    obtain ⟨g1, g2, g3⟩ := R2.out.c3
    obtain ⟨b, o, rfl, -, hc⟩ := HRI.out.2.1 (by rw [HLn.out]; decide)
    have d0 := hc 0 _ HZ0.out
    rw [Nat.add_zero] at d0
    have d1 := hc 1 _ HZ1.out
    rw [HLn.out]
    clear hc
    go_wp2
    go_ret
    exact ⟨ret_k HX.out.symm, L2.out⟩

theorem rclassFour (l : Int) (h0 : 0 ≤ l) (h1 : l ≤ 4294967295) (w : World) :
  Calls Tryz.prog 136 #[adr false 0 l] w fun e w' => e = .returned (.int .i64 (clsV false 0 l)) ∧ Below w.heap.size w w' := by
 obtain ⟨V, hV⟩ : ∃ V, clsV false 0 l = V := ⟨_, rfl⟩
 have hV2 : V = (if l = 0 then 0 else if l / 16777216 = 127 then 1 else if l / 65536 = 43518 then 2 else if l = 4294967295 then 4 else if l / 268435456 = 14 then 3 else 5) := by rw [← hV]; simp [clsV, h1]
 rw [hV]
 have HV := lH hV2
 have hvl : vld false 0 l = true := by simp [vld, h1]
 have H1 := lH (fun W => rvalid_at false 0 l W hvl)
 have HB := lH (fun W => rbytes_any false 0 l ⟨by omega, by omega⟩ ⟨by omega, by omega⟩ W)
 have eb : byts false 0 l = putOf 4 l := by unfold byts; rw [hvl]; rfl
 rw [eb] at HB
 have e1 : putOf 4 l = (l / 16777216 % 256) :: (l / 65536 % 256) :: putOf 2 l := by rw [putOf_cons, putOf_cons]; rfl
 obtain ⟨zs, hzs⟩ : ∃ zs, putOf 4 l = zs := ⟨_, rfl⟩
 have hln : zs.length = 4 := by rw [← hzs]; simp [putOf_len]
 rw [hzs] at e1 HB
 obtain ⟨B0, hB0⟩ : ∃ B0, l / 16777216 % 256 = B0 := ⟨_, rfl⟩
 obtain ⟨B1, hB1⟩ : ∃ B1, l / 65536 % 256 = B1 := ⟨_, rfl⟩
 rw [hB0, hB1] at e1
 have HLn := lH hln
 have HZ0 := lH (show zs[0]? = some B0 by rw [e1]; rfl)
 have HZ1 := lH (show zs[1]? = some B1 by rw [e1]; rfl)
 have d24 : l / 16777216 = B0 := by omega
 have d16 : l / 65536 = B0 * 256 + B1 := by omega
 have d28 : l / 268435456 = B0 / 16 := by omega
 have hff : l = 4294967295 → B0 = 255 := by omega
 have b0 : 0 ≤ B0 ∧ B0 ≤ 255 := by omega
 have b1 : 0 ≤ B1 ∧ B1 ≤ 255 := by omega
 rw [d24, d16, d28] at HV
 have HD := lH hff
 obtain ⟨b00, b01⟩ := b0
 obtain ⟨b10, b11⟩ := b1
 clear hV hV2 hvl eb e1 hzs hln hB0 hB1 d24 d16 d28 hff
 by_cases c0 : l = 0
 ·subst c0
  have HX : Hid (V = 0) := lH (by rw [HV.out, if_pos rfl])
  clear HV HD
  go_enter Tryz.func136, Tryz.ntmps136
  go_wp2_with fail
  refine cZm (H1.out _) ?_
  rintro e w1 ⟨rfl, hb⟩
  have R1 := lH ((Blk.new w 28 #[.bool false, .int .u64 0, .int .u64 0]).below hb (by simp only [zA]; omega))
  have L1 := lH (((Below.refl _ w).alloc (Nat.le_refl _) _).trans (hb.mono (by simp only [zA]; omega)))
  obtain ⟨g1, g2, g3⟩ := R1.out.c3
  clear hb
  go_wp2_with fail
  refine cZm (HB.out _) ?_
  rintro e w2 ⟨A, c, rfl, hri, -, -, hb⟩
  have R2 := lH (R1.out.below hb R1.out.lt)
  have L2 := lH (L1.out.trans (hb.mono L1.out.size))
  have HRI := lH hri
  clear hb g1 g2 g3 hri
  obtain ⟨g1, g2, g3⟩ := R2.out.c3
  obtain ⟨b, o, rfl, -, hc⟩ := HRI.out.2.1 (by rw [HLn.out]; decide)
  have d0 := hc 0 _ HZ0.out
  rw [Nat.add_zero] at d0
  have d1 := hc 1 _ HZ1.out
  rw [HLn.out]
  clear hc
  go_wp2
  go_ret
  exact ⟨ret_k HX.out.symm, L2.out⟩
 ·by_cases c1 : B0 = 127
  ·have HX : Hid (V = 1) := lH (by rw [HV.out, if_neg c0, if_pos c1])
   clear HV HD
   go_enter Tryz.func136, Tryz.ntmps136
   go_wp2_with fail
   refine cZm (H1.out _) ?_
   rintro e w1 ⟨rfl, hb⟩
   have R1 := lH ((Blk.new w 28 #[.bool false, .int .u64 0, .int .u64 l]).below hb (by simp only [zA]; omega))
   have L1 := lH (((Below.refl _ w).alloc (Nat.le_refl _) _).trans (hb.mono (by simp only [zA]; omega)))
   obtain ⟨g1, g2, g3⟩ := R1.out.c3
   clear hb
   go_wp2_with fail
   refine cZm (HB.out _) ?_
   rintro e w2 ⟨A, c, rfl, hri, -, -, hb⟩
   have R2 := lH (R1.out.below hb R1.out.lt)
   have L2 := lH (L1.out.trans (hb.mono L1.out.size))
   have HRI := lH hri
   clear hb g1 g2 g3 hri
   obtain ⟨g1, g2, g3⟩ := R2.out.c3
   obtain ⟨b, o, rfl, -, hc⟩ := HRI.out.2.1 (by rw [HLn.out]; decide)
   have d0 := hc 0 _ HZ0.out
   rw [Nat.add_zero] at d0
   have d1 := hc 1 _ HZ1.out
   rw [HLn.out]
   clear hc
   go_wp2
   go_ret
   exact ⟨ret_k HX.out.symm, L2.out⟩
  ·by_cases c2 : B0 = 169
   ·by_cases c3 : B1 = 254
    ·have HX : Hid (V = 2) := lH (by rw [HV.out, if_neg c0, if_neg c1, if_pos (by omega)])
     clear HV HD
     go_enter Tryz.func136, Tryz.ntmps136
     go_wp2_with fail
     refine cZm (H1.out _) ?_
     rintro e w1 ⟨rfl, hb⟩
     have R1 := lH ((Blk.new w 28 #[.bool false, .int .u64 0, .int .u64 l]).below hb (by simp only [zA]; omega))
     have L1 := lH (((Below.refl _ w).alloc (Nat.le_refl _) _).trans (hb.mono (by simp only [zA]; omega)))
     obtain ⟨g1, g2, g3⟩ := R1.out.c3
     clear hb
     go_wp2_with fail
     refine cZm (HB.out _) ?_
     rintro e w2 ⟨A, c, rfl, hri, -, -, hb⟩
     have R2 := lH (R1.out.below hb R1.out.lt)
     have L2 := lH (L1.out.trans (hb.mono L1.out.size))
     have HRI := lH hri
     clear hb g1 g2 g3 hri
     obtain ⟨g1, g2, g3⟩ := R2.out.c3
     obtain ⟨b, o, rfl, -, hc⟩ := HRI.out.2.1 (by rw [HLn.out]; decide)
     have d0 := hc 0 _ HZ0.out
     rw [Nat.add_zero] at d0
     have d1 := hc 1 _ HZ1.out
     rw [HLn.out]
     clear hc
     go_wp2
     go_ret
     exact ⟨ret_k HX.out.symm, L2.out⟩
    ·have n1 : ¬ l = 4294967295 := fun e => by have := HD.out e; omega
     have HX : Hid (V = 5) := lH (by rw [HV.out, if_neg c0, if_neg c1, if_neg (by omega), if_neg n1, if_neg (by omega)])
     clear HV HD
     go_enter Tryz.func136, Tryz.ntmps136
     go_wp2_with fail
     refine cZm (H1.out _) ?_
     rintro e w1 ⟨rfl, hb⟩
     have R1 := lH ((Blk.new w 28 #[.bool false, .int .u64 0, .int .u64 l]).below hb (by simp only [zA]; omega))
     have L1 := lH (((Below.refl _ w).alloc (Nat.le_refl _) _).trans (hb.mono (by simp only [zA]; omega)))
     obtain ⟨g1, g2, g3⟩ := R1.out.c3
     clear hb
     go_wp2_with fail
     refine cZm (HB.out _) ?_
     rintro e w2 ⟨A, c, rfl, hri, -, -, hb⟩
     have R2 := lH (R1.out.below hb R1.out.lt)
     have L2 := lH (L1.out.trans (hb.mono L1.out.size))
     have HRI := lH hri
     clear hb g1 g2 g3 hri
     obtain ⟨g1, g2, g3⟩ := R2.out.c3
     obtain ⟨b, o, rfl, -, hc⟩ := HRI.out.2.1 (by rw [HLn.out]; decide)
     have d0 := hc 0 _ HZ0.out
     rw [Nat.add_zero] at d0
     have d1 := hc 1 _ HZ1.out
     rw [HLn.out]
     clear hc
     go_wp2
     go_ret
     exact ⟨ret_k HX.out.symm, L2.out⟩
   ·by_cases c3 : l = 4294967295
    ·have e255 := HD.out c3
     subst c3
     have HX : Hid (V = 4) := lH (by rw [HV.out, if_neg c0, if_neg c1, if_neg (by omega), if_pos rfl])
     clear HV HD
     go_enter Tryz.func136, Tryz.ntmps136
     go_wp2_with fail
     refine cZm (H1.out _) ?_
     rintro e w1 ⟨rfl, hb⟩
     have R1 := lH ((Blk.new w 28 #[.bool false, .int .u64 0, .int .u64 4294967295]).below hb (by simp only [zA]; omega))
     have L1 := lH (((Below.refl _ w).alloc (Nat.le_refl _) _).trans (hb.mono (by simp only [zA]; omega)))
     obtain ⟨g1, g2, g3⟩ := R1.out.c3
     clear hb
     go_wp2_with fail
     refine cZm (HB.out _) ?_
     rintro e w2 ⟨A, c, rfl, hri, -, -, hb⟩
     have R2 := lH (R1.out.below hb R1.out.lt)
     have L2 := lH (L1.out.trans (hb.mono L1.out.size))
     have HRI := lH hri
     clear hb g1 g2 g3 hri
     obtain ⟨g1, g2, g3⟩ := R2.out.c3
     obtain ⟨b, o, rfl, -, hc⟩ := HRI.out.2.1 (by rw [HLn.out]; decide)
     have d0 := hc 0 _ HZ0.out
     rw [Nat.add_zero] at d0
     have d1 := hc 1 _ HZ1.out
     rw [HLn.out]
     clear hc
     go_wp2
     go_ret
     exact ⟨ret_k HX.out.symm, L2.out⟩
    ·by_cases c4 : B0 / 16 = 14
     ·have HX : Hid (V = 3) := lH (by rw [HV.out, if_neg c0, if_neg c1, if_neg (by omega), if_neg c3, if_pos c4])
      clear HV HD
      go_enter Tryz.func136, Tryz.ntmps136
      go_wp2_with fail
      refine cZm (H1.out _) ?_
      rintro e w1 ⟨rfl, hb⟩
      have R1 := lH ((Blk.new w 28 #[.bool false, .int .u64 0, .int .u64 l]).below hb (by simp only [zA]; omega))
      have L1 := lH (((Below.refl _ w).alloc (Nat.le_refl _) _).trans (hb.mono (by simp only [zA]; omega)))
      obtain ⟨g1, g2, g3⟩ := R1.out.c3
      clear hb
      go_wp2_with fail
      refine cZm (HB.out _) ?_
      rintro e w2 ⟨A, c, rfl, hri, -, -, hb⟩
      have R2 := lH (R1.out.below hb R1.out.lt)
      have L2 := lH (L1.out.trans (hb.mono L1.out.size))
      have HRI := lH hri
      clear hb g1 g2 g3 hri
      obtain ⟨g1, g2, g3⟩ := R2.out.c3
      obtain ⟨b, o, rfl, -, hc⟩ := HRI.out.2.1 (by rw [HLn.out]; decide)
      have d0 := hc 0 _ HZ0.out
      rw [Nat.add_zero] at d0
      have d1 := hc 1 _ HZ1.out
      rw [HLn.out]
      clear hc
      go_wp2
      go_ret
      exact ⟨ret_k HX.out.symm, L2.out⟩
     ·have HX : Hid (V = 5) := lH (by rw [HV.out, if_neg c0, if_neg c1, if_neg (by omega), if_neg c3, if_neg c4])
      clear HV HD
      go_enter Tryz.func136, Tryz.ntmps136
      go_wp2_with fail
      refine cZm (H1.out _) ?_
      rintro e w1 ⟨rfl, hb⟩
      have R1 := lH ((Blk.new w 28 #[.bool false, .int .u64 0, .int .u64 l]).below hb (by simp only [zA]; omega))
      have L1 := lH (((Below.refl _ w).alloc (Nat.le_refl _) _).trans (hb.mono (by simp only [zA]; omega)))
      obtain ⟨g1, g2, g3⟩ := R1.out.c3
      clear hb
      go_wp2_with fail
      refine cZm (HB.out _) ?_
      rintro e w2 ⟨A, c, rfl, hri, -, -, hb⟩
      have R2 := lH (R1.out.below hb R1.out.lt)
      have L2 := lH (L1.out.trans (hb.mono L1.out.size))
      have HRI := lH hri
      clear hb g1 g2 g3 hri
      obtain ⟨g1, g2, g3⟩ := R2.out.c3
      obtain ⟨b, o, rfl, -, hc⟩ := HRI.out.2.1 (by rw [HLn.out]; decide)
      have d0 := hc 0 _ HZ0.out
      rw [Nat.add_zero] at d0
      have d1 := hc 1 _ HZ1.out
      rw [HLn.out]
      clear hc
      go_wp2
      go_ret
      exact ⟨ret_k HX.out.symm, L2.out⟩

theorem rclass_any (s : Bool) (h l : Int) (hh : U6 h) (hl : U6 l) (w : World) :
  Calls Tryz.prog 136 #[adr s h l] w fun e w' => e = .returned (.int .i64 (clsV s h l)) ∧ Below w.heap.size w w' := by
 obtain ⟨V, hV⟩ : ∃ V, vld s h l = V := ⟨_, rfl⟩
 cases V
 ·have H1 := lH (fun W => rvalid_at s h l W hV)
  have HX := lH (cls_no hV)
  clear hV
  go_enter Tryz.func136, Tryz.ntmps136
  go_wp2_with fail
  refine cZm (H1.out _) ?_
  rintro e w1 ⟨rfl, hb⟩
  have L1 := ((Below.refl _ w).alloc (Nat.le_refl _) _).trans (hb.mono (by simp only [zA]; omega))
  clear hb
  go_wp2
  go_ret
  exact ⟨ret_k (by rw [HX.out]), L1⟩
 ·cases s
  ·obtain ⟨rfl, h4⟩ := vld_four hV
   exact rclassFour l hl.1 h4 w
  ·exact rclassSix h l hh hl w
theorem rclass_at (s : Bool) (h l : Int) (hh : U6 h) (hl : U6 l) {v : Int} (hv : clsV s h l = v) (w : World) :
  Calls Tryz.prog 136 #[adr s h l] w fun e w' => e = .returned (.int .i64 v) ∧ Below w.heap.size w w' := by
 subst hv; exact rclass_any s h l hh hl w
end Go.Proofs.YtgfkmgbcajdcdaaGreatDoor

namespace Go.Proofs.YtgfkmgbcajdcdaaGreatDoor
open Go.RowKit

theorem ret_i64 {a b : Int} (h : a = b) : Ending.returned (.int .i64 a) = .returned (.int .i64 b) := by rw [h]
end Go.Proofs.YtgfkmgbcajdcdaaGreatDoor

namespace Go.Proofs.YtgfkmgbcajdcdaaGreatDoor
open Go.RowKit

theorem rwidth_at (s : Bool) (h l W : Int) (hW : (wd s : Int) = W) (w : World) :
  Calls Tryz.prog 103 #[adr s h l] w fun e w' => e = .returned (.int .i64 W) ∧ Below w.heap.size w w' := by
 subst hW
 cases s
 all_goals
  go_enter Tryz.func103, Tryz.ntmps103
  go_wp2
  go_ret
  exact ⟨rfl, (Below.refl _ _).alloc (Nat.le_refl _) _⟩
theorem bit_of_byte (x m r : Nat) (hr : r < 8) : x / 256 ^ m % 256 / 2 ^ r % 2 = x / 2 ^ (8 * m + r) % 2 := by
 have e : (256 : Nat) ^ m = 2 ^ (8 * m) := by rw [show (256 : Nat) = 2 ^ 8 from rfl, ← Nat.pow_mul]
 rw [div_pow_add, e]
 generalize x / 2 ^ (8 * m) = y
 have h : r = 0 ∨ r = 1 ∨ r = 2 ∨ r = 3 ∨ r = 4 ∨ r = 5 ∨ r = 6 ∨ r = 7 := by omega
 rcases h with rfl | rfl | rfl | rfl | rfl | rfl | rfl | rfl <;> simp <;> omega
theorem putOf_at (k : Nat) (v j : Nat) (hj : j < k) : (putOf k (v : Int))[j]? = some (((v / 256 ^ (k - 1 - j) % 256 : Nat)) : Int) := by
 have h := putOf_get k (v : Int) (k - 1 - j) (by omega)
 rw [show k - 1 - (k - 1 - j) = j by omega] at h
 rw [h]
 congr 1
theorem byts_at {s : Bool} {h l : Nat} (hh : N64 h) (hl : N64 l) (v : vld s h l = true) (i : Nat) (hi : i < wd s) :
  ∃ c : Nat, c < 256 ∧ (byts s h l)[i / 8]? = some (c : Int) ∧ c / 2 ^ (7 - i % 8) % 2 = bt (nm h l) (wd s) i := by
 unfold byts
 rw [if_pos v]
 cases s
 ·have w32 : wd false = 32 := rfl
  rw [w32] at hi ⊢
  rw [if_neg (by decide)]
  refine ⟨l / 256 ^ (4 - 1 - i / 8) % 256, Nat.mod_lt _ (by decide), putOf_at 4 l (i / 8) (by omega), ?_⟩
  rw [bit_of_byte _ _ _ (by omega)]
  unfold bt
  rw [show 8 * (4 - 1 - i / 8) + (7 - i % 8) = 32 - 1 - i by omega, nm_bit_lo h l _ (by omega)]
 ·have w128 : wd true = 128 := rfl
  rw [w128] at hi ⊢
  rw [if_pos rfl]
  by_cases h64 : i < 64
  ·refine ⟨h / 256 ^ (8 - 1 - i / 8) % 256, Nat.mod_lt _ (by decide), ?_, ?_⟩
   ·rw [List.getElem?_append_left (by rw [putOf_len]; omega)]
    exact putOf_at 8 h (i / 8) (by omega)
   ·rw [bit_of_byte _ _ _ (by omega)]
    unfold bt
    rw [show 8 * (8 - 1 - i / 8) + (7 - i % 8) = 63 - i by omega, show 128 - 1 - i = 64 + (63 - i) by omega, nm_bit_hi h l _ hl.lt]
  ·refine ⟨l / 256 ^ (8 - 1 - (i / 8 - 8)) % 256, Nat.mod_lt _ (by decide), ?_, ?_⟩
   ·rw [List.getElem?_append_right (by rw [putOf_len]; omega), putOf_len]
    exact putOf_at 8 l (i / 8 - 8) (by omega)
   ·rw [bit_of_byte _ _ _ (by omega)]
    unfold bt
    rw [show 8 * (8 - 1 - (i / 8 - 8)) + (7 - i % 8) = 128 - 1 - i by omega, nm_bit_lo h l _ (by omega)]

theorem rbit_in (s : Bool) (h l i : Nat) (hh : N64 h) (hl : N64 l) (v : vld s h l = true) (hi : i < wd s) (w : World) :
  Calls Tryz.prog 141 #[adr s h l, .int .i64 i] w fun e w' => e = .returned (.int .i64 ((bt (nm h l) (wd s) i : Nat) : Int)) ∧ Below w.heap.size w w' := by
 obtain ⟨c, hc, hcb, hct⟩ := byts_at hh hl v i hi
 obtain ⟨W, hW⟩ : ∃ W, (wd s : Int) = W := ⟨_, rfl⟩
 have iW : (i : Int) < W := by rw [← hW]; omega
 have i0 : (0 : Int) ≤ i := by omega
 have W1 : W ≤ 128 := by rw [← hW]; unfold wd; split <;> omega
 have HV := lH (fun w => rvalid_at s h l w v)
 have HW := lH (fun w => rwidth_at s h l W hW w)
 have HB := lH (fun w => rbytes_any s h l (show U6 h by unfold N64 at hh; unfold U6; omega) (show U6 l by unfold N64 at hl; unfold U6; omega) w)
 obtain ⟨q, hq⟩ : ∃ q, q = i / 8 := ⟨_, rfl⟩
 obtain ⟨r, hr⟩ : ∃ r, r = i % 8 := ⟨_, rfl⟩
 have eq1 : (i : Int) / 8 = (q : Int) := by omega
 have er1 : (i : Int) % 8 = (r : Int) := by omega
 have r8 : r < 8 := by omega
 rw [← hq] at hcb
 rw [← hr] at hct
 obtain ⟨n, hn⟩ : ∃ n, n = (byts s h l).length := ⟨_, rfl⟩
 have qn : q < n := by rw [hn]; exact (List.getElem?_eq_some_iff.1 hcb).1
 have HCB := lH hcb
 have HCT := lH hct
 have HN := lH hn
 have EQ := lH eq1
 have ER := lH er1
 clear hW v hcb hct hi hn hq hr eq1 er1
 go_enter Tryz.func141, Tryz.ntmps141
 go_wp2_with fail
 refine cZm (HV.out _) ?_
 rintro e w1 ⟨rfl, hb⟩
 have K1 := lH ((Blk.new w 28 #[.bool s, .int .u64 h, .int .u64 l]).below hb (by simp only [zA]; omega))
 have L1 := lH (((Below.refl _ w).alloc (Nat.le_refl _) _).trans (hb.mono (by simp only [zA]; omega)))
 have s1 : w.heap.size < w1.heap.size := by have := hb.size; simp only [zA] at this; omega
 clear hb
 obtain ⟨f0, f1, f2⟩ := K1.out.c3
 go_wp2_with fail
 refine cZm (HW.out _) ?_
 rintro e w2 ⟨rfl, hb⟩
 clear f0 f1 f2
 have K2 := lH (K1.out.below hb s1)
 have L2 := lH (L1.out.trans (hb.mono L1.out.size))
 have s2 : w.heap.size < w2.heap.size := by have := hb.size; omega
 clear hb
 obtain ⟨f0, f1, f2⟩ := K2.out.c3
 go_wp2_with fail
 refine cZm (HB.out _) ?_
 rintro e w3 ⟨A, cp, rfl, hri, -, -, hb⟩
 clear f0 f1 f2
 have L3 := lH (L2.out.trans (hb.mono L2.out.size))
 rw [← HN.out] at hri
 obtain ⟨b, o, rfl, hbk, hcell⟩ := hri.2.1 (by omega)
 have d0 := hcell _ _ HCB.out
 have qn' : (q : Int) < n := by omega
 have q0 : (0 : Int) ≤ q := by omega
 have eq1 := EQ.out
 have er1 := ER.out
 rw [← HN.out]
 clear hb hri hcell hbk
 go_wp2
 clear eq1 er1 d0
 go_loop [7, 8] (fun x k => ∃ t y : Nat, r + t ≤ 7 ∧ y < 256 ∧ x = .int .i64 y ∧ k = .int .i64 ((r + t : Nat) : Int) ∧ Hid (y = c / 2 ^ t)) (fun _ k => (7 - intOf k).toNat)
 case atStart => exact ⟨0, c, by omega, hc, rfl, by rw [ER.out]; rfl, lH (by simp)⟩
 case round =>
  obtain ⟨t, y, ht, hy, rfl, rfl, he⟩ := hrel
  obtain ⟨k, hk⟩ : ∃ k : Nat, k = r + t := ⟨_, rfl⟩
  rw [← hk]
  have HK := lH hk
  have k7 : k ≤ 7 := by omega
  clear hk ht
  by_cases hlt : k < 7
  ·go_wp2
   go_round
   case rel => exact ⟨t + 1, y / 2, by have := HK.out; omega, by omega, by go_num, by have := HK.out; rw [show r + (t + 1) = k + 1 by omega]; go_num, lH (by rw [he.out, Nat.pow_succ, Nat.div_div_eq_div_mul])⟩
   case measure => simp [intOf]; omega
  ·go_wp2
   go_ret
   refine ⟨ret_i64 ?_, L3.out⟩
   rw [← HCT.out, show 7 - r = t by have := HK.out; omega, ← he.out]
   omega

theorem rbit_any (s : Bool) (h l i : Nat) (hh : N64 h) (hl : N64 l) (v : vld s h l = true) (hi : i < wd s) {b : Nat} (e : bt (nm h l) (wd s) i = b) (w : World) :
  Calls Tryz.prog 141 #[adr s h l, .int .i64 i] w fun e w' => e = .returned (.int .i64 b) ∧ Below w.heap.size w w' := by
 subst e; exact rbit_in s h l i hh hl v hi w
end Go.Proofs.YtgfkmgbcajdcdaaGreatDoor
