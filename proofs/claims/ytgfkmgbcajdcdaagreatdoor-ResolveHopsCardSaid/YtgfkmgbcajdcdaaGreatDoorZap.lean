/-
  Several texts in one: RvC, RvG.
-/
import Derived.Test.YtgfkmgbcajdcdaaGreatDoorZad
import Derived.Test.YtgfkmgbcajdcdaaGreatDoorZao
import Derived.Test.YtgfkmgbcajdcdaaGreatDoorZaa
set_option linter.unusedVariables false
set_option maxRecDepth 100000
set_option maxHeartbeats 16000000
namespace Go.Proofs.YtgfkmgbcajdcdaaGreatDoor
open Ifs

abbrev CgI := Bool × EnI
def chI : List EnI → List EnI → List CgI
 | [], now => now.map fun e => (false, e)
 | o :: os, [] => (o :: os).map fun e => (true, e)
 | o :: os, e :: es => if o.1 = e.1 then (if o.2 = e.2 then chI os es else (false, e) :: chI os es) else if lessI e.1 o.1 = true then (false, e) :: chI (o :: os) es else (true, o) :: chI os (e :: es)
termination_by old now => old.length + now.length
theorem chI_nil (now : List EnI) : chI [] now = now.map fun e => (false, e) := by unfold chI; rfl
theorem chI_end (old : List EnI) : chI old [] = old.map fun e => (true, e) := by
 cases old <;> unfold chI <;> rfl
theorem chI_cons (o e : EnI) (os es : List EnI) : chI (o :: os) (e :: es) = if o.1 = e.1 then (if o.2 = e.2 then chI os es else (false, e) :: chI os es) else if lessI e.1 o.1 = true then (false, e) :: chI (o :: os) es else (true, o) :: chI os (e :: es) := by
 rw [chI]
def PvOk (p : PfI) : Prop := pvI p = true ∧ vld p.1.1 (p.1.2.1 : Int) (p.1.2.2 : Int) = true ∧ N64 p.1.2.1 ∧ N64 p.1.2.2
theorem PvOk.less {p q : PfI} (h : PvOk p) (k : PvOk q) : lessI p q = true ↔ ltP p q := lessI_key h.1 k.1 h.2.1 k.2.1
theorem ltP_tri (p q : PfI) : ltP p q ∨ p = q ∨ ltP q p := by
 rcases lexP.tri (l := keyP p) (m := keyP q) rfl with h | h | h
 ·exact .inl h
 ·exact .inr (.inl (keyP_inj h))
 ·exact .inr (.inr h)
theorem PvOk.not {p q : PfI} (h : PvOk p) (k : PvOk q) (hn : ¬ lessI p q = true) (hne : ¬ p = q) : ltP q p := by
 rcases ltP_tri p q with h1 | h1 | h1
 ·exact absurd ((h.less k).2 h1) hn
 ·exact absurd h1 hne
 ·exact h1
structure SrtE (l : List EnI) : Prop where
 srt : l.Pairwise fun e f => ltP e.1 f.1
 ok : ∀ e ∈ l, PvOk e.1
theorem SrtE.tail {x : EnI} {l : List EnI} (h : SrtE (x :: l)) : SrtE l := ⟨(List.pairwise_cons.1 h.srt).2, fun e he => h.ok e (List.mem_cons_of_mem _ he)⟩
theorem SrtE.head {x : EnI} {l : List EnI} (h : SrtE (x :: l)) : ∀ e ∈ l, ltP x.1 e.1 := (List.pairwise_cons.1 h.srt).1
theorem SrtE.one {l : List EnI} (h : SrtE l) {e f : EnI} (he : e ∈ l) (hf : f ∈ l) (k : e.1 = f.1) : e = f := by
 induction l with
 | nil => cases he
 | cons x r ih =>
  have hh := h.head
  rcases List.mem_cons.1 he with e1 | e1 <;> rcases List.mem_cons.1 hf with f1 | f1
  ·rw [e1, f1]
  ·subst e1; have := hh f f1; rw [k] at this; exact absurd this (ltP_irr _)
  ·subst f1; have := hh e e1; rw [k] at this; exact absurd this (ltP_irr _)
  ·exact ih h.tail e1 f1
theorem tabI_SrtE {L : List TdI} {st : StI} (hI : InvR L) : SrtE (tabI L st) := ⟨tabI_srt hI, fun e he => pref_ok hI (tabI_mem he).1⟩
theorem chI_len : ∀ (old now : List EnI), (chI old now).length ≤ old.length + now.length
 | [], now => by rw [chI_nil, List.length_map]; simp
 | o :: os, [] => by rw [chI_end, List.length_map]; simp
 | o :: os, e :: es => by
  rw [chI_cons]
  have h1 := chI_len os es
  have h2 := chI_len (o :: os) es
  have h3 := chI_len os (e :: es)
  simp only [List.length_cons] at h2 h3 ⊢
  split
  ·split
   ·omega
   ·simp only [List.length_cons]; omega
  ·split
   ·simp only [List.length_cons]; omega
   ·simp only [List.length_cons]; omega
termination_by old now => old.length + now.length
def cutE (p : PfI) (l : List EnI) : List EnI := l.filter fun d => !decide (d.1 = p)
def apS (e : EnI) : List EnI → List EnI
 | [] => [e]
 | d :: ds => if lessI e.1 d.1 = true then e :: cutE e.1 (d :: ds) else if d.1 = e.1 then apS e ds else d :: apS e ds
theorem cutE_mem {p : PfI} {l : List EnI} {x : EnI} : x ∈ cutE p l ↔ x ∈ l ∧ ¬ x.1 = p := by
 unfold cutE
 rw [List.mem_filter]
 simp
theorem apS_mem {e : EnI} : ∀ {l : List EnI} (x : EnI), x ∈ apS e l ↔ x = e ∨ (x ∈ l ∧ ¬ x.1 = e.1)
 | [], x => by unfold apS; simp
 | d :: ds, x => by
  unfold apS
  split
  ·rw [List.mem_cons, cutE_mem]
  ·split
   ·rename_i h1
    rw [apS_mem x, List.mem_cons]
    constructor
    ·rintro (h | ⟨h, k⟩)
     ·exact .inl h
     ·exact .inr ⟨.inr h, k⟩
    ·rintro (h | ⟨rfl | h, k⟩)
     ·exact .inl h
     ·exact absurd h1 k
     ·exact .inr ⟨h, k⟩
   ·rename_i h1
    rw [List.mem_cons, apS_mem x, List.mem_cons]
    constructor
    ·rintro (rfl | h | ⟨h, k⟩)
     ·exact .inr ⟨.inl rfl, h1⟩
     ·exact .inl h
     ·exact .inr ⟨.inr h, k⟩
    ·rintro (h | ⟨rfl | h, k⟩)
     ·exact .inr (.inl h)
     ·exact .inl rfl
     ·exact .inr (.inr ⟨h, k⟩)
theorem SrtE.cut {l : List EnI} (h : SrtE l) (p : PfI) : SrtE (cutE p l) := ⟨h.srt.sublist List.filter_sublist, fun e he => h.ok e (cutE_mem.1 he).1⟩
theorem SrtE.ins {e : EnI} (k : PvOk e.1) : ∀ {l : List EnI}, SrtE l → SrtE (apS e l)
  | [], _ => ⟨List.pairwise_singleton _ _, fun x hx => by have : x = e := by simpa [apS] using hx
                                                          rw [this]; exact k⟩
  | d :: ds, h => by
    have hh := h.head
    have ho : ∀ x ∈ apS e (d :: ds), PvOk x.1 := fun x hx => by
      rcases (apS_mem x).1 hx with h1 | h1
      · rw [h1]; exact k
      · exact h.ok x h1.1
    refine ⟨?_, ho⟩
    unfold apS
    split
    · rename_i h1
      have hlt := (k.less (h.ok d (by simp))).1 h1
      rw [List.pairwise_cons]
      refine ⟨fun x hx => ?_, (h.cut e.1).srt⟩
      rcases List.mem_cons.1 (cutE_mem.1 hx).1 with h2 | h2
      · rw [h2]; exact hlt
      · exact ltP_trans hlt (hh x h2)
    · rename_i h1
      split
      · exact (SrtE.ins k h.tail).srt
      · rename_i h2
        rw [List.pairwise_cons]
        refine ⟨fun x hx => ?_, (SrtE.ins k h.tail).srt⟩
        rcases (apS_mem x).1 hx with h3 | h3
        · rw [h3]; exact k.not (h.ok d (by simp)) h1 (fun h4 => h2 h4.symm)
        · exact hh x h3.1
end Go.Proofs.YtgfkmgbcajdcdaaGreatDoor

namespace Go.Proofs.YtgfkmgbcajdcdaaGreatDoor
open Go.RowKit Ifs

def rtC (r : RtI) : List Value := [.bool r.1.1.1, .int .u64 (r.1.1.2.1 : Int), .int .u64 (r.1.1.2.2 : Int), .int .i64 r.1.2, .int .i64 r.2]
theorem rt_five (r : RtI) : (rtC r).length = 5 := rfl
theorem rt_one (r : RtI) : ∀ u ∈ rtC r, u.oneCell' = true := by
 intro u hu; simp [rtC] at hu; rcases hu with rfl | rfl | rfl | rfl | rfl <;> rfl
theorem infoRt : (Tryz.prog.info? 101).map (fun i => (i.zero, i.size, i.bytes)) = some (some (.agg #[.bool false, .int .u64 0, .int .u64 0, .int .i64 0, .int .i64 0]), 5, 40) := by kernel_rfl
abbrev RowT (w : World) (base : Nat) (A : Option Addr) (n c : Nat) (l : List RtI) : Prop := w.ownsRow base 101 5 (.slice A n c) n (l.flatMap rtC)
abbrev RowH (w : World) (base : Nat) (A : Option Addr) (n c : Nat) (l : List HpI) : Prop := w.ownsRow base 43 5 (.slice A n c) n (l.flatMap hpC)
theorem Blk.e9 {w : World} {g : Nat} {t : TypeId} {a b c d e f i j k : Value} (h : Blk w g t #[a, b, c, d, e, f, i, j, k]) : w.cell? ⟨g, 0, none⟩ = some a ∧ w.cell? ⟨g, 1, none⟩ = some b ∧ w.cell? ⟨g, 2, none⟩ = some c ∧ w.cell? ⟨g, 3, none⟩ = some d ∧ w.cell? ⟨g, 4, none⟩ = some e ∧ w.cell? ⟨g, 5, none⟩ = some f ∧ w.cell? ⟨g, 6, none⟩ = some i ∧ w.cell? ⟨g, 7, none⟩ = some j ∧ w.cell? ⟨g, 8, none⟩ = some k :=
 ⟨(h.cell 0).trans rfl, (h.cell 1).trans rfl, (h.cell 2).trans rfl, (h.cell 3).trans rfl, (h.cell 4).trans rfl, (h.cell 5).trans rfl, (h.cell 6).trans rfl, (h.cell 7).trans rfl, (h.cell 8).trans rfl⟩
theorem zeroI (w : World) : (zeroValue 3).run Tryz.prog w = .ok (.int .i64 0) w := by kernel_rfl
theorem obI_app {w : World} {v v' : Value} (h : v'.ownBlock = v.ownBlock ∨ v'.ownBlock = some w.heap.size) : ∀ s ∈ obI v', s ∈ obI v ∨ s = w.heap.size := by
 intro s hs
 unfold obI at hs ⊢
 rcases h with h | h
 ·rw [h] at hs; exact .inl hs
 ·rw [h] at hs; exact .inr (List.mem_singleton.1 hs)
theorem rnumber_any (A : Option Addr) (n c : Nat) (l : List EnI) (hn : l.length = n) (hn9 : n ≤ 100000) (w : World) (h : RowE w 0 A n c l) :
  Calls Tryz.prog 22 #[.slice A n c] w fun e w' => ∃ A1 c1 A2 c2, e = .returned (.tuple #[.slice A1 n c1, .slice A2 (numI l).2.length c2]) ∧ RowT w' w.heap.size A1 n c1 (numI l).1 ∧ RowH w' w.heap.size A2 (numI l).2.length c2 (numI l).2 ∧ (∀ s ∈ obI (.slice A1 n c1), s ∉ obI (.slice A2 (numI l).2.length c2)) ∧ Tch w w' [] := by
 have HRow := lH (fun W (hT : Tch w W []) => own_tch h hT (by simp))
 have HN := lH hn
 have HLn := lH (fun k (hk : k ≤ n) => numK_len l k (by rw [hn]; exact hk))
 have HSu := lH (fun k e (he : l[k]? = some e) => numK_succ he)
 have HAl : Hid (numK l n = numI l) := lH (numK_all (by rw [hn]; exact Nat.le_refl _))
 have hmm := @run_makeMap Tryz.prog
 obtain ⟨m, hm⟩ : ∃ m, w.heap.size = m := ⟨_, rfl⟩
 obtain ⟨W0, hW0⟩ : ∃ W, w.alloc (.map #[] 0) = W := ⟨_, rfl⟩
 have HM0 : Hid (MpIs (fun h => hpR h) W0 m (numM [])) := lH ⟨#[], 0, (by rw [← hW0, ← hm]; exact (MapKept.heap_alloc w _).1), rfl, by simp [numM, numMk], by simp, by simp⟩
 have HT0 : Hid (Tch w W0 []) := lH (hW0 ▸ (Tch.refl w []).alloc _)
 have HW0 := lH (And.intro hW0 hm)
 have HSm : Hid (W0.heap.size = m + 1) := lH (by rw [← hW0, zA, hm])
 clear hn h hm hW0
 go_enter Tryz.func22, Tryz.ntmps22
 go_wp2
 rw [HW0.out.1, HW0.out.2]
 go_loopw [4, 5, 12] (fun rv hv iv wr => ∃ (i k : Nat) (A1 A2 : Option Addr) (c1 c2 : Nat), rv = .slice A1 i c1 ∧ hv = .slice A2 k c2 ∧ iv = .int .i64 (i : Int) ∧ i ≤ n ∧ Hid ((numK l i).2.length = k) ∧ Hid (RowT wr (m + 1) A1 i c1 (numK l i).1) ∧ Hid (RowH wr (m + 1) A2 k c2 (numK l i).2) ∧ Hid (∀ s ∈ obI (.slice A1 i c1), s ∉ obI (.slice A2 k c2)) ∧ Hid (MpIs (fun h => hpR h) wr m (numM (numK l i).2)) ∧ Hid (Tch W0 wr [m])) (fun _ _ iv _ => n - (intOf iv).toNat)
 case atStart => exact ⟨0, 0, none, none, 0, 0, rfl, rfl, rfl, Nat.zero_le _, lH (by rw [numK_zero]; rfl), lH (by rw [numK_zero]; exact ⟨rfl, .inl ⟨rfl, rfl⟩⟩), lH (by rw [numK_zero]; exact ⟨rfl, .inl ⟨rfl, rfl⟩⟩), lH (by simp [obI, Value.ownBlock]), lH (by rw [numK_zero]; exact HM0.out), lH (Tch.refl _ _)⟩
 case round =>
  obtain ⟨i, k, A1, A2, c1, c2, rfl, rfl, rfl, hi, hk, hR, hH, hD, hM, hT⟩ := hrel
  by_cases hin : i < n
  ·have iI : (i : Int) < (n : Int) := by omega
   have i0 : (0 : Int) ≤ (i : Int) := by omega
   have i1 : IntKind.i64.wrap ((i : Int) + 1) = (i : Int) + 1 := by rw [IntKind.wrap_i64]; omega
   have HI := lH (And.intro iI (And.intro i0 i1))
   have hk9 := (HLn.out i (by omega)).2
   rw [hk.out] at hk9
   have HK9 := lH hk9
   obtain ⟨x, hx⟩ : ∃ x, l[i]? = some x := ⟨_, List.getElem?_eq_getElem (by rw [HN.out]; exact hin)⟩
   have HSi := lH (HSu.out i x hx)
   have HTw : Hid (Tch w wr []) := lH (HT0.out.trans_fre hT.out (fun s hs => .inr (by rw [List.mem_singleton.1 hs, HW0.out.2]; exact Nat.le_refl _)))
   have ho2 := HRow.out wr HTw.out
   obtain ⟨g, rfl⟩ := slice_some ho2 (by omega)
   obtain ⟨t0, t1, t2, t3, t4, t5, t6, t7, t8⟩ := en_cells ho2 hx
   have HAn : Hid (∀ s ∈ obI (.slice A1 i c1), m + 1 ≤ s ∧ s < wr.heap.size) := lH (own_geI hR.out)
   have HBn : Hid (∀ s ∈ obI (.slice A2 k c2), m + 1 ≤ s ∧ s < wr.heap.size) := lH (own_geI hH.out)
   have HMl : Hid (m < wr.heap.size) := lH hM.out.lt
   have HSW : Hid (W0.heap.size ≤ wr.heap.size) := lH hT.out.size
   obtain ⟨q, hq⟩ : ∃ q, hpAt (numK l i).2 x.2 = q := ⟨_, rfl⟩
   have HQ := lH hq
   have HL0 := lH (fun W (hW : MpIs (fun h => hpR h) W m (numM (numK l i).2)) => hW.lookup keyHp Tryz.underlying129 (zeroI W) x.2)
   simp only [numM_V, hq] at HL0
   obtain ⟨⟨⟨xs, xh, xl⟩, xn⟩, ⟨hp, ⟨hs, hh, hl⟩, hw⟩⟩ := x
   obtain ⟨eb, heb⟩ : ∃ eb, wr.heap.size = eb := ⟨_, rfl⟩
   obtain ⟨W6, hW6⟩ : ∃ W, wr.alloc (.cells #[.bool xs, .int .u64 (xh : Int), .int .u64 (xl : Int), .int .i64 xn, .int .i64 hp, .bool hs, .int .u64 (hh : Int), .int .u64 (hl : Int), .bool hw] 70) = W := ⟨_, rfl⟩
   have HE6 : Hid (Blk W6 eb 70 #[.bool xs, .int .u64 (xh : Int), .int .u64 (xl : Int), .int .i64 xn, .int .i64 hp, .bool hs, .int .u64 (hh : Int), .int .u64 (hl : Int), .bool hw]) := lH (hW6 ▸ heb ▸ Blk.new wr _ _)
   have HT6 : Hid (Tch wr W6 []) := lH (hW6 ▸ (Tch.refl wr []).alloc _)
   have HM6 : Hid (MpIs (fun h => hpR h) W6 m (numM (numK l i).2)) := lH (hM.out.tch HT6.out (by simp))
   have HW6 := lH (And.intro hW6 heb)
   obtain ⟨e0, e1, e2, e3, e4, e5, e6, e7, e8⟩ := (Blk.new wr 70 #[.bool xs, .int .u64 (xh : Int), .int .u64 (xl : Int), .int .i64 xn, .int .i64 hp, .bool hs, .int .u64 (hh : Int), .int .u64 (hl : Int), .bool hw]).e9
   have hlk : (Instr.lookup 129 (.map (some m)) (.agg #[.int .i64 hp, .bool hs, .int .u64 (hh : Int), .int .u64 (hl : Int), .bool hw]) false).run Tryz.prog (wr.alloc (.cells #[.bool xs, .int .u64 (xh : Int), .int .u64 (xl : Int), .int .i64 xn, .int .i64 hp, .bool hs, .int .u64 (hh : Int), .int .u64 (hl : Int), .bool hw] 70)) = .ok (.int .i64 (q : Int)) (wr.alloc (.cells #[.bool xs, .int .u64 (xh : Int), .int .u64 (xl : Int), .int .i64 xn, .int .i64 hp, .bool hs, .int .u64 (hh : Int), .int .u64 (hl : Int), .bool hw] 70)) := by
    rw [hW6]
    exact HL0.out W6 HM6.out
   clear hx ho2 hq heb hW6 hk9
   by_cases q0 : q = 0
   ·subst q0
    have HSn : Hid (numK l (i + 1) = ((numK l i).1 ++ [(((xs, xh, xl), xn), ((k + 1 : Nat) : Int))], (numK l i).2 ++ [(hp, (hs, hh, hl), hw)])) := lH (by
     rw [HSi.out]
     unfold numS
     rw [if_pos HQ.out, hk.out])
    have HSr := lH (src_new W6 43 (hpC (hp, (hs, hh, hl), hw)))
    have HT7 : Hid (Tch wr (W6.alloc (.cells (hpC (hp, (hs, hh, hl), hw)).toArray 43)) []) := lH (HT6.out.alloc _)
    have HH7 := lH (own_tch hH.out HT7.out (by simp))
    have HSf : Hid (k ≤ 1000000) := lH (by have := HK9.out; omega)
    have HSz7 : Hid (m + 1 ≤ (W6.alloc (.cells (hpC (hp, (hs, hh, hl), hw)).toArray 43)).heap.size) := lH (by have h1 := HT7.out.size; have h2 := HMl.out; omega)
    have HS7 : Hid (wr.heap.size ≤ (W6.alloc (.cells (hpC (hp, (hs, hh, hl), hw)).toArray 43)).heap.size) := lH HT7.out.size
    have hW6 := HW6.out.1
    have heb := HW6.out.2
    simp only [hW6, heb] at hlk e0 e1 e2 e3 e4 e5 e6 e7 e8
    go_wp2_with (first
     | (at_builtin; (refine wpList_apc 64 43 (.agg #[.int .i64 0, .bool false, .int .u64 0, .int .u64 0, .bool false]) 5 40 Tryz.underlying64 infoHp rfl (by decide) (by decide) _ rfl (.tmp 21) (.tmp 24) rfl (m + 1) (.slice A2 k c2) k ((numK l i).2.flatMap hpC) rfl HH7.out ⟨W6.heap.size, 0, none⟩ 1 (hpC (hp, (hs, hh, hl), hw)) rfl rfl (fun j u hj => HSr.out j u hj) (hp_one _) HSf.out HSz7.out ?_; intro v7 w7 hown hg hv; obtain ⟨A7, c7, e7, -, -⟩ := own_sl hown; subst e7; have HH8 := lH hown; have hTg := Tch.of_grown' (S := obI (.slice A2 k c2)) hg (fun k e => by rw [obI_some e]; simp); have HT8 : Hid (Tch wr w7 (obI (.slice A2 k c2))) := lH ((HT7.out.mono (by simp)).trans hTg); have HE8 : Hid (Blk w7 eb 70 #[.bool xs, .int .u64 (xh : Int), .int .u64 (xl : Int), .int .i64 xn, .int .i64 hp, .bool hs, .int .u64 (hh : Int), .int .u64 (hl : Int), .bool hw]) := lH (hTg.blk (HE6.out.alloc _) (fun hm => by have h1 := (HBn.out _ hm).2; have h2 := HW6.out.2; omega)); have HM8 := lH (hM.out.tch HT8.out (fun hm => by have h1 := (HBn.out _ hm).1; omega)); have HR8 := lH (own_tch hR.out HT8.out hD.out); have HD8 : Hid (∀ s ∈ obI (.slice A1 i c1), s ∉ obI (.slice A7 (k + 1) c7)) := lH (fun s hs h9 => by rcases obI_app hv s h9 with h8 | h8; exact hD.out s hs h8; (have h6 := (HAn.out s hs).2; have h5 := HT6.out.size; rw [zA] at h8; omega)); obtain ⟨e0, e1, e2, e3, e4, e5, e6, e7, e8⟩ := HE8.out.e9; clear hown hg hv hTg hlk))
     | (refine wpList_mset rfl keyHp (.tmp 26) (.tmp 28) (.tmp 30) 129 3 rfl Tryz.underlying129 rfl (hp, (hs, hh, hl), hw) rfl (.int .i64 ((k + 1 : Nat) : Int)) rfl HM8.out ?_; intro w8 hM9 hT9 hs9; have HM9 : Hid (MpIs (fun h => hpR h) w8 m (numM ((numK l i).2 ++ [(hp, (hs, hh, hl), hw)]))) := lH (by rw [← hk.out] at hM9; rw [numM_put HQ.out] at hM9; exact hM9); have HT9 := lH hT9; clear hM9 hT9 hs9))
    have HE9 : Hid (Blk w8 eb 70 #[.bool xs, .int .u64 (xh : Int), .int .u64 (xl : Int), .int .i64 xn, .int .i64 hp, .bool hs, .int .u64 (hh : Int), .int .u64 (hl : Int), .bool hw]) := lH (HT9.out.blk HE8.out (by simp; have h1 := HMl.out; have h2 := HW6.out.2; omega))
    have HR9 := lH (own_tch HR8.out HT9.out (fun s hs h9 => by have h1 := (HAn.out s hs).1; have h2 := List.mem_singleton.1 h9; omega))
    have HH9 := lH (own_tch HH8.out HT9.out (fun s hs h9 => by have h1 := (own_geI HH8.out s hs).1; have h2 := List.mem_singleton.1 h9; omega))
    have HT9w : Hid (Tch W0 w8 [m]) := lH ((hT.out.trans_fre HT8.out (fun s hs => .inr (by have := (HBn.out s hs).1; have := HSm.out; omega))).trans HT9.out)
    have HSz9 : Hid (wr.heap.size ≤ w8.heap.size) := lH (by have h1 := HT8.out.size; have h2 := HT9.out.size; omega)
    have HL9 := lH (HM9.out.lookup keyHp Tryz.underlying129 (zeroI w8) (hp, (hs, hh, hl), hw))
    rw [numM_V, hpAt_app, if_pos HQ.out, if_pos rfl, hk.out] at HL9
    clear e0 e1 e2 e3 e4 e5 e6 e7 e8 t0 t1 t2 t3 t4 t5 t6 t7 t8
    obtain ⟨e0, e1, e2, e3, e4, e5, e6, e7, e8⟩ := HE9.out.e9
    have hlk := ((HM9.out.tch ((Tch.refl w8 []).drew) (by simp)).lookup keyHp Tryz.underlying129 (zeroI _) (hp, (hs, hh, hl), hw))
    rw [numM_V, hpAt_app, if_pos HQ.out, if_pos rfl, hk.out] at hlk
    have HSr2 := lH (src_new w8.drew 101 (rtC (((xs, xh, xl), xn), ((k + 1 : Nat) : Int))))
    have HTa : Hid (Tch w8 (w8.drew.alloc (.cells (rtC (((xs, xh, xl), xn), ((k + 1 : Nat) : Int))).toArray 101)) []) := lH ((Tch.refl w8 []).drew.alloc _)
    have HRa := lH (own_tch HR9.out HTa.out (by simp))
    have HSfa : Hid (i ≤ 1000000) := lH (by omega)
    have HSza : Hid (m + 1 ≤ (w8.drew.alloc (.cells (rtC (((xs, xh, xl), xn), ((k + 1 : Nat) : Int))).toArray 101)).heap.size) := lH (by have h1 := HTa.out.size; have h2 := HMl.out; have h3 := HSz9.out; omega)
    go_region_law (refine step_apc 63 101 (.agg #[.bool false, .int .u64 0, .int .u64 0, .int .i64 0, .int .i64 0]) 5 40 Tryz.underlying63 infoRt rfl (by decide) (by decide) rfl (.tmp 31) (.tmp 39) rfl (m + 1) (.slice A1 i c1) i ((numK l i).1.flatMap rtC) (by simp [Act.eval]) HRa.out ⟨w8.heap.size, 0, none⟩ 1 (rtC (((xs, xh, xl), xn), ((k + 1 : Nat) : Int))) (by simp [Act.eval]) rfl (fun j u hj => HSr2.out j u hj) (rt_one _) HSfa.out HSza.out ?_; intro v9 w9 hown hg hv; obtain ⟨A9, c9, e9, -, -⟩ := own_sl hown; subst e9; have HRz := lH hown; have hTg := Tch.of_grown' (S := obI (.slice A1 i c1)) hg (fun k e => by rw [obI_some e]; simp); have HTz : Hid (Tch w8 w9 (obI (.slice A1 i c1))) := lH ((HTa.out.mono (by simp)).trans hTg); have HDz : Hid (∀ s ∈ obI (.slice A9 (i + 1) c9), s ∉ obI (.slice A7 (k + 1) c7)) := lH (fun s hs h9 => by rcases obI_app hv s hs with h8 | h8; exact HD8.out s h8 h9; (have h6 := (own_geI HH9.out s h9).2; have h7 : s = w8.heap.size + 1 := h8.trans (zA _ _); omega)); clear hown hg hv hTg)
    all_goals
     clear hlk e0 e1 e2 e3 e4 e5 e6 e7 e8
     have HMz := lH (HM9.out.tch HTz.out (fun hm => by have h1 := (HAn.out _ hm).1; omega))
     have HHz := lH (own_tch HH9.out HTz.out (fun s hs h9 => HD8.out s h9 hs))
     have HTe : Hid (Tch W0 w9 [m]) := lH (HT9w.out.trans_fre HTz.out (fun s hs => .inr (by have h1 := (HAn.out s hs).1; have h2 := HSm.out; omega)))
     have i1 := HI.out.2.2
     go_wp2
     go_roundw
     case rel => exact ⟨i + 1, k + 1, A9, A7, c9, c7, rfl, rfl, by go_num, hin, lH (by rw [HSn.out]; (rw [List.length_append, hk.out]; rfl)), lH (by rw [HSn.out]; unfold RowT; rw [List.flatMap_append]; exact HRz.out), lH (by rw [HSn.out]; exact (by unfold RowH; rw [List.flatMap_append]; exact HHz.out)), HDz, lH (by rw [HSn.out]; exact HMz.out), HTe⟩
     case measure => simp [intOf]; omega
   ·have q0' : ((q : Int) == 0) = false := by simp; omega
    have HSn : Hid (numK l (i + 1) = ((numK l i).1 ++ [(((xs, xh, xl), xn), ((q : Nat) : Int))], (numK l i).2)) := lH (by
     rw [HSi.out]
     unfold numS
     rw [HQ.out, if_neg q0])
    have HR9 := lH (own_tch hR.out HT6.out (by simp))
    have HH9 := lH (own_tch hH.out HT6.out (by simp))
    have HT9w : Hid (Tch W0 W6 [m]) := lH (hT.out.trans (HT6.out.mono (by simp)))
    have HSz9 : Hid (wr.heap.size ≤ W6.heap.size) := lH HT6.out.size
    have hW6 := HW6.out.1
    have heb := HW6.out.2
    simp only [hW6, heb] at hlk e0 e1 e2 e3 e4 e5 e6 e7 e8
    go_wp2
    clear hW6 heb e0 e1 e2 e3 e4 e5 e6 e7 e8 t0 t1 t2 t3 t4 t5 t6 t7 t8 hlk q0'
    obtain ⟨e0, e1, e2, e3, e4, e5, e6, e7, e8⟩ := HE6.out.e9
    have hlk := ((HM6.out.tch ((Tch.refl W6 []).drew) (by simp)).lookup keyHp Tryz.underlying129 (zeroI _) (hp, (hs, hh, hl), hw))
    rw [numM_V, HQ.out] at hlk
    have HSr2 := lH (src_new W6.drew 101 (rtC (((xs, xh, xl), xn), ((q : Nat) : Int))))
    have HTa : Hid (Tch W6 (W6.drew.alloc (.cells (rtC (((xs, xh, xl), xn), ((q : Nat) : Int))).toArray 101)) []) := lH ((Tch.refl W6 []).drew.alloc _)
    have HRa := lH (own_tch HR9.out HTa.out (by simp))
    have HSfa : Hid (i ≤ 1000000) := lH (by omega)
    have HSza : Hid (m + 1 ≤ (W6.drew.alloc (.cells (rtC (((xs, xh, xl), xn), ((q : Nat) : Int))).toArray 101)).heap.size) := lH (by have h1 := HTa.out.size; have h2 := HMl.out; have h3 := HSz9.out; omega)
    go_region_law (refine step_apc 63 101 (.agg #[.bool false, .int .u64 0, .int .u64 0, .int .i64 0, .int .i64 0]) 5 40 Tryz.underlying63 infoRt rfl (by decide) (by decide) rfl (.tmp 31) (.tmp 39) rfl (m + 1) (.slice A1 i c1) i ((numK l i).1.flatMap rtC) (by simp [Act.eval]) HRa.out ⟨W6.heap.size, 0, none⟩ 1 (rtC (((xs, xh, xl), xn), ((q : Nat) : Int))) (by simp [Act.eval]) rfl (fun j u hj => HSr2.out j u hj) (rt_one _) HSfa.out HSza.out ?_; intro v9 w9 hown hg hv; obtain ⟨A9, c9, e9, -, -⟩ := own_sl hown; subst e9; have HRz := lH hown; have hTg := Tch.of_grown' (S := obI (.slice A1 i c1)) hg (fun k e => by rw [obI_some e]; simp); have HTz : Hid (Tch W6 w9 (obI (.slice A1 i c1))) := lH ((HTa.out.mono (by simp)).trans hTg); have HDz : Hid (∀ s ∈ obI (.slice A9 (i + 1) c9), s ∉ obI (.slice A2 (k) c2)) := lH (fun s hs h9 => by rcases obI_app hv s hs with h8 | h8; exact hD.out s h8 h9; (have h6 := (own_geI HH9.out s h9).2; have h7 : s = W6.heap.size + 1 := h8.trans (zA _ _); omega)); clear hown hg hv hTg)
    all_goals
     clear hlk e0 e1 e2 e3 e4 e5 e6 e7 e8
     have HMz := lH (HM6.out.tch HTz.out (fun hm => by have h1 := (HAn.out _ hm).1; omega))
     have HHz := lH (own_tch HH9.out HTz.out (fun s hs h9 => hD.out s h9 hs))
     have HTe : Hid (Tch W0 w9 [m]) := lH (HT9w.out.trans_fre HTz.out (fun s hs => .inr (by have h1 := (HAn.out s hs).1; have h2 := HSm.out; omega)))
     have i1 := HI.out.2.2
     go_wp2
     go_roundw
     case rel => exact ⟨i + 1, k, A9, A2, c9, c2, rfl, rfl, by go_num, hin, lH (by rw [HSn.out]; exact hk.out), lH (by rw [HSn.out]; unfold RowT; rw [List.flatMap_append]; exact HRz.out), lH (by rw [HSn.out]; exact HHz.out), HDz, lH (by rw [HSn.out]; exact HMz.out), HTe⟩
     case measure => simp [intOf]; omega
  ·obtain rfl : i = n := by omega
   have iI : ¬ (i : Int) < (i : Int) := by omega
   have hAl := HAl.out
   rw [hAl] at hk hR hH
   obtain rfl := hk.out
   have HTw : Hid (Tch w wr []) := lH (HT0.out.trans_fre hT.out (fun s hs => .inr (by rw [List.mem_singleton.1 hs, HW0.out.2]; exact Nat.le_refl _)))
   have HR9 := lH (own_mono hR.out (show w.heap.size ≤ m + 1 by have := HW0.out.2; omega))
   have HH9 := lH (own_mono hH.out (show w.heap.size ≤ m + 1 by have := HW0.out.2; omega))
   clear hR hH hk hAl
   go_wp2
   exact bodyPost_ret (v := .tuple #[.slice A1 i c1, .slice A2 (numI l).2.length c2]) (by simp [results, Tryz.results22, go_sem]) rfl ⟨A1, c1, A2, c2, rfl, HR9.out, HH9.out, hD.out, HTw.out⟩
end Go.Proofs.YtgfkmgbcajdcdaaGreatDoor
