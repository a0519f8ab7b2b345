/-
  Several texts in one: RpI, RpK, IpA, IpB.
-/
import Derived.Test.YtgfkmgbcajdcdaaGreatDoorZaj
import Derived.Test.YtgfkmgbcajdcdaaGreatDoorZad
import Derived.Lib.SliceRun
import Derived.Maps.OwnOps
import Derived.Maps.OwnSet
import Derived.Test.YtgfkmgbcajdcdaaGreatDoorZaa
set_option linter.unusedVariables false
set_option maxRecDepth 100000
set_option maxHeartbeats 16000000
namespace Go.Proofs.YtgfkmgbcajdcdaaGreatDoor
open Go.RowKit

section
variable {w : World} {t m : Nat} {M : List (PfI × Value)} {S : List Nat} {L : List TdI}
theorem RpM.look (h : RpM w t m M S L) (p : PfI) : ∃ A c, mpV M p nilS = .slice A (pathsI L p).length c ∧ w.ownsRow 0 49 7 (.slice A (pathsI L p).length c) (pathsI L p).length ((pathsI L p).flatMap paC) ∧
  ∀ W, Tch w W [] → (Instr.lookup 121 (.map (some m)) (pfR p) false).run Tryz.prog W = .ok (.slice A (pathsI L p).length c) W := by
 obtain ⟨A, c, e, ho⟩ := h.at_ p
 refine ⟨A, c, e, ho, fun W hT => ?_⟩
 have := (h.mp.tch hT (by simp)).lookup keyPf Tryz.underlying121 (zeroPas W) p
 rw [e] at this
 exact this
theorem RpM.kept {L' : List TdI} {p : PfI} {w3 w4 : World} {g c n : Nat} {l : List PaI} (h : RpM w t m M S L) (he : mpV M p nilS = .slice (some ⟨g, 0, none⟩) (pathsI L p).length c) (hT : Tch w w3 [g]) (hp : pathsI L' p = l) (hn : l.length = n) (ho : w3.ownsRow 0 49 7 (.slice (some ⟨g, 0, none⟩) n c) n (l.flatMap paC))
  (hq : ∀ q, ¬ q = p → pathsI L' q = pathsI L q) (hI : InvB L') (hok : ∀ u ∈ L', PfOk u.1 ∧ PaOk u.2) (hM : MpIs (fun p => pfR p) w4 m (if n = 0 then mpDel M p else mpPut M p (.slice (some ⟨g, 0, none⟩) n c))) (hT2 : Tch w3 w4 [m]) : ∃ S', RbP w4 t S' L' ∧ Goes w w4 S S' := by
 have hT' : Tch w w3 (obI (mpV M p nilS)) := by rw [he]; exact hT
 by_cases h0 : n = 0
 ·rw [if_pos h0] at hM
  exact h.del_ hT' (by rw [hp, hn, h0]) hq hI hok hM hT2
 ·rw [if_neg h0] at hM
  refine h.set_ hT' ⟨some ⟨g, 0, none⟩, c, by rw [hp, hn], by rw [hp, hn]; exact ho⟩ (by rw [hp, hn]; omega) (fun s hs => .inl (by rw [he]; exact hs)) hq hI hok hM hT2
theorem RpM.near (h : RpM w t m M S L) {p : PfI} {g n c : Nat} (he : mpV M p nilS = .slice (some ⟨g, 0, none⟩) n c) : g ≠ t ∧ g ≠ m ∧ g < w.heap.size := by
 have := h.sub_ p g (by rw [he]; simp [obI, Value.ownBlock])
 exact ⟨this.2.1, this.2.2, h.lt g this.1⟩
end
theorem dropP (t : Nat) (S : List Nat) (L : List TdI) (p : PfI) (x : PaI) (hp : PfOk p) (hx : PaOk x) (w : World) (h : RbP w t S L) :
  Calls Tryz.prog 126 #[.pointer (some ⟨t, 0, none⟩), pfR p, paR x] w fun e w' => e = .returned (.int .i64 (dropR L p x).2) ∧ ∃ S', RbP w' t S' (dropR L p x).1 ∧ Goes w w' S S' := by
 have HP := lH h
 obtain ⟨m, M, hr⟩ := h
 obtain ⟨A, c, he, ho, hlk⟩ := hr.look p
 have hW := way_row L p x
 have hI := hr.inv.drop p x
 have hok : ∀ u ∈ (dropR L p x).1, PfOk u.1 ∧ PaOk u.2 := fun u hu => hr.ok u (by
  unfold dropR at hu
  split at hu
  ·exact hu
  ·exact (List.eraseIdx_sublist _ _).subset hu)
 obtain ⟨D, hD⟩ : ∃ D, dropR L p x = D := ⟨_, rfl⟩
 have hn4 := hr.inv.four p
 obtain ⟨l, hl⟩ : ∃ l, pathsI L p = l := ⟨_, rfl⟩
 obtain ⟨n, hn⟩ : ∃ n, l.length = n := ⟨_, rfl⟩
 obtain ⟨k, hk⟩ : ∃ k, fndI (fun y => sameW x y) l = k := ⟨_, rfl⟩
 have hkn : k ≤ n := by rw [← hk, ← hn]; exact fndI_le _ _
 rw [hl, hk] at hW
 rw [hl, hn] at he ho hlk hn4
 rw [hD] at hI hok ⊢
 have HFind := lH (fun W (hT : Tch w W []) => find_any x A n c l hn (by omega) W (own_tch ho hT (by simp)))
 rw [hk] at HFind
 have H0 : Hid (k = 0 → D = (L, 142)) := lH (fun e => by rw [← hD]; unfold dropR; rw [if_pos (hW.1.2 e)])
 have H1 : Hid (∀ j, k = j + 1 → D.2 = 0 ∧ pathsI D.1 p = l.eraseIdx j ∧ ∀ q, ¬ q = p → pathsI D.1 q = pathsI L q) := lH (fun j e => by
  have hw0 : ¬ wayI L p x = 0 := fun h => by have := hW.1.1 h; omega
  obtain ⟨w1, w2⟩ := hW.2 hw0
  rw [e, Nat.add_sub_cancel] at w1
  rw [← hD]
  unfold dropR
  rw [if_neg hw0]
  exact ⟨rfl, w1, w2⟩)
 have HFin : Hid (∀ g j w3 w4, A = some ⟨g, 0, none⟩ → k = j + 1 → j < n → Tch w w3 [g] → w3.ownsRow 0 49 7 (.slice (some ⟨g, 0, none⟩) (n - 1) c) (n - 1) ((l.eraseIdx j).flatMap paC) → MpIs (fun p => pfR p) w4 m (if n - 1 = 0 then mpDel M p else mpPut M p (.slice (some ⟨g, 0, none⟩) (n - 1) c)) → Tch w3 w4 [m] → ∃ S', RbP w4 t S' D.1 ∧ Goes w w4 S S') := lH (fun g j w3 w4 hA hj hjn h1 h2 h3 h4 => by
  obtain ⟨-, e2, e3⟩ := H1.out j hj
  exact hr.kept (by rw [he, hl, hn, hA]) h1 e2 (by rw [List.length_eraseIdx, if_pos (by rw [hn]; exact hjn), hn]) h2 e3 hI hok h3 h4)
 have HKeep : Hid (∀ g w3 (B : Option Addr) (n' c' : Nat), A = some ⟨g, 0, none⟩ → Tch w w3 [g] → Calls Tryz.prog 166 #[.pointer (some ⟨t, 0, none⟩), pfR p, .slice B n' c'] w3 fun e w' => e = .returned (.tuple #[]) ∧ MpIs (fun p => pfR p) w' m (if n' = 0 then mpDel M p else mpPut M p (.slice B n' c')) ∧ Tch w3 w' [m]) := lH (fun g w3 B n' c' hA hT => by
  have hg := hr.near (by rw [he, hA])
  exact keep_any t m M p B n' c' w3 (hT.blk hr.bt (by simpa using hg.1.symm)) (hr.mp.tch hT (by simpa using hg.2.1.symm)))
 have HDel := lH (fun g j W (hj : j < n) (hT : Tch w W []) (hA : A = some ⟨g, 0, none⟩) => delete_pa g n c j l hn (by omega) hj W (by have := own_tch ho hT (by simp); rw [hA] at this; exact this))
 have HG : Hid (∀ g, A = some ⟨g, 0, none⟩ → g < w.heap.size) := lH (fun g hA => (hr.near (by rw [he, hA])).2.2)
 have HM : Hid (m < w.heap.size) := lH hr.mp.lt
 have HSl : Hid (0 < n → ∃ g, A = some ⟨g, 0, none⟩) := lH (fun h0 => slice_some ho h0)
 obtain ⟨⟨ps, ph, pl⟩, pb⟩ := p
 obtain ⟨pr, me, ⟨vs, vh, vl⟩, po, aw⟩ := x
 obtain ⟨W0, hW0⟩ : ∃ W, (w.alloc (.cells #[.bool ps, .int .u64 (ph : Int), .int .u64 (pl : Int), .int .i64 pb] 30)).alloc (.cells #[.int .i64 pr, .int .i64 me, .bool vs, .int .u64 (vh : Int), .int .u64 (vl : Int), .int .i64 po, .bool aw] 49) = W := ⟨_, rfl⟩
 obtain ⟨xb, hxb⟩ : ∃ xb, w.heap.size = xb := ⟨_, rfl⟩
 obtain ⟨yb, hyb⟩ : ∃ yb, xb + 1 = yb := ⟨_, rfl⟩
 have hX : Blk W0 xb 30 #[.bool ps, .int .u64 (ph : Int), .int .u64 (pl : Int), .int .i64 pb] := hW0 ▸ hxb ▸ (Blk.new w _ _).alloc _
 have hY : Blk W0 yb 49 #[.int .i64 pr, .int .i64 me, .bool vs, .int .u64 (vh : Int), .int .u64 (vl : Int), .int .i64 po, .bool aw] := by
  have := Blk.new (w.alloc (.cells #[.bool ps, .int .u64 (ph : Int), .int .u64 (pl : Int), .int .i64 pb] 30)) 49 #[.int .i64 pr, .int .i64 me, .bool vs, .int .u64 (vh : Int), .int .u64 (vl : Int), .int .i64 po, .bool aw]
  rw [zA, hxb, hyb, hW0] at this
  exact this
 have hT0 : Tch w W0 [] := hW0 ▸ ((Tch.refl w []).alloc _).alloc _
 have HT0 := lH hT0
 have ht := ((hT0.blk hr.bt (by simp)).cell 0).trans (show _ = some (Value.map (some m)) by rfl)
 have HX := lH hX
 have HY := lH hY
 have HCells : Hid (∀ W T, Tch W0 W T → (∀ s ∈ T, s < xb) → W.cell? ⟨xb, 0, none⟩ = some (Value.bool ps) ∧ W.cell? ⟨xb, 1, none⟩ = some (Value.int .u64 (ph : Int)) ∧ W.cell? ⟨xb, 2, none⟩ = some (Value.int .u64 (pl : Int)) ∧ W.cell? ⟨xb, 3, none⟩ = some (Value.int .i64 pb)) := lH (fun W T hT hs => (hT.blk hX (fun hm => by have := hs _ hm; omega)).c4)
 have hlk0 : ∀ q, (Instr.lookup 121 (.map (some m)) (.agg #[.bool ps, .int .u64 (ph : Int), .int .u64 (pl : Int), .int .i64 pb]) false).run Tryz.prog (W0.drewN q) = .ok (.slice A n c) (W0.drewN q) := fun q => hlk _ (hT0.drewN q)
 rw [hxb] at HG HM
 obtain ⟨x0, x1, x2, x3⟩ := hX.c4
 clear hX hY hT0 hr hlk he ho hW hI hok hD hl hn hk hp hx
 go_enter Tryz.func126, Tryz.ntmps126
 go_wp2
 go_quiet (fail)
 obtain ⟨W1, hW1⟩ : ∃ W1, W0.drewN nq = W1 := ⟨_, rfl⟩
 rw [hW1]
 have hT01 : Tch W0 W1 [] := hW1 ▸ (Tch.refl W0 []).drewN nq
 have HT01 := lH hT01
 have HT1 := lH (HT0.out.trans hT01)
 obtain ⟨y0, y1, y2, y3, y4, y5, y6⟩ := (hT01.blk HY.out (by simp)).p7
 clear hT01 x0 x1 x2 x3 ht hlk0 hW1
 go_wp2_with fail
 refine cZm (HFind.out W1 HT1.out) ?_
 rintro e w2 ⟨rfl, hT⟩
 have HT2 := lH (HT1.out.trans hT)
 have HT02 := lH (HT01.out.trans hT)
 clear hT y0 y1 y2 y3 y4 y5 y6
 rcases Nat.eq_zero_or_pos k with h0 | h0
 ·subst h0
  have i0 : ((0 : Nat) : Int) - 1 < 0 := by omega
  have HD := lH (H0.out rfl)
  go_wp2
  go_ret
  rw [HD.out]
  exact ⟨rfl, S, HP.out.tch HT2.out (by simp), Goes.of_tch (HT2.out.mono (by simp))⟩
 ·obtain ⟨j, rfl⟩ : ∃ j, k = j + 1 := ⟨k - 1, by omega⟩
  have e0 : ((j + 1 : Nat) : Int) - 1 = (j : Int) := by omega
  rw [e0]
  have i0 : ¬ (j : Int) < 0 := by omega
  have i1 : IntKind.i64.wrap ((j : Int) + 1) = (j : Int) + 1 := by rw [IntKind.wrap_i64]; omega
  have hjn : j < n := by omega
  obtain ⟨g, rfl⟩ := HSl.out (by omega)
  have HDc := lH (HDel.out g j w2.drew hjn HT2.out.drew rfl)
  have Hgl := lH (HG.out g rfl)
  have HT2d := lH HT2.out.drew
  have HX2 := lH (HCells.out _ [] HT02.out (by simp))
  have HX2d := lH (HCells.out _ [] HT02.out.drew (by simp))
  obtain ⟨x0, x1, x2, x3⟩ := HX2.out
  have HJ := lH hjn
  have HK1 := lH (H1.out j rfl).1
  clear e0 h0 hkn hjn hn4
  go_wp2
  refine wp_region_held_drew (S := (fun W => W.cell? ⟨xb, 0, none⟩ = some (Value.bool ps) ∧ W.cell? ⟨xb, 1, none⟩ = some (Value.int .u64 (ph : Int)) ∧ W.cell? ⟨xb, 2, none⟩ = some (Value.int .u64 (pl : Int)) ∧ W.cell? ⟨xb, 3, none⟩ = some (Value.int .i64 pb))) (by kernel_rfl) ?_ (fun hHeld => ?_)
  ·(first | exact HX2.out | exact HX2d.out | exact HX4.out | exact HX3.out)
  refine tkH 0 ?_
  refine tkH 1 ?_
  refine tkH 2 ?_
  refine tkH 3 ?_
  refine tkH 4 ?_
  refine tkH 5 ?_
  refine wpAnyH_ready (rs := [6]) (by kernel_rfl) (by simp) ?_
  refine AllReadyH.cons (o := { dst := some 26, op := Go.Op.call { callee := Go.Callee.value (Go.Operand.func 82), args := #[Go.Operand.tmp 22, Go.Operand.tmp 23, Go.Operand.tmp 25], argTypes := #[118, 3, 3] }, type := 118, pos := "rib.go:57", after := #[{ on := 2, ground := Go.Ground.data }, { on := 3, ground := Go.Ground.data }, { on := 5, ground := Go.Ground.data }], guard := none }) rfl (fun K hK => ?_) AllReadyH.nil
  go_simp
  (go_at_call 82; (with_reducible refine cZm HDc.out ?_); rintro e w3 ⟨rfl, ho3, hT3⟩; have HO3 := lH ho3; have HT3 := lH ((HT2d.out.mono (by simp)).trans hT3); have HX3 := lH (HCells.out _ [g] ((HT02.out.drew.mono (by simp)).trans hT3) (by simp; exact Hgl.out)); have HKc := lH (HKeep.out g w3 (some ⟨g, 0, none⟩) (n - 1) c rfl HT3.out); have HT30 := lH ((HT02.out.drew.mono (T := [g]) (by simp)).trans hT3); clear ho3 hT3)
  go_wp2_with fail
  refine hK.out _ _ ?_ (fun hHeld => ?_)
  ·(first | exact HX2.out | exact HX2d.out | exact HX4.out | exact HX3.out)
  clear hK K
  try simp only [Act.put, List.setIfInBounds_toArray, List.set_cons_zero, List.set_cons_succ]
  refine wpAnyH_ready (rs := [7]) (by kernel_rfl) (by simp) ?_
  refine AllReadyH.cons (o := { dst := some 27, op := Go.Op.call { callee := Go.Callee.value (Go.Operand.func 166), args := #[Go.Operand.tmp 20, Go.Operand.tmp 21, Go.Operand.tmp 26], argTypes := #[32, 30, 118] }, type := 0, pos := "rib.go:57", after := #[{ on := 0, ground := Go.Ground.data }, { on := 1, ground := Go.Ground.data }, { on := 6, ground := Go.Ground.data }, { on := 6, ground := Go.Ground.chain }], guard := none }) rfl (fun K hK => ?_) AllReadyH.nil
  go_simp
  (go_at_call 166; (with_reducible refine cZm HKc.out ?_); rintro e w4 ⟨rfl, hM4, hT4⟩; have HX4 := lH (HCells.out _ [g, m] ((HT30.out.mono (by simp)).trans (hT4.mono (by simp))) (by simp; exact ⟨Hgl.out, HM.out⟩)); have HF := lH (HFin.out g j w3 w4 rfl rfl HJ.out HT3.out HO3.out hM4 hT4); clear hM4 hT4)
  go_wp2_with fail
  refine hK.out _ _ ?_ (fun hHeld => ?_)
  ·(first | exact HX2.out | exact HX2d.out | exact HX4.out | exact HX3.out)
  clear hK K
  try simp only [Act.put, List.setIfInBounds_toArray, List.set_cons_zero, List.set_cons_succ]
  refine wpAnyH_done (by kernel_rfl) ?_ _
  go_wp2
  go_ret
  obtain ⟨S', r1, r2⟩ := HF.out
  exact ⟨by rw [HK1.out]; rfl, S', r1, r2⟩
end Go.Proofs.YtgfkmgbcajdcdaaGreatDoor

namespace Go.Proofs.YtgfkmgbcajdcdaaGreatDoor
open Go.RowKit

theorem clone_pa (A : Option Addr) (n c : Nat) (l : List PaI) (hn : n ≤ 1000) (w : World) (h : w.ownsRow 0 49 7 (.slice A n c) n (l.flatMap paC)) :
  Calls Tryz.prog 98 #[.slice A n c] w fun e w' => ∃ A' c', e = .returned (.slice A' n c') ∧ w'.ownsRow w.heap.size 49 7 (.slice A' n c') n (l.flatMap paC) ∧ Tch w w' [] := by
 cases A with
 | none =>
  obtain ⟨rfl, rfl⟩ := own_none h
  have q : ∀ (w : World), (binOp .eql 118 (.slice none 0 0) (.slice none 0 0)).run Tryz.prog w = .ok (.bool true) w := fun w => Lib.run_eql_slice_nil w _ _ none 0 0 0 0 Tryz.underlying118
  have h1 : l.flatMap paC = [] := List.eq_nil_of_length_eq_zero (by rw [h.1])
  rw [h1]
  clear h hn h1
  go_enter Tryz.func98, Tryz.ntmps98
  go_wp2
  go_ret
  exact ⟨none, 0, rfl, ⟨rfl, .inl ⟨rfl, rfl⟩⟩, Tch.refl _ _⟩
 | some ad =>
  have q : ∀ (w : World), (binOp .eql 118 (.slice (some ad) n c) (.slice none 0 0)).run Tryz.prog w = .ok (.bool false) w := fun w => Lib.run_eql_slice_nil w _ _ (some ad) n c 0 0 Tryz.underlying118
  have HM0 : Hid ((w.alloc (.cells #[] 49)).ownsRow w.heap.size 49 7 (.slice (some ⟨w.heap.size, 0, none⟩) 0 0) 0 []) := lH (World.ownsRow_made w #[] 0 (Nat.le_refl _) (Nat.zero_le _) rfl)
  have HR := lH (h.alloc (.cells #[] 49))
  have HS : Hid (0 + n ≤ 1000000) := lH (by omega)
  clear h hn
  go_enter Tryz.func98, Tryz.ntmps98
  go_wp2_with (at_builtin; (refine wpList_apm 118 49 (.agg #[.int .i64 0, .int .i64 0, .bool false, .int .u64 0, .int .u64 0, .int .i64 0, .bool false]) 7 56 Tryz.underlying118 infoPa rfl (by decide) (by decide) _ rfl (.tmp 5) (.tmp 6) rfl w.heap.size (.slice (some ⟨w.heap.size, 0, none⟩) 0 0) 0 [] rfl HM0.out 0 (.slice (some ad) n c) n (l.flatMap paC) rfl HR.out (flat_one pa_one l) HS.out (by simp) ?_; intro v9 w5 hown hg hv; have hT5 : Tch w w5 [] := (((Tch.refl w []).alloc _).trans_fre (Tch.of_grown' (S := [w.heap.size]) hg (fun g e => by simp [Value.ownBlock] at e; simp [e])) (by simp)); have HT5 := lH hT5; have HO5 := lH hown; clear hown hg hv hT5))
  go_ret
  obtain ⟨A', c', e, -, -⟩ := own_sl HO5.out
  rw [Nat.zero_add] at e
  subst e
  exact ⟨A', c', rfl, by have := HO5.out; rw [Nat.zero_add] at this; simpa using this, HT5.out⟩
theorem pathsP0 (t : Nat) (S : List Nat) (L : List TdI) (p : PfI) (hp : PfOk p) (w : World) (h : RbP w t S L) :
  Calls Tryz.prog 52 #[.pointer (some ⟨t, 0, none⟩), pfR p] w fun e w' => ∃ A c, e = .returned (.slice A (pathsI L p).length c) ∧ w'.ownsRow w.heap.size 49 7 (.slice A (pathsI L p).length c) (pathsI L p).length ((pathsI L p).flatMap paC) ∧ Tch w w' [] := by
 have HP := lH h
 obtain ⟨m, M, hr⟩ := h
 obtain ⟨A, c, he, ho, hlk⟩ := hr.look p
 have hn4 := hr.inv.four p
 obtain ⟨l, hl⟩ : ∃ l, pathsI L p = l := ⟨_, rfl⟩
 obtain ⟨n, hn⟩ : ∃ n, l.length = n := ⟨_, rfl⟩
 rw [hl, hn] at ho hlk hn4
 rw [hl, hn]
 have HCl := lH (fun W (hT : Tch w W []) => clone_pa A n c l (by omega) W (own_tch ho hT (by simp)))
 obtain ⟨⟨ps, ph, pl⟩, pb⟩ := p
 obtain ⟨xb, hxb⟩ : ∃ xb, w.heap.size = xb := ⟨_, rfl⟩
 obtain ⟨W0, hW0⟩ : ∃ W, w.alloc (.cells #[.bool ps, .int .u64 (ph : Int), .int .u64 (pl : Int), .int .i64 pb] 30) = W := ⟨_, rfl⟩
 have hX : Blk W0 xb 30 #[.bool ps, .int .u64 (ph : Int), .int .u64 (pl : Int), .int .i64 pb] := hW0 ▸ hxb ▸ Blk.new w _ _
 have hT0 : Tch w W0 [] := hW0 ▸ (Tch.refl w []).alloc _
 obtain ⟨W1, hW1⟩ : ∃ W1, W0.drew = W1 := ⟨_, rfl⟩
 have hT1 : Tch w W1 [] := hW1 ▸ hT0.drew
 obtain ⟨x0, x1, x2, x3⟩ := (show Blk W1 xb _ _ from hW1 ▸ hX.drew).c4
 have ht := ((hT1.blk hr.bt (by simp)).cell 0).trans (show _ = some (Value.map (some m)) by rfl)
 have hlk1 : (Instr.lookup 121 (.map (some m)) (.agg #[.bool ps, .int .u64 (ph : Int), .int .u64 (pl : Int), .int .i64 pb]) false).run Tryz.prog W1 = .ok (.slice A n c) W1 := hlk _ hT1
 have HT1 := lH hT1
 have HW1 := lH hW1
 have HS1 := lH (And.intro hT1.size hxb)
 clear hX hT0 hr he ho hlk hl hn hn4 hp hT1
 go_enter Tryz.func52, Tryz.ntmps52
 go_wp2_with fail
 refine wp_region_still_tail 6 (by kernel_rfl) (by kernel_rfl) ?_
 rw [show ({ W0 with drawn := W0.drawn + 1 } : World) = W1 from HW1.out]
 simp only [List.take_succ_cons, List.take_zero, List.drop_succ_cons, List.drop_zero]
 repeat still_step
 refine wpStill_nil ?_
 go_wp2_with fail
 refine cZm (HCl.out W1 HT1.out) ?_
 rintro e w' ⟨A', c', rfl, ho', hT⟩
 have HO' := lH ho'
 have HT' := lH (HT1.out.trans hT)
 clear ho' hT
 go_wp2
 go_ret
 exact ⟨A', c', rfl, own_mono HO'.out (by have := HS1.out; omega), HT'.out⟩
theorem MpRg.left_len {κ : Type} [DecidableEq κ] {kv : κ → Value} {w : World} {m r : Nat} {M left : List (κ × Value)} (h : MpRg kv w m r M left) : w.rangeLeft m r = left.length := by
 obtain ⟨es, clock, since, c0, seen, h1, h2, h3, h4, h5, h6, h7, h8, h9, h10⟩ := h
 have := congrArg List.length h10
 simp at this
 simp only [World.rangeLeft, h1, h6]
 exact this
theorem countP0 (t : Nat) (S : List Nat) (L : List TdI) (w : World) (h : RbP w t S L) :
  Calls Tryz.prog 16 #[.pointer (some ⟨t, 0, none⟩)] w fun e w' => e = .returned (.int .i64 (L.length : Int)) ∧ Tch w w' [] := by
 have HP := lH h
 obtain ⟨m, M, hr⟩ := h
 have hml : L.length ≤ 360 := by
  have h1 := len_sum (prefsI L) L (prefsI_nodup hr.inv.inv) (fun u hu => (prefsI_mem hr.inv.inv).2 ⟨u, hu, rfl⟩)
  have h9 := hr.inv.ninety
  have h4 : ∀ K : List PfI, (K.map fun p => (pathsI L p).length).sum ≤ 4 * K.length := fun K => by
   induction K with
   | nil => simp
   | cons p K ih => rw [List.map_cons, List.sum_cons, List.length_cons]; have := hr.inv.four p; omega
  have := h4 (prefsI L)
  omega
 have hs := hr.sum
 have ht := (hr.bt.cell 0).trans (show _ = some (Value.map (some m)) by rfl)
 have HMp := lH hr.mp
 have HRow : Hid (∀ x ∈ M, ∃ A c, x.2 = .slice A (pathsI L x.1).length c) := lH (fun x hx => by
  obtain ⟨⟨A, c, e, -⟩, -⟩ := hr.row x hx
  exact ⟨A, c, e⟩)
 obtain ⟨T, hT⟩ : ∃ T, L.length = T := ⟨_, rfl⟩
 rw [hT] at hml hs ⊢
 have HS := lH hs
 clear hr hT hs
 go_enter Tryz.func16, Tryz.ntmps16
 go_wp2_with (at_range; refine wpList_mrange (k := 30) rfl (.tmp 9) 121 rfl 118 Tryz.underlying121 rfl HMp.out ?_; intro w0 hrg0 hT0 hs0; have HRg0 := lH hrg0; have HT0 := lH hT0; clear hrg0 hT0 hs0)
 go_frame
 go_loopw [3, 5] (fun nv lv wr => ∃ (k : Nat) (left : List (PfI × Value)), nv = .int .i64 (k : Int) ∧ Hid (MpRg (fun p => pfR p) wr m w.heap.size M left) ∧ Hid (k + (left.map fun x => (pathsI L x.1).length).sum = T) ∧ Hid (∀ x ∈ left, x ∈ M) ∧ Hid (Tch w wr [])) (fun _ _ wr => wr.rangeLeft m w.heap.size)
 case atStart => exact ⟨0, M, rfl, HRg0, lH (by rw [Nat.zero_add]; exact HS.out), lH (fun x hx => hx), HT0⟩
 case round =>
  obtain ⟨k, left, rfl, hrg, hsum, hsub, hT⟩ := hrel
  go_wp2_with (at_next; refine wpList_mnext rfl (.tmp 10) rfl keyPf rfl hrg.out (fun hd => ?_) (fun x left' w1 hx hp hrg1 hT1 hs1 hen => ?_); rotate_left; (obtain ⟨⟨⟨xs, xh, xl⟩, xn⟩, v⟩ := x); (obtain ⟨A, c, hv⟩ := HRow.out _ hx); (dsimp only at hv); subst hv; (have HP1 := lH hp); (have HRg1 := lH hrg1); (have HT1 := lH hT1); (clear hp hrg1 hT1 hs1); rotate_right)
  ·have HE : Hid (k = T) := lH (by have := hsum.out; rw [hd] at this; simpa using this)
   clear hd
   go_wp2
   go_ret
   exact ⟨by rw [HE.out]; rfl, hT.out⟩
  ·have hsm : k + (pathsI L ((xs, xh, xl), xn)).length + (left'.map fun x => (pathsI L x.1).length).sum = T := by
    have h1 := (HP1.out.map fun x => (pathsI L x.1).length).sum_nat
    rw [List.map_cons, List.sum_cons] at h1
    dsimp only at h1
    have := hsum.out
    omega
   obtain ⟨q, hq⟩ : ∃ q, (pathsI L ((xs, xh, xl), xn)).length = q := ⟨_, rfl⟩
   rw [hq] at hsm
   have HSm := lH hsm
   have hkq : k + q ≤ 360 := by omega
   rw [hq]
   clear hsm hq
   go_wp2
   go_roundw
   case rel => exact ⟨k + q, left', by rw [IntWalk.wrap64_in _ (by omega)]; go_num, HRg1, HSm, lH (fun y hy => hsub.out y (HP1.out.mem_iff.2 (List.mem_cons_of_mem _ hy))), lH (hT.out.trans_fre HT1.out (fun s hs => .inr (by rw [List.mem_singleton.1 hs]; exact Nat.le_refl _)))⟩
   case measure => rw [HRg1.out.left_len, hrg.out.left_len, HP1.out.length_eq]; simp
theorem countP (t : Nat) (S : List Nat) (L : List TdI) (w : World) (h : RbP w t S L) :
  Calls Tryz.prog 16 #[.pointer (some ⟨t, 0, none⟩)] w fun e w' => e = .returned (.int .i64 (L.length : Int)) ∧ RbP w' t S L ∧ Tch w w' S :=
 (countP0 t S L w h).mono fun e w' hh => ⟨hh.1, h.tch hh.2 (by simp), hh.2.mono (by simp)⟩
end Go.Proofs.YtgfkmgbcajdcdaaGreatDoor

namespace Go.Proofs.YtgfkmgbcajdcdaaGreatDoor.Ifs
open Go.RowKit Go.Maps

def mmC (P : List Prt) (lv : List Value) : List Value := (P.zip lv).flatMap fun x => prC x.1 ++ [x.2]
theorem mm_five (x : Prt × Value) : (prC x.1 ++ [x.2]).length = 5 := rfl
theorem mm_zip {P : List Prt} {lv : List Value} {i : Nat} {p : Prt} {v : Value} (hp : P[i]? = some p) (hv : lv[i]? = some v) : (P.zip lv)[i]? = some (p, v) := by
 rw [List.getElem?_zip_eq_some]
 exact ⟨hp, hv⟩
theorem mm_at {P : List Prt} {lv : List Value} {i : Nat} {p : Prt} {v : Value} (hp : P[i]? = some p) (hv : lv[i]? = some v) {k : Nat} (hk : k < 5) : (mmC P lv)[i * 5 + k]? = (prC p ++ [v])[k]? :=
 flatk_at mm_five (mm_zip hp hv) hk
theorem mm_app {P : List Prt} {lv : List Value} (h : lv.length = P.length) (p : Prt) (v : Value) : mmC (P ++ [p]) (lv ++ [v]) = mmC P lv ++ (prC p ++ [v]) := by
 unfold mmC
 rw [List.zip_append h.symm, List.flatMap_append]
 simp
theorem mm_set {P : List Prt} {lv : List Value} {i : Nat} {p p' : Prt} {v v' : Value} (h : lv.length = P.length) (hp : P[i]? = some p) (hv : lv[i]? = some v) {k : Nat} {u : Value} (hk : k < 5) (hu : (prC p ++ [v]).set k u = prC p' ++ [v']) :
  (mmC P lv).set (i * 5 + k) u = mmC (P.set i p') (lv.set i v') := by
 induction P generalizing lv i with
 | nil => simp at hp
 | cons y r ih =>
  cases lv with
  | nil => simp at hv
  | cons z s =>
   cases i with
   | zero =>
    simp at hp hv
    subst hp hv
    show (prC y ++ [z] ++ mmC r s).set (0 * 5 + k) u = prC p' ++ [v'] ++ mmC r s
    rw [← hu, List.set_append_left _ _ (by simp [prC]; omega)]
    congr 2
    omega
   | succ i =>
    show (prC y ++ [z] ++ mmC r s).set ((i + 1) * 5 + k) u = prC y ++ [z] ++ mmC (r.set i p') (s.set i v')
    rw [List.set_append_right _ _ (by simp [prC]; omega), ← ih (by simpa using h) (by simpa using hp) (by simpa using hv)]
    congr 2
    simp [prC]
    omega
theorem keyS (l : List UInt8) : WideAt.IsKeyLit (.string l) := by simp [WideAt.IsKeyLit]
def NmIs (D : DataW Unit) (P : List Prt) : Prop := ∀ nm : ByteArray, D.atKey (.string nm.data.toList) (.lit (.int .i64 0)) = .lit (.int .i64 (namedI P nm : Int))
theorem NmIs.nil : NmIs (.map []) [] := fun nm => rfl
theorem namedI_app {P : List Prt} {q : Prt} (h : namedI P q.1 = 0) (nm : ByteArray) : namedI (P ++ [q]) nm = if nm = q.1 then P.length + 1 else namedI P nm := by
 unfold namedI at h ⊢
 rw [fndI_app]
 by_cases e : nm = q.1
 ·subst e
  simp [h]
 ·have e2 : decide (q.1 = nm) = false := by simpa using fun x => e x.symm
  rw [e2, if_neg e]
  simp
  intro h; exact h.symm
theorem NmIs.put {D : DataW Unit} {P : List Prt} {q : Prt} (h : NmIs D P) (hD : IsMap D) (hn : namedI P q.1 = 0) : NmIs (D.put (.string q.1.data.toList) (.lit (.int .i64 ((P.length + 1 : Nat) : Int)))) (P ++ [q]) := by
 intro nm
 rw [namedI_app hn]
 by_cases e : nm = q.1
 ·subst e
  rw [if_pos rfl]
  exact Maps.atKey_put_same hD (keyS _) _ _
 ·rw [if_neg e, Maps.atKey_put_other (fun x => e (by injection x with x; exact ByteArray.ext (Array.toList_inj.1 x)))]
  exact h nm
abbrev I64 (x : Int) : Prop := (Lit.int .i64 x).wf = true
theorem I64.b {x : Int} (h : I64 x) : -9223372036854775808 ≤ x ∧ x ≤ 9223372036854775807 := by
 unfold I64 at h
 simpa [Lit.wf, IntKind.min, IntKind.max, IntKind.bits, IntKind.signed] using h
def IfP (w : World) (p : Nat) (S : List Nat) (st : StI) : Prop := ∃ (AM : Option Addr) (cM m : Nat) (lv : List Value) (D : DataW Unit),
 S = p :: m :: (obI (.slice AM st.1.length cM) ++ lv.flatMap obI) ∧ S.Nodup ∧
 Blk w p 155 #[.slice AM st.1.length cM, .map (some m)] ∧
 w.ownsRow 0 134 5 (.slice AM st.1.length cM) st.1.length (mmC st.1 lv) ∧ w.ownsMap Tryz.prog 9 (plainElem Tryz.prog 3) m st.1.length D ∧ NmIs D st.1 ∧
 lv.length = st.1.length ∧ (∀ (i : Nat) (l : List Loc), st.2[i]? = some l → ∃ A c, lv[i]? = some (.slice A l.length c) ∧ w.ownsRow 0 202 4 (.slice A l.length c) l.length (l.flatMap lcC)) ∧ InvI st
section
variable {w w' : World} {p : Nat} {S T : List Nat} {st : StI}
theorem IfP.inv (h : IfP w p S st) : InvI st := by
 obtain ⟨AM, cM, m, lv, D, h1, h2, h3, h4, h5, h6, h7, h8, h9⟩ := h
 exact h9
theorem IfP.few (h : IfP w p S st) : st.1.length ≤ 8 := h.inv.few
theorem IfP.lt (h : IfP w p S st) : ∀ s ∈ S, s < w.heap.size := by
 obtain ⟨AM, cM, m, lv, D, rfl, h2, h3, h4, h5, h6, h7, h8, h9⟩ := h
 intro s hs
 rcases List.mem_cons.1 hs with h | h
 ·subst h; exact h3.lt
 rcases List.mem_cons.1 h with h | h
 ·subst h; exact h5.lt
 rcases List.mem_append.1 h with h | h
 ·exact own_lts h4 s h
 obtain ⟨v, hv, hs⟩ := List.mem_flatMap.1 h
 obtain ⟨i, hi⟩ := List.mem_iff_getElem?.1 hv
 have hil := (List.getElem?_eq_some_iff.1 hi).1
 obtain ⟨A, c, e, ho⟩ := h8 i _ (List.getElem?_eq_getElem (by rw [← h9.len]; omega))
 rw [hi] at e
 injection e with e
 subst e
 exact own_lts ho s hs
theorem IfP.pin (h : IfP w p S st) : p ∈ S := by
 obtain ⟨AM, cM, m, lv, D, rfl, -⟩ := h
 simp
theorem IfP.tch (h : IfP w p S st) (ht : Tch w w' T) (hn : ∀ s ∈ S, s ∉ T) : IfP w' p S st := by
 obtain ⟨AM, cM, m, lv, D, rfl, h2, h3, h4, h5, h6, h7, h8, h9⟩ := h
 refine ⟨AM, cM, m, lv, D, rfl, h2, ht.blk h3 (hn p (by simp)), own_tch h4 ht (fun s hs => hn s (by simp [hs])), map_tch h5 ht (hn m (by simp)), h6, h7, fun i l hl => ?_, h9⟩
 obtain ⟨A, c, e, ho⟩ := h8 i l hl
 refine ⟨A, c, e, own_tch ho ht (fun s hs => hn s ?_)⟩
 have : s ∈ lv.flatMap obI := List.mem_flatMap.2 ⟨_, List.mem_of_getElem? e, hs⟩
 simp only [List.mem_cons, List.mem_append]
 exact .inr (.inr (.inr this))
theorem IfP.head (h : IfP w p S st) : ∃ (AM : Option Addr) (cM m : Nat) (D : DataW Unit), w.cell? ⟨p, 0, none⟩ = some (.slice AM st.1.length cM) ∧ w.cell? ⟨p, 1, none⟩ = some (.map (some m)) ∧ w.ownsMap Tryz.prog 9 (plainElem Tryz.prog 3) m st.1.length D ∧ NmIs D st.1 ∧ p < w.heap.size := by
 obtain ⟨AM, cM, m, lv, D, h1, h2, h3, h4, h5, h6, h7, h8, h9⟩ := h
 exact ⟨AM, cM, m, D, (h3.cell 0).trans rfl, (h3.cell 1).trans rfl, h5, h6, h3.lt⟩
theorem IfP.at_ (h : IfP w p S st) {i : Nat} (hi : i < st.1.length) : ∃ (gM cM c : Nat) (A : Option Addr) (q : Prt) (l : List Loc), w.cell? ⟨p, 0, none⟩ = some (.slice (some ⟨gM, 0, none⟩) st.1.length cM) ∧
  st.1[i]? = some q ∧ st.2[i]? = some l ∧ w.cell? ⟨gM, i * 5, none⟩ = some (.string q.1) ∧ w.cell? ⟨gM, i * 5 + 1, none⟩ = some (.int .u64 q.2.1) ∧ w.cell? ⟨gM, i * 5 + 2, none⟩ = some (.int .i64 q.2.2.1) ∧
  w.cell? ⟨gM, i * 5 + 3, none⟩ = some (.bool q.2.2.2) ∧ w.cell? ⟨gM, i * 5 + 4, none⟩ = some (.slice A l.length c) ∧ w.ownsRow 0 202 4 (.slice A l.length c) l.length (l.flatMap lcC) ∧ l.length ≤ 8 ∧ p < w.heap.size ∧ gM < w.heap.size ∧ (∀ k, w.frozen? ⟨gM, k, none⟩ = false) ∧ gM ∈ S := by
 have hlen := h.inv.len
 have h8' := h.inv.loc
 obtain ⟨AM, cM, m, lv, D, rfl, h2, h3, h4, h5, h6, h7, h8, h9⟩ := h
 obtain ⟨gM, rfl⟩ := slice_some h4 (by omega)
 obtain ⟨q, hq⟩ : ∃ q, st.1[i]? = some q := ⟨_, List.getElem?_eq_getElem hi⟩
 obtain ⟨l, hl⟩ : ∃ l, st.2[i]? = some l := ⟨_, List.getElem?_eq_getElem (by omega)⟩
 obtain ⟨A, c, e, ho⟩ := h8 i l hl
 have hat := fun k hk => mm_at (k := k) hq e hk
 refine ⟨gM, cM, c, A, q, l, (h3.cell 0).trans rfl, hq, hl, own_cellN h4 (hat 0 (by decide)), own_cellN h4 (hat 1 (by decide)), own_cellN h4 (hat 2 (by decide)), own_cellN h4 (hat 3 (by decide)), own_cellN h4 (hat 4 (by decide)), ho, h8' l (List.mem_of_getElem? hl), h3.lt, own_lt h4 rfl, fun k => ?_, by rw [obI_some rfl]; simp⟩
 rcases h4.2 with ⟨e, -⟩ | ⟨g', cap, cur, e, -, hb, -⟩
 ·cases e
 ·injection e with e2
  injection e2 with e2
  injection e2 with e2
  subst e2
  exact Blk.frozen hb _
end
end Go.Proofs.YtgfkmgbcajdcdaaGreatDoor.Ifs

namespace Go.Proofs.YtgfkmgbcajdcdaaGreatDoor.Ifs
open Go.RowKit Go.Maps

theorem member_at (p gM n cM i : Nat) (port : Int) (hn : n ≤ 8) (hi : i < n) (hp : port = (i : Int) + 1) (w : World) (c0 : w.cell? ⟨p, 0, none⟩ = some (.slice (some ⟨gM, 0, none⟩) n cM)) :
  Calls Tryz.prog 59 #[.pointer (some ⟨p, 0, none⟩), .int .i64 port] w fun e w' => e = .returned (.pointer (some ⟨gM, i * 5, none⟩)) ∧ w = w' := by
 have p1 : ¬ port < 1 := by omega
 have p2 : ¬ (n : Int) < port := by omega
 have j1 : IntKind.i64.wrap (port - 1) = (i : Int) := by rw [IntKind.wrap_i64]; omega
 have i0 : (0 : Int) ≤ (i : Int) := by omega
 have i1 : (i : Int) < (n : Int) := by omega
 clear hp hi hn
 go_enter Tryz.func59, Tryz.ntmps59
 go_wp2
 go_ret
 exact ⟨rfl, rfl⟩
theorem member_no (p n cM : Nat) (AM : Option Addr) (port : Int) (hp : ¬ (1 ≤ port ∧ port ≤ (n : Int))) (w : World) (c0 : w.cell? ⟨p, 0, none⟩ = some (.slice AM n cM)) :
  Calls Tryz.prog 59 #[.pointer (some ⟨p, 0, none⟩), .int .i64 port] w fun e w' => e = .returned (.pointer none) ∧ w = w' := by
 by_cases p1 : port < 1
 ·clear hp
  go_enter Tryz.func59, Tryz.ntmps59
  go_wp2
  go_ret
  exact ⟨rfl, rfl⟩
 ·have p2 : (n : Int) < port := by omega
  clear hp
  go_enter Tryz.func59, Tryz.ntmps59
  go_wp2
  go_ret
  exact ⟨rfl, rfl⟩
theorem there_no {st : StI} {port : Int} (h : thereI st port = false) : ¬ (1 ≤ port ∧ port ≤ (st.1.length : Int)) := by unfold thereI at h; simpa using h
theorem pmember_no (p : Nat) (S : List Nat) (st : StI) (port : Int) (ht : thereI st port = false) (w : World) (h : IfP w p S st) :
  Calls Tryz.prog 59 #[.pointer (some ⟨p, 0, none⟩), .int .i64 port] w fun e w' => e = .returned (.pointer none) ∧ w = w' := by
 obtain ⟨AM, cM, m, D, c0, -⟩ := h.head
 exact member_no p _ cM AM port (there_no ht) w c0
theorem IfP.is {w : World} {p : Nat} {S : List Nat} {st : StI} (h : IfP w p S st) {port : Int} (ht : thereI st port = true) : ∃ (gM cM c i n : Nat) (A : Option Addr) (q : Prt) (l : List Loc), w.cell? ⟨p, 0, none⟩ = some (.slice (some ⟨gM, 0, none⟩) n cM) ∧
  st.1[i]? = some q ∧ st.2[i]? = some l ∧ w.cell? ⟨gM, i * 5, none⟩ = some (.string q.1) ∧ w.cell? ⟨gM, i * 5 + 1, none⟩ = some (.int .u64 q.2.1) ∧ w.cell? ⟨gM, i * 5 + 2, none⟩ = some (.int .i64 q.2.2.1) ∧
  w.cell? ⟨gM, i * 5 + 3, none⟩ = some (.bool q.2.2.2) ∧ w.cell? ⟨gM, i * 5 + 4, none⟩ = some (.slice A l.length c) ∧ w.ownsRow 0 202 4 (.slice A l.length c) l.length (l.flatMap lcC) ∧ l.length ≤ 8 ∧ p < w.heap.size ∧ gM < w.heap.size ∧ (∀ k, w.frozen? ⟨gM, k, none⟩ = false) ∧ gM ∈ S ∧
  n = st.1.length ∧ n ≤ 8 ∧ i < n ∧ port = (i : Int) + 1 ∧ idxI port = i := by
 obtain ⟨q', l', -, -, -, -, hlt, hpe⟩ := locI_at h.inv ht
 obtain ⟨gM, cM, c, A, q, l, h1, h2, h3, h4, h5, h6, h7, h8, h9, h10, h11, h12, h13, h14⟩ := h.at_ hlt
 exact ⟨gM, cM, c, idxI port, st.1.length, A, q, l, h1, h2, h3, h4, h5, h6, h7, h8, h9, h10, h11, h12, h13, h14, rfl, h.few, hlt, hpe, rfl⟩
theorem there_idx {st : StI} {port : Int} {i : Nat} (h : idxI port = i) {q : Prt} {l : List Loc} (hq : st.1[i]? = some q) (hl : st.2[i]? = some l) (ht : thereI st port = true) : portI st port = q ∧ localsI st port = l ∧ locI st port = l ∧ mtuI st port = q.2.2.1 := by
 subst h
 refine ⟨by unfold portI; rw [ht, hq]; rfl, by unfold localsI locI; rw [ht, hl]; rfl, by unfold locI; rw [hl]; rfl, by unfold mtuI; rw [hq]; rfl⟩
theorem portP0 (p : Nat) (S : List Nat) (st : StI) (port : Int) (hi : I64 port) (w : World) (h : IfP w p S st) :
  Calls Tryz.prog 26 #[.pointer (some ⟨p, 0, none⟩), .int .i64 port] w fun e w' => e = .returned (.tuple #[.agg (prC (portI st port)).toArray, .bool (thereI st port)]) ∧ Tch w w' [] := by
 obtain ⟨xb, hxb⟩ : ∃ xb, w.heap.size = xb := ⟨_, rfl⟩
 obtain ⟨W0, hW0⟩ : ∃ W, w.alloc (.cells #[.string ⟨#[]⟩, .int .u64 0, .int .i64 0, .bool false] 74) = W := ⟨_, rfl⟩
 have HX : Hid (Blk W0 xb 74 #[.string ⟨#[]⟩, .int .u64 0, .int .i64 0, .bool false]) := lH (hW0 ▸ hxb ▸ Blk.new _ _ _)
 have HT0 : Hid (Tch w W0 []) := lH (hW0 ▸ (Tch.refl w []).alloc _)
 have hD0 := h.tch HT0.out (by simp)
 have HP0 := lH h
 have HW0 := lH (And.intro hW0 hxb)
 have HXb : Hid (w.heap.size ≤ xb) := lH (by omega)
 cases hth : thereI st port with
 | false =>
  have HM := lH (pmember_no p S st port hth W0 hD0)
  have HE : Hid (portI st port = (⟨#[]⟩, 0, 0, false)) := lH (by unfold portI; rw [hth]; rfl)
  clear hW0 hxb h hD0 hth hi
  go_enter Tryz.func26, Tryz.ntmps26
  go_wp2_with fail
  rw [HW0.out.1, HW0.out.2]
  refine cZm HM.out ?_
  rintro e w' ⟨rfl, rfl⟩
  go_wp2_with (refine wpList_sta rfl 74 (.tmp 4) (.tmp 12) rfl xb 0 #[.string ⟨#[]⟩, .int .u64 0, .int .i64 0, .bool false] rfl rfl 74 #[.string ⟨#[]⟩, .int .u64 0, .int .i64 0, .bool false] HX.out 4 sizePt rfl (by decide) (by simp [Value.oneCell']) ?_; intro w4 hs4; have HS4 := lH hs4; clear hs4)
  obtain ⟨⟨cur', k1, k2, k3, k4⟩, hT4⟩ := HS4.out
  have z0 := (k1.cell 0).trans ((k4 0 (by decide)).trans rfl)
  have z1 := (k1.cell 1).trans ((k4 1 (by decide)).trans rfl)
  have z2 := (k1.cell 2).trans ((k4 2 (by decide)).trans rfl)
  have z3 := (k1.cell 3).trans ((k4 3 (by decide)).trans rfl)
  have hTT : Tch w w4 [] := HT0.out.trans_fre hT4 (by simp; exact HXb.out)
  exact bodyPost_ret (v := .tuple #[.agg #[.string ⟨#[]⟩, .int .u64 0, .int .i64 0, .bool false], .bool false]) (by simp [results, Tryz.results26, go_sem, z0, z1, z2, z3]) rfl ⟨by rw [HE.out]; rfl, hTT⟩
 | true =>
  obtain ⟨gM, cM, c, i, n, A, q, l, c0, hq, hl, x0, x1, x2, x3, x4, hO, hl8, hpl, hgl, hfz, hgS, hnn, hn8, hin, hpe, hix⟩ := hD0.is hth
  have HM := lH (member_at p gM n cM i port hn8 hin hpe W0 c0)
  have HE : Hid (portI st port = q) := lH (there_idx hix hq hl hth).1
  obtain ⟨pn, pm, pt, pu⟩ := q
  clear hW0 hxb h hD0 c0 hq hl x4 hO hl8 hpl hgl hfz hgS hnn hn8 hin hpe hix hth hi
  go_enter Tryz.func26, Tryz.ntmps26
  go_wp2_with fail
  rw [HW0.out.1, HW0.out.2]
  refine cZm HM.out ?_
  rintro e w' ⟨rfl, rfl⟩
  go_wp2_with (refine wpList_sta rfl 74 (.tmp 4) (.tmp 16) rfl xb 0 #[.string pn, .int .u64 pm, .int .i64 pt, .bool pu] rfl rfl 74 #[.string ⟨#[]⟩, .int .u64 0, .int .i64 0, .bool false] HX.out 4 sizePt rfl (by decide) (by simp [Value.oneCell']) ?_; intro w4 hs4; have HS4 := lH hs4; clear hs4)
  obtain ⟨⟨cur', k1, k2, k3, k4⟩, hT4⟩ := HS4.out
  have z0 := (k1.cell 0).trans ((k4 0 (by simp)).trans rfl)
  have z1 := (k1.cell 1).trans ((k4 1 (by simp)).trans rfl)
  have z2 := (k1.cell 2).trans ((k4 2 (by simp)).trans rfl)
  have z3 := (k1.cell 3).trans ((k4 3 (by simp)).trans rfl)
  have hTT : Tch w w4 [] := HT0.out.trans_fre hT4 (by simp; exact HXb.out)
  exact bodyPost_ret (v := .tuple #[.agg #[.string pn, .int .u64 pm, .int .i64 pt, .bool pu], .bool true]) (by simp [results, Tryz.results26, go_sem, z0, z1, z2, z3]) rfl ⟨by rw [HE.out]; rfl, hTT⟩
theorem IfP.setUp {w : World} {p : Nat} {S : List Nat} {st : StI} (h : IfP w p S st) {i gM cM : Nat} {q q' : Prt} (hc : w.cell? ⟨p, 0, none⟩ = some (.slice (some ⟨gM, 0, none⟩) st.1.length cM)) (hq : st.1[i]? = some q) {k : Nat} {u : Value} (hk : k < 4) (hu : (prC q).set k u = prC q') (hnm : q'.1 = q.1) (hinv : InvI (st.1.set i q', st.2)) :
  IfP (w.setCell ⟨gM, i * 5 + k, none⟩ u) p S (st.1.set i q', st.2) ∧ Tch w (w.setCell ⟨gM, i * 5 + k, none⟩ u) S := by
 obtain ⟨AM, cM', m, lv, D, rfl, h2, h3, h4, h5, h6, h7, h8, h9⟩ := h
 rw [(h3.cell 0).trans (show _ = some (Value.slice AM st.1.length cM') by rfl)] at hc
 injection hc with hc
 injection hc with hc hcn hcc
 subst hc hcc
 have hil := (List.getElem?_eq_some_iff.1 hq).1
 obtain ⟨l, hl⟩ : ∃ l, st.2[i]? = some l := ⟨_, List.getElem?_eq_getElem (by have := h9.len; omega)⟩
 obtain ⟨A, c, e, ho⟩ := h8 i l hl
 have ob0 : obI (.slice (some ⟨gM, 0, none⟩) st.1.length cM') = [gM] := rfl
 have hT : Tch w (w.setCell ⟨gM, i * 5 + k, none⟩ u) [gM] := (Tch.refl w [gM]).set_ (p := ⟨gM, i * 5 + k, none⟩) (by simp) _
 have hnd := h2
 rw [ob0, List.nodup_cons, List.nodup_cons, List.singleton_append, List.nodup_cons] at hnd
 obtain ⟨n1, n2, n3, n4⟩ := hnd
 have hlen : (st.1.set i q').length = st.1.length := by simp
 have hset := own_setN h4 (i := i * 5 + k) (by omega) u
 rw [mm_set (v' := .slice A l.length c) (p' := q') h7 hq e (by omega) (by rw [List.set_append_left _ _ (by simp [prC]; omega), hu]), (show lv.set i (.slice A l.length c) = lv from by
  apply List.ext_getElem?
  intro j
  rw [List.getElem?_set]
  split
  ·rename_i hj; subst hj
   rw [e]; simp; omega
  ·rfl)] at hset
 have hnm2 : ∀ nm, namedI (st.1.set i q') nm = namedI st.1 nm := by
  intro nm
  unfold namedI
  have e1 : (st.1.set i q').map (·.1) = st.1.map (·.1) := by
   rw [List.map_set, hnm]
   apply List.ext_getElem?
   intro j
   rw [List.getElem?_set]
   split
   ·rename_i hj; subst hj
    rw [List.getElem?_map, hq]; simp; omega
   ·rfl
  have key : ∀ (P Q : List Prt), P.map (·.1) = Q.map (·.1) → fndI (fun x : Prt => decide (x.1 = nm)) P = fndI (fun x : Prt => decide (x.1 = nm)) Q := by
   intro P
   induction P with
   | nil => intro Q hQ; cases Q with | nil => rfl | cons _ _ => simp at hQ
   | cons y r ih =>
    intro Q hQ
    cases Q with
    | nil => simp at hQ
    | cons z s =>
     rw [List.map_cons, List.map_cons] at hQ
     injection hQ with e2 e3
     unfold fndI
     rw [ih s e3, e2]
  exact key _ _ e1
 refine ⟨⟨some ⟨gM, 0, none⟩, cM', m, lv, D, by simp only [hlen], h2, ?_, ?_, ?_, fun nm => ?_, ?_, fun j l2 hj => ?_, hinv⟩, hT.mono (by rw [ob0]; simp)⟩
 ·simp only [hlen]; exact hT.blk h3 (fun hm => n1 (by simp at hm; simp [hm]))
 ·simp only [hlen]; exact hset
 ·simp only [hlen]; exact map_tch h5 hT (fun hm => n2 (by simp at hm; simp [hm]))
 ·rw [h6 nm, hnm2 nm]
 ·simp only [hlen]; exact h7
 ·obtain ⟨A2, c2, e2, ho2⟩ := h8 j l2 hj
  exact ⟨A2, c2, e2, own_tch ho2 hT (fun s hs hm => n3 (by rw [List.mem_singleton.1 hm] at hs; exact List.mem_flatMap.2 ⟨_, List.mem_of_getElem? e2, hs⟩))⟩
theorem turnP (p : Nat) (S : List Nat) (st : StI) (port : Int) (up : Bool) (hi : I64 port) (w : World) (h : IfP w p S st) :
  Calls Tryz.prog 38 #[.pointer (some ⟨p, 0, none⟩), .int .i64 port, .bool up] w fun e w' => e = .returned (.int .i64 (turnI st port up).2) ∧ ∃ S', IfP w' p S' (turnI st port up).1 ∧ Goes w w' S S' := by
 have hinv := h.inv.turn port up
 have HP0 := lH h
 cases hth : thereI st port with
 | false =>
  have HM := lH (pmember_no p S st port hth w h)
  have HE : Hid (turnI st port up = (st, 132)) := lH (by unfold turnI; rw [hth]; rfl)
  clear h hinv hth hi
  go_enter Tryz.func38, Tryz.ntmps38
  go_wp2_with fail
  refine cZm HM.out ?_
  rintro e w' ⟨rfl, rfl⟩
  go_wp2
  go_ret
  rw [HE.out]
  exact ⟨rfl, S, HP0.out, Goes.of_tch (Tch.refl _ _)⟩
 | true =>
  obtain ⟨gM, cM, c, i, n, A, q, l, c0, hq, hl, x0, x1, x2, x3, x4, hO, hl8, hpl, hgl, hfz, hgS, hnn, hn8, hin, hpe, hix⟩ := h.is hth
  have HM := lH (member_at p gM n cM i port hn8 hin hpe w c0)
  have e1 : turnI st port up = ((st.1.set i (q.1, q.2.1, q.2.2.1, up), st.2), 0) := by
   unfold turnI
   rw [hth, hix]
   have := modI_set hq (fun p => (p.1, p.2.1, p.2.2.1, up))
   rw [this]; rfl
  rw [e1] at hinv ⊢
  obtain ⟨k1, k2⟩ := h.setUp (k := 3) (u := .bool up) (by rw [hnn] at c0; exact c0) hq (by decide) (q' := (q.1, q.2.1, q.2.2.1, up)) rfl rfl hinv
  have HK := lH (And.intro k1 k2)
  have f3 := hfz (i * 5 + 3)
  clear h c0 hq hl x0 x1 x2 x4 hO hl8 hpl hgl hfz hgS hnn hn8 hin hpe hix hth hi hinv e1 k1 k2
  go_enter Tryz.func38, Tryz.ntmps38
  go_wp2_with fail
  refine cZm HM.out ?_
  rintro e w' ⟨rfl, rfl⟩
  go_wp2
  go_ret
  exact ⟨rfl, S, HK.out.1, Goes.of_tch HK.out.2⟩
theorem lawN : Keyed Tryz.prog 9 := string_keyed Tryz.underlying9
theorem zeroN (w : World) : (zeroValue 3).run Tryz.prog w = .ok (.int .i64 0) w := by kernel_rfl
theorem pnamed_any (p : Nat) (S : List Nat) (st : StI) (nm : ByteArray) (hs : nm.size ≤ 9223372036854775807) (w : World) (h : IfP w p S st) :
  Calls Tryz.prog 77 #[.pointer (some ⟨p, 0, none⟩), .string nm] w fun e w' => e = .returned (.int .i64 (namedI st.1 nm : Int)) ∧ w = w' := by
 obtain ⟨AM, cM, m, D, c0, c1, hM, hN, hpl⟩ := h.head
 have hkey := WideMaps.keyOf_string_mk Tryz.underlying9 (s := nm) (by unfold maxLen; omega)
 have HNm := lH (hN nm)
 have HO := lH hM
 clear h hM hN hpl c0 hs
 go_enter Tryz.func77, Tryz.ntmps77
 go_wp2_with (at_lookup; refine wpList_lookup_own_int _ rfl _ _ 152 rfl 9 3 .i64 lawN Tryz.underlying152 Tryz.underlying3 (zeroN _) m _ D rfl HO.out _ _ rfl hkey ?_; intro c hat hwc; have HC := lH hat; clear hat hwc)
 go_ret
 have e5 := HC.out
 rw [HNm.out] at e5
 injection e5 with e5
 injection e5 with e6 e7
 exact ⟨by rw [e7]; rfl, rfl⟩
end Go.Proofs.YtgfkmgbcajdcdaaGreatDoor.Ifs
