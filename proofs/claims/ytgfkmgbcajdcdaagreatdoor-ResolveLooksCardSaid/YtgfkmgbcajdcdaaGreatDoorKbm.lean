/-
  Several texts in one: TrI, TrAe, TrU, TrX, TrAf.
-/
import Derived.Test.YtgfkmgbcajdcdaaGreatDoorKas
import Derived.Test.YtgfkmgbcajdcdaaGreatDoorKbl
import Derived.Shelf.Abstract
import Derived.Test.YtgfkmgbcajdcdaaGreatDoorKbi
import Derived.Test.YtgfkmgbcajdcdaaGreatDoorKal
import Derived.Test.YtgfkmgbcajdcdaaGreatDoorKbg
namespace Go.Proofs.YtgfkmgbcajdcdaaGreatDoor
open Go.RowKit Ifs
set_option linter.unusedVariables false
theorem Blk.h2 {w : World} {g : Nat} {t : TypeId} {a b : Value} (h : Blk w g t #[a, b]) : w.cell? ⟨g, 0, none⟩ = some a ∧ w.cell? ⟨g, 1, none⟩ = some b := ⟨(h.cell 0).trans rfl, (h.cell 1).trans rfl⟩
set_option maxRecDepth 100000 in
set_option maxHeartbeats 4000000 in
theorem ttrie_any (p : Nat) (b : Bool) (A0 A1 A2 A3 A4 : Option Addr) (n0 c0 n1 c1 n2 c2 n3 c3 n4 c4 : Nat) (w : World) (h : Blk w p 187 #[.slice A0 n0 c0, .slice A1 n1 c1, .slice A2 n2 c2, .slice A3 n3 c3, .slice A4 n4 c4]) :
    Calls Tryz.prog 72 #[.pointer (some ⟨p, 0, none⟩), .bool b] w fun e w' => e = .returned (bif b then .agg #[.slice A3 n3 c3, .slice A4 n4 c4] else .agg #[.slice A1 n1 c1, .slice A2 n2 c2]) ∧ Tch w w' [] := by
  have HT0 : Hid (Tch w (w.alloc (.cells #[.slice none 0 0, .slice none 0 0] 149)) []) := Lib.hid ((Tch.refl w []).alloc _)
  obtain ⟨t0, t1, t2, t3, t4⟩ := (HT0.out.blk h (by simp)).h5
  clear h
  cases b with
  | true =>
    have HT1 : Hid (Tch w (w.alloc (.cells #[.slice A3 n3 c3, .slice A4 n4 c4] 149)) []) := Lib.hid ((Tch.refl w []).alloc _)
    obtain ⟨z0, z1⟩ := (Blk.new w 149 #[.slice A3 n3 c3, .slice A4 n4 c4]).h2
    go_enter Tryz.func72, Tryz.ntmps72
    go_wp2_with fail
    exact bodyPost_ret (v := .agg #[.slice A3 n3 c3, .slice A4 n4 c4]) (by simp [results, Tryz.results72, go_sem, z0, z1]) rfl ⟨rfl, HT1.out⟩
  | false =>
    have HT1 : Hid (Tch w (w.alloc (.cells #[.slice A1 n1 c1, .slice A2 n2 c2] 149)) []) := Lib.hid ((Tch.refl w []).alloc _)
    obtain ⟨z0, z1⟩ := (Blk.new w 149 #[.slice A1 n1 c1, .slice A2 n2 c2]).h2
    go_enter Tryz.func72, Tryz.ntmps72
    go_wp2_with fail
    exact bodyPost_ret (v := .agg #[.slice A1 n1 c1, .slice A2 n2 c2]) (by simp [results, Tryz.results72, go_sem, z0, z1]) rfl ⟨rfl, HT1.out⟩
end Go.Proofs.YtgfkmgbcajdcdaaGreatDoor

namespace Go.Proofs.YtgfkmgbcajdcdaaGreatDoor
open Go.RowKit Ifs
set_option linter.unusedVariables false

theorem own_zero {W : World} {base sz n : Nat} {t : TypeId} {v : Value} {xs : List Value} (h : W.ownsRow base t sz v n xs) : W.ownsRow 0 t sz v n xs := ⟨h.1, h.2.imp id fun ⟨g, c, cur, a, b, r⟩ => ⟨g, c, cur, a, Nat.zero_le _, r⟩⟩
theorem own_blk1 {W : World} {s base sz : Nat} {t : TypeId} {e : List Value} (hB : Blk W s t e.toArray) (hb : base ≤ s) (hl : e.length = sz) : W.ownsRow base t sz (.slice (some ⟨s, 0, none⟩) 1 1) 1 e :=
  ⟨by rw [hl, Nat.one_mul], .inr ⟨s, 1, e.toArray, rfl, hb, hB, Nat.le_refl _, by decide, by simp [hl], by rw [Nat.one_mul, ← hl]; simp⟩⟩
/-- A trie in memory: what is built of some routes of one family, all parts stored. -/
def TriI (w : World) (rs : List RtN) (AN : Option Addr) (nN cN : Nat) (AL : Option Addr) (nL cL : Nat) : Prop :=
  ∃ (N : List NdN) (P : List PtN) (LV : List Int), BlN ⟨0, 0, rs⟩ N P LV ∧ N.length = P.length ∧ N.length = nN ∧ LV.length = nL ∧ nN ≤ 100000 ∧ nL ≤ 10000000 ∧ (∀ n ∈ N, n.nm < 2 ^ 64 ∧ n.lm < 2 ^ 64 ∧ n.fn ≤ 100000 ∧ n.fl ≤ 10000000) ∧
    w.ownsRow 0 192 4 (.slice AN nN cN) nN (N.flatMap ndC) ∧ w.ownsRow 0 3 1 (.slice AL nL cL) nL (LV.flatMap lvC)
theorem TriI.tch {w w' : World} {rs : List RtN} {AN AL : Option Addr} {nN cN nL cL : Nat} {T : List Nat} (h : TriI w rs AN nN cN AL nL cL) (ht : Tch w w' T) (h1 : ∀ s ∈ obI (.slice AN nN cN), s ∉ T) (h2 : ∀ s ∈ obI (.slice AL nL cL), s ∉ T) : TriI w' rs AN nN cN AL nL cL := by
  obtain ⟨N, P, LV, q1, q2, q3, q4, q5, q6, q7, q8, q9⟩ := h
  exact ⟨N, P, LV, q1, q2, q3, q4, q5, q6, q7, own_tch q8 ht h1, own_tch q9 ht h2⟩
/-- How long the slice is that lies in a cell. -/
def lenAt (w : World) (a : Addr) : Nat := match w.cell? a with | some (.slice _ n _) => n | _ => 0
theorem lenAt_eq {w : World} {a : Addr} {A : Option Addr} {n c : Nat} (h : w.cell? a = some (.slice A n c)) : lenAt w a = n := by unfold lenAt; rw [h]
set_option maxRecDepth 100000 in
set_option maxHeartbeats 8000000 in
theorem newTrie_any (g : Nat) (A : Option Addr) (n c : Nat) (rs : List RtI) (w : World) (hR : RdR w g A n c rs) (hg : g < w.heap.size) (hP : PosN 0 0 (rs.map rtN)) (hok : ∀ r ∈ rs, PvOk r.1) (hn : n ≤ 95) :
    Calls Tryz.prog 111 #[.slice A n c] w fun e w' => ∃ AN nN cN AL nL cL, e = .returned (.tuple #[.agg #[.slice AN nN cN, .slice AL nL cL], .bool true]) ∧ TriI w' (rs.map rtN) AN nN cN AL nL cL ∧ Tch w w' [] := by
  obtain ⟨xb, hxb⟩ : ∃ b, w.heap.size = b := ⟨_, rfl⟩
  have HX := Lib.hid hxb
  have HR := Lib.hid hR
  have HG := Lib.hid hg
  have HP := Lib.hid hP
  have HO := Lib.hid hok
  have HN := Lib.hid hn
  have eg : ∀ args W, (callFunc 153 args).run Tryz.prog W = .ok (.enter 153 args) W := enters_of Tryz.func153 (by kernel_rfl) rfl
  clear hR hg hP hok hn
  go_enter Tryz.func111, Tryz.ntmps111
  go_wp2_with fail
  go_loopw [] (fun wr => ∃ (AP AN AL : Option Addr) (nP cP nN cN nL cL : Nat) (N : List NdN) (P : List PrI) (LV : List Int), Hid (BuI wr (xb + 1) g (xb + 1 + 1 + 1) (xb + 1) AP AN AL nP cP nN cN nL cL N P LV) ∧ Hid (BlN ⟨0, 0, rs.map rtN⟩ N (P.map ptP) LV ∧ BdN rs.length N (P.map ptP) ∧ GrN N (P.map ptP) LV) ∧ Hid (Below xb w wr) ∧ Hid (Blk wr xb 149 #[.slice none 0 0, .slice none 0 0])) (fun wr => 3000 - lenAt wr ⟨xb + 1, 0, none⟩)
  case atStart =>
    obtain ⟨W1, hW1⟩ : ∃ W, w.alloc (.cells #[.slice none 0 0, .slice none 0 0] 149) = W := ⟨_, rfl⟩
    obtain ⟨W2, hW2⟩ : ∃ W, W1.alloc (.cells #[.slice none 0 0, .slice none 0 0] 149) = W := ⟨_, rfl⟩
    obtain ⟨W3, hW3⟩ : ∃ W, W2.alloc (.cells #[.int .i64 0, .int .i64 0, .slice A n c] 218) = W := ⟨_, rfl⟩
    obtain ⟨W4, hW4⟩ : ∃ W, W3.alloc (.cells #[.slice (some ⟨xb + 1 + 1, 0, none⟩) 1 1] 219) = W := ⟨_, rfl⟩
    have z1 : W1.heap.size = xb + 1 := by rw [← hW1, World.size_alloc, HX.out]
    have z2 : W2.heap.size = xb + 1 + 1 := by rw [← hW2, World.size_alloc, z1]
    have z3 : W3.heap.size = xb + 1 + 1 + 1 := by rw [← hW3, World.size_alloc, z2]
    have b1 : Blk W1 xb 149 #[.slice none 0 0, .slice none 0 0] := by rw [← hW1, ← HX.out]; exact Blk.new w _ _
    have b2 : Blk W2 (xb + 1) 149 #[.slice none 0 0, .slice none 0 0] := by rw [← hW2, ← z1]; exact Blk.new W1 _ _
    have b3 : Blk W3 (xb + 1 + 1) 218 #[.int .i64 0, .int .i64 0, .slice A n c] := by rw [← hW3, ← z2]; exact Blk.new W2 _ _
    have b4 : Blk W4 (xb + 1 + 1 + 1) 219 #[.slice (some ⟨xb + 1 + 1, 0, none⟩) 1 1] := by rw [← hW4, ← z3]; exact Blk.new W3 _ _
    have t1 : Tch w W1 [] := hW1 ▸ (Tch.refl w []).alloc _
    have t2 : Tch W1 W2 [] := hW2 ▸ (Tch.refl W1 []).alloc _
    have t3 : Tch W2 W3 [] := hW3 ▸ (Tch.refl W2 []).alloc _
    have t4 : Tch W3 W4 [] := hW4 ▸ (Tch.refl W3 []).alloc _
    have t04 : Tch w W4 [] := ((t1.trans t2).trans t3).trans t4
    have hgx : g < xb := by have := HG.out; have := HX.out; omega
    rw [hW1, hW2, hW3, hW4]
    have eo : obI (.slice (some ⟨xb + 1 + 1, 0, none⟩) 1 1) = [xb + 1 + 1] := rfl
    have en : obI (.slice none 0 0) = [] := rfl
    refine ⟨some ⟨xb + 1 + 1, 0, none⟩, none, none, 1, 1, 0, 0, 0, 0, [], [(0, 0, .slice A n c, rs)], [], Lib.hid ⟨b4, (t3.trans t4).blk b2 (by simp), own_blk1 (t4.blk b3 (by simp)) (by omega) rfl, World.ownsRow_nil _ _ _ _, World.ownsRow_nil _ _ _ _, rfl, rfl, rfl, ?_, ?_, by omega, ?_, ?_, ?_, ?_, ?_⟩, Lib.hid ⟨?_, ?_, ?_⟩, Lib.hid (t04.below (Nat.le_of_eq HX.out.symm) (by simp)), Lib.hid (((t2.trans t3).trans t4).blk b1 (by simp))⟩
    · intro p hp
      rw [List.mem_singleton.1 hp]
      exact ⟨⟨A, n, c, rfl, by have := HN.out; omega, HR.out.tch t04 HG.out (by simp)⟩, HO.out⟩
    · exact Nat.lt_of_lt_of_le HG.out t04.size
    · rw [eo, en]; simp; omega
    · rw [eo, en]; simp; omega
    · rw [eo, en]; simp; omega
    · intro s _; rw [en]; simp
    · intro s _; rw [en]; simp
    · exact BlN.start ⟨Nat.zero_le _, 0, HP.out⟩
    · have h1 := BdN.start (root := ⟨0, 0, rs.map rtN⟩) rfl
      rw [show (⟨0, 0, rs.map rtN⟩ : PtN).rs.length = rs.length from List.length_map _] at h1
      exact h1
    · exact GrN.start _
  case round =>
    obtain ⟨AP, AN, AL, nP, cP, nN, cN, nL, cL, N, P, LV, hB, hK, hBw, hRt⟩ := hrel
    have hrl : rs.length ≤ 95 := by rw [HR.out.len]; exact HN.out
    have hPl : nP ≤ 1996 := by have h1 := hK.out.2.1.le; rw [List.length_map, hB.out.pl] at h1; omega
    have hNP : nN ≤ nP := by have h1 := hK.out.1.le; rw [List.length_map, hB.out.pl, hB.out.nl] at h1; exact h1
    have hLl : nL ≤ 64 * nN := by have h1 := hK.out.2.2.lv; rw [hB.out.ll, hB.out.nl] at h1; exact h1
    have k0 := (hB.out.tc.cell 0).trans (show _ = some (Value.slice AN nN cN) from rfl)
    have k1 := (hB.out.pc.cell 0).trans (show _ = some (Value.slice AP nP cP) from rfl)
    have hgx : g < xb := by have := HG.out; have := HX.out; omega
    have HS := Lib.hid (And.intro hPl (And.intro hNP (And.intro hLl hgx)))
    clear hrl hLl hgx hxb
    by_cases hlt : nN < nP
    · have lI : (nN : Int) < (nP : Int) := by omega
      have l0 : (0 : Int) ≤ (nN : Int) := by omega
      have l2 : ¬ (2048 : Int) < (nP : Int) := by omega
      obtain ⟨p, hp⟩ : ∃ p, P[nN]? = some p := ⟨_, List.getElem?_eq_getElem (by rw [hB.out.pl]; exact hlt)⟩
      obtain ⟨gp, hgp⟩ := slice_some hB.out.pr (by omega)
      subst hgp
      have hpok := hB.out.ok p (List.mem_of_getElem? hp)
      have hpp : (P.map ptP)[N.length]? = some (ptP p) := by rw [hB.out.nl, List.getElem?_map, hp]; rfl
      obtain ⟨hd, cc, hpos⟩ := hK.out.1.ok (ptP p) (List.mem_of_getElem? hpp)
      have HSt := Lib.hid (store_any g (xb + 1 + 1 + 1) (xb + 1) (xb + 1) cc _ AN AL nP cP nN cN nL cL N P LV p wr hB.out hpok hpos hd ⟨by omega, by omega, by have := HS.out; omega⟩ (by have := hB.out.tc.lt; omega) ⟨by omega, by omega⟩)
      have hat := fun q (hq : q < 3) => flatk_at (n := 3) (f := prC) prC_len hp (k := q) hq
      have c0 : wr.cell? ⟨gp, nN * 3, none⟩ = some (.int .i64 (p.1 : Int)) := own_cellN hB.out.pr (hat 0 (by decide))
      have c1 : wr.cell? ⟨gp, nN * 3 + 1, none⟩ = some (.int .i64 p.2.1) := own_cellN hB.out.pr (hat 1 (by decide))
      have c2 : wr.cell? ⟨gp, nN * 3 + 2, none⟩ = some p.2.2.1 := own_cellN hB.out.pr (hat 2 (by decide))
      obtain ⟨⟨Ax, nx, cx, hpx, -, -⟩, -⟩ := hpok
      rw [hpx] at c2
      have HP2 := Lib.hid (And.intro hp hpp)
      have hpc : prC p = [.int .i64 (p.1 : Int), .int .i64 p.2.1, .slice Ax nx cx] := by unfold prC; rw [hpx]
      rw [hpc] at HSt
      clear hp hpp hd hpos hat hpc hpx
      generalize p.1 = pd at c0 HSt
      generalize p.2.1 = pn at c1 HSt
      go_wp2_with (go_at_fn 153; refine Calls.mono HSt.out ?_; rintro e w5 ⟨rfl, AP', AN', AL', nP', cP', nN', cN', nL', cL', P', hP', hB', hb'⟩; have HB' := Lib.hid hB'; have HE' := Lib.hid (And.intro hP' hb'); clear hP' hB' hb')
      go_roundw
      case rel =>
        refine ⟨AP', AN', AL', nP', cP', nN', cN', nL', cL', _, P', _, HB', Lib.hid ?_, Lib.hid ?_, Lib.hid ?_⟩
        · rw [HE'.out.1]
          have h1 := hK.out.1.store HP2.out.2
          have h2 := BdN.store hK.out.2.1 hK.out.1 HP2.out.2 ⟨(P.map ptP).length, (storeN (ptP p) (P.map ptP) LV 64).nm, LV.length, (storeN (ptP p) (P.map ptP) LV 64).lm⟩ (LV := LV)
          have h3 := hK.out.2.2.store (ptP p)
          rw [List.length_map] at h1 h2 h3
          exact ⟨h1, h2, h3⟩
        · exact hBw.out.trans (HE'.out.2.mono (by omega))
        · exact hRt.out.below HE'.out.2 (by omega)
      case measure =>
        have h1 := HB'.out.nl
        rw [List.length_append, hB.out.nl] at h1
        simp only [List.length_cons, List.length_nil] at h1
        have h2 := lenAt_eq ((HB'.out.tc.cell 0).trans (show _ = some (Value.slice AN' nN' cN') from rfl))
        have h3 := lenAt_eq k0
        rw [h2, h3]
        have := HS.out
        omega
    · have lI : ¬ (nN : Int) < (nP : Int) := by omega
      have k2 := (hB.out.tc.cell 1).trans (show _ = some (Value.slice AL nL cL) from rfl)
      obtain ⟨r0, r1⟩ := hRt.out.h2
      have f0 := hRt.out.frozen 0
      have f1 := hRt.out.frozen 1
      go_wp2
      obtain ⟨W9, hW9⟩ : ∃ W, (wr.setCell ⟨xb, 0, none⟩ (.slice AN nN cN)).setCell ⟨xb, 1, none⟩ (.slice AL nL cL) = W := ⟨_, rfl⟩
      have hb9 : Blk W9 xb 149 #[.slice AN nN cN, .slice AL nL cL] := hW9 ▸ ((hRt.out.set_ 0 (.slice AN nN cN)).set_ 1 (.slice AL nL cL))
      have ht9 : Tch wr W9 [xb] := hW9 ▸ ((Tch.refl wr [xb]).set_ (by simp) _).set_ (by simp) _
      obtain ⟨z0, z1⟩ := hb9.h2
      rw [hW9]
      have hge : ∀ s ∈ obI (.slice AN nN cN), s ∉ [xb] := fun s hs k => by have h1 := (own_geI hB.out.nr s hs).1; rw [List.mem_singleton.1 k] at h1; omega
      have hgl : ∀ s ∈ obI (.slice AL nL cL), s ∉ [xb] := fun s hs k => by have h1 := (own_geI hB.out.lr s hs).1; rw [List.mem_singleton.1 k] at h1; omega
      refine bodyPost_ret (v := .tuple #[.agg #[.slice AN nN cN, .slice AL nL cL], .bool true]) (by simp [results, Tryz.results111, go_sem, z0, z1]) rfl ⟨AN, nN, cN, AL, nL, cL, rfl, ⟨N, P.map ptP, LV, hK.out.1, ?_, hB.out.nl, hB.out.ll, ?_, ?_, ?_, own_zero (own_tch hB.out.nr ht9 hge), own_zero (own_tch hB.out.lr ht9 hgl)⟩, ?_⟩
      · rw [List.length_map, hB.out.pl, hB.out.nl]; have := HS.out; omega
      · have := HS.out; omega
      · have := HS.out; omega
      · intro x hx
        have h1 := hK.out.2.2.nd x hx
        rw [List.length_map, hB.out.pl, hB.out.ll] at h1
        have := HS.out
        exact ⟨h1.1, h1.2.1, by omega, by omega⟩
      · have h1 : Below w.heap.size w wr := by rw [HX.out]; exact hBw.out
        exact (Tch.of_below [] h1).trans_fre ht9 (fun s hs => .inr (by rw [List.mem_singleton.1 hs, HX.out]; exact Nat.le_refl _))
end Go.Proofs.YtgfkmgbcajdcdaaGreatDoor

namespace Go.Proofs.YtgfkmgbcajdcdaaGreatDoor
open Go.RowKit Ifs
set_option linter.unusedVariables false

set_option maxRecDepth 100000 in
set_option maxHeartbeats 1000000 in
/-- slices.Clone of a row of routes. -/
theorem clone_rt (A : Option Addr) (n c : Nat) (l : List RtI) (hn : n ≤ 1000) (w : World) (h : RowT w 0 A n c l) :
    Calls Tryz.prog 64 #[.slice A n c] w fun e w' => ∃ A' c', e = .returned (.slice A' n c') ∧ RowT w' w.heap.size A' n c' l ∧ Tch w w' [] := by
  unfold RowT at h ⊢
  cases A with
  | none =>
    obtain ⟨rfl, rfl⟩ := own_none h
    have q : ∀ (w : World), (binOp .eql 63 (.slice none 0 0) (.slice none 0 0)).run Tryz.prog w = .ok (.bool true) w := fun w => Lib.run_eql_slice_nil w _ _ none 0 0 0 0 Tryz.underlying63
    have h1 : l.flatMap rtC = [] := List.eq_nil_of_length_eq_zero (by rw [h.1])
    rw [h1]
    clear h hn h1
    go_enter Tryz.func64, Tryz.ntmps64
    go_wp2
    go_ret
    exact ⟨none, 0, rfl, ⟨rfl, .inl ⟨rfl, rfl⟩⟩, Tch.refl _ _⟩
  | some ad =>
    have q : ∀ (w : World), (binOp .eql 63 (.slice (some ad) n c) (.slice none 0 0)).run Tryz.prog w = .ok (.bool false) w := fun w => Lib.run_eql_slice_nil w _ _ (some ad) n c 0 0 Tryz.underlying63
    have HM0 : Hid ((w.alloc (.cells #[] 101)).ownsRow w.heap.size 101 5 (.slice (some ⟨w.heap.size, 0, none⟩) 0 0) 0 []) := Lib.hid (World.ownsRow_made w #[] 0 (Nat.le_refl _) (Nat.zero_le _) rfl)
    have HR := Lib.hid (h.alloc (.cells #[] 101))
    have HS : Hid (0 + n ≤ 1000000) := Lib.hid (by omega)
    clear h hn
    go_enter Tryz.func64, Tryz.ntmps64
    go_wp2_with (at_builtin; (refine wpList_apm 63 101 (.agg #[.bool false, .int .u64 0, .int .u64 0, .int .i64 0, .int .i64 0]) 5 40 Tryz.underlying63 infoRt rfl (by decide) (by decide) _ rfl (.tmp 5) (.tmp 6) rfl w.heap.size (.slice (some ⟨w.heap.size, 0, none⟩) 0 0) 0 [] rfl HM0.out 0 (.slice (some ad) n c) n (l.flatMap rtC) rfl HR.out (flat_one rt_one l) HS.out (by simp) ?_; intro v9 w5 hown hg hv; have hT5 : Tch w w5 [] := (((Tch.refl w []).alloc _).trans_fre (Tch.of_grown' (S := [w.heap.size]) hg (fun g e => by simp [Value.ownBlock] at e; simp [e])) (by simp)); have HT5 := Lib.hid hT5; have HO5 := Lib.hid hown; clear hown hg hv hT5))
    go_ret
    obtain ⟨A', c', e, -, -⟩ := own_sl HO5.out
    rw [Nat.zero_add] at e
    subst e
    exact ⟨A', c', rfl, by have := HO5.out; rw [Nat.zero_add] at this; simpa using this, HT5.out⟩
set_option maxRecDepth 100000 in
set_option maxHeartbeats 4000000 in
/-- No route is wrong: slices.IndexFunc finds none. -/
theorem idx_wrong (A : Option Addr) (n c : Nat) (l : List RtI) (hl : l.length = n) (hn : n ≤ 1000) (hok : ∀ r ∈ l, PvOk r.1 ∧ 1 ≤ r.2 ∧ r.2 ≤ 65535) (w : World) (h : RowT w 0 A n c l) :
    Calls Tryz.prog 105 #[.slice A n c, .func (.func 63) #[] #[]] w fun e w' => e = .returned (.int .i64 (-1)) ∧ Tch w w' [] := by
  have eg : ∀ args W, (callFunc 63 args).run Tryz.prog W = .ok (.enter 63 args) W := enters_of Tryz.func63 (by kernel_rfl) rfl
  have HL := Lib.hid hl
  have HF := Lib.hid (fun (y : RtI) (hy : y ∈ l) W => wrong_no y (hok y hy).1 (hok y hy).2.1 (hok y hy).2.2 W)
  have HO := Lib.hid h
  clear h hl hok
  go_enter Tryz.func105, Tryz.ntmps105
  go_wp2
  go_loopw [5, 8] (fun _ kv wr => ∃ k : Nat, kv = .int .i64 (k : Int) ∧ k ≤ n ∧ Hid (Tch w wr [])) (fun _ kv _ => n - (intOf kv).toNat)
  case atStart => exact ⟨0, rfl, Nat.zero_le _, Lib.hid (Tch.refl _ _)⟩
  case round =>
    obtain ⟨k, rfl, hk, hT⟩ := hrel
    have k1 : IntKind.i64.wrap ((k : Int) + 1) = (k : Int) + 1 := by rw [IntKind.wrap_i64]; omega
    by_cases hkn : k < n
    · have kI : (k : Int) < (n : Int) := by omega
      have k0 : (0 : Int) ≤ (k : Int) := by omega
      obtain ⟨y, hy⟩ : ∃ y, l[k]? = some y := ⟨_, List.getElem?_eq_getElem (by rw [HL.out]; exact hkn)⟩
      have d3 := own_tch HO.out hT.out (by simp)
      obtain ⟨gx, rfl⟩ := slice_some d3 (by omega)
      obtain ⟨y0, y1, y2, y3, y4⟩ := rt_cells d3 hy
      have HC := Lib.hid (HF.out y (List.mem_of_getElem? hy) wr)
      clear d3 hy
      obtain ⟨⟨⟨s, h, b⟩, m⟩, x⟩ := y
      go_wp2_with (go_at_fn 63; refine Calls.mono HC.out ?_; rintro e w' ⟨rfl, hb'⟩; have HT' : Hid (Tch wr w' []) := Lib.hid (Tch.of_below [] hb'); clear hb')
      go_roundw
      case rel => exact ⟨k + 1, by go_num, hkn, Lib.hid (hT.out.trans HT'.out)⟩
      case measure => simp [intOf]; omega
    · obtain rfl : k = n := by omega
      have kI : ¬ (k : Int) < (k : Int) := by omega
      clear hkn hk
      go_wp2
      go_ret
      exact ⟨rfl, hT.out⟩
set_option maxRecDepth 100000 in
set_option maxHeartbeats 1000000 in
theorem cont_wrong (A : Option Addr) (n c : Nat) (l : List RtI) (hl : l.length = n) (hn : n ≤ 1000) (hok : ∀ r ∈ l, PvOk r.1 ∧ 1 ≤ r.2 ∧ r.2 ≤ 65535) (w : World) (h : RowT w 0 A n c l) :
    Calls Tryz.prog 62 #[.slice A n c, .func (.func 63) #[] #[]] w fun e w' => e = .returned (.bool false) ∧ Tch w w' [] := by
  have HI := Lib.hid (idx_wrong A n c l hl hn hok w h)
  clear h hl hok
  go_enter Tryz.func62, Tryz.ntmps62
  go_wp2_with (go_at_call 105; (with_reducible refine Calls.mono HI.out ?_); rintro e w1 ⟨rfl, hT1⟩; have HT1 := Lib.hid hT1; clear hT1)
  go_ret
  exact ⟨rfl, HT1.out⟩
set_option maxRecDepth 100000 in
set_option maxHeartbeats 1000000 in
/-- Is the k-th route of the second family. -/
theorem six_at (xb k : Nat) (A : Option Addr) (n c : Nat) (l : List RtI) (r : RtI) (hr : l[k]? = some r) (hl : l.length = n) (w : World) (h : RowT w 0 A n c l) (hx : w.cell? ⟨xb, 0, none⟩ = some (.slice A n c)) :
    Calls Tryz.prog 110 #[.int .i64 (k : Int), .pointer (some ⟨xb, 0, none⟩)] w fun e w' => e = .returned (.bool r.1.1.1) ∧ Tch w w' [] := by
  have hk : k < n := by rw [← hl]; exact (List.getElem?_eq_some_iff.1 hr).1
  have kI : (k : Int) < (n : Int) := by omega
  have k0 : (0 : Int) ≤ (k : Int) := by omega
  obtain ⟨gx, rfl⟩ := slice_some h (by omega)
  obtain ⟨y0, -⟩ := rt_cells h hr
  clear h hr hl
  go_enter Tryz.func110, Tryz.ntmps110
  go_wp2
  go_ret
  exact ⟨rfl, Tch.refl _ _⟩
end Go.Proofs.YtgfkmgbcajdcdaaGreatDoor

namespace Go.Proofs.YtgfkmgbcajdcdaaGreatDoor
open Go.RowKit Ifs
set_option linter.unusedVariables false

/-- From k on, and only from k on, routes are of the second family. -/
def SixAt (l : List RtI) (k : Nat) : Prop := (∀ (i : Nat) (a : RtI), i < k → l[i]? = some a → a.1.1.1 = false) ∧ (∀ (i : Nat) (a : RtI), k ≤ i → l[i]? = some a → a.1.1.1 = true)
set_option maxRecDepth 100000 in
set_option maxHeartbeats 4000000 in
theorem search_six (xb : Nat) (A : Option Addr) (n c : Nat) (l : List RtI) (hl : l.length = n) (hn : n ≤ 1000) (hm : ∀ (i j : Nat) (a b : RtI), i < j → l[i]? = some a → l[j]? = some b → a.1.1.1 = true → b.1.1.1 = true) (w : World) (h : RowT w 0 A n c l) (hx : w.cell? ⟨xb, 0, none⟩ = some (.slice A n c)) (hxl : xb < w.heap.size) :
    Calls Tryz.prog 109 #[.int .i64 (n : Int), .func (.func 110) #[] #[.pointer (some ⟨xb, 0, none⟩)]] w fun e w' => ∃ k : Nat, e = .returned (.int .i64 (k : Int)) ∧ k ≤ n ∧ SixAt l k ∧ Tch w w' [] := by
  have eg : ∀ args W, (callFunc 110 args).run Tryz.prog W = .ok (.enter 110 args) W := enters_of Tryz.func110 (by kernel_rfl) rfl
  have HL := Lib.hid hl
  have HM := Lib.hid hm
  have HF := Lib.hid (fun (k : Nat) (y : RtI) (hy : l[k]? = some y) W (hT : Tch w W []) => six_at xb k A n c l y hy hl W (own_tch h hT (by simp)) ((hT.cell (p := ⟨xb, 0, none⟩) hxl (by simp)).trans hx))
  clear h hl hm hx hxl
  go_enter Tryz.func109, Tryz.ntmps109
  go_wp2
  go_loopw [5, 6] (fun iv jv wr => ∃ i j : Nat, iv = .int .i64 (i : Int) ∧ jv = .int .i64 (j : Int) ∧ i ≤ j ∧ j ≤ n ∧ Hid (∀ (u : Nat) (a : RtI), u < i → l[u]? = some a → a.1.1.1 = false) ∧ Hid (∀ (u : Nat) (a : RtI), j ≤ u → l[u]? = some a → a.1.1.1 = true) ∧ Hid (Tch w wr [])) (fun iv jv _ => (intOf jv - intOf iv).toNat)
  case atStart => exact ⟨0, n, rfl, rfl, Nat.zero_le _, Nat.le_refl _, Lib.hid (fun u a hu => absurd hu (by omega)), Lib.hid (fun u a hu ha => by have h1 := (List.getElem?_eq_some_iff.1 ha).1; have := HL.out; omega), Lib.hid (Tch.refl _ _)⟩
  case round =>
    obtain ⟨i, j, rfl, rfl, hij, hj, hA, hB, hT⟩ := hrel
    by_cases hin : i < j
    · have iI : (i : Int) < (j : Int) := by omega
      obtain ⟨m, hm⟩ : ∃ m, (i + j) / 2 = m := ⟨_, rfl⟩
      have m1 : ((i : Int) + (j : Int)) / 2 = (m : Int) := by omega
      have m2 : IntKind.i64.wrap ((m : Int) + 1) = (m : Int) + 1 := by rw [IntKind.wrap_i64]; omega
      obtain ⟨y, hy⟩ : ∃ y, l[m]? = some y := ⟨_, List.getElem?_eq_getElem (by rw [HL.out]; omega)⟩
      have HC := Lib.hid (HF.out m y hy wr hT.out)
      have HY := Lib.hid hy
      have HMd : Hid (i ≤ m ∧ m < j) := Lib.hid (by omega)
      obtain ⟨b, hb⟩ : ∃ b, y.1.1.1 = b := ⟨_, rfl⟩
      rw [hb] at HC
      have HBb := Lib.hid hb
      clear hy hb hm
      cases b with
      | true =>
        go_wp2_with (go_at_fn 110; refine Calls.mono HC.out ?_; rintro e w' ⟨rfl, hT'⟩; have HT' := Lib.hid hT'; clear hT')
        go_roundw
        case rel => exact ⟨i, m, rfl, rfl, HMd.out.1, by have := HMd.out; omega, hA, Lib.hid (fun u a hu ha => by
          rcases Nat.lt_or_eq_of_le hu with h1 | h1
          · exact HM.out m u y a h1 HY.out ha HBb.out
          · subst h1; rw [HY.out] at ha; injection ha with ha; subst ha; exact HBb.out), Lib.hid (hT.out.trans HT'.out)⟩
        case measure => have := HMd.out; simp [intOf]; omega
      | false =>
        go_wp2_with (go_at_fn 110; refine Calls.mono HC.out ?_; rintro e w' ⟨rfl, hT'⟩; have HT' := Lib.hid hT'; clear hT')
        go_roundw
        case rel => exact ⟨m + 1, j, by go_num, rfl, HMd.out.2, hj, Lib.hid (fun u a hu ha => by
          rcases Nat.lt_or_eq_of_le (Nat.le_of_lt_succ hu) with h1 | h1
          · cases hq : a.1.1.1 with
            | false => rfl
            | true => rw [← HM.out u m a y h1 ha HY.out hq]; exact HBb.out.symm ▸ rfl
          · subst h1; rw [HY.out] at ha; injection ha with ha; subst ha; exact HBb.out), hB, Lib.hid (hT.out.trans HT'.out)⟩
        case measure => have := HMd.out; simp [intOf]; omega
    · have iI : ¬ (i : Int) < (j : Int) := by omega
      obtain rfl : i = j := by omega
      go_wp2
      go_ret
      exact ⟨i, rfl, hj, ⟨hA.out, hB.out⟩, hT.out⟩
end Go.Proofs.YtgfkmgbcajdcdaaGreatDoor

namespace Go.Proofs.YtgfkmgbcajdcdaaGreatDoor
open Go.RowKit Ifs
set_option linter.unusedVariables false

theorem ltP_six {p q : PfI} (h : ltP p q) (hp : p.1.1 = true) : q.1.1 = true := by
  obtain ⟨⟨s, h1, l1⟩, b1⟩ := p
  obtain ⟨⟨t, h2, l2⟩, b2⟩ := q
  simp only at hp ⊢
  subst hp
  cases t with
  | true => rfl
  | false =>
    exfalso
    unfold ltP keyP at h
    simp [lexP, bI] at h
/-- Those without Six stand ahead of those with it. -/
theorem SixAt.fam {l : List RtI} {k : Nat} (h : SixAt l k) : famN l false = (l.take k).map rtN ∧ famN l true = (l.drop k).map rtN := by
  have e : ∀ b, l.filter (fun r => decide (r.1.1.1 = b)) = (l.take k).filter (fun r => decide (r.1.1.1 = b)) ++ (l.drop k).filter (fun r => decide (r.1.1.1 = b)) := fun b => by
    rw [← List.filter_append, List.take_append_drop]
  have h1 : ∀ r ∈ l.take k, r.1.1.1 = false := fun r hr => by
    obtain ⟨i, hi⟩ := List.mem_iff_getElem?.1 hr
    rw [List.getElem?_take] at hi
    split at hi
    · rename_i hik; exact h.1 i r hik hi
    · cases hi
  have h2 : ∀ r ∈ l.drop k, r.1.1.1 = true := fun r hr => by
    obtain ⟨i, hi⟩ := List.mem_iff_getElem?.1 hr
    rw [List.getElem?_drop] at hi
    exact h.2 (k + i) r (by omega) hi
  constructor
  · unfold famN
    rw [e, List.filter_eq_self.2 (fun r hr => by simp [h1 r hr]), List.filter_eq_nil_iff.2 (fun r hr => by simp [h2 r hr]), List.append_nil]
  · unfold famN
    rw [e, List.filter_eq_nil_iff.2 (fun r hr => by simp [h1 r hr]), List.filter_eq_self.2 (fun r hr => by simp [h2 r hr]), List.nil_append]
set_option maxRecDepth 100000 in
set_option maxHeartbeats 8000000 in
theorem newTable_any (A : Option Addr) (n c : Nat) (l : List RtI) (hs : SrtR l) (hl : l.length = n) (hn : n ≤ 90) (w : World) (h : RowT w 0 A n c l) :
    Calls Tryz.prog 68 #[.slice A n c] w fun e w' => ∃ p A1 n1 c1 A2 n2 c2 A3 n3 c3 A4 n4 c4, e = .returned (.tuple #[.pointer (some ⟨p, 0, none⟩), .int .i64 0]) ∧
      Blk w' p 187 #[.slice A n c, .slice A1 n1 c1, .slice A2 n2 c2, .slice A3 n3 c3, .slice A4 n4 c4] ∧ TriI w' (famN l false) A1 n1 c1 A2 n2 c2 ∧ TriI w' (famN l true) A3 n3 c3 A4 n4 c4 ∧ Tch w w' [] := by
  obtain ⟨xb, hxb⟩ : ∃ b, w.heap.size = b := ⟨_, rfl⟩
  obtain ⟨W0, hW0⟩ : ∃ W, w.alloc (.cells #[.slice A n c] 63) = W := ⟨_, rfl⟩
  have hT0 : Tch w W0 [] := hW0 ▸ (Tch.refl w []).alloc _
  have hX0 : Blk W0 xb 63 #[.slice A n c] := hW0 ▸ hxb ▸ Blk.new w _ _
  have HT0 := Lib.hid hT0
  have HX0 := Lib.hid hX0
  have HRw := Lib.hid (fun W (hW : Tch w W []) => own_tch h hW (by simp))
  have HSe := Lib.hid (search_six xb A n c l hl (by omega) (fun i j a b hij ha hb h6 => by
    have h1 := List.pairwise_iff_getElem.1 hs.srt i j (List.getElem?_eq_some_iff.1 ha).1 (List.getElem?_eq_some_iff.1 hb).1 hij
    rw [(List.getElem?_eq_some_iff.1 ha).2, (List.getElem?_eq_some_iff.1 hb).2] at h1
    exact ltP_six h1 h6) W0 (own_tch h hT0 (by simp)) ((hX0.cell 0).trans rfl) hX0.lt)
  have HS := Lib.hid hs
  have HL := Lib.hid (And.intro hl hn)
  have HW0 := Lib.hid (And.intro hW0 hxb)
  have hnc : n ≤ c := (own_sl h).elim fun A' hA => hA.elim fun c' hc => by obtain ⟨e, h1, -⟩ := hc; injection e with _ _ e3; omega
  have HA : Hid ((A = none ∧ n = 0 ∧ c = 0) ∨ ∃ g, A = some ⟨g, 0, none⟩ ∧ g < w.heap.size) := Lib.hid (by
    rcases h.2 with ⟨e, e2⟩ | ⟨g, cap, cur, e, -, hg, -⟩
    · injection e with e1 e2 e3; exact .inl ⟨e1, e2, e3⟩
    · injection e with e1 e2 e3; exact .inr ⟨g, e1, (Array.getElem?_eq_some_iff.1 hg).1⟩)
  clear h hs hl hn hW0 hxb hT0 hX0
  go_enter Tryz.func68, Tryz.ntmps68
  go_wp2_with fail
  rw [HW0.out.1, HW0.out.2]
  refine Calls.mono HSe.out ?_
  rintro e w1 ⟨k, rfl, hkn, hSix, hT1⟩
  have HT1 := Lib.hid hT1
  have hX1 := hT1.blk HX0.out (by simp)
  have x0 := (hX1.cell 0).trans (show _ = some (Value.slice A n c) from rfl)
  have HF := Lib.hid hSix.fam
  have HK := Lib.hid hkn
  have kI : (k : Int) ≤ (c : Int) := by omega
  have kI2 : (k : Int) ≤ (n : Int) := by omega
  have nI : (n : Int) ≤ (c : Int) := by omega
  have k0 : (0 : Int) ≤ (k : Int) := by omega
  have HP1 : Hid (PosN 0 0 ((l.take k).map rtN)) := Lib.hid (by rw [← hSix.fam.1]; exact HS.out.pos false)
  have HP2 : Hid (PosN 0 0 ((l.drop k).map rtN)) := Lib.hid (by rw [← hSix.fam.2]; exact HS.out.pos true)
  have HO1 : Hid (∀ r ∈ l.take k, PvOk r.1) := Lib.hid (fun r hr => HS.out.ok r (List.mem_of_mem_take hr))
  have HO2 : Hid (∀ r ∈ l.drop k, PvOk r.1) := Lib.hid (fun r hr => HS.out.ok r (List.mem_of_mem_drop hr))
  have hxlt : xb < w1.heap.size := hX1.lt
  have HXs := Lib.hid (fun W (hW : Tch w1 W []) => ((hW.blk hX1 (by simp)).cell 0).trans (show _ = some (Value.slice A n c) from rfl))
  have HNN : Hid (k ≤ 95 ∧ n - k ≤ 95) := Lib.hid (by have := HL.out; omega)
  have hcase : (A = none ∧ n = 0 ∧ c = 0 ∧ k = 0) ∨ (∃ g, A = some ⟨g, 0, none⟩ ∧ c = k) ∨ ∃ g, A = some ⟨g, 0, none⟩ ∧ c ≠ k := by
    rcases HA.out with ⟨h1, h2, h3⟩ | ⟨g, h1, -⟩
    · exact .inl ⟨h1, h2, h3, by omega⟩
    · by_cases h2 : c = k
      · exact .inr (.inl ⟨g, h1, h2⟩)
      · exact .inr (.inr ⟨g, h1, h2⟩)
  have HGs : Hid (∀ g, A = some ⟨g, 0, none⟩ → g < w1.heap.size) := Lib.hid (fun g e => by
    rcases HA.out with ⟨h1, -⟩ | ⟨g', h1, h2⟩
    · rw [h1] at e; cases e
    · rw [h1] at e; injection e with e; injection e with e; subst e
      exact Nat.lt_of_lt_of_le h2 (Nat.le_trans HT0.out.size hT1.size))
  clear hSix hT1 hX1
  have go : ∀ (A2 : Option Addr) (g : Nat), g < w1.heap.size → (∀ W, Tch w1 W [] → RdR W g A k c (l.take k)) → (∀ W, Tch w1 W [] → RdR W g A2 (n - k) (c - k) (l.drop k)) →
      (∀ W, Tch w1 W [] → Calls Tryz.prog 111 #[.slice A k c] W fun e w' => ∃ AN nN cN AL nL cL, e = .returned (.tuple #[.agg #[.slice AN nN cN, .slice AL nL cL], .bool true]) ∧ TriI w' (famN l false) AN nN cN AL nL cL ∧ Tch W w' []) ∧
      (∀ W, Tch w1 W [] → Calls Tryz.prog 111 #[.slice A2 (n - k) (c - k)] W fun e w' => ∃ AN nN cN AL nL cL, e = .returned (.tuple #[.agg #[.slice AN nN cN, .slice AL nL cL], .bool true]) ∧ TriI w' (famN l true) AN nN cN AL nL cL ∧ Tch W w' []) := by
    intro A2 g hg h1 h2
    rw [HF.out.1, HF.out.2]
    exact ⟨fun W hW => newTrie_any g A k c _ W (h1 W hW) (Nat.lt_of_lt_of_le hg hW.size) HP1.out HO1.out HNN.out.1, fun W hW => newTrie_any g A2 (n - k) (c - k) _ W (h2 W hW) (Nat.lt_of_lt_of_le hg hW.size) HP2.out HO2.out HNN.out.2⟩
  have hdrop : (l.drop k).take (n - k) = l.drop k := List.take_of_length_le (by rw [List.length_drop, HL.out.1]; exact Nat.le_refl _)
  rcases hcase with ⟨hA0, hn0, hc0, hk0⟩ | ⟨g, hA1, hck⟩ | ⟨g, hA1, hck⟩
  · have hl0 : l = [] := List.eq_nil_of_length_eq_zero (by rw [HL.out.1]; exact hn0)
    have hgo := go none xb hxlt (fun W hW => by rw [hA0, hk0, hl0]; exact RdR.mk rfl (Nat.zero_le _) (fun h => absurd h (by decide))) (fun W hW => by rw [hn0, hc0, hl0, hk0]; exact RdR.nil W xb none 0)
    subst hA0 hn0 hc0 hk0
    have HG1 := Lib.hid hgo.1
    have HG2 := Lib.hid hgo.2
    clear go hgo
    go_wp2_with fail
    refine Calls.mono (HG1.out w1 (Tch.refl _ _)) ?_
    rintro e w2 ⟨A1, n1, c1, A2, n2, c2, rfl, hI1, hT2⟩
    have HI1 := Lib.hid hI1
    have HT2 := Lib.hid hT2
    obtain ⟨y, hy⟩ : ∃ y, w2.heap.size = y := ⟨_, rfl⟩
    obtain ⟨W2, hW2⟩ : ∃ W, w2.alloc (.cells #[.slice A1 n1 c1, .slice A2 n2 c2] 149) = W := ⟨_, rfl⟩
    have hB2 : Blk W2 y 149 #[.slice A1 n1 c1, .slice A2 n2 c2] := hW2 ▸ hy ▸ Blk.new w2 _ _
    have HB2 := Lib.hid hB2
    have HT2' : Hid (Tch w2 W2 []) := Lib.hid (hW2 ▸ (Tch.refl w2 []).alloc _)
    have HW2 := Lib.hid (And.intro hW2 hy)
    clear x0 hI1 hT2 hB2
    have x0 := HXs.out W2 (HT2.out.trans HT2'.out)
    rw [← hW2] at x0
    clear hW2 hy
    go_wp2_with fail
    rw [HW2.out.1, HW2.out.2]
    refine Calls.mono (HG2.out W2 (HT2.out.trans HT2'.out)) ?_
    rintro e w3 ⟨A3, n3, c3, A4, n4, c4, rfl, hI2, hT3⟩
    have HI2 := Lib.hid hI2
    have HT3 := Lib.hid hT3
    obtain ⟨z, hz⟩ : ∃ z, w3.heap.size = z := ⟨_, rfl⟩
    obtain ⟨W3, hW3⟩ : ∃ W, w3.alloc (.cells #[.slice A3 n3 c3, .slice A4 n4 c4] 149) = W := ⟨_, rfl⟩
    have hB3 : Blk W3 z 149 #[.slice A3 n3 c3, .slice A4 n4 c4] := hW3 ▸ hz ▸ Blk.new w3 _ _
    have HT3' : Hid (Tch w3 W3 []) := Lib.hid (hW3 ▸ (Tch.refl w3 []).alloc _)
    have HW3 := Lib.hid (And.intro hW3 hz)
    clear x0 hI2 hT3
    have x0 := HXs.out W3 (((HT2.out.trans HT2'.out).trans HT3.out).trans HT3'.out)
    obtain ⟨y0, y1⟩ := ((HT3.out.trans HT3'.out).blk HB2.out (by simp)).h2
    obtain ⟨z0, z1⟩ := hB3.h2
    rw [← hW3] at x0 y0 y1 z0 z1
    rw [← hz] at z0 z1
    clear hW3 hz hB3
    go_wp2
    go_ret2
    refine ⟨_, A1, n1, c1, A2, n2, c2, A3, n3, c3, A4, n4, c4, rfl, ?_, ?_, ?_, ?_⟩
    · have hz3 : W3.heap.size = w3.heap.size + 1 := by rw [← HW3.out.1, World.size_alloc]
      rw [HW3.out.1, ← hz3]
      exact Blk.new _ _ _
    · rw [HW3.out.1]
      exact HI1.out.tch (((HT2'.out.trans HT3.out).trans HT3'.out).alloc _) (fun s _ => by simp) (fun s _ => by simp)
    · rw [HW3.out.1]
      exact HI2.out.tch (HT3'.out.alloc _) (fun s _ => by simp) (fun s _ => by simp)
    · rw [HW3.out.1]
      exact (((((HT0.out.trans HT1.out).trans HT2.out).trans HT2'.out).trans HT3.out).trans HT3'.out).alloc _
  · subst hA1
    subst hck
    have hnk : n = c := by omega
    have HNK := Lib.hid hnk
    have kn1 : ¬ (c : Int) < c := by omega
    have hgo := go (some ⟨g, 0, none⟩) g (HGs.out g rfl) (fun W hW => by
        have h1 := RdR.of_row (HRw.out W (((HT0.out.trans HT1.out).trans hW))) HL.out.1
        have h2 := RdR.piece (lo := 0) (k := c) h1 rfl (by omega)
        simpa using h2) (fun W hW => by
        have h0 : l.drop c = [] := List.drop_eq_nil_of_le (by rw [HL.out.1]; omega)
        rw [h0, show n - c = 0 by omega]; exact RdR.nil W g _ _)
    have HG1 := Lib.hid hgo.1
    have hg2 := hgo.2
    rw [show n - c = 0 by omega, Nat.sub_self] at hg2
    have HG2 := Lib.hid hg2
    clear hg2
    clear go hgo
    go_wp2_with fail
    refine Calls.mono (HG1.out w1 (Tch.refl _ _)) ?_
    rintro e w2 ⟨A1, n1, c1, A2, n2, c2, rfl, hI1, hT2⟩
    have HI1 := Lib.hid hI1
    have HT2 := Lib.hid hT2
    obtain ⟨y, hy⟩ : ∃ y, w2.heap.size = y := ⟨_, rfl⟩
    obtain ⟨W2, hW2⟩ : ∃ W, w2.alloc (.cells #[.slice A1 n1 c1, .slice A2 n2 c2] 149) = W := ⟨_, rfl⟩
    have hB2 : Blk W2 y 149 #[.slice A1 n1 c1, .slice A2 n2 c2] := hW2 ▸ hy ▸ Blk.new w2 _ _
    have HB2 := Lib.hid hB2
    have HT2' : Hid (Tch w2 W2 []) := Lib.hid (hW2 ▸ (Tch.refl w2 []).alloc _)
    have HW2 := Lib.hid (And.intro hW2 hy)
    clear x0 hI1 hT2 hB2
    have x0 := HXs.out W2 (HT2.out.trans HT2'.out)
    rw [← hW2] at x0
    clear hW2 hy
    go_wp2_with fail
    rw [HW2.out.1, HW2.out.2]
    refine Calls.mono (HG2.out W2 (HT2.out.trans HT2'.out)) ?_
    rintro e w3 ⟨A3, n3, c3, A4, n4, c4, rfl, hI2, hT3⟩
    have HI2 := Lib.hid hI2
    have HT3 := Lib.hid hT3
    obtain ⟨z, hz⟩ : ∃ z, w3.heap.size = z := ⟨_, rfl⟩
    obtain ⟨W3, hW3⟩ : ∃ W, w3.alloc (.cells #[.slice A3 n3 c3, .slice A4 n4 c4] 149) = W := ⟨_, rfl⟩
    have hB3 : Blk W3 z 149 #[.slice A3 n3 c3, .slice A4 n4 c4] := hW3 ▸ hz ▸ Blk.new w3 _ _
    have HT3' : Hid (Tch w3 W3 []) := Lib.hid (hW3 ▸ (Tch.refl w3 []).alloc _)
    have HW3 := Lib.hid (And.intro hW3 hz)
    clear x0 hI2 hT3
    have x0 := HXs.out W3 (((HT2.out.trans HT2'.out).trans HT3.out).trans HT3'.out)
    obtain ⟨y0, y1⟩ := ((HT3.out.trans HT3'.out).blk HB2.out (by simp)).h2
    obtain ⟨z0, z1⟩ := hB3.h2
    rw [← hW3] at x0 y0 y1 z0 z1
    rw [← hz] at z0 z1
    clear hW3 hz hB3
    go_wp2
    go_ret2
    refine ⟨_, A1, n1, c1, A2, n2, c2, A3, n3, c3, A4, n4, c4, rfl, ?_, ?_, ?_, ?_⟩
    · have hz3 : W3.heap.size = w3.heap.size + 1 := by rw [← HW3.out.1, World.size_alloc]
      rw [HW3.out.1, ← hz3]
      rw [HNK.out]
      exact Blk.new _ _ _
    · rw [HW3.out.1]
      exact HI1.out.tch (((HT2'.out.trans HT3.out).trans HT3'.out).alloc _) (fun s _ => by simp) (fun s _ => by simp)
    · rw [HW3.out.1]
      exact HI2.out.tch (HT3'.out.alloc _) (fun s _ => by simp) (fun s _ => by simp)
    · rw [HW3.out.1]
      exact (((((HT0.out.trans HT1.out).trans HT2.out).trans HT2'.out).trans HT3.out).trans HT3'.out).alloc _
  · subst hA1
    have hck1 : ¬ c = k := hck
    have hck2 : ¬ k = c := fun e => hck e.symm
    have hgo := go (some ⟨g, k * 5, none⟩) g (HGs.out g rfl) (fun W hW => by
        have h1 := RdR.of_row (HRw.out W (((HT0.out.trans HT1.out).trans hW))) HL.out.1
        have h2 := RdR.piece (lo := 0) (k := k) h1 rfl (by omega)
        simpa using h2) (fun W hW => by
        have h1 := RdR.of_row (HRw.out W (((HT0.out.trans HT1.out).trans hW))) HL.out.1
        have h2 := RdR.piece (lo := k) (k := n - k) h1 rfl (by omega)
        rw [hdrop, Nat.zero_add] at h2
        exact h2)
    have HG1 := Lib.hid hgo.1
    have HG2 := Lib.hid hgo.2
    clear go hgo
    go_wp2_with fail
    refine Calls.mono (HG1.out w1 (Tch.refl _ _)) ?_
    rintro e w2 ⟨A1, n1, c1, A2, n2, c2, rfl, hI1, hT2⟩
    have HI1 := Lib.hid hI1
    have HT2 := Lib.hid hT2
    obtain ⟨y, hy⟩ : ∃ y, w2.heap.size = y := ⟨_, rfl⟩
    obtain ⟨W2, hW2⟩ : ∃ W, w2.alloc (.cells #[.slice A1 n1 c1, .slice A2 n2 c2] 149) = W := ⟨_, rfl⟩
    have hB2 : Blk W2 y 149 #[.slice A1 n1 c1, .slice A2 n2 c2] := hW2 ▸ hy ▸ Blk.new w2 _ _
    have HB2 := Lib.hid hB2
    have HT2' : Hid (Tch w2 W2 []) := Lib.hid (hW2 ▸ (Tch.refl w2 []).alloc _)
    have HW2 := Lib.hid (And.intro hW2 hy)
    clear x0 hI1 hT2 hB2
    have x0 := HXs.out W2 (HT2.out.trans HT2'.out)
    rw [← hW2] at x0
    clear hW2 hy
    go_wp2_with fail
    rw [HW2.out.1, HW2.out.2]
    refine Calls.mono (HG2.out W2 (HT2.out.trans HT2'.out)) ?_
    rintro e w3 ⟨A3, n3, c3, A4, n4, c4, rfl, hI2, hT3⟩
    have HI2 := Lib.hid hI2
    have HT3 := Lib.hid hT3
    obtain ⟨z, hz⟩ : ∃ z, w3.heap.size = z := ⟨_, rfl⟩
    obtain ⟨W3, hW3⟩ : ∃ W, w3.alloc (.cells #[.slice A3 n3 c3, .slice A4 n4 c4] 149) = W := ⟨_, rfl⟩
    have hB3 : Blk W3 z 149 #[.slice A3 n3 c3, .slice A4 n4 c4] := hW3 ▸ hz ▸ Blk.new w3 _ _
    have HT3' : Hid (Tch w3 W3 []) := Lib.hid (hW3 ▸ (Tch.refl w3 []).alloc _)
    have HW3 := Lib.hid (And.intro hW3 hz)
    clear x0 hI2 hT3
    have x0 := HXs.out W3 (((HT2.out.trans HT2'.out).trans HT3.out).trans HT3'.out)
    obtain ⟨y0, y1⟩ := ((HT3.out.trans HT3'.out).blk HB2.out (by simp)).h2
    obtain ⟨z0, z1⟩ := hB3.h2
    rw [← hW3] at x0 y0 y1 z0 z1
    rw [← hz] at z0 z1
    clear hW3 hz hB3
    go_wp2
    go_ret2
    refine ⟨_, A1, n1, c1, A2, n2, c2, A3, n3, c3, A4, n4, c4, rfl, ?_, ?_, ?_, ?_⟩
    · have hz3 : W3.heap.size = w3.heap.size + 1 := by rw [← HW3.out.1, World.size_alloc]
      rw [HW3.out.1, ← hz3]
      exact Blk.new _ _ _
    · rw [HW3.out.1]
      exact HI1.out.tch (((HT2'.out.trans HT3.out).trans HT3'.out).alloc _) (fun s _ => by simp) (fun s _ => by simp)
    · rw [HW3.out.1]
      exact HI2.out.tch (HT3'.out.alloc _) (fun s _ => by simp) (fun s _ => by simp)
    · rw [HW3.out.1]
      exact (((((HT0.out.trans HT1.out).trans HT2.out).trans HT2'.out).trans HT3.out).trans HT3'.out).alloc _
end Go.Proofs.YtgfkmgbcajdcdaaGreatDoor
