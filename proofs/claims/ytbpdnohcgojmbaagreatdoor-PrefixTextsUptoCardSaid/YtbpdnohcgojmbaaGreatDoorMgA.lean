/-
  Several texts in one: RBytes, RGroups, RZeros, RAmx, RDig, RSpelt, Spl, RPrn.
-/
import Derived.Test.YtbpdnohcgojmbaaGreatDoorValid
import Derived.Test.YtbpdnohcgojmbaaGreatDoorRefPut
import Derived.Deep.RegionHeld3
import Derived.Test.YtbpdnohcgojmbaaGreatDoorPrint
import Derived.Test.YtbpdnohcgojmbaaGreatDoorAppk
import Derived.StillTailTactics
import Derived.Deep.RegionLaw
import Derived.Test.YtbpdnohcgojmbaaGreatDoorLong
import Derived.Test.YtbpdnohcgojmbaaGreatDoorTrip
import Derived.Laws.BytesArg
import Derived.OrdersHeld

namespace Go.Proofs.YtbpdnohcgojmbaaGreatDoor
open Go.RowKit
set_option linter.unusedVariables false

/-- A slice of bytes that reads as zs, in a world in which all that was ahead of W stands. -/
def RB (w W : World) (A : Option Addr) (n c : Nat) (zs : List Int) : Prop := RI .u8 w w.heap.size A n zs ∧ (A = none → c = 0) ∧ Below W.heap.size W w ∧ (∀ x, A = some x → W.heap.size ≤ x.block)
/-- The contract of one call of the document's Put onto such a slice. -/
def RBStep (W : World) (n n' k : Nat) (width v : Int) : Prop := ∀ (w : World) (A : Option Addr) (c : Nat) (zs : List Int), RB w W A n c zs →
    Calls Tryz.prog 69 #[.slice A n c, .int .i64 width, .int .u64 v] w fun e w' => ∃ A' c', e = .returned (.slice A' n' c') ∧ RB w' W A' n' c' (zs ++ putOf k v)
theorem rbStep (W : World) (n n' k : Nat) (width v : Int) (hk : k ≤ 8) (hw : width = (k : Int)) (hn : n + k = n') (h0 : 0 < n') (hn2 : n ≤ 1000) (hv : U6 v) : RBStep W n n' k width v := by
  intro w A c zs h
  have e : wide width = k := by
    subst hw
    unfold wide; split <;> split <;> omega
  have hp := refPut_any w w.heap.size A n c v width zs h.1 h.2.1 (Nat.le_refl _) (by omega) hv.1 hv.2
  rw [e, hn] at hp
  refine Calls.mono hp ?_
  rintro e w' ⟨A', c', rfl, h1, h2, h3⟩
  obtain ⟨b, o, e, _⟩ := h1.2.1 h0
  exact ⟨A', c', rfl, h1, (fun h => by rw [e] at h; cases h), h.2.2.1.trans (h3.mono h.2.2.1.size), fun x hx => Nat.le_trans h.2.2.1.size (h2 x hx)⟩
theorem RB.start (w : World) : RB w.drew w none 0 0 [] := ⟨RI.nil_, fun _ => rfl, (Below.refl _ _).drew, fun _ h => by cases h⟩
theorem RB.start0 (w : World) : RB w w none 0 0 [] := ⟨RI.nil_, fun _ => rfl, Below.refl _ _, fun _ h => by cases h⟩

/-- What hands back bytes that read as zs, in memory of the call's own. -/
def OutR (w : World) (zs : List Int) (e : Ending) (w' : World) : Prop :=
  ∃ A c, e = .returned (.slice A zs.length c) ∧ RI .u8 w' w'.heap.size A zs.length zs ∧ (A = none → c = 0) ∧ (∀ g, A = some g → w.heap.size ≤ g.block) ∧ Below w.heap.size w w'

set_option maxRecDepth 100000 in
set_option maxHeartbeats 2000000 in
theorem rbytes_any (s : Bool) (h l : Int) (hh : U6 h) (hl : U6 l) (w : World) :
    Calls Tryz.prog 50 #[adr s h l] w (OutR w (byts s h l)) := by
  obtain ⟨V, hV⟩ : ∃ V, vld s h l = V := ⟨_, rfl⟩
  have HVa := Lib.hid (rvalid_at s h l (w.alloc (.cells #[.bool s, .int .u64 h, .int .u64 l] 24)) hV)
  cases V
  · have e : byts s h l = [] := by unfold byts; rw [hV]; rfl
    rw [e]
    clear hV e
    go_enter Tryz.func50, Tryz.ntmps50
    go_wp2_with fail
    refine Calls.mono HVa.out ?_
    rintro e w1 ⟨rfl, hb⟩
    have L1 := ((Below.refl _ w).alloc (Nat.le_refl _) _).trans (hb.mono (by simp only [World.size_alloc]; omega))
    clear hb
    go_wp2
    go_ret
    exact ⟨none, 0, rfl, RI.nil_, fun _ => rfl, (fun g e => by cases e), L1⟩
  · cases s
    · have e : byts false h l = putOf 4 l := by unfold byts; rw [hV]; rfl
      rw [e]
      clear hV e
      have HL := Lib.hid hl
      go_enter Tryz.func50, Tryz.ntmps50
      go_wp2_with fail
      refine Calls.mono HVa.out ?_
      rintro e w1 ⟨rfl, hb⟩
      have R1 := Lib.hid ((Blk.new w 24 _).below hb (by simp only [World.size_alloc]; omega))
      have L1 := Lib.hid (((Below.refl _ w).alloc (Nat.le_refl _) _).trans (hb.mono (by simp only [World.size_alloc]; omega)))
      obtain ⟨g1, g2, g3⟩ := R1.out.c3
      have HS := Lib.hid (rbStep w1 0 4 4 4 l (by decide) rfl rfl (by decide) (by decide) HL.out w1 none 0 [] (RB.start0 w1))
      clear hb
      go_wp2_with fail
      refine Calls.mono HS.out ?_
      rintro e w2 ⟨A, c, rfl, q1, q2, q3, q4⟩
      have Q := Lib.hid (And.intro q1 (And.intro q2 (And.intro q3 q4)))
      clear q1 q2 q3 q4 g1 g2 g3
      go_wp2
      go_ret
      obtain ⟨q1, q2, q3, q4⟩ := Q.out
      refine ⟨A, c, ?_, ?_, q2, fun g e => Nat.le_trans L1.out.size (q4 g e), L1.out.trans (q3.mono L1.out.size)⟩
      · rw [putOf_len]; rfl
      · rw [putOf_len]; exact q1
    · have e : byts true h l = putOf 8 h ++ putOf 8 l := by unfold byts; rw [hV]; rfl
      rw [e]
      clear hV e
      have HL := Lib.hid hl
      have HH := Lib.hid hh
      go_enter Tryz.func50, Tryz.ntmps50
      go_wp2_with fail
      refine Calls.mono HVa.out ?_
      rintro e w1 ⟨rfl, hb⟩
      have R1 := Lib.hid ((Blk.new w 24 _).below hb (by simp only [World.size_alloc]; omega))
      have L1 := Lib.hid (((Below.refl _ w).alloc (Nat.le_refl _) _).trans (hb.mono (by simp only [World.size_alloc]; omega)))
      have hs1 : w.heap.size < w1.heap.size := by have := hb.size; simp only [World.size_alloc] at this; omega
      have HC : Hid (∀ W', Below w1.heap.size w1 W' → W'.cell? ⟨w.heap.size, 1, none⟩ = some (.int .u64 h) ∧ W'.cell? ⟨w.heap.size, 2, none⟩ = some (.int .u64 l)) := by
        show ∀ W', _ → _
        intro W' hB
        have := (R1.out.below hB hs1).c3
        exact ⟨this.2.1, this.2.2⟩
      obtain ⟨g1, g2, g3⟩ := R1.out.c3
      have hR := RB.start w1
      have H1 := Lib.hid (rbStep w1 0 8 8 8 h (by decide) rfl rfl (by decide) (by decide) HH.out)
      have H2 := Lib.hid (rbStep w1 8 16 8 8 l (by decide) rfl rfl (by decide) (by decide) HL.out)
      clear hb
      go_wp2
      go_region_held3 (fun w' => w'.cell? ⟨w.heap.size, 1, none⟩ = some (.int .u64 h) ∧ w'.cell? ⟨w.heap.size, 2, none⟩ = some (.int .u64 l))
        (first | exact HC.out _ hR.2.2.1 | go_keep)
        ((go_at_call 69; (first
            | (have hc := H1.out _ _ _ _ hR; (with_reducible refine Calls.mono hc ?_); clear hc)
            | (have hc := H2.out _ _ _ _ hR; (with_reducible refine Calls.mono hc ?_); clear hc)); rintro e W' ⟨A', c', rfl, hR⟩))
      all_goals
        have Q := Lib.hid hR
        clear hR
        go_wp2
        go_ret
        obtain ⟨q1, q2, q3, q4⟩ := Q.out
        have el : (putOf 8 h ++ putOf 8 l).length = 16 := by rw [List.length_append, putOf_len, putOf_len]
        refine ⟨_, _, ?_, ?_, q2, fun g e => Nat.le_trans L1.out.size (q4 g e), L1.out.trans (q3.mono L1.out.size)⟩
        · rw [el]; rfl
        · rw [el]; exact q1
end Go.Proofs.YtbpdnohcgojmbaaGreatDoor

namespace Go.Proofs.YtbpdnohcgojmbaaGreatDoor
open Go.RowKit
set_option linter.unusedVariables false

theorem pair_at (h l : Int) (hh : U6 h) (hl : U6 l) (m : Nat) (hm : m < 8) : ∃ x y, (putOf 8 h ++ putOf 8 l)[2 * m]? = some x ∧ (putOf 8 h ++ putOf 8 l)[2 * m + 1]? = some y ∧ (0 ≤ x ∧ x ≤ 255) ∧ (0 ≤ y ∧ y ≤ 255) ∧ (gsOf h l)[m]? = some (x * 256 + y) := by
  obtain ⟨h0, h1⟩ := hh
  obtain ⟨l0, l1⟩ := hl
  rcases (show m = 0 ∨ m = 1 ∨ m = 2 ∨ m = 3 ∨ m = 4 ∨ m = 5 ∨ m = 6 ∨ m = 7 by omega) with rfl | rfl | rfl | rfl | rfl | rfl | rfl | rfl
  all_goals
    refine ⟨_, _, rfl, rfl, by omega, by omega, ?_⟩
    simp only [gsOf, List.getElem?_cons_zero, List.getElem?_cons_succ, ← gr_0, ← gr_1, ← gr_2, ← gr_3]
    congr 1
    omega
theorem own8 {w : World} {base n : Nat} {t : TypeId} {zs : List Int} {v : Value} (h : w.ownsRow base t 1 v n (zs.map (Value.int .u64))) : ∀ k, v.ownBlock = some k → base ≤ k := own_basek h
theorem wf_u64' {z : Int} (h : 0 ≤ z ∧ z ≤ 65535) : (Lit.int .u64 z).wf = true := by
  simp [Lit.wf, IntKind.min, IntKind.max, IntKind.bits, IntKind.signed]; omega

/-- 'append' of one number onto a row of the call's own, as a step of a region in an open order. -/
theorem step_app64 {ops : Array Oper} {o : Oper} {a : Act} {w : World} {K : Act → World → Prop} {Q : Exit → Act → World → Prop} {E : Prop}
    (hg : o.guard = none) (s x : Operand) (hop : o.op = Op.call { callee := Callee.builtin Builtin.append, args := #[s, x], argTypes := #[81, 81] })
    (base : Nat) (v : Value) (n : Nat) (ys : List Int) (hs : a.eval s = v) (hown : w.ownsRow base 22 1 v n (ys.map (Value.int .u64)))
    (b : Nat) (z : Int) (hx : a.eval x = .slice (some ⟨b, 0, none⟩) 1 1) (hc : w.cell? ⟨b, 0, none⟩ = some (.int .u64 z)) (hn : n ≤ 1000) (hbase : base ≤ w.heap.size)
    (hK : ∀ v' w', w'.ownsRow base 22 1 v' (n + 1) ((ys ++ [z]).map (Value.int .u64)) → w.grownBy w' v.ownBlock → K (a.put o.dst v') w') :
    if Region.wanted o (yielded ops a.tmps) = true then Oper.wp Tryz.prog o a w K Q else E := by
  have hw : Region.wanted o (yielded ops a.tmps) = true := by simp [Region.wanted, hg]
  rw [if_pos hw]
  have hinf : (Tryz.prog.info? 22).map (fun i => (i.zero, i.size, i.bytes)) = some (some (.int .u64 0), 1, 8) := by kernel_rfl
  obtain ⟨i0, hi, hz0, hz1, hz2⟩ := info_parts hinf
  obtain ⟨v', w', hrun, r1, r2, -, -⟩ := run_append_own_at (P := Tryz.prog) w base 81 o.type 22 i0 (.int .u64 0) 1 8 Tryz.underlying81 hi hz0 hz1 hz2 rfl (by decide) v n _ hown ⟨b, 0, none⟩ 1 1 [.int .u64 z] rfl (fun j u hj => by
    rcases j with _ | j
    · cases hj; exact hc
    · cases hj) (fun u hu => by rw [List.mem_singleton] at hu; subst hu; rfl) (by unfold maxLen; omega) (by omega) hbase
  unfold Oper.wp
  simp [execOp, hop, resolve, invoke, builtin, hs, hx, hrun, Result.andThen]
  exact hK v' w' (by simpa using r1) r2

set_option maxRecDepth 100000 in
set_option maxHeartbeats 2000000 in
theorem rgroups_any (h l : Int) (hh : U6 h) (hl : U6 l) (w : World) :
    Calls Tryz.prog 51 #[adr true h l] w fun e w' => ∃ A c, e = .returned (.slice A 8 c) ∧ RI .u64 w' w'.heap.size A 8 (gsOf h l) ∧ (∀ g, A = some g → w.heap.size ≤ g.block) ∧ Below w.heap.size w w' := by
  have HPr := Lib.hid (pair_at h l hh hl)
  have HB := Lib.hid (rbytes_any true h l hh hl (w.alloc (.cells #[.bool true, .int .u64 h, .int .u64 l] 24)))
  have eb : byts true h l = putOf 8 h ++ putOf 8 l := by unfold byts; rw [vld_six]; rfl
  rw [eb] at HB
  have el : (putOf 8 h ++ putOf 8 l).length = 16 := by rw [List.length_append, putOf_len, putOf_len]
  obtain ⟨zs, hzs⟩ : ∃ zs, zs = putOf 8 h ++ putOf 8 l := ⟨_, rfl⟩
  obtain ⟨G, hG⟩ : ∃ G, G = gsOf h l := ⟨_, rfl⟩
  have hGl : G.length = 8 := by rw [hG]; rfl
  rw [← hzs] at HB HPr el
  rw [← hG] at HPr ⊢
  unfold OutR at HB
  rw [el] at HB
  have HGw : Hid (∀ z ∈ G, (Lit.int .u64 z).wf = true) := Lib.hid (by
    rw [hG]
    intro z hz
    simp only [gsOf, List.mem_cons, List.not_mem_nil, or_false] at hz
    rcases hz with rfl | rfl | rfl | rfl | rfl | rfl | rfl | rfl <;> exact wf_u64' (gr_bd _ _))
  have HGl := Lib.hid hGl
  clear eb hzs hG hh hl el hGl
  go_enter Tryz.func51, Tryz.ntmps51
  go_wp2_with fail
  refine Calls.mono HB.out ?_
  rintro e w1 ⟨A, c, rfl, hri, hA, hge, hb⟩
  have HR := Lib.hid hri
  have L1 := Lib.hid (((Below.refl _ w).alloc (Nat.le_refl _) _).trans (hb.mono (by simp only [World.size_alloc]; omega)))
  clear hri hb hA hge
  go_wp2
  go_loopw [4, 5] (fun v' i wr => ∃ m j : Nat, m ≤ 8 ∧ j = 2 * m ∧ i = .int .i64 (j : Int) ∧ wr.ownsRow w1.heap.size 22 1 v' m ((G.take m).map (Value.int .u64)) ∧ Below w1.heap.size w1 wr) (fun _ i _ => (16 - intOf i).toNat)
  case atStart => exact ⟨0, 0, by decide, rfl, rfl, ⟨by simp, .inl ⟨rfl, rfl⟩⟩, Below.refl _ _⟩
  case round =>
    obtain ⟨m, j, hm, hj, rfl, hown, hbel⟩ := hrel
    have HO := Lib.hid hown
    have HBl := Lib.hid hbel
    by_cases hlt : m < 8
    · obtain ⟨x, y, hx, hy, hx1, hy1, hg⟩ := HPr.out m hlt
      have RW := HR.out.below hbel
      obtain ⟨b, o, rfl, hbk, hc⟩ := RW.2.1 (by decide)
      have d0 := hc _ _ hx
      have d1 := hc _ _ hy
      rw [← hj] at d0 d1
      have hw1 : IntKind.i64.wrap ((j : Int) + 1) = (j : Int) + 1 := by rw [IntKind.wrap_i64]; omega
      have hn1 : ((j : Int) + 1).toNat = j + 1 := by omega
      have hw2 : IntKind.u64.wrap (x * 256) = x * 256 := by rw [IntKind.wrap_u64]; omega
      have hw3 : IntKind.u64.wrap (x * 256 + y) = x * 256 + y := by rw [IntKind.wrap_u64]; omega
      have hwx : IntKind.u64.wrap x = x := by rw [IntKind.wrap_u64]; omega
      have hwy : IntKind.u64.wrap y = y := by rw [IntKind.wrap_u64]; omega
      have hj16 : (j : Int) < 16 := by omega
      have hj0 : 0 ≤ (j : Int) + 1 := by omega
      have hj15 : j < 16 := by omega
      have hj14 : (j : Int) + 1 < 16 := by omega
      have HX := Lib.hid (And.intro hx1 (And.intro hy1 hg))
      have HJ := Lib.hid hj
      clear hown hbel hx hy hx1 hy1 hg RW hc hbk hj
      go_wp2
      have HT : Hid (G.take m ++ [x * 256 + y] = G.take (m + 1)) := Lib.hid (by rw [List.take_add_one, HX.out.2.2]; rfl)
      go_region_law (refine step_app64 rfl (.tmp 12) (.tmp 26) rfl w1.heap.size u4 m (G.take m) (by simp [Act.eval]) (HO.out.drew.alloc _) wr.heap.size (x * 256 + y) (by simp [Act.eval]) ((Blk.new wr.drew 22 #[.int .u64 (x * 256 + y)]).cell 0) (by omega) (by have := HBl.out.size; simp; omega) ?_; intro v2 w2 hown2 hg2; have HO2 := Lib.hid hown2; have HB2 := Lib.hid ((HBl.out.drew.alloc HBl.out.size _).grown hg2 (by have := HBl.out.size; simp; omega) (own8 HO.out)); clear hown2 hg2)
      all_goals
        clear d0 d1
        go_wp2
        go_roundw
        case rel => exact ⟨m + 1, j + 2, by omega, by have := HJ.out; omega, by go_num, by have h := HO2.out; rw [HT.out] at h; exact h, HB2.out⟩
        case measure => simp [intOf]; omega
    · obtain rfl : m = 8 := by omega
      subst hj
      clear hown hbel
      go_wp2
      go_ret
      have ho := HO.out
      rw [List.take_of_length_le (by rw [HGl.out]; exact Nat.le_refl _)] at ho
      obtain ⟨A2, c2, rfl, q1, -, q3, -⟩ := own_ri HGw.out ho
      exact ⟨A2, c2, rfl, q1, fun g e => Nat.le_trans L1.out.size (q3 g e), L1.out.trans (HBl.out.mono L1.out.size)⟩
end Go.Proofs.YtbpdnohcgojmbaaGreatDoor

namespace Go.Proofs.YtbpdnohcgojmbaaGreatDoor
open Go.RowKit
set_option linter.unusedVariables false

/-- How many noughts a list begins with. -/
def lz : List Int → Nat
  | [] => 0
  | z :: r => if z = 0 then lz r + 1 else 0
theorem lz_le (l : List Int) : lz l ≤ l.length := by
  induction l with
  | nil => exact Nat.le_refl _
  | cons z r ih => unfold lz; split <;> simp <;> omega

set_option maxRecDepth 100000 in
set_option maxHeartbeats 1000000 in
theorem rzeros_any (w : World) (B c i : Nat) (A : Option Addr) (G : List Int) (hG : RI .u64 w B A 8 G) (hi : i ≤ 8) :
    Calls Tryz.prog 52 #[.slice A 8 c, .int .i64 (i : Int)] w fun e w' => e = .returned (.int .i64 (lz (G.drop i) : Int)) ∧ w = w' := by
  obtain ⟨b, o, rfl, hbk, hc⟩ := hG.2.1 (by decide)
  have hl := hG.1
  have HC := Lib.hid hc
  have HL := Lib.hid hl
  clear hG hc hl hbk
  go_enter Tryz.func52, Tryz.ntmps52
  go_wp2
  go_loop [5] (fun x => ∃ k : Nat, i + k ≤ 8 ∧ x = .int .i64 (k : Int) ∧ Hid (lz (G.drop i) = k + lz (G.drop (i + k)))) (fun x => 8 - (intOf x).toNat)
  case atStart => exact ⟨0, by omega, rfl, Lib.hid (by simp)⟩
  case round =>
    obtain ⟨k, hk, rfl, hh⟩ := hrel
    have hw1 : IntKind.i64.wrap ((i : Int) + (k : Int)) = (i : Int) + (k : Int) := by rw [IntKind.wrap_i64]; omega
    by_cases hlt : i + k < 8
    · have hlt1 : (i : Int) + (k : Int) < 8 := by omega
      have hn : ((i : Int) + (k : Int)).toNat = i + k := by omega
      have h0 : 0 ≤ (i : Int) + (k : Int) := by omega
      obtain ⟨z, hz⟩ : ∃ z, G[i + k]? = some z := ⟨_, List.getElem?_eq_getElem (by rw [HL.out]; exact hlt)⟩
      have d0 := HC.out _ _ hz
      have hd : G.drop (i + k) = z :: G.drop (i + k + 1) := by
        have hlt' : i + k < G.length := by rw [HL.out]; exact hlt
        rw [List.drop_eq_getElem_cons hlt']
        congr 1
        rw [List.getElem?_eq_getElem hlt'] at hz
        exact Option.some.inj hz
      have h2 := hh.out
      rw [hd] at h2
      by_cases hz0 : z = 0
      · subst hz0
        have HN : Hid (lz (G.drop i) = (k + 1) + lz (G.drop (i + (k + 1)))) := Lib.hid (by rw [h2, show i + (k + 1) = i + k + 1 by omega]; simp [lz]; omega)
        clear h2 hd hh hz
        go_wp2
        go_round
        case rel => exact ⟨k + 1, by omega, by go_num, HN⟩
        case measure => simp [intOf]; omega
      · have HN : Hid (lz (G.drop i) = k) := Lib.hid (by rw [h2]; simp [lz, hz0])
        clear h2 hd hh hz
        go_wp2
        go_ret
        rw [HN.out]
        exact ⟨rfl, rfl⟩
    · have hlt1 : ¬ (i : Int) + (k : Int) < 8 := by omega
      have HN : Hid (lz (G.drop i) = k) := Lib.hid (by rw [hh.out, List.drop_eq_nil_of_le (by rw [HL.out]; omega)]; rfl)
      clear hh
      go_wp2
      go_ret
      rw [HN.out]
      exact ⟨rfl, rfl⟩
end Go.Proofs.YtbpdnohcgojmbaaGreatDoor

namespace Go.Proofs.YtbpdnohcgojmbaaGreatDoor
open Go.RowKit
set_option linter.unusedVariables false

/-- The place from which most groups are 0: of those up to k. -/
def amx (zs : List Int) : Nat → Nat
  | 0 => 0
  | k + 1 => if lz (zs.drop (amx zs k)) < lz (zs.drop (k + 1)) then k + 1 else amx zs k
theorem amx_le (zs : List Int) : ∀ k, amx zs k ≤ k
  | 0 => Nat.le_refl _
  | k + 1 => by have := amx_le zs k; unfold amx; split <;> omega
/-- Which are 0. -/
def nz (z : Int) : Int := if z = 0 then 0 else 1
theorem nz_zero (z : Int) : nz z = 0 ↔ z = 0 := by unfold nz; split <;> simp_all
theorem lngAux_nz : ∀ (l : List Int) (j p n r : Nat), lngAux (l.map nz) j p n r = lngAux l j p n r
  | [], _, _, _, _ => rfl
  | z :: l, j, p, n, r => by
    simp only [List.map_cons, lngAux, nz_zero]
    split
    · split <;> exact lngAux_nz l _ _ _ _
    · exact lngAux_nz l _ _ _ _
theorem lz_nz : ∀ l : List Int, lz (l.map nz) = lz l
  | [] => rfl
  | z :: l => by simp only [List.map_cons, lz, nz_zero, lz_nz l]
theorem amx_nz (l : List Int) : ∀ k, amx (l.map nz) k = amx l k
  | 0 => rfl
  | k + 1 => by simp only [amx, amx_nz l k, ← List.map_drop, lz_nz]
def pat (m : Nat) : List Int := (List.range 8).map fun i => ((m / 2 ^ i % 2 : Nat) : Int)
theorem pat_all : ∀ m : Fin 256, (if 1 < lz ((pat m.val).drop (amx (pat m.val) 7)) then lng (pat m.val) = (amx (pat m.val) 7, lz ((pat m.val).drop (amx (pat m.val) 7))) else (lng (pat m.val)).2 < 2) := by decide +kernel
theorem nz_bit (z : Int) : ∃ b : Nat, b < 2 ∧ nz z = (b : Int) := by
  unfold nz; split
  · exact ⟨0, by decide, rfl⟩
  · exact ⟨1, by decide, rfl⟩
theorem pat_of (zs : List Int) (h : zs.length = 8) : ∃ m : Nat, m < 256 ∧ zs.map nz = pat m := by
  match zs, h with
  | [a, b, c, d, e, f, g, i], _ =>
    obtain ⟨a', a1, a2⟩ := nz_bit a
    obtain ⟨b', b1, b2⟩ := nz_bit b
    obtain ⟨c', c1, c2⟩ := nz_bit c
    obtain ⟨d', d1, d2⟩ := nz_bit d
    obtain ⟨e', e1, e2⟩ := nz_bit e
    obtain ⟨f', f1, f2⟩ := nz_bit f
    obtain ⟨g', g1, g2⟩ := nz_bit g
    obtain ⟨i', i1, i2⟩ := nz_bit i
    refine ⟨a' + 2 * b' + 4 * c' + 8 * d' + 16 * e' + 32 * f' + 64 * g' + 128 * i', by omega, ?_⟩
    simp only [List.map_cons, List.map_nil, a2, b2, c2, d2, e2, f2, g2, i2, pat, show List.range 8 = [0, 1, 2, 3, 4, 5, 6, 7] from rfl, List.cons.injEq, and_true]
    refine ⟨?_, ?_, ?_, ?_, ?_, ?_, ?_, ?_⟩ <;> omega
theorem lng_amx (zs : List Int) (h : zs.length = 8) : (1 < lz (zs.drop (amx zs 7)) → lng zs = (amx zs 7, lz (zs.drop (amx zs 7)))) ∧ (¬ 1 < lz (zs.drop (amx zs 7)) → (lng zs).2 < 2) := by
  obtain ⟨m, hm, e⟩ := pat_of zs h
  have k := pat_all ⟨m, hm⟩
  simp only [← e, amx_nz, ← List.map_drop, lz_nz] at k
  have e2 : lng (zs.map nz) = lng zs := lngAux_nz zs 0 0 0 0
  rw [e2] at k
  refine ⟨fun h1 => ?_, fun h1 => ?_⟩
  · rwa [if_pos h1] at k
  · rwa [if_neg h1] at k
end Go.Proofs.YtbpdnohcgojmbaaGreatDoor

namespace Go.Proofs.YtbpdnohcgojmbaaGreatDoor
open Go.RowKit
set_option linter.unusedVariables false

/-- A number's digits in a base, the greatest first. -/
def dg (b : Nat) (n : Nat) : List UInt8 := if h : n < b ∨ b < 2 then [UInt8.ofNat (hx n).toNat] else dg b (n / b) ++ [UInt8.ofNat (hx (n % b : Nat)).toNat]
termination_by n
decreasing_by exact Nat.div_lt_self (by omega) (by omega)
theorem dg_lt {b n : Nat} (h : n < b) : dg b n = [UInt8.ofNat (hx n).toNat] := by rw [dg, dif_pos (.inl h)]
theorem dg_ge {b n : Nat} (h : b ≤ n) (hb : 2 ≤ b) : dg b n = dg b (n / b) ++ [UInt8.ofNat (hx (n % b : Nat)).toNat] := by
  rw [dg, dif_neg (by omega)]
theorem dg_ne (b n : Nat) : dg b n ≠ [] := by rw [dg]; split <;> simp

abbrev dgs : ByteArray := ⟨#[48, 49, 50, 51, 52, 53, 54, 55, 56, 57, 97, 98, 99, 100, 101, 102]⟩
theorem dgs_at (d : Int) (h0 : 0 ≤ d) (h1 : d < 16) : dgs.extract d.toNat (d + 1).toNat = ⟨[UInt8.ofNat (hx d).toNat].toArray⟩ := by
  rcases (show d = 0 ∨ d = 1 ∨ d = 2 ∨ d = 3 ∨ d = 4 ∨ d = 5 ∨ d = 6 ∨ d = 7 ∨ d = 8 ∨ d = 9 ∨ d = 10 ∨ d = 11 ∨ d = 12 ∨ d = 13 ∨ d = 14 ∨ d = 15 by omega) with rfl | rfl | rfl | rfl | rfl | rfl | rfl | rfl | rfl | rfl | rfl | rfl | rfl | rfl | rfl | rfl
  all_goals kernel_rfl
theorem str_cons (d : Int) (h0 : 0 ≤ d) (h1 : d < 16) (t : ByteArray) : (dgs.extract d.toNat (d + 1).toNat ++ t).data.toList = UInt8.ofNat (hx d).toNat :: t.data.toList := by
  rw [dgs_at d h0 h1]; simp
theorem dg_len (b : Nat) (hb : 2 ≤ b) : ∀ (k n : Nat), n < 2 ^ k → (dg b n).length ≤ k + 1 := by
  intro k
  induction k with
  | zero => intro n h; have : n = 0 := by simpa using h
            rw [dg_lt (by omega)]; simp
  | succ k ih =>
    intro n h
    by_cases hn : n < b
    · rw [dg_lt hn]; simp
    · rw [dg_ge (by omega) hb, List.length_append]
      have h1 : n / b ≤ n / 2 := Nat.div_le_div_left hb (by decide)
      have := ih (n / b) (by rw [Nat.pow_succ] at h; omega)
      simp; omega
theorem str_app (a b : List UInt8) : (⟨a.toArray⟩ : ByteArray) ++ (⟨b.toArray⟩ : ByteArray) = ⟨(a ++ b).toArray⟩ := by
  apply ByteArray.ext
  simp

/-- One step. -/
theorem dg_round {b n : Nat} {m bI : Int} {l : List UInt8} (hb : 2 ≤ b) (hbI : bI = (b : Int)) (h0 : 0 ≤ m) (hg : 0 < m ∨ l = []) (h : (m = 0 ∧ l ≠ [] ∧ l = dg b n) ∨ ((0 < m ∨ l = []) ∧ dg b m.toNat ++ l = dg b n)) :
    (m / bI = 0 ∧ UInt8.ofNat (hx (m % bI)).toNat :: l ≠ [] ∧ UInt8.ofNat (hx (m % bI)).toNat :: l = dg b n) ∨ ((0 < m / bI ∨ UInt8.ofNat (hx (m % bI)).toNat :: l = []) ∧ dg b (m / bI).toNat ++ UInt8.ofNat (hx (m % bI)).toNat :: l = dg b n) := by
  obtain ⟨k, rfl⟩ : ∃ k : Nat, m = (k : Int) := ⟨m.toNat, by omega⟩
  subst hbI
  have h1 : dg b k ++ l = dg b n := by
    rcases h with ⟨a1, a2, a3⟩ | ⟨a1, a2⟩
    · rcases hg with h | h
      · omega
      · exact absurd h a2
    · simpa using a2
  have e1 : ((k : Int) / (b : Int)) = ((k / b : Nat) : Int) := by simp
  have e2 : ((k : Int) % (b : Int)) = ((k % b : Nat) : Int) := by simp
  rw [e1, e2]
  by_cases hkb : k < b
  · left
    rw [dg_lt hkb] at h1
    rw [Nat.mod_eq_of_lt hkb, Nat.div_eq_of_lt hkb]
    exact ⟨rfl, by simp, h1⟩
  · right
    rw [dg_ge (by omega) hb] at h1
    have := Nat.div_pos (show b ≤ k by omega) (by omega : 0 < b)
    refine ⟨.inl (by omega), ?_⟩
    rw [show ((k / b : Nat) : Int).toNat = k / b from rfl, ← h1, List.append_assoc]
    rfl
theorem dg_part {b n : Nat} {m : Int} {l : List UInt8} (hb : 2 ≤ b) (hn : n < 18446744073709551616) (h : (m = 0 ∧ l ≠ [] ∧ l = dg b n) ∨ ((0 < m ∨ l = []) ∧ dg b m.toNat ++ l = dg b n)) : l.length ≤ 65 := by
  have hl := dg_len b hb 64 n hn
  rcases h with ⟨-, -, a⟩ | ⟨-, a⟩
  · rw [a]; exact hl
  · rw [← a, List.length_append] at hl; omega
def emptyS : Value → Nat
  | .string t => if t.size = 0 then 1 else 0
  | _ => 0
theorem emptyS_ne {X : ByteArray} {c : UInt8} {l : List UInt8} (e : X.data.toList = c :: l) : emptyS (.string X) = 0 := by
  unfold emptyS
  simp only
  rw [if_neg (by rw [Lib.size_eq, e]; simp)]

set_option maxRecDepth 100000 in
set_option maxHeartbeats 1000000 in
theorem rdig_any (n b : Nat) (bI : Int) (hbI : bI = (b : Int)) (hb : 2 ≤ b) (hb2 : b ≤ 16) (hn : n < 18446744073709551616) (w : World) :
    Calls Tryz.prog 26 #[.int .u64 n, .int .u64 bI] w fun e w' => e = .returned (.string ⟨(dg b n).toArray⟩) ∧ w = w' := by
  have HB := Lib.hid (And.intro hb (And.intro hb2 hbI))
  obtain ⟨nI, hnI⟩ : ∃ nI : Int, (n : Int) = nI := ⟨_, rfl⟩
  rw [hnI]
  have HNI := Lib.hid (And.intro hn hnI)
  have hbz : ¬ bI = 0 := by omega
  have hb0 : 0 < bI := by omega
  have hb16 : bI ≤ 16 := by omega
  clear hb hb2 hbI hn hnI
  go_enter Tryz.func26, Tryz.ntmps26
  go_wp2
  go_loop [0, 5] (fun x s => ∃ (m : Int) (t : ByteArray), x = .int .u64 m ∧ s = .string t ∧ Hid (0 ≤ m ∧ m < 18446744073709551616 ∧ ((m = 0 ∧ t.data.toList ≠ [] ∧ t.data.toList = dg b n) ∨ ((0 < m ∨ t.data.toList = []) ∧ dg b m.toNat ++ t.data.toList = dg b n)))) (fun x s => (intOf x).toNat + emptyS s)
  case atStart =>
    refine ⟨nI, ⟨#[]⟩, rfl, rfl, ?_, ?_, .inr ⟨.inr rfl, ?_⟩⟩
    · have := HNI.out.2; omega
    · have := HNI.out; omega
    · have := HNI.out.2; rw [← this]; simp
  case round =>
    obtain ⟨m, t, rfl, rfl, hh⟩ := hrel
    obtain ⟨h0, h1, h2⟩ := hh.out
    have HH := Lib.hid h2
    by_cases hgo : 0 < m ∨ t.data.toList = []
    · have HG := Lib.hid hgo
      have hr0 : 0 ≤ m % bI := Int.emod_nonneg _ hbz
      have hr1 : m % bI < 16 := by have := Int.emod_lt_of_pos m hb0; omega
      have hw1 : IntKind.u64.wrap (m % bI + 1) = m % bI + 1 := by rw [IntKind.wrap_u64]; omega
      have HR := Lib.hid (dg_round (n := n) (l := t.data.toList) HB.out.1 HB.out.2.2 h0 hgo h2)
      have hts : t.size ≤ 65 := by rw [Lib.size_eq]; exact dg_part HB.out.1 HNI.out.1 h2
      have hcat : ¬ 9223372036854775807 < min (m % bI + 1).toNat 16 - (m % bI).toNat + t.size := by omega
      have HD : Hid (m / bI < 18446744073709551616 ∧ 0 ≤ m / bI ∧ m / bI ≤ m ∧ (0 < m → m / bI < m)) := Lib.hid ⟨by have := Int.ediv_le_self bI h0; omega, Int.ediv_nonneg h0 (by omega), Int.ediv_le_self bI h0, fun hm => Int.ediv_lt_self_of_pos_of_ne_one hm (by have := HB.out; omega)⟩
      have HC := Lib.hid (str_cons (m % bI) hr0 hr1 t)
      clear h2 hgo hh
      by_cases ht : t.data.toList = []
      · obtain rfl : t = ⟨#[]⟩ := by cases t; simp at ht; rw [ht]
        clear ht
        go_wp2
        go_round
        case rel => exact ⟨m / bI, _, rfl, rfl, HD.out.2.1, HD.out.1, by rw [HC.out]; exact HR.out⟩
        case measure =>
          rw [emptyS_ne HC.out]
          have := HD.out
          rw [show emptyS (.string ⟨#[]⟩) = 1 from rfl]
          simp only [intOf]; omega
      · have hne : t.toList.isEmpty = false := hemp_of (by rw [Lib.size_eq]; intro e; exact ht (List.eq_nil_of_length_eq_zero e))
        have hmp : 0 < m := by rcases HG.out with h | h; exact h; exact absurd h ht
        clear ht
        go_wp2
        go_round
        case rel => exact ⟨m / bI, _, rfl, rfl, HD.out.2.1, HD.out.1, by rw [HC.out]; exact HR.out⟩
        case measure =>
          rw [emptyS_ne HC.out]
          have := HD.out
          simp only [intOf]; omega
    · have hm0 : m = 0 := by omega
      subst hm0
      have htn : t.data.toList ≠ [] := fun e => hgo (.inr e)
      have HE : Hid (t.data.toList = dg b n) := by
        rcases h2 with ⟨a1, a2, a3⟩ | ⟨a1, a2⟩
        · exact a3
        · exact absurd a1 hgo
      have hne : t.toList.isEmpty = false := hemp_of (by rw [Lib.size_eq]; intro e; exact htn (List.eq_nil_of_length_eq_zero e))
      have HT : Hid (t = ⟨(dg b n).toArray⟩) := Lib.hid (by rw [← HE.out])
      clear hh hgo h2 htn h0 h1
      go_wp2
      go_ret
      rw [HT.out]
      exact ⟨rfl, rfl⟩

/-- In base 10, in base 16. -/
theorem hx_dec (d : Nat) (h : d < 10) : (hx (d : Int)).toNat = 48 + d := by
  unfold hx
  rw [if_pos (by omega)]
  omega
theorem dg_ten (n : Nat) : dg 10 n = d10 (n : Int) := by
  show dg 10 n = Lib.decDigits n
  induction n using Nat.strongRecOn with
  | ind n ih =>
    rw [Lib.decDigits]
    by_cases h : n < 10
    · rw [dif_pos h, dg_lt h, hx_dec n h]
    · rw [dif_neg h, dg_ge (by omega) (by decide), ih (n / 10) (by omega), hx_dec (n % 10) (by omega)]
theorem nhx_step (n : Int) (h : 16 ≤ n) (h1 : n ≤ 65535) : nhx n = nhx (n / 16) + 1 := by
  unfold nhx
  repeat (first | omega | split)
theorem d16_step (n : Int) (h : 16 ≤ n) (h1 : n ≤ 65535) : d16 n = d16 (n / 16) ++ [UInt8.ofNat (hx (n % 16)).toNat] := by
  unfold d16 dhx
  rw [nhx_step n h h1, lowd, List.map_append]
  rfl
theorem dg_sixteen (n : Nat) (hn : n ≤ 65535) : dg 16 n = d16 (n : Int) := by
  induction n using Nat.strongRecOn with
  | ind n ih =>
    by_cases h : n < 16
    · rw [dg_lt h]
      unfold d16 dhx nhx
      rw [if_pos (by omega)]
      simp only [lowd, List.nil_append, List.map_cons, List.map_nil]
      rw [Int.emod_eq_of_lt (by omega) (by omega)]
    · rw [dg_ge (by omega) (by decide), ih (n / 16) (by omega) (by omega), d16_step (n : Int) (by omega) (by omega)]
      rfl
end Go.Proofs.YtbpdnohcgojmbaaGreatDoor

namespace Go.Proofs.YtbpdnohcgojmbaaGreatDoor
open Go.RowKit
set_option linter.unusedVariables false

/-- A text that stands for a group. -/
def Sp (n : Nat) (t : List UInt8) : Prop := hexw t = some n ∧ (58 : UInt8) ∉ t
theorem hexFrom_zero (l : List UInt8) : hexFrom 0 (48 :: l) = hexFrom 0 l := rfl
theorem Sp.pad {n : Nat} {t : List UInt8} (h : Sp n t) (hl : t.length < 4) : Sp n (48 :: t) := by
  obtain ⟨h1, h2⟩ := h
  unfold hexw at h1
  split at h1
  · cases h1
  · refine ⟨?_, by simp [h2]⟩
    unfold hexw
    rw [if_neg (by simp; omega), hexFrom_zero]
    exact h1
theorem Sp.start (n : Nat) (hn : n ≤ 65535) : Sp n (dg 16 n) := by
  rw [dg_sixteen n hn]
  exact ⟨by have := hexw_d16 (n : Int) (by omega) (by omega); simpa using this, d16_no _⟩
theorem Sp.len {n : Nat} {t : List UInt8} (h : Sp n t) : 1 ≤ t.length ∧ t.length ≤ 4 := by
  have h1 := h.1
  unfold hexw at h1
  split at h1
  · cases h1
  · rename_i hn
    refine ⟨?_, by omega⟩
    cases t with
    | nil => exact absurd (.inl rfl) hn
    | cons x r => simp
/-- A digit in a great letter. -/
def up (c : UInt8) : UInt8 := if 97 ≤ c then c - 32 else c
theorem up_all : ∀ m : Fin 256, hexv (up (UInt8.ofNat m.val)) = hexv (UInt8.ofNat m.val) ∨ hexv (UInt8.ofNat m.val) = none := by decide +kernel
theorem up_hex {c : UInt8} {d : Nat} (h : hexv c = some d) : hexv (up c) = some d ∧ up c ≠ 58 := by
  have e : UInt8.ofNat c.toNat = c := UInt8.ofNat_toNat
  have h1 := up_all ⟨c.toNat, UInt8.toNat_lt c⟩
  simp only [e] at h1
  rcases h1 with h1 | h1
  · refine ⟨by rw [h1]; exact h, fun e => ?_⟩
    rw [e] at h1
    rw [← h1] at h
    exact absurd h (by decide +revert)
  · rw [h1] at h; cases h
theorem hexFrom_up : ∀ (l : List UInt8) (acc v : Nat), hexFrom acc l = some v → hexFrom acc (l.map up) = some v ∧ (58 : UInt8) ∉ l.map up
  | [], acc, v, h => ⟨h, by simp⟩
  | c :: r, acc, v, h => by
    simp only [List.map_cons, hexFrom] at h ⊢
    cases hc : hexv c with
    | none => rw [hc] at h; cases h
    | some d =>
      rw [hc] at h
      obtain ⟨u1, u2⟩ := up_hex hc
      rw [u1]
      obtain ⟨i1, i2⟩ := hexFrom_up r _ v h
      exact ⟨i1, by simp only [List.mem_cons, not_or]; exact ⟨fun e => u2 e.symm, i2⟩⟩
theorem Sp.up {n : Nat} {t : List UInt8} (h : Sp n t) : Sp n (t.map up) := by
  have h1 := h.1
  unfold hexw at h1
  split at h1
  · cases h1
  · rename_i hn
    obtain ⟨u1, u2⟩ := hexFrom_up t 0 n h1
    refine ⟨?_, u2⟩
    unfold hexw
    rw [if_neg (by simpa using hn), u1]

theorem one_size (X : Int) : (strOfNums [X]).size = 1 := by rw [Lib.size_eq]; rfl
theorem conv_one (g : Nat) (w : World) (hg : g = w.heap.size) (X : Int) : (convert 71 9 (.slice (some ⟨g, 0, none⟩) 1 1)).run Tryz.prog (w.alloc (.cells #[.int .u8 X] 5)) = .ok (.string (strOfNums [X])) (w.alloc (.cells #[.int .u8 X] 5)) := by
  subst hg
  refine run_convert_bytes_arg _ 71 5 (by kernel_rfl) (by kernel_rfl) _ 0 1 1 [X] rfl (fun i hi => ?_) 9 (by kernel_rfl)
  obtain rfl : i = 0 := by omega
  rw [(Blk.new w 5 #[.int .u8 X]).cell]
  rfl
theorem up_step {out t : ByteArray} {k : Nat} (hk : k < t.size) (X : Int) (hX : X = ((up t[k]).toNat : Int)) (h : out.data.toList = (t.data.toList.take k).map up) : (out ++ strOfNums [X]).data.toList = (t.data.toList.take (k + 1)).map up := by
  have e : (strOfNums [X]).data.toList = [up t[k]] := by
    subst hX
    show [UInt8.ofNat ((up t[k]).toNat : Int).toNat] = _
    simp
  have hk' : k < t.data.toList.length := by rw [← Lib.size_eq]; exact hk
  have e2 : (out ++ strOfNums [X]).data.toList = out.data.toList ++ (strOfNums [X]).data.toList := by simp
  rw [e2, e, h, List.take_add_one, List.getElem?_eq_getElem hk', List.map_append]
  rfl
theorem up_big {c : UInt8} (h : (97 : Int) ≤ (c.toNat : Int)) : (c.toNat : Int) - 32 = ((up c).toNat : Int) := by
  have e : ∀ m : Fin 256, 97 ≤ m.val → m.val - 32 = (up (UInt8.ofNat m.val)).toNat := by decide +kernel
  have := e ⟨c.toNat, UInt8.toNat_lt c⟩ (by show 97 ≤ c.toNat; omega)
  simp only [UInt8.ofNat_toNat] at this
  omega
theorem up_small {c : UInt8} (h : ¬ (97 : Int) ≤ (c.toNat : Int)) : (c.toNat : Int) = ((up c).toNat : Int) := by
  have e : ∀ m : Fin 256, m.val < 97 → m.val = (up (UInt8.ofNat m.val)).toNat := by decide +kernel
  have := e ⟨c.toNat, UInt8.toNat_lt c⟩ (by show c.toNat < 97; omega)
  simp only [UInt8.ofNat_toNat] at this
  omega

end Go.Proofs.YtbpdnohcgojmbaaGreatDoor

namespace Go.Proofs.YtbpdnohcgojmbaaGreatDoor
open Go.RowKit
set_option linter.unusedVariables false

/-- Words that spell numbers. -/
def WS (ws : List (List UInt8)) (vs : List Int) : Prop := ws.map hexw = vs.map (fun v => some v.toNat) ∧ ∀ w ∈ ws, (58 : UInt8) ∉ w
theorem WS.nil : WS [] [] := ⟨rfl, fun _ h => by cases h⟩
theorem WS.snoc {ws : List (List UInt8)} {vs : List Int} {w : List UInt8} {v : Int} (h : WS ws vs) (hs : Sp v.toNat w) : WS (ws ++ [w]) (vs ++ [v]) := by
  refine ⟨by rw [List.map_append, List.map_append, h.1]; simp [hs.1], fun x hx => ?_⟩
  rcases List.mem_append.1 hx with h' | h'
  · exact h.2 x h'
  · rw [List.mem_singleton] at h'; subst h'; exact hs.2
theorem WS.len {ws : List (List UInt8)} {vs : List Int} (h : WS ws vs) : ws.length = vs.length := by
  have := congrArg List.length h.1; simpa using this
theorem WS.parts {ws : List (List UInt8)} {vs : List Int} (h : WS ws vs) : (∀ x ∈ ws, (58 : UInt8) ∉ x ∧ x ≠ []) ∧ (∀ x ∈ ws, hexw x = some ((hexw x).getD 0)) ∧ ws.map (fun x => (hexw x).getD 0) = vs.map Int.toNat := by
  have W : ∀ x ∈ ws, ∃ n, hexw x = some n := by
    intro x hx
    have hm : hexw x ∈ ws.map hexw := List.mem_map_of_mem hx
    rw [h.1] at hm
    obtain ⟨v, _, e⟩ := List.mem_map.1 hm
    exact ⟨_, e.symm⟩
  refine ⟨fun x hx => ⟨h.2 x hx, fun e => ?_⟩, fun x hx => ?_, ?_⟩
  · obtain ⟨n, hn⟩ := W x hx
    rw [e] at hn; cases hn
  · obtain ⟨n, hn⟩ := W x hx
    rw [hn]; rfl
  · have e : ws.map (fun x => (hexw x).getD 0) = (ws.map hexw).map (fun o => o.getD 0) := by rw [List.map_map]; rfl
    rw [e, h.1, List.map_map]; rfl
/-- The text so far: nothing left out. -/
def PA (G : List Int) (i : Nat) (T : List UInt8) : Prop := ∃ ws, WS ws (G.take i) ∧ T = Lib.join ws [58]
/-- The text so far: the noughts from s to e left out. -/
def PB (G : List Int) (i : Nat) (T : List UInt8) : Prop := ∃ fs bs s e, s < e ∧ e ≤ i ∧ WS fs (G.take s) ∧ WS bs ((G.drop e).take (i - e)) ∧ (∀ j, s ≤ j → j < e → G[j]? = some 0) ∧ T = Lib.join fs [58] ++ [58, 58] ++ Lib.join bs [58]

theorem join_snoc {ws : List (List UInt8)} (h : ws ≠ []) (w : List UInt8) : Lib.join (ws ++ [w]) [58] = Lib.join ws [58] ++ [58] ++ w := by
  obtain ⟨x, r, rfl⟩ := List.exists_cons_of_ne_nil h
  rw [List.cons_append, Lib.join_cons, Lib.join_cons]
  simp [Lib.joinTail, List.append_assoc]
theorem join_last {ws : List (List UInt8)} (h : ws ≠ []) (hw : ∀ x ∈ ws, (58 : UInt8) ∉ x ∧ x ≠ []) : ∃ c, (Lib.join ws [58]).getLast? = some c ∧ c ≠ 58 := by
  rcases List.eq_nil_or_concat ws with rfl | ⟨r, x, rfl⟩
  · exact absurd rfl h
  · rw [List.concat_eq_append] at hw ⊢
    obtain ⟨h1, h2⟩ := hw x (by simp)
    have hx : ∃ c, x.getLast? = some c ∧ c ≠ 58 := by
      refine ⟨x.getLast h2, List.getLast?_eq_some_getLast h2, fun e => h1 (e ▸ List.getLast_mem h2)⟩
    obtain ⟨c, hc, hn⟩ := hx
    refine ⟨c, ?_, hn⟩
    by_cases hr : r = []
    · subst hr; rw [List.nil_append, Lib.join_one]; exact hc
    · rw [join_snoc hr, List.getLast?_append, hc]; rfl
theorem PA.start (G : List Int) : PA G 0 [] := ⟨[], by rw [List.take_zero]; exact WS.nil, rfl⟩
theorem take_snoc {G : List Int} {i : Nat} {v : Int} (h : G[i]? = some v) : G.take (i + 1) = G.take i ++ [v] := by rw [List.take_add_one, h]; rfl
/-- One more group, nothing left out. -/
theorem PA.step {G : List Int} {i : Nat} {T w : List UInt8} {v : Int} (h : PA G i T) (hi : 0 < i) (hg : G[i]? = some v) (hs : Sp v.toNat w) : PA G (i + 1) (T ++ [58] ++ w) := by
  obtain ⟨ws, h1, rfl⟩ := h
  have hl := h1.len
  have hb : i < G.length := (List.getElem?_eq_some_iff.1 hg).1
  rw [List.length_take, Nat.min_eq_left (by omega)] at hl
  refine ⟨ws ++ [w], by rw [take_snoc hg]; exact h1.snoc hs, ?_⟩
  rw [join_snoc (by intro e; rw [e] at hl; simp at hl; omega)]
theorem PA.first {G : List Int} {T w : List UInt8} {v : Int} (h : PA G 0 T) (hg : G[0]? = some v) (hs : Sp v.toNat w) : PA G 1 (T ++ w) := by
  obtain ⟨ws, h1, rfl⟩ := h
  have hl := h1.len
  obtain rfl : ws = [] := List.eq_nil_of_length_eq_zero (by simpa using hl)
  exact ⟨[w], by rw [take_snoc hg]; exact h1.snoc hs, by simp [Lib.join_one, Lib.join_nil]⟩
theorem PA.last {G : List Int} {i : Nat} {T : List UInt8} (h : PA G i T) (hi : 0 < i) (hG : i ≤ G.length) : ∃ c, T.getLast? = some c ∧ c ≠ 58 := by
  obtain ⟨ws, h1, rfl⟩ := h
  have hl := h1.len
  rw [List.length_take, Nat.min_eq_left hG] at hl
  exact join_last (by intro e; rw [e] at hl; simp at hl; omega) h1.parts.1
/-- A gap begins. -/
theorem PA.gap {G : List Int} {i e : Nat} {T : List UInt8} (h : PA G i T) (he : i < e) (hz : ∀ j, i ≤ j → j < e → G[j]? = some 0) : PB G e (T ++ [58, 58]) := by
  obtain ⟨ws, h1, rfl⟩ := h
  exact ⟨ws, [], i, e, he, Nat.le_refl _, h1, by rw [Nat.sub_self, List.take_zero]; exact WS.nil, hz, by simp [Lib.join_nil]⟩
theorem PB.last {G : List Int} {i : Nat} {T : List UInt8} (h : PB G i T) (hG : i ≤ G.length) : ∃ c, T.getLast? = some c ∧ ((c = 58 ∧ ∀ v w, G[i]? = some v → Sp v.toNat w → PB G (i + 1) (T ++ w)) ∨ (c ≠ 58 ∧ ∀ v w, G[i]? = some v → Sp v.toNat w → PB G (i + 1) (T ++ [58] ++ w))) := by
  obtain ⟨fs, bs, s, e, h1, h2, h3, h4, h5, rfl⟩ := h
  have hd : ∀ v, G[i]? = some v → (G.drop e).take (i + 1 - e) = (G.drop e).take (i - e) ++ [v] := by
    intro v hv
    rw [show i + 1 - e = (i - e) + 1 by omega]
    exact take_snoc (by rw [List.getElem?_drop, show e + (i - e) = i by omega]; exact hv)
  by_cases hb : bs = []
  · subst hb
    refine ⟨58, by simp [Lib.join_nil], .inl ⟨rfl, fun v w hv hs => ?_⟩⟩
    refine ⟨fs, [w], s, e, h1, by omega, h3, by rw [hd v hv]; exact h4.snoc hs, h5, ?_⟩
    simp [Lib.join_nil, Lib.join_one]
  · obtain ⟨c, hc, hn⟩ := join_last hb h4.parts.1
    refine ⟨c, by rw [List.getLast?_append, hc]; rfl, .inr ⟨hn, fun v w hv hs => ?_⟩⟩
    refine ⟨fs, bs ++ [w], s, e, h1, by omega, h3, by rw [hd v hv]; exact h4.snoc hs, h5, ?_⟩
    rw [join_snoc hb]; simp [List.append_assoc]
theorem gs_six (h l : Int) (hh : U6 h) (hl : U6 l) : sixV (some ((gsOf h l).map Int.toNat)) = .tuple #[adr true h l, .int .i64 0] := by
  have hgb : ∀ z ∈ gsOf h l, 0 ≤ z ∧ z ≤ 65535 := by
    intro z hz
    simp only [gsOf, List.mem_cons, List.not_mem_nil, or_false] at hz
    rcases hz with rfl | rfl | rfl | rfl | rfl | rfl | rfl | rfl <;> exact gr_bd _ _
  unfold sixV
  simp only
  rw [map_nat_int (fun z hz => (hgb z hz).1)]
  unfold adrOf
  show Value.tuple #[adr true (n4 (gr h 0) (gr h 1) (gr h 2) (gr h 3)) (n4 (gr l 0) (gr l 1) (gr l 2) (gr l 3)), _] = _
  rw [n4_gr h hh, n4_gr l hl]
theorem PA.prs {h l : Int} {T : List UInt8} (hh : U6 h) (hl : U6 l) (p : PA (gsOf h l) 8 T) : prsV T = .tuple #[adr true h l, .int .i64 0] := by
  obtain ⟨ws, h1, rfl⟩ := p
  have hlen : ws.length = 8 := h1.len
  obtain ⟨a, b, c⟩ := h1.parts
  have h6 := six_full hlen a b
  have hm : (58 : UInt8) ∈ Lib.join ws [58] := by
    obtain ⟨x, y, t, rfl⟩ : ∃ x y t, ws = x :: y :: t := by
      match ws, hlen with
      | x :: y :: t, _ => exact ⟨x, y, t, rfl⟩
    simp [Lib.join_cons, Lib.joinTail]
  unfold prsV
  rw [if_pos hm, h6, c]
  exact gs_six h l hh hl
theorem PB.prs {h l : Int} {T : List UInt8} (hh : U6 h) (hl : U6 l) (p : PB (gsOf h l) 8 T) : prsV T = .tuple #[adr true h l, .int .i64 0] := by
  obtain ⟨fs, bs, s, e, q1, q2, q3, q4, q5, rfl⟩ := p
  have l1 := q3.len
  have l2 := q4.len
  have h8 : (gsOf h l).length = 8 := rfl
  rw [List.length_take, h8] at l1
  rw [List.length_take, List.length_drop, h8] at l2
  obtain ⟨a, b, c⟩ := q3.parts
  obtain ⟨a', b', c'⟩ := q4.parts
  have h6 := six_gap (by omega) a a' b b'
  unfold prsV
  rw [if_pos (by simp), h6, c, c']
  have e1 : 8 - fs.length - bs.length = e - s := by omega
  have e2 : (List.map Int.toNat ((gsOf h l).take s) ++ List.replicate (8 - fs.length - bs.length) 0 ++ List.map Int.toNat (((gsOf h l).drop e).take (8 - e))) = (gsOf h l).map Int.toNat := by
    rw [e1, List.take_of_length_le (by rw [List.length_drop, h8]; omega : ((gsOf h l).drop e).length ≤ 8 - e)]
    have e3 : gsOf h l = (gsOf h l).take s ++ List.replicate (e - s) 0 ++ (gsOf h l).drop e := by
      apply List.ext_getElem?
      intro i
      by_cases hi : i < s
      · rw [List.append_assoc, List.getElem?_append_left (by rw [List.length_take, h8]; omega), List.getElem?_take, if_pos hi]
      · by_cases hi2 : i < e
        · rw [q5 i (by omega) hi2, List.getElem?_append_left (by rw [List.length_append, List.length_take, h8, List.length_replicate]; omega), List.getElem?_append_right (by rw [List.length_take, h8]; omega), List.getElem?_replicate, if_pos (by rw [List.length_take, h8]; omega)]
        · rw [List.getElem?_append_right (by rw [List.length_append, List.length_take, h8, List.length_replicate]; omega), List.getElem?_drop]
          congr 1
          rw [List.length_append, List.length_take, h8, List.length_replicate]
          omega
    conv => rhs; rw [e3]
    rw [List.map_append, List.map_append, List.map_replicate]
    rfl
  rw [e2]
  exact gs_six h l hh hl
end Go.Proofs.YtbpdnohcgojmbaaGreatDoor

namespace Go.Proofs.YtbpdnohcgojmbaaGreatDoor
open Go.RowKit
set_option linter.unusedVariables false

theorem join_snoc' (c : UInt8) {ws : List (List UInt8)} (h : ws ≠ []) (w : List UInt8) : Lib.join (ws ++ [w]) [c] = Lib.join ws [c] ++ [c] ++ w := by
  obtain ⟨x, r, rfl⟩ := List.exists_cons_of_ne_nil h
  rw [List.cons_append, Lib.join_cons, Lib.join_cons]
  simp [Lib.joinTail, List.append_assoc]
theorem tk_map {G : List Int} {k : Nat} {z : Int} (f : Int → List UInt8) (h : G[k]? = some z) : (G.take (k + 1)).map f = (G.take k).map f ++ [f z] := by
  rw [List.take_add_one, h]; simp
theorem tk_ne {G : List Int} {k : Nat} {z : Int} (f : Int → List UInt8) (h : G[k]? = some z) (h0 : 0 < k) : (G.take k).map f ≠ [] := by
  have hl := (List.getElem?_eq_some_iff.1 h).1
  intro e
  have := congrArg List.length e
  rw [List.length_map, List.length_take] at this
  rw [List.length_nil] at this; omega
theorem app_dat (a b : ByteArray) : (a ++ b).data.toList = a.data.toList ++ b.data.toList := by simp

/-- The text so far: nothing left out, and nothing to leave out before k. -/
def QA (G : List Int) (p n k : Nat) (T : List UInt8) : Prop := (1 < n → k ≤ p) ∧ T = Lib.join ((G.take k).map d16) [58]
/-- The text so far: n noughts from p left out. -/
def QB (G : List Int) (p n k : Nat) (T : List UInt8) : Prop := p + n ≤ k ∧ T = Lib.join ((G.take p).map d16) [58] ++ [58, 58] ++ Lib.join (((G.drop (p + n)).take (k - (p + n))).map d16) [58]
theorem d16_all {ws : List (List UInt8)} {zs : List Int} (h : ws = zs.map d16) : ∀ x ∈ ws, (58 : UInt8) ∉ x ∧ x ≠ [] := by
  intro x hx
  rw [h] at hx
  obtain ⟨z, -, rfl⟩ := List.mem_map.1 hx
  exact ⟨d16_no z, d16_ne z⟩
theorem QA.first {G : List Int} {p n : Nat} {T : List UInt8} {z : Int} (h : QA G p n 0 T) (hg : G[0]? = some z) (hp : ¬ (1 < n ∧ 0 = p)) : QA G p n 1 (T ++ d16 z) := by
  obtain ⟨h1, rfl⟩ := h
  refine ⟨fun hn => by have := h1 hn; omega, ?_⟩
  rw [tk_map d16 hg]; simp [Lib.join_nil, Lib.join_one]
theorem QA.next {G : List Int} {p n k : Nat} {T : List UInt8} {z : Int} (h : QA G p n k T) (hk : 0 < k) (hg : G[k]? = some z) (hp : ¬ (1 < n ∧ k = p)) : QA G p n (k + 1) (T ++ [58] ++ d16 z) ∧ ∃ c, T.getLast? = some c ∧ c ≠ 58 := by
  obtain ⟨h1, rfl⟩ := h
  refine ⟨⟨fun hn => by have := h1 hn; omega, by rw [tk_map d16 hg, join_snoc' 58 (tk_ne d16 hg hk)]⟩, join_last (tk_ne d16 hg hk) (d16_all rfl)⟩
theorem QA.gap {G : List Int} {p n : Nat} {T : List UInt8} (h : QA G p n p T) : QB G p n (p + n) (T ++ [58, 58]) := by
  obtain ⟨_, rfl⟩ := h
  exact ⟨Nat.le_refl _, by rw [Nat.sub_self, List.take_zero]; simp [Lib.join_nil]⟩
theorem QB.next {G : List Int} {p n k : Nat} {T : List UInt8} {z : Int} (h : QB G p n k T) (hg : G[k]? = some z) : ∃ c, T.getLast? = some c ∧ ((c = 58 ∧ QB G p n (k + 1) (T ++ d16 z)) ∨ (c ≠ 58 ∧ QB G p n (k + 1) (T ++ [58] ++ d16 z))) := by
  obtain ⟨h1, rfl⟩ := h
  have hd : ((G.drop (p + n)).take (k + 1 - (p + n))).map d16 = ((G.drop (p + n)).take (k - (p + n))).map d16 ++ [d16 z] := by
    rw [show k + 1 - (p + n) = (k - (p + n)) + 1 by omega]
    exact tk_map d16 (by rw [List.getElem?_drop, show p + n + (k - (p + n)) = k by omega]; exact hg)
  by_cases hb : ((G.drop (p + n)).take (k - (p + n))).map d16 = []
  · refine ⟨58, by rw [hb]; simp [Lib.join_nil], .inl ⟨rfl, by omega, ?_⟩⟩
    rw [hd, hb]; simp [Lib.join_nil, Lib.join_one]
  · obtain ⟨c, hc, hn⟩ := join_last hb (d16_all rfl)
    refine ⟨c, by rw [List.getLast?_append, hc]; rfl, .inr ⟨hn, by omega, ?_⟩⟩
    rw [hd, join_snoc' 58 hb]; simp [List.append_assoc]
theorem Q_end {G : List Int} (h8 : G.length = 8) {T : List UInt8} (h : QA G (amx G 7) (lz (G.drop (amx G 7))) 8 T ∨ (QB G (amx G 7) (lz (G.drop (amx G 7))) 8 T ∧ 1 < lz (G.drop (amx G 7)))) : T = prn6 G := by
  obtain ⟨l1, l2⟩ := lng_amx G h8
  have ha := amx_le G 7
  rcases h with ⟨h1, h2⟩ | ⟨h, hn⟩
  · have hn : ¬ 1 < lz (G.drop (amx G 7)) := fun hn => by have := h1 hn; omega
    unfold prn6
    rw [if_pos (l2 hn), h2, List.take_of_length_le (by omega)]
  · obtain ⟨h1, h2⟩ := h
    unfold prn6
    rw [l1 hn, if_neg (by simp only []; omega), h2]
    simp only []
    have e : (G.drop (amx G 7 + lz (G.drop (amx G 7)))).take (8 - (amx G 7 + lz (G.drop (amx G 7)))) = G.drop (amx G 7 + lz (G.drop (amx G 7))) := List.take_of_length_le (by rw [List.length_drop]; omega)
    rw [e]
theorem last_of (T : ByteArray) (c : UInt8) (h : T.data.toList.getLast? = some c) (hl : T.size - 1 < T.size) : T[T.size - 1]'hl = c := by
  rw [List.getLast?_eq_getElem?, Array.length_toList] at h
  have h2 : T.data.toList[T.data.size - 1]? = some (T[T.size - 1]'hl) := by
    rw [Array.getElem?_toList]
    exact Array.getElem?_eq_getElem hl
  rw [h2] at h
  injection h
theorem last_pos {T : ByteArray} {c : UInt8} (h : T.data.toList.getLast? = some c) : 0 < T.size := by
  rw [Lib.size_eq]
  cases hd : T.data.toList with
  | nil => rw [hd] at h; cases h
  | cons _ _ => simp
theorem dg16_text (n : Nat) (h : n ≤ 65535) : (⟨(dg 16 n).toArray⟩ : ByteArray).data.toList = d16 (n : Int) ∧ (⟨(dg 16 n).toArray⟩ : ByteArray).size ≤ 4 := by
  rw [dg_sixteen n h]
  refine ⟨by simp, ?_⟩
  rw [Lib.size_eq]
  show (d16 (n : Int)).toArray.toList.length ≤ 4
  have := d16_len (n : Int)
  simpa using this

set_option maxRecDepth 100000 in
set_option maxHeartbeats 3000000 in
theorem rprint_six (h l : Int) (hh : U6 h) (hl : U6 l) (w : World) :
    Calls Tryz.prog 25 #[adr true h l] w fun e w' => e = .returned (.string ⟨(prn true h l).toArray⟩) ∧ Below w.heap.size w w' := by
  have HV := Lib.hid (fun W => rvalid_at true h l W (vld_six h l))
  have HG := Lib.hid (fun W => rgroups_any h l hh hl W)
  have HX : Hid (prn true h l = prn6 (gsOf h l)) := Lib.hid (by unfold prn; rw [vld_six]; rfl)
  have hgb : ∀ z ∈ gsOf h l, 0 ≤ z ∧ z ≤ 65535 := by
    intro z hz
    simp only [gsOf, List.mem_cons, List.not_mem_nil, or_false] at hz
    rcases hz with rfl | rfl | rfl | rfl | rfl | rfl | rfl | rfl <;> exact gr_bd _ _
  have h8 : (gsOf h l).length = 8 := rfl
  obtain ⟨G, hG⟩ : ∃ G, gsOf h l = G := ⟨_, rfl⟩
  rw [hG] at HG hgb h8 HX
  have HGB := Lib.hid hgb
  have H8 := Lib.hid h8
  clear hG hgb h8 hh hl
  obtain ⟨f1, f2, f3⟩ := (Blk.new w 24 #[.bool true, .int .u64 h, .int .u64 l]).c3
  go_enter Tryz.func25, Tryz.ntmps25
  go_wp2_with fail
  refine Calls.mono (HV.out _) ?_
  rintro e w1 ⟨rfl, hb⟩
  have K1 := Lib.hid ((Blk.new w 24 #[.bool true, .int .u64 h, .int .u64 l]).below hb (by simp only [World.size_alloc]; omega))
  have L1 := Lib.hid (((Below.refl _ w).alloc (Nat.le_refl _) (.cells #[.bool true, .int .u64 h, .int .u64 l] 24)).trans (hb.mono (by simp only [World.size_alloc]; omega)))
  clear f1 f2 f3 hb
  obtain ⟨f1, f2, f3⟩ := K1.out.c3
  go_wp2_with fail
  refine Calls.mono (HG.out _) ?_
  rintro e w2 ⟨A, cp, rfl, hri, hge, hb⟩
  have L2 := Lib.hid (L1.out.trans (hb.mono L1.out.size))
  have HZ := Lib.hid (fun (i : Nat) (hi : i ≤ 8) => rzeros_any w2 w2.heap.size cp i A G hri hi)
  obtain ⟨b, o, rfl, -, hc⟩ := hri.2.1 (by decide)
  have HC := Lib.hid hc
  clear hri hge hb f1 f2 f3 hc
  go_wp2
  go_loop [7, 8] (fun p i => ∃ j : Nat, j ≤ 7 ∧ i = .int .i64 (((j + 1 : Nat)) : Int) ∧ p = .int .i64 ((amx G j : Nat) : Int)) (fun _ i => 8 - (intOf i).toNat)
  case atStart => exact ⟨0, by decide, rfl, rfl⟩
  case round =>
    obtain ⟨j, hj, rfl, rfl⟩ := hrel
    have ha := amx_le G j
    by_cases hlt : j + 1 < 8
    · have HZ1 := Lib.hid (HZ.out (j + 1) (by omega))
      have HZ2 := Lib.hid (HZ.out (amx G j) (by omega))
      have HS := Lib.hid (show amx G (j + 1) = if lz (G.drop (amx G j)) < lz (G.drop (j + 1)) then j + 1 else amx G j from rfl)
      obtain ⟨X, hX⟩ : ∃ X, lz (G.drop (j + 1)) = X := ⟨_, rfl⟩
      obtain ⟨Y, hY⟩ : ∃ Y, lz (G.drop (amx G j)) = Y := ⟨_, rfl⟩
      rw [hX] at HZ1 HS
      rw [hY] at HZ2 HS
      clear hX hY
      obtain ⟨P, hP⟩ : ∃ P, amx G j = P := ⟨_, rfl⟩
      rw [hP] at HZ2 HS ha ⊢
      have hj1 : (((j + 1 : Nat)) : Int) < 8 := by omega
      obtain ⟨J, hJ⟩ : ∃ J, j + 1 = J := ⟨_, rfl⟩
      have HJ := Lib.hid hJ
      rw [hJ] at HZ1 HS hj1 ⊢
      have hj2 : J < 8 := by omega
      clear hP hJ hlt
      by_cases hxy : Y < X
      · have hxi : (Y : Int) < (X : Int) := by omega
        rw [if_pos hxy] at HS
        clear hxy
        go_wp2_with fail
        refine Calls.mono HZ1.out ?_
        rintro e w3 ⟨rfl, rfl⟩
        go_wp2_with fail
        refine Calls.mono HZ2.out ?_
        rintro e w3 ⟨rfl, rfl⟩
        go_wp2
        go_round
        case rel => exact ⟨J, by omega, by go_num, by rw [HS.out]⟩
        case measure => simp [intOf]; omega
      · have hxi : ¬ (Y : Int) < (X : Int) := by omega
        rw [if_neg hxy] at HS
        clear hxy
        go_wp2_with fail
        refine Calls.mono HZ1.out ?_
        rintro e w3 ⟨rfl, rfl⟩
        go_wp2_with fail
        refine Calls.mono HZ2.out ?_
        rintro e w3 ⟨rfl, rfl⟩
        go_wp2
        go_round
        case rel => exact ⟨J, by omega, by go_num, by rw [HS.out]⟩
        case measure => simp [intOf]; omega
    · obtain rfl : j = 7 := by omega
      have hj1 : ¬ (((7 + 1 : Nat)) : Int) < 8 := by decide
      have HZ2 := Lib.hid (HZ.out (amx G 7) (by omega))
      clear HZ
      have hN8 : amx G 7 + lz (G.drop (amx G 7)) ≤ 8 := by have := lz_le (G.drop (amx G 7)); rw [List.length_drop, H8.out] at this; omega
      have HEND := Lib.hid (fun (T : List UInt8) (a : QA G (amx G 7) (lz (G.drop (amx G 7))) 8 T ∨ (QB G (amx G 7) (lz (G.drop (amx G 7))) 8 T ∧ 1 < lz (G.drop (amx G 7)))) => Q_end H8.out a)
      obtain ⟨N, hN⟩ : ∃ N, lz (G.drop (amx G 7)) = N := ⟨_, rfl⟩
      rw [hN] at HZ2 hN8 HEND
      obtain ⟨P, hP⟩ : ∃ P, amx G 7 = P := ⟨_, rfl⟩
      rw [hP] at HZ2 hN8 HEND ha
      rw [hP]
      clear hN hP hlt hj
      go_wp2_with fail
      refine Calls.mono HZ2.out ?_
      rintro e w3 ⟨rfl, rfl⟩
      clear HZ2
      go_wp2
      go_loop [3, 10] (fun t i => ∃ (T : ByteArray) (k : Nat), k ≤ 8 ∧ i = .int .i64 (k : Int) ∧ t = .string T ∧ Hid (T.size ≤ 5 * k) ∧ Hid (QA G P N k T.data.toList ∨ (QB G P N k T.data.toList ∧ 1 < N))) (fun _ i => 8 - (intOf i).toNat)
      case atStart => exact ⟨_, 0, by decide, rfl, rfl, Lib.hid (Nat.zero_le _), Lib.hid (.inl ⟨fun _ => Nat.zero_le _, by simp [Lib.join_nil]⟩)⟩
      case round =>
        obtain ⟨T, k, hk, rfl, rfl, HTs, HT⟩ := hrel
        have hts : T.size ≤ 40 := by have := HTs.out; omega
        by_cases hlt : k < 8
        · obtain ⟨z, hz⟩ : ∃ z, G[k]? = some z := ⟨_, List.getElem?_eq_getElem (by rw [H8.out]; exact hlt)⟩
          have hzb := HGB.out z (List.mem_of_getElem? hz)
          obtain ⟨n, rfl⟩ : ∃ n : Nat, z = (n : Int) := ⟨z.toNat, by omega⟩
          have HZZ := Lib.hid hz
          have hn : n ≤ 65535 := by omega
          have hcell := HC.out k _ hz
          have hki : (k : Int) < 8 := by omega
          have HW := Lib.hid (dg16_text n hn)
          have HD := Lib.hid (fun W => rdig_any n 16 16 rfl (by decide) (by decide) (by omega) W)
          obtain ⟨X, hX⟩ : ∃ X : ByteArray, ⟨(dg 16 n).toArray⟩ = X := ⟨_, rfl⟩
          rw [hX] at HW HD
          have hXs := HW.out.2
          clear hz hzb hX hn hlt
          by_cases hgap : 1 < N ∧ k = P
          · obtain ⟨hN, rfl⟩ := hgap
            have HQ : Hid (QA G k N k T.data.toList) := by
              rcases HT.out with h | ⟨h, _⟩
              · exact Lib.hid h
              · exfalso; have := h.1; omega
            have hNi : (1 : Int) < (N : Int) := by omega
            have hNb : (N : Int) ≤ 8 := by omega
            clear HT
            go_wp2
            go_round
            case rel => exact ⟨_, k + N, by omega, by go_num, rfl, Lib.hid (by rw [ByteArray.size_append]; have e1 : (⟨#[58, 58]⟩ : ByteArray).size = 2 := rfl; have := HTs.out; omega), Lib.hid (.inr ⟨by rw [app_dat]; exact HQ.out.gap, hN⟩)⟩
            case measure => simp [intOf]; omega
          · have HGAP := Lib.hid hgap
            have hg : ¬ (1 : Int) < (N : Int) ∨ ((1 : Int) < (N : Int) ∧ ¬ (k : Int) = (P : Int)) := by
              by_cases h : 1 < N
              · exact .inr ⟨by omega, fun e => hgap ⟨h, by omega⟩⟩
              · exact .inl (by omega)
            clear hgap
            rcases hg with hg | ⟨hg, hg2⟩
            all_goals
              by_cases hk0 : k = 0
              · have HK0 := Lib.hid hk0
                have g1 : ¬ (0 : Int) < (k : Int) := by omega
                have g2 : ¬ 0 < k := by omega
                clear hk0
                go_wp2_with fail
                refine Calls.mono (HD.out _) ?_
                rintro e w3 ⟨rfl, rfl⟩
                go_wp2
                go_round
                case rel => exact ⟨_, k + 1, by omega, by go_num, rfl, Lib.hid (by rw [ByteArray.size_append]; have := HTs.out; have := HW.out.2; omega), Lib.hid (by
                    have hz := HZZ.out
                    have hk0 := HK0.out
                    subst hk0
                    rw [app_dat, HW.out.1]
                    rcases HT.out with h | ⟨h, hq⟩
                    · exact .inl (h.first hz HGAP.out)
                    · exfalso; have := h.1; omega)⟩
                case measure => simp [intOf]; omega
              · have hlast : ∃ c, T.data.toList.getLast? = some c ∧ ((c = 58 ∧ (QA G P N (k + 1) (T.data.toList ++ d16 n) ∨ (QB G P N (k + 1) (T.data.toList ++ d16 n) ∧ 1 < N))) ∨ (c ≠ 58 ∧ (QA G P N (k + 1) (T.data.toList ++ [58] ++ d16 n) ∨ (QB G P N (k + 1) (T.data.toList ++ [58] ++ d16 n) ∧ 1 < N)))) := by
                  rcases HT.out with h | ⟨h, hq⟩
                  · obtain ⟨h1, c, h2, h3⟩ := h.next (by omega) HZZ.out HGAP.out
                    exact ⟨c, h2, .inr ⟨h3, .inl h1⟩⟩
                  · obtain ⟨c, h1, h2 | h2⟩ := h.next HZZ.out
                    · exact ⟨c, h1, .inl ⟨h2.1, .inr ⟨h2.2, hq⟩⟩⟩
                    · exact ⟨c, h1, .inr ⟨h2.1, .inr ⟨h2.2, hq⟩⟩⟩
                obtain ⟨c, hlast, ⟨hc, hst⟩ | ⟨hc, hst⟩⟩ := hlast
                · have hlt0 : T.size - 1 < T.size := by have := last_pos hlast; omega
                  have hT0 := last_pos hlast
                  have hx0 : ((T.size : Int) - 1).toNat = T.size - 1 := by omega
                  have hx1 : (0 : Int) ≤ (T.size : Int) - 1 := by omega
                  have hx2 : (T.size : Int) - 1 < (T.size : Int) := by omega
                  have g1 : (0 : Int) < (k : Int) := by omega
                  have g2 : 0 < k := by omega
                  have hcc : ((T[T.size - 1]'hlt0).toNat : Int) = 58 := by rw [last_of T c hlast hlt0, hc]; rfl
                  have HST := Lib.hid hst
                  clear hlast hst hc
                  go_wp2_with fail
                  refine Calls.mono (HD.out _) ?_
                  rintro e w3 ⟨rfl, rfl⟩
                  go_wp2
                  go_round
                  case rel => exact ⟨_, k + 1, by omega, by go_num, rfl, Lib.hid (by rw [ByteArray.size_append]; have := HTs.out; have := HW.out.2; omega), Lib.hid (by rw [app_dat, HW.out.1]; exact HST.out)⟩
                  case measure => simp [intOf]; omega
                · have hlt0 : T.size - 1 < T.size := by have := last_pos hlast; omega
                  have hT0 := last_pos hlast
                  have hx0 : ((T.size : Int) - 1).toNat = T.size - 1 := by omega
                  have hx1 : (0 : Int) ≤ (T.size : Int) - 1 := by omega
                  have hx2 : (T.size : Int) - 1 < (T.size : Int) := by omega
                  have g1 : (0 : Int) < (k : Int) := by omega
                  have g2 : 0 < k := by omega
                  have hcc : ¬ ((T[T.size - 1]'hlt0).toNat : Int) = 58 := by rw [last_of T c hlast hlt0]; exact fun e => hc (by apply UInt8.toNat_inj.1; have e2 : (58 : UInt8).toNat = 58 := rfl; omega)
                  have HST := Lib.hid hst
                  clear hlast hst hc
                  go_wp2_with fail
                  refine Calls.mono (HD.out _) ?_
                  rintro e w3 ⟨rfl, rfl⟩
                  go_wp2
                  go_round
                  case rel => exact ⟨_, k + 1, by omega, by go_num, rfl, Lib.hid (by rw [ByteArray.size_append, ByteArray.size_append]; have e1 : (⟨#[58]⟩ : ByteArray).size = 1 := rfl; have := HTs.out; have := HW.out.2; omega), Lib.hid (by rw [app_dat, app_dat, HW.out.1]; exact HST.out)⟩
                  case measure => simp [intOf]; omega
        · obtain rfl : k = 8 := by omega
          have hki : ¬ ((8 : Nat) : Int) < 8 := by decide
          have he := HEND.out T.data.toList HT.out
          have HE : Hid (T = ⟨(prn true h l).toArray⟩) := Lib.hid (by rw [HX.out, ← he])
          clear he
          go_wp2
          go_ret
          exact ⟨by rw [← HE.out]; rfl, L2.out⟩
theorem dg10_text (n : Nat) (h : n ≤ 255) : (⟨(dg 10 n).toArray⟩ : ByteArray).data.toList = d10 (n : Int) ∧ (⟨(dg 10 n).toArray⟩ : ByteArray).size ≤ 3 := by
  rw [dg_ten n]
  refine ⟨by simp, ?_⟩
  rw [Lib.size_eq]
  show (d10 (n : Int)).toArray.toList.length ≤ 3
  have := d10_len (n : Int) (by omega) (by omega)
  simpa using this
theorem join_first {c : UInt8} {G : List Int} {z : Int} (f : Int → List UInt8) (h : G[0]? = some z) : Lib.join ((G.take 1).map f) [c] = Lib.join ((G.take 0).map f) [c] ++ f z := by
  rw [tk_map f h]; simp [Lib.join_nil, Lib.join_one]
theorem join_next {c : UInt8} {G : List Int} {k : Nat} {z : Int} (f : Int → List UInt8) (h : G[k]? = some z) (h0 : 0 < k) : Lib.join ((G.take (k + 1)).map f) [c] = Lib.join ((G.take k).map f) [c] ++ [c] ++ f z := by
  rw [tk_map f h, join_snoc' c (tk_ne f h h0)]

set_option maxRecDepth 100000 in
set_option maxHeartbeats 3000000 in
theorem rprint_four (h l : Int) (hh : U6 h) (hl : U6 l) (hv : vld false h l = true) (w : World) :
    Calls Tryz.prog 25 #[adr false h l] w fun e w' => e = .returned (.string ⟨(prn false h l).toArray⟩) ∧ Below w.heap.size w w' := by
  have HV := Lib.hid (fun W => rvalid_at false h l W hv)
  have HG := Lib.hid (fun W => rbytes_any false h l hh hl W)
  have eb : byts false h l = putOf 4 l := by unfold byts; rw [hv]; rfl
  have HX : Hid (prn false h l = Lib.join ((putOf 4 l).map d10) [46]) := Lib.hid (by unfold prn; rw [hv]; rfl)
  rw [eb] at HG
  have hgb := putOf_by 4 l
  have h4 := putOf_len 4 l
  obtain ⟨G, hG⟩ : ∃ G, putOf 4 l = G := ⟨_, rfl⟩
  rw [hG] at HG hgb h4 HX
  unfold OutR at HG
  rw [h4] at HG
  have HGB := Lib.hid hgb
  have H4 := Lib.hid h4
  clear hG hgb h4 hh hl hv eb
  obtain ⟨f1, f2, f3⟩ := (Blk.new w 24 #[.bool false, .int .u64 h, .int .u64 l]).c3
  go_enter Tryz.func25, Tryz.ntmps25
  go_wp2_with fail
  refine Calls.mono (HV.out _) ?_
  rintro e w1 ⟨rfl, hb⟩
  have K1 := Lib.hid ((Blk.new w 24 #[.bool false, .int .u64 h, .int .u64 l]).below hb (by simp only [World.size_alloc]; omega))
  have L1 := Lib.hid (((Below.refl _ w).alloc (Nat.le_refl _) (.cells #[.bool false, .int .u64 h, .int .u64 l] 24)).trans (hb.mono (by simp only [World.size_alloc]; omega)))
  clear f1 f2 f3 hb
  obtain ⟨f1, f2, f3⟩ := K1.out.c3
  go_wp2_with fail
  refine Calls.mono (HG.out _) ?_
  rintro e w2 ⟨A, cp, rfl, hri, -, -, hb⟩
  have L2 := Lib.hid (L1.out.trans (hb.mono L1.out.size))
  obtain ⟨b, o, rfl, -, hc⟩ := hri.2.1 (by decide)
  have HC := Lib.hid hc
  clear hri hb f1 f2 f3 hc
  go_wp2
  go_loop [3, 5] (fun t i => ∃ (T : ByteArray) (k : Nat), k ≤ 4 ∧ i = .int .i64 (k : Int) ∧ t = .string T ∧ Hid (T.size ≤ 4 * k) ∧ Hid (T.data.toList = Lib.join ((G.take k).map d10) [46])) (fun _ i => 4 - (intOf i).toNat)
  case atStart => exact ⟨_, 0, by decide, rfl, rfl, Lib.hid (Nat.zero_le _), Lib.hid (by simp [Lib.join_nil])⟩
  case round =>
    obtain ⟨T, k, hk, rfl, rfl, HTs, HT⟩ := hrel
    have hts : T.size ≤ 16 := by have := HTs.out; omega
    by_cases hlt : k < 4
    · obtain ⟨z, hz⟩ : ∃ z, G[k]? = some z := ⟨_, List.getElem?_eq_getElem (by rw [H4.out]; exact hlt)⟩
      have hzb := HGB.out z (List.mem_of_getElem? hz)
      obtain ⟨n, rfl⟩ : ∃ n : Nat, z = (n : Int) := ⟨z.toNat, by omega⟩
      have HZZ := Lib.hid hz
      have hn : n ≤ 255 := by omega
      have hcell := HC.out k _ hz
      have hki : (k : Int) < 4 := by omega
      have HW := Lib.hid (dg10_text n hn)
      have HD := Lib.hid (fun W => rdig_any n 10 10 rfl (by decide) (by decide) (by omega) W)
      obtain ⟨X, hX⟩ : ∃ X : ByteArray, ⟨(dg 10 n).toArray⟩ = X := ⟨_, rfl⟩
      rw [hX] at HW HD
      have hXs := HW.out.2
      have hwz : IntKind.u64.wrap (n : Int) = (n : Int) := by rw [IntKind.wrap_u64]; omega
      clear hz hzb hX hn hlt
      by_cases hk0 : k = 0
      · have HK0 := Lib.hid hk0
        have g1 : ¬ (0 : Int) < (k : Int) := by omega
        have g2 : ¬ 0 < k := by omega
        clear hk0
        go_wp2_with fail
        refine Calls.mono (HD.out _) ?_
        rintro e w3 ⟨rfl, rfl⟩
        go_wp2
        go_round
        case rel => exact ⟨_, k + 1, by omega, by go_num, rfl, Lib.hid (by rw [ByteArray.size_append]; have := HTs.out; have := HW.out.2; omega), Lib.hid (by
          have hz := HZZ.out
          have ht := HT.out
          have hk0 := HK0.out
          subst hk0
          rw [app_dat, HW.out.1, ht, join_first d10 hz])⟩
        case measure => simp [intOf]; omega
      · have g1 : (0 : Int) < (k : Int) := by omega
        have g2 : 0 < k := by omega
        have HK0 := Lib.hid g2
        go_wp2_with fail
        refine Calls.mono (HD.out _) ?_
        rintro e w3 ⟨rfl, rfl⟩
        go_wp2
        go_round
        case rel => exact ⟨_, k + 1, by omega, by go_num, rfl, Lib.hid (by rw [ByteArray.size_append, ByteArray.size_append]; have e1 : (⟨#[46]⟩ : ByteArray).size = 1 := rfl; have := HTs.out; have := HW.out.2; omega), Lib.hid (by rw [app_dat, app_dat, HW.out.1, HT.out, join_next d10 HZZ.out HK0.out])⟩
        case measure => simp [intOf]; omega
    · obtain rfl : k = 4 := by omega
      have hki : ¬ ((4 : Nat) : Int) < 4 := by decide
      have HE : Hid (T = ⟨(prn false h l).toArray⟩) := Lib.hid (by
        have ht := HT.out
        rw [List.take_of_length_le (by rw [H4.out]; exact Nat.le_refl _)] at ht
        rw [HX.out, ← ht])
      go_wp2
      go_ret
      exact ⟨by rw [← HE.out]; rfl, L2.out⟩
set_option maxRecDepth 100000 in
theorem rprint_any (s : Bool) (h l : Int) (hh : U6 h) (hl : U6 l) (w : World) :
    Calls Tryz.prog 25 #[adr s h l] w fun e w' => e = .returned (.string ⟨(prn s h l).toArray⟩) ∧ Below w.heap.size w w' := by
  obtain ⟨V, hV⟩ : ∃ V, vld s h l = V := ⟨_, rfl⟩
  cases V
  · have e : prn s h l = [] := by unfold prn; rw [hV]; rfl
    have HV := Lib.hid (fun W => rvalid_at s h l W hV)
    rw [e]
    clear hV e
    obtain ⟨f1, f2, f3⟩ := (Blk.new w 24 #[.bool s, .int .u64 h, .int .u64 l]).c3
    go_enter Tryz.func25, Tryz.ntmps25
    go_wp2_with fail
    refine Calls.mono (HV.out _) ?_
    rintro e w1 ⟨rfl, hb⟩
    have L1 := ((Below.refl _ w).alloc (Nat.le_refl _) (.cells #[.bool s, .int .u64 h, .int .u64 l] 24)).trans (hb.mono (by simp only [World.size_alloc]; omega))
    clear f1 f2 f3 hb
    go_wp2
    go_ret
    exact ⟨rfl, L1⟩
  · cases s
    · exact rprint_four h l hh hl hV w
    · exact rprint_six h l hh hl w
end Go.Proofs.YtbpdnohcgojmbaaGreatDoor
