/-
  The document's own Groups of any address with Six.
-/
import Derived.Test.YtnhlgonldffgoaaDoorRBytes
import Derived.Test.YtnhlgonldffgoaaDoorPrint
import Derived.Test.YtnhlgonldffgoaaDoorAppk
import Derived.StillTailTactics
import Derived.Deep.RegionLaw
namespace Go.Proofs.YtnhlgonldffgoaaDoor
open Go.RowKit
set_option linter.unusedVariables false

theorem pair_at (h l : Int) (hh : U6 h) (hl : U6 l) (m : Nat) (hm : m < 8) : ∃ x y, (putOf 8 h ++ putOf 8 l)[2 * m]? = some x ∧ (putOf 8 h ++ putOf 8 l)[2 * m + 1]? = some y ∧ (0 ≤ x ∧ x ≤ 255) ∧ (0 ≤ y ∧ y ≤ 255) ∧ (gsOf h l)[m]? = some (x * 256 + y) := by
  obtain ⟨h0, h1⟩ := hh
  obtain ⟨l0, l1⟩ := hl
  rcases (show m = 0 ∨ m = 1 ∨ m = 2 ∨ m = 3 ∨ m = 4 ∨ m = 5 ∨ m = 6 ∨ m = 7 by omega) with rfl | rfl | rfl | rfl | rfl | rfl | rfl | rfl
  all_goals
    refine ⟨_, _, rfl, rfl, by omega, by omega, ?_⟩
    simp only [gsOf, List.getElem?_cons_zero, List.getElem?_cons_succ, ← gr_0, ← gr_1, ← gr_2, ← gr_3]
    congr 1
    omega
theorem own8 {w : World} {base n : Nat} {t : TypeId} {zs : List Int} {v : Value} (h : w.ownsRow base t 1 v n (zs.map (Value.int .u64))) : ∀ k, v.ownBlock = some k → base ≤ k := own_basek h
theorem wf_u64' {z : Int} (h : 0 ≤ z ∧ z ≤ 65535) : (Lit.int .u64 z).wf = true := by
  simp [Lit.wf, IntKind.min, IntKind.max, IntKind.bits, IntKind.signed]; omega

/-- 'append' of one number onto a row of the call's own, as a step of a region in an open order. -/
theorem step_app64 {ops : Array Oper} {o : Oper} {a : Act} {w : World} {K : Act → World → Prop} {Q : Exit → Act → World → Prop} {E : Prop}
    (hg : o.guard = none) (s x : Operand) (hop : o.op = Op.call { callee := Callee.builtin Builtin.append, args := #[s, x], argTypes := #[37, 37] })
    (base : Nat) (v : Value) (n : Nat) (ys : List Int) (hs : a.eval s = v) (hown : w.ownsRow base 23 1 v n (ys.map (Value.int .u64)))
    (b : Nat) (z : Int) (hx : a.eval x = .slice (some ⟨b, 0, none⟩) 1 1) (hc : w.cell? ⟨b, 0, none⟩ = some (.int .u64 z)) (hn : n ≤ 1000) (hbase : base ≤ w.heap.size)
    (hK : ∀ v' w', w'.ownsRow base 23 1 v' (n + 1) ((ys ++ [z]).map (Value.int .u64)) → w.grownBy w' v.ownBlock → K (a.put o.dst v') w') :
    if Region.wanted o (yielded ops a.tmps) = true then Oper.wp Tryd.prog o a w K Q else E := by
  have hw : Region.wanted o (yielded ops a.tmps) = true := by simp [Region.wanted, hg]
  rw [if_pos hw]
  have hinf : (Tryd.prog.info? 23).map (fun i => (i.zero, i.size, i.bytes)) = some (some (.int .u64 0), 1, 8) := by kernel_rfl
  obtain ⟨i0, hi, hz0, hz1, hz2⟩ := info_parts hinf
  obtain ⟨v', w', hrun, r1, r2, -, -⟩ := run_append_own_at (P := Tryd.prog) w base 37 o.type 23 i0 (.int .u64 0) 1 8 Tryd.underlying37 hi hz0 hz1 hz2 rfl (by decide) v n _ hown ⟨b, 0, none⟩ 1 1 [.int .u64 z] rfl (fun j u hj => by
    rcases j with _ | j
    · cases hj; exact hc
    · cases hj) (fun u hu => by rw [List.mem_singleton] at hu; subst hu; rfl) (by unfold maxLen; omega) (by omega) hbase
  unfold Oper.wp
  simp [execOp, hop, resolve, invoke, builtin, hs, hx, hrun, Result.andThen]
  exact hK v' w' (by simpa using r1) r2

set_option maxRecDepth 100000 in
set_option maxHeartbeats 2000000 in
theorem rgroups_any (h l : Int) (hh : U6 h) (hl : U6 l) (w : World) :
    Calls Tryd.prog 27 #[adr true h l] w fun e w' => ∃ A c, e = .returned (.slice A 8 c) ∧ RI .u64 w' w'.heap.size A 8 (gsOf h l) ∧ (∀ g, A = some g → w.heap.size ≤ g.block) ∧ Below w.heap.size w w' := by
  have HPr := Lib.hid (pair_at h l hh hl)
  have HB := Lib.hid (rbytes_any true h l hh hl (w.alloc (.cells #[.bool true, .int .u64 h, .int .u64 l] 25)))
  have eb : byts true h l = putOf 8 h ++ putOf 8 l := by unfold byts; rw [vld_six]; rfl
  rw [eb] at HB
  have el : (putOf 8 h ++ putOf 8 l).length = 16 := by rw [List.length_append, putOf_len, putOf_len]
  obtain ⟨zs, hzs⟩ : ∃ zs, zs = putOf 8 h ++ putOf 8 l := ⟨_, rfl⟩
  obtain ⟨G, hG⟩ : ∃ G, G = gsOf h l := ⟨_, rfl⟩
  have hGl : G.length = 8 := by rw [hG]; rfl
  rw [← hzs] at HB HPr el
  rw [← hG] at HPr ⊢
  unfold OutR at HB
  rw [el] at HB
  have HGw : Hid (∀ z ∈ G, (Lit.int .u64 z).wf = true) := Lib.hid (by
    rw [hG]
    intro z hz
    simp only [gsOf, List.mem_cons, List.not_mem_nil, or_false] at hz
    rcases hz with rfl | rfl | rfl | rfl | rfl | rfl | rfl | rfl <;> exact wf_u64' (gr_bd _ _))
  have HGl := Lib.hid hGl
  clear eb hzs hG hh hl el hGl
  go_enter Tryd.func27, Tryd.ntmps27
  go_wp2_with fail
  refine Calls.mono HB.out ?_
  rintro e w1 ⟨A, c, rfl, hri, hA, hge, hb⟩
  have HR := Lib.hid hri
  have L1 := Lib.hid (((Below.refl _ w).alloc (Nat.le_refl _) _).trans (hb.mono (by simp only [World.size_alloc]; omega)))
  clear hri hb hA hge
  go_wp2
  go_loopw [4, 5] (fun v' i wr => ∃ m j : Nat, m ≤ 8 ∧ j = 2 * m ∧ i = .int .i64 (j : Int) ∧ wr.ownsRow w1.heap.size 23 1 v' m ((G.take m).map (Value.int .u64)) ∧ Below w1.heap.size w1 wr) (fun _ i _ => (16 - intOf i).toNat)
  case atStart => exact ⟨0, 0, by decide, rfl, rfl, ⟨by simp, .inl ⟨rfl, rfl⟩⟩, Below.refl _ _⟩
  case round =>
    obtain ⟨m, j, hm, hj, rfl, hown, hbel⟩ := hrel
    have HO := Lib.hid hown
    have HBl := Lib.hid hbel
    by_cases hlt : m < 8
    · obtain ⟨x, y, hx, hy, hx1, hy1, hg⟩ := HPr.out m hlt
      have RW := HR.out.below hbel
      obtain ⟨b, o, rfl, hbk, hc⟩ := RW.2.1 (by decide)
      have d0 := hc _ _ hx
      have d1 := hc _ _ hy
      rw [← hj] at d0 d1
      have hw1 : IntKind.i64.wrap ((j : Int) + 1) = (j : Int) + 1 := by rw [IntKind.wrap_i64]; omega
      have hn1 : ((j : Int) + 1).toNat = j + 1 := by omega
      have hw2 : IntKind.u64.wrap (x * 256) = x * 256 := by rw [IntKind.wrap_u64]; omega
      have hw3 : IntKind.u64.wrap (x * 256 + y) = x * 256 + y := by rw [IntKind.wrap_u64]; omega
      have hwx : IntKind.u64.wrap x = x := by rw [IntKind.wrap_u64]; omega
      have hwy : IntKind.u64.wrap y = y := by rw [IntKind.wrap_u64]; omega
      have hj16 : (j : Int) < 16 := by omega
      have hj0 : 0 ≤ (j : Int) + 1 := by omega
      have hj15 : j < 16 := by omega
      have hj14 : (j : Int) + 1 < 16 := by omega
      have HX := Lib.hid (And.intro hx1 (And.intro hy1 hg))
      have HJ := Lib.hid hj
      clear hown hbel hx hy hx1 hy1 hg RW hc hbk hj
      go_wp2
      have HT : Hid (G.take m ++ [x * 256 + y] = G.take (m + 1)) := Lib.hid (by rw [List.take_add_one, HX.out.2.2]; rfl)
      go_region_law (refine step_app64 rfl (.tmp 12) (.tmp 26) rfl w1.heap.size u4 m (G.take m) (by simp [Act.eval]) (HO.out.drew.alloc _) wr.heap.size (x * 256 + y) (by simp [Act.eval]) ((Blk.new wr.drew 23 #[.int .u64 (x * 256 + y)]).cell 0) (by omega) (by have := HBl.out.size; simp; omega) ?_; intro v2 w2 hown2 hg2; have HO2 := Lib.hid hown2; have HB2 := Lib.hid ((HBl.out.drew.alloc HBl.out.size _).grown hg2 (by have := HBl.out.size; simp; omega) (own8 HO.out)); clear hown2 hg2)
      all_goals
        clear d0 d1
        go_wp2
        go_roundw
        case rel => exact ⟨m + 1, j + 2, by omega, by have := HJ.out; omega, by go_num, by have h := HO2.out; rw [HT.out] at h; exact h, HB2.out⟩
        case measure => simp [intOf]; omega
    · obtain rfl : m = 8 := by omega
      subst hj
      clear hown hbel
      go_wp2
      go_ret
      have ho := HO.out
      rw [List.take_of_length_le (by rw [HGl.out]; exact Nat.le_refl _)] at ho
      obtain ⟨A2, c2, rfl, q1, -, q3, -⟩ := own_ri HGw.out ho
      exact ⟨A2, c2, rfl, q1, fun g e => Nat.le_trans L1.out.size (q3 g e), L1.out.trans (HBl.out.mono L1.out.size)⟩
end Go.Proofs.YtnhlgonldffgoaaDoor
