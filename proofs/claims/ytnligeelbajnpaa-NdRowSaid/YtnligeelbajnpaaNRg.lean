/-
  The document's own data, Ask and Tell of layer 9.
-/
import Derived.Test.YtnligeelbajnpaaNRf
namespace Go.Proofs.Ytnligeelbajnpaa
open Go.RowKit
set_option linter.unusedVariables false

theorem ret_str9 {a b : ByteArray} (h : a = b) : Ending.returned (.string a) = .returned (.string b) := by rw [h]
set_option maxRecDepth 100000 in
set_option maxHeartbeats 4000000 in
theorem rdata_any (h l : Int) (hh : U6 h) (hl : U6 l) (y : Bool) (kd m : Int) (hk : 0 ≤ kd ∧ kd ≤ 255) (hm : U6 m) (w : World) :
    Calls Try.prog 21 #[adr true h l, .bool y, .int .u8 kd, .int .u64 m] w fun e w' => e = .returned (.string (strOfNums (datN h l y kd m))) ∧ Below w.heap.size w w' := by
  have K0 := Lib.hid (Blk.new w 24 #[.bool true, .int .u64 h, .int .u64 l])
  have L0 := Lib.hid ((Below.refl _ w).alloc (Nat.le_refl _) (.cells #[.bool true, .int .u64 h, .int .u64 l] 24))
  have HB := Lib.hid (fun W => rbytes6_own h l hh hl W)
  have BY := Lib.hid ((putOf_by 8 h).app (putOf_by 8 l))
  have HD := Lib.hid (datN_by (h := h) (l := l) (y := y) (m := m) hk)
  have BK : Hid (By ((putOf 8 h ++ putOf 8 l) ++ [kd, 1])) := Lib.hid (((putOf_by 8 h).app (putOf_by 8 l)).app fun z hz => by
    rcases List.mem_cons.1 hz with e | e
    · rw [e]; exact hk
    · rw [List.mem_singleton.1 e]; decide)
  have WK : Hid (∀ z ∈ [kd, 1], (Lit.int .u8 z).wf = true) := Lib.hid fun z hz => by
    rcases List.mem_cons.1 hz with e | e
    · rw [e]; exact wf_u8 hk
    · rw [List.mem_singleton.1 e]; decide
  have HP := Lib.hid (fun W A c hz hA => nput_own 6 18 24 (by decide) (by decide) m hm.1 hm.2 (by decide) (zs := (putOf 8 h ++ putOf 8 l) ++ [kd, 1]) (ys := datN h l true kd m) rfl (by unfold datN; simp) W A c hz hA)
  obtain ⟨f0, f1, f2⟩ := K0.out.c3
  clear hh hl hk hm
  cases y with
  | false =>
    have e : datN h l false kd m = putOf 8 h ++ putOf 8 l := by unfold datN; simp
    rw [e] at HD ⊢
    go_enter Try.func21, Try.ntmps21
    go_wp2_with fail
    refine Calls.mono (HB.out _) ?_
    rintro e w1 ⟨v, rfl, ho, hb⟩
    have L1 := Lib.hid (L0.out.trans (hb.mono L0.out.size))
    obtain ⟨A, c, rfl, r1, -⟩ := own_ri BY.out.wf ho
    have hcv := conv_str (c := c) r1
    clear hb ho r1 f0 f1 f2
    go_wp2
    go_ret
    exact ⟨rfl, L1.out⟩
  | true =>
    go_enter Try.func21, Try.ntmps21
    go_wp2_with fail
    refine Calls.mono (HB.out _) ?_
    rintro e w1 ⟨v, rfl, ho, hb⟩
    have L1 := Lib.hid (L0.out.trans (hb.mono L0.out.size))
    simp only [World.size_alloc] at ho
    have O1 := Lib.hid ho
    have S1 := Lib.hid hb.size
    clear hb ho f0 f1 f2
    go_wp2_with (at_builtin; refine wpList_appk .u8 49 5 1 Try.underlying49 Try.info5 _ rfl (.tmp 13) (.tmp 15) rfl (w.heap.size + 1) v 16 (putOf 8 h ++ putOf 8 l) rfl (O1.out.alloc _) (w1.heap.size + 1) (some ⟨w1.heap.size, 0, none⟩) 2 2 [kd, 1] rfl (fun h => by cases h) (Blk.readsk (zs := [kd, 1]) (Blk.new _ _ _) WK.out (Nat.lt_succ_self _)) (by decide) (by decide) (by have := S1.out; (try simp only [World.size_alloc] at this); (try simp only [World.size_alloc]); omega) ?_; intro v2 w2 hown hg hat; have O2 := Lib.hid hown; have G2 := Lib.hid hg; clear hown hg hat)
    have L2 : Hid (Below w.heap.size w w2) := Lib.hid ((L1.out.alloc L1.out.size _).grown G2.out (by have := L1.out.size; (try simp only [World.size_alloc]); omega) (fun k hk => by have := own_basek O1.out k hk; (try simp only [World.size_alloc] at this); omega))
    obtain ⟨A2, c2, rfl, r2, ha2, -⟩ := own_ri BK.out.wf O2.out
    have Q2 := Lib.hid r2
    have N2 := Lib.hid ha2
    clear r2 ha2
    go_wp2_with fail
    refine Calls.mono (HP.out _ _ _ Q2.out N2.out) ?_
    rintro e w3 ⟨v3, rfl, ho3, hb⟩
    have L3 := Lib.hid (L2.out.trans (hb.mono L2.out.size))
    obtain ⟨A3, c3, rfl, r3, -⟩ := own_ri HD.out.wf ho3
    have hcv := conv_str (c := c3) r3
    clear hb ho3 r3
    go_wp2
    go_ret
    exact ⟨rfl, L3.out⟩
/-- A message stored whole into a variable. -/
theorem wpList_stm {ops : Array Oper} {rest : List Oper} {o : Oper} {a : Act} {w : World} {Q : Exit → Act → World → Prop} (hgd : o.guard = none) (x y : Operand) (ho : o.op = .store 32 x y)
    (g : Nat) (new old : Ms) (hx : a.eval x = .pointer (some ⟨g, 0, none⟩)) (hy : a.eval y = .agg (mcs new)) (hB : Blk w g 32 (mcs old))
    (h : ∀ w', Blk w' g 32 (mcs new) → Below g w w' → wpList Try.prog ops Q rest (a.put o.dst undef) w') : wpList Try.prog ops Q (o :: rest) a w := by
  have hi : (Try.prog.info? 32).map (·.size) = some 5 := by kernel_rfl
  refine wpList_store_row hgd 32 x y ho g (mcs new) hx hy 32 (mcs old) hB (by rw [show (mcs new).size = 5 from rfl]; exact hi) (show (mcs old).size = (mcs new).size from rfl) (by simp [Value.oneCell']) ?_
  exact h _ (setRow_heap w g (mcs old) (mcs new) 32 _ hB) ⟨rfl, rfl, rfl, by simp [World.setRow], fun k hk => setRow_other w g k (mcs new) (by omega)⟩
theorem Blk.m5 {w : World} {g : Nat} {t : TypeId} {m : Ms} (h : Blk w g t (mcs m)) : w.cell? ⟨g, 0, none⟩ = some (.bool m.s) ∧ w.cell? ⟨g, 1, none⟩ = some (.int .i64 m.k) ∧ w.cell? ⟨g, 2, none⟩ = some (.int .i64 m.c) ∧ w.cell? ⟨g, 3, none⟩ = some (.int .i64 m.r) ∧ w.cell? ⟨g, 4, none⟩ = some (.string m.d) :=
  ⟨by rw [h.cell]; rfl, by rw [h.cell]; rfl, by rw [h.cell]; rfl, by rw [h.cell]; rfl, by rw [h.cell]; rfl⟩
theorem Blk.so5 {w : World} {g : Nat} {t : TypeId} {x : Sol} (h : Blk w g t (solC x)) : w.cell? ⟨g, 0, none⟩ = some (.bool x.s) ∧ w.cell? ⟨g, 1, none⟩ = some (.int .u64 x.h) ∧ w.cell? ⟨g, 2, none⟩ = some (.int .u64 x.l) ∧ w.cell? ⟨g, 3, none⟩ = some (.bool x.y) ∧ w.cell? ⟨g, 4, none⟩ = some (.int .u64 x.m) :=
  ⟨by rw [h.cell]; rfl, by rw [h.cell]; rfl, by rw [h.cell]; rfl, by rw [h.cell]; rfl, by rw [h.cell]; rfl⟩
theorem Blk.ad8 {w : World} {g : Nat} {t : TypeId} {x : Adv} (h : Blk w g t (advC x)) : w.cell? ⟨g, 0, none⟩ = some (.bool x.s) ∧ w.cell? ⟨g, 1, none⟩ = some (.int .u64 x.h) ∧ w.cell? ⟨g, 2, none⟩ = some (.int .u64 x.l) ∧ w.cell? ⟨g, 3, none⟩ = some (.bool x.r) ∧ w.cell? ⟨g, 4, none⟩ = some (.bool x.a) ∧ w.cell? ⟨g, 5, none⟩ = some (.bool x.o) ∧ w.cell? ⟨g, 6, none⟩ = some (.bool x.y) ∧ w.cell? ⟨g, 7, none⟩ = some (.int .u64 x.m) :=
  ⟨by rw [h.cell]; rfl, by rw [h.cell]; rfl, by rw [h.cell]; rfl, by rw [h.cell]; rfl, by rw [h.cell]; rfl, by rw [h.cell]; rfl, by rw [h.cell]; rfl, by rw [h.cell]; rfl⟩
/-- The variable that comes in, and that of the result. -/
theorem ask_args (cs : Array Value) (t : TypeId) (w : World) : ∃ W0, W0 = (w.alloc (.cells cs t)).alloc (.cells (mcs ⟨false, 0, 0, 0, ⟨#[]⟩⟩) 32) ∧ Blk W0 w.heap.size t cs ∧ Blk W0 (w.heap.size + 1) 32 (mcs ⟨false, 0, 0, 0, ⟨#[]⟩⟩) ∧ Below w.heap.size w W0 := by
  refine ⟨_, rfl, (Blk.new w _ _).alloc _, ?_, ((Below.refl _ w).alloc (Nat.le_refl _) _).alloc (by simp) _⟩
  have := Blk.new (w.alloc (.cells cs t)) 32 (mcs ⟨false, 0, 0, 0, ⟨#[]⟩⟩)
  simpa using this
def askV (x : Sol) : Value := .tuple #[(askR x).1.val, .int .i64 (askR x).2]
def telV (x : Adv) : Value := .tuple #[(telR x).1.val, .int .i64 (telR x).2]
set_option maxRecDepth 100000 in
set_option maxHeartbeats 4000000 in
theorem rask_any (s : Bool) (h l : Int) (y : Bool) (m : Int) (hw : U6 h ∧ U6 l ∧ U6 m) (w : World) :
    Calls Try.prog 10 #[Sol.val ⟨s, h, l, y, m⟩] w fun e w' => e = .returned (askV ⟨s, h, l, y, m⟩) ∧ Below w.heap.size w w' := by
  obtain ⟨W0, hW0, km, kr, hL0⟩ := ask_args (solC ⟨s, h, l, y, m⟩) 27 w
  have KM := Lib.hid km
  have KR := Lib.hid kr
  have L0 := Lib.hid hL0
  have H1 := Lib.hid (fun W => rright9_at s h l hw.1 hw.2.1 y m W)
  obtain ⟨f0, f1, f2, f3, f4⟩ := km.so5
  rw [hW0] at f0 f1 f2 f3 f4
  clear km kr hL0
  rcases Bool.eq_false_or_eq_true (rgtB s h l y m) with hr | hr
  · obtain ⟨rfl, -, -, -⟩ := rgt_parts hr
    have H2 := Lib.hid (fun W => rdata_any h l hw.1 hw.2.1 y 1 m (by decide) hw.2.2 W)
    have HX : Hid (askR ⟨true, h, l, y, m⟩ = (⟨true, 135, 0, 0, strOfNums (datN h l y 1 m)⟩, 0)) := Lib.hid (by unfold askR; rw [if_pos hr])
    rw [hr] at H1
    obtain ⟨D, hD⟩ : ∃ D, strOfNums (datN h l y 1 m) = D := ⟨_, rfl⟩
    rw [hD] at H2 HX
    clear hr hw hD
    go_enter Try.func10, Try.ntmps10
    go_wp2_with fail
    refine Calls.mono (H1.out _) ?_
    rintro e w1 ⟨rfl, hb⟩
    replace hb : Below W0.heap.size W0 w1 := by rw [hW0]; exact hb
    have KM1 := Lib.hid (KM.out.below hb KM.out.lt)
    have KR1 := Lib.hid (KR.out.below hb KR.out.lt)
    have L1 := Lib.hid (L0.out.trans (hb.mono L0.out.size))
    clear hb f0 f1 f2 f3 f4 hW0
    obtain ⟨f0, f1, f2, f3, f4⟩ := KM1.out.so5
    go_wp2_with fail
    refine Calls.mono (H2.out _) ?_
    rintro e w2 ⟨rfl, hb⟩
    have KR2 := Lib.hid (KR1.out.below hb KR1.out.lt)
    have L2 := Lib.hid (L1.out.trans (hb.mono L1.out.size))
    clear hb f0 f1 f2 f3 f4
    go_wp2_with (refine wpList_stm rfl (.tmp 2) (.tmp 22) rfl (w.heap.size + 1) ⟨true, 135, 0, 0, D⟩ ⟨false, 0, 0, 0, ⟨#[]⟩⟩ rfl rfl KR2.out ?_; intro w6 hk6 hb6; have K6 := Lib.hid hk6; have L6 := Lib.hid (L2.out.trans (hb6.mono (by omega))); clear hk6 hb6)
    obtain ⟨q0, q1, q2, q3, q4⟩ := K6.out.m5
    exact bodyPost_ret (v := .tuple #[Ms.val ⟨true, 135, 0, 0, D⟩, .int .i64 0]) (by simp [results, Try.results10, go_sem, q0, q1, q2, q3, q4]) rfl ⟨by unfold askV; rw [HX.out], L6.out⟩
  · have HX : Hid (askR ⟨s, h, l, y, m⟩ = (⟨false, 0, 0, 0, ⟨#[]⟩⟩, 80)) := Lib.hid (by unfold askR; rw [if_neg (by rw [hr]; decide)]; rfl)
    rw [hr] at H1
    clear hr hw
    go_enter Try.func10, Try.ntmps10
    go_wp2_with fail
    refine Calls.mono (H1.out _) ?_
    rintro e w1 ⟨rfl, hb⟩
    replace hb : Below W0.heap.size W0 w1 := by rw [hW0]; exact hb
    have KR1 := Lib.hid (KR.out.below hb KR.out.lt)
    have L1 := Lib.hid (L0.out.trans (hb.mono L0.out.size))
    clear hb f0 f1 f2 f3 f4 hW0
    go_wp2_with (refine wpList_stm rfl (.tmp 2) (.tmp 14) rfl (w.heap.size + 1) ⟨false, 0, 0, 0, ⟨#[]⟩⟩ ⟨false, 0, 0, 0, ⟨#[]⟩⟩ rfl rfl KR1.out ?_; intro w6 hk6 hb6; have K6 := Lib.hid hk6; have L6 := Lib.hid (L1.out.trans (hb6.mono (by omega))); clear hk6 hb6)
    obtain ⟨q0, q1, q2, q3, q4⟩ := K6.out.m5
    exact bodyPost_ret (v := .tuple #[Ms.val ⟨false, 0, 0, 0, ⟨#[]⟩⟩, .int .i64 80]) (by simp [results, Try.results10, go_sem, q0, q1, q2, q3, q4]) rfl ⟨by unfold askV; rw [HX.out], L6.out⟩
end Go.Proofs.Ytnligeelbajnpaa
