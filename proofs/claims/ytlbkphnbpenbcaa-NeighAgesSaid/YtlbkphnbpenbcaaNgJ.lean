/-
  The program's own cache of neighbours (layer 19): slices.AppendSeq, slices.Collect against whatever iterator over keys.
-/
import Derived.Test.YtlbkphnbpenbcaaNgI
namespace Go.Proofs.Ytlbkphnbpenbcaa
open Go.RowKit Go.Shelf
set_option linter.unusedVariables false
set_option linter.unusedSectionVars false
attribute [local go_sem] Oper.semAt_some

/-- What has come so far, in the call's own row, the slice in a box; nothing that lay before has turned. -/
def CoI (w : World) (Bs : Nat) (ss : List KyI) (W : World) : Prop :=
  (∃ v, Boxed W Bs 74 v ∧ W.ownsRow w.heap.size 70 4 v ss.length (ss.flatMap kyC) ∧ (v = .slice none 0 0 ↔ ss = [])) ∧ Below w.heap.size w W
theorem CoI.own (w : World) (Bs B : Nat) (hB : w.heap.size ≤ B) : OwnFrom B (CoI w Bs) :=
  OwnFrom.and (Own.from (holdsRow_own _ _ _ _ 4 (fun ss : List KyI => ss.length) (fun ss : List KyI => ss.flatMap kyC) (fun ss v => v = .slice none 0 0 ↔ ss = [])) _) (ownFrom_below (Nat.le_refl _) hB)
def CoX (Bs : Nat) (f : Nat → Act) (x : KyI) (a : Act) (W : World) : Prop :=
  ∃ Bx, Bs < Bx ∧ W.heap[Bx]? = some (.cells (kyC x).toArray 70 (0, 0)) ∧ a = f Bx
theorem CoX.own (Bs B : Nat) (f : Nat → Act) (x : KyI) (a : Act) : OwnFrom B (fun (_ : Unit) W => CoX Bs f x a W) := by
  rintro _ X Y row ⟨Bx, h1, h2, h3⟩ hg hr
  refine ⟨Bx, h1, (hg.block Bx (Array.getElem?_eq_some_iff.1 h2).1 (fun e => ?_)).trans h2, h3⟩
  obtain ⟨_, o, ho, hc⟩ := hr Bx e.symm
  rw [h2] at ho; cases ho; cases hc
theorem kyC_len (x : KyI) : (kyC x).length = 4 := by rfl
theorem kyC_flat (l : List KyI) : (l.flatMap kyC).length = l.length * 4 := by
  induction l with
  | nil => rfl
  | cons a l ih => rw [List.flatMap_cons, List.length_append, kyC_len, ih, List.length_cons]; omega
theorem kyInfo : (Try.prog.info? 70).map (fun i => (i.zero, i.size, i.bytes)) = some (some (.agg #[.int .i64 0, .bool false, .int .u64 0, .int .u64 0]), 4, 32) := by kernel_rfl
set_option maxRecDepth 100000 in
set_option maxHeartbeats 2000000 in
theorem appSeq_in (F : Fence) (n : Nat) (h11 : F.fn 66) (hro : F.round = none) (hn : 2 ≤ n) (g : Nat) (lb : Array Value) (hFg : F.fn g) (eg : ∀ args w, (callFunc g args).run Try.prog w = .ok (.enter g args) w)
    (S : List KyI → Prop) (N : Nat) (hN : N ≤ 100000) (w : World) (hseq : SeqStopsK F (n - 1) Try.prog g lb (fun p : KyI => #[kyV p]) KeepsWalks S (fun _ => True) N w) :
    CallsIn F n Try.prog 66 #[.slice none 0 0, .func (.func g) #[] lb] w fun e w' => ∃ (v : Value) (ss : List KyI), e = .returned v ∧ S ss ∧ w'.ownsRow w.heap.size 70 4 v ss.length (ss.flatMap kyC) ∧ (v = .slice none 0 0 ↔ ss = []) ∧ Below w.heap.size w w' := by
  have h1 : 1 ≤ n := by omega
  obtain ⟨i0, hi, hz0, hz1, hz2⟩ := info_parts kyInfo
  refine callsIn_of_wp_marks Try.func66 rfl h11 ?_ hro
  simp only [Try.ntmps66, List.size_toArray, List.length_cons, List.length_nil, Nat.reduceAdd, Nat.reduceSub, Array.replicate_succ, Array.replicate_zero, List.push_toArray, List.append_toArray, List.nil_append, List.cons_append]
  gi_wp2
  have bS := Boxed.new w 74 (.slice none 0 0)
  have hB0 : Below w.heap.size w (w.alloc (.cells #[.slice none 0 0] 74)) := (Below.refl _ w).alloc (Nat.le_refl _) _
  have hsz : (w.alloc (.cells #[.slice none 0 0] 74)).heap.size = w.heap.size + 1 := by simp
  obtain ⟨W0, hW0⟩ : ∃ W0, w.alloc (.cells #[.slice none 0 0] 74) = W0 := ⟨_, rfl⟩
  rw [hW0] at bS hB0 hsz ⊢
  clear hW0
  refine wpIn_rangeFunc_ownH hro h1 (gf := g) (lb := lb) rfl hFg eg hseq walksK_t (fun W l o o' hl h h2 h3 => walksK_b (w := W0) W l o o' hl h h2 h3) hB0 (fun _ => rfl)
    (CoI w w.heap.size) (fun _ _ _ => False) (CoI.own w _ _ (by omega)) (fun _ _ _ _ _ hs _ _ => hs)
    ⟨⟨_, bS, ⟨rfl, .inl ⟨rfl, rfl⟩⟩, by simp⟩, hB0⟩
    (fun x a' W => CoX w.heap.size (fun Bx => { tmps := #[.slice none 0 0, .func (.func g) #[] lb, .pointer (some ⟨w.heap.size, 0, none⟩), undef, .slice none 0 0, .pointer (some ⟨Bx, 0, none⟩), .func (.func g) #[] lb, kyV x, undef, undef, undef, undef, undef], defers := [] }) x a' W)
    (fun x a' => CoX.own _ _ _ x a')
    ?assign ?body ?done ?stop
  case assign =>
    rintro l pre ⟨xn, xs, xh, xl⟩ W K hI hK
    gi_wp2
    exact hK _ _ ((KeepsOthers.alloc _ _).from _) (KeepsWalks.alloc _ _) ((CoI.own w _ _ (Nat.le_refl _)).alloc _ hI) ⟨W.heap.size, by obtain ⟨⟨v, hv, _⟩, _⟩ := hI; exact hv.lt, World.alloc_heap_new W _, rfl⟩
  case body =>
    rintro l pre ⟨xn, xs, xh, xl⟩ a' W hl ⟨r, hr⟩ ⟨⟨v, bV, hrow, hnil⟩, hBW⟩ ⟨Bx, hBx, hX, rfl⟩ hlt
    have cV := bV.cell
    have bX : Blk W Bx 70 (kyC (xn, xs, xh, xl)).toArray := hX
    have bX' : Blk W Bx 70 #[.int .i64 xn, .bool xs, .int .u64 (xh : Int), .int .u64 (xl : Int)] := bX
    obtain ⟨x0, x1, x2, x3⟩ := bX'.k4
    have hne : 74 ≠ 70 := by decide
    clear hX bX bX'
    gi_wp2_with (first
      | (gi_at_builtin; refine wpListIn_append_own _ rfl _ _ 74 rfl w.heap.size 70 i0 (.agg #[.int .i64 0, .bool false, .int .u64 0, .int .u64 0]) 4 32 Try.underlying74 hi hz0 hz1 hz2 rfl (by decide) _ _ _ rfl (hrow.alloc _) ⟨W.heap.size, 0, none⟩ 1 1 (kyC (xn, xs, xh, xl)) rfl rfl (src_new W _ _) (by intro u hu; simp [kyC] at hu; rcases hu with rfl | rfl | rfl | rfl <;> rfl) (by simp only [maxLen]; omega) (by omega) (by have := hBW.size; simp; omega) ?_; intro v' w3 hown' hg3 hnil3; obtain ⟨bV1, bV2, hr2, hko, hb2⟩ := bV.appended hne hrow hBW.size (Nat.le_refl _) hown' hg3; obtain ⟨g', cap', rfl⟩ := ownsRow_succ hown'; have cV1 := bV1.cell; have fV1 := bV1.frozen)
      | gi_in)
    exact ⟨hko.from _, hko.walks, ⟨_, bV2, by simpa [List.flatMap_append] using hr2, by simp⟩, hBW.trans hb2⟩
  case done =>
    rintro D ss W hD hS ⟨⟨v, bV, hrow, hnil⟩, hBW⟩ hK
    have cV := bV.cell
    gi_wp2
    refine ⟨by simp, .inl ⟨_, _, rfl, run_takeDeferred hK, ?_⟩⟩
    have hnD : ∀ k, v.ownBlock = some k → D ≠ k := by
      rintro k hk rfl
      rcases hrow.2 with ⟨rfl, _⟩ | ⟨g, cap, cur, rfl, _, hgb, _⟩
      · simp [Value.ownBlock] at hk
      · have : g = D := by simpa [Value.ownBlock] using hk
        subst this; rw [hgb] at hK; cases hK
    exact ⟨_, results_tmp rfl _ _ _, v, ss, rfl, hS, hrow.kept (grownBy_putObj' _ _ _) (.inr fun e => hnD D e rfl), hnil, hBW.grown (grownBy_putObj' _ _ _) hBW.size (fun k e => by cases e; omega)⟩
  case stop =>
    rintro D c pre W _ _ h _
    exact h.elim
set_option maxRecDepth 100000 in
set_option maxHeartbeats 1000000 in
theorem collect_in (F : Fence) (n : Nat) (h8 : F.fn 56) (h11 : F.fn 66) (hro : F.round = none) (hn : 3 ≤ n) (g : Nat) (lb : Array Value) (hFg : F.fn g) (eg : ∀ args w, (callFunc g args).run Try.prog w = .ok (.enter g args) w)
    (S : List KyI → Prop) (N : Nat) (hN : N ≤ 100000) (w : World) (hseq : SeqStopsK F (n - 1 - 1) Try.prog g lb (fun p : KyI => #[kyV p]) KeepsWalks S (fun _ => True) N w) :
    CallsIn F n Try.prog 56 #[.func (.func g) #[] lb] w fun e w' => ∃ (v : Value) (ss : List KyI), e = .returned v ∧ S ss ∧ w'.ownsRow w.heap.size 70 4 v ss.length (ss.flatMap kyC) ∧ (v = .slice none 0 0 ↔ ss = []) ∧ Below w.heap.size w w' := by
  have h1 : 1 ≤ n := by omega
  refine callsIn_of_wp Try.func56 rfl h8 ?_ hro
  simp only [Try.ntmps56, List.size_toArray, List.length_cons, List.length_nil, Nat.reduceAdd, Nat.reduceSub, Array.replicate_succ, Array.replicate_zero, List.push_toArray, List.append_toArray, List.nil_append, List.cons_append]
  gi_wp2_with (gi_at_call 66; refine (appSeq_in F (n - 1) h11 hro (by omega) g lb hFg eg S N hN _ hseq).mono ?_; rintro e w' ⟨v, ss, rfl, hS, hrow, hnil, hb⟩)
  go_ret
  exact ⟨v, ss, rfl, hS, hrow, hnil, hb⟩
/-- slices.Collect of what maps.Keys hands back. -/
theorem collectP (Bm m : Nat) (M : List (KyI × Value)) (hM : M.length ≤ 100000) (w : World) (hBm : Bm < w.heap.size) (hm : w.cell? ⟨Bm, 0, none⟩ = some (.map (some m))) (hown : MpIs (fun p => kyV p) w m M) :
    Calls Try.prog 56 #[.func (.func 58) #[] #[.pointer (some ⟨Bm, 0, none⟩)]] w fun e w' => ∃ (v : Value) (ss : List KyI), e = .returned v ∧ ss.Perm (M.map Prod.fst) ∧ w'.ownsRow w.heap.size 70 4 v ss.length (ss.flatMap kyC) ∧ (v = .slice none 0 0 ↔ ss = []) ∧ Below w.heap.size w w' :=
  callsIn_wide.1 (collect_in Fence.wide 5 trivial trivial rfl (by decide) _ _ trivial (enters_of Try.func58 (by kernel_rfl) rfl) _ _ hM w (keys_stops Fence.wide _ trivial rfl (by decide) Bm m M w hBm hm hown))
end Go.Proofs.Ytlbkphnbpenbcaa
