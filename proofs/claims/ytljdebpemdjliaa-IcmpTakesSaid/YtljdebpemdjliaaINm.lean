/-
  icmp.numbers of a reader of eight bytes; a message stored whole.
-/
import Derived.Test.YtljdebpemdjliaaIPr
import Derived.Test.YtljdebpemdjliaaReader
namespace Go.Proofs.Ytljdebpemdjliaa
open Go.RowKit
set_option linter.unusedVariables false

/-- A message stored whole into a variable. -/
theorem wpList_st5 {ops : Array Oper} {rest : List Oper} {o : Oper} {a : Act} {w : World} {Q : Exit → Act → World → Prop} (hgd : o.guard = none) (x y : Operand) (ho : o.op = .store 23 x y)
    (g : Nat) (new old : Ms) (hx : a.eval x = .pointer (some ⟨g, 0, none⟩)) (hy : a.eval y = .agg (mcs new)) (hB : Blk w g 23 (mcs old))
    (h : ∀ w', Blk w' g 23 (mcs new) → Below g w w' → wpList Try.prog ops Q rest (a.put o.dst undef) w') : wpList Try.prog ops Q (o :: rest) a w := by
  have hi : (Try.prog.info? 23).map (·.size) = some 5 := by kernel_rfl
  refine wpList_store_row hgd 23 x y ho g (mcs new) hx hy 23 (mcs old) hB (by rw [show (mcs new).size = 5 from rfl]; exact hi) (show (mcs old).size = (mcs new).size from rfl) (by simp [Value.oneCell']) ?_
  exact h _ (setRow_heap w g (mcs old) (mcs new) 23 _ hB) ⟨rfl, rfl, rfl, by simp [World.setRow], fun k hk => setRow_other w g k (mcs new) (by omega)⟩
theorem Rd.lti {w : World} {L B r : Nat} {zs : List Int} {sh : Bool} (h : Rd w L B r zs sh) : L ≤ r ∧ r < B := by
  obtain ⟨A, n, c, -, -, -, -, -, h3, h4⟩ := h
  exact ⟨h3, h4⟩
/-- What stands while numbers are taken: the message in block a, the reader in block r. -/
def NI (w0 : World) (L a r B : Nat) (x : Ms) (zs : List Int) (W : World) : Prop :=
  Blk W a 23 (mcs x) ∧ Rd W L B r zs false ∧ Below L w0 W ∧ B ≤ a ∧ L ≤ a
theorem NI.put {w0 : World} {L a r B : Nat} {x : Ms} {zs : List Int} {W : World} (h : NI w0 L a r B x zs W) (i : Nat) (u : Value) (y : Ms) (hy : (mcs x).setIfInBounds i u = mcs y) : NI w0 L a r B y zs (W.setCell ⟨a, i, none⟩ u) := by
  obtain ⟨h1, h2, h3, h4, h5⟩ := h
  exact ⟨by rw [← hy]; exact h1.set_ i u, h2.keep (fun b hb hB => Below.heap_setCell W ⟨a, i, none⟩ u b (show b ≠ a by omega)), h3.setCell (p := ⟨a, i, none⟩) (show L ≤ a by omega) u, h4, h5⟩
theorem ni_num {w0 : World} {L a r B : Nat} {x : Ms} (zs : List Int) (i k : Nat) (hk8 : k ≤ 8) (hk : i + k ≤ zs.length) (W : World) (h : NI w0 L a r B x (zs.drop i) W) :
    Calls Try.prog 32 #[.pointer (some ⟨r, 0, none⟩), .int .i64 (k : Int)] W fun e W' => e = .returned (.int .u64 (nAt zs i k)) ∧ NI w0 L a r B x (zs.drop (i + k)) W' := by
  refine Calls.mono (num_yes h.2.1 hk8 (by rw [List.length_drop]; omega)) ?_
  rintro e W' ⟨rfl, hr, ho⟩
  rw [List.drop_drop] at hr
  obtain ⟨h1, h2, h3, h4, h5⟩ := h
  obtain ⟨l1, l2⟩ := h2.lti
  exact ⟨rfl, (ho.2.2.2.2 a (by omega)).trans h1, hr, h3.trans (ho.below l1), h4, h5⟩

set_option maxRecDepth 100000 in
set_option maxHeartbeats 4000000 in
theorem inum_at (w0 w : World) (L r B : Nat) (zs : List Int) (h : Rd w L B r zs false) (hB : B ≤ w.heap.size) (hL : L ≤ w.heap.size) (hbel : Below L w0 w) (hl : zs.length = 8) :
    Calls Try.prog 25 #[.pointer (some ⟨r, 0, none⟩)] w fun e w' => e = .returned (Ms.val ⟨false, nAt zs 0 1, nAt zs 1 1, nAt zs 4 4, ⟨#[]⟩⟩) ∧ Below L w0 w' := by
  have hby : By zs := fun z hz => u8_bd (h.wf z hz)
  have b0 := nAt_bdI hby (i := 0) (k := 1) (by omega)
  have b1 := nAt_bdI hby (i := 1) (k := 1) (by omega)
  have b4 := nAt_bdI hby (i := 4) (k := 4) (by omega)
  rw [show (256 : Int) ^ 1 = 256 by decide] at b0 b1
  rw [show (256 : Int) ^ 4 = 4294967296 by decide] at b4
  have H1 := Lib.hid (fun x W hh => ni_num (w0 := w0) (L := L) (a := w.heap.size) (r := r) (B := B) (x := x) zs 0 1 (by decide) (by omega) W hh)
  have H2 := Lib.hid (fun x W hh => ni_num (w0 := w0) (L := L) (a := w.heap.size) (r := r) (B := B) (x := x) zs 1 1 (by decide) (by omega) W hh)
  have H3 := Lib.hid (fun x W hh => ni_num (w0 := w0) (L := L) (a := w.heap.size) (r := r) (B := B) (x := x) zs 2 2 (by decide) (by omega) W hh)
  have H4 := Lib.hid (fun x W hh => ni_num (w0 := w0) (L := L) (a := w.heap.size) (r := r) (B := B) (x := x) zs 4 4 (by decide) (by omega) W hh)
  obtain ⟨K, hK⟩ : ∃ X, nAt zs 0 1 = X := ⟨_, rfl⟩
  obtain ⟨C, hC⟩ : ∃ X, nAt zs 1 1 = X := ⟨_, rfl⟩
  obtain ⟨R, hR⟩ : ∃ X, nAt zs 4 4 = X := ⟨_, rfl⟩
  rw [hK] at b0 H1 ⊢
  rw [hC] at b1 H2 ⊢
  rw [hR] at b4 H4 ⊢
  have c0 : IntKind.i64.wrap K = K := by rw [IntKind.wrap_i64]; omega
  have c1 : IntKind.i64.wrap C = C := by rw [IntKind.wrap_i64]; omega
  have c4 : IntKind.i64.wrap R = R := by rw [IntKind.wrap_i64]; omega
  have S0 : Hid (NI w0 L w.heap.size r B noM (zs.drop 0) (w.alloc (.cells (mcs noM) 23))) :=
    Lib.hid ⟨Blk.new _ _ _, h.keep (fun b _ hb => Below.heap_alloc w _ b (by omega)), hbel.alloc hL _, hB, hL⟩
  clear hK hC hR b0 b1 b4 hby h hB hbel
  go_enter Try.func25, Try.ntmps25
  go_wp2_with fail
  refine Calls.mono (H1.out _ _ S0.out) ?_
  rintro e w1 ⟨rfl, hs⟩
  have S1 := Lib.hid hs
  obtain ⟨f0, f1, f2, f3, f4⟩ := hs.1.i5
  have z1 := hs.1.frozen 1
  clear hs
  go_wp2_with fail
  refine Calls.mono (H2.out _ _ (S1.out.put 1 (.int .i64 K) ⟨false, K, 0, 0, ⟨#[]⟩⟩ rfl)) ?_
  rintro e w2 ⟨rfl, hs⟩
  have S2 := Lib.hid hs
  clear f0 f1 f2 f3 f4 z1
  obtain ⟨f0, f1, f2, f3, f4⟩ := hs.1.i5
  have z2 := hs.1.frozen 2
  clear hs
  go_wp2_with fail
  refine Calls.mono (H3.out _ _ (S2.out.put 2 (.int .i64 C) ⟨false, K, C, 0, ⟨#[]⟩⟩ rfl)) ?_
  rintro e w3 ⟨rfl, hs⟩
  have S3 := Lib.hid hs
  clear f0 f1 f2 f3 f4 z2 hs
  go_wp2_with fail
  refine Calls.mono (H4.out _ _ S3.out) ?_
  rintro e w4 ⟨rfl, hs⟩
  have S4 := Lib.hid (hs.put 3 (.int .i64 R) ⟨false, K, C, R, ⟨#[]⟩⟩ rfl)
  obtain ⟨f0, f1, f2, f3, f4⟩ := hs.1.i5
  have z3 := hs.1.frozen 3
  obtain ⟨p0, p1, p2, p3, p4⟩ := S4.out.1.i5
  clear hs
  go_wp2_with (refine wpList_st5 rfl (.tmp 2) (.tmp 17) rfl w.heap.size ⟨false, K, C, R, ⟨#[]⟩⟩ ⟨false, K, C, R, ⟨#[]⟩⟩ rfl rfl S4.out.1 ?_; intro w6 hk6 hb6; have K6 := Lib.hid hk6; have L6 := Lib.hid (S4.out.2.2.1.trans (hb6.mono hL)); clear hk6 hb6)
  obtain ⟨q0, q1, q2, q3, q4⟩ := K6.out.i5
  exact bodyPost_ret (v := Ms.val ⟨false, K, C, R, ⟨#[]⟩⟩) (by simp [results, Try.results25, go_sem, q0, q1, q2, q3, q4]) rfl ⟨rfl, L6.out⟩
end Go.Proofs.Ytljdebpemdjliaa
