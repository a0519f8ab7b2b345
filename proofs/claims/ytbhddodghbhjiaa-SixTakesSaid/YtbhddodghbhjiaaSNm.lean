/-
  ip6.numbers of a reader of forty bytes.
-/
import Derived.Test.YtbhddodghbhjiaaSPk
import Derived.Test.YtbhddodghbhjiaaSRb
import Derived.Test.YtbhddodghbhjiaaSOf
namespace Go.Proofs.Ytbhddodghbhjiaa
open Go.RowKit
set_option linter.unusedVariables false

/-- What stands while numbers are taken: the variables in blocks a and a + 1, the reader in block r. -/
def NX (w0 : World) (a r B : Nat) (cs : Array Value) (zs : List Int) (W : World) : Prop :=
  Blk W a 74 #[.pointer (some ⟨r, 0, none⟩)] ∧ Blk W (a + 1) 35 cs ∧ Rd W w0.heap.size B r zs false ∧ Below w0.heap.size w0 W ∧ B ≤ a ∧ w0.heap.size ≤ a
theorem Rd.lt {w : World} {L B r : Nat} {zs : List Int} {sh : Bool} (h : Rd w L B r zs sh) : L ≤ r ∧ r < B := by
  obtain ⟨A, n, c, -, -, -, -, -, h3, h4⟩ := h
  exact ⟨h3, h4⟩
theorem NX.grown {w0 : World} {a r B : Nat} {cs : Array Value} {zs zs' : List Int} {W W' : World} (h : NX w0 a r B cs zs W) (hg : W.grownBy W' (some r)) (hr : Rd W' w0.heap.size B r zs' false) : NX w0 a r B cs zs' W' := by
  obtain ⟨h1, h2, h3, h4, h5, h6⟩ := h
  obtain ⟨l1, l2⟩ := h3.lt
  refine ⟨h1.grown hg (fun e => by injection e with e; omega), h2.grown hg (fun e => by injection e with e; omega), hr, ?_, h5, h6⟩
  refine h4.trans ⟨hg.os, hg.tape, hg.output, hg.size, fun k hk => hg.block k (by have := h1.lt; omega) (fun e => by injection e with e; omega)⟩
theorem NX.put {w0 : World} {a r B : Nat} {cs : Array Value} {zs : List Int} {W : World} (h : NX w0 a r B cs zs W) (i : Nat) (u : Value) : NX w0 a r B (cs.setIfInBounds i u) zs (W.setCell ⟨a + 1, i, none⟩ u) := by
  obtain ⟨h1, h2, h3, h4, h5, h6⟩ := h
  refine ⟨h1.far (p := ⟨a + 1, i, none⟩) (show a ≠ a + 1 by omega) u, h2.set_ i u, h3.keep (fun b hb hB => Below.heap_setCell W ⟨a + 1, i, none⟩ u b (show b ≠ a + 1 by omega)), h4.setCell (p := ⟨a + 1, i, none⟩) (show w0.heap.size ≤ a + 1 by omega) u, h5, h6⟩
theorem nx_num {w0 : World} {a r B : Nat} {cs : Array Value} (zs : List Int) (i k : Nat) (hk8 : k ≤ 8) (hk : i + k ≤ zs.length) (W : World) (h : NX w0 a r B cs (zs.drop i) W) :
    Calls Try.prog 78 #[.pointer (some ⟨r, 0, none⟩), .int .i64 (k : Int)] W fun e W' => e = .returned (.int .u64 (nA zs i k)) ∧ NX w0 a r B cs (zs.drop (i + k)) W' := by
  refine Calls.mono (num_yes h.2.2.1 hk8 (by rw [List.length_drop]; omega)) ?_
  rintro e W' ⟨rfl, hr, ho⟩
  rw [List.drop_drop] at hr
  exact ⟨rfl, h.grown ho.grown hr⟩
set_option maxRecDepth 100000 in
set_option maxHeartbeats 4000000 in
theorem nx_adr {w0 : World} {a r B : Nat} {cs : Array Value} (zs : List Int) (i : Nat) (hk : i + 16 ≤ zs.length) (W : World) (h : NX w0 a r B cs (zs.drop i) W) :
    Calls Try.prog 75 #[.pointer (some ⟨a, 0, none⟩)] W fun e W' => e = .returned (adr true (nA zs i 8) (nA zs (i + 8) 8)) ∧ NX w0 a r B cs (zs.drop (i + 16)) W' := by
  have HH := Lib.hid h
  have hW1 : W.heap.size < (W.alloc (.cells #[.bool false, .int .u64 0, .int .u64 0] 25)).heap.size := by simp only [World.size_alloc]; omega
  have ha := h.1.lt
  have hB : B ≤ W.heap.size := by have := h.2.2.2.2.1; omega
  have c0 := ((h.1.alloc (.cells #[.bool false, .int .u64 0, .int .u64 0] 25)).cell 0).trans (show _ = some (Value.pointer (some ⟨r, 0, none⟩)) by rfl)
  have hrb := h.2.2.1.lt
  have HRd : Rd (W.alloc (.cells #[.bool false, .int .u64 0, .int .u64 0] 25)) w0.heap.size B r (zs.drop i) false := h.2.2.1.keep (fun b hb hb2 => Below.heap_alloc W _ b (by omega))
  have HBy := Lib.hid (bytes_yes (k := 16) HRd (by simp only [World.size_alloc]; omega) (by rw [List.length_drop]; omega))
  have HBk := Lib.hid (Blk.new W 25 #[.bool false, .int .u64 0, .int .u64 0])
  have hby := h.2.2.1.wf
  have hln : ((zs.drop i).take 16).length = 16 := by rw [List.length_take, List.length_drop]; omega
  have hwf : ∀ z ∈ (zs.drop i).take 16, (Lit.int .u8 z).wf = true := fun z hz => hby z (List.mem_of_mem_take hz)
  have hv : ofV ((zs.drop i).take 16) = .tuple #[adr true (nA zs i 8) (nA zs (i + 8) 8), .int .i64 0] := by
    unfold ofV
    rw [hln, if_neg (by decide), if_pos rfl, List.take_take, List.drop_take, List.drop_drop]
    rfl
  have HV := Lib.hid hv
  have HLN := Lib.hid (And.intro hln hwf)
  have hdd : (zs.drop i).drop 16 = zs.drop (i + 16) := List.drop_drop
  rw [hdd] at HBy
  clear h HRd hv hln hwf hby hdd
  go_enter Try.func75, Try.ntmps75
  go_wp2_with fail
  refine Calls.mono HBy.out ?_
  rintro e w1 ⟨rfl, hb1, hr1, hg1⟩
  have HR1 := Lib.hid hr1
  have HG1 := Lib.hid hg1
  have hri : RI .u8 w1 w1.heap.size (some ⟨(W.alloc (.cells #[.bool false, .int .u64 0, .int .u64 0] 25)).heap.size, 0, none⟩) 16 ((zs.drop i).take 16) := by
    have := hb1.reads HLN.out.2 hb1.lt
    rwa [HLN.out.1] at this
  have HOf := Lib.hid (of_any w1 _ _ 16 16 _ hri (Nat.le_refl _) (Nat.le_refl _) (by decide))
  rw [HV.out] at HOf
  have K1 := Lib.hid (HBk.out.grown hg1 (fun e => by injection e with e; omega))
  have HS1 : Hid (W.heap.size + 1 ≤ w1.heap.size) := Lib.hid (by have := hg1.size; simpa only [World.size_alloc] using this)
  simp only [World.size_alloc] at HOf
  clear hb1 hr1 hg1 hri c0
  go_wp2_with fail
  refine Calls.mono HOf.out ?_
  rintro e w2 ⟨rfl, hb⟩
  have K2 := Lib.hid (K1.out.below hb K1.out.lt)
  obtain ⟨f0, f1, f2⟩ := K2.out.c3
  have hz0 := K2.out.frozen 0
  have hz1 := K2.out.frozen 1
  have hz2 := K2.out.frozen 2
  have HB2 := Lib.hid hb
  have hs2 : W.heap.size + 1 ≤ w2.heap.size := Nat.le_trans HS1.out hb.size
  have hne : ¬ w2.heap.size = W.heap.size := by omega
  have K3 := Lib.hid (K2.out.alloc (.cells #[.bool true, .int .u64 (nA zs i 8), .int .u64 (nA zs (i + 8) 8)] 25))
  obtain ⟨p0, p1, p2⟩ := K3.out.c3
  have q0 := K3.out.frozen 0
  have q1 := K3.out.frozen 1
  have q2 := K3.out.frozen 2
  clear hb
  go_wp2
  refine bodyPost_ret (v := adr true (nA zs i 8) (nA zs (i + 8) 8)) (by simp [results, Try.results75, go_sem, p0, p1, p2]) rfl ⟨rfl, ?_⟩
  have hgr : W.grownBy w1 (some r) := by
    have a1 : W.grownBy (W.alloc (.cells #[.bool false, .int .u64 0, .int .u64 0] 25)) (some r) := below_grown ((Below.refl _ W).alloc (Nat.le_refl _) _) _
    exact ⟨HG1.out.os.trans a1.os, HG1.out.tape.trans a1.tape, HG1.out.output.trans a1.output, Nat.le_trans a1.size HG1.out.size, fun k hk hne => (HG1.out.block k (by simp only [World.size_alloc]; omega) hne).trans (a1.block k hk hne)⟩
  have hs1' := HS1.out
  have LF := ((((HB2.out.mono (by omega : W.heap.size ≤ w1.heap.size)).alloc (by omega) (.cells #[.bool true, .int .u64 (nA zs i 8), .int .u64 (nA zs (i + 8) 8)] 25)).setCell (p := ⟨W.heap.size, 0, none⟩) (Nat.le_refl _) (.bool true)).setCell (p := ⟨W.heap.size, 1, none⟩) (Nat.le_refl _) (.int .u64 (nA zs i 8))).setCell (p := ⟨W.heap.size, 2, none⟩) (Nat.le_refl _) (.int .u64 (nA zs (i + 8) 8))
  refine HH.out.grown ⟨LF.os.trans hgr.os, LF.tape.trans hgr.tape, LF.output.trans hgr.output, Nat.le_trans hgr.size LF.size, fun k hk hne => (LF.block k hk).trans (hgr.block k hk hne)⟩ (HR1.out.keep fun b _ hb2 => LF.block b (by omega))

set_option maxRecDepth 100000 in
set_option maxHeartbeats 8000000 in
theorem snumbers_at (w0 w : World) (r B : Nat) (zs : List Int) (h : Rd w w0.heap.size B r zs false) (hB : B ≤ w.heap.size) (hbel : Below w0.heap.size w0 w) (hl : zs.length = 40) :
    Calls Try.prog 46 #[.pointer (some ⟨r, 0, none⟩)] w fun e w' => e = .returned (.tuple #[(nmS zs).val, .int .i64 (nA zs 4 2), .int .i64 (nA zs 0 4 / 268435456)]) ∧ Below w0.heap.size w0 w' := by
  have hby : By zs := fun z hz => u8_bd (h.wf z hz)
  have b0 := nA_bd hby (i := 0) (k := 4) (by omega)
  have b4 := nA_bd hby (i := 4) (k := 2) (by omega)
  have b6 := nA_bd hby (i := 6) (k := 1) (by omega)
  have b7 := nA_bd hby (i := 7) (k := 1) (by omega)
  rw [p4] at b0
  rw [p2] at b4
  rw [p1] at b6 b7
  have HN1 := Lib.hid (fun cs W hh => nx_num (w0 := w0) (a := w.heap.size) (r := r) (B := B) (cs := cs) zs 0 4 (by decide) (by omega) W hh)
  have HN2 := Lib.hid (fun cs W hh => nx_num (w0 := w0) (a := w.heap.size) (r := r) (B := B) (cs := cs) zs 4 2 (by decide) (by omega) W hh)
  have HN3 := Lib.hid (fun cs W hh => nx_num (w0 := w0) (a := w.heap.size) (r := r) (B := B) (cs := cs) zs 6 1 (by decide) (by omega) W hh)
  have HN4 := Lib.hid (fun cs W hh => nx_num (w0 := w0) (a := w.heap.size) (r := r) (B := B) (cs := cs) zs 7 1 (by decide) (by omega) W hh)
  have HA1 := Lib.hid (fun cs W hh => nx_adr (w0 := w0) (a := w.heap.size) (r := r) (B := B) (cs := cs) zs 8 (by omega) W hh)
  have HA2 := Lib.hid (fun cs W hh => nx_adr (w0 := w0) (a := w.heap.size) (r := r) (B := B) (cs := cs) zs 24 (by omega) W hh)
  have s1 := sand_255 (nA zs 0 4 / 1048576) (by omega) (by omega)
  have s2 := sand_20 (nA zs 0 4) (by omega) (by omega)
  have hq : nmS zs = ⟨nA zs 0 4 / 1048576 % 256, nA zs 0 4 % 1048576, nA zs 6 1, nA zs 7 1, true, nA zs 8 8, nA zs 16 8, true, nA zs 24 8, nA zs 32 8, ⟨#[]⟩⟩ := rfl
  rw [hq]
  obtain ⟨F, hF⟩ : ∃ X, nA zs 0 4 = X := ⟨_, rfl⟩
  obtain ⟨S, hS⟩ : ∃ X, nA zs 4 2 = X := ⟨_, rfl⟩
  obtain ⟨N, hN⟩ : ∃ X, nA zs 6 1 = X := ⟨_, rfl⟩
  obtain ⟨H, hH⟩ : ∃ X, nA zs 7 1 = X := ⟨_, rfl⟩
  obtain ⟨A1, hA1⟩ : ∃ X, nA zs 8 8 = X := ⟨_, rfl⟩
  obtain ⟨A2, hA2⟩ : ∃ X, nA zs 16 8 = X := ⟨_, rfl⟩
  obtain ⟨A3, hA3⟩ : ∃ X, nA zs 24 8 = X := ⟨_, rfl⟩
  obtain ⟨A4, hA4⟩ : ∃ X, nA zs 32 8 = X := ⟨_, rfl⟩
  rw [hF] at b0 s1 s2 HN1 ⊢
  rw [hS] at b4 HN2 ⊢
  rw [hN] at b6 HN3 ⊢
  rw [hH] at b7 HN4 ⊢
  rw [hA1] at HA1 ⊢
  rw [hA3] at HA2 ⊢
  rw [show nA zs (8 + 8) 8 = A2 from hA2] at HA1
  rw [show nA zs (24 + 8) 8 = A4 from hA4] at HA2
  rw [hA2, hA4]
  obtain ⟨C, hC⟩ : ∃ X, F / 1048576 % 256 = X := ⟨_, rfl⟩
  obtain ⟨W2, hW2⟩ : ∃ X, F % 1048576 = X := ⟨_, rfl⟩
  rw [hC] at s1 ⊢
  rw [hW2] at s2 ⊢
  have hsf : ∀ (a : Addr) (m : Mode) (fn : Fn) (x y : Array Value) (W : World), (store a (.func fn x y) m).run Try.prog W = stored Try.prog W a (.func fn x y) m := fun a m fn x y W => run_store _ W a _ m rfl
  have hlt := h.lt
  have N0 : NX w0 w.heap.size r B #[.int .i64 0, .int .i64 0, .int .i64 0, .int .i64 0, .bool false, .int .u64 0, .int .u64 0, .bool false, .int .u64 0, .int .u64 0, .string ⟨#[]⟩] (zs.drop 0) ((w.alloc (.cells #[.pointer (some ⟨r, 0, none⟩)] 74)).alloc (.cells #[.int .i64 0, .int .i64 0, .int .i64 0, .int .i64 0, .bool false, .int .u64 0, .int .u64 0, .bool false, .int .u64 0, .int .u64 0, .string ⟨#[]⟩] 35)) := by
    refine ⟨(Blk.new w 74 #[.pointer (some ⟨r, 0, none⟩)]).alloc _, ?_, (h.keep (fun b hb hB2 => ((Below.heap_alloc _ _ b (by simp only [World.size_alloc]; omega)).trans (Below.heap_alloc w _ b (by omega))))), (hbel.alloc hbel.size _).alloc (by have := hbel.size; simp only [World.size_alloc]; omega) _, by omega, hbel.size⟩
    have := Blk.new (w.alloc (.cells #[.pointer (some ⟨r, 0, none⟩)] 74)) 35 #[.int .i64 0, .int .i64 0, .int .i64 0, .int .i64 0, .bool false, .int .u64 0, .int .u64 0, .bool false, .int .u64 0, .int .u64 0, .string ⟨#[]⟩]
    rwa [World.size_alloc] at this
  have HS := Lib.hid N0
  have c0 := (N0.1.cell 0).trans (show _ = some (Value.pointer (some ⟨r, 0, none⟩)) by rfl)
  clear h hB hl hby N0 hF hS hN hH hA1 hA2 hA3 hA4 hC hW2 hq
  go_enter Try.func46, Try.ntmps46
  go_wp2_with fail
  refine Calls.mono (HN1.out _ _ HS.out) ?_
  rintro e x0 ⟨rfl, hs⟩
  clear c0
  have HM0 := Lib.hid hs
  clear hs
  have c0 := (HM0.out.1.cell 0).trans (show _ = some (Value.pointer (some ⟨r, 0, none⟩)) by rfl)
  have f0 : x0.cell? ⟨w.heap.size + 1, 0, none⟩ = some (.int .i64 0) := by rw [HM0.out.2.1.cell]; rfl
  have z0 := HM0.out.2.1.frozen 0
  have f1 : x0.cell? ⟨w.heap.size + 1, 1, none⟩ = some (.int .i64 0) := by rw [HM0.out.2.1.cell]; rfl
  have z1 := HM0.out.2.1.frozen 1
  have f2 : x0.cell? ⟨w.heap.size + 1, 2, none⟩ = some (.int .i64 0) := by rw [HM0.out.2.1.cell]; rfl
  have z2 := HM0.out.2.1.frozen 2
  have f3 : x0.cell? ⟨w.heap.size + 1, 3, none⟩ = some (.int .i64 0) := by rw [HM0.out.2.1.cell]; rfl
  have z3 := HM0.out.2.1.frozen 3
  have f4 : x0.cell? ⟨w.heap.size + 1, 4, none⟩ = some (.bool false) := by rw [HM0.out.2.1.cell]; rfl
  have z4 := HM0.out.2.1.frozen 4
  have f5 : x0.cell? ⟨w.heap.size + 1, 5, none⟩ = some (.int .u64 0) := by rw [HM0.out.2.1.cell]; rfl
  have z5 := HM0.out.2.1.frozen 5
  have f6 : x0.cell? ⟨w.heap.size + 1, 6, none⟩ = some (.int .u64 0) := by rw [HM0.out.2.1.cell]; rfl
  have z6 := HM0.out.2.1.frozen 6
  have f7 : x0.cell? ⟨w.heap.size + 1, 7, none⟩ = some (.bool false) := by rw [HM0.out.2.1.cell]; rfl
  have z7 := HM0.out.2.1.frozen 7
  have f8 : x0.cell? ⟨w.heap.size + 1, 8, none⟩ = some (.int .u64 0) := by rw [HM0.out.2.1.cell]; rfl
  have z8 := HM0.out.2.1.frozen 8
  have f9 : x0.cell? ⟨w.heap.size + 1, 9, none⟩ = some (.int .u64 0) := by rw [HM0.out.2.1.cell]; rfl
  have z9 := HM0.out.2.1.frozen 9
  have f10 : x0.cell? ⟨w.heap.size + 1, 10, none⟩ = some (.string ⟨#[]⟩) := by rw [HM0.out.2.1.cell]; rfl
  have z10 := HM0.out.2.1.frozen 10
  have HS1 : Hid (NX w0 w.heap.size r B #[.int .i64 C, .int .i64 0, .int .i64 0, .int .i64 0, .bool false, .int .u64 0, .int .u64 0, .bool false, .int .u64 0, .int .u64 0, .string ⟨#[]⟩] _ (x0.setCell ⟨w.heap.size + 1, 0, none⟩ (.int .i64 C))) := Lib.hid (by simpa using HM0.out.put 0 (.int .i64 C))
  have HS2 : Hid (NX w0 w.heap.size r B #[.int .i64 C, .int .i64 W2, .int .i64 0, .int .i64 0, .bool false, .int .u64 0, .int .u64 0, .bool false, .int .u64 0, .int .u64 0, .string ⟨#[]⟩] _ ((x0.setCell ⟨w.heap.size + 1, 0, none⟩ (.int .i64 C)).setCell ⟨w.heap.size + 1, 1, none⟩ (.int .i64 W2))) := Lib.hid (by simpa using HS1.out.put 1 (.int .i64 W2))
  go_wp2_with fail
  refine Calls.mono (HN2.out _ _ HS2.out) ?_
  rintro e x1 ⟨rfl, hs⟩
  clear c0 f0 z0 f1 z1 f2 z2 f3 z3 f4 z4 f5 z5 f6 z6 f7 z7 f8 z8 f9 z9 f10 z10
  have HM1 := Lib.hid hs
  clear hs
  have c0 := (HM1.out.1.cell 0).trans (show _ = some (Value.pointer (some ⟨r, 0, none⟩)) by rfl)
  have f0 : x1.cell? ⟨w.heap.size + 1, 0, none⟩ = some (.int .i64 C) := by rw [HM1.out.2.1.cell]; rfl
  have z0 := HM1.out.2.1.frozen 0
  have f1 : x1.cell? ⟨w.heap.size + 1, 1, none⟩ = some (.int .i64 W2) := by rw [HM1.out.2.1.cell]; rfl
  have z1 := HM1.out.2.1.frozen 1
  have f2 : x1.cell? ⟨w.heap.size + 1, 2, none⟩ = some (.int .i64 0) := by rw [HM1.out.2.1.cell]; rfl
  have z2 := HM1.out.2.1.frozen 2
  have f3 : x1.cell? ⟨w.heap.size + 1, 3, none⟩ = some (.int .i64 0) := by rw [HM1.out.2.1.cell]; rfl
  have z3 := HM1.out.2.1.frozen 3
  have f4 : x1.cell? ⟨w.heap.size + 1, 4, none⟩ = some (.bool false) := by rw [HM1.out.2.1.cell]; rfl
  have z4 := HM1.out.2.1.frozen 4
  have f5 : x1.cell? ⟨w.heap.size + 1, 5, none⟩ = some (.int .u64 0) := by rw [HM1.out.2.1.cell]; rfl
  have z5 := HM1.out.2.1.frozen 5
  have f6 : x1.cell? ⟨w.heap.size + 1, 6, none⟩ = some (.int .u64 0) := by rw [HM1.out.2.1.cell]; rfl
  have z6 := HM1.out.2.1.frozen 6
  have f7 : x1.cell? ⟨w.heap.size + 1, 7, none⟩ = some (.bool false) := by rw [HM1.out.2.1.cell]; rfl
  have z7 := HM1.out.2.1.frozen 7
  have f8 : x1.cell? ⟨w.heap.size + 1, 8, none⟩ = some (.int .u64 0) := by rw [HM1.out.2.1.cell]; rfl
  have z8 := HM1.out.2.1.frozen 8
  have f9 : x1.cell? ⟨w.heap.size + 1, 9, none⟩ = some (.int .u64 0) := by rw [HM1.out.2.1.cell]; rfl
  have z9 := HM1.out.2.1.frozen 9
  have f10 : x1.cell? ⟨w.heap.size + 1, 10, none⟩ = some (.string ⟨#[]⟩) := by rw [HM1.out.2.1.cell]; rfl
  have z10 := HM1.out.2.1.frozen 10
  go_wp2_with fail
  refine Calls.mono (HN3.out _ _ HM1.out) ?_
  rintro e x2 ⟨rfl, hs⟩
  clear c0 f0 z0 f1 z1 f2 z2 f3 z3 f4 z4 f5 z5 f6 z6 f7 z7 f8 z8 f9 z9 f10 z10
  have HM2 := Lib.hid hs
  clear hs
  have c0 := (HM2.out.1.cell 0).trans (show _ = some (Value.pointer (some ⟨r, 0, none⟩)) by rfl)
  have f0 : x2.cell? ⟨w.heap.size + 1, 0, none⟩ = some (.int .i64 C) := by rw [HM2.out.2.1.cell]; rfl
  have z0 := HM2.out.2.1.frozen 0
  have f1 : x2.cell? ⟨w.heap.size + 1, 1, none⟩ = some (.int .i64 W2) := by rw [HM2.out.2.1.cell]; rfl
  have z1 := HM2.out.2.1.frozen 1
  have f2 : x2.cell? ⟨w.heap.size + 1, 2, none⟩ = some (.int .i64 0) := by rw [HM2.out.2.1.cell]; rfl
  have z2 := HM2.out.2.1.frozen 2
  have f3 : x2.cell? ⟨w.heap.size + 1, 3, none⟩ = some (.int .i64 0) := by rw [HM2.out.2.1.cell]; rfl
  have z3 := HM2.out.2.1.frozen 3
  have f4 : x2.cell? ⟨w.heap.size + 1, 4, none⟩ = some (.bool false) := by rw [HM2.out.2.1.cell]; rfl
  have z4 := HM2.out.2.1.frozen 4
  have f5 : x2.cell? ⟨w.heap.size + 1, 5, none⟩ = some (.int .u64 0) := by rw [HM2.out.2.1.cell]; rfl
  have z5 := HM2.out.2.1.frozen 5
  have f6 : x2.cell? ⟨w.heap.size + 1, 6, none⟩ = some (.int .u64 0) := by rw [HM2.out.2.1.cell]; rfl
  have z6 := HM2.out.2.1.frozen 6
  have f7 : x2.cell? ⟨w.heap.size + 1, 7, none⟩ = some (.bool false) := by rw [HM2.out.2.1.cell]; rfl
  have z7 := HM2.out.2.1.frozen 7
  have f8 : x2.cell? ⟨w.heap.size + 1, 8, none⟩ = some (.int .u64 0) := by rw [HM2.out.2.1.cell]; rfl
  have z8 := HM2.out.2.1.frozen 8
  have f9 : x2.cell? ⟨w.heap.size + 1, 9, none⟩ = some (.int .u64 0) := by rw [HM2.out.2.1.cell]; rfl
  have z9 := HM2.out.2.1.frozen 9
  have f10 : x2.cell? ⟨w.heap.size + 1, 10, none⟩ = some (.string ⟨#[]⟩) := by rw [HM2.out.2.1.cell]; rfl
  have z10 := HM2.out.2.1.frozen 10
  have HS3 : Hid (NX w0 w.heap.size r B #[.int .i64 C, .int .i64 W2, .int .i64 N, .int .i64 0, .bool false, .int .u64 0, .int .u64 0, .bool false, .int .u64 0, .int .u64 0, .string ⟨#[]⟩] _ (x2.setCell ⟨w.heap.size + 1, 2, none⟩ (.int .i64 N))) := Lib.hid (by simpa using HM2.out.put 2 (.int .i64 N))
  go_wp2_with fail
  refine Calls.mono (HN4.out _ _ HS3.out) ?_
  rintro e x3 ⟨rfl, hs⟩
  clear c0 f0 z0 f1 z1 f2 z2 f3 z3 f4 z4 f5 z5 f6 z6 f7 z7 f8 z8 f9 z9 f10 z10
  have HM3 := Lib.hid hs
  clear hs
  have c0 := (HM3.out.1.cell 0).trans (show _ = some (Value.pointer (some ⟨r, 0, none⟩)) by rfl)
  have f0 : x3.cell? ⟨w.heap.size + 1, 0, none⟩ = some (.int .i64 C) := by rw [HM3.out.2.1.cell]; rfl
  have z0 := HM3.out.2.1.frozen 0
  have f1 : x3.cell? ⟨w.heap.size + 1, 1, none⟩ = some (.int .i64 W2) := by rw [HM3.out.2.1.cell]; rfl
  have z1 := HM3.out.2.1.frozen 1
  have f2 : x3.cell? ⟨w.heap.size + 1, 2, none⟩ = some (.int .i64 N) := by rw [HM3.out.2.1.cell]; rfl
  have z2 := HM3.out.2.1.frozen 2
  have f3 : x3.cell? ⟨w.heap.size + 1, 3, none⟩ = some (.int .i64 0) := by rw [HM3.out.2.1.cell]; rfl
  have z3 := HM3.out.2.1.frozen 3
  have f4 : x3.cell? ⟨w.heap.size + 1, 4, none⟩ = some (.bool false) := by rw [HM3.out.2.1.cell]; rfl
  have z4 := HM3.out.2.1.frozen 4
  have f5 : x3.cell? ⟨w.heap.size + 1, 5, none⟩ = some (.int .u64 0) := by rw [HM3.out.2.1.cell]; rfl
  have z5 := HM3.out.2.1.frozen 5
  have f6 : x3.cell? ⟨w.heap.size + 1, 6, none⟩ = some (.int .u64 0) := by rw [HM3.out.2.1.cell]; rfl
  have z6 := HM3.out.2.1.frozen 6
  have f7 : x3.cell? ⟨w.heap.size + 1, 7, none⟩ = some (.bool false) := by rw [HM3.out.2.1.cell]; rfl
  have z7 := HM3.out.2.1.frozen 7
  have f8 : x3.cell? ⟨w.heap.size + 1, 8, none⟩ = some (.int .u64 0) := by rw [HM3.out.2.1.cell]; rfl
  have z8 := HM3.out.2.1.frozen 8
  have f9 : x3.cell? ⟨w.heap.size + 1, 9, none⟩ = some (.int .u64 0) := by rw [HM3.out.2.1.cell]; rfl
  have z9 := HM3.out.2.1.frozen 9
  have f10 : x3.cell? ⟨w.heap.size + 1, 10, none⟩ = some (.string ⟨#[]⟩) := by rw [HM3.out.2.1.cell]; rfl
  have z10 := HM3.out.2.1.frozen 10
  have HS4 : Hid (NX w0 w.heap.size r B #[.int .i64 C, .int .i64 W2, .int .i64 N, .int .i64 H, .bool false, .int .u64 0, .int .u64 0, .bool false, .int .u64 0, .int .u64 0, .string ⟨#[]⟩] _ (x3.setCell ⟨w.heap.size + 1, 3, none⟩ (.int .i64 H))) := Lib.hid (by simpa using HM3.out.put 3 (.int .i64 H))
  go_wp2_with fail
  refine Calls.mono (HA1.out _ _ HS4.out) ?_
  rintro e x4 ⟨rfl, hs⟩
  clear c0 f0 z0 f1 z1 f2 z2 f3 z3 f4 z4 f5 z5 f6 z6 f7 z7 f8 z8 f9 z9 f10 z10
  have HM4 := Lib.hid hs
  clear hs
  have c0 := (HM4.out.1.cell 0).trans (show _ = some (Value.pointer (some ⟨r, 0, none⟩)) by rfl)
  have f0 : x4.cell? ⟨w.heap.size + 1, 0, none⟩ = some (.int .i64 C) := by rw [HM4.out.2.1.cell]; rfl
  have z0 := HM4.out.2.1.frozen 0
  have f1 : x4.cell? ⟨w.heap.size + 1, 1, none⟩ = some (.int .i64 W2) := by rw [HM4.out.2.1.cell]; rfl
  have z1 := HM4.out.2.1.frozen 1
  have f2 : x4.cell? ⟨w.heap.size + 1, 2, none⟩ = some (.int .i64 N) := by rw [HM4.out.2.1.cell]; rfl
  have z2 := HM4.out.2.1.frozen 2
  have f3 : x4.cell? ⟨w.heap.size + 1, 3, none⟩ = some (.int .i64 H) := by rw [HM4.out.2.1.cell]; rfl
  have z3 := HM4.out.2.1.frozen 3
  have f4 : x4.cell? ⟨w.heap.size + 1, 4, none⟩ = some (.bool false) := by rw [HM4.out.2.1.cell]; rfl
  have z4 := HM4.out.2.1.frozen 4
  have f5 : x4.cell? ⟨w.heap.size + 1, 5, none⟩ = some (.int .u64 0) := by rw [HM4.out.2.1.cell]; rfl
  have z5 := HM4.out.2.1.frozen 5
  have f6 : x4.cell? ⟨w.heap.size + 1, 6, none⟩ = some (.int .u64 0) := by rw [HM4.out.2.1.cell]; rfl
  have z6 := HM4.out.2.1.frozen 6
  have f7 : x4.cell? ⟨w.heap.size + 1, 7, none⟩ = some (.bool false) := by rw [HM4.out.2.1.cell]; rfl
  have z7 := HM4.out.2.1.frozen 7
  have f8 : x4.cell? ⟨w.heap.size + 1, 8, none⟩ = some (.int .u64 0) := by rw [HM4.out.2.1.cell]; rfl
  have z8 := HM4.out.2.1.frozen 8
  have f9 : x4.cell? ⟨w.heap.size + 1, 9, none⟩ = some (.int .u64 0) := by rw [HM4.out.2.1.cell]; rfl
  have z9 := HM4.out.2.1.frozen 9
  have f10 : x4.cell? ⟨w.heap.size + 1, 10, none⟩ = some (.string ⟨#[]⟩) := by rw [HM4.out.2.1.cell]; rfl
  have z10 := HM4.out.2.1.frozen 10
  have HS5 : Hid (NX w0 w.heap.size r B #[.int .i64 C, .int .i64 W2, .int .i64 N, .int .i64 H, .bool true, .int .u64 0, .int .u64 0, .bool false, .int .u64 0, .int .u64 0, .string ⟨#[]⟩] _ (x4.setCell ⟨w.heap.size + 1, 4, none⟩ (.bool true))) := Lib.hid (by simpa using HM4.out.put 4 (.bool true))
  have HS6 : Hid (NX w0 w.heap.size r B #[.int .i64 C, .int .i64 W2, .int .i64 N, .int .i64 H, .bool true, .int .u64 A1, .int .u64 0, .bool false, .int .u64 0, .int .u64 0, .string ⟨#[]⟩] _ ((x4.setCell ⟨w.heap.size + 1, 4, none⟩ (.bool true)).setCell ⟨w.heap.size + 1, 5, none⟩ (.int .u64 A1))) := Lib.hid (by simpa using HS5.out.put 5 (.int .u64 A1))
  have HS7 : Hid (NX w0 w.heap.size r B #[.int .i64 C, .int .i64 W2, .int .i64 N, .int .i64 H, .bool true, .int .u64 A1, .int .u64 A2, .bool false, .int .u64 0, .int .u64 0, .string ⟨#[]⟩] _ (((x4.setCell ⟨w.heap.size + 1, 4, none⟩ (.bool true)).setCell ⟨w.heap.size + 1, 5, none⟩ (.int .u64 A1)).setCell ⟨w.heap.size + 1, 6, none⟩ (.int .u64 A2))) := Lib.hid (by simpa using HS6.out.put 6 (.int .u64 A2))
  go_wp2_with fail
  refine Calls.mono (HA2.out _ _ HS7.out) ?_
  rintro e x5 ⟨rfl, hs⟩
  clear c0 f0 z0 f1 z1 f2 z2 f3 z3 f4 z4 f5 z5 f6 z6 f7 z7 f8 z8 f9 z9 f10 z10
  have HM5 := Lib.hid hs
  clear hs
  have c0 := (HM5.out.1.cell 0).trans (show _ = some (Value.pointer (some ⟨r, 0, none⟩)) by rfl)
  have f0 : x5.cell? ⟨w.heap.size + 1, 0, none⟩ = some (.int .i64 C) := by rw [HM5.out.2.1.cell]; rfl
  have z0 := HM5.out.2.1.frozen 0
  have f1 : x5.cell? ⟨w.heap.size + 1, 1, none⟩ = some (.int .i64 W2) := by rw [HM5.out.2.1.cell]; rfl
  have z1 := HM5.out.2.1.frozen 1
  have f2 : x5.cell? ⟨w.heap.size + 1, 2, none⟩ = some (.int .i64 N) := by rw [HM5.out.2.1.cell]; rfl
  have z2 := HM5.out.2.1.frozen 2
  have f3 : x5.cell? ⟨w.heap.size + 1, 3, none⟩ = some (.int .i64 H) := by rw [HM5.out.2.1.cell]; rfl
  have z3 := HM5.out.2.1.frozen 3
  have f4 : x5.cell? ⟨w.heap.size + 1, 4, none⟩ = some (.bool true) := by rw [HM5.out.2.1.cell]; rfl
  have z4 := HM5.out.2.1.frozen 4
  have f5 : x5.cell? ⟨w.heap.size + 1, 5, none⟩ = some (.int .u64 A1) := by rw [HM5.out.2.1.cell]; rfl
  have z5 := HM5.out.2.1.frozen 5
  have f6 : x5.cell? ⟨w.heap.size + 1, 6, none⟩ = some (.int .u64 A2) := by rw [HM5.out.2.1.cell]; rfl
  have z6 := HM5.out.2.1.frozen 6
  have f7 : x5.cell? ⟨w.heap.size + 1, 7, none⟩ = some (.bool false) := by rw [HM5.out.2.1.cell]; rfl
  have z7 := HM5.out.2.1.frozen 7
  have f8 : x5.cell? ⟨w.heap.size + 1, 8, none⟩ = some (.int .u64 0) := by rw [HM5.out.2.1.cell]; rfl
  have z8 := HM5.out.2.1.frozen 8
  have f9 : x5.cell? ⟨w.heap.size + 1, 9, none⟩ = some (.int .u64 0) := by rw [HM5.out.2.1.cell]; rfl
  have z9 := HM5.out.2.1.frozen 9
  have f10 : x5.cell? ⟨w.heap.size + 1, 10, none⟩ = some (.string ⟨#[]⟩) := by rw [HM5.out.2.1.cell]; rfl
  have z10 := HM5.out.2.1.frozen 10
  have HS8 : Hid (NX w0 w.heap.size r B #[.int .i64 C, .int .i64 W2, .int .i64 N, .int .i64 H, .bool true, .int .u64 A1, .int .u64 A2, .bool true, .int .u64 0, .int .u64 0, .string ⟨#[]⟩] _ (x5.setCell ⟨w.heap.size + 1, 7, none⟩ (.bool true))) := Lib.hid (by simpa using HM5.out.put 7 (.bool true))
  have HS9 : Hid (NX w0 w.heap.size r B #[.int .i64 C, .int .i64 W2, .int .i64 N, .int .i64 H, .bool true, .int .u64 A1, .int .u64 A2, .bool true, .int .u64 A3, .int .u64 0, .string ⟨#[]⟩] _ ((x5.setCell ⟨w.heap.size + 1, 7, none⟩ (.bool true)).setCell ⟨w.heap.size + 1, 8, none⟩ (.int .u64 A3))) := Lib.hid (by simpa using HS8.out.put 8 (.int .u64 A3))
  have HS10 : Hid (NX w0 w.heap.size r B #[.int .i64 C, .int .i64 W2, .int .i64 N, .int .i64 H, .bool true, .int .u64 A1, .int .u64 A2, .bool true, .int .u64 A3, .int .u64 A4, .string ⟨#[]⟩] _ (((x5.setCell ⟨w.heap.size + 1, 7, none⟩ (.bool true)).setCell ⟨w.heap.size + 1, 8, none⟩ (.int .u64 A3)).setCell ⟨w.heap.size + 1, 9, none⟩ (.int .u64 A4))) := Lib.hid (by simpa using HS9.out.put 9 (.int .u64 A4))
  go_wp2
  have g0 : (((x5.setCell ⟨w.heap.size + 1, 7, none⟩ (.bool true)).setCell ⟨w.heap.size + 1, 8, none⟩ (.int .u64 A3)).setCell ⟨w.heap.size + 1, 9, none⟩ (.int .u64 A4)).cell? ⟨w.heap.size + 1, 0, none⟩ = some (.int .i64 C) := by rw [HS10.out.2.1.cell]; rfl
  have g1 : (((x5.setCell ⟨w.heap.size + 1, 7, none⟩ (.bool true)).setCell ⟨w.heap.size + 1, 8, none⟩ (.int .u64 A3)).setCell ⟨w.heap.size + 1, 9, none⟩ (.int .u64 A4)).cell? ⟨w.heap.size + 1, 1, none⟩ = some (.int .i64 W2) := by rw [HS10.out.2.1.cell]; rfl
  have g2 : (((x5.setCell ⟨w.heap.size + 1, 7, none⟩ (.bool true)).setCell ⟨w.heap.size + 1, 8, none⟩ (.int .u64 A3)).setCell ⟨w.heap.size + 1, 9, none⟩ (.int .u64 A4)).cell? ⟨w.heap.size + 1, 2, none⟩ = some (.int .i64 N) := by rw [HS10.out.2.1.cell]; rfl
  have g3 : (((x5.setCell ⟨w.heap.size + 1, 7, none⟩ (.bool true)).setCell ⟨w.heap.size + 1, 8, none⟩ (.int .u64 A3)).setCell ⟨w.heap.size + 1, 9, none⟩ (.int .u64 A4)).cell? ⟨w.heap.size + 1, 3, none⟩ = some (.int .i64 H) := by rw [HS10.out.2.1.cell]; rfl
  have g4 : (((x5.setCell ⟨w.heap.size + 1, 7, none⟩ (.bool true)).setCell ⟨w.heap.size + 1, 8, none⟩ (.int .u64 A3)).setCell ⟨w.heap.size + 1, 9, none⟩ (.int .u64 A4)).cell? ⟨w.heap.size + 1, 4, none⟩ = some (.bool true) := by rw [HS10.out.2.1.cell]; rfl
  have g5 : (((x5.setCell ⟨w.heap.size + 1, 7, none⟩ (.bool true)).setCell ⟨w.heap.size + 1, 8, none⟩ (.int .u64 A3)).setCell ⟨w.heap.size + 1, 9, none⟩ (.int .u64 A4)).cell? ⟨w.heap.size + 1, 5, none⟩ = some (.int .u64 A1) := by rw [HS10.out.2.1.cell]; rfl
  have g6 : (((x5.setCell ⟨w.heap.size + 1, 7, none⟩ (.bool true)).setCell ⟨w.heap.size + 1, 8, none⟩ (.int .u64 A3)).setCell ⟨w.heap.size + 1, 9, none⟩ (.int .u64 A4)).cell? ⟨w.heap.size + 1, 6, none⟩ = some (.int .u64 A2) := by rw [HS10.out.2.1.cell]; rfl
  have g7 : (((x5.setCell ⟨w.heap.size + 1, 7, none⟩ (.bool true)).setCell ⟨w.heap.size + 1, 8, none⟩ (.int .u64 A3)).setCell ⟨w.heap.size + 1, 9, none⟩ (.int .u64 A4)).cell? ⟨w.heap.size + 1, 7, none⟩ = some (.bool true) := by rw [HS10.out.2.1.cell]; rfl
  have g8 : (((x5.setCell ⟨w.heap.size + 1, 7, none⟩ (.bool true)).setCell ⟨w.heap.size + 1, 8, none⟩ (.int .u64 A3)).setCell ⟨w.heap.size + 1, 9, none⟩ (.int .u64 A4)).cell? ⟨w.heap.size + 1, 8, none⟩ = some (.int .u64 A3) := by rw [HS10.out.2.1.cell]; rfl
  have g9 : (((x5.setCell ⟨w.heap.size + 1, 7, none⟩ (.bool true)).setCell ⟨w.heap.size + 1, 8, none⟩ (.int .u64 A3)).setCell ⟨w.heap.size + 1, 9, none⟩ (.int .u64 A4)).cell? ⟨w.heap.size + 1, 9, none⟩ = some (.int .u64 A4) := by rw [HS10.out.2.1.cell]; rfl
  have g10 : (((x5.setCell ⟨w.heap.size + 1, 7, none⟩ (.bool true)).setCell ⟨w.heap.size + 1, 8, none⟩ (.int .u64 A3)).setCell ⟨w.heap.size + 1, 9, none⟩ (.int .u64 A4)).cell? ⟨w.heap.size + 1, 10, none⟩ = some (.string ⟨#[]⟩) := by rw [HS10.out.2.1.cell]; rfl
  refine bodyPost_ret (v := .tuple #[.agg #[.int .i64 C, .int .i64 W2, .int .i64 N, .int .i64 H, .bool true, .int .u64 A1, .int .u64 A2, .bool true, .int .u64 A3, .int .u64 A4, .string ⟨#[]⟩], .int .i64 S, .int .i64 (F / 268435456)]) (by simp [results, Try.results46, go_sem, g0, g1, g2, g3, g4, g5, g6, g7, g8, g9, g10]) rfl ⟨rfl, ?_⟩
  have hbb := HS10.out.2.2.2.2.2
  iterate 11 (refine Below.setCell ?_ (show w0.heap.size ≤ w.heap.size + 1 by omega) _)
  exact HS10.out.2.2.2.1
end Go.Proofs.Ytbhddodghbhjiaa
