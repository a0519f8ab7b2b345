/-
  Several texts in one: IfF, IgS, IfMd, RvT.
-/
import Derived.Test.YtgfkmgbcajdcdaaGreatDoorKas
import Derived.Test.YtgfkmgbcajdcdaaGreatDoorKay
import Derived.Deep.SlicePairs
import Derived.Deep.Strs
import Derived.Test.YtgfkmgbcajdcdaaGreatDoorKar
import Derived.Test.YtgfkmgbcajdcdaaGreatDoorKav
namespace Go.Proofs.YtgfkmgbcajdcdaaGreatDoor.Ifs
open Go.RowKit Go.ChangeShapes Go.WideShapes Go.ChangeAt
set_option linter.unusedVariables false

abbrev Stp := StpI
instance : Inhabited Stp := ⟨⟨0, ⟨#[]⟩, 0, 0, 0, false, (false, 0, 0)⟩⟩
/-- A slice of steps that came in. -/
def IsStp (w : World) (a : Option Addr) (l : Nat) (z : List Stp) : Prop :=
  z.length = l ∧ (∀ x ∈ z, x.ok) ∧ (0 < l → ∃ b o, a = some ⟨b, o, none⟩ ∧ b < w.heap.size ∧ ∀ j x, z[j]? = some x → ∀ k v, (stC x)[k]? = some v → w.cell? ⟨b, o + j * 9 + k, none⟩ = some v)
theorem IsStp.below {w w' : World} {a : Option Addr} {l : Nat} {z : List Stp} (h : IsStp w a l z) (hb : Below w.heap.size w w') : IsStp w' a l z := by
  refine ⟨h.1, h.2.1, fun h0 => ?_⟩
  obtain ⟨b, o, e, hlt, hc⟩ := h.2.2 h0
  exact ⟨b, o, e, by have := hb.size; omega, fun j x hx k v hv => (hb.cell (p := ⟨b, o + j * 9 + k, none⟩) hlt).trans (hc j x hx k v hv)⟩
theorem u64_nat {x : Int} (h : (Lit.int .u64 x).wf = true) : ∃ n : Nat, x = (n : Int) ∧ N64 n := by
  have h2 : 0 ≤ x ∧ x ≤ 18446744073709551615 := by
    simp [Lit.wf, IntKind.min, IntKind.max, IntKind.bits, IntKind.signed] at h
    exact h
  exact ⟨x.toNat, by omega, by unfold N64; omega⟩
theorem u64_bdI {x : Int} (h : (Lit.int .u64 x).wf = true) : 0 ≤ x ∧ x ≤ 18446744073709551615 := by
  simp [Lit.wf, IntKind.min, IntKind.max, IntKind.bits, IntKind.signed] at h
  exact h
set_option maxRecDepth 100000 in
set_option maxHeartbeats 4000000 in
theorem open_step {H : Type} {enc : TypeId × Value → H} {W : World} {base n : Nat} {spare : Nat → Bool} {held : Bool} {cs : List Value} {y : DataW H × List MemPlace} (hl : cs.length = 9) (hf : DataW.trod enc Tryz.prog W base spare held n 111 cs = some y) :
    ∃ q : StpI, cs = stC q ∧ q.ok := by
  match cs, hl with
  | [c0, c1, c2, c3, c4, c5, c6, c7, c8], _ =>
    have e0 : Tryz.prog.cellsOf 28 = 3 := by kernel_rfl
    have e1 : Tryz.prog.cellsOf 3 = 1 := by kernel_rfl
    have e2 : Tryz.prog.cellsOf 4 = 1 := by kernel_rfl
    have e3 : Tryz.prog.cellsOf 26 = 1 := by kernel_rfl
    have e4 : Tryz.prog.cellsOf 9 = 1 := by kernel_rfl
    have e5 : Tryz.prog.cellsOf 72 = 1 := by kernel_rfl
    cases n with
    | zero => simp [DataW.trod] at hf
    | succ n =>
      simp only [DataW.trod, Tryz.underlying111] at hf
      split at hf
      · obtain ⟨xs, hm, hx⟩ := Option.map_eq_some_iff.1 hf
        simp only [List.mapM_cons, List.mapM_nil, bind, Option.bind_eq_some_iff, pure, Option.some.injEq] at hm
        obtain ⟨y0, g0, r0, ⟨y1, g1, r1, ⟨y2, g2, r2, ⟨y3, g3, r3, ⟨y4, g4, r4, ⟨y5, g5, r5, ⟨y6, g6, r6, rfl, rfl⟩, rfl⟩, rfl⟩, rfl⟩, rfl⟩, rfl⟩, rfl⟩ := hm
        simp only [e0, e1, e2, e4, e5, List.drop_zero, List.take_succ_cons, List.take_zero, List.drop_succ_cons] at g0 g1 g2 g3 g4 g5 g6
        obtain ⟨x0, t0, q0, w0⟩ := DataW.trod_int Tryz.underlying3 g0
        obtain ⟨x1, t1, q1, w1⟩ := DataW.trod_string Tryz.underlying9 g1
        obtain ⟨x2, t2, q2, w2⟩ := DataW.trod_int Tryz.underlying72 g2
        obtain ⟨x3, t3, q3, w3⟩ := DataW.trod_int Tryz.underlying3 g3
        obtain ⟨x4, t4, q4, w4⟩ := DataW.trod_int Tryz.underlying3 g4
        obtain ⟨x5, t5, q5⟩ := DataW.trod_bool Tryz.underlying4 g5
        obtain ⟨z0, z1, z2, m, hz, _, k0, k1, k2⟩ := Go.Deep.trod_struct3 Tryz.underlying28 g6
        simp only [e2, e3, List.drop_zero, List.take_succ_cons, List.take_zero, List.drop_succ_cons] at k0 k1 k2
        obtain ⟨x6, t6, q6⟩ := DataW.trod_bool Tryz.underlying4 k0
        obtain ⟨x7, t7, q7, w7⟩ := DataW.trod_int Tryz.underlying26 k1
        obtain ⟨x8, t8, q8, w8⟩ := DataW.trod_int Tryz.underlying26 k2
        injection t0 with t0 _
        injection t1 with t1 _
        injection t2 with t2 _
        injection t3 with t3 _
        injection t4 with t4 _
        injection t5 with t5 _
        injection t6 with t6 _
        injection t7 with t7 _
        injection t8 with t8 _
        subst t0 t1 t2 t3 t4 t5 t6 t7 t8
        obtain ⟨n7, rfl, v7⟩ := u64_nat w7
        obtain ⟨n8, rfl, v8⟩ := u64_nat w8
        exact ⟨⟨x0, x1, x2, x3, x4, x5, x6, n7, n8⟩, rfl, w0, w1, u64_bdI w2, w3, w4, v7, v8⟩
      · cases hf
set_option maxRecDepth 100000 in
theorem isStp_of {H : Type} {enc : TypeId × Value → H} {W : World} {a : Option Addr} {l c : Nat} {d : DataW H} {p : List MemPlace} (h : DataW.Trod enc Tryz.prog W 0 (fun _ => true) true 22 (.slice a l c) d p) : ∃ z, IsStp W a l z := by
  obtain ⟨fuel, hf⟩ := h
  have ce : Tryz.prog.cellsOf 111 = 9 := by kernel_rfl
  rcases Go.Deep.open_slice Tryz.underlying22 hf with ⟨hcs, _⟩ | ⟨ad, len, cap, m, n, D, Pl, hcs, _, hl, hm, hmm, _, hx⟩
  · simp [Value.cells] at hcs
    obtain ⟨rfl, rfl, rfl⟩ := hcs
    exact ⟨[], rfl, fun x hx => (by cases hx), fun h0 => absurd h0 (by omega)⟩
  · simp [Value.cells] at hcs
    obtain ⟨rfl, rfl, rfl⟩ := hcs
    simp only [if_true] at hmm
    have each : ∀ i, i < l → ∃ q : Stp, (∀ k v, (stC q)[k]? = some v → W.cell? ((ad.add (i * 9)).add k) = some v) ∧ q.ok := by
      intro i hi
      obtain ⟨cs', h1, h2⟩ := hx i (by omega)
      rw [ce] at h1
      obtain ⟨_, hlen, hcell⟩ := World.cells?_some h1
      obtain ⟨q, hq, hok⟩ := open_step hlen h2
      refine ⟨q, fun k v hv => ?_, hok⟩
      rw [← hq] at hv
      have hk := (List.getElem?_eq_some_iff.1 hv).1
      have := hcell k (by omega)
      rw [this]
      simpa using hv
    obtain ⟨q, hq⟩ := Go.Deep.choose_lt each
    refine ⟨(List.range l).map q, by simp, fun x hx => ?_, fun h0 => ?_⟩
    · obtain ⟨i, hi, rfl⟩ := List.mem_map.1 hx
      exact (hq i (List.mem_range.1 hi)).2
    · obtain ⟨b, off, spot⟩ := ad
      have hc := (hq 0 h0).1 0 _ rfl
      have hspot : spot = none := by simpa [Addr.add] using World.cell?_spot hc
      subst hspot
      refine ⟨b, off, rfl, by simpa [Addr.add] using World.block_lt_of_cell? W _ hc, fun j x hjx k v hv => ?_⟩
      rw [List.getElem?_map, Option.map_eq_some_iff] at hjx
      obtain ⟨i, hi, rfl⟩ := hjx
      have hil := (List.getElem?_eq_some_iff.1 hi).1
      have hij : i = j := by rw [List.getElem?_range (by simpa using hil)] at hi; injection hi with hi; exact hi.symm
      subst hij
      have k0 := (hq i (by simpa using hil)).1 k v hv
      have ea : ∀ x : Nat, (⟨b, off, none⟩ : Addr).add x = ⟨b, off + x, none⟩ := fun x => by unfold Addr.add; split <;> simp_all
      have eb : ∀ y x : Nat, (⟨b, y, none⟩ : Addr).add x = ⟨b, y + x, none⟩ := fun y x => by unfold Addr.add; split <;> simp_all
      rw [ea, eb] at k0
      exact k0
end Go.Proofs.YtgfkmgbcajdcdaaGreatDoor.Ifs

namespace Go.Proofs.YtgfkmgbcajdcdaaGreatDoor.Ifs
open Go.RowKit
set_option linter.unusedVariables false

/-- The program's set in a law that began at w. -/
structure StdI (w W : World) (p : Nat) (S : List Nat) (st : StI) : Prop where
  P : IfP W p S st
  bel : Below w.heap.size w W
  abv : ∀ s ∈ S, w.heap.size ≤ s
theorem StdI.go {w W W' : World} {p : Nat} {S S' : List Nat} {st st' : StI} (h : StdI w W p S st) (hP : IfP W' p S' st') (hg : Goes W W' S S') : StdI w W' p S' st' :=
  have k := hg.below h.bel.size h.abv
  ⟨hP, h.bel.trans k.1, k.2⟩
theorem StdI.read {w W W' : World} {p : Nat} {S : List Nat} {st : StI} (h : StdI w W p S st) (hP : IfP W' p S st) (ht : Tch W W' S) : StdI w W' p S st := h.go hP (Goes.of_tch ht)
theorem StdI.alloc {w W : World} {p : Nat} {S : List Nat} {st : StI} (h : StdI w W p S st) (o : Obj) : StdI w (W.alloc o) p S st :=
  ⟨h.P.tch ((Tch.refl W []).alloc o) (by simp), h.bel.alloc h.bel.size o, h.abv⟩
end Go.Proofs.YtgfkmgbcajdcdaaGreatDoor.Ifs

namespace Go.Proofs.YtgfkmgbcajdcdaaGreatDoor.Ifs
open Go.RowKit
set_option linter.unusedVariables false

/-- What n steps leave. -/
def plI (z : List StpI) (n : Nat) : StI := (z.take n).foldl (fun st x => (doI st x).1) ([], [])
theorem plI_zero (z : List StpI) : plI z 0 = ([], []) := by simp [plI]
theorem plI_succ {z : List StpI} {n : Nat} {x : StpI} (hx : z[n]? = some x) : plI z (n + 1) = (doI (plI z n) x).1 := by
  unfold plI
  rw [List.take_add_one, hx, List.foldl_append]
  rfl
/-- A step's cells, where it stands. -/
theorem IsStp.cells {w wr : World} {a : Option Addr} {l j : Nat} {z : List Stp} (h : IsStp w a l z) (hb : Below w.heap.size w wr) (hj : j < l) : ∃ g o wh nm mac nu po up s ah al, a = some ⟨g, o, none⟩ ∧ z[j]? = some ⟨wh, nm, mac, nu, po, up, s, ah, al⟩ ∧ StpI.ok ⟨wh, nm, mac, nu, po, up, s, ah, al⟩ ∧
    wr.cell? ⟨g, o + j * 9, none⟩ = some (.int .i64 wh) ∧ wr.cell? ⟨g, o + j * 9 + 1, none⟩ = some (.string nm) ∧ wr.cell? ⟨g, o + j * 9 + 2, none⟩ = some (.int .u64 mac) ∧ wr.cell? ⟨g, o + j * 9 + 3, none⟩ = some (.int .i64 nu) ∧ wr.cell? ⟨g, o + j * 9 + 4, none⟩ = some (.int .i64 po) ∧
    wr.cell? ⟨g, o + j * 9 + 5, none⟩ = some (.bool up) ∧ wr.cell? ⟨g, o + j * 9 + 6, none⟩ = some (.bool s) ∧ wr.cell? ⟨g, o + j * 9 + 7, none⟩ = some (.int .u64 (ah : Int)) ∧ wr.cell? ⟨g, o + j * 9 + 8, none⟩ = some (.int .u64 (al : Int)) := by
  obtain ⟨b, o, e, hlt, hc⟩ := h.2.2 (by omega)
  have hlz : j < z.length := by rw [h.1]; exact hj
  have hz : z[j]? = some z[j] := List.getElem?_eq_getElem hlz
  have hok := h.2.1 _ (List.mem_of_getElem? hz)
  generalize z[j] = x at hz hok
  obtain ⟨wh, nm, mac, nu, po, up, s, ah, al⟩ := x
  have k : ∀ k v, (stC ⟨wh, nm, mac, nu, po, up, s, ah, al⟩)[k]? = some v → wr.cell? ⟨b, o + j * 9 + k, none⟩ = some v := fun k v hv => (hb.cell (p := ⟨b, o + j * 9 + k, none⟩) hlt).trans (hc j _ hz k v hv)
  exact ⟨b, o, wh, nm, mac, nu, po, up, s, ah, al, e, hz, hok, k 0 _ rfl, k 1 _ rfl, k 2 _ rfl, k 3 _ rfl, k 4 _ rfl, k 5 _ rfl, k 6 _ rfl, k 7 _ rfl, k 8 _ rfl⟩
set_option maxRecDepth 100000 in
set_option maxHeartbeats 4000000 in
theorem made_any (w : World) (a : Option Addr) (l c : Nat) (z : List Stp) (hz : IsStp w a l z) (w0 : World) (hb0 : Below w.heap.size w w0) :
    Calls Tryz.prog 43 #[.slice a l c] w0 fun e w' => ∃ p S, e = .returned (.pointer (some ⟨p, 0, none⟩)) ∧ StdI w0 w' p S (plI z (min l 60)) := by
  have HNew := Lib.hid (newP w0)
  have HZ := Lib.hid hz
  have HB0 := Lib.hid hb0
  clear hz hb0
  go_enter Tryz.func43, Tryz.ntmps43
  go_wp2_with fail
  refine Calls.mono HNew.out ?_
  rintro e w1 ⟨p, S0, rfl, hP, hb, hs⟩
  have Y0 : Hid (StdI w0 w1 p S0 (plI z 0)) := Lib.hid ⟨by rw [plI_zero]; exact hP, hb, hs⟩
  clear hP hb hs
  go_wp2_with fail
  go_loopw [4] (fun iv wr => ∃ (i : Nat) (S : List Nat), iv = .int .i64 (i : Int) ∧ i ≤ l ∧ i ≤ 60 ∧ Hid (StdI w0 wr p S (plI z i))) (fun iv _ => 60 - (intOf iv).toNat)
  case atStart => exact ⟨0, S0, rfl, Nat.zero_le _, Nat.zero_le _, Y0⟩
  case round =>
    obtain ⟨i, S, rfl, hil, hi6, hY⟩ := hrel
    have j1 : IntKind.i64.wrap ((i : Int) + 1) = (i : Int) + 1 := by rw [IntKind.wrap_i64]; omega
    by_cases hlt : i < l
    · have i1 : (i : Int) < (l : Int) := by omega
      have i0 : (0 : Int) ≤ (i : Int) := by omega
      by_cases h60 : i < 60
      · have i6 : (i : Int) < 60 := by omega
        obtain ⟨g, o, wh, nm, mac, nu, po, up, s, ah, al, rfl, hzi, hok, c0, c1, c2, c3, c4, c5, c6, c7, c8⟩ := HZ.out.cells (HB0.out.trans (hY.out.bel.mono HB0.out.size)) hlt
        have HD : Hid (Calls Tryz.prog 85 #[.pointer (some ⟨p, 0, none⟩), .agg #[.int .i64 wh, .string nm, .int .u64 mac, .int .i64 nu, .int .i64 po, .bool up, .bool s, .int .u64 (ah : Int), .int .u64 (al : Int)]] wr _) := Lib.hid (do_any p S (plI z i) ⟨wh, nm, mac, nu, po, up, s, ah, al⟩ hok wr hY.out.P)
        have HS := Lib.hid (plI_succ hzi)
        clear hzi hok
        go_wp2_with fail
        refine Calls.mono HD.out ?_
        rintro e w2 ⟨rfl, S', hP, hg⟩
        rw [← HS.out] at hP
        have Y2 := Lib.hid (hY.out.go hP hg)
        clear hP hg c0 c1 c2 c3 c4 c5 c6 c7 c8
        go_wp2
        go_roundw
        case rel => exact ⟨i + 1, S', by go_num, hlt, h60, Y2⟩
        case measure => simp [intOf]; omega
      · have i6 : ¬ (i : Int) < 60 := by omega
        have he : min l 60 = i := by omega
        have HE := Lib.hid he
        clear he h60 hil hi6
        go_wp2
        go_ret
        rw [HE.out]
        exact ⟨p, rfl, S, hY.out⟩
    · have i1 : ¬ (i : Int) < (l : Int) := by omega
      have i1b : decide ((i : Int) < (l : Int)) = false := decide_eq_false i1
      have he : min l 60 = i := by omega
      have HE := Lib.hid he
      clear he hlt hil hi6
      go_wp2
      go_ret
      rw [HE.out]
      exact ⟨p, rfl, S, hY.out⟩
end Go.Proofs.YtgfkmgbcajdcdaaGreatDoor.Ifs

namespace Go.Proofs.YtgfkmgbcajdcdaaGreatDoor
open Go.RowKit Ifs
set_option linter.unusedVariables false

set_option maxRecDepth 100000 in
set_option maxHeartbeats 1000000 in
theorem net_any (a b c d n : Int) (ha : 0 ≤ a ∧ a ≤ 255) (hb : 0 ≤ b ∧ b ≤ 255) (hc : 0 ≤ c ∧ c ≤ 255) (hd : 0 ≤ d ∧ d ≤ 255) (hn : a * 16777216 + b * 65536 + c * 256 + d = n) (w : World) :
    Calls Tryz.prog 39 #[.int .u64 a, .int .u64 b, .int .u64 c, .int .u64 d] w fun e w' => e = .returned (.agg #[.bool false, .int .u64 0, .int .u64 n]) ∧ Tch w w' [] := by
  obtain ⟨A, hA⟩ : ∃ A, a * 16777216 = A := ⟨_, rfl⟩
  obtain ⟨B, hB⟩ : ∃ B, b * 65536 = B := ⟨_, rfl⟩
  obtain ⟨C, hC⟩ : ∃ C, c * 256 = C := ⟨_, rfl⟩
  have k1 : IntKind.u64.wrap (a * 16777216) = A := by rw [IntKind.wrap_u64]; omega
  have k2 : IntKind.u64.wrap (b * 65536) = B := by rw [IntKind.wrap_u64]; omega
  have k3 : IntKind.u64.wrap (c * 256) = C := by rw [IntKind.wrap_u64]; omega
  obtain ⟨AB, hAB⟩ : ∃ X, A + B = X := ⟨_, rfl⟩
  obtain ⟨ABC, hABC⟩ : ∃ X, AB + C = X := ⟨_, rfl⟩
  have k4 : IntKind.u64.wrap (A + B) = AB := by rw [IntKind.wrap_u64]; omega
  have k5 : IntKind.u64.wrap (AB + C) = ABC := by rw [IntKind.wrap_u64]; omega
  have k6 : IntKind.u64.wrap (ABC + d) = n := by rw [IntKind.wrap_u64]; omega
  have HT : Hid (∀ o, Tch w (w.alloc o) []) := Lib.hid (fun o => (Tch.refl w []).alloc o)
  clear hA hB hC hAB hABC hn ha hb hc hd
  go_enter Tryz.func39, Tryz.ntmps39
  go_wp2
  refine bodyPost_ret (v := .agg #[.bool false, .int .u64 0, .int .u64 n]) (by simp [results, Tryz.results39, go_sem]) rfl ⟨rfl, HT.out _⟩
theorem pfSz : (Tryz.prog.info? 30).map (·.size) = some 4 := by kernel_rfl
set_option maxRecDepth 100000 in
set_option maxHeartbeats 1000000 in
theorem eight_any (a n : Int) (ha : 0 ≤ a ∧ a ≤ 255) (hn : a * 16777216 = n) (w : World) :
    Calls Tryz.prog 41 #[.int .u64 a] w fun e w' => e = .returned (.agg #[.bool false, .int .u64 0, .int .u64 n, .int .i64 8]) ∧ Tch w w' [] := by
  have HN := Lib.hid (fun W => net_any a 0 0 0 n ha (by omega) (by omega) (by omega) (by omega) W)
  obtain ⟨rb, hrb⟩ : ∃ rb, w.heap.size = rb := ⟨_, rfl⟩
  obtain ⟨W0, hW0⟩ : ∃ W, w.alloc (.cells #[.bool false, .int .u64 0, .int .u64 0, .int .i64 0] 30) = W := ⟨_, rfl⟩
  have HR : Hid (Blk W0 rb 30 #[.bool false, .int .u64 0, .int .u64 0, .int .i64 0]) := Lib.hid (hW0 ▸ hrb ▸ Blk.new w _ _)
  have HT0 : Hid (Tch w W0 []) := Lib.hid (hW0 ▸ (Tch.refl w []).alloc _)
  have HW0 := Lib.hid (And.intro hW0 hrb)
  clear hW0 hrb ha hn
  go_enter Tryz.func41, Tryz.ntmps41
  go_wp2_with fail
  rw [HW0.out.1, HW0.out.2]
  refine Calls.mono (HN.out W0) ?_
  rintro e w1 ⟨rfl, hT1⟩
  have HR1 := Lib.hid (hT1.blk HR.out (by simp))
  have HT1 := Lib.hid (HT0.out.trans hT1)
  have HS := Lib.hid HW0.out.2
  clear hT1
  go_wp2_with (refine wpList_sta rfl 30 (.tmp 2) (.tmp 5) rfl rb 0 #[.bool false, .int .u64 0, .int .u64 n, .int .i64 8] rfl rfl 30 _ HR1.out 4 pfSz rfl (show 0 + 4 ≤ 4 from by decide) (by simp [Value.oneCell']) ?_; intro w6 hs6; have HS6 := Lib.hid hs6; clear hs6)
  obtain ⟨z0, z1, z2, z3⟩ := (sta_whole HS6.out rfl).c4
  exact bodyPost_ret (v := .agg #[.bool false, .int .u64 0, .int .u64 n, .int .i64 8]) (by simp [results, Tryz.results41, go_sem, z0, z1, z2, z3]) rfl ⟨rfl, HT1.out.trans_fre HS6.out.tch (by simp; have := HS.out; omega)⟩
/-- A rib and a set of ports in a law that began at w. -/
structure Bth (w W : World) (t p : Nat) (S T : List Nat) (L : List TdI) (st : StI) : Prop where
  R : RbP W t S L
  I : IfP W p T st
  dis : ∀ s ∈ S, s ∉ T
  bel : Below w.heap.size w W
  ra : ∀ s ∈ S, w.heap.size ≤ s
  ia : ∀ s ∈ T, w.heap.size ≤ s
section
variable {w W W' : World} {t p : Nat} {S S' T T' : List Nat} {L M : List TdI} {st st' : StI}
theorem Bth.goR (h : Bth w W t p S T L st) (hP : RbP W' t S' M) (hg : Goes W W' S S') : Bth w W' t p S' T M st := by
  have k := hg.below h.bel.size h.ra
  refine ⟨hP, h.I.tch hg.tch (fun s hs hm => h.dis s hm hs), fun s hs hm => ?_, h.bel.trans k.1, k.2, h.ia⟩
  rcases hg.fre s hs with h1 | h1
  · exact h.dis s h1 hm
  · have := h.I.lt s hm; omega
theorem Bth.goI (h : Bth w W t p S T L st) (hP : IfP W' p T' st') (hg : Goes W W' T T') : Bth w W' t p S T' L st' := by
  have k := hg.below h.bel.size h.ia
  refine ⟨h.R.tch hg.tch (fun s hs hm => h.dis s hs hm), hP, fun s hs hm => ?_, h.bel.trans k.1, h.ra, k.2⟩
  rcases hg.fre s hm with h1 | h1
  · exact h.dis s hs h1
  · have := h.R.lt s hs; omega
theorem Bth.tch0 (h : Bth w W t p S T L st) (ht : Tch W W' []) : Bth w W' t p S T L st :=
  ⟨h.R.tch ht (by simp), h.I.tch ht (by simp), h.dis, h.bel.trans (ht.below h.bel.size (by simp)), h.ra, h.ia⟩
theorem Bth.env (h : Bth w W t p S T L st) (hE : EnvR w) : EnvN W S := hE.n h.bel h.ra
end
set_option maxRecDepth 100000 in
set_option maxHeartbeats 4000000 in
theorem made16 (w : World) (a b : Option Addr) (l c l2 c2 : Nat) (z : List Ifs.Stp) (y : List Stp) (hz : Ifs.IsStp w a l z) (hy : IsStp w b l2 y) (w0 : World) (hb0 : Below w.heap.size w w0) (hE : EnvR w) :
    Calls Tryz.prog 9 #[.agg #[.slice a l c, .slice b l2 c2]] w0 fun e w' => ∃ t p S T, e = .returned (.tuple #[ptrV t, ptrV p]) ∧ Bth w0 w' t p S T (plR y (min l2 60)) (plI z (min l 60)) := by
  have HR := Lib.hid (fun W (hW : Below w.heap.size w W) => made_any w b l2 c2 y hy W hW hE)
  have HI := Lib.hid (fun W (hW : Below w.heap.size w W) => Ifs.made_any w a l c z hz W hW)
  obtain ⟨xb, hxb⟩ : ∃ xb, w0.heap.size = xb := ⟨_, rfl⟩
  obtain ⟨W0, hW0⟩ : ∃ W, w0.alloc (.cells #[.slice a l c, .slice b l2 c2] 25) = W := ⟨_, rfl⟩
  have HX : Hid (Blk W0 xb 25 #[.slice a l c, .slice b l2 c2]) := Lib.hid (hW0 ▸ hxb ▸ Blk.new w0 _ _)
  have HT0 : Hid (Tch w0 W0 []) := Lib.hid (hW0 ▸ (Tch.refl w0 []).alloc _)
  have HB0 : Hid (Below w.heap.size w W0.drew) := Lib.hid (hb0.trans (HT0.out.drew.below hb0.size (by simp)))
  have HW0 := Lib.hid (And.intro hW0 hxb)
  have HC := Lib.hid (fun W (hW : Tch W0 W []) => show W.cell? ⟨xb, 0, none⟩ = some (Value.slice a l c) ∧ W.cell? ⟨xb, 1, none⟩ = some (Value.slice b l2 c2) from ⟨((hW.blk HX.out (by simp)).cell 0).trans rfl, ((hW.blk HX.out (by simp)).cell 1).trans rfl⟩)
  have HC0 := Lib.hid (HC.out _ (Tch.refl W0 []).drew)
  clear hW0 hxb hz hy hb0
  go_enter Tryz.func9, Tryz.ntmps9
  go_wp2
  rw [HW0.out.1, HW0.out.2]
  refine wp_region_held_drew (S := (fun W => W.cell? ⟨xb, 0, none⟩ = some (Value.slice a l c) ∧ W.cell? ⟨xb, 1, none⟩ = some (Value.slice b l2 c2))) (by kernel_rfl) ?_ (fun hHeld => ?_)
  · (first | exact HC0.out | exact HC5.out | exact HC6.out)
  refine wpAnyH_take (i := 0) (oi := { dst := some 4, op := Go.Op.fieldAddr 25 (Go.Operand.tmp 1) 1, type := 0, pos := "law.go:66", after := #[], guard := none }) (v := ?_) rfl (by kernel_rfl) (by kernel_rfl) (by kernel_rfl) (fun _ _ _ h => h) (Or.inl ⟨by rfl, ?_⟩) (by assumption) ?_
  rotate_left
  · intro w hSw
    (try dsimp only at hSw)
    go_simp
    try (with_reducible rfl)
  try simp only [Act.put, List.setIfInBounds_toArray, List.set_cons_zero, List.set_cons_succ]
  refine wpAnyH_take (i := 1) (oi := { dst := some 5, op := Go.Op.load 23 (Go.Operand.tmp 4), type := 23, pos := "law.go:66", after := #[{ on := 0, ground := Go.Ground.data }], guard := none }) (v := ?_) rfl (by kernel_rfl) (by kernel_rfl) (by kernel_rfl) (fun _ _ _ h => h) (Or.inl ⟨by rfl, ?_⟩) (by assumption) ?_
  rotate_left
  · intro w hSw
    (try dsimp only at hSw)
    go_simp
    try (with_reducible rfl)
  try simp only [Act.put, List.setIfInBounds_toArray, List.set_cons_zero, List.set_cons_succ]
  refine wpAnyH_take (i := 3) (oi := { dst := some 7, op := Go.Op.fieldAddr 25 (Go.Operand.tmp 1) 0, type := 0, pos := "law.go:66", after := #[], guard := none }) (v := ?_) rfl (by kernel_rfl) (by kernel_rfl) (by kernel_rfl) (fun _ _ _ h => h) (Or.inl ⟨by rfl, ?_⟩) (by assumption) ?_
  rotate_left
  · intro w hSw
    (try dsimp only at hSw)
    go_simp
    try (with_reducible rfl)
  try simp only [Act.put, List.setIfInBounds_toArray, List.set_cons_zero, List.set_cons_succ]
  refine wpAnyH_take (i := 4) (oi := { dst := some 8, op := Go.Op.load 22 (Go.Operand.tmp 7), type := 22, pos := "law.go:66", after := #[{ on := 3, ground := Go.Ground.data }], guard := none }) (v := ?_) rfl (by kernel_rfl) (by kernel_rfl) (by kernel_rfl) (fun _ _ _ h => h) (Or.inl ⟨by rfl, ?_⟩) (by assumption) ?_
  rotate_left
  · intro w hSw
    (try dsimp only at hSw)
    go_simp
    try (with_reducible rfl)
  try simp only [Act.put, List.setIfInBounds_toArray, List.set_cons_zero, List.set_cons_succ]
  refine wpAnyH_ready (rs := [2]) (by kernel_rfl) (by simp) ?_
  refine AllReadyH.cons (o := { dst := some 6, op := Go.Op.call { callee := Go.Callee.value (Go.Operand.func 42), args := #[Go.Operand.tmp 5], argTypes := #[23] }, type := 32, pos := "law.go:66", after := #[{ on := 1, ground := Go.Ground.data }], guard := none }) rfl (fun K hK => ?_) AllReadyH.nil
  go_simp
  (go_at_call 42; (with_reducible refine Calls.mono (HR.out _ HB0.out) ?_); rintro e w5 ⟨t, S, rfl, hY⟩; have HY := Lib.hid hY; have HT5 := Lib.hid (Tch.of_below [] hY.bel); have HC5 := Lib.hid (HC.out w5 ((Tch.refl W0 []).drew.trans HT5.out)); have HB5 : Hid (Below w.heap.size w w5) := Lib.hid (HB0.out.trans (HT5.out.below HB0.out.size (by simp))); clear hY)
  go_wp2_with fail
  refine hK.out _ _ ?_ (fun hHeld => ?_)
  · (first | exact HC0.out | exact HC5.out | exact HC6.out)
  clear hK K
  try simp only [Act.put, List.setIfInBounds_toArray, List.set_cons_zero, List.set_cons_succ]
  refine wpAnyH_ready (rs := [5]) (by kernel_rfl) (by simp) ?_
  refine AllReadyH.cons (o := { dst := some 9, op := Go.Op.call { callee := Go.Callee.value (Go.Operand.func 43), args := #[Go.Operand.tmp 8], argTypes := #[22] }, type := 33, pos := "law.go:66", after := #[{ on := 4, ground := Go.Ground.data }, { on := 2, ground := Go.Ground.chain }], guard := none }) rfl (fun K hK => ?_) AllReadyH.nil
  go_simp
  (go_at_call 43; (with_reducible refine Calls.mono (HI.out _ HB5.out) ?_); rintro e w6 ⟨p, T, rfl, hY⟩; have HZ := Lib.hid hY; have HT6 := Lib.hid (Tch.of_below [] hY.bel); have HC6 := Lib.hid (HC.out w6 (((Tch.refl W0 []).drew.trans HT5.out).trans HT6.out)); clear hY)
  go_wp2_with fail
  refine hK.out _ _ ?_ (fun hHeld => ?_)
  · (first | exact HC0.out | exact HC5.out | exact HC6.out)
  clear hK K
  try simp only [Act.put, List.setIfInBounds_toArray, List.set_cons_zero, List.set_cons_succ]
  refine wpAnyH_take (i := 6) (oi := { dst := some 2, op := Go.Op.assign (Go.Operand.tmp 6), type := 32, pos := "law.go:66", after := #[{ on := 2, ground := Go.Ground.data }, { on := 5, ground := Go.Ground.chain }, { on := 0, ground := Go.Ground.phase }, { on := 1, ground := Go.Ground.phase }, { on := 2, ground := Go.Ground.phase }, { on := 3, ground := Go.Ground.textOnly Go.Departure.lateStores }, { on := 4, ground := Go.Ground.textOnly Go.Departure.lateStores }, { on := 5, ground := Go.Ground.textOnly Go.Departure.lateStoresUnsure }], guard := none }) (v := ?_) rfl (by kernel_rfl) (by kernel_rfl) (by kernel_rfl) (fun _ _ _ h => h) (Or.inl ⟨by rfl, ?_⟩) (by assumption) ?_
  rotate_left
  · intro w hSw
    (try dsimp only at hSw)
    go_simp
    try (with_reducible rfl)
  try simp only [Act.put, List.setIfInBounds_toArray, List.set_cons_zero, List.set_cons_succ]
  refine wpAnyH_take (i := 7) (oi := { dst := some 3, op := Go.Op.assign (Go.Operand.tmp 9), type := 33, pos := "law.go:66", after := #[{ on := 5, ground := Go.Ground.data }, { on := 6, ground := Go.Ground.chain }, { on := 0, ground := Go.Ground.phase }, { on := 1, ground := Go.Ground.phase }, { on := 2, ground := Go.Ground.phase }, { on := 3, ground := Go.Ground.phase }, { on := 4, ground := Go.Ground.phase }, { on := 5, ground := Go.Ground.phase }, { on := 6, ground := Go.Ground.phase }], guard := none }) (v := ?_) rfl (by kernel_rfl) (by kernel_rfl) (by kernel_rfl) (fun _ _ _ h => h) (Or.inl ⟨by rfl, ?_⟩) (by assumption) ?_
  rotate_left
  · intro w hSw
    (try dsimp only at hSw)
    go_simp
    try (with_reducible rfl)
  try simp only [Act.put, List.setIfInBounds_toArray, List.set_cons_zero, List.set_cons_succ]
  refine wpAnyH_done (by kernel_rfl) ?_ _
  go_wp2
  have HT06 : Hid (Tch w0 w6 []) := Lib.hid (((HT0.out.drew).trans HT5.out).trans HT6.out)
  have HBth : Hid (Bth w0 w6 t p S T (plR y (min l2 60)) (plI z (min l 60))) := Lib.hid ⟨HY.out.P.tch HT6.out (by simp), HZ.out.P, fun s hs hm => by have h1 := HY.out.P.lt s hs; have h2 := HZ.out.abv s hm; omega, HT06.out.below (Nat.le_refl _) (by simp), fun s hs => Nat.le_trans HT0.out.size (HY.out.abv s hs), fun s hs => Nat.le_trans (HT0.out.drew.trans HT5.out).size (HZ.out.abv s hs)⟩
  refine bodyPost_ret (v := .tuple #[ptrV t, ptrV p]) (by simp [results, Tryz.results9, go_sem]) rfl ⟨t, p, S, T, rfl, HBth.out⟩
end Go.Proofs.YtgfkmgbcajdcdaaGreatDoor
