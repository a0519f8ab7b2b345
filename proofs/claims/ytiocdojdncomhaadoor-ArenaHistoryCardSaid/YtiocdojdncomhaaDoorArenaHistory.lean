/-
  crosswaylaw10.ArenaHistory returns true for every input, and leaves its arguments alone.
  Conditions: none of our own; a tied card: the library's table of math/bits holds what the program's text lays.
-/
import Derived.Test.YtiocdojdncomhaaDoorATw
namespace Go.Proofs.YtiocdojdncomhaaDoor
open Go.ChangeShapes Go.WideShapes Go.ChangeAt Go.RowKit
set_option linter.unusedVariables false
namespace AHis
theorem ordS_in {N p o : Nat} {M : List Bl} (hI : InvA N M) (h : (p, o) ∈ M) : ordS M (p : Int) = (o : Int) := by
  unfold ordS
  cases hf : M.find? (fun b => decide ((b.1 : Int) = (p : Int))) with
  | some b =>
    have hb := List.mem_of_find?_eq_some hf
    have he : (b.1 : Int) = (p : Int) := by simpa using List.find?_some hf
    have := row_at hI.row hb h (by show b.1 = p; omega)
    rw [this]
  | none =>
    have := List.find?_eq_none.1 hf _ h
    simp at this
/-- The block that is the next one of a row. -/
theorem blk_at {N j : Nat} {L : List Bl} (hI : InvA N L) (hj : j < L.length) :
    ∃ p o P : Nat, L[j]? = some (p, o) ∧ (ats L)[j]? = some (p : Int) ∧ ordS L (p : Int) = (o : Int) ∧ 2 ^ o = P ∧ 0 < P ∧ o ≤ N ∧ 2 ^ o ∣ p ∧ p + P ≤ 2 ^ N ∧ (∀ q, p ≤ q → q < p + P → ¬ hld (L.take j) q) ∧ L.take (j + 1) = L.take j ++ [(p, o)] := by
  obtain ⟨x, hx⟩ : ∃ x, L[j]? = some x := ⟨_, List.getElem?_eq_getElem hj⟩
  have hm := List.mem_of_getElem? hx
  obtain ⟨h1, h2⟩ := hI.each x hm
  refine ⟨x.1, x.2, _, hx, by unfold ats; rw [List.getElem?_map, hx]; rfl, ordS_in hI (by exact hm), rfl, two_pos _, ?_, h1, h2, ?_, by rw [List.take_add_one, hx]; rfl⟩
  · apply Nat.le_of_not_lt
    intro hlt
    have := Nat.pow_lt_pow_right (a := 2) (by decide) hlt
    omega
  · rintro q hq1 hq2 ⟨b, hb, h3, h4⟩
    obtain ⟨i, hi, e⟩ := List.mem_iff_getElem.1 hb
    have hi2 : i < j := by simp at hi; omega
    have hr := hI.row
    rw [List.pairwise_iff_getElem] at hr
    have := hr i j (by omega) hj hi2
    rw [List.getElem_take] at e
    rw [e] at this
    have e2 : L[j] = x := (List.getElem?_eq_some_iff.1 hx).2
    rw [e2] at this
    omega
theorem sgl_take {N i : Nat} (hi : i < 2 ^ N) : tkF N (sgl i) 0 = ((i : Int), 0, sgl (i + 1)) := by
  obtain ⟨M, e, hM⟩ := sgl_next hi
  have h0 := tkF_ok (N := N) (o := 0) (Nat.zero_le _) e
  rw [show (((0 : Nat)) : Int) = 0 from rfl] at h0
  rw [h0]
  have hI := (tkS_some (inv_sgl (O := N) (Nat.le_of_lt hi)) e).2.1
  rw [row_ext hI.row (inv_sgl (O := N) hi).row hM]
theorem mid_re {O : Nat} {L M : List Bl} {p q : Nat} (h : Mid O L p 0 M) : Mid O L q 0 M := by
  refine ⟨h.1, fun x => ?_⟩
  rw [h.2]
  constructor
  · rintro (e | ⟨a, b, c, d⟩)
    · exact .inl e
    · exact .inr ⟨a, b, c, by omega⟩
  · rintro (e | ⟨a, b, c, d⟩)
    · exact .inl e
    · exact .inr ⟨a, b, c, by omega⟩
theorem hld_succ {L : List Bl} {j p o q : Nat} (h : L.take (j + 1) = L.take j ++ [(p, o)]) : hld (L.take (j + 1)) q ↔ hld (L.take j) q ∨ (p ≤ q ∧ q < p + 2 ^ o) := by
  rw [h]
  constructor
  · rintro ⟨b, hb, h1⟩
    rcases List.mem_append.1 hb with e | e
    · exact .inl ⟨b, e, h1⟩
    · rw [List.mem_singleton.1 e] at h1; exact .inr h1
  · rintro (⟨b, hb, h1⟩ | h1)
    · exact ⟨b, by simp [hb], h1⟩
    · exact ⟨(p, o), by simp, h1⟩
/-- Both arenas, and the row of places of the first one. -/
structure H3 (x1 W : World) (D B r bm bn r' bm' bn' N : Nat) (L M : List Bl) (A : Option Addr) (n : Nat) : Prop where
  a : AS x1 W r bm bn N L
  b : AS x1 W r' bm' bn' N M
  l : RdI W B A n (ats L)
  s : Sep D r bm bn r' bm' bn'
  k1 : r' < B
  k2 : bm' < B
  k3 : bn' < B
theorem H3.step {x1 W W' : World} {D B r bm bn r' bm' bn' N n : Nat} {L M M' : List Bl} {A : Option Addr} (h : H3 x1 W D B r bm bn r' bm' bn' N L M A n) (hb : AS x1 W' r' bm' bn' N M') (ht : Tou W W' r' bm' bn') : H3 x1 W' D B r bm bn r' bm' bn' N L M' A n :=
  ⟨h.a.far h.b h.s ht, hb, h.l.tou ht h.k1 h.k2 h.k3, h.s, h.k1, h.k2, h.k3⟩
theorem H3.below {x1 W W' : World} {D B r bm bn r' bm' bn' N n : Nat} {L M : List Bl} {A : Option Addr} (h : H3 x1 W D B r bm bn r' bm' bn' N L M A n) (hb : Below W.heap.size W W') : H3 x1 W' D B r bm bn r' bm' bn' N L M A n :=
  ⟨h.a.below hb, h.b.below hb, h.l.below hb, h.s, h.k1, h.k2, h.k3⟩
theorem H3.drew {x1 W : World} {D B r bm bn r' bm' bn' N n : Nat} {L M : List Bl} {A : Option Addr} (h : H3 x1 W D B r bm bn r' bm' bn' N L M A n) : H3 x1 W.drew D B r bm bn r' bm' bn' N L M A n := h.below (Below.refl _ W).drew
def isB (b : Bool) (p : Prop) : Prop := b = true ↔ p
theorem isB.iff {b : Bool} {p : Prop} (h : isB b p) : b = true ↔ p := h
set_option maxRecDepth 100000 in
set_option maxHeartbeats 4000000 in
theorem walk (w : World) (hE : EnvA w) (a0 : Int) (w0 : (Lit.int .i64 a0).wf = true) (a1 : Option Addr) (l1 c1 : Nat) (z1 : List Stp) (w1 : IsStp w a1 l1 z1) (a2 : Option Addr) (l2 c2 : Nat) (z2 : List Stp) (w2 : IsStp w a2 l2 z2) :
    Calls Tryd.prog 6 #[.int .i64 a0, .slice a1 l1 c1, .slice a2 l2 c2] w fun e w' => e = .returned (.bool true) ∧ Below w.heap.size w w' := by
  have hb0 := i64_bd w0
  have hpk := pk_bd a0 (n := 7) (by omega)
  have HK := Lib.hid (fun W => pick_any a0 7 (by omega) (by omega) hb0.1 hb0.2 W)
  obtain ⟨N, hN⟩ : ∃ N : Nat, pk a0 7 = (N : Int) := ⟨(pk a0 7).toNat, by omega⟩
  rw [hN] at HK hpk
  have hN16 : N ≤ 16 := by omega
  have HE := Lib.hid hE
  have HZ := Lib.hid w1
  have HZ2 := Lib.hid w2
  clear hE w0 w1 w2 hN hb0 hpk
  go_enter Tryd.func6, Tryd.ntmps6
  go_wp2_with fail
  refine Calls.mono (aawake_yes w HE.out) ?_
  rintro e x1 ⟨rfl, hb1⟩
  have B1 := Lib.hid hb1
  clear hb1
  go_wp2_with fail
  refine Calls.mono (HK.out _) ?_
  rintro e x1' ⟨rfl, rfl⟩
  go_wp2_with fail
  refine Calls.mono (made_any N hN16 a1 l1 c1 z1 x1 (HE.out.below B1.out HE.out.lt) (HZ.out.below B1.out)) ?_
  rintro e x2 ⟨r, bm, bn, rfl, hA2⟩
  obtain ⟨L, hL⟩ : ∃ L, mdS N z1 (min l1 120) = L := ⟨_, rfl⟩
  rw [hL] at hA2
  have A2 := Lib.hid hA2
  clear hA2 hL
  have HN2 := Lib.hid (as_new2 N hN16 A2.out)
  go_wp2_with fail
  refine Calls.mono HN2.out ?_
  rintro e x3 ⟨r', bm', bn', rfl, hA3, hB3, hs⟩
  have A3 := Lib.hid hA3
  have B3 := Lib.hid hB3
  have HS := Lib.hid hs
  obtain ⟨D, hD⟩ : ∃ D, x2.heap.size = D := ⟨_, rfl⟩
  rw [hD] at HS
  obtain ⟨n, hn⟩ : ∃ n, L.length = n := ⟨_, rfl⟩
  have hn7 : n ≤ 70000 := by rw [← hn]; exact (inv_sml hN16 A3.out.ar.inv).1
  have HT := Lib.hid (as_taken hN16 A3.out hn)
  clear hA3 hB3 hs hD
  go_wp2_with fail
  refine Calls.mono HT.out ?_
  rintro e x4 ⟨At, ct, rfl, hR4, hb4, hA4, -⟩
  have H4 : Hid (H3 x1 x4 D x3.heap.size r bm bn r' bm' bn' N L (sgl 0) At n) := Lib.hid ⟨hA4, B3.out.below hb4, hR4, HS.out, B3.out.ar.lt.1, B3.out.ar.lt.2.1, B3.out.ar.lt.2.2⟩
  have HI := Lib.hid A3.out.ar.inv
  have HLn := Lib.hid hn
  obtain ⟨B, hB⟩ : ∃ B, x3.heap.size = B := ⟨_, rfl⟩
  rw [hB] at H4
  have HQ := Lib.hid (fun W => power_any N hN16 W)
  have hpb := (pow16 hN16).2
  obtain ⟨P, hP⟩ : ∃ P : Nat, 2 ^ N = P := ⟨_, rfl⟩
  rw [hP] at HQ hpb
  have HPN := Lib.hid hP
  clear hR4 hb4 hA4 hB hn hP HT HN2
  go_wp2
  go_loopw [12] (fun iv wr => ∃ i : Nat, iv = .int .i64 (i : Int) ∧ i ≤ P ∧ Hid (H3 x1 wr D B r bm bn r' bm' bn' N L (sgl i) At n)) (fun iv _ => P - (intOf iv).toNat)
  case atStart => exact ⟨0, rfl, Nat.zero_le _, H4⟩
  case round =>
    obtain ⟨i, rfl, hi, hW⟩ := hrel
    by_cases hlt : i < P
    · have hiI : (i : Int) < (P : Int) := by omega
      have HTk := as_take hN16 hW.out.b 0
      rw [sgl_take (by rw [HPN.out]; exact hlt)] at HTk
      dsimp only at HTk
      have HTT := Lib.hid HTk
      have j3 : IntKind.i64.wrap ((i : Int) + 1) = (i : Int) + 1 := by rw [IntKind.wrap_i64]; omega
      have dx : ((i : Int) != (i : Int)) = false := by simp
      clear HTk
      go_wp2_with fail
      refine Calls.mono (HQ.out _) ?_
      rintro e y1 ⟨rfl, rfl⟩
      go_wp2_with fail
      refine Calls.mono HTT.out ?_
      rintro e y2 ⟨rfl, hA, ht⟩
      have HW2 := Lib.hid (hW.out.step hA ht)
      clear hA ht
      go_wp2
      go_roundw
      case rel => exact ⟨i + 1, by go_num, hlt, HW2⟩
      case measure => simp [intOf]; omega
    · obtain rfl : P = i := by omega
      have hiI : ¬ (P : Int) < (P : Int) := by omega
      have HM0 : Hid (Mid N (L.take 0) 0 0 (sgl P)) := Lib.hid (by rw [← HPN.out]; simp; exact mid_start)
      go_wp2_with fail
      refine Calls.mono (HQ.out _) ?_
      rintro e y1 ⟨rfl, rfl⟩
      go_wp2
      go_loopw [15] (fun iv wr => ∃ (j : Nat) (M : List Bl), iv = .int .i64 (j : Int) ∧ j ≤ n ∧ Hid (Mid N (L.take j) 0 0 M) ∧ Hid (H3 x1 wr D B r bm bn r' bm' bn' N L M At n)) (fun iv _ => n - (intOf iv).toNat)
      case atStart => exact ⟨0, sgl P, rfl, Nat.zero_le _, HM0, hW⟩
      case round =>
        obtain ⟨j, M, rfl, hj, hM, hW2⟩ := hrel
        by_cases hlt : j < n
        · obtain ⟨p, k, K, f1, f2, f3, f4, f5, f6, f7, f8, f9, f10⟩ := blk_at HI.out (by rw [HLn.out]; exact hlt)
          obtain ⟨g, rfl, -, -, hc⟩ := hW2.out.l.2 (by omega)
          have c1 := hc j _ f2
          have HGc := Lib.hid (fun W (h : RdI W B (some ⟨g, 0, none⟩) n (ats L)) => (show W.cell? ⟨g, j, none⟩ = some (.int .i64 (p : Int)) by
            obtain ⟨g2, e2, -, -, hc2⟩ := h.2 (by omega)
            injection e2 with e2
            injection e2 with e3
            subst e3
            exact hc2 j _ f2))
          have HOr := porder_any r bm bn N L (p : Int) (by omega) (by rw [HPN.out] at f8; omega) wr hW2.out.a.ar
          rw [f3] at HOr
          have HO5 := Lib.hid HOr
          have HQk := Lib.hid (fun W => power_any k (by omega) W)
          rw [f4] at HQk
          have HMs : Hid (Mid N (L.take j) p 0 M) := Lib.hid (mid_re hM.out)
          have HGv : Hid (∀ q M', q < K → Mid N (L.take j) p q M' → ∃ M'', gvF M' ((p + q : Nat) : Int) = (0, M'') ∧ Mid N (L.take j) p (q + 1) M'') := Lib.hid (fun q M' hq hm => by
            obtain ⟨M'', e1, e2⟩ := mid_give hm (k := k) (by rw [f4]; exact hq) (by rw [f4]; exact f8) (by rw [f4]; exact f9)
            exact ⟨M'', gvF_yes e1, e2⟩)
          have HTk : Hid (∀ M', Mid N (L.take j) p K M' → ∃ M'', tkF N M' (k : Int) = ((p : Int), 0, M'') ∧ Mid N (L.take (j + 1)) 0 0 M'') := Lib.hid (fun M' hm => by
            rw [← f4] at hm
            obtain ⟨M'', e1, e2⟩ := mid_take hm f7 (by rw [f4]; exact f8) (by rw [f4]; exact f9) 0
            exact ⟨M'', tkF_ok f6 e1, by rw [f10]; exact e2⟩)
          have hKb : p + K ≤ 65536 := by rw [HPN.out] at f8; omega
          have hjI : (j : Int) < (n : Int) := by omega
          have hj0 : (0 : Int) ≤ (j : Int) := by omega
          have j3 : IntKind.i64.wrap ((j : Int) + 1) = (j : Int) + 1 := by rw [IntKind.wrap_i64]; omega
          obtain ⟨kI, hkI⟩ : ∃ kI : Int, (k : Int) = kI := ⟨_, rfl⟩
          rw [hkI] at HO5 HQk HTk
          have hpp : ((p : Int) != (p : Int)) = false := by simp
          obtain ⟨wo, hwo⟩ : ∃ x, x = wr := ⟨_, rfl⟩
          subst hwo
          clear f1 f2 f3 f4 f5 f6 f7 f8 f9 f10 hc HOr hkI hM
          go_wp2_with fail
          refine Calls.mono HO5.out ?_
          rintro e y1 ⟨rfl, rfl⟩
          clear c1
          go_wp2
          go_loopw [17] (fun iv wr => ∃ (q : Nat) (M' : List Bl), iv = .int .i64 (q : Int) ∧ q ≤ K ∧ Hid (Mid N (L.take j) p q M') ∧ Hid (H3 x1 wr D B r bm bn r' bm' bn' N L M' (some ⟨g, 0, none⟩) n)) (fun iv _ => K - (intOf iv).toNat)
          case atStart => exact ⟨0, M, rfl, Nat.zero_le _, HMs, hW2⟩
          case round =>
            obtain ⟨q, M', rfl, hq, hm, hW3⟩ := hrel
            have c1 := HGc.out wr hW3.out.l
            by_cases hlt3 : q < K
            · obtain ⟨M'', e1, e2⟩ := HGv.out q M' hlt3 hm.out
              have hqI : (q : Int) < (K : Int) := by omega
              obtain ⟨s, hs⟩ : ∃ s : Nat, p + q = s := ⟨_, rfl⟩
              rw [hs] at e1
              have HG := as_give hN16 hW3.out.b (s : Int) (by omega) (by omega)
              rw [e1] at HG
              dsimp only at HG
              have HGG := Lib.hid HG
              have HM2 := Lib.hid e2
              have j4 : IntKind.i64.wrap ((p : Int) + (q : Int)) = (s : Int) := by rw [IntKind.wrap_i64]; omega
              have j5 : IntKind.i64.wrap ((q : Int) + 1) = (q : Int) + 1 := by rw [IntKind.wrap_i64]; omega
              clear e1 e2 HG hs
              go_wp2_with fail
              refine Calls.mono (HQk.out _) ?_
              rintro e y2 ⟨rfl, rfl⟩
              go_wp2_with fail
              refine Calls.mono HGG.out ?_
              rintro e y3 ⟨rfl, hA, ht⟩
              have HW4 := Lib.hid (hW3.out.step hA ht)
              clear hA ht c1
              go_wp2
              go_roundw
              case rel => exact ⟨q + 1, M'', by go_num, hlt3, HM2, HW4⟩
              case measure => simp [intOf]; omega
            · obtain rfl : q = K := by omega
              have hqI : ¬ (q : Int) < (q : Int) := by omega
              obtain ⟨M'', e1, e2⟩ := HTk.out M' hm.out
              have HT := as_take hN16 hW3.out.b kI
              rw [e1] at HT
              dsimp only at HT
              have HTT := Lib.hid HT
              have HM2 := Lib.hid e2
              clear e1 e2 HT c1
              go_wp2_with fail
              refine Calls.mono (HQk.out _) ?_
              rintro e y2 ⟨rfl, rfl⟩
              go_wp2_with fail
              refine Calls.mono HTT.out ?_
              rintro e y3 ⟨rfl, hA, ht⟩
              have HW4 := Lib.hid (hW3.out.step hA ht)
              clear hA ht
              have c1 := HGc.out y3 HW4.out.l
              go_wp2
              go_roundw
              case rel => exact ⟨j + 1, M'', by go_num, hlt, HM2, HW4⟩
              case measure => simp [intOf]; omega
        · have hjI : ¬ (j : Int) < (n : Int) := by omega
          have HL0 : Hid (Lst N L 0 M) := Lib.hid (by
            have h1 := hM.out
            rw [List.take_of_length_le (by rw [HLn.out]; omega)] at h1
            exact lst_start h1)
          go_wp2
          go_loopw [21] (fun iv wr => ∃ (i : Nat) (M : List Bl), iv = .int .i64 (i : Int) ∧ i ≤ P ∧ Hid (Lst N L i M) ∧ Hid (H3 x1 wr D B r bm bn r' bm' bn' N L M At n)) (fun iv _ => P - (intOf iv).toNat)
          case atStart => exact ⟨0, M, rfl, Nat.zero_le _, HL0, hW2⟩
          case round =>
            obtain ⟨i, M, rfl, hi, hM, hW3⟩ := hrel
            by_cases hlt : i < P
            · have hiI : (i : Int) < (P : Int) := by omega
              have j3 : IntKind.i64.wrap ((i : Int) + 1) = (i : Int) + 1 := by rw [IntKind.wrap_i64]; omega
              obtain ⟨wo, hwo⟩ : ∃ x, x = wr := ⟨_, rfl⟩
              subst hwo
              go_wp2_with fail
              refine Calls.mono (HQ.out _) ?_
              rintro e y1 ⟨rfl, rfl⟩
              go_wp2
              go_loopw [22, 23] (fun hv jv wr => ∃ (j : Nat) (hd : Bool), jv = .int .i64 (j : Int) ∧ hv = .bool hd ∧ j ≤ n ∧ Hid (isB hd (hld (L.take j) i)) ∧ Hid (H3 x1 wr D B r bm bn r' bm' bn' N L M At n)) (fun _ jv _ => n - (intOf jv).toNat)
              case atStart => exact ⟨0, false, rfl, rfl, Nat.zero_le _, Lib.hid (by simp [isB, hld]), hW3⟩
              case round =>
                obtain ⟨j, hd, rfl, rfl, hj, hH, hW4⟩ := hrel
                by_cases hlt5 : j < n
                · obtain ⟨p, k, K, f1, f2, f3, f4, f5, f6, f7, f8, f9, f10⟩ := blk_at HI.out (by rw [HLn.out]; exact hlt5)
                  obtain ⟨g, rfl, -, -, hc⟩ := hW4.out.l.2 (by omega)
                  have c1 := hc j _ f2
                  have HC := Lib.hid c1
                  have HOr := porder_any r bm bn N L (p : Int) (by omega) (by rw [HPN.out] at f8; omega) wr.drew hW4.out.drew.a.ar
                  rw [f3] at HOr
                  have HO5 := Lib.hid HOr
                  have HQk := Lib.hid (fun W => power_any k (by omega) W)
                  rw [f4] at HQk
                  have HSu : Hid (hld (L.take (j + 1)) i ↔ hld (L.take j) i ∨ (p ≤ i ∧ i < p + K)) := Lib.hid (by rw [← f4]; exact hld_succ f10)
                  have hKb : p + K ≤ 65536 := by rw [HPN.out] at f8; omega
                  have hjI : (j : Int) < (n : Int) := by omega
                  have hj0 : (0 : Int) ≤ (j : Int) := by omega
                  have j4 : IntKind.i64.wrap ((j : Int) + 1) = (j : Int) + 1 := by rw [IntKind.wrap_i64]; omega
                  have j5 : IntKind.i64.wrap ((p : Int) + (K : Int)) = (p : Int) + (K : Int) := by rw [IntKind.wrap_i64]; omega
                  clear f1 f2 f3 f4 f5 f6 f7 f8 f9 f10 hc HOr
                  cases hd with
                  | true =>
                    have HN : Hid (isB true (hld (L.take (j + 1)) i)) := Lib.hid (by unfold isB; rw [HSu.out, ← hH.out.iff]; simp)
                    go_wp2
                    refine wp_region_held_drew (S := (fun W => W.cell? ⟨g, j, none⟩ = some (.int .i64 (p : Int)))) (by kernel_rfl) ?_ (fun hHeld => ?_)
                    · (exact HC.out)
                    refine wpAnyH_take (i := 0) (oi := { dst := some 129, op := Go.Op.move (Go.Operand.tmp 22), type := 4, pos := "law.go:215", after := #[], guard := none }) (v := ?_) rfl (by kernel_rfl) (by kernel_rfl) (by kernel_rfl) (fun _ _ _ h => h) (Or.inl ⟨by rfl, ?_⟩) (by assumption) ?_
                    rotate_left
                    · intro w hSw
                      (try dsimp only at hSw)
                      go_simp
                      try (with_reducible rfl)
                    try simp only [Act.put, List.setIfInBounds_toArray, List.set_cons_zero, List.set_cons_succ]
                    refine wpAnyH_take (i := 1) (oi := { dst := some 130, op := Go.Op.move (Go.Operand.tmp 129), type := 4, pos := "law.go:215", after := #[{ on := 0, ground := Go.Ground.data }], guard := none }) (v := ?_) rfl (by kernel_rfl) (by kernel_rfl) (by kernel_rfl) (fun _ _ _ h => h) (Or.inl ⟨by rfl, ?_⟩) (by assumption) ?_
                    rotate_left
                    · intro w hSw
                      (try dsimp only at hSw)
                      go_simp
                      try (with_reducible rfl)
                    try simp only [Act.put, List.setIfInBounds_toArray, List.set_cons_zero, List.set_cons_succ]
                    refine wpAnyH_take (i := 2) (oi := { dst := some 131, op := Go.Op.move (Go.Operand.tmp 21), type := 3, pos := "law.go:215", after := #[{ on := 1, ground := Go.Ground.guard }], guard := some (1, false) }) (v := undef) rfl (by kernel_rfl) (by kernel_rfl) (by kernel_rfl) (fun _ _ _ h => h) (Or.inr ⟨by rfl, rfl⟩) (by assumption) ?_
                    try simp only [Act.put, List.setIfInBounds_toArray, List.set_cons_zero, List.set_cons_succ]
                    refine wpAnyH_take (i := 3) (oi := { dst := some 132, op := Go.Op.move (Go.Operand.tmp 11), type := 34, pos := "law.go:215", after := #[{ on := 1, ground := Go.Ground.guard }], guard := some (1, false) }) (v := undef) rfl (by kernel_rfl) (by kernel_rfl) (by kernel_rfl) (fun _ _ _ h => h) (Or.inr ⟨by rfl, rfl⟩) (by assumption) ?_
                    try simp only [Act.put, List.setIfInBounds_toArray, List.set_cons_zero, List.set_cons_succ]
                    refine wpAnyH_take (i := 4) (oi := { dst := some 133, op := Go.Op.move (Go.Operand.tmp 23), type := 3, pos := "law.go:215", after := #[{ on := 1, ground := Go.Ground.guard }], guard := some (1, false) }) (v := undef) rfl (by kernel_rfl) (by kernel_rfl) (by kernel_rfl) (fun _ _ _ h => h) (Or.inr ⟨by rfl, rfl⟩) (by assumption) ?_
                    try simp only [Act.put, List.setIfInBounds_toArray, List.set_cons_zero, List.set_cons_succ]
                    refine wpAnyH_take (i := 5) (oi := { dst := some 134, op := Go.Op.indexAddr 34 (Go.Operand.tmp 132) (Go.Operand.tmp 133), type := 0, pos := "law.go:215", after := #[{ on := 3, ground := Go.Ground.data }, { on := 4, ground := Go.Ground.data }, { on := 1, ground := Go.Ground.guard }], guard := some (1, false) }) (v := undef) rfl (by kernel_rfl) (by kernel_rfl) (by kernel_rfl) (fun _ _ _ h => h) (Or.inr ⟨by rfl, rfl⟩) (by assumption) ?_
                    try simp only [Act.put, List.setIfInBounds_toArray, List.set_cons_zero, List.set_cons_succ]
                    refine wpAnyH_take (i := 6) (oi := { dst := some 135, op := Go.Op.load 3 (Go.Operand.tmp 134), type := 3, pos := "law.go:215", after := #[{ on := 5, ground := Go.Ground.data }, { on := 1, ground := Go.Ground.guard }], guard := some (1, false) }) (v := undef) rfl (by kernel_rfl) (by kernel_rfl) (by kernel_rfl) (fun _ _ _ h => h) (Or.inr ⟨by rfl, rfl⟩) (by assumption) ?_
                    try simp only [Act.put, List.setIfInBounds_toArray, List.set_cons_zero, List.set_cons_succ]
                    refine wpAnyH_take (i := 7) (oi := { dst := some 136, op := Go.Op.binOp Go.BinOp.geq 3 (Go.Operand.tmp 131) (Go.Operand.tmp 135) 3, type := 4, pos := "law.go:215", after := #[{ on := 2, ground := Go.Ground.data }, { on := 6, ground := Go.Ground.data }, { on := 1, ground := Go.Ground.guard }], guard := some (1, false) }) (v := undef) rfl (by kernel_rfl) (by kernel_rfl) (by kernel_rfl) (fun _ _ _ h => h) (Or.inr ⟨by rfl, rfl⟩) (by assumption) ?_
                    try simp only [Act.put, List.setIfInBounds_toArray, List.set_cons_zero, List.set_cons_succ]
                    refine wpAnyH_take (i := 8) (oi := { dst := some 137, op := Go.Op.move (Go.Operand.tmp 136), type := 4, pos := "law.go:215", after := #[{ on := 7, ground := Go.Ground.data }, { on := 1, ground := Go.Ground.chain }, { on := 1, ground := Go.Ground.guard }], guard := some (1, false) }) (v := undef) rfl (by kernel_rfl) (by kernel_rfl) (by kernel_rfl) (fun _ _ _ h => h) (Or.inr ⟨by rfl, rfl⟩) (by assumption) ?_
                    try simp only [Act.put, List.setIfInBounds_toArray, List.set_cons_zero, List.set_cons_succ]
                    refine wpAnyH_take (i := 9) (oi := { dst := some 138, op := Go.Op.move (Go.Operand.tmp 21), type := 3, pos := "law.go:215", after := #[{ on := 8, ground := Go.Ground.guard }], guard := some (8, true) }) (v := undef) rfl (by kernel_rfl) (by kernel_rfl) (by kernel_rfl) (fun _ _ _ h => h) (Or.inr ⟨by rfl, rfl⟩) (by assumption) ?_
                    try simp only [Act.put, List.setIfInBounds_toArray, List.set_cons_zero, List.set_cons_succ]
                    refine wpAnyH_take (i := 10) (oi := { dst := some 139, op := Go.Op.move (Go.Operand.tmp 11), type := 34, pos := "law.go:215", after := #[{ on := 8, ground := Go.Ground.guard }], guard := some (8, true) }) (v := undef) rfl (by kernel_rfl) (by kernel_rfl) (by kernel_rfl) (fun _ _ _ h => h) (Or.inr ⟨by rfl, rfl⟩) (by assumption) ?_
                    try simp only [Act.put, List.setIfInBounds_toArray, List.set_cons_zero, List.set_cons_succ]
                    refine wpAnyH_take (i := 11) (oi := { dst := some 140, op := Go.Op.move (Go.Operand.tmp 23), type := 3, pos := "law.go:215", after := #[{ on := 8, ground := Go.Ground.guard }], guard := some (8, true) }) (v := undef) rfl (by kernel_rfl) (by kernel_rfl) (by kernel_rfl) (fun _ _ _ h => h) (Or.inr ⟨by rfl, rfl⟩) (by assumption) ?_
                    try simp only [Act.put, List.setIfInBounds_toArray, List.set_cons_zero, List.set_cons_succ]
                    refine wpAnyH_take (i := 12) (oi := { dst := some 141, op := Go.Op.indexAddr 34 (Go.Operand.tmp 139) (Go.Operand.tmp 140), type := 0, pos := "law.go:215", after := #[{ on := 10, ground := Go.Ground.data }, { on := 11, ground := Go.Ground.data }, { on := 8, ground := Go.Ground.guard }], guard := some (8, true) }) (v := undef) rfl (by kernel_rfl) (by kernel_rfl) (by kernel_rfl) (fun _ _ _ h => h) (Or.inr ⟨by rfl, rfl⟩) (by assumption) ?_
                    try simp only [Act.put, List.setIfInBounds_toArray, List.set_cons_zero, List.set_cons_succ]
                    refine wpAnyH_take (i := 13) (oi := { dst := some 142, op := Go.Op.load 3 (Go.Operand.tmp 141), type := 3, pos := "law.go:215", after := #[{ on := 12, ground := Go.Ground.data }, { on := 8, ground := Go.Ground.guard }], guard := some (8, true) }) (v := undef) rfl (by kernel_rfl) (by kernel_rfl) (by kernel_rfl) (fun _ _ _ h => h) (Or.inr ⟨by rfl, rfl⟩) (by assumption) ?_
                    try simp only [Act.put, List.setIfInBounds_toArray, List.set_cons_zero, List.set_cons_succ]
                    refine wpAnyH_take (i := 14) (oi := { dst := some 143, op := Go.Op.move (Go.Operand.tmp 8), type := 24, pos := "law.go:215", after := #[{ on := 8, ground := Go.Ground.guard }], guard := some (8, true) }) (v := undef) rfl (by kernel_rfl) (by kernel_rfl) (by kernel_rfl) (fun _ _ _ h => h) (Or.inr ⟨by rfl, rfl⟩) (by assumption) ?_
                    try simp only [Act.put, List.setIfInBounds_toArray, List.set_cons_zero, List.set_cons_succ]
                    refine wpAnyH_take (i := 15) (oi := { dst := some 144, op := Go.Op.move (Go.Operand.tmp 11), type := 34, pos := "law.go:215", after := #[{ on := 8, ground := Go.Ground.guard }], guard := some (8, true) }) (v := undef) rfl (by kernel_rfl) (by kernel_rfl) (by kernel_rfl) (fun _ _ _ h => h) (Or.inr ⟨by rfl, rfl⟩) (by assumption) ?_
                    try simp only [Act.put, List.setIfInBounds_toArray, List.set_cons_zero, List.set_cons_succ]
                    refine wpAnyH_take (i := 16) (oi := { dst := some 145, op := Go.Op.move (Go.Operand.tmp 23), type := 3, pos := "law.go:215", after := #[{ on := 8, ground := Go.Ground.guard }], guard := some (8, true) }) (v := undef) rfl (by kernel_rfl) (by kernel_rfl) (by kernel_rfl) (fun _ _ _ h => h) (Or.inr ⟨by rfl, rfl⟩) (by assumption) ?_
                    try simp only [Act.put, List.setIfInBounds_toArray, List.set_cons_zero, List.set_cons_succ]
                    refine wpAnyH_take (i := 17) (oi := { dst := some 146, op := Go.Op.indexAddr 34 (Go.Operand.tmp 144) (Go.Operand.tmp 145), type := 0, pos := "law.go:215", after := #[{ on := 15, ground := Go.Ground.data }, { on := 16, ground := Go.Ground.data }, { on := 8, ground := Go.Ground.guard }], guard := some (8, true) }) (v := undef) rfl (by kernel_rfl) (by kernel_rfl) (by kernel_rfl) (fun _ _ _ h => h) (Or.inr ⟨by rfl, rfl⟩) (by assumption) ?_
                    try simp only [Act.put, List.setIfInBounds_toArray, List.set_cons_zero, List.set_cons_succ]
                    refine wpAnyH_take (i := 18) (oi := { dst := some 147, op := Go.Op.load 3 (Go.Operand.tmp 146), type := 3, pos := "law.go:215", after := #[{ on := 17, ground := Go.Ground.data }, { on := 8, ground := Go.Ground.guard }], guard := some (8, true) }) (v := undef) rfl (by kernel_rfl) (by kernel_rfl) (by kernel_rfl) (fun _ _ _ h => h) (Or.inr ⟨by rfl, rfl⟩) (by assumption) ?_
                    try simp only [Act.put, List.setIfInBounds_toArray, List.set_cons_zero, List.set_cons_succ]
                    refine wpAnyH_take (i := 19) (oi := { dst := some 148, op := Go.Op.call { callee := Go.Callee.value (Go.Operand.func 17), args := #[Go.Operand.tmp 143, Go.Operand.tmp 147], argTypes := #[24, 3] }, type := 3, pos := "law.go:215", after := #[{ on := 14, ground := Go.Ground.data }, { on := 18, ground := Go.Ground.data }, { on := 8, ground := Go.Ground.chain }, { on := 8, ground := Go.Ground.guard }], guard := some (8, true) }) (v := undef) rfl (by kernel_rfl) (by kernel_rfl) (by kernel_rfl) (fun _ _ _ h => h) (Or.inr ⟨by rfl, rfl⟩) (by assumption) ?_
                    try simp only [Act.put, List.setIfInBounds_toArray, List.set_cons_zero, List.set_cons_succ]
                    refine wpAnyH_take (i := 20) (oi := { dst := some 149, op := Go.Op.call { callee := Go.Callee.value (Go.Operand.func 27), args := #[Go.Operand.tmp 148], argTypes := #[3] }, type := 3, pos := "law.go:215", after := #[{ on := 19, ground := Go.Ground.data }, { on := 19, ground := Go.Ground.chain }, { on := 8, ground := Go.Ground.guard }], guard := some (8, true) }) (v := undef) rfl (by kernel_rfl) (by kernel_rfl) (by kernel_rfl) (fun _ _ _ h => h) (Or.inr ⟨by rfl, rfl⟩) (by assumption) ?_
                    try simp only [Act.put, List.setIfInBounds_toArray, List.set_cons_zero, List.set_cons_succ]
                    refine wpAnyH_take (i := 21) (oi := { dst := some 150, op := Go.Op.binOp Go.BinOp.add 3 (Go.Operand.tmp 142) (Go.Operand.tmp 149) 3, type := 3, pos := "law.go:215", after := #[{ on := 13, ground := Go.Ground.data }, { on := 20, ground := Go.Ground.data }, { on := 8, ground := Go.Ground.guard }], guard := some (8, true) }) (v := undef) rfl (by kernel_rfl) (by kernel_rfl) (by kernel_rfl) (fun _ _ _ h => h) (Or.inr ⟨by rfl, rfl⟩) (by assumption) ?_
                    try simp only [Act.put, List.setIfInBounds_toArray, List.set_cons_zero, List.set_cons_succ]
                    refine wpAnyH_take (i := 22) (oi := { dst := some 151, op := Go.Op.binOp Go.BinOp.lss 3 (Go.Operand.tmp 138) (Go.Operand.tmp 150) 3, type := 4, pos := "law.go:215", after := #[{ on := 9, ground := Go.Ground.data }, { on := 21, ground := Go.Ground.data }, { on := 8, ground := Go.Ground.guard }], guard := some (8, true) }) (v := undef) rfl (by kernel_rfl) (by kernel_rfl) (by kernel_rfl) (fun _ _ _ h => h) (Or.inr ⟨by rfl, rfl⟩) (by assumption) ?_
                    try simp only [Act.put, List.setIfInBounds_toArray, List.set_cons_zero, List.set_cons_succ]
                    refine wpAnyH_take (i := 23) (oi := { dst := some 152, op := Go.Op.pick (Go.Operand.tmp 137) (Go.Operand.tmp 151) (Go.Operand.const (Go.Value.bool false)), type := 4, pos := "law.go:215", after := #[{ on := 8, ground := Go.Ground.data }, { on := 22, ground := Go.Ground.data }, { on := 1, ground := Go.Ground.guard }], guard := some (1, false) }) (v := undef) rfl (by kernel_rfl) (by kernel_rfl) (by kernel_rfl) (fun _ _ _ h => h) (Or.inr ⟨by rfl, rfl⟩) (by assumption) ?_
                    try simp only [Act.put, List.setIfInBounds_toArray, List.set_cons_zero, List.set_cons_succ]
                    refine wpAnyH_take (i := 24) (oi := { dst := some 153, op := Go.Op.pick (Go.Operand.tmp 130) (Go.Operand.const (Go.Value.bool true)) (Go.Operand.tmp 152), type := 4, pos := "law.go:215", after := #[{ on := 1, ground := Go.Ground.data }, { on := 23, ground := Go.Ground.data }], guard := none }) (v := ?_) rfl (by kernel_rfl) (by kernel_rfl) (by kernel_rfl) (fun _ _ _ h => h) (Or.inl ⟨by rfl, ?_⟩) (by assumption) ?_
                    rotate_left
                    · intro w hSw
                      (try dsimp only at hSw)
                      go_simp
                      try (with_reducible rfl)
                    try simp only [Act.put, List.setIfInBounds_toArray, List.set_cons_zero, List.set_cons_succ]
                    refine wpAnyH_take (i := 25) (oi := { dst := some 22, op := Go.Op.assign (Go.Operand.tmp 153), type := 4, pos := "law.go:215", after := #[{ on := 24, ground := Go.Ground.data }, { on := 20, ground := Go.Ground.chain }, { on := 0, ground := Go.Ground.phase }, { on := 1, ground := Go.Ground.phase }, { on := 2, ground := Go.Ground.phase }, { on := 3, ground := Go.Ground.phase }, { on := 4, ground := Go.Ground.phase }, { on := 5, ground := Go.Ground.phase }, { on := 6, ground := Go.Ground.phase }, { on := 7, ground := Go.Ground.phase }, { on := 8, ground := Go.Ground.phase }, { on := 9, ground := Go.Ground.phase }, { on := 10, ground := Go.Ground.phase }, { on := 11, ground := Go.Ground.phase }, { on := 12, ground := Go.Ground.phase }, { on := 13, ground := Go.Ground.phase }, { on := 14, ground := Go.Ground.phase }, { on := 15, ground := Go.Ground.phase }, { on := 16, ground := Go.Ground.phase }, { on := 17, ground := Go.Ground.phase }, { on := 18, ground := Go.Ground.phase }, { on := 19, ground := Go.Ground.phase }, { on := 20, ground := Go.Ground.phase }, { on := 21, ground := Go.Ground.phase }, { on := 22, ground := Go.Ground.phase }, { on := 23, ground := Go.Ground.phase }, { on := 24, ground := Go.Ground.phase }], guard := none }) (v := ?_) rfl (by kernel_rfl) (by kernel_rfl) (by kernel_rfl) (fun _ _ _ h => h) (Or.inl ⟨by rfl, ?_⟩) (by assumption) ?_
                    rotate_left
                    · intro w hSw
                      (try dsimp only at hSw)
                      go_simp
                      try (with_reducible rfl)
                    try simp only [Act.put, List.setIfInBounds_toArray, List.set_cons_zero, List.set_cons_succ]
                    refine wpAnyH_done (by kernel_rfl) ?_ _
                    go_wp2
                    go_roundw
                    case rel => exact ⟨j + 1, true, by go_num, rfl, hlt5, HN, Lib.hid hW4.out.drew⟩
                    case measure => simp [intOf]; omega
                  | false =>
                    by_cases hge : p ≤ i
                    · have d1 : decide ((p : Int) ≤ (i : Int)) = true := by simp; omega
                      by_cases hlt6 : i < p + K
                      · have d2 : decide ((i : Int) < (p : Int) + (K : Int)) = true := by simp; omega
                        have HN : Hid (isB true (hld (L.take (j + 1)) i)) := Lib.hid (by unfold isB; rw [HSu.out]; simp; exact .inr ⟨hge, hlt6⟩)
                        go_wp2
                        refine wp_region_held_drew (S := (fun W => W.cell? ⟨g, j, none⟩ = some (.int .i64 (p : Int)))) (by kernel_rfl) ?_ (fun hHeld => ?_)
                        · (exact HC.out)
                        refine wpAnyH_take (i := 0) (oi := { dst := some 129, op := Go.Op.move (Go.Operand.tmp 22), type := 4, pos := "law.go:215", after := #[], guard := none }) (v := ?_) rfl (by kernel_rfl) (by kernel_rfl) (by kernel_rfl) (fun _ _ _ h => h) (Or.inl ⟨by rfl, ?_⟩) (by assumption) ?_
                        rotate_left
                        · intro w hSw
                          (try dsimp only at hSw)
                          go_simp
                          try (with_reducible rfl)
                        try simp only [Act.put, List.setIfInBounds_toArray, List.set_cons_zero, List.set_cons_succ]
                        refine wpAnyH_take (i := 1) (oi := { dst := some 130, op := Go.Op.move (Go.Operand.tmp 129), type := 4, pos := "law.go:215", after := #[{ on := 0, ground := Go.Ground.data }], guard := none }) (v := ?_) rfl (by kernel_rfl) (by kernel_rfl) (by kernel_rfl) (fun _ _ _ h => h) (Or.inl ⟨by rfl, ?_⟩) (by assumption) ?_
                        rotate_left
                        · intro w hSw
                          (try dsimp only at hSw)
                          go_simp
                          try (with_reducible rfl)
                        try simp only [Act.put, List.setIfInBounds_toArray, List.set_cons_zero, List.set_cons_succ]
                        refine wpAnyH_take (i := 2) (oi := { dst := some 131, op := Go.Op.move (Go.Operand.tmp 21), type := 3, pos := "law.go:215", after := #[{ on := 1, ground := Go.Ground.guard }], guard := some (1, false) }) (v := ?_) rfl (by kernel_rfl) (by kernel_rfl) (by kernel_rfl) (fun _ _ _ h => h) (Or.inl ⟨by rfl, ?_⟩) (by assumption) ?_
                        rotate_left
                        · intro w hSw
                          (try dsimp only at hSw)
                          go_simp
                          try (with_reducible rfl)
                        try simp only [Act.put, List.setIfInBounds_toArray, List.set_cons_zero, List.set_cons_succ]
                        refine wpAnyH_take (i := 3) (oi := { dst := some 132, op := Go.Op.move (Go.Operand.tmp 11), type := 34, pos := "law.go:215", after := #[{ on := 1, ground := Go.Ground.guard }], guard := some (1, false) }) (v := ?_) rfl (by kernel_rfl) (by kernel_rfl) (by kernel_rfl) (fun _ _ _ h => h) (Or.inl ⟨by rfl, ?_⟩) (by assumption) ?_
                        rotate_left
                        · intro w hSw
                          (try dsimp only at hSw)
                          go_simp
                          try (with_reducible rfl)
                        try simp only [Act.put, List.setIfInBounds_toArray, List.set_cons_zero, List.set_cons_succ]
                        refine wpAnyH_take (i := 4) (oi := { dst := some 133, op := Go.Op.move (Go.Operand.tmp 23), type := 3, pos := "law.go:215", after := #[{ on := 1, ground := Go.Ground.guard }], guard := some (1, false) }) (v := ?_) rfl (by kernel_rfl) (by kernel_rfl) (by kernel_rfl) (fun _ _ _ h => h) (Or.inl ⟨by rfl, ?_⟩) (by assumption) ?_
                        rotate_left
                        · intro w hSw
                          (try dsimp only at hSw)
                          go_simp
                          try (with_reducible rfl)
                        try simp only [Act.put, List.setIfInBounds_toArray, List.set_cons_zero, List.set_cons_succ]
                        refine wpAnyH_take (i := 5) (oi := { dst := some 134, op := Go.Op.indexAddr 34 (Go.Operand.tmp 132) (Go.Operand.tmp 133), type := 0, pos := "law.go:215", after := #[{ on := 3, ground := Go.Ground.data }, { on := 4, ground := Go.Ground.data }, { on := 1, ground := Go.Ground.guard }], guard := some (1, false) }) (v := ?_) rfl (by kernel_rfl) (by kernel_rfl) (by kernel_rfl) (fun _ _ _ h => h) (Or.inl ⟨by rfl, ?_⟩) (by assumption) ?_
                        rotate_left
                        · intro w hSw
                          (try dsimp only at hSw)
                          go_simp
                          try (with_reducible rfl)
                        try simp only [Act.put, List.setIfInBounds_toArray, List.set_cons_zero, List.set_cons_succ]
                        refine wpAnyH_take (i := 6) (oi := { dst := some 135, op := Go.Op.load 3 (Go.Operand.tmp 134), type := 3, pos := "law.go:215", after := #[{ on := 5, ground := Go.Ground.data }, { on := 1, ground := Go.Ground.guard }], guard := some (1, false) }) (v := ?_) rfl (by kernel_rfl) (by kernel_rfl) (by kernel_rfl) (fun _ _ _ h => h) (Or.inl ⟨by rfl, ?_⟩) (by assumption) ?_
                        rotate_left
                        · intro w hSw
                          (try dsimp only at hSw)
                          go_simp
                          try (with_reducible rfl)
                        try simp only [Act.put, List.setIfInBounds_toArray, List.set_cons_zero, List.set_cons_succ]
                        refine wpAnyH_take (i := 7) (oi := { dst := some 136, op := Go.Op.binOp Go.BinOp.geq 3 (Go.Operand.tmp 131) (Go.Operand.tmp 135) 3, type := 4, pos := "law.go:215", after := #[{ on := 2, ground := Go.Ground.data }, { on := 6, ground := Go.Ground.data }, { on := 1, ground := Go.Ground.guard }], guard := some (1, false) }) (v := ?_) rfl (by kernel_rfl) (by kernel_rfl) (by kernel_rfl) (fun _ _ _ h => h) (Or.inl ⟨by rfl, ?_⟩) (by assumption) ?_
                        rotate_left
                        · intro w hSw
                          (try dsimp only at hSw)
                          go_simp
                          try (with_reducible rfl)
                        try simp only [Act.put, List.setIfInBounds_toArray, List.set_cons_zero, List.set_cons_succ]
                        refine wpAnyH_take (i := 8) (oi := { dst := some 137, op := Go.Op.move (Go.Operand.tmp 136), type := 4, pos := "law.go:215", after := #[{ on := 7, ground := Go.Ground.data }, { on := 1, ground := Go.Ground.chain }, { on := 1, ground := Go.Ground.guard }], guard := some (1, false) }) (v := ?_) rfl (by kernel_rfl) (by kernel_rfl) (by kernel_rfl) (fun _ _ _ h => h) (Or.inl ⟨by rfl, ?_⟩) (by assumption) ?_
                        rotate_left
                        · intro w hSw
                          (try dsimp only at hSw)
                          go_simp
                          try (with_reducible rfl)
                        try simp only [Act.put, List.setIfInBounds_toArray, List.set_cons_zero, List.set_cons_succ]
                        refine wpAnyH_take (i := 9) (oi := { dst := some 138, op := Go.Op.move (Go.Operand.tmp 21), type := 3, pos := "law.go:215", after := #[{ on := 8, ground := Go.Ground.guard }], guard := some (8, true) }) (v := ?_) rfl (by kernel_rfl) (by kernel_rfl) (by kernel_rfl) (fun _ _ _ h => h) (Or.inl ⟨by rfl, ?_⟩) (by assumption) ?_
                        rotate_left
                        · intro w hSw
                          (try dsimp only at hSw)
                          go_simp
                          try (with_reducible rfl)
                        try simp only [Act.put, List.setIfInBounds_toArray, List.set_cons_zero, List.set_cons_succ]
                        refine wpAnyH_take (i := 10) (oi := { dst := some 139, op := Go.Op.move (Go.Operand.tmp 11), type := 34, pos := "law.go:215", after := #[{ on := 8, ground := Go.Ground.guard }], guard := some (8, true) }) (v := ?_) rfl (by kernel_rfl) (by kernel_rfl) (by kernel_rfl) (fun _ _ _ h => h) (Or.inl ⟨by rfl, ?_⟩) (by assumption) ?_
                        rotate_left
                        · intro w hSw
                          (try dsimp only at hSw)
                          go_simp
                          try (with_reducible rfl)
                        try simp only [Act.put, List.setIfInBounds_toArray, List.set_cons_zero, List.set_cons_succ]
                        refine wpAnyH_take (i := 11) (oi := { dst := some 140, op := Go.Op.move (Go.Operand.tmp 23), type := 3, pos := "law.go:215", after := #[{ on := 8, ground := Go.Ground.guard }], guard := some (8, true) }) (v := ?_) rfl (by kernel_rfl) (by kernel_rfl) (by kernel_rfl) (fun _ _ _ h => h) (Or.inl ⟨by rfl, ?_⟩) (by assumption) ?_
                        rotate_left
                        · intro w hSw
                          (try dsimp only at hSw)
                          go_simp
                          try (with_reducible rfl)
                        try simp only [Act.put, List.setIfInBounds_toArray, List.set_cons_zero, List.set_cons_succ]
                        refine wpAnyH_take (i := 12) (oi := { dst := some 141, op := Go.Op.indexAddr 34 (Go.Operand.tmp 139) (Go.Operand.tmp 140), type := 0, pos := "law.go:215", after := #[{ on := 10, ground := Go.Ground.data }, { on := 11, ground := Go.Ground.data }, { on := 8, ground := Go.Ground.guard }], guard := some (8, true) }) (v := ?_) rfl (by kernel_rfl) (by kernel_rfl) (by kernel_rfl) (fun _ _ _ h => h) (Or.inl ⟨by rfl, ?_⟩) (by assumption) ?_
                        rotate_left
                        · intro w hSw
                          (try dsimp only at hSw)
                          go_simp
                          try (with_reducible rfl)
                        try simp only [Act.put, List.setIfInBounds_toArray, List.set_cons_zero, List.set_cons_succ]
                        refine wpAnyH_take (i := 13) (oi := { dst := some 142, op := Go.Op.load 3 (Go.Operand.tmp 141), type := 3, pos := "law.go:215", after := #[{ on := 12, ground := Go.Ground.data }, { on := 8, ground := Go.Ground.guard }], guard := some (8, true) }) (v := ?_) rfl (by kernel_rfl) (by kernel_rfl) (by kernel_rfl) (fun _ _ _ h => h) (Or.inl ⟨by rfl, ?_⟩) (by assumption) ?_
                        rotate_left
                        · intro w hSw
                          (try dsimp only at hSw)
                          go_simp
                          try (with_reducible rfl)
                        try simp only [Act.put, List.setIfInBounds_toArray, List.set_cons_zero, List.set_cons_succ]
                        refine wpAnyH_take (i := 14) (oi := { dst := some 143, op := Go.Op.move (Go.Operand.tmp 8), type := 24, pos := "law.go:215", after := #[{ on := 8, ground := Go.Ground.guard }], guard := some (8, true) }) (v := ?_) rfl (by kernel_rfl) (by kernel_rfl) (by kernel_rfl) (fun _ _ _ h => h) (Or.inl ⟨by rfl, ?_⟩) (by assumption) ?_
                        rotate_left
                        · intro w hSw
                          (try dsimp only at hSw)
                          go_simp
                          try (with_reducible rfl)
                        try simp only [Act.put, List.setIfInBounds_toArray, List.set_cons_zero, List.set_cons_succ]
                        refine wpAnyH_take (i := 15) (oi := { dst := some 144, op := Go.Op.move (Go.Operand.tmp 11), type := 34, pos := "law.go:215", after := #[{ on := 8, ground := Go.Ground.guard }], guard := some (8, true) }) (v := ?_) rfl (by kernel_rfl) (by kernel_rfl) (by kernel_rfl) (fun _ _ _ h => h) (Or.inl ⟨by rfl, ?_⟩) (by assumption) ?_
                        rotate_left
                        · intro w hSw
                          (try dsimp only at hSw)
                          go_simp
                          try (with_reducible rfl)
                        try simp only [Act.put, List.setIfInBounds_toArray, List.set_cons_zero, List.set_cons_succ]
                        refine wpAnyH_take (i := 16) (oi := { dst := some 145, op := Go.Op.move (Go.Operand.tmp 23), type := 3, pos := "law.go:215", after := #[{ on := 8, ground := Go.Ground.guard }], guard := some (8, true) }) (v := ?_) rfl (by kernel_rfl) (by kernel_rfl) (by kernel_rfl) (fun _ _ _ h => h) (Or.inl ⟨by rfl, ?_⟩) (by assumption) ?_
                        rotate_left
                        · intro w hSw
                          (try dsimp only at hSw)
                          go_simp
                          try (with_reducible rfl)
                        try simp only [Act.put, List.setIfInBounds_toArray, List.set_cons_zero, List.set_cons_succ]
                        refine wpAnyH_take (i := 17) (oi := { dst := some 146, op := Go.Op.indexAddr 34 (Go.Operand.tmp 144) (Go.Operand.tmp 145), type := 0, pos := "law.go:215", after := #[{ on := 15, ground := Go.Ground.data }, { on := 16, ground := Go.Ground.data }, { on := 8, ground := Go.Ground.guard }], guard := some (8, true) }) (v := ?_) rfl (by kernel_rfl) (by kernel_rfl) (by kernel_rfl) (fun _ _ _ h => h) (Or.inl ⟨by rfl, ?_⟩) (by assumption) ?_
                        rotate_left
                        · intro w hSw
                          (try dsimp only at hSw)
                          go_simp
                          try (with_reducible rfl)
                        try simp only [Act.put, List.setIfInBounds_toArray, List.set_cons_zero, List.set_cons_succ]
                        refine wpAnyH_take (i := 18) (oi := { dst := some 147, op := Go.Op.load 3 (Go.Operand.tmp 146), type := 3, pos := "law.go:215", after := #[{ on := 17, ground := Go.Ground.data }, { on := 8, ground := Go.Ground.guard }], guard := some (8, true) }) (v := ?_) rfl (by kernel_rfl) (by kernel_rfl) (by kernel_rfl) (fun _ _ _ h => h) (Or.inl ⟨by rfl, ?_⟩) (by assumption) ?_
                        rotate_left
                        · intro w hSw
                          (try dsimp only at hSw)
                          go_simp
                          try (with_reducible rfl)
                        try simp only [Act.put, List.setIfInBounds_toArray, List.set_cons_zero, List.set_cons_succ]
                        refine wpAnyH_ready (rs := [19]) (by kernel_rfl) (by simp) ?_
                        refine AllReadyH.cons (o := { dst := some 148, op := Go.Op.call { callee := Go.Callee.value (Go.Operand.func 17), args := #[Go.Operand.tmp 143, Go.Operand.tmp 147], argTypes := #[24, 3] }, type := 3, pos := "law.go:215", after := #[{ on := 14, ground := Go.Ground.data }, { on := 18, ground := Go.Ground.data }, { on := 8, ground := Go.Ground.chain }, { on := 8, ground := Go.Ground.guard }], guard := some (8, true) }) rfl (fun K hK => ?_) AllReadyH.nil
                        go_simp
                        (go_at_call 17; (with_reducible refine Calls.mono HO5.out ?_); rintro e W' ⟨rfl, rfl⟩)
                        go_wp2_with fail
                        refine hK.out _ _ ?_ (fun hHeld => ?_)
                        · (exact HC.out)
                        clear hK K
                        try simp only [Act.put, List.setIfInBounds_toArray, List.set_cons_zero, List.set_cons_succ]
                        refine wpAnyH_ready (rs := [20]) (by kernel_rfl) (by simp) ?_
                        refine AllReadyH.cons (o := { dst := some 149, op := Go.Op.call { callee := Go.Callee.value (Go.Operand.func 27), args := #[Go.Operand.tmp 148], argTypes := #[3] }, type := 3, pos := "law.go:215", after := #[{ on := 19, ground := Go.Ground.data }, { on := 19, ground := Go.Ground.chain }, { on := 8, ground := Go.Ground.guard }], guard := some (8, true) }) rfl (fun K hK => ?_) AllReadyH.nil
                        go_simp
                        (go_at_call 27; (with_reducible refine Calls.mono (HQk.out _) ?_); rintro e W' ⟨rfl, rfl⟩)
                        go_wp2_with fail
                        refine hK.out _ _ ?_ (fun hHeld => ?_)
                        · (exact HC.out)
                        clear hK K
                        try simp only [Act.put, List.setIfInBounds_toArray, List.set_cons_zero, List.set_cons_succ]
                        refine wpAnyH_take (i := 21) (oi := { dst := some 150, op := Go.Op.binOp Go.BinOp.add 3 (Go.Operand.tmp 142) (Go.Operand.tmp 149) 3, type := 3, pos := "law.go:215", after := #[{ on := 13, ground := Go.Ground.data }, { on := 20, ground := Go.Ground.data }, { on := 8, ground := Go.Ground.guard }], guard := some (8, true) }) (v := ?_) rfl (by kernel_rfl) (by kernel_rfl) (by kernel_rfl) (fun _ _ _ h => h) (Or.inl ⟨by rfl, ?_⟩) (by assumption) ?_
                        rotate_left
                        · intro w hSw
                          (try dsimp only at hSw)
                          go_simp
                          try (with_reducible rfl)
                        try simp only [Act.put, List.setIfInBounds_toArray, List.set_cons_zero, List.set_cons_succ]
                        refine wpAnyH_take (i := 22) (oi := { dst := some 151, op := Go.Op.binOp Go.BinOp.lss 3 (Go.Operand.tmp 138) (Go.Operand.tmp 150) 3, type := 4, pos := "law.go:215", after := #[{ on := 9, ground := Go.Ground.data }, { on := 21, ground := Go.Ground.data }, { on := 8, ground := Go.Ground.guard }], guard := some (8, true) }) (v := ?_) rfl (by kernel_rfl) (by kernel_rfl) (by kernel_rfl) (fun _ _ _ h => h) (Or.inl ⟨by rfl, ?_⟩) (by assumption) ?_
                        rotate_left
                        · intro w hSw
                          (try dsimp only at hSw)
                          go_simp
                          try (with_reducible rfl)
                        try simp only [Act.put, List.setIfInBounds_toArray, List.set_cons_zero, List.set_cons_succ]
                        refine wpAnyH_take (i := 23) (oi := { dst := some 152, op := Go.Op.pick (Go.Operand.tmp 137) (Go.Operand.tmp 151) (Go.Operand.const (Go.Value.bool false)), type := 4, pos := "law.go:215", after := #[{ on := 8, ground := Go.Ground.data }, { on := 22, ground := Go.Ground.data }, { on := 1, ground := Go.Ground.guard }], guard := some (1, false) }) (v := ?_) rfl (by kernel_rfl) (by kernel_rfl) (by kernel_rfl) (fun _ _ _ h => h) (Or.inl ⟨by rfl, ?_⟩) (by assumption) ?_
                        rotate_left
                        · intro w hSw
                          (try dsimp only at hSw)
                          go_simp
                          try (with_reducible rfl)
                        try simp only [Act.put, List.setIfInBounds_toArray, List.set_cons_zero, List.set_cons_succ]
                        refine wpAnyH_take (i := 24) (oi := { dst := some 153, op := Go.Op.pick (Go.Operand.tmp 130) (Go.Operand.const (Go.Value.bool true)) (Go.Operand.tmp 152), type := 4, pos := "law.go:215", after := #[{ on := 1, ground := Go.Ground.data }, { on := 23, ground := Go.Ground.data }], guard := none }) (v := ?_) rfl (by kernel_rfl) (by kernel_rfl) (by kernel_rfl) (fun _ _ _ h => h) (Or.inl ⟨by rfl, ?_⟩) (by assumption) ?_
                        rotate_left
                        · intro w hSw
                          (try dsimp only at hSw)
                          go_simp
                          try (with_reducible rfl)
                        try simp only [Act.put, List.setIfInBounds_toArray, List.set_cons_zero, List.set_cons_succ]
                        refine wpAnyH_take (i := 25) (oi := { dst := some 22, op := Go.Op.assign (Go.Operand.tmp 153), type := 4, pos := "law.go:215", after := #[{ on := 24, ground := Go.Ground.data }, { on := 20, ground := Go.Ground.chain }, { on := 0, ground := Go.Ground.phase }, { on := 1, ground := Go.Ground.phase }, { on := 2, ground := Go.Ground.phase }, { on := 3, ground := Go.Ground.phase }, { on := 4, ground := Go.Ground.phase }, { on := 5, ground := Go.Ground.phase }, { on := 6, ground := Go.Ground.phase }, { on := 7, ground := Go.Ground.phase }, { on := 8, ground := Go.Ground.phase }, { on := 9, ground := Go.Ground.phase }, { on := 10, ground := Go.Ground.phase }, { on := 11, ground := Go.Ground.phase }, { on := 12, ground := Go.Ground.phase }, { on := 13, ground := Go.Ground.phase }, { on := 14, ground := Go.Ground.phase }, { on := 15, ground := Go.Ground.phase }, { on := 16, ground := Go.Ground.phase }, { on := 17, ground := Go.Ground.phase }, { on := 18, ground := Go.Ground.phase }, { on := 19, ground := Go.Ground.phase }, { on := 20, ground := Go.Ground.phase }, { on := 21, ground := Go.Ground.phase }, { on := 22, ground := Go.Ground.phase }, { on := 23, ground := Go.Ground.phase }, { on := 24, ground := Go.Ground.phase }], guard := none }) (v := ?_) rfl (by kernel_rfl) (by kernel_rfl) (by kernel_rfl) (fun _ _ _ h => h) (Or.inl ⟨by rfl, ?_⟩) (by assumption) ?_
                        rotate_left
                        · intro w hSw
                          (try dsimp only at hSw)
                          go_simp
                          try (with_reducible rfl)
                        try simp only [Act.put, List.setIfInBounds_toArray, List.set_cons_zero, List.set_cons_succ]
                        refine wpAnyH_done (by kernel_rfl) ?_ _
                        go_wp2
                        go_roundw
                        case rel => exact ⟨j + 1, true, by go_num, rfl, hlt5, HN, Lib.hid hW4.out.drew⟩
                        case measure => simp [intOf]; omega
                      · have d2 : decide ((i : Int) < (p : Int) + (K : Int)) = false := by simp; omega
                        have HN : Hid (isB false (hld (L.take (j + 1)) i)) := Lib.hid (by unfold isB; rw [HSu.out, ← hH.out.iff]; simp; intro h; omega)
                        go_wp2
                        refine wp_region_held_drew (S := (fun W => W.cell? ⟨g, j, none⟩ = some (.int .i64 (p : Int)))) (by kernel_rfl) ?_ (fun hHeld => ?_)
                        · (exact HC.out)
                        refine wpAnyH_take (i := 0) (oi := { dst := some 129, op := Go.Op.move (Go.Operand.tmp 22), type := 4, pos := "law.go:215", after := #[], guard := none }) (v := ?_) rfl (by kernel_rfl) (by kernel_rfl) (by kernel_rfl) (fun _ _ _ h => h) (Or.inl ⟨by rfl, ?_⟩) (by assumption) ?_
                        rotate_left
                        · intro w hSw
                          (try dsimp only at hSw)
                          go_simp
                          try (with_reducible rfl)
                        try simp only [Act.put, List.setIfInBounds_toArray, List.set_cons_zero, List.set_cons_succ]
                        refine wpAnyH_take (i := 1) (oi := { dst := some 130, op := Go.Op.move (Go.Operand.tmp 129), type := 4, pos := "law.go:215", after := #[{ on := 0, ground := Go.Ground.data }], guard := none }) (v := ?_) rfl (by kernel_rfl) (by kernel_rfl) (by kernel_rfl) (fun _ _ _ h => h) (Or.inl ⟨by rfl, ?_⟩) (by assumption) ?_
                        rotate_left
                        · intro w hSw
                          (try dsimp only at hSw)
                          go_simp
                          try (with_reducible rfl)
                        try simp only [Act.put, List.setIfInBounds_toArray, List.set_cons_zero, List.set_cons_succ]
                        refine wpAnyH_take (i := 2) (oi := { dst := some 131, op := Go.Op.move (Go.Operand.tmp 21), type := 3, pos := "law.go:215", after := #[{ on := 1, ground := Go.Ground.guard }], guard := some (1, false) }) (v := ?_) rfl (by kernel_rfl) (by kernel_rfl) (by kernel_rfl) (fun _ _ _ h => h) (Or.inl ⟨by rfl, ?_⟩) (by assumption) ?_
                        rotate_left
                        · intro w hSw
                          (try dsimp only at hSw)
                          go_simp
                          try (with_reducible rfl)
                        try simp only [Act.put, List.setIfInBounds_toArray, List.set_cons_zero, List.set_cons_succ]
                        refine wpAnyH_take (i := 3) (oi := { dst := some 132, op := Go.Op.move (Go.Operand.tmp 11), type := 34, pos := "law.go:215", after := #[{ on := 1, ground := Go.Ground.guard }], guard := some (1, false) }) (v := ?_) rfl (by kernel_rfl) (by kernel_rfl) (by kernel_rfl) (fun _ _ _ h => h) (Or.inl ⟨by rfl, ?_⟩) (by assumption) ?_
                        rotate_left
                        · intro w hSw
                          (try dsimp only at hSw)
                          go_simp
                          try (with_reducible rfl)
                        try simp only [Act.put, List.setIfInBounds_toArray, List.set_cons_zero, List.set_cons_succ]
                        refine wpAnyH_take (i := 4) (oi := { dst := some 133, op := Go.Op.move (Go.Operand.tmp 23), type := 3, pos := "law.go:215", after := #[{ on := 1, ground := Go.Ground.guard }], guard := some (1, false) }) (v := ?_) rfl (by kernel_rfl) (by kernel_rfl) (by kernel_rfl) (fun _ _ _ h => h) (Or.inl ⟨by rfl, ?_⟩) (by assumption) ?_
                        rotate_left
                        · intro w hSw
                          (try dsimp only at hSw)
                          go_simp
                          try (with_reducible rfl)
                        try simp only [Act.put, List.setIfInBounds_toArray, List.set_cons_zero, List.set_cons_succ]
                        refine wpAnyH_take (i := 5) (oi := { dst := some 134, op := Go.Op.indexAddr 34 (Go.Operand.tmp 132) (Go.Operand.tmp 133), type := 0, pos := "law.go:215", after := #[{ on := 3, ground := Go.Ground.data }, { on := 4, ground := Go.Ground.data }, { on := 1, ground := Go.Ground.guard }], guard := some (1, false) }) (v := ?_) rfl (by kernel_rfl) (by kernel_rfl) (by kernel_rfl) (fun _ _ _ h => h) (Or.inl ⟨by rfl, ?_⟩) (by assumption) ?_
                        rotate_left
                        · intro w hSw
                          (try dsimp only at hSw)
                          go_simp
                          try (with_reducible rfl)
                        try simp only [Act.put, List.setIfInBounds_toArray, List.set_cons_zero, List.set_cons_succ]
                        refine wpAnyH_take (i := 6) (oi := { dst := some 135, op := Go.Op.load 3 (Go.Operand.tmp 134), type := 3, pos := "law.go:215", after := #[{ on := 5, ground := Go.Ground.data }, { on := 1, ground := Go.Ground.guard }], guard := some (1, false) }) (v := ?_) rfl (by kernel_rfl) (by kernel_rfl) (by kernel_rfl) (fun _ _ _ h => h) (Or.inl ⟨by rfl, ?_⟩) (by assumption) ?_
                        rotate_left
                        · intro w hSw
                          (try dsimp only at hSw)
                          go_simp
                          try (with_reducible rfl)
                        try simp only [Act.put, List.setIfInBounds_toArray, List.set_cons_zero, List.set_cons_succ]
                        refine wpAnyH_take (i := 7) (oi := { dst := some 136, op := Go.Op.binOp Go.BinOp.geq 3 (Go.Operand.tmp 131) (Go.Operand.tmp 135) 3, type := 4, pos := "law.go:215", after := #[{ on := 2, ground := Go.Ground.data }, { on := 6, ground := Go.Ground.data }, { on := 1, ground := Go.Ground.guard }], guard := some (1, false) }) (v := ?_) rfl (by kernel_rfl) (by kernel_rfl) (by kernel_rfl) (fun _ _ _ h => h) (Or.inl ⟨by rfl, ?_⟩) (by assumption) ?_
                        rotate_left
                        · intro w hSw
                          (try dsimp only at hSw)
                          go_simp
                          try (with_reducible rfl)
                        try simp only [Act.put, List.setIfInBounds_toArray, List.set_cons_zero, List.set_cons_succ]
                        refine wpAnyH_take (i := 8) (oi := { dst := some 137, op := Go.Op.move (Go.Operand.tmp 136), type := 4, pos := "law.go:215", after := #[{ on := 7, ground := Go.Ground.data }, { on := 1, ground := Go.Ground.chain }, { on := 1, ground := Go.Ground.guard }], guard := some (1, false) }) (v := ?_) rfl (by kernel_rfl) (by kernel_rfl) (by kernel_rfl) (fun _ _ _ h => h) (Or.inl ⟨by rfl, ?_⟩) (by assumption) ?_
                        rotate_left
                        · intro w hSw
                          (try dsimp only at hSw)
                          go_simp
                          try (with_reducible rfl)
                        try simp only [Act.put, List.setIfInBounds_toArray, List.set_cons_zero, List.set_cons_succ]
                        refine wpAnyH_take (i := 9) (oi := { dst := some 138, op := Go.Op.move (Go.Operand.tmp 21), type := 3, pos := "law.go:215", after := #[{ on := 8, ground := Go.Ground.guard }], guard := some (8, true) }) (v := ?_) rfl (by kernel_rfl) (by kernel_rfl) (by kernel_rfl) (fun _ _ _ h => h) (Or.inl ⟨by rfl, ?_⟩) (by assumption) ?_
                        rotate_left
                        · intro w hSw
                          (try dsimp only at hSw)
                          go_simp
                          try (with_reducible rfl)
                        try simp only [Act.put, List.setIfInBounds_toArray, List.set_cons_zero, List.set_cons_succ]
                        refine wpAnyH_take (i := 10) (oi := { dst := some 139, op := Go.Op.move (Go.Operand.tmp 11), type := 34, pos := "law.go:215", after := #[{ on := 8, ground := Go.Ground.guard }], guard := some (8, true) }) (v := ?_) rfl (by kernel_rfl) (by kernel_rfl) (by kernel_rfl) (fun _ _ _ h => h) (Or.inl ⟨by rfl, ?_⟩) (by assumption) ?_
                        rotate_left
                        · intro w hSw
                          (try dsimp only at hSw)
                          go_simp
                          try (with_reducible rfl)
                        try simp only [Act.put, List.setIfInBounds_toArray, List.set_cons_zero, List.set_cons_succ]
                        refine wpAnyH_take (i := 11) (oi := { dst := some 140, op := Go.Op.move (Go.Operand.tmp 23), type := 3, pos := "law.go:215", after := #[{ on := 8, ground := Go.Ground.guard }], guard := some (8, true) }) (v := ?_) rfl (by kernel_rfl) (by kernel_rfl) (by kernel_rfl) (fun _ _ _ h => h) (Or.inl ⟨by rfl, ?_⟩) (by assumption) ?_
                        rotate_left
                        · intro w hSw
                          (try dsimp only at hSw)
                          go_simp
                          try (with_reducible rfl)
                        try simp only [Act.put, List.setIfInBounds_toArray, List.set_cons_zero, List.set_cons_succ]
                        refine wpAnyH_take (i := 12) (oi := { dst := some 141, op := Go.Op.indexAddr 34 (Go.Operand.tmp 139) (Go.Operand.tmp 140), type := 0, pos := "law.go:215", after := #[{ on := 10, ground := Go.Ground.data }, { on := 11, ground := Go.Ground.data }, { on := 8, ground := Go.Ground.guard }], guard := some (8, true) }) (v := ?_) rfl (by kernel_rfl) (by kernel_rfl) (by kernel_rfl) (fun _ _ _ h => h) (Or.inl ⟨by rfl, ?_⟩) (by assumption) ?_
                        rotate_left
                        · intro w hSw
                          (try dsimp only at hSw)
                          go_simp
                          try (with_reducible rfl)
                        try simp only [Act.put, List.setIfInBounds_toArray, List.set_cons_zero, List.set_cons_succ]
                        refine wpAnyH_take (i := 13) (oi := { dst := some 142, op := Go.Op.load 3 (Go.Operand.tmp 141), type := 3, pos := "law.go:215", after := #[{ on := 12, ground := Go.Ground.data }, { on := 8, ground := Go.Ground.guard }], guard := some (8, true) }) (v := ?_) rfl (by kernel_rfl) (by kernel_rfl) (by kernel_rfl) (fun _ _ _ h => h) (Or.inl ⟨by rfl, ?_⟩) (by assumption) ?_
                        rotate_left
                        · intro w hSw
                          (try dsimp only at hSw)
                          go_simp
                          try (with_reducible rfl)
                        try simp only [Act.put, List.setIfInBounds_toArray, List.set_cons_zero, List.set_cons_succ]
                        refine wpAnyH_take (i := 14) (oi := { dst := some 143, op := Go.Op.move (Go.Operand.tmp 8), type := 24, pos := "law.go:215", after := #[{ on := 8, ground := Go.Ground.guard }], guard := some (8, true) }) (v := ?_) rfl (by kernel_rfl) (by kernel_rfl) (by kernel_rfl) (fun _ _ _ h => h) (Or.inl ⟨by rfl, ?_⟩) (by assumption) ?_
                        rotate_left
                        · intro w hSw
                          (try dsimp only at hSw)
                          go_simp
                          try (with_reducible rfl)
                        try simp only [Act.put, List.setIfInBounds_toArray, List.set_cons_zero, List.set_cons_succ]
                        refine wpAnyH_take (i := 15) (oi := { dst := some 144, op := Go.Op.move (Go.Operand.tmp 11), type := 34, pos := "law.go:215", after := #[{ on := 8, ground := Go.Ground.guard }], guard := some (8, true) }) (v := ?_) rfl (by kernel_rfl) (by kernel_rfl) (by kernel_rfl) (fun _ _ _ h => h) (Or.inl ⟨by rfl, ?_⟩) (by assumption) ?_
                        rotate_left
                        · intro w hSw
                          (try dsimp only at hSw)
                          go_simp
                          try (with_reducible rfl)
                        try simp only [Act.put, List.setIfInBounds_toArray, List.set_cons_zero, List.set_cons_succ]
                        refine wpAnyH_take (i := 16) (oi := { dst := some 145, op := Go.Op.move (Go.Operand.tmp 23), type := 3, pos := "law.go:215", after := #[{ on := 8, ground := Go.Ground.guard }], guard := some (8, true) }) (v := ?_) rfl (by kernel_rfl) (by kernel_rfl) (by kernel_rfl) (fun _ _ _ h => h) (Or.inl ⟨by rfl, ?_⟩) (by assumption) ?_
                        rotate_left
                        · intro w hSw
                          (try dsimp only at hSw)
                          go_simp
                          try (with_reducible rfl)
                        try simp only [Act.put, List.setIfInBounds_toArray, List.set_cons_zero, List.set_cons_succ]
                        refine wpAnyH_take (i := 17) (oi := { dst := some 146, op := Go.Op.indexAddr 34 (Go.Operand.tmp 144) (Go.Operand.tmp 145), type := 0, pos := "law.go:215", after := #[{ on := 15, ground := Go.Ground.data }, { on := 16, ground := Go.Ground.data }, { on := 8, ground := Go.Ground.guard }], guard := some (8, true) }) (v := ?_) rfl (by kernel_rfl) (by kernel_rfl) (by kernel_rfl) (fun _ _ _ h => h) (Or.inl ⟨by rfl, ?_⟩) (by assumption) ?_
                        rotate_left
                        · intro w hSw
                          (try dsimp only at hSw)
                          go_simp
                          try (with_reducible rfl)
                        try simp only [Act.put, List.setIfInBounds_toArray, List.set_cons_zero, List.set_cons_succ]
                        refine wpAnyH_take (i := 18) (oi := { dst := some 147, op := Go.Op.load 3 (Go.Operand.tmp 146), type := 3, pos := "law.go:215", after := #[{ on := 17, ground := Go.Ground.data }, { on := 8, ground := Go.Ground.guard }], guard := some (8, true) }) (v := ?_) rfl (by kernel_rfl) (by kernel_rfl) (by kernel_rfl) (fun _ _ _ h => h) (Or.inl ⟨by rfl, ?_⟩) (by assumption) ?_
                        rotate_left
                        · intro w hSw
                          (try dsimp only at hSw)
                          go_simp
                          try (with_reducible rfl)
                        try simp only [Act.put, List.setIfInBounds_toArray, List.set_cons_zero, List.set_cons_succ]
                        refine wpAnyH_ready (rs := [19]) (by kernel_rfl) (by simp) ?_
                        refine AllReadyH.cons (o := { dst := some 148, op := Go.Op.call { callee := Go.Callee.value (Go.Operand.func 17), args := #[Go.Operand.tmp 143, Go.Operand.tmp 147], argTypes := #[24, 3] }, type := 3, pos := "law.go:215", after := #[{ on := 14, ground := Go.Ground.data }, { on := 18, ground := Go.Ground.data }, { on := 8, ground := Go.Ground.chain }, { on := 8, ground := Go.Ground.guard }], guard := some (8, true) }) rfl (fun K hK => ?_) AllReadyH.nil
                        go_simp
                        (go_at_call 17; (with_reducible refine Calls.mono HO5.out ?_); rintro e W' ⟨rfl, rfl⟩)
                        go_wp2_with fail
                        refine hK.out _ _ ?_ (fun hHeld => ?_)
                        · (exact HC.out)
                        clear hK K
                        try simp only [Act.put, List.setIfInBounds_toArray, List.set_cons_zero, List.set_cons_succ]
                        refine wpAnyH_ready (rs := [20]) (by kernel_rfl) (by simp) ?_
                        refine AllReadyH.cons (o := { dst := some 149, op := Go.Op.call { callee := Go.Callee.value (Go.Operand.func 27), args := #[Go.Operand.tmp 148], argTypes := #[3] }, type := 3, pos := "law.go:215", after := #[{ on := 19, ground := Go.Ground.data }, { on := 19, ground := Go.Ground.chain }, { on := 8, ground := Go.Ground.guard }], guard := some (8, true) }) rfl (fun K hK => ?_) AllReadyH.nil
                        go_simp
                        (go_at_call 27; (with_reducible refine Calls.mono (HQk.out _) ?_); rintro e W' ⟨rfl, rfl⟩)
                        go_wp2_with fail
                        refine hK.out _ _ ?_ (fun hHeld => ?_)
                        · (exact HC.out)
                        clear hK K
                        try simp only [Act.put, List.setIfInBounds_toArray, List.set_cons_zero, List.set_cons_succ]
                        refine wpAnyH_take (i := 21) (oi := { dst := some 150, op := Go.Op.binOp Go.BinOp.add 3 (Go.Operand.tmp 142) (Go.Operand.tmp 149) 3, type := 3, pos := "law.go:215", after := #[{ on := 13, ground := Go.Ground.data }, { on := 20, ground := Go.Ground.data }, { on := 8, ground := Go.Ground.guard }], guard := some (8, true) }) (v := ?_) rfl (by kernel_rfl) (by kernel_rfl) (by kernel_rfl) (fun _ _ _ h => h) (Or.inl ⟨by rfl, ?_⟩) (by assumption) ?_
                        rotate_left
                        · intro w hSw
                          (try dsimp only at hSw)
                          go_simp
                          try (with_reducible rfl)
                        try simp only [Act.put, List.setIfInBounds_toArray, List.set_cons_zero, List.set_cons_succ]
                        refine wpAnyH_take (i := 22) (oi := { dst := some 151, op := Go.Op.binOp Go.BinOp.lss 3 (Go.Operand.tmp 138) (Go.Operand.tmp 150) 3, type := 4, pos := "law.go:215", after := #[{ on := 9, ground := Go.Ground.data }, { on := 21, ground := Go.Ground.data }, { on := 8, ground := Go.Ground.guard }], guard := some (8, true) }) (v := ?_) rfl (by kernel_rfl) (by kernel_rfl) (by kernel_rfl) (fun _ _ _ h => h) (Or.inl ⟨by rfl, ?_⟩) (by assumption) ?_
                        rotate_left
                        · intro w hSw
                          (try dsimp only at hSw)
                          go_simp
                          try (with_reducible rfl)
                        try simp only [Act.put, List.setIfInBounds_toArray, List.set_cons_zero, List.set_cons_succ]
                        refine wpAnyH_take (i := 23) (oi := { dst := some 152, op := Go.Op.pick (Go.Operand.tmp 137) (Go.Operand.tmp 151) (Go.Operand.const (Go.Value.bool false)), type := 4, pos := "law.go:215", after := #[{ on := 8, ground := Go.Ground.data }, { on := 22, ground := Go.Ground.data }, { on := 1, ground := Go.Ground.guard }], guard := some (1, false) }) (v := ?_) rfl (by kernel_rfl) (by kernel_rfl) (by kernel_rfl) (fun _ _ _ h => h) (Or.inl ⟨by rfl, ?_⟩) (by assumption) ?_
                        rotate_left
                        · intro w hSw
                          (try dsimp only at hSw)
                          go_simp
                          try (with_reducible rfl)
                        try simp only [Act.put, List.setIfInBounds_toArray, List.set_cons_zero, List.set_cons_succ]
                        refine wpAnyH_take (i := 24) (oi := { dst := some 153, op := Go.Op.pick (Go.Operand.tmp 130) (Go.Operand.const (Go.Value.bool true)) (Go.Operand.tmp 152), type := 4, pos := "law.go:215", after := #[{ on := 1, ground := Go.Ground.data }, { on := 23, ground := Go.Ground.data }], guard := none }) (v := ?_) rfl (by kernel_rfl) (by kernel_rfl) (by kernel_rfl) (fun _ _ _ h => h) (Or.inl ⟨by rfl, ?_⟩) (by assumption) ?_
                        rotate_left
                        · intro w hSw
                          (try dsimp only at hSw)
                          go_simp
                          try (with_reducible rfl)
                        try simp only [Act.put, List.setIfInBounds_toArray, List.set_cons_zero, List.set_cons_succ]
                        refine wpAnyH_take (i := 25) (oi := { dst := some 22, op := Go.Op.assign (Go.Operand.tmp 153), type := 4, pos := "law.go:215", after := #[{ on := 24, ground := Go.Ground.data }, { on := 20, ground := Go.Ground.chain }, { on := 0, ground := Go.Ground.phase }, { on := 1, ground := Go.Ground.phase }, { on := 2, ground := Go.Ground.phase }, { on := 3, ground := Go.Ground.phase }, { on := 4, ground := Go.Ground.phase }, { on := 5, ground := Go.Ground.phase }, { on := 6, ground := Go.Ground.phase }, { on := 7, ground := Go.Ground.phase }, { on := 8, ground := Go.Ground.phase }, { on := 9, ground := Go.Ground.phase }, { on := 10, ground := Go.Ground.phase }, { on := 11, ground := Go.Ground.phase }, { on := 12, ground := Go.Ground.phase }, { on := 13, ground := Go.Ground.phase }, { on := 14, ground := Go.Ground.phase }, { on := 15, ground := Go.Ground.phase }, { on := 16, ground := Go.Ground.phase }, { on := 17, ground := Go.Ground.phase }, { on := 18, ground := Go.Ground.phase }, { on := 19, ground := Go.Ground.phase }, { on := 20, ground := Go.Ground.phase }, { on := 21, ground := Go.Ground.phase }, { on := 22, ground := Go.Ground.phase }, { on := 23, ground := Go.Ground.phase }, { on := 24, ground := Go.Ground.phase }], guard := none }) (v := ?_) rfl (by kernel_rfl) (by kernel_rfl) (by kernel_rfl) (fun _ _ _ h => h) (Or.inl ⟨by rfl, ?_⟩) (by assumption) ?_
                        rotate_left
                        · intro w hSw
                          (try dsimp only at hSw)
                          go_simp
                          try (with_reducible rfl)
                        try simp only [Act.put, List.setIfInBounds_toArray, List.set_cons_zero, List.set_cons_succ]
                        refine wpAnyH_done (by kernel_rfl) ?_ _
                        go_wp2
                        go_roundw
                        case rel => exact ⟨j + 1, false, by go_num, rfl, hlt5, HN, Lib.hid hW4.out.drew⟩
                        case measure => simp [intOf]; omega
                    · have d1 : decide ((p : Int) ≤ (i : Int)) = false := by simp; omega
                      have HN : Hid (isB false (hld (L.take (j + 1)) i)) := Lib.hid (by unfold isB; rw [HSu.out, ← hH.out.iff]; simp; intro h; omega)
                      go_wp2
                      refine wp_region_held_drew (S := (fun W => W.cell? ⟨g, j, none⟩ = some (.int .i64 (p : Int)))) (by kernel_rfl) ?_ (fun hHeld => ?_)
                      · (exact HC.out)
                      refine wpAnyH_take (i := 0) (oi := { dst := some 129, op := Go.Op.move (Go.Operand.tmp 22), type := 4, pos := "law.go:215", after := #[], guard := none }) (v := ?_) rfl (by kernel_rfl) (by kernel_rfl) (by kernel_rfl) (fun _ _ _ h => h) (Or.inl ⟨by rfl, ?_⟩) (by assumption) ?_
                      rotate_left
                      · intro w hSw
                        (try dsimp only at hSw)
                        go_simp
                        try (with_reducible rfl)
                      try simp only [Act.put, List.setIfInBounds_toArray, List.set_cons_zero, List.set_cons_succ]
                      refine wpAnyH_take (i := 1) (oi := { dst := some 130, op := Go.Op.move (Go.Operand.tmp 129), type := 4, pos := "law.go:215", after := #[{ on := 0, ground := Go.Ground.data }], guard := none }) (v := ?_) rfl (by kernel_rfl) (by kernel_rfl) (by kernel_rfl) (fun _ _ _ h => h) (Or.inl ⟨by rfl, ?_⟩) (by assumption) ?_
                      rotate_left
                      · intro w hSw
                        (try dsimp only at hSw)
                        go_simp
                        try (with_reducible rfl)
                      try simp only [Act.put, List.setIfInBounds_toArray, List.set_cons_zero, List.set_cons_succ]
                      refine wpAnyH_take (i := 2) (oi := { dst := some 131, op := Go.Op.move (Go.Operand.tmp 21), type := 3, pos := "law.go:215", after := #[{ on := 1, ground := Go.Ground.guard }], guard := some (1, false) }) (v := ?_) rfl (by kernel_rfl) (by kernel_rfl) (by kernel_rfl) (fun _ _ _ h => h) (Or.inl ⟨by rfl, ?_⟩) (by assumption) ?_
                      rotate_left
                      · intro w hSw
                        (try dsimp only at hSw)
                        go_simp
                        try (with_reducible rfl)
                      try simp only [Act.put, List.setIfInBounds_toArray, List.set_cons_zero, List.set_cons_succ]
                      refine wpAnyH_take (i := 3) (oi := { dst := some 132, op := Go.Op.move (Go.Operand.tmp 11), type := 34, pos := "law.go:215", after := #[{ on := 1, ground := Go.Ground.guard }], guard := some (1, false) }) (v := ?_) rfl (by kernel_rfl) (by kernel_rfl) (by kernel_rfl) (fun _ _ _ h => h) (Or.inl ⟨by rfl, ?_⟩) (by assumption) ?_
                      rotate_left
                      · intro w hSw
                        (try dsimp only at hSw)
                        go_simp
                        try (with_reducible rfl)
                      try simp only [Act.put, List.setIfInBounds_toArray, List.set_cons_zero, List.set_cons_succ]
                      refine wpAnyH_take (i := 4) (oi := { dst := some 133, op := Go.Op.move (Go.Operand.tmp 23), type := 3, pos := "law.go:215", after := #[{ on := 1, ground := Go.Ground.guard }], guard := some (1, false) }) (v := ?_) rfl (by kernel_rfl) (by kernel_rfl) (by kernel_rfl) (fun _ _ _ h => h) (Or.inl ⟨by rfl, ?_⟩) (by assumption) ?_
                      rotate_left
                      · intro w hSw
                        (try dsimp only at hSw)
                        go_simp
                        try (with_reducible rfl)
                      try simp only [Act.put, List.setIfInBounds_toArray, List.set_cons_zero, List.set_cons_succ]
                      refine wpAnyH_take (i := 5) (oi := { dst := some 134, op := Go.Op.indexAddr 34 (Go.Operand.tmp 132) (Go.Operand.tmp 133), type := 0, pos := "law.go:215", after := #[{ on := 3, ground := Go.Ground.data }, { on := 4, ground := Go.Ground.data }, { on := 1, ground := Go.Ground.guard }], guard := some (1, false) }) (v := ?_) rfl (by kernel_rfl) (by kernel_rfl) (by kernel_rfl) (fun _ _ _ h => h) (Or.inl ⟨by rfl, ?_⟩) (by assumption) ?_
                      rotate_left
                      · intro w hSw
                        (try dsimp only at hSw)
                        go_simp
                        try (with_reducible rfl)
                      try simp only [Act.put, List.setIfInBounds_toArray, List.set_cons_zero, List.set_cons_succ]
                      refine wpAnyH_take (i := 6) (oi := { dst := some 135, op := Go.Op.load 3 (Go.Operand.tmp 134), type := 3, pos := "law.go:215", after := #[{ on := 5, ground := Go.Ground.data }, { on := 1, ground := Go.Ground.guard }], guard := some (1, false) }) (v := ?_) rfl (by kernel_rfl) (by kernel_rfl) (by kernel_rfl) (fun _ _ _ h => h) (Or.inl ⟨by rfl, ?_⟩) (by assumption) ?_
                      rotate_left
                      · intro w hSw
                        (try dsimp only at hSw)
                        go_simp
                        try (with_reducible rfl)
                      try simp only [Act.put, List.setIfInBounds_toArray, List.set_cons_zero, List.set_cons_succ]
                      refine wpAnyH_take (i := 7) (oi := { dst := some 136, op := Go.Op.binOp Go.BinOp.geq 3 (Go.Operand.tmp 131) (Go.Operand.tmp 135) 3, type := 4, pos := "law.go:215", after := #[{ on := 2, ground := Go.Ground.data }, { on := 6, ground := Go.Ground.data }, { on := 1, ground := Go.Ground.guard }], guard := some (1, false) }) (v := ?_) rfl (by kernel_rfl) (by kernel_rfl) (by kernel_rfl) (fun _ _ _ h => h) (Or.inl ⟨by rfl, ?_⟩) (by assumption) ?_
                      rotate_left
                      · intro w hSw
                        (try dsimp only at hSw)
                        go_simp
                        try (with_reducible rfl)
                      try simp only [Act.put, List.setIfInBounds_toArray, List.set_cons_zero, List.set_cons_succ]
                      refine wpAnyH_take (i := 8) (oi := { dst := some 137, op := Go.Op.move (Go.Operand.tmp 136), type := 4, pos := "law.go:215", after := #[{ on := 7, ground := Go.Ground.data }, { on := 1, ground := Go.Ground.chain }, { on := 1, ground := Go.Ground.guard }], guard := some (1, false) }) (v := ?_) rfl (by kernel_rfl) (by kernel_rfl) (by kernel_rfl) (fun _ _ _ h => h) (Or.inl ⟨by rfl, ?_⟩) (by assumption) ?_
                      rotate_left
                      · intro w hSw
                        (try dsimp only at hSw)
                        go_simp
                        try (with_reducible rfl)
                      try simp only [Act.put, List.setIfInBounds_toArray, List.set_cons_zero, List.set_cons_succ]
                      refine wpAnyH_take (i := 9) (oi := { dst := some 138, op := Go.Op.move (Go.Operand.tmp 21), type := 3, pos := "law.go:215", after := #[{ on := 8, ground := Go.Ground.guard }], guard := some (8, true) }) (v := undef) rfl (by kernel_rfl) (by kernel_rfl) (by kernel_rfl) (fun _ _ _ h => h) (Or.inr ⟨by rfl, rfl⟩) (by assumption) ?_
                      try simp only [Act.put, List.setIfInBounds_toArray, List.set_cons_zero, List.set_cons_succ]
                      refine wpAnyH_take (i := 10) (oi := { dst := some 139, op := Go.Op.move (Go.Operand.tmp 11), type := 34, pos := "law.go:215", after := #[{ on := 8, ground := Go.Ground.guard }], guard := some (8, true) }) (v := undef) rfl (by kernel_rfl) (by kernel_rfl) (by kernel_rfl) (fun _ _ _ h => h) (Or.inr ⟨by rfl, rfl⟩) (by assumption) ?_
                      try simp only [Act.put, List.setIfInBounds_toArray, List.set_cons_zero, List.set_cons_succ]
                      refine wpAnyH_take (i := 11) (oi := { dst := some 140, op := Go.Op.move (Go.Operand.tmp 23), type := 3, pos := "law.go:215", after := #[{ on := 8, ground := Go.Ground.guard }], guard := some (8, true) }) (v := undef) rfl (by kernel_rfl) (by kernel_rfl) (by kernel_rfl) (fun _ _ _ h => h) (Or.inr ⟨by rfl, rfl⟩) (by assumption) ?_
                      try simp only [Act.put, List.setIfInBounds_toArray, List.set_cons_zero, List.set_cons_succ]
                      refine wpAnyH_take (i := 12) (oi := { dst := some 141, op := Go.Op.indexAddr 34 (Go.Operand.tmp 139) (Go.Operand.tmp 140), type := 0, pos := "law.go:215", after := #[{ on := 10, ground := Go.Ground.data }, { on := 11, ground := Go.Ground.data }, { on := 8, ground := Go.Ground.guard }], guard := some (8, true) }) (v := undef) rfl (by kernel_rfl) (by kernel_rfl) (by kernel_rfl) (fun _ _ _ h => h) (Or.inr ⟨by rfl, rfl⟩) (by assumption) ?_
                      try simp only [Act.put, List.setIfInBounds_toArray, List.set_cons_zero, List.set_cons_succ]
                      refine wpAnyH_take (i := 13) (oi := { dst := some 142, op := Go.Op.load 3 (Go.Operand.tmp 141), type := 3, pos := "law.go:215", after := #[{ on := 12, ground := Go.Ground.data }, { on := 8, ground := Go.Ground.guard }], guard := some (8, true) }) (v := undef) rfl (by kernel_rfl) (by kernel_rfl) (by kernel_rfl) (fun _ _ _ h => h) (Or.inr ⟨by rfl, rfl⟩) (by assumption) ?_
                      try simp only [Act.put, List.setIfInBounds_toArray, List.set_cons_zero, List.set_cons_succ]
                      refine wpAnyH_take (i := 14) (oi := { dst := some 143, op := Go.Op.move (Go.Operand.tmp 8), type := 24, pos := "law.go:215", after := #[{ on := 8, ground := Go.Ground.guard }], guard := some (8, true) }) (v := undef) rfl (by kernel_rfl) (by kernel_rfl) (by kernel_rfl) (fun _ _ _ h => h) (Or.inr ⟨by rfl, rfl⟩) (by assumption) ?_
                      try simp only [Act.put, List.setIfInBounds_toArray, List.set_cons_zero, List.set_cons_succ]
                      refine wpAnyH_take (i := 15) (oi := { dst := some 144, op := Go.Op.move (Go.Operand.tmp 11), type := 34, pos := "law.go:215", after := #[{ on := 8, ground := Go.Ground.guard }], guard := some (8, true) }) (v := undef) rfl (by kernel_rfl) (by kernel_rfl) (by kernel_rfl) (fun _ _ _ h => h) (Or.inr ⟨by rfl, rfl⟩) (by assumption) ?_
                      try simp only [Act.put, List.setIfInBounds_toArray, List.set_cons_zero, List.set_cons_succ]
                      refine wpAnyH_take (i := 16) (oi := { dst := some 145, op := Go.Op.move (Go.Operand.tmp 23), type := 3, pos := "law.go:215", after := #[{ on := 8, ground := Go.Ground.guard }], guard := some (8, true) }) (v := undef) rfl (by kernel_rfl) (by kernel_rfl) (by kernel_rfl) (fun _ _ _ h => h) (Or.inr ⟨by rfl, rfl⟩) (by assumption) ?_
                      try simp only [Act.put, List.setIfInBounds_toArray, List.set_cons_zero, List.set_cons_succ]
                      refine wpAnyH_take (i := 17) (oi := { dst := some 146, op := Go.Op.indexAddr 34 (Go.Operand.tmp 144) (Go.Operand.tmp 145), type := 0, pos := "law.go:215", after := #[{ on := 15, ground := Go.Ground.data }, { on := 16, ground := Go.Ground.data }, { on := 8, ground := Go.Ground.guard }], guard := some (8, true) }) (v := undef) rfl (by kernel_rfl) (by kernel_rfl) (by kernel_rfl) (fun _ _ _ h => h) (Or.inr ⟨by rfl, rfl⟩) (by assumption) ?_
                      try simp only [Act.put, List.setIfInBounds_toArray, List.set_cons_zero, List.set_cons_succ]
                      refine wpAnyH_take (i := 18) (oi := { dst := some 147, op := Go.Op.load 3 (Go.Operand.tmp 146), type := 3, pos := "law.go:215", after := #[{ on := 17, ground := Go.Ground.data }, { on := 8, ground := Go.Ground.guard }], guard := some (8, true) }) (v := undef) rfl (by kernel_rfl) (by kernel_rfl) (by kernel_rfl) (fun _ _ _ h => h) (Or.inr ⟨by rfl, rfl⟩) (by assumption) ?_
                      try simp only [Act.put, List.setIfInBounds_toArray, List.set_cons_zero, List.set_cons_succ]
                      refine wpAnyH_take (i := 19) (oi := { dst := some 148, op := Go.Op.call { callee := Go.Callee.value (Go.Operand.func 17), args := #[Go.Operand.tmp 143, Go.Operand.tmp 147], argTypes := #[24, 3] }, type := 3, pos := "law.go:215", after := #[{ on := 14, ground := Go.Ground.data }, { on := 18, ground := Go.Ground.data }, { on := 8, ground := Go.Ground.chain }, { on := 8, ground := Go.Ground.guard }], guard := some (8, true) }) (v := undef) rfl (by kernel_rfl) (by kernel_rfl) (by kernel_rfl) (fun _ _ _ h => h) (Or.inr ⟨by rfl, rfl⟩) (by assumption) ?_
                      try simp only [Act.put, List.setIfInBounds_toArray, List.set_cons_zero, List.set_cons_succ]
                      refine wpAnyH_take (i := 20) (oi := { dst := some 149, op := Go.Op.call { callee := Go.Callee.value (Go.Operand.func 27), args := #[Go.Operand.tmp 148], argTypes := #[3] }, type := 3, pos := "law.go:215", after := #[{ on := 19, ground := Go.Ground.data }, { on := 19, ground := Go.Ground.chain }, { on := 8, ground := Go.Ground.guard }], guard := some (8, true) }) (v := undef) rfl (by kernel_rfl) (by kernel_rfl) (by kernel_rfl) (fun _ _ _ h => h) (Or.inr ⟨by rfl, rfl⟩) (by assumption) ?_
                      try simp only [Act.put, List.setIfInBounds_toArray, List.set_cons_zero, List.set_cons_succ]
                      refine wpAnyH_take (i := 21) (oi := { dst := some 150, op := Go.Op.binOp Go.BinOp.add 3 (Go.Operand.tmp 142) (Go.Operand.tmp 149) 3, type := 3, pos := "law.go:215", after := #[{ on := 13, ground := Go.Ground.data }, { on := 20, ground := Go.Ground.data }, { on := 8, ground := Go.Ground.guard }], guard := some (8, true) }) (v := undef) rfl (by kernel_rfl) (by kernel_rfl) (by kernel_rfl) (fun _ _ _ h => h) (Or.inr ⟨by rfl, rfl⟩) (by assumption) ?_
                      try simp only [Act.put, List.setIfInBounds_toArray, List.set_cons_zero, List.set_cons_succ]
                      refine wpAnyH_take (i := 22) (oi := { dst := some 151, op := Go.Op.binOp Go.BinOp.lss 3 (Go.Operand.tmp 138) (Go.Operand.tmp 150) 3, type := 4, pos := "law.go:215", after := #[{ on := 9, ground := Go.Ground.data }, { on := 21, ground := Go.Ground.data }, { on := 8, ground := Go.Ground.guard }], guard := some (8, true) }) (v := undef) rfl (by kernel_rfl) (by kernel_rfl) (by kernel_rfl) (fun _ _ _ h => h) (Or.inr ⟨by rfl, rfl⟩) (by assumption) ?_
                      try simp only [Act.put, List.setIfInBounds_toArray, List.set_cons_zero, List.set_cons_succ]
                      refine wpAnyH_take (i := 23) (oi := { dst := some 152, op := Go.Op.pick (Go.Operand.tmp 137) (Go.Operand.tmp 151) (Go.Operand.const (Go.Value.bool false)), type := 4, pos := "law.go:215", after := #[{ on := 8, ground := Go.Ground.data }, { on := 22, ground := Go.Ground.data }, { on := 1, ground := Go.Ground.guard }], guard := some (1, false) }) (v := ?_) rfl (by kernel_rfl) (by kernel_rfl) (by kernel_rfl) (fun _ _ _ h => h) (Or.inl ⟨by rfl, ?_⟩) (by assumption) ?_
                      rotate_left
                      · intro w hSw
                        (try dsimp only at hSw)
                        go_simp
                        try (with_reducible rfl)
                      try simp only [Act.put, List.setIfInBounds_toArray, List.set_cons_zero, List.set_cons_succ]
                      refine wpAnyH_take (i := 24) (oi := { dst := some 153, op := Go.Op.pick (Go.Operand.tmp 130) (Go.Operand.const (Go.Value.bool true)) (Go.Operand.tmp 152), type := 4, pos := "law.go:215", after := #[{ on := 1, ground := Go.Ground.data }, { on := 23, ground := Go.Ground.data }], guard := none }) (v := ?_) rfl (by kernel_rfl) (by kernel_rfl) (by kernel_rfl) (fun _ _ _ h => h) (Or.inl ⟨by rfl, ?_⟩) (by assumption) ?_
                      rotate_left
                      · intro w hSw
                        (try dsimp only at hSw)
                        go_simp
                        try (with_reducible rfl)
                      try simp only [Act.put, List.setIfInBounds_toArray, List.set_cons_zero, List.set_cons_succ]
                      refine wpAnyH_take (i := 25) (oi := { dst := some 22, op := Go.Op.assign (Go.Operand.tmp 153), type := 4, pos := "law.go:215", after := #[{ on := 24, ground := Go.Ground.data }, { on := 20, ground := Go.Ground.chain }, { on := 0, ground := Go.Ground.phase }, { on := 1, ground := Go.Ground.phase }, { on := 2, ground := Go.Ground.phase }, { on := 3, ground := Go.Ground.phase }, { on := 4, ground := Go.Ground.phase }, { on := 5, ground := Go.Ground.phase }, { on := 6, ground := Go.Ground.phase }, { on := 7, ground := Go.Ground.phase }, { on := 8, ground := Go.Ground.phase }, { on := 9, ground := Go.Ground.phase }, { on := 10, ground := Go.Ground.phase }, { on := 11, ground := Go.Ground.phase }, { on := 12, ground := Go.Ground.phase }, { on := 13, ground := Go.Ground.phase }, { on := 14, ground := Go.Ground.phase }, { on := 15, ground := Go.Ground.phase }, { on := 16, ground := Go.Ground.phase }, { on := 17, ground := Go.Ground.phase }, { on := 18, ground := Go.Ground.phase }, { on := 19, ground := Go.Ground.phase }, { on := 20, ground := Go.Ground.phase }, { on := 21, ground := Go.Ground.phase }, { on := 22, ground := Go.Ground.phase }, { on := 23, ground := Go.Ground.phase }, { on := 24, ground := Go.Ground.phase }], guard := none }) (v := ?_) rfl (by kernel_rfl) (by kernel_rfl) (by kernel_rfl) (fun _ _ _ h => h) (Or.inl ⟨by rfl, ?_⟩) (by assumption) ?_
                      rotate_left
                      · intro w hSw
                        (try dsimp only at hSw)
                        go_simp
                        try (with_reducible rfl)
                      try simp only [Act.put, List.setIfInBounds_toArray, List.set_cons_zero, List.set_cons_succ]
                      refine wpAnyH_done (by kernel_rfl) ?_ _
                      go_wp2
                      go_roundw
                      case rel => exact ⟨j + 1, false, by go_num, rfl, hlt5, HN, Lib.hid hW4.out.drew⟩
                      case measure => simp [intOf]; omega
                · have hjI : ¬ (j : Int) < (n : Int) := by omega
                  have hHL : hd = true ↔ hld L i := by
                    have h1 := hH.out.iff
                    rw [List.take_of_length_le (by rw [HLn.out]; omega)] at h1
                    exact h1
                  cases hd with
                  | true =>
                    have HM2 : Hid (Lst N L (i + 1) M) := Lib.hid (lst_held hM.out (hHL.1 rfl))
                    clear hHL
                    go_wp2
                    go_roundw
                    case rel => exact ⟨i + 1, M, by go_num, hlt, HM2, hW4⟩
                    case measure => simp [intOf]; omega
                  | false =>
                    obtain ⟨M', e1, e2⟩ := lst_give hM.out (by rw [HPN.out]; exact hlt) (fun h => by have := hHL.2 h; cases this)
                    have HM2 := Lib.hid e2
                    have HG := as_give hN16 hW4.out.b (i : Int) (by omega) (by omega)
                    rw [gvF_yes e1] at HG
                    dsimp only at HG
                    have HGG := Lib.hid HG
                    clear hHL e1 e2 HG
                    go_wp2_with fail
                    refine Calls.mono HGG.out ?_
                    rintro e y3 ⟨rfl, hA, ht⟩
                    have HW5 := Lib.hid (hW4.out.step hA ht)
                    clear hA ht
                    go_wp2
                    go_roundw
                    case rel => exact ⟨i + 1, M', by go_num, hlt, HM2, HW5⟩
                    case measure => simp [intOf]; omega
            · have hiI : ¬ (i : Int) < (P : Int) := by omega
              have hML : M = L := lst_done HI.out hM.out (by rw [HPN.out]; omega)
              subst hML
              go_wp2_with fail
              refine Calls.mono (HQ.out _) ?_
              rintro e y1 ⟨rfl, rfl⟩
              have HTa := Lib.hid (as_taken hN16 hW3.out.a HLn.out)
              go_wp2_with fail
              refine Calls.mono HTa.out ?_
              rintro e y2 ⟨T1, q1, rfl, hR1, hb1, hA1, -⟩
              have HW5 := Lib.hid (hW3.out.below hb1)
              have R1 := Lib.hid hR1
              clear hR1 hb1 hA1
              have HTb := Lib.hid (as_taken hN16 HW5.out.b HLn.out)
              go_wp2_with fail
              refine Calls.mono HTb.out ?_
              rintro e y3 ⟨T2, q2, rfl, hR2, hb2, hA2, -⟩
              have HW6 := Lib.hid (HW5.out.below hb2)
              have R1b := Lib.hid (R1.out.below hb2)
              have R2 := Lib.hid hR2
              clear hR2 hb2 hA2
              have HSm := same_any _ n q1 T1 (ats M) _ n q2 T2 (ats M) hn7 _ R1b.out R2.out
              rw [show decide (ats M = ats M) = true from decide_eq_true rfl] at HSm
              have HSS := Lib.hid HSm
              clear HSm
              go_wp2_with fail
              refine Calls.mono HSS.out ?_
              rintro e y4 ⟨rfl, hb3⟩
              have HW7 := Lib.hid (HW6.out.below hb3)
              clear hb3
              have HFa := pfree_any r bm bn N M y4 HW7.out.a.ar
              have HFb := pfree_any r' bm' bn' N M y4 HW7.out.b.ar
              obtain ⟨F, hF⟩ : ∃ F : Int, ((2 ^ N - sumB M : Nat) : Int) = F := ⟨_, rfl⟩
              rw [hF] at HFa HFb
              have HFa5 := Lib.hid HFa
              have HFb5 := Lib.hid HFb
              obtain ⟨G, hG⟩ : ∃ G : Int, grS (fre M N 0) = G := ⟨_, rfl⟩
              have HGa := as_great hN16 HW7.out.a
              rw [hG] at HGa
              have HGa5 := Lib.hid HGa
              have HGE := Lib.hid hG
              clear HFa HFb hF HGa hG
              have dF : (F != F) = false := by simp
              have dG : (G != G) = false := by simp
              go_wp2_with fail
              refine Calls.mono HFa5.out ?_
              rintro e y5 ⟨rfl, rfl⟩
              go_wp2_with fail
              refine Calls.mono HFb5.out ?_
              rintro e y6 ⟨rfl, rfl⟩
              go_wp2_with fail
              refine Calls.mono HGa5.out ?_
              rintro e y7 ⟨rfl, -, hb4⟩
              have HW8 := Lib.hid (HW7.out.below hb4)
              clear hb4
              have HGb := as_great hN16 HW8.out.b
              rw [HGE.out] at HGb
              have HGb5 := Lib.hid HGb
              clear HGb
              go_wp2_with fail
              refine Calls.mono HGb5.out ?_
              rintro e y8 ⟨rfl, -, hb5⟩
              have HW9 := Lib.hid (HW8.out.below hb5)
              clear hb5
              go_wp2
              go_loopw [26] (fun iv wr => ∃ (i : Nat) (X : List Bl), iv = .int .i64 (i : Int) ∧ i ≤ l2 ∧ i ≤ 40 ∧ Hid (AS x1 wr r bm bn N X ∧ AS x1 wr r' bm' bn' N X)) (fun iv _ => 41 - (intOf iv).toNat)
              case atStart => exact ⟨0, M, rfl, Nat.zero_le _, by omega, Lib.hid ⟨HW9.out.a, HW9.out.b⟩⟩
              case round =>
                obtain ⟨i, X, rfl, hi, hi4, hV⟩ := hrel
                by_cases h1 : i < l2
                · have h1I : (i : Int) < (l2 : Int) := by omega
                  by_cases h2 : i < 40
                  · have h2I : (i : Int) < 40 := by omega
                    have HBel := Lib.hid (B1.out.trans (hV.out.1.bel.mono B1.out.size))
                    obtain ⟨b, o, rfl, hb, hc⟩ := HZ2.out.2.2 (by omega)
                    obtain ⟨x, hx⟩ : ∃ x, z2[i]? = some x := ⟨_, List.getElem?_eq_getElem (by rw [HZ2.out.1]; exact h1)⟩
                    have hw := stp_wf HZ2.out hx
                    have hcx := hc i x hx
                    obtain ⟨x0, xr, xn⟩ := x
                    simp only at hw
                    have HCk := Lib.hid (fun W (h : Below w.heap.size w W) => And.intro ((h.cell (p := ⟨b, o + i * 3, none⟩) hb).trans hcx.1) (And.intro ((h.cell (p := ⟨b, o + i * 3 + 1, none⟩) hb).trans hcx.2.1) ((h.cell (p := ⟨b, o + i * 3 + 2, none⟩) hb).trans hcx.2.2)))
                    obtain ⟨k0, k1, k2⟩ := HCk.out _ HBel.out
                    have hi0 : (0 : Int) ≤ (i : Int) := by omega
                    have j3 : IntKind.i64.wrap ((i : Int) + 1) = (i : Int) + 1 := by rw [IntKind.wrap_i64]; omega
                    clear hc hx hcx
                    cases x0 with
                    | true =>
                      obtain ⟨m, hm⟩ : ∃ m, X.length = m := ⟨_, rfl⟩
                      have hm7 : m ≤ 70000 := by rw [← hm]; exact (inv_sml hN16 hV.out.1.ar.inv).1
                      have HTk := Lib.hid (as_taken hN16 hV.out.1.drew hm)
                      have HPB := Lib.hid (plS_bd (true, xr, xn) hw.1 hw.2 hN16 hV.out.1.ar.inv)
                      have HPl := Lib.hid (fun A ct W B (hR : RdI W B A m (ats X)) => place_any (true, xr, xn) hw.1 hw.2 B m ct A (ats X) hm7 W hR)
                      obtain ⟨p, hp⟩ : ∃ p, plS (true, xr, xn) (ats X) = p := ⟨_, rfl⟩
                      simp only [hp] at HPl HPB
                      have HC := Lib.hid (And.intro k0 (And.intro k1 k2))
                      clear hm hp
                      go_wp2
                      refine wp_region_held_drew (S := (fun W => W.cell? ⟨b, o + i * 3, none⟩ = some (.bool true) ∧ W.cell? ⟨b, o + i * 3 + 1, none⟩ = some (.bool xr) ∧ W.cell? ⟨b, o + i * 3 + 2, none⟩ = some (.int .i64 xn))) (by kernel_rfl) ?_ (fun hHeld => ?_)
                      · (first | exact HC.out | exact HC1.out | exact HC2.out)
                      refine wpAnyH_take (i := 0) (oi := { dst := some 197, op := Go.Op.move (Go.Operand.tmp 2), type := 22, pos := "law.go:230", after := #[], guard := none }) (v := ?_) rfl (by kernel_rfl) (by kernel_rfl) (by kernel_rfl) (fun _ _ _ h => h) (Or.inl ⟨by rfl, ?_⟩) (by assumption) ?_
                      rotate_left
                      · intro w hSw
                        (try dsimp only at hSw)
                        go_simp
                        try (with_reducible rfl)
                      try simp only [Act.put, List.setIfInBounds_toArray, List.set_cons_zero, List.set_cons_succ]
                      refine wpAnyH_take (i := 1) (oi := { dst := some 198, op := Go.Op.move (Go.Operand.tmp 26), type := 3, pos := "law.go:230", after := #[], guard := none }) (v := ?_) rfl (by kernel_rfl) (by kernel_rfl) (by kernel_rfl) (fun _ _ _ h => h) (Or.inl ⟨by rfl, ?_⟩) (by assumption) ?_
                      rotate_left
                      · intro w hSw
                        (try dsimp only at hSw)
                        go_simp
                        try (with_reducible rfl)
                      try simp only [Act.put, List.setIfInBounds_toArray, List.set_cons_zero, List.set_cons_succ]
                      refine wpAnyH_take (i := 2) (oi := { dst := some 199, op := Go.Op.indexAddr 22 (Go.Operand.tmp 197) (Go.Operand.tmp 198), type := 0, pos := "law.go:230", after := #[{ on := 0, ground := Go.Ground.data }, { on := 1, ground := Go.Ground.data }], guard := none }) (v := ?_) rfl (by kernel_rfl) (by kernel_rfl) (by kernel_rfl) (fun _ _ _ h => h) (Or.inl ⟨by rfl, ?_⟩) (by assumption) ?_
                      rotate_left
                      · intro w hSw
                        (try dsimp only at hSw)
                        go_simp
                        try (with_reducible rfl)
                      try simp only [Act.put, List.setIfInBounds_toArray, List.set_cons_zero, List.set_cons_succ]
                      refine wpAnyH_take (i := 3) (oi := { dst := some 200, op := Go.Op.load 32 (Go.Operand.tmp 199), type := 32, pos := "law.go:230", after := #[{ on := 2, ground := Go.Ground.data }], guard := none }) (v := ?_) rfl (by kernel_rfl) (by kernel_rfl) (by kernel_rfl) (fun _ _ _ h => h) (Or.inl ⟨by rfl, ?_⟩) (by assumption) ?_
                      rotate_left
                      · intro w hSw
                        (try dsimp only at hSw)
                        go_simp
                        try (with_reducible rfl)
                      try simp only [Act.put, List.setIfInBounds_toArray, List.set_cons_zero, List.set_cons_succ]
                      refine wpAnyH_take (i := 4) (oi := { dst := some 201, op := Go.Op.move (Go.Operand.tmp 8), type := 24, pos := "law.go:230", after := #[], guard := none }) (v := ?_) rfl (by kernel_rfl) (by kernel_rfl) (by kernel_rfl) (fun _ _ _ h => h) (Or.inl ⟨by rfl, ?_⟩) (by assumption) ?_
                      rotate_left
                      · intro w hSw
                        (try dsimp only at hSw)
                        go_simp
                        try (with_reducible rfl)
                      try simp only [Act.put, List.setIfInBounds_toArray, List.set_cons_zero, List.set_cons_succ]
                      refine wpAnyH_ready (rs := [5]) (by kernel_rfl) (by simp) ?_
                      refine AllReadyH.cons (o := { dst := some 202, op := Go.Op.call { callee := Go.Callee.value (Go.Operand.func 20), args := #[Go.Operand.tmp 201], argTypes := #[24] }, type := 34, pos := "law.go:230", after := #[{ on := 4, ground := Go.Ground.data }], guard := none }) rfl (fun K hK => ?_) AllReadyH.nil
                      go_simp
                      (go_at_call 20; (with_reducible refine Calls.mono HTk.out ?_); rintro e W1 ⟨A1, ct, rfl, hR1, hb1, hA1, -⟩; have HA1 := Lib.hid hA1; have HB1 := Lib.hid (hV.out.2.drew.below hb1); have HP1 := Lib.hid (HPl.out A1 ct W1 _ hR1); have HC1 := Lib.hid (HCk.out W1 (B1.out.trans (hA1.bel.mono B1.out.size))); clear hA1 hR1 hb1)
                      go_wp2_with fail
                      refine hK.out _ _ ?_ (fun hHeld => ?_)
                      · (first | exact HC.out | exact HC1.out | exact HC2.out)
                      clear hK K
                      try simp only [Act.put, List.setIfInBounds_toArray, List.set_cons_zero, List.set_cons_succ]
                      refine wpAnyH_ready (rs := [6]) (by kernel_rfl) (by simp) ?_
                      refine AllReadyH.cons (o := { dst := some 203, op := Go.Op.call { callee := Go.Callee.value (Go.Operand.func 11), args := #[Go.Operand.tmp 200, Go.Operand.tmp 202], argTypes := #[32, 34] }, type := 3, pos := "law.go:230", after := #[{ on := 3, ground := Go.Ground.data }, { on := 5, ground := Go.Ground.data }, { on := 5, ground := Go.Ground.chain }], guard := none }) rfl (fun K hK => ?_) AllReadyH.nil
                      go_simp
                      (go_at_call 11; (with_reducible refine Calls.mono HP1.out ?_); rintro e W2 ⟨rfl, hb2⟩; have HA2 := Lib.hid (HA1.out.below hb2); have HB2 := Lib.hid (HB1.out.below hb2); have HC2 := Lib.hid (HCk.out W2 (B1.out.trans (HA2.out.bel.mono B1.out.size))); clear hb2)
                      go_wp2_with fail
                      refine hK.out _ _ ?_ (fun hHeld => ?_)
                      · (first | exact HC.out | exact HC1.out | exact HC2.out)
                      clear hK K
                      try simp only [Act.put, List.setIfInBounds_toArray, List.set_cons_zero, List.set_cons_succ]
                      refine wpAnyH_take (i := 7) (oi := { dst := some 27, op := Go.Op.assign (Go.Operand.tmp 203), type := 3, pos := "law.go:230", after := #[{ on := 6, ground := Go.Ground.data }, { on := 6, ground := Go.Ground.chain }, { on := 0, ground := Go.Ground.phase }, { on := 1, ground := Go.Ground.phase }, { on := 2, ground := Go.Ground.phase }, { on := 3, ground := Go.Ground.phase }, { on := 4, ground := Go.Ground.phase }, { on := 5, ground := Go.Ground.phase }, { on := 6, ground := Go.Ground.phase }], guard := none }) (v := ?_) rfl (by kernel_rfl) (by kernel_rfl) (by kernel_rfl) (fun _ _ _ h => h) (Or.inl ⟨by rfl, ?_⟩) (by assumption) ?_
                      rotate_left
                      · intro w hSw
                        (try dsimp only at hSw)
                        go_simp
                        try (with_reducible rfl)
                      try simp only [Act.put, List.setIfInBounds_toArray, List.set_cons_zero, List.set_cons_succ]
                      refine wpAnyH_done (by kernel_rfl) ?_ _
                      have HG1 := as_give hN16 HA2.out p HPB.out.1 HPB.out.2
                      obtain ⟨Y, hY⟩ : ∃ Y, gvF X p = Y := ⟨_, rfl⟩
                      rw [hY] at HG1
                      have HYY := Lib.hid hY
                      obtain ⟨ye, X'⟩ := Y
                      dsimp only at HG1
                      have HG1' := Lib.hid HG1
                      have de : (ye != ye) = false := by simp
                      clear HG1 hY k0 k1 k2
                      go_wp2_with fail
                      refine Calls.mono HG1'.out ?_
                      rintro e W3 ⟨rfl, hA3, ht3⟩
                      have HA3 := Lib.hid hA3
                      have HB3 := Lib.hid (HA2.out.far2 HB2.out HS.out ht3)
                      clear hA3 ht3
                      have HG2 := as_give hN16 HB3.out p HPB.out.1 HPB.out.2
                      rw [HYY.out] at HG2
                      dsimp only at HG2
                      have HG2' := Lib.hid HG2
                      clear HG2
                      go_wp2_with fail
                      refine Calls.mono HG2'.out ?_
                      rintro e W4 ⟨rfl, hB4, ht4⟩
                      have HB4 := Lib.hid hB4
                      have HA4 := Lib.hid (HA3.out.far HB3.out HS.out ht4)
                      clear hB4 ht4
                      go_wp2
                      go_roundw
                      case rel => exact ⟨i + 1, X', by go_num, h1, h2, Lib.hid ⟨HA4.out, HB4.out⟩⟩
                      case measure => simp [intOf]; omega
                    | false =>
                      have HT1 := as_take hN16 hV.out.1 xn
                      obtain ⟨Y, hY⟩ : ∃ Y, tkF N X xn = Y := ⟨_, rfl⟩
                      rw [hY] at HT1
                      have HYY := Lib.hid hY
                      obtain ⟨xp, xe, X'⟩ := Y
                      dsimp only at HT1
                      have HT1' := Lib.hid HT1
                      have dx : (xp != xp) = false := by simp
                      have de : (xe != xe) = false := by simp
                      clear hY HT1
                      go_wp2_with fail
                      refine Calls.mono HT1'.out ?_
                      rintro e W3 ⟨rfl, hA5, ht5⟩
                      have A5 := Lib.hid hA5
                      have C5 := Lib.hid (hV.out.1.far2 hV.out.2 HS.out ht5)
                      clear k0 k1 k2
                      obtain ⟨k0, k1, k2⟩ := HCk.out _ (B1.out.trans (A5.out.bel.mono B1.out.size))
                      have HT2 := as_take hN16 C5.out xn
                      rw [HYY.out] at HT2
                      dsimp only at HT2
                      have HT2' := Lib.hid HT2
                      clear ht5 hA5 HT2
                      go_wp2_with fail
                      refine Calls.mono HT2'.out ?_
                      rintro e W4 ⟨rfl, hA6, ht6⟩
                      have C6 := Lib.hid hA6
                      have A6 := Lib.hid (A5.out.far C5.out HS.out ht6)
                      clear hA6 ht6 k0 k1 k2
                      go_wp2
                      go_roundw
                      case rel => exact ⟨i + 1, X', by go_num, h1, h2, Lib.hid ⟨A6.out, C6.out⟩⟩
                      case measure => simp [intOf]; omega
                  · have h2I : ¬ (i : Int) < 40 := by omega
                    go_wp2
                    go_ret
                    exact ⟨rfl, B1.out.trans (hV.out.1.bel.mono B1.out.size)⟩
                · have h1I : ¬ (i : Int) < (l2 : Int) := by omega
                  go_wp2
                  go_ret
                  exact ⟨rfl, B1.out.trans (hV.out.1.bel.mono B1.out.size)⟩
set_option maxRecDepth 100000 in
theorem contract (H : Type) (enc : TypeId × Value → H) (W : World) (base : Nat) (args : Array Value) (ds gs : List (DataW H)) (before : List MemPlace)
    (hval0 : ∀ (j : Nat) t v, Tryd.f6.params[j]? = some t → args[j]? = some v → Value.okWide Tryd.prog W .any base t v)
    (hW : DataW.Whole enc Tryd.prog Tryd.f6.params.toList Rows.arenaHistorySpec.vars false W args.toList ds gs before)
    (hsz0 : (DataW.weightsEach Tryd.prog (Tryd.f6.params.toList ++ Rows.arenaHistorySpec.plain.varTypes Tryd.prog) (ds ++ gs)).all (· ≤ reachBytes) = true) (hE : EnvA W) :
    Calls Tryd.prog 6 args W fun e W' => ∃ v, e = .returned v ∧ Rows.arenaHistorySpec.post enc Tryd.prog Tryd.f6 false true false false W args v W' := by
  have hsz := hsz0
  clear hsz0
  have hval := hval0
  clear hval0
  have hW' := hW
  obtain ⟨p, q, hA0, hV, rfl, hfz, hnd⟩ := hW
  have hA : DataW.TrodAll enc Tryd.prog W 0 (fun _ => true) true Tryd.f6.params.toList args.toList ds p := hA0
  rw [Tryd.params6] at hA hval hsz
  obtain ⟨v0, vs0, d0, ds0, p0, q0, hargs, rfl, rfl, h0, r0⟩ := trodAll_cons hA
  obtain ⟨v1, vs1, d1, ds1, p1, q1, rfl, rfl, rfl, h1, r1⟩ := trodAll_cons r0
  obtain ⟨v2, vs2, d2, ds2, p2, q2, rfl, rfl, rfl, h2, r2⟩ := trodAll_cons r1
  obtain ⟨rfl, rfl, rfl⟩ := trodAll_nil r2
  obtain rfl : args = #[v0, v1, v2] := by cases args; simp_all
  obtain ⟨rfl, rfl⟩ := trodVars_none hV
  obtain ⟨a0, rfl, rfl, rfl, w0⟩ := open_int Tryd.underlying3 (hval 0 3 v0 rfl rfl) h0
  obtain ⟨a1, l1, c1, rfl⟩ := okWide_slice Tryd.underlying22 (hval 1 22 v1 rfl rfl)
  have k1 := h1
  have lt1 : ∀ x ∈ p1, x.block < W.heap.size := by obtain ⟨m, hm⟩ := k1; exact DataW.trod_lt m _ _ _ hm
  obtain ⟨z1, w1⟩ := isStp_of h1
  obtain ⟨a2, l2, c2, rfl⟩ := okWide_slice Tryd.underlying22 (hval 2 22 v2 rfl rfl)
  have k2 := h2
  have lt2 : ∀ x ∈ p2, x.block < W.heap.size := by obtain ⟨m, hm⟩ := k2; exact DataW.trod_lt m _ _ _ hm
  obtain ⟨z2, w2⟩ := isStp_of h2
  clear hA0
  refine (walk W hE a0 w0 a1 l1 c1 z1 w1 a2 l2 c2 z2 w2).mono fun e W' ⟨he, bel⟩ => ?_
  subst he
  exact ⟨_, rfl, _, _, _, [], _, [], hW', trodAll_mk1 (shut_bool Tryd.underlying4 _), (trodAll_cons_mk (shut_int Tryd.underlying3 w0) (trodAll_cons_mk (Below.trod laidOut (by kernel_rfl) (of_decide_eq_true (by kernel_rfl)) k1 bel lt1) (trodAll_cons_mk (Below.trod laidOut (by kernel_rfl) (of_decide_eq_true (by kernel_rfl)) k2 bel lt2) trodAll_mk0))), rfl, bel.frame _, fun h => by cases h⟩

theorem laid_met (os : Os) (args : Array Value) : laidMet Tryd.prog Rows.arenaHistoryRow.laid ((World.laidAll Tryd.prog os Rows.arenaHistoryRow.laid).forCall (fun _ _ => 0) ⟨#[], args, []⟩).memory :=
  laidMet_laidAll _ (by kernel_rfl) (by kernel_rfl)
set_option maxRecDepth 100000 in
theorem pre_row (os : Os) {H : Type} (enc : TypeId × Value → H) :
    (OpenSpec.ofChange Rows.arenaHistorySpec).preRow enc Tryd.prog Tryd.f6 Rows.arenaHistoryRow.domain false Rows.arenaHistoryRow.laid ((World.laidAll Tryd.prog os Rows.arenaHistoryRow.laid).forCall (fun _ _ => 0) ⟨#[], #[.int .i64 0, .slice none 0 0, .slice none 0 0], []⟩).memory #[.int .i64 0, .slice none 0 0, .slice none 0 0] := by
  exact ⟨⟨ChangeSpec.pre_of_preB (fuel := 8) (by kernel_rfl), by rw [MakeChecks.laidMetH_plain _ _ _ (by kernel_rfl)]; exact laid_met os _⟩, sizedMet_of_sizedB (fuel := 8) (by kernel_rfl)⟩
set_option maxRecDepth 100000 in
theorem lifted (os : Os) (started : os.Started) (H : Type) (enc : TypeId × Value → H) (F : Stop.Interp) :
    ReturnsInHanded {} Tryd.checked os 6 .any ((OpenSpec.ofChange Rows.arenaHistorySpec).preRow enc Tryd.prog Tryd.f6 Rows.arenaHistoryRow.domain false Rows.arenaHistoryRow.laid) (((OpenSpec.ofChange Rows.arenaHistorySpec).at F).post enc Tryd.prog Tryd.f6 false true false false) := by
  refine returnsInHanded_of_row (C := Tryd.checked) (s := (OpenSpec.ofChange Rows.arenaHistorySpec)) own started (by kernel_rfl) Tryd.func6
    ⟨World.laidAll Tryd.prog os Rows.arenaHistoryRow.laid, fun _ _ => 0, ⟨#[], #[.int .i64 0, .slice none 0 0, .slice none 0 0], []⟩, World.laidAll_os _ _ _, World.shaped_of_ZipB (by kernel_rfl) (by kernel_rfl), rfl, (Input.okWide_of_okWideB (by kernel_rfl)).2, pre_row os enc, (by simp only [Assume.holds]; exact ⟨by simp, by simp, fun _ => Modest.zero, by simp, by simp⟩)⟩ ?_
  intro W base args ds gs before hval hW _ hcond hsz hL hsh _
  rw [MakeChecks.laidMetH_plain _ _ _ (by kernel_rfl)] at hL
  exact contract H enc W base args ds gs before hval hW hsz (envA_of hL)

theorem over : Rows.arenaHistoryRow.holds Tryd.pinned (OpenSpec.ofChange Rows.arenaHistorySpec) :=
  OpenClaim.holds_of_cond 6 Tryd.f6 rfl rfl rfl rfl rfl rfl rfl ⟨rfl, rfl, rfl, rfl, rfl⟩ rfl rfl rfl rfl rfl (by kernel_rfl) Tryd.func6 (by kernel_rfl)
    (of_decide_eq_true (by kernel_rfl)) (by unfold Func.isWrapper; first | (rw [if_pos (by decide +kernel)]; kernel_rfl) | (rw [if_neg (by decide +kernel)]; exact ⟨rfl, rfl⟩))
    (fun os started H enc _ F => by rw [OpenClaim.pre_eq_preRow]; exact lifted os started H enc F)

theorem proved : Rows.ArenaHistoryCardSaid :=
  Claim7.holds_tied_plain_at .later [] Rows.arenaHistoryCard.laidKinds true Rows.arenaHistoryCard.stood.harness Rows.arenaHistoryCard.stood.looks over (fun _ h => by cases h) (by kernel_rfl) (fun _ h => by cases h) arenaHistory_row_tie rfl ⟨rfl, rfl⟩ (by kernel_rfl) rfl
    (fun f fn hf hfn => by
      obtain rfl : f = 6 := Option.some.inj ((show Tryd.prog.funcNamed Rows.arenaHistoryRow.func = some 6 by kernel_rfl).symm.trans hf) |>.symm
      obtain rfl : fn = Tryd.f6 := (Option.some.inj (Tryd.func6.symm.trans hfn)).symm
      exact ⟨by kernel_rfl, fun j t ht => by
        rw [Tryd.params6] at ht
        have hm : t ∈ [3, 22, 22] := by simpa using Array.mem_of_getElem? ht
        have hall : ([3, 22, 22].all fun u => !Tryd.prog.wantsStandIn u) = true := by kernel_rfl
        exact (show Tryd.prog.wantsStandIn t = false by simpa using List.all_eq_true.1 hall t hm)⟩)
    (by kernel_rfl)
#print axioms proved
end AHis
end Go.Proofs.YtiocdojdncomhaaDoor
