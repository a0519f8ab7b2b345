/-
  Several texts in one: IpE, IpF, IpG, IpH.
-/
import Derived.Test.YtabbclocgkhnhaaMgA
import Derived.Test.YtabbclocgkhnhaaIfL
import Derived.Test.YtabbclocgkhnhaaPHold
import Derived.Test.YtabbclocgkhnhaaMgH
import Derived.Deep.RegionLaw
import Derived.BigQuiet

namespace Go.Proofs.Ytabbclocgkhnhaa
open Go.RowKit Go.Maps
set_option linter.unusedVariables false

/-- The prefix that a local has holds an address just if as many first bits are shared. -/
theorem hld_cut {s : Bool} {h l : Nat} {b : Int} {s' : Bool} {h' l' : Nat} (hh : N64 h) (hl : N64 l) (hh' : N64 h') (hl' : N64 l') (v : vld s h l = true) (o : okn s b = true) :
    hld s (ct h (kk s b - 64)) (ct l (kk s b)) b s' h' l' = decide (b ≤ comV s h l s' h' l') := by
  have hl2 : N64 (ct l (kk s b)) := Nat.lt_of_le_of_lt (ct_le _ _) hl
  rw [Bool.eq_iff_iff, hld_iff hl2 hl', ← nm_ct h l _ hl.lt, decide_eq_true_eq]
  have o1 := okn_iff.1 o
  unfold comV
  by_cases c : vld s' h' l' = true ∧ s = s'
  · obtain ⟨v', rfl⟩ := c
    rw [if_pos ⟨v, v', rfl⟩]
    have h0 : nm h l / 2 ^ wd s = nm h' l' / 2 ^ wd s := by
      rw [Nat.div_eq_of_lt (nm_wd hh hl v), Nat.div_eq_of_lt (nm_wd hh' hl' v')]
    have hc := cmn_ge (wd s) (nm h l) (nm h' l') h0 b.toNat (by omega)
    have e2 : b ≤ (cmn (wd s) (nm h l) (nm h' l') : Int) ↔ b.toNat ≤ cmn (wd s) (nm h l) (nm h' l') := by omega
    rw [e2, hc]
    have hp := pw (kk s b)
    show _ ↔ nm h l / 2 ^ kk s b = nm h' l' / 2 ^ kk s b
    constructor
    · rintro ⟨-, -, -, h1⟩
      unfold ct at h1
      exact (Nat.eq_of_mul_eq_mul_right hp h1).symm
    · intro h1
      refine ⟨v', o, rfl, ?_⟩
      unfold ct
      rw [h1]
  · rw [if_neg (fun x => c x.2)]
    exact ⟨fun ⟨x, _, y, _⟩ => absurd ⟨x, y.symm⟩ c, fun x => by omega⟩
abbrev lcE (x : Loc) : Value := .agg #[.bool x.1.1, .int .u64 (x.1.2.1 : Int), .int .u64 (x.1.2.2 : Int), .int .i64 x.2]
/-- What is known of each local of a set. -/
structure LocI (x : Loc) : Prop where
  v : vld x.1.1 (x.1.2.1 : Int) (x.1.2.2 : Int) = true
  o : okn x.1.1 x.2 = true
  n : N64 x.1.2.1 ∧ N64 x.1.2.2
  b : 1 ≤ x.2
  t : x.2 ≤ 128
theorem cls_vld {a : AdI} (h : clsI a = 2 ∨ clsI a = 5) : vld a.1 (a.2.1 : Int) (a.2.2 : Int) = true := by
  cases hv : vld a.1 (a.2.1 : Int) (a.2.2 : Int) with
  | true => rfl
  | false =>
    have h2 : (a.1 || (decide ((a.2.1 : Int) = 0) && decide ((a.2.2 : Int) ≤ 4294967295))) = false := hv
    unfold clsI clsV at h
    rw [if_pos h2] at h
    omega
theorem InvI.is {st : StI} (h : InvI st) {i : Nat} {l : List Loc} (hl : st.2[i]? = some l) : ∀ x ∈ l, LocI x := by
  intro x hx
  have hi := (List.getElem?_eq_some_iff.1 hl).1
  obtain ⟨q, hq⟩ : ∃ q, st.1[i]? = some q := ⟨_, List.getElem?_eq_getElem (by rw [h.len]; exact hi)⟩
  obtain ⟨hc, ⟨b1, b2⟩, -⟩ := h.ad i q l hq hl x hx
  have hw : (wd x.1.1 : Int) ≤ 128 := by unfold wd; split <;> omega
  exact ⟨cls_vld hc, okn_iff.2 ⟨by omega, b2⟩, h.u64 l (List.mem_of_getElem? hl) x hx, b1, by omega⟩
set_option maxRecDepth 100000 in
set_option maxHeartbeats 2000000 in
theorem pholds_any (x : Loc) (a : AdI) (hx : LocI x) (ha : N64 a.2.1 ∧ N64 a.2.2) (w : World) :
    Calls Try.prog 61 #[lcE x, adV a] w fun e w' => e = .returned (.bool (hldI a x)) ∧ Tch w w' [] := by
  have hR := hld_cut (s' := a.1) (h' := a.2.1) (l' := a.2.2) hx.n.1 hx.n.2 ha.1 ha.2 hx.v hx.o
  have e1 := ofP_yes ⟨hx.v, hx.o⟩
  have HE : Hid (hldI a x = decide (x.2 ≤ comV x.1.1 x.1.2.1 x.1.2.2 a.1 a.2.1 a.2.2)) := Lib.hid rfl
  rw [← hR] at HE
  have hn := hx.n
  obtain ⟨⟨s, h, l⟩, b⟩ := x
  obtain ⟨s', h', l'⟩ := a
  simp only at e1 HE hn ha
  obtain ⟨X, hX⟩ : ∃ X, ct h (kk s b - 64) = X := ⟨_, rfl⟩
  obtain ⟨Y, hY⟩ : ∃ Y, ct l (kk s b) = Y := ⟨_, rfl⟩
  rw [hX, hY] at e1 HE
  obtain ⟨R, hRR⟩ : ∃ R, hld s X Y b s' h' l' = R := ⟨_, rfl⟩
  rw [hRR] at HE
  have HH := Lib.hid (fun w => holds_at s X Y b s' h' l' ha.1 ha.2 hRR w)
  have HO := Lib.hid (fun w => ofP_at s h l b hn.1 hn.2 e1 w)
  clear hR e1 hx ha hn hX hY hRR
  go_enter Try.func61, Try.ntmps61
  go_wp2_with fail
  refine Calls.mono (HO.out _) ?_
  rintro e w1 ⟨rfl, hb⟩
  have Q1 := (Blk.new (w.alloc (.cells #[.bool s, .int .u64 (h : Int), .int .u64 (l : Int), .int .i64 b] 42)) 34 #[.bool s', .int .u64 (h' : Int), .int .u64 (l' : Int)]).below hb (by simp only [World.size_alloc]; omega)
  rw [World.size_alloc] at Q1
  have HT1 := Lib.hid ((((Tch.refl w []).alloc _).alloc _).trans (Tch.of_below [] hb))
  have Q2 := Q1.alloc (.cells #[.bool s, .int .u64 (X : Int), .int .u64 (Y : Int), .int .i64 b] 93)
  obtain ⟨g0, g1, g2⟩ := Q2.c3
  clear hb Q1 Q2
  go_wp2_with fail
  refine Calls.mono (HH.out _) ?_
  rintro e w2 ⟨rfl, hb2⟩
  have HT2 := Lib.hid ((HT1.out.alloc _).trans (Tch.of_below [] hb2))
  clear hb2 g0 g1 g2
  go_wp2
  go_ret
  exact ⟨by rw [HE.out]; rfl, HT2.out⟩
/-- The best of the first k; nothing: a zero. -/
def bstL (a : AdI) (l : List Loc) (k : Nat) : Loc := match bestT a l k with | none => ((false, 0, 0), 0) | some j => (l[j]?).getD ((false, 0, 0), 0)
theorem bstL_zero (a : AdI) (l : List Loc) : bstL a l 0 = ((false, 0, 0), 0) := rfl
theorem bestT_lt {a : AdI} {l : List Loc} {n k : Nat} (h : bestT a l n = some k) : ∃ x, l[k]? = some x := by
  obtain ⟨-, x, hx, -⟩ := bestT_some h
  exact ⟨x, hx⟩
theorem bstL_step {a : AdI} {l : List Loc} (hl : ∀ x ∈ l, LocI x) {k : Nat} {x : Loc} (hx : l[k]? = some x) : bstL a l (k + 1) = if (bstL a l k).2 < x.2 ∧ hldI a x = true then x else bstL a l k := by
  have hb := (hl x (List.mem_of_getElem? hx)).b
  cases hh : hldI a x with
  | false =>
    rw [if_neg (by simp)]
    unfold bstL
    rw [bestT_no hx hh]
  | true =>
    cases hn : bestT a l k with
    | none =>
      have e1 := bestT_first hx hh hn
      have e0 : bstL a l k = ((false, 0, 0), 0) := by unfold bstL; rw [hn]
      rw [e0, if_pos ⟨by simp; omega, rfl⟩]
      unfold bstL
      rw [e1]
      simp [hx]
    | some j =>
      obtain ⟨y, hy⟩ := bestT_lt hn
      have e0 : bstL a l k = y := by unfold bstL; rw [hn]; simp [hy]
      rw [e0]
      by_cases c : y.2 < x.2
      · rw [if_pos ⟨c, rfl⟩]
        unfold bstL
        rw [bestT_more hx hh hn hy c]
        simp [hx]
      · rw [if_neg (fun z => c z.1)]
        unfold bstL
        rw [bestT_less hx hh hn hy c]
        simp [hy]
theorem bstL_some {a : AdI} {l : List Loc} (hl : ∀ x ∈ l, LocI x) (k : Nat) : (bestT a l k = none ∧ (bstL a l k).2 = 0) ∨ ∃ j, bestT a l k = some j ∧ l[j]? = some (bstL a l k) ∧ 0 < (bstL a l k).2 := by
  cases hn : bestT a l k with
  | none => exact .inl ⟨rfl, by unfold bstL; rw [hn]⟩
  | some j =>
    obtain ⟨y, hy⟩ := bestT_lt hn
    have e0 : bstL a l k = y := by unfold bstL; rw [hn]; simp [hy]
    have := (hl y (List.mem_of_getElem? hy)).b
    exact .inr ⟨j, rfl, by rw [e0]; exact hy, by rw [e0]; omega⟩
theorem bstL_bd {a : AdI} {l : List Loc} (hl : ∀ x ∈ l, LocI x) (k : Nat) : 0 ≤ (bstL a l k).2 ∧ (bstL a l k).2 ≤ 128 := by
  rcases bstL_some hl k (a := a) with ⟨-, h⟩ | ⟨j, -, h, h0⟩
  · omega
  · have := (hl _ (List.mem_of_getElem? h)).t
    omega
/-- Near's question of one port. -/
theorem nearT_bst {a : AdI} {l : List Loc} (hl : ∀ x ∈ l, LocI x) (up : Bool) (port : Nat) {b : Nat × Int} (hb : 0 ≤ b.2) : ∀ n, n ≤ l.length → nearT a up port l b n = if up = true ∧ b.2 < (bstL a l n).2 then (port, (bstL a l n).2) else b
  | 0, _ => by
    rw [if_neg (fun h => by have := h.2; rw [bstL_zero] at this; simp at this; omega)]
    rfl
  | n + 1, hn => by
    obtain ⟨x, hx⟩ : ∃ x, l[n]? = some x := ⟨_, List.getElem?_eq_getElem (by omega)⟩
    rw [nearT_step hx, nearT_bst hl up port hb n (by omega), bstL_step hl hx]
    cases up with
    | false => simp
    | true =>
      cases hh : hldI a x with
      | false => simp
      | true =>
        simp only [true_and, and_true]
        by_cases c1 : b.2 < (bstL a l n).2
        · simp only [c1, if_true]
          by_cases c2 : (bstL a l n).2 < x.2
          · simp only [c2, if_true]
            rw [if_pos (by omega)]
          · simp only [c2, if_false]
            rw [if_pos c1]
        · simp only [c1, if_false]
          by_cases c2 : b.2 < x.2
          · rw [if_pos c2, if_pos (show (bstL a l n).2 < x.2 by omega), if_pos c2]
          · rw [if_neg c2]
            by_cases c3 : (bstL a l n).2 < x.2
            · rw [if_pos c3, if_neg c2]
            · rw [if_neg c3, if_neg c1]
theorem step_sta {ops : Array Oper} {o : Oper} {a : Act} {w : World} {K : Act → World → Prop} {Q : Exit → Act → World → Prop} {E : Prop} (hg : o.guard = none) (ty : TypeId) (x y : Operand) (ho : o.op = .store ty x y)
    (g off : Nat) (cs : Array Value) (hx : a.eval x = .pointer (some ⟨g, off, none⟩)) (hy : a.eval y = .agg cs)
    (t : TypeId) (old : Array Value) (hB : Blk w g t old) (n : Nat) (hi : (Try.prog.info? ty).map (·.size) = some n) (hn : cs.size = n) (hl : off + n ≤ old.size) (h1 : ∀ v ∈ cs.toList, v.oneCell' = true)
    (h : ∀ w', Sta w w' g off t old cs → K (a.put o.dst undef) w') : if Region.wanted o (yielded ops a.tmps) = true then Oper.wp Try.prog o a w K Q else E := by
  have hw : Region.wanted o (yielded ops a.tmps) = true := by simp [Region.wanted, hg]
  rw [if_pos hw]
  exact wpo_sta ty x y ho g off cs hx hy t old hB n hi hn hl h1 h
theorem sizeLc : (Try.prog.info? 42).map (·.size) = some 4 := by kernel_rfl
theorem sta_whole {w w' : World} {g : Nat} {t : TypeId} {old cs : Array Value} (h : Sta w w' g 0 t old cs) (hs : cs.size = old.size) : Blk w' g t cs := by
  obtain ⟨⟨cur, k1, k2, k3, k4⟩, -⟩ := h
  have : cur = cs := by
    apply Array.ext
    · omega
    · intro i h1 h2
      have := k4 i h2
      rw [Nat.zero_add, Array.getElem?_eq_getElem h1, Array.getElem?_eq_getElem h2] at this
      injection this
  rw [← this]; exact k1
abbrev lcA (x : Loc) : Array Value := #[.bool x.1.1, .int .u64 (x.1.2.1 : Int), .int .u64 (x.1.2.2 : Int), .int .i64 x.2]
end Go.Proofs.Ytabbclocgkhnhaa

namespace Go.Proofs.Ytabbclocgkhnhaa
open Go.RowKit Go.Maps
set_option linter.unusedVariables false

set_option maxRecDepth 100000 in
set_option maxHeartbeats 4000000 in
theorem nearest_any (a : AdI) (ha : N64 a.2.1 ∧ N64 a.2.2) (A : Option Addr) (n c : Nat) (l : List Loc) (hl : l.length = n) (hn : n ≤ 1000) (hL : ∀ x ∈ l, LocI x) (w : World) (h : w.ownsRow 0 42 4 (.slice A n c) n (l.flatMap lcC)) :
    Calls Try.prog 45 #[.slice A n c, adV a] w fun e w' => e = .returned (.tuple #[.agg (lcA (bstL a l n)), .bool (decide (0 < (bstL a l n).2))]) ∧ Tch w w' [] := by
  have HH := Lib.hid (fun x (hx : LocI x) W => pholds_any x a hx ha W)
  have HO := Lib.hid h
  have HL := Lib.hid hl
  have HLL := Lib.hid hL
  obtain ⟨xb, hxb⟩ : ∃ xb, w.heap.size = xb := ⟨_, rfl⟩
  have HXb := Lib.hid hxb
  obtain ⟨gr, hgr⟩ : ∃ gr, xb + 1 = gr := ⟨_, rfl⟩
  obtain ⟨gb, hgb⟩ : ∃ gb, gr + 1 = gb := ⟨_, rfl⟩
  have HGr := Lib.hid hgr
  have HGb := Lib.hid hgb
  have HB0 : Hid (Blk (((w.alloc (.cells #[.bool a.1, .int .u64 (a.2.1 : Int), .int .u64 (a.2.2 : Int)] 34)).alloc (.cells #[.bool false, .int .u64 0, .int .u64 0, .int .i64 0] 42)).alloc (.cells #[.bool false, .int .u64 0, .int .u64 0, .int .i64 0] 42)) xb 34 #[.bool a.1, .int .u64 (a.2.1 : Int), .int .u64 (a.2.2 : Int)]) :=
    Lib.hid (hxb ▸ ((Blk.new w _ _).alloc _).alloc _)
  have HB1 : Hid (Blk (((w.alloc (.cells #[.bool a.1, .int .u64 (a.2.1 : Int), .int .u64 (a.2.2 : Int)] 34)).alloc (.cells #[.bool false, .int .u64 0, .int .u64 0, .int .i64 0] 42)).alloc (.cells #[.bool false, .int .u64 0, .int .u64 0, .int .i64 0] 42)) gr 42 (lcA (bstL a l 0))) :=
    Lib.hid (by have := (Blk.new (w.alloc (.cells #[.bool a.1, .int .u64 (a.2.1 : Int), .int .u64 (a.2.2 : Int)] 34)) 42 #[.bool false, .int .u64 0, .int .u64 0, .int .i64 0]).alloc (.cells #[.bool false, .int .u64 0, .int .u64 0, .int .i64 0] 42); rw [World.size_alloc, hxb, hgr] at this; exact this)
  have HB2 : Hid (Blk (((w.alloc (.cells #[.bool a.1, .int .u64 (a.2.1 : Int), .int .u64 (a.2.2 : Int)] 34)).alloc (.cells #[.bool false, .int .u64 0, .int .u64 0, .int .i64 0] 42)).alloc (.cells #[.bool false, .int .u64 0, .int .u64 0, .int .i64 0] 42)) gb 42 (lcA (bstL a l 0))) :=
    Lib.hid (by have := Blk.new ((w.alloc (.cells #[.bool a.1, .int .u64 (a.2.1 : Int), .int .u64 (a.2.2 : Int)] 34)).alloc (.cells #[.bool false, .int .u64 0, .int .u64 0, .int .i64 0] 42)) 42 #[.bool false, .int .u64 0, .int .u64 0, .int .i64 0]; rw [World.size_alloc, World.size_alloc, hxb, hgr, hgb] at this; exact this)
  have HNe : Hid (xb ≠ gb ∧ gr ≠ gb) := Lib.hid (by omega)
  obtain ⟨s, ah, al⟩ := a
  clear h hl hL hxb hgr hgb
  go_enter Try.func45, Try.ntmps45
  go_wp2
  rw [HXb.out, HGr.out, HGb.out]
  go_loopw [11] (fun kv wr => ∃ k : Nat, kv = .int .i64 (k : Int) ∧ k ≤ n ∧ Hid (Tch w wr []) ∧ Hid (Blk wr xb 34 #[.bool s, .int .u64 (ah : Int), .int .u64 (al : Int)]) ∧ Hid (Blk wr gr 42 (lcA (bstL (s, ah, al) l 0))) ∧ Hid (Blk wr gb 42 (lcA (bstL (s, ah, al) l k)))) (fun kv _ => n - (intOf kv).toNat)
  case atStart => exact ⟨0, rfl, Nat.zero_le _, Lib.hid ((((Tch.refl w []).alloc _).alloc _).alloc _), HB0, HB1, HB2⟩
  case round =>
    obtain ⟨k, rfl, hk, hT, hB0, hB1, hB2⟩ := hrel
    have k1 : IntKind.i64.wrap ((k : Int) + 1) = (k : Int) + 1 := by rw [IntKind.wrap_i64]; omega
    obtain ⟨y, hy⟩ : ∃ y, bstL (s, ah, al) l k = y := ⟨_, rfl⟩
    rw [hy] at hB2
    have HY := Lib.hid hy
    clear hy
    by_cases hkn : k < n
    · have kI : (k : Int) < (n : Int) := by omega
      have k0 : (0 : Int) ≤ (k : Int) := by omega
      obtain ⟨x, hx⟩ : ∃ x, l[k]? = some x := ⟨_, List.getElem?_eq_getElem (by rw [HL.out]; exact hkn)⟩
      have HLx := Lib.hid (HLL.out x (List.mem_of_getElem? hx))
      have HSt : Hid (bstL (s, ah, al) l (k + 1) = if y.2 < x.2 ∧ hldI (s, ah, al) x = true then x else y) := Lib.hid (by rw [bstL_step HLL.out hx, HY.out])
      have HC := Lib.hid (fun W => HH.out x HLx.out W)
      have d3 := own_tch HO.out hT.out (by simp)
      obtain ⟨gx, rfl⟩ := slice_some d3 (by omega)
      obtain ⟨⟨xs, xh, xl⟩, xbt⟩ := x
      obtain ⟨⟨ys, yh, yl⟩, ybt⟩ := y
      have x0 : wr.cell? ⟨gx, k * 4, none⟩ = some (.bool xs) := own_cellN d3 ((flat4_at (f := lcC) (fun _ => rfl) hx (k := 0) (by decide)).trans rfl)
      have x1 := own_cellN d3 ((flat4_at (f := lcC) (fun _ => rfl) hx (k := 1) (by decide)).trans (show _ = some (Value.int .u64 (xh : Int)) by rfl))
      have x2 := own_cellN d3 ((flat4_at (f := lcC) (fun _ => rfl) hx (k := 2) (by decide)).trans (show _ = some (Value.int .u64 (xl : Int)) by rfl))
      have x3 := own_cellN d3 ((flat4_at (f := lcC) (fun _ => rfl) hx (k := 3) (by decide)).trans (show _ = some (Value.int .i64 xbt) by rfl))
      have HW : Hid (Tch w (wr.alloc (.cells #[.bool xs, .int .u64 (xh : Int), .int .u64 (xl : Int), .int .i64 xbt] 42)) []) := Lib.hid (hT.out.alloc _)
      have HA0 := Lib.hid (hB0.out.alloc (.cells #[.bool xs, .int .u64 (xh : Int), .int .u64 (xl : Int), .int .i64 xbt] 42))
      have HA1 := Lib.hid (hB1.out.alloc (.cells #[.bool xs, .int .u64 (xh : Int), .int .u64 (xl : Int), .int .i64 xbt] 42))
      have HA2 := Lib.hid (hB2.out.alloc (.cells #[.bool xs, .int .u64 (xh : Int), .int .u64 (xl : Int), .int .i64 xbt] 42))
      have HA3 := Lib.hid (Blk.new wr 42 #[.bool xs, .int .u64 (xh : Int), .int .u64 (xl : Int), .int .i64 xbt])
      have b3 := (HA2.out.cell 3).trans (show _ = some (Value.int .i64 ybt) by rfl)
      clear d3 hx hT hB0 hB1 hB2
      by_cases hc : ybt < xbt
      · obtain ⟨a0, a1, a2⟩ := HA0.out.c3
        obtain ⟨R, hR⟩ : ∃ R, hldI (s, ah, al) ((xs, xh, xl), xbt) = R := ⟨_, rfl⟩
        rw [hR] at HC HSt
        clear hR
        go_wp2_with fail
        refine Calls.mono (HC.out _) ?_
        rintro e w5 ⟨rfl, hT5⟩
        have HT5 := Lib.hid (HW.out.trans hT5)
        have HE0 := Lib.hid (hT5.blk HA0.out (by simp))
        have HE1 := Lib.hid (hT5.blk HA1.out (by simp))
        have HE2 := Lib.hid (hT5.blk HA2.out (by simp))
        have HE3 := Lib.hid (hT5.blk HA3.out (by simp))
        clear hT5 a0 a1 a2 b3 x0 x1 x2 x3
        cases R with
        | true =>
          obtain ⟨c0, c1, c2, c3⟩ := HE3.out.c4
          have HN : Hid (bstL (s, ah, al) l (k + 1) = ((xs, xh, xl), xbt)) := Lib.hid (by rw [HSt.out, if_pos ⟨hc, rfl⟩])
          go_wp2_with (refine wpList_sta rfl 42 (.tmp 6) (.tmp 25) rfl gb 0 #[.bool xs, .int .u64 (xh : Int), .int .u64 (xl : Int), .int .i64 xbt] rfl rfl 42 _ HE2.out 4 sizeLc rfl (show 0 + 4 ≤ 4 from by decide) (by simp [Value.oneCell']) ?_; intro w6 hs6; have HS6 := Lib.hid hs6; clear hs6)
          go_roundw
          case rel => exact ⟨k + 1, by go_num, hkn, Lib.hid (HT5.out.trans_fre HS6.out.tch (by have := HXb.out; have := HGr.out; have := HGb.out; simp; omega)), Lib.hid (HS6.out.tch.blk HE0.out (by simpa using HNe.out.1)), Lib.hid (HS6.out.tch.blk HE1.out (by simpa using HNe.out.2)), Lib.hid (by rw [HN.out]; exact sta_whole HS6.out rfl)⟩
          case measure => simp [intOf]; omega
        | false =>
          have HN : Hid (bstL (s, ah, al) l (k + 1) = ((ys, yh, yl), ybt)) := Lib.hid (by rw [HSt.out, if_neg (fun z => by cases z.2)])
          go_wp2
          go_roundw
          case rel => exact ⟨k + 1, by go_num, hkn, HT5, HE0, HE1, Lib.hid (by rw [HN.out]; exact HE2.out)⟩
          case measure => simp [intOf]; omega
      · have HN : Hid (bstL (s, ah, al) l (k + 1) = ((ys, yh, yl), ybt)) := Lib.hid (by rw [HSt.out, if_neg (fun z => hc z.1)])
        go_wp2
        go_roundw
        case rel => exact ⟨k + 1, by go_num, hkn, HW, HA0, HA1, Lib.hid (by rw [HN.out]; exact HA2.out)⟩
        case measure => simp [intOf]; omega
    · obtain rfl : k = n := by omega
      have kI : ¬ (k : Int) < (k : Int) := by omega
      obtain ⟨⟨ys, yh, yl⟩, ybt⟩ := y
      obtain ⟨b0, b1, b2, b3⟩ := hB2.out.c4
      clear hkn hk
      go_wp2
      have HBC := Lib.hid (And.intro b0 (And.intro b1 (And.intro b2 b3)))
      refine wp_region_held_drew (S := (fun W => W.cell? ⟨gb, 0, none⟩ = some (Value.bool ys) ∧ W.cell? ⟨gb, 1, none⟩ = some (Value.int .u64 (yh : Int)) ∧ W.cell? ⟨gb, 2, none⟩ = some (Value.int .u64 (yl : Int)) ∧ W.cell? ⟨gb, 3, none⟩ = some (Value.int .i64 ybt))) (by kernel_rfl) ?_ (fun hHeld => ?_)
      · (exact HBC.out)
      refine wpAnyH_take (i := 0) (oi := { dst := some 27, op := Go.Op.load 42 (Go.Operand.tmp 6), type := 42, pos := "ask.go:80", after := #[], guard := none }) (v := ?_) rfl (by kernel_rfl) (by kernel_rfl) (by kernel_rfl) (fun _ _ _ h => h) (Or.inl ⟨by rfl, ?_⟩) (by assumption) ?_
      rotate_left
      · intro w hSw
        (try dsimp only at hSw)
        go_simp
        try (with_reducible rfl)
      try simp only [Act.put, List.setIfInBounds_toArray, List.set_cons_zero, List.set_cons_succ]
      refine wpAnyH_take (i := 1) (oi := { dst := some 28, op := Go.Op.fieldAddr 42 (Go.Operand.tmp 6) 1, type := 0, pos := "ask.go:80", after := #[{ on := 4, ground := Go.Ground.gcOnly Go.Departure.lateStores }], guard := none }) (v := ?_) rfl (by kernel_rfl) (by kernel_rfl) (by kernel_rfl) (fun _ _ _ h => h) (Or.inl ⟨by rfl, ?_⟩) (by assumption) ?_
      rotate_left
      · intro w hSw
        (try dsimp only at hSw)
        go_simp
        try (with_reducible rfl)
      try simp only [Act.put, List.setIfInBounds_toArray, List.set_cons_zero, List.set_cons_succ]
      refine wpAnyH_take (i := 2) (oi := { dst := some 29, op := Go.Op.load 3 (Go.Operand.tmp 28), type := 3, pos := "ask.go:80", after := #[{ on := 1, ground := Go.Ground.data }, { on := 4, ground := Go.Ground.gcOnly Go.Departure.lateStores }], guard := none }) (v := ?_) rfl (by kernel_rfl) (by kernel_rfl) (by kernel_rfl) (fun _ _ _ h => h) (Or.inl ⟨by rfl, ?_⟩) (by assumption) ?_
      rotate_left
      · intro w hSw
        (try dsimp only at hSw)
        go_simp
        try (with_reducible rfl)
      try simp only [Act.put, List.setIfInBounds_toArray, List.set_cons_zero, List.set_cons_succ]
      refine wpAnyH_take (i := 3) (oi := { dst := some 30, op := Go.Op.binOp Go.BinOp.gtr 3 (Go.Operand.tmp 29) (Go.Operand.const (Go.Value.int Go.IntKind.i64 0)) 3, type := 4, pos := "ask.go:80", after := #[{ on := 2, ground := Go.Ground.data }, { on := 4, ground := Go.Ground.gcOnly Go.Departure.lateStores }], guard := none }) (v := ?_) rfl (by kernel_rfl) (by kernel_rfl) (by kernel_rfl) (fun _ _ _ h => h) (Or.inl ⟨by rfl, ?_⟩) (by assumption) ?_
      rotate_left
      · intro w hSw
        (try dsimp only at hSw)
        go_simp
        try (with_reducible rfl)
      try simp only [Act.put, List.setIfInBounds_toArray, List.set_cons_zero, List.set_cons_succ]
      refine wpAnyH_ready (rs := [4]) (by kernel_rfl) (by simp) ?_
      refine AllReadyH.cons (o := { dst := none, op := Go.Op.store 42 (Go.Operand.tmp 4) (Go.Operand.tmp 27), type := 0, pos := "ask.go:80", after := #[{ on := 0, ground := Go.Ground.data }, { on := 0, ground := Go.Ground.phase }, { on := 1, ground := Go.Ground.textOnly Go.Departure.lateStores }, { on := 2, ground := Go.Ground.textOnly Go.Departure.lateStores }, { on := 3, ground := Go.Ground.textOnly Go.Departure.lateStores }], guard := none }) rfl (fun K hK => ?_) AllReadyH.nil
      rw [if_pos (by rfl)]
      refine wpo_sta 42 (.tmp 4) (.tmp 27) rfl gr 0 #[.bool ys, .int .u64 (yh : Int), .int .u64 (yl : Int), .int .i64 ybt] rfl rfl 42 _ hB1.out 4 sizeLc rfl (show 0 + 4 ≤ 4 from by decide) (by simp [Value.oneCell']) (fun w6 hs6 => ?_)
      have HS6 := Lib.hid hs6
      have HS9 := Lib.hid (hs6.tch.blk hB2.out (by simpa using HNe.out.2.symm))
      clear hs6
      refine hK.out _ _ ?_ (fun hHeld => ?_)
      · (exact And.intro (HS9.out.cell 0) (And.intro (HS9.out.cell 1) (And.intro (HS9.out.cell 2) (HS9.out.cell 3))))
      clear hK K
      try simp only [Act.put]
      refine wpAnyH_take (i := 5) (oi := { dst := some 5, op := Go.Op.assign (Go.Operand.tmp 30), type := 4, pos := "ask.go:80", after := #[{ on := 3, ground := Go.Ground.data }, { on := 4, ground := Go.Ground.chain }, { on := 0, ground := Go.Ground.phase }, { on := 1, ground := Go.Ground.phase }, { on := 2, ground := Go.Ground.phase }, { on := 3, ground := Go.Ground.phase }, { on := 4, ground := Go.Ground.phase }], guard := none }) (v := ?_) rfl (by kernel_rfl) (by kernel_rfl) (by kernel_rfl) (fun _ _ _ h => h) (Or.inl ⟨by rfl, ?_⟩) (by assumption) ?_
      rotate_left
      · intro w hSw
        (try dsimp only at hSw)
        go_simp
        try (with_reducible rfl)
      try simp only [Act.put, List.setIfInBounds_toArray, List.set_cons_zero, List.set_cons_succ]
      refine wpAnyH_done (by kernel_rfl) ?_ _
      obtain ⟨z0, z1, z2, z3⟩ := (sta_whole HS6.out rfl).c4
      have hTT : Tch w w6 [] := hT.out.trans_fre (Tch.of_drew HS6.out.tch) (by have := HXb.out; have := HGr.out; have := HGb.out; simp; omega)
      clear b0 b1 b2 b3
      go_wp2
      exact bodyPost_ret (v := .tuple #[.agg #[.bool ys, .int .u64 (yh : Int), .int .u64 (yl : Int), .int .i64 ybt], .bool (decide (0 < ybt))]) (by simp [results, Try.results45, go_sem, z0, z1, z2, z3]) rfl ⟨by rw [HY.out], hTT⟩
end Go.Proofs.Ytabbclocgkhnhaa

namespace Go.Proofs.Ytabbclocgkhnhaa
open Go.RowKit Go.Maps
set_option linter.unusedVariables false

theorem nearQ_stepI {st : StI} (hI : InvI st) (a : AdI) {k : Nat} {p : Prt} {l : List Loc} (hp : st.1[k]? = some p) (hl : st.2[k]? = some l) (h0 : 0 ≤ (nearQ st a k).2) :
    nearQ st a (k + 1) = if p.2.2.2 = true ∧ (nearQ st a k).2 < (bstL a l l.length).2 then (k + 1, (bstL a l l.length).2) else nearQ st a k := by
  have e : nearQ st a (k + 1) = nearT a p.2.2.2 (k + 1) l (nearQ st a k) l.length := by
    show (match st.1[k]?, st.2[k]? with | some p, some l => nearT a p.2.2.2 (k + 1) l (nearQ st a k) l.length | _, _ => nearQ st a k) = _
    rw [hp, hl]
  rw [e, nearT_bst (hI.is hl) _ _ h0 _ (Nat.le_refl _)]
theorem nearQ_nn {st : StI} (hI : InvI st) (a : AdI) : ∀ k, k ≤ st.1.length → 0 ≤ (nearQ st a k).2
  | 0, _ => Int.le_refl 0
  | k + 1, hk => by
    have ih := nearQ_nn hI a k (by omega)
    rw [nearQ_stepI hI a (List.getElem?_eq_getElem (by omega)) (List.getElem?_eq_getElem (l := st.2) (by rw [← hI.len]; omega)) ih]
    split
    · exact (bstL_bd (hI.is (List.getElem?_eq_getElem (l := st.2) (by rw [← hI.len]; omega))) _).1
    · exact ih
set_option maxRecDepth 100000 in
set_option maxHeartbeats 4000000 in
theorem pnear_any (p : Nat) (S : List Nat) (st : StI) (a : AdI) (ha : N64 a.2.1 ∧ N64 a.2.2) (w : World) (h : IfP w p S st) :
    Calls Try.prog 22 #[.pointer (some ⟨p, 0, none⟩), adV a] w fun e w' => e = .returned (.tuple #[.int .i64 (nearI st a : Int), .bool (decide (0 < nearI st a))]) ∧ Tch w w' [] := by
  have HH := Lib.hid h
  have HI := Lib.hid h.inv
  have HNr := Lib.hid (fun A c (l : List Loc) (hl : l.length ≤ 8) hL W hO => nearest_any a ha A l.length c l rfl (by omega) hL W hO)
  obtain ⟨xb, hxb⟩ : ∃ xb, w.heap.size = xb := ⟨_, rfl⟩
  have HXb := Lib.hid hxb
  have HB0 : Hid (Blk (w.alloc (.cells #[.bool a.1, .int .u64 (a.2.1 : Int), .int .u64 (a.2.2 : Int)] 34)) xb 34 #[.bool a.1, .int .u64 (a.2.1 : Int), .int .u64 (a.2.2 : Int)]) := Lib.hid (hxb ▸ Blk.new w _ _)
  have HT0 : Hid (Tch w (w.alloc (.cells #[.bool a.1, .int .u64 (a.2.1 : Int), .int .u64 (a.2.2 : Int)] 34)) []) := Lib.hid ((Tch.refl w []).alloc _)
  obtain ⟨AM, cM, m, D, c0, -⟩ := (h.tch HT0.out (by simp)).head
  obtain ⟨n, hn⟩ : ∃ n, st.1.length = n := ⟨_, rfl⟩
  have hf := h.few
  rw [hn] at c0 hf
  have HN := Lib.hid hn
  have HC0 : Hid (w.cell? ⟨p, 0, none⟩ = some (.slice AM n cM)) := Lib.hid ((HT0.out.cell (p := ⟨p, 0, none⟩) (h.lt p h.pin) (by simp)).symm.trans c0)
  have HPl : Hid (p < w.heap.size) := Lib.hid (h.lt p h.pin)
  obtain ⟨s, ah, al⟩ := a
  clear h hxb hn
  go_enter Try.func22, Try.ntmps22
  go_wp2
  rw [HXb.out]
  go_loopw [6, 7, 17] (fun pv bv kv wr => ∃ (k q : Nat) (b : Int), pv = .int .i64 (q : Int) ∧ bv = .int .i64 b ∧ kv = .int .i64 (k : Int) ∧ k ≤ n ∧ Hid (nearQ st (s, ah, al) k = (q, b)) ∧ Hid (Tch w wr []) ∧ Hid (Blk wr xb 34 #[.bool s, .int .u64 (ah : Int), .int .u64 (al : Int)])) (fun _ _ kv _ => n - (intOf kv).toNat)
  case atStart => exact ⟨0, 0, 0, rfl, rfl, rfl, Nat.zero_le _, Lib.hid rfl, HT0, HB0⟩
  case round =>
    obtain ⟨k, q, b, rfl, rfl, rfl, hk, hQ, hT, hB⟩ := hrel
    have k1 : IntKind.i64.wrap ((k : Int) + 1) = (k : Int) + 1 := by rw [IntKind.wrap_i64]; omega
    by_cases hkn : k < n
    · have kI : (k : Int) < (n : Int) := by omega
      have k0 : (0 : Int) ≤ (k : Int) := by omega
      obtain ⟨gM, cM', c, A, pt, l, d0, hp, hl, x0, x1, x2, x3, x4, hO, hl8, hpl, hgl, hfz, hgS⟩ := (HH.out.tch hT.out (by simp)).at_ (i := k) (by rw [HN.out]; exact hkn)
      rw [(hT.out.cell (p := ⟨p, 0, none⟩) HPl.out (by simp)).trans HC0.out] at d0
      injection d0 with d0
      injection d0 with d1 d2 d3
      subst d1
      have hb0 : 0 ≤ b := by have := nearQ_nn HI.out (s, ah, al) k (by rw [HN.out]; omega); rw [hQ.out] at this; exact this
      have HSt := Lib.hid (nearQ_stepI HI.out (s, ah, al) hp hl (by rw [hQ.out]; exact hb0))
      rw [hQ.out] at HSt
      have HC := Lib.hid (HNr.out A c l hl8 (HI.out.is hl))
      obtain ⟨m', hm⟩ : ∃ m', l.length = m' := ⟨_, rfl⟩
      rw [hm] at x4 HC HSt hO
      obtain ⟨y, hy⟩ : ∃ y, bstL (s, ah, al) l m' = y := ⟨_, rfl⟩
      rw [hy] at HC HSt
      obtain ⟨⟨ys, yh, yl⟩, ybt⟩ := y
      obtain ⟨qn, qm, qt, up⟩ := pt
      have HA := Lib.hid (Blk.new wr 74 #[.string qn, .int .u64 qm, .int .i64 qt, .bool up, .slice A m' c])
      have HA0 := Lib.hid (hB.out.alloc (.cells #[.string qn, .int .u64 qm, .int .i64 qt, .bool up, .slice A m' c] 74))
      have HW : Hid (Tch w (wr.alloc (.cells #[.string qn, .int .u64 qm, .int .i64 qt, .bool up, .slice A m' c] 74)) []) := Lib.hid (hT.out.alloc _)
      have HC2 := Lib.hid (HC.out (wr.alloc (.cells #[.string qn, .int .u64 qm, .int .i64 qt, .bool up, .slice A m' c] 74)) (hO.alloc _))
      obtain ⟨ok, hok⟩ : ∃ ok, decide (0 < ybt) = ok := ⟨_, rfl⟩
      have HC3 : Hid (Calls Try.prog 45 #[.slice A m' c, adV (s, ah, al)] (wr.alloc (.cells #[.string qn, .int .u64 qm, .int .i64 qt, .bool up, .slice A m' c] 74)) fun e w' => e = .returned (.tuple #[.agg #[.bool ys, .int .u64 (yh : Int), .int .u64 (yl : Int), .int .i64 ybt], .bool ok]) ∧ Tch (wr.alloc (.cells #[.string qn, .int .u64 qm, .int .i64 qt, .bool up, .slice A m' c] 74)) w' []) := Lib.hid (by rw [← hok]; exact HC2.out)
      obtain ⟨a0, a1, a2⟩ := HA0.out.c3
      have HOk := Lib.hid hok
      have HB := Lib.hid hb0
      clear hp hl hO hl8 hpl hgl hfz hgS hm hy d2 d3 HC HC2 hok hb0 hT hB
      go_wp2_with fail
      refine Calls.mono HC3.out ?_
      rintro e w5 ⟨rfl, hT5⟩
      have HT5 := Lib.hid ((HW.out.trans hT5).alloc (.cells #[.bool ys, .int .u64 (yh : Int), .int .u64 (yl : Int), .int .i64 ybt] 42))
      have HE0 := Lib.hid ((hT5.blk HA0.out (by simp)).alloc (.cells #[.bool ys, .int .u64 (yh : Int), .int .u64 (yl : Int), .int .i64 ybt] 42))
      have u3 := (((hT5.blk HA.out (by simp)).alloc (.cells #[.bool ys, .int .u64 (yh : Int), .int .u64 (yl : Int), .int .i64 ybt] 42)).cell 3).trans (show _ = some (Value.bool up) by rfl)
      have v3 := ((Blk.new w5 42 #[.bool ys, .int .u64 (yh : Int), .int .u64 (yl : Int), .int .i64 ybt]).cell 3).trans (show _ = some (Value.int .i64 ybt) by rfl)
      clear hT5 a0 a1 a2 x0 x1 x2 x3 x4
      cases ok with
      | false =>
        have hno : ¬ 0 < ybt := by have := HOk.out; simpa using this
        have HN2 : Hid (nearQ st (s, ah, al) (k + 1) = (q, b)) := Lib.hid (by rw [HSt.out, if_neg (fun z => by have h9 : b < ybt := z.2; have := HB.out; omega)])
        clear hno
        go_wp2
        go_roundw
        case rel => exact ⟨k + 1, q, b, rfl, rfl, by go_num, hkn, HN2, HT5, HE0⟩
        case measure => simp [intOf]; omega
      | true =>
        cases up with
        | false =>
          have HN2 : Hid (nearQ st (s, ah, al) (k + 1) = (q, b)) := Lib.hid (by rw [HSt.out, if_neg (fun z => by cases z.1)])
          go_wp2
          go_roundw
          case rel => exact ⟨k + 1, q, b, rfl, rfl, by go_num, hkn, HN2, HT5, HE0⟩
          case measure => simp [intOf]; omega
        | true =>
          by_cases hc : b < ybt
          · have HN2 : Hid (nearQ st (s, ah, al) (k + 1) = (k + 1, ybt)) := Lib.hid (by rw [HSt.out, if_pos ⟨rfl, hc⟩])
            go_wp2
            go_quiet (fail)
            go_wp2
            go_roundw
            case rel => exact ⟨k + 1, k + 1, ybt, by go_num, rfl, by go_num, hkn, HN2, Lib.hid (HT5.out.drewN _), HE0⟩
            case measure => simp [intOf]; omega
          · have HN2 : Hid (nearQ st (s, ah, al) (k + 1) = (q, b)) := Lib.hid (by rw [HSt.out, if_neg (fun z => hc z.2)])
            go_wp2
            go_roundw
            case rel => exact ⟨k + 1, q, b, rfl, rfl, by go_num, hkn, HN2, HT5, HE0⟩
            case measure => simp [intOf]; omega
    · obtain rfl : k = n := by omega
      have kI : ¬ (k : Int) < (k : Int) := by omega
      have HR : Hid (nearI st (s, ah, al) = q) := Lib.hid (by unfold nearI; rw [HN.out, hQ.out])
      have HP : Hid (decide (0 < (q : Int)) = decide (0 < q)) := Lib.hid (by simp)
      clear hkn hk
      go_wp2
      go_ret2
      exact ⟨by rw [HR.out, ← HP.out]; rfl, hT.out⟩
theorem nearP (p : Nat) (S : List Nat) (st : StI) (a : AdI) (ha : N64 a.2.1 ∧ N64 a.2.2) (w : World) (h : IfP w p S st) :
    Calls Try.prog 22 #[.pointer (some ⟨p, 0, none⟩), adV a] w fun e w' => e = .returned (.tuple #[.int .i64 (nearI st a : Int), .bool (decide (0 < nearI st a))]) ∧ IfP w' p S st ∧ Tch w w' S := by
  refine Calls.mono (pnear_any p S st a ha w h) ?_
  rintro e w' ⟨rfl, hT⟩
  exact ⟨rfl, h.tch hT (by simp), hT.mono (by simp)⟩
end Go.Proofs.Ytabbclocgkhnhaa

namespace Go.Proofs.Ytabbclocgkhnhaa
open Go.RowKit Go.Maps
set_option linter.unusedVariables false

theorem sizeAdr : (Try.prog.info? 34).map (·.size) = some 3 := by kernel_rfl
/-- Source over the row that a port has. -/
def srcL (l : List Loc) (a : AdI) : Option AdI := if vld a.1 (a.2.1 : Int) (a.2.2 : Int) = false then none else (pickI a l).bind fun k => (l[k]?).map (·.1)
theorem srcL_src (st : StI) (port : Int) (a : AdI) : srcL (localsI st port) a = srcI st port a := by
  unfold srcL srcI localsI
  cases ht : thereI st port with
  | true => simp
  | false =>
    simp only [if_true]
    have e : pickI a [] = none := rfl
    rw [e]
    simp
theorem srcL_near {l : List Loc} {a : AdI} (hv : vld a.1 (a.2.1 : Int) (a.2.2 : Int) = true) {j : Nat} {y : Loc} (h : bestT a l l.length = some j) (hy : l[j]? = some y) : srcL l a = some y.1 := by
  unfold srcL pickI
  rw [hv, h]
  simp [hy]
theorem srcL_fam {l : List Loc} {a : AdI} (hv : vld a.1 (a.2.1 : Int) (a.2.2 : Int) = true) (h : bestT a l l.length = none) {k : Nat} {y : Loc} (hy : l[k]? = some y) (he : y.1.1 = a.1) (hn : ∀ (j : Nat) (x : Loc), j < k → l[j]? = some x → decide (x.1.1 = a.1) = false) : srcL l a = some y.1 := by
  have hf : famI a.1 l = k + 1 := fndI_succ.2 ⟨⟨y, hy, decide_eq_true he⟩, hn⟩
  unfold srcL pickI
  rw [hv, h]
  simp [hf, hy]
theorem srcL_none {l : List Loc} {a : AdI} (hv : vld a.1 (a.2.1 : Int) (a.2.2 : Int) = true) (h : bestT a l l.length = none) (hn : ∀ (j : Nat) (x : Loc), l[j]? = some x → decide (x.1.1 = a.1) = false) : srcL l a = none := by
  have hf : famI a.1 l = 0 := fndI_zero.2 hn
  unfold srcL pickI
  rw [hv, h]
  simp [hf]
theorem srV_some (y : AdI) : srV (some y) = .tuple #[.agg #[.bool y.1, .int .u64 (y.2.1 : Int), .int .u64 (y.2.2 : Int)], .bool true] := rfl
theorem srV_none : srV none = .tuple #[.agg #[.bool false, .int .u64 0, .int .u64 0], .bool false] := rfl
set_option maxRecDepth 100000 in
set_option maxHeartbeats 4000000 in
theorem psrc_any (p : Nat) (S : List Nat) (st : StI) (port : Int) (a : AdI) (ha : N64 a.2.1 ∧ N64 a.2.2) (w : World) (h : IfP w p S st) :
    Calls Try.prog 19 #[.pointer (some ⟨p, 0, none⟩), .int .i64 port, adV a] w fun e w' => e = .returned (srV (srcI st port a)) ∧ Tch w w' [] := by
  rw [← srcL_src]
  have hl8 : (localsI st port).length ≤ 8 ∧ ∀ x ∈ localsI st port, LocI x := by
    unfold localsI
    split
    · simp
    · unfold locI
      cases hc : st.2[idxI port]? with
      | none => simp
      | some l => exact ⟨h.inv.loc l (List.mem_of_getElem? hc), h.inv.is hc⟩
  have HLo := Lib.hid (fun W (hT : Tch w W []) => plocals_any p S st port W (h.tch hT (by simp)))
  obtain ⟨l, hl⟩ : ∃ l, localsI st port = l := ⟨_, rfl⟩
  rw [hl] at HLo hl8 ⊢
  have HNr := Lib.hid (fun A c W hO => nearest_any a ha A l.length c l rfl (by omega) hl8.2 W hO)
  have HSm := Lib.hid (bstL_some hl8.2 l.length (a := a))
  have HSn := Lib.hid (fun hv j y => srcL_near (l := l) (a := a) hv (j := j) (y := y))
  have HSf := Lib.hid (fun hv h k y => srcL_fam (l := l) (a := a) hv h (k := k) (y := y))
  have HS0 := Lib.hid (srcL_none (l := l) (a := a))
  have HVl := Lib.hid (fun W => valid_at a.1 (a.2.1 : Int) (a.2.2 : Int) W rfl)
  have HS1 : Hid (vld a.1 (a.2.1 : Int) (a.2.2 : Int) = false → srcL l a = none) := Lib.hid (fun e => by unfold srcL; rw [e]; rfl)
  obtain ⟨n, hn⟩ : ∃ n, l.length = n := ⟨_, rfl⟩
  have HN := Lib.hid hn
  rw [hn] at HLo HNr HSm HSn HSf HS0
  have hn8 : n ≤ 8 := by rw [← hn]; exact hl8.1
  obtain ⟨xb, hxb⟩ : ∃ xb, w.heap.size = xb := ⟨_, rfl⟩
  have HXb := Lib.hid hxb
  obtain ⟨gr, hgr⟩ : ∃ gr, xb + 1 = gr := ⟨_, rfl⟩
  have HGr := Lib.hid hgr
  obtain ⟨W0, hW0⟩ : ∃ W, (w.alloc (.cells #[.bool a.1, .int .u64 (a.2.1 : Int), .int .u64 (a.2.2 : Int)] 34)).alloc (.cells #[.bool false, .int .u64 0, .int .u64 0] 34) = W := ⟨_, rfl⟩
  have hB0 : Blk W0 xb 34 #[.bool a.1, .int .u64 (a.2.1 : Int), .int .u64 (a.2.2 : Int)] := hW0 ▸ hxb ▸ (Blk.new w _ _).alloc _
  have hB1 : Blk W0 gr 34 #[.bool false, .int .u64 0, .int .u64 0] := by
    have := Blk.new (w.alloc (.cells #[.bool a.1, .int .u64 (a.2.1 : Int), .int .u64 (a.2.2 : Int)] 34)) 34 #[.bool false, .int .u64 0, .int .u64 0]
    rw [World.size_alloc, hxb, hgr, hW0] at this; exact this
  have hT0 : Tch w W0 [] := hW0 ▸ ((Tch.refl w []).alloc _).alloc _
  have HB0 := Lib.hid hB0
  have HB1 := Lib.hid hB1
  have HT0 := Lib.hid hT0
  have HW0 := Lib.hid hW0
  obtain ⟨V, hV⟩ : ∃ V, vld a.1 (a.2.1 : Int) (a.2.2 : Int) = V := ⟨_, rfl⟩
  rw [hV] at HVl HSn HSf HS0 HS1
  obtain ⟨s, ah, al⟩ := a
  obtain ⟨a0, a1, a2⟩ := hB0.c3
  clear h hl hl8 hn hxb hgr hB0 hB1 hT0 hV
  cases V with
  | false =>
    have HR := Lib.hid (HS1.out rfl)
    have a0' : ((w.alloc (.cells #[.bool s, .int .u64 (ah : Int), .int .u64 (al : Int)] 34)).alloc (.cells #[.bool false, .int .u64 0, .int .u64 0] 34)).cell? ⟨xb, 0, none⟩ = some (.bool s) := hW0 ▸ a0
    clear hW0
    go_enter Try.func19, Try.ntmps19
    go_wp2_with fail
    rw [HW0.out, HXb.out, HGr.out]
    refine Calls.mono (HVl.out _) ?_
    rintro e w1 ⟨rfl, hb⟩
    have hT1 := Tch.of_below [] hb
    have HE1 := Lib.hid (hT1.blk HB1.out (by simp))
    have HT1 := Lib.hid (HT0.out.trans hT1)
    clear hb hT1 a0 a1 a2 a0'
    go_wp2_with (refine wpList_sta rfl 34 (.tmp 6) (.tmp 16) rfl gr 0 #[.bool false, .int .u64 0, .int .u64 0] rfl rfl 34 _ HE1.out 3 sizeAdr rfl (show 0 + 3 ≤ 3 from by decide) (by simp [Value.oneCell']) ?_; intro w6 hs6; have HS6 := Lib.hid hs6; clear hs6)
    obtain ⟨z0, z1, z2⟩ := (sta_whole HS6.out rfl).c3
    have hTT : Tch w w6 [] := HT1.out.trans_fre HS6.out.tch (by have := HXb.out; have := HGr.out; simp; omega)
    exact bodyPost_ret (v := .tuple #[.agg #[.bool false, .int .u64 0, .int .u64 0], .bool false]) (by simp [results, Try.results19, go_sem, z0, z1, z2]) rfl ⟨by rw [HR.out]; rfl, hTT⟩
  | true =>
    clear hW0 HS1
    go_enter Try.func19, Try.ntmps19
    go_wp2_with fail
    rw [HW0.out, HXb.out, HGr.out]
    refine Calls.mono (HVl.out _) ?_
    rintro e w1 ⟨rfl, hb⟩
    have hT1 := Tch.of_below [] hb
    have HE0 := Lib.hid (hT1.blk HB0.out (by simp))
    have HE1 := Lib.hid (hT1.blk HB1.out (by simp))
    have HT1 := Lib.hid (HT0.out.trans hT1)
    clear hb hT1 a0 a1 a2
    go_wp2_with fail
    refine Calls.mono (HLo.out _ HT1.out) ?_
    rintro e w2 ⟨A, c, rfl, hO, rfl⟩
    have HO := Lib.hid hO
    obtain ⟨a0, a1, a2⟩ := HE0.out.c3
    obtain ⟨y, hy⟩ : ∃ y, bstL (s, ah, al) l n = y := ⟨_, rfl⟩
    have HC := Lib.hid (HNr.out A c w1 hO)
    rw [hy] at HC HSm
    obtain ⟨⟨ys, yh, yl⟩, ybt⟩ := y
    have HC3 : Hid (Calls Try.prog 45 #[.slice A n c, adV (s, ah, al)] w1 fun e w' => e = .returned (.tuple #[.agg #[.bool ys, .int .u64 (yh : Int), .int .u64 (yl : Int), .int .i64 ybt], .bool (decide (0 < ybt))]) ∧ Tch w1 w' []) := HC
    clear hO hy HC
    go_wp2_with fail
    rcases HSm.out with ⟨hb, h0⟩ | ⟨j, hb, hj, h0⟩
    · have h0 : ybt = 0 := h0
      subst h0
      have HBn := Lib.hid hb
      clear hb
      refine Calls.mono HC3.out ?_
      rintro e w5 ⟨rfl, hT5⟩
      have HT5 := Lib.hid ((HT1.out.trans hT5).alloc (.cells #[.bool ys, .int .u64 (yh : Int), .int .u64 (yl : Int), .int .i64 0] 42))
      have HF0 := Lib.hid ((hT5.blk HE0.out (by simp)).alloc (.cells #[.bool ys, .int .u64 (yh : Int), .int .u64 (yl : Int), .int .i64 0] 42))
      have HF1 := Lib.hid ((hT5.blk HE1.out (by simp)).alloc (.cells #[.bool ys, .int .u64 (yh : Int), .int .u64 (yl : Int), .int .i64 0] 42))
      have HO5 := Lib.hid ((own_tch HO.out hT5 (by simp)).alloc (.cells #[.bool ys, .int .u64 (yh : Int), .int .u64 (yl : Int), .int .i64 0] 42))
      have bz : decide ((0 : Int) < 0) = false := by decide
      clear hT5 a0 a1 a2
      go_wp2
      obtain ⟨W5, hW5⟩ : ∃ W5, w5.alloc (.cells #[.bool ys, .int .u64 (yh : Int), .int .u64 (yl : Int), .int .i64 0] 42) = W5 := ⟨_, rfl⟩
      rw [hW5] at HT5 HF0 HF1 HO5 ⊢
      clear hW5
      go_loopw [31] (fun kv wr => ∃ k : Nat, kv = .int .i64 (k : Int) ∧ k ≤ n ∧ Hid (∀ (j : Nat) (x : Loc), j < k → l[j]? = some x → decide (x.1.1 = s) = false) ∧ Hid (Tch w wr []) ∧ Hid (Tch W5 wr [])) (fun kv _ => n - (intOf kv).toNat)
      case atStart => exact ⟨0, rfl, Nat.zero_le _, Lib.hid (fun j x hj => absurd hj (by omega)), HT5, Lib.hid (Tch.refl _ _)⟩
      case round =>
        obtain ⟨k, rfl, hk, hA, hT, hT5⟩ := hrel
        have k1 : IntKind.i64.wrap ((k : Int) + 1) = (k : Int) + 1 := by rw [IntKind.wrap_i64]; omega
        have HG0 := Lib.hid (hT5.out.blk HF0.out (by simp))
        have HG1 := Lib.hid (hT5.out.blk HF1.out (by simp))
        by_cases hkn : k < n
        · have kI : (k : Int) < (n : Int) := by omega
          have k0 : (0 : Int) ≤ (k : Int) := by omega
          obtain ⟨x, hx⟩ : ∃ x, l[k]? = some x := ⟨_, List.getElem?_eq_getElem (by rw [HN.out]; exact hkn)⟩
          have d3 := own_tch HO5.out hT5.out (by simp)
          obtain ⟨gx, rfl⟩ := slice_some d3 (by omega)
          obtain ⟨⟨xs, xh, xl⟩, xbt⟩ := x
          have x0 : wr.cell? ⟨gx, k * 4, none⟩ = some (.bool xs) := own_cellN d3 ((flat4_at (f := lcC) (fun _ => rfl) hx (k := 0) (by decide)).trans rfl)
          have x1 := own_cellN d3 ((flat4_at (f := lcC) (fun _ => rfl) hx (k := 1) (by decide)).trans (show _ = some (Value.int .u64 (xh : Int)) by rfl))
          have x2 := own_cellN d3 ((flat4_at (f := lcC) (fun _ => rfl) hx (k := 2) (by decide)).trans (show _ = some (Value.int .u64 (xl : Int)) by rfl))
          have x3 := own_cellN d3 ((flat4_at (f := lcC) (fun _ => rfl) hx (k := 3) (by decide)).trans (show _ = some (Value.int .i64 xbt) by rfl))
          have HW : Hid (Tch w (wr.alloc (.cells #[.bool xs, .int .u64 (xh : Int), .int .u64 (xl : Int), .int .i64 xbt] 42)) []) := Lib.hid (hT.out.alloc _)
          have HW5 : Hid (Tch W5 (wr.alloc (.cells #[.bool xs, .int .u64 (xh : Int), .int .u64 (xl : Int), .int .i64 xbt] 42)) []) := Lib.hid (hT5.out.alloc _)
          have HA0 := Lib.hid (HG0.out.alloc (.cells #[.bool xs, .int .u64 (xh : Int), .int .u64 (xl : Int), .int .i64 xbt] 42))
          have HA1 := Lib.hid (HG1.out.alloc (.cells #[.bool xs, .int .u64 (xh : Int), .int .u64 (xl : Int), .int .i64 xbt] 42))
          obtain ⟨a0, a1, a2⟩ := HA0.out.c3
          have Hx := Lib.hid hx
          clear d3 hx hT hT5
          by_cases hc : xs = s
          · subst hc
            have be : (xs == xs) = true := by simp
            have HR := Lib.hid (HSf.out trivial HBn.out k _ Hx.out rfl hA.out)
            go_wp2_with (refine wpList_sta rfl 34 (.tmp 6) (.tmp 42) rfl gr 0 #[.bool xs, .int .u64 (xh : Int), .int .u64 (xl : Int)] rfl rfl 34 _ HA1.out 3 sizeAdr rfl (show 0 + 3 ≤ 3 from by decide) (by simp [Value.oneCell']) ?_; intro w6 hs6; have HS6 := Lib.hid hs6; clear hs6)
            obtain ⟨z0, z1, z2⟩ := (sta_whole HS6.out rfl).c3
            have hTT : Tch w w6 [] := HW.out.trans_fre HS6.out.tch (by have := HXb.out; have := HGr.out; simp; omega)
            exact bodyPost_ret (v := .tuple #[.agg #[.bool xs, .int .u64 (xh : Int), .int .u64 (xl : Int)], .bool true]) (by simp [results, Try.results19, go_sem, z0, z1, z2]) rfl ⟨by rw [HR.out]; rfl, hTT⟩
          · have be : (xs == s) = false := by simpa using hc
            have HCn := Lib.hid hc
            clear hc
            go_wp2
            go_roundw
            case rel => exact ⟨k + 1, by go_num, hkn, Lib.hid (fun j z hj hz => by
              rcases Nat.lt_or_ge j k with h1 | h1
              · exact hA.out j z h1 hz
              · obtain rfl : j = k := by omega
                rw [Hx.out] at hz
                injection hz with hz
                subst hz
                exact decide_eq_false HCn.out), HW, HW5⟩
            case measure => simp [intOf]; omega
        · obtain rfl : k = n := by omega
          have kI : ¬ (k : Int) < (k : Int) := by omega
          have HR := Lib.hid (HS0.out trivial HBn.out (fun j z hz => hA.out j z (by rw [← HN.out]; exact (List.getElem?_eq_some_iff.1 hz).1) hz))
          clear hkn hk
          go_wp2_with (refine wpList_sta rfl 34 (.tmp 6) (.tmp 44) rfl gr 0 #[.bool false, .int .u64 0, .int .u64 0] rfl rfl 34 _ HG1.out 3 sizeAdr rfl (show 0 + 3 ≤ 3 from by decide) (by simp [Value.oneCell']) ?_; intro w6 hs6; have HS6 := Lib.hid hs6; clear hs6)
          obtain ⟨z0, z1, z2⟩ := (sta_whole HS6.out rfl).c3
          have hTT : Tch w w6 [] := hT.out.trans_fre HS6.out.tch (by have := HXb.out; have := HGr.out; simp; omega)
          exact bodyPost_ret (v := .tuple #[.agg #[.bool false, .int .u64 0, .int .u64 0], .bool false]) (by simp [results, Try.results19, go_sem, z0, z1, z2]) rfl ⟨by rw [HR.out]; rfl, hTT⟩
    · have h0 : 0 < ybt := h0
      have HR := Lib.hid (HSn.out trivial j _ hb hj)
      have bz : decide ((0 : Int) < ybt) = true := decide_eq_true h0
      rw [bz] at HC3
      clear hb hj bz
      refine Calls.mono HC3.out ?_
      rintro e w5 ⟨rfl, hT5⟩
      have HT5 := Lib.hid ((HT1.out.trans hT5).alloc (.cells #[.bool ys, .int .u64 (yh : Int), .int .u64 (yl : Int), .int .i64 ybt] 42))
      have HF1 := Lib.hid ((hT5.blk HE1.out (by simp)).alloc (.cells #[.bool ys, .int .u64 (yh : Int), .int .u64 (yl : Int), .int .i64 ybt] 42))
      clear hT5 a0 a1 a2
      go_wp2_with (refine wpList_sta rfl 34 (.tmp 6) (.tmp 28) rfl gr 0 #[.bool ys, .int .u64 (yh : Int), .int .u64 (yl : Int)] rfl rfl 34 _ HF1.out 3 sizeAdr rfl (show 0 + 3 ≤ 3 from by decide) (by simp [Value.oneCell']) ?_; intro w6 hs6; have HS6 := Lib.hid hs6; clear hs6)
      obtain ⟨z0, z1, z2⟩ := (sta_whole HS6.out rfl).c3
      have hTT : Tch w w6 [] := HT5.out.trans_fre HS6.out.tch (by have := HXb.out; have := HGr.out; simp; omega)
      exact bodyPost_ret (v := .tuple #[.agg #[.bool ys, .int .u64 (yh : Int), .int .u64 (yl : Int)], .bool true]) (by simp [results, Try.results19, go_sem, z0, z1, z2]) rfl ⟨by rw [HR.out]; rfl, hTT⟩
theorem srcP (p : Nat) (S : List Nat) (st : StI) (port : Int) (a : AdI) (ha : N64 a.2.1 ∧ N64 a.2.2) (hi : I64 port) (w : World) (h : IfP w p S st) :
    Calls Try.prog 19 #[.pointer (some ⟨p, 0, none⟩), .int .i64 port, adV a] w fun e w' => e = .returned (srV (srcI st port a)) ∧ IfP w' p S st ∧ Tch w w' S := by
  refine Calls.mono (psrc_any p S st port a ha w h) ?_
  rintro e w' ⟨rfl, hT⟩
  exact ⟨rfl, h.tch hT (by simp), hT.mono (by simp)⟩
end Go.Proofs.Ytabbclocgkhnhaa
