/-
  Several texts in one: TrT, TrK, TrO.
-/
import Derived.Test.YtgfkmgbcajdcdaaGreatDoorKbg
import Derived.Test.YtgfkmgbcajdcdaaGreatDoorKbh
import Derived.Laws.Rows
import Derived.StillTailTactics
namespace Go.Proofs.YtgfkmgbcajdcdaaGreatDoor
open Go.RowKit Ifs
set_option linter.unusedVariables false

/-- Routes that are read in block g, wherever they begin. -/
structure RdR (w : World) (g : Nat) (A : Option Addr) (n c : Nat) (rs : List RtI) : Prop where
  len : rs.length = n
  cap : n ≤ c
  at_ : 0 < n → ∃ o, A = some ⟨g, o, none⟩ ∧ ∀ (j : Nat) (e : RtI), rs[j]? = some e → w.cell? ⟨g, o + j * 5, none⟩ = some (.bool e.1.1.1) ∧ w.cell? ⟨g, o + j * 5 + 1, none⟩ = some (.int .u64 (e.1.1.2.1 : Int)) ∧ w.cell? ⟨g, o + j * 5 + 2, none⟩ = some (.int .u64 (e.1.1.2.2 : Int)) ∧ w.cell? ⟨g, o + j * 5 + 3, none⟩ = some (.int .i64 e.1.2) ∧ w.cell? ⟨g, o + j * 5 + 4, none⟩ = some (.int .i64 e.2)
theorem RdR.nil (w : World) (g : Nat) (A : Option Addr) (c : Nat) : RdR w g A 0 c [] := ⟨rfl, Nat.zero_le _, fun h => absurd h (Nat.lt_irrefl 0)⟩
theorem RdR.tch {w w' : World} {g n c : Nat} {A : Option Addr} {rs : List RtI} {T : List Nat} (h : RdR w g A n c rs) (ht : Tch w w' T) (hg : g < w.heap.size) (hn : g ∉ T) : RdR w' g A n c rs :=
  ⟨h.len, h.cap, fun h0 => by
    obtain ⟨o, e, hc⟩ := h.at_ h0
    refine ⟨o, e, fun j x hx => ?_⟩
    obtain ⟨c0, c1, c2, c3, c4⟩ := hc j x hx
    exact ⟨(ht.cell (p := ⟨g, _, none⟩) hg hn).trans c0, (ht.cell (p := ⟨g, _, none⟩) hg hn).trans c1, (ht.cell (p := ⟨g, _, none⟩) hg hn).trans c2, (ht.cell (p := ⟨g, _, none⟩) hg hn).trans c3, (ht.cell (p := ⟨g, _, none⟩) hg hn).trans c4⟩⟩
theorem RdR.of_row {w : World} {g n c base : Nat} {rs : List RtI} (h : RowT w base (some ⟨g, 0, none⟩) n c rs) (hn : rs.length = n) : RdR w g (some ⟨g, 0, none⟩) n c rs := by
  obtain ⟨A', c', e, hnc, -⟩ := own_sl h
  injection e with e1 e2 e3
  refine ⟨hn, by omega, fun h0 => ⟨0, rfl, fun j x hx => ?_⟩⟩
  simp only [Nat.zero_add]
  exact rt_cells h hx
/-- A piece of them. -/
theorem RdR.piece {w : World} {g n c lo k : Nat} {A : Option Addr} {rs : List RtI} {o : Nat} (h : RdR w g A n c rs) (hA : A = some ⟨g, o, none⟩) (hk : lo + k ≤ n) : RdR w g (some ⟨g, o + lo * 5, none⟩) k (c - lo) ((rs.drop lo).take k) := by
  refine ⟨by rw [List.length_take, List.length_drop, h.len]; omega, by have := h.cap; omega, fun h0 => ⟨o + lo * 5, rfl, fun j x hx => ?_⟩⟩
  obtain ⟨o', e, hc⟩ := h.at_ (by omega)
  rw [hA] at e
  injection e with e
  injection e with e1 e2
  subst e2
  rw [List.getElem?_take] at hx
  split at hx
  · rw [List.getElem?_drop] at hx
    have := hc (lo + j) x hx
    rw [show o + (lo + j) * 5 = o + lo * 5 + j * 5 by rw [Nat.add_mul]; omega] at this
    exact this
  · cases hx
/-- The row of slots in memory: what each says. -/
structure ArI (w : World) (b : Nat) (d1 : Int) (f : Nat → Int) (R : Nat → Value) (k : Nat) : Prop where
  ex : ∃ cs, Blk w b 220 cs ∧ cs.size = 192 ∧ (∀ u, k ≤ u → u < 64 → ∃ x y z, cs[u * 3]? = some x ∧ cs[u * 3 + 1]? = some y ∧ cs[u * 3 + 2]? = some z ∧ x.oneCell' = true ∧ y.oneCell' = true ∧ z.oneCell' = true) ∧
    ∀ u, u < k → u < 64 → cs[u * 3]? = some (.int .i64 d1) ∧ cs[u * 3 + 1]? = some (.int .i64 (f u)) ∧ cs[u * 3 + 2]? = some (R u)
theorem ArI.cells {w : World} {b k : Nat} {d1 : Int} {f : Nat → Int} {R : Nat → Value} (h : ArI w b d1 f R k) {u : Nat} (hk : u < k) (hu : u < 64) : w.cell? ⟨b, u * 3, none⟩ = some (.int .i64 d1) ∧ w.cell? ⟨b, u * 3 + 1, none⟩ = some (.int .i64 (f u)) ∧ w.cell? ⟨b, u * 3 + 2, none⟩ = some (R u) := by
  obtain ⟨cs, hb, -, -, h1⟩ := h.ex
  obtain ⟨c0, c1, c2⟩ := h1 u hk hu
  exact ⟨(hb.cell _).trans c0, (hb.cell _).trans c1, (hb.cell _).trans c2⟩
theorem ArI.frozen {w : World} {b k : Nat} {d1 : Int} {f : Nat → Int} {R : Nat → Value} (h : ArI w b d1 f R k) (i : Nat) : w.frozen? ⟨b, i, none⟩ = false := by
  obtain ⟨cs, hb, -⟩ := h.ex
  exact hb.frozen i
theorem ArI.lt {w : World} {b k : Nat} {d1 : Int} {f : Nat → Int} {R : Nat → Value} (h : ArI w b d1 f R k) : b < w.heap.size := by
  obtain ⟨cs, hb, -⟩ := h.ex
  exact hb.lt
theorem ArI.tch {w w' : World} {b k : Nat} {d1 : Int} {f : Nat → Int} {R : Nat → Value} {T : List Nat} (h : ArI w b d1 f R k) (ht : Tch w w' T) (hn : b ∉ T) : ArI w' b d1 f R k := by
  obtain ⟨cs, hb, h1⟩ := h.ex
  exact ⟨cs, ht.blk hb hn, h1⟩
theorem ArI.congr {w : World} {b k : Nat} {d1 : Int} {f f' : Nat → Int} {R R' : Nat → Value} (h : ArI w b d1 f R k) (h1 : ∀ u, u < 64 → f u = f' u) (h2 : ∀ u, u < 64 → R u = R' u) : ArI w b d1 f' R' k := by
  obtain ⟨cs, hb, h3, h4, h5⟩ := h.ex
  refine ⟨cs, hb, h3, h4, fun u hk hu => ?_⟩
  rw [← h1 u hu, ← h2 u hu]
  exact h5 u hk hu
/-- A slot's Next set. -/
theorem ArI.setN {w : World} {b : Nat} {d1 : Int} {f : Nat → Int} {R : Nat → Value} (h : ArI w b d1 f R 64) {v : Nat} (hv : v < 64) (x : Int) : ArI (w.setCell ⟨b, v * 3 + 1, none⟩ (.int .i64 x)) b d1 (fun u => if u = v then x else f u) R 64 ∧ Tch w (w.setCell ⟨b, v * 3 + 1, none⟩ (.int .i64 x)) [b] := by
  obtain ⟨cs, hb, h3, h4, h5⟩ := h.ex
  refine ⟨⟨_, hb.set_ (v * 3 + 1) _, by simpa using h3, fun u h1 h2 => by omega, fun u hk hu => ?_⟩, (Tch.refl w [b]).set_ (by simp) _⟩
  obtain ⟨c0, c1, c2⟩ := h5 u hk hu
  refine ⟨by rw [Array.getElem?_setIfInBounds_ne (by omega)]; exact c0, ?_, by rw [Array.getElem?_setIfInBounds_ne (by omega)]; exact c2⟩
  by_cases e : u = v
  · subst e
    rw [Array.getElem?_setIfInBounds_self_of_lt (by omega), if_pos rfl]
  · rw [Array.getElem?_setIfInBounds_ne (by omega), if_neg e]; exact c1
/-- A slot's routes set. -/
theorem ArI.setR {w : World} {b : Nat} {d1 : Int} {f : Nat → Int} {R : Nat → Value} (h : ArI w b d1 f R 64) {v : Nat} (hv : v < 64) (x : Value) : ArI (w.setCell ⟨b, v * 3 + 2, none⟩ x) b d1 f (fun u => if u = v then x else R u) 64 ∧ Tch w (w.setCell ⟨b, v * 3 + 2, none⟩ x) [b] := by
  obtain ⟨cs, hb, h3, h4, h5⟩ := h.ex
  refine ⟨⟨_, hb.set_ (v * 3 + 2) _, by simpa using h3, fun u h1 h2 => by omega, fun u hk hu => ?_⟩, (Tch.refl w [b]).set_ (by simp) _⟩
  obtain ⟨c0, c1, c2⟩ := h5 u hk hu
  refine ⟨by rw [Array.getElem?_setIfInBounds_ne (by omega)]; exact c0, by rw [Array.getElem?_setIfInBounds_ne (by omega)]; exact c1, ?_⟩
  by_cases e : u = v
  · subst e
    rw [Array.getElem?_setIfInBounds_self_of_lt (by omega), if_pos rfl]
  · rw [Array.getElem?_setIfInBounds_ne (by omega), if_neg e]; exact c2
theorem ptSz : (Tryz.prog.info? 218).map (·.size) = some 3 := by kernel_rfl
theorem arSz : (Tryz.prog.info? 220).map (·.size) = some 192 := by kernel_rfl
theorem zero_ar : Tryz.zeroCells220.size = 192 ∧ (Tryz.zeroCells220.toList.all fun v => v.oneCell') = true := ⟨by kernel_rfl, by kernel_rfl⟩
theorem ArI.start {w : World} {b : Nat} (d1 : Int) (f : Nat → Int) (R : Nat → Value) (h : Blk w b 220 Tryz.zeroCells220) : ArI w b d1 f R 0 := by
  obtain ⟨hs, ho⟩ := zero_ar
  refine ⟨_, h, hs, fun u h1 h2 => ?_, fun u h1 => by omega⟩
  have hall := List.all_eq_true.1 ho
  have hg : ∀ i, i < 192 → ∃ x, Tryz.zeroCells220[i]? = some x ∧ x.oneCell' = true := fun i hi => by
    have hi2 : i < Tryz.zeroCells220.size := by rw [hs]; exact hi
    exact ⟨_, Array.getElem?_eq_getElem hi2, hall _ (by simp)⟩
  obtain ⟨x, h3, h4⟩ := hg (u * 3) (by omega)
  obtain ⟨y, h5, h6⟩ := hg (u * 3 + 1) (by omega)
  obtain ⟨z, h7, h8⟩ := hg (u * 3 + 2) (by omega)
  exact ⟨x, y, z, h3, h5, h7, h4, h6, h8⟩
theorem ArI.sta {w w' : World} {b k : Nat} {d1 : Int} {f : Nat → Int} {R : Nat → Value} {cs : Array Value} (hk : k < 64) (h3 : cs.size = 192) (h4 : ∀ u, k ≤ u → u < 64 → ∃ x y z, cs[u * 3]? = some x ∧ cs[u * 3 + 1]? = some y ∧ cs[u * 3 + 2]? = some z ∧ x.oneCell' = true ∧ y.oneCell' = true ∧ z.oneCell' = true)
    (h5 : ∀ u, u < k → u < 64 → cs[u * 3]? = some (.int .i64 d1) ∧ cs[u * 3 + 1]? = some (.int .i64 (f u)) ∧ cs[u * 3 + 2]? = some (R u)) (hs : Sta w w' b (k * 3) 220 cs #[.int .i64 d1, .int .i64 (f k), R k]) : ArI w' b d1 f R (k + 1) := by
  obtain ⟨⟨cur, k1, k2, k3, k4⟩, -⟩ := hs
  have ha : ∀ p, (p < k * 3 ∨ k * 3 + 3 ≤ p) → cur[p]? = cs[p]? := k3
  refine ⟨cur, k1, by rw [k2, h3], fun u h1 h2 => ?_, fun u h1 h2 => ?_⟩
  · rw [ha (u * 3) (by omega), ha (u * 3 + 1) (by omega), ha (u * 3 + 2) (by omega)]
    exact h4 u (by omega) h2
  · by_cases e : u = k
    · subst e
      exact ⟨(k4 0 (by show 0 < 3; decide)).trans rfl, (k4 1 (by show 1 < 3; decide)).trans rfl, (k4 2 (by show 2 < 3; decide)).trans rfl⟩
    · rw [ha (u * 3) (by omega), ha (u * 3 + 1) (by omega), ha (u * 3 + 2) (by omega)]
      exact h5 u (by omega) h2
/-- What the slots of a node are, as one value. -/
structure PtsI (w : World) (g d : Nat) (nx : Int) (rs : List RtI) (cs : Array Value) : Prop where
  size : cs.size = 192
  one : ∀ v ∈ cs.toList, v.oneCell' = true
  at_ : ∀ v, v < 64 → ∃ A n c, cs[v * 3]? = some (.int .i64 (d + 1 : Nat)) ∧ cs[v * 3 + 1]? = some (.int .i64 (slotN d (rs.map rtN) nx v)) ∧ cs[v * 3 + 2]? = some (.slice A n c) ∧ RdR w g A n c (slotI d rs v)
set_option maxRecDepth 100000 in
set_option maxHeartbeats 1000000 in
theorem isnode_any (d : Int) (nx : Int) (A : Option Addr) (n c : Nat) (w : World) : Calls Tryz.prog 155 #[.agg #[.int .i64 d, .int .i64 nx, .slice A n c]] w fun e w' => e = .returned (.bool (decide (0 < n))) ∧ Tch w w' [] := by
  have HT : Hid (∀ o, Tch w (w.alloc o) []) := Lib.hid (fun o => (Tch.refl w []).alloc o)
  go_enter Tryz.func155, Tryz.ntmps155
  go_wp2
  go_ret
  exact ⟨by simp, HT.out _⟩
set_option maxRecDepth 100000 in
set_option maxHeartbeats 8000000 in
theorem slots_any (g d cc : Nat) (nx : Int) (A : Option Addr) (n c : Nat) (rs : List RtI) (w : World) (h : RdR w g A n c rs) (hg : g < w.heap.size) (hP : PosN d cc (rs.map rtN)) (hok : ∀ r ∈ rs, PvOk r.1) (hd : d ≤ 21) (hn : n ≤ 1000) :
    Calls Tryz.prog 154 #[.agg #[.int .i64 (d : Int), .int .i64 nx, .slice A n c]] w fun e w' => ∃ cs, e = .returned (.agg cs) ∧ PtsI w' g d nx rs cs ∧ Tch w w' [] := by
  obtain ⟨xb, hxb⟩ : ∃ b, w.heap.size = b := ⟨_, rfl⟩
  have HR := Lib.hid (fun W (hT : Tch w W []) => h.tch hT hg (by simp))
  have HG := Lib.hid hg
  have HP := Lib.hid hP
  have HO := Lib.hid hok
  have HN := Lib.hid (And.intro h.len (And.intro h.cap (And.intro hn hd)))
  clear h hg hP hok hn
  obtain ⟨W3, hW3⟩ : ∃ W, ((w.alloc (.cells #[.int .i64 (d : Int), .int .i64 nx, .slice A n c] 218)).alloc (.cells Tryz.zeroCells220 220)).alloc (.cells Tryz.zeroCells220 220) = W := ⟨_, rfl⟩
  have HT3 : Hid (Tch w W3 []) := Lib.hid (hW3 ▸ (((Tch.refl w []).alloc _).alloc _).alloc _)
  have HBx : Hid (Blk W3 xb 218 #[.int .i64 (d : Int), .int .i64 nx, .slice A n c]) := Lib.hid (hW3 ▸ hxb ▸ ((Blk.new w _ _).alloc _).alloc _)
  have HBr : Hid (Blk W3 (xb + 1) 220 Tryz.zeroCells220) := Lib.hid (by
    have h9 := (Blk.new (w.alloc (.cells #[.int .i64 (d : Int), .int .i64 nx, .slice A n c] 218)) 220 Tryz.zeroCells220).alloc (.cells Tryz.zeroCells220 220)
    rw [World.size_alloc, hW3, hxb] at h9; exact h9)
  have HAr : Hid (ArI W3 (xb + 1 + 1) ((d + 1 : Nat) : Int) (fun _ => nx) (fun _ => .slice none 0 0) 0) := Lib.hid (ArI.start _ _ _ (by
    have h9 := Blk.new ((w.alloc (.cells #[.int .i64 (d : Int), .int .i64 nx, .slice A n c] 218)).alloc (.cells Tryz.zeroCells220 220)) 220 Tryz.zeroCells220
    rw [World.size_alloc, World.size_alloc, hW3, hxb] at h9; exact h9))
  have HX : Hid (w.heap.size = xb ∧ W3.heap.size = xb + 3) := Lib.hid ⟨hxb, by rw [← hW3, World.size_alloc, World.size_alloc, World.size_alloc, hxb]⟩
  have w1 : IntKind.i64.wrap ((d : Int) + 1) = (d : Int) + 1 := by rw [IntKind.wrap_i64]; omega
  have HW1 := Lib.hid w1
  have HW3 := Lib.hid hW3
  clear hW3
  go_enter Tryz.func154, Tryz.ntmps154
  go_wp2_with fail
  rw [HW3.out]
  go_loopw [10] (fun iv wr => ∃ i : Nat, iv = .int .i64 (i : Int) ∧ i ≤ 64 ∧ Hid (ArI wr (xb + 1 + 1) ((d + 1 : Nat) : Int) (fun _ => nx) (fun _ => .slice none 0 0) i) ∧ Hid (Tch W3 wr [xb + 1 + 1])) (fun iv _ => 64 - (intOf iv).toNat)
  case atStart => exact ⟨0, rfl, by decide, HAr, Lib.hid (Tch.refl _ _)⟩
  case round =>
    obtain ⟨i, rfl, hi, hAr, hT⟩ := hrel
    have hx := hT.out.blk HBx.out (by simp; omega)
    obtain ⟨x0, x1, x2⟩ : wr.cell? ⟨xb, 0, none⟩ = some (.int .i64 (d : Int)) ∧ wr.cell? ⟨xb, 1, none⟩ = some (.int .i64 nx) ∧ wr.cell? ⟨xb, 2, none⟩ = some (.slice A n c) := ⟨(hx.cell 0).trans rfl, (hx.cell 1).trans rfl, (hx.cell 2).trans rfl⟩
    clear hx
    by_cases hin : i < 64
    · have iI : (i : Int) < 64 := by omega
      have i0 : (0 : Int) ≤ (i : Int) := by omega
      have i1 : IntKind.i64.wrap ((i : Int) + 1) = (i : Int) + 1 := by rw [IntKind.wrap_i64]; omega
      obtain ⟨cs, hb, h3, h4, h5⟩ := hAr.out.ex
      have HCs := Lib.hid (And.intro hb (And.intro h3 (And.intro h4 h5)))
      have HI := Lib.hid (And.intro hin i1)
      clear hb h3 h4 h5
      go_wp2_with (refine wpList_sta rfl 218 (.tmp 20) (.tmp 19) rfl (xb + 1 + 1) (i * 3) #[.int .i64 ((d : Int) + 1), .int .i64 nx, .slice none 0 0] rfl rfl 220 cs HCs.out.1 3 ptSz rfl (by have h1 := HCs.out.2.1; have h2 := HI.out.1; omega) (by simp [Value.oneCell']) ?_; intro w8 hs8; have HA8 : Hid (ArI w8 (xb + 1 + 1) ((d + 1 : Nat) : Int) (fun _ => nx) (fun _ => .slice none 0 0) (i + 1)) := Lib.hid (ArI.sta HI.out.1 HCs.out.2.1 HCs.out.2.2.1 HCs.out.2.2.2 (by simpa using hs8)); have HT8 := Lib.hid hs8.tch; clear hs8)
      go_roundw
      case rel => exact ⟨i + 1, by go_num, HI.out.1, HA8, Lib.hid (hT.out.trans HT8.out)⟩
      case measure => have := HI.out; simp [intOf]; omega
    · have iI : ¬ (i : Int) < 64 := by omega
      obtain rfl : i = 64 := by omega
      have HA0 : Hid (ArI wr (xb + 1 + 1) ((d + 1 : Nat) : Int) (fun v => slotN d ((rs.take 0).map rtN) nx v) (fun _ => .slice none 0 0) 64) := hAr
      have HT0 := hT
      obtain ⟨WL, hWL⟩ : ∃ W, wr = W := ⟨_, rfl⟩
      rw [hWL] at HA0 HT0
      have HWL := Lib.hid hWL
      clear hWL
      go_wp2
      go_loopw [25] (fun iv wr => ∃ (i : Nat) (R : Nat → Value), iv = .int .i64 (i : Int) ∧ i ≤ n ∧ Hid (ArI wr (xb + 1 + 1) ((d + 1 : Nat) : Int) (fun v => slotN d ((rs.take i).map rtN) nx v) R 64) ∧ Hid (∀ v, v < 64 → ∃ A' n' c', R v = .slice A' n' c' ∧ RdR w g A' n' c' (slotI d (rs.take i) v)) ∧ Hid (Tch W3 wr [xb + 1 + 1])) (fun iv _ => n - (intOf iv).toNat)
      case atStart => exact ⟨0, fun _ => .slice none 0 0, rfl, Nat.zero_le _, HWL.out ▸ HA0, Lib.hid (fun v _ => ⟨none, 0, 0, rfl, RdR.nil w g none 0⟩), HWL.out ▸ HT0⟩
      case round =>
        obtain ⟨wa, rfl⟩ : ∃ W, W = wr := ⟨_, rfl⟩
        obtain ⟨i, R, rfl, hi, hA, hR, hT⟩ := hrel
        by_cases hin : i < n
        · have iI : (i : Int) < (n : Int) := by omega
          have i0 : (0 : Int) ≤ (i : Int) := by omega
          have i1 : IntKind.i64.wrap ((i : Int) + 1) = (i : Int) + 1 := by have := HN.out; rw [IntKind.wrap_i64]; omega
          have hTw : Tch w wa [] := HT3.out.trans_fre hT.out (fun s hs => .inr (by rw [List.mem_singleton.1 hs]; have := HX.out; omega))
          obtain ⟨e, he⟩ : ∃ e, rs[i]? = some e := ⟨_, List.getElem?_eq_getElem (by rw [HN.out.1]; exact hin)⟩
          have hpv := HO.out e (List.mem_of_getElem? he)
          have hbn := hpv.bits
          have hPg := HP.out.ge _ (List.mem_map.2 ⟨e, List.mem_of_getElem? he, rfl⟩)
          have hal := rtN_al hpv
          obtain ⟨o, rfl, hc⟩ := (HR.out wa hTw).at_ (by omega)
          obtain ⟨c0, c1, c2, c3, c4⟩ := hc i e he
          have HE := Lib.hid he
          have HPV := Lib.hid hpv
          have HTw := Lib.hid hTw
          obtain ⟨⟨⟨s, h, l⟩, b⟩, x⟩ := e
          obtain ⟨bn, rfl⟩ : ∃ bn : Nat, b = (bn : Int) := ⟨b.toNat, by have := hbn.1; dsimp only at this; omega⟩
          obtain ⟨q, hq⟩ : ∃ q, grpN (numA (s, h, l)) d = q := ⟨_, rfl⟩
          have hq64 : q < 64 := hq ▸ grpN_lt _ _
          have HGr : Hid (∀ W, Calls Tryz.prog 114 #[.agg #[.bool s, .int .u64 (h : Int), .int .u64 (l : Int)], .int .i64 (d : Int)] W fun e w' => e = .returned (.int .i64 (q : Int)) ∧ Tch W w' []) := Lib.hid (fun W => hq ▸ group_any s h l d hpv.ad hd W)
          have hb132 : bn ≤ 132 := hal.1
          have hbg : 6 * d ≤ bn := hPg
          have HQ := Lib.hid (And.intro hq (And.intro hq64 (And.intro hb132 hbg)))
          have HAl := Lib.hid hal
          have q0 : (0 : Int) ≤ (q : Int) := by omega
          have q1 : (q : Int) < 64 := by omega
          have t2 : IntKind.i64.wrap (6 * ((d : Int) + 1)) = 6 * ((d : Int) + 1) := by rw [IntKind.wrap_i64]; omega
          have t3 : IntKind.i64.wrap (6 * ((d : Int) + 1) - (bn : Int)) = 6 * ((d : Int) + 1) - (bn : Int) := by rw [IntKind.wrap_i64]; omega
          have HXb : Hid (∀ W, Tch wa W [] → W.cell? ⟨xb, 0, none⟩ = some (.int .i64 (d : Int)) ∧ W.cell? ⟨xb, 2, none⟩ = some (.slice (some ⟨g, o, none⟩) n c)) := Lib.hid (fun W hW => by
            have h9 := (hT.out.trans_fre hW (fun s hs => by cases hs)).blk HBx.out (by simp; omega)
            exact ⟨(h9.cell 0).trans rfl, (h9.cell 2).trans rfl⟩)
          have HAd : Hid (Tch wa (wa.alloc (.cells #[.bool s, .int .u64 (h : Int), .int .u64 (l : Int), .int .i64 (bn : Int), .int .i64 x] 101)) []) := Lib.hid ((Tch.refl wa []).alloc _)
          have HBl : Hid (Blk (wa.alloc (.cells #[.bool s, .int .u64 (h : Int), .int .u64 (l : Int), .int .i64 (bn : Int), .int .i64 x] 101)) wa.heap.size 101 #[.bool s, .int .u64 (h : Int), .int .u64 (l : Int), .int .i64 (bn : Int), .int .i64 x]) := Lib.hid (Blk.new wa _ _)
          obtain ⟨x0, -⟩ := HXb.out _ HAd.out
          clear he hpv hbn hPg hal hc hTw hq hq64 hb132 hbg
          by_cases hdp : 6 * (d + 1) < bn
          · have u1 : 6 * ((d : Int) + 1) - (bn : Int) < 0 := by omega
            have HDp := Lib.hid hdp
            obtain ⟨A', n', c', hRq, hRd⟩ := hR.out q HQ.out.2.1
            have hsp := slot_piece hd HP.out HE.out (v := q) (by unfold deepN; simp only [Bool.and_eq_true, decide_eq_true_eq]; exact ⟨HDp.out, HQ.out.1⟩)
            rw [hRd.len] at hsp
            obtain ⟨k, hk⟩ : ∃ k, i = k + n' := ⟨i - n', by omega⟩
            have s1 : IntKind.i64.wrap ((i : Int) - (n' : Int)) = (k : Int) := by have := HN.out; rw [IntKind.wrap_i64]; omega
            have s2 : (0 : Int) ≤ (k : Int) := by omega
            have s3 : (k : Int) ≤ (i : Int) + 1 := by omega
            have s4 : (i : Int) + 1 ≤ (c : Int) := by have := HN.out; omega
            have HSp := Lib.hid (And.intro hsp hk)
            have HRd := Lib.hid (And.intro hRq hRd)
            clear hsp hk hRq hRd hdp
            go_wp2_with (go_at_call 114; (with_reducible refine Calls.mono (HGr.out _) ?_); rintro e9 W5 ⟨rfl, hT5⟩; have HT5 : Hid (Tch wa W5 []) := Lib.hid (HAd.out.trans hT5); have HL5 := Lib.hid (hT5.blk HBl.out (by simp)); have HA5 := Lib.hid (hA.out.tch HT5.out (by simp)); obtain ⟨p0, p2⟩ := HXb.out W5 HT5.out; have p4 := (HL5.out.cell 3).trans (show _ = some (Value.int .i64 (bn : Int)) from rfl); have p5 : W5.cell? ⟨xb + 1 + 1, q * 3 + 2, none⟩ = some (.slice A' n' c') := HRd.out.1 ▸ (HA5.out.cells HQ.out.2.1 HQ.out.2.1).2.2; have p6 := HA5.out.frozen (q * 3 + 2); clear hT5)
            clear x0 c0 c1 c2 c3 c4
            go_still_tail 15, (by kernel_rfl)
            change wpList _ _ _ _ _ W5.drew
            obtain ⟨W6, hW6⟩ : ∃ W, W5.drew = W := ⟨_, rfl⟩
            have HT6 : Hid (Tch wa W6 []) := Lib.hid (hW6 ▸ HT5.out.drew)
            have HA6 := Lib.hid (hA.out.tch HT6.out (by simp))
            rw [hW6]
            clear p0 p2 p4 p5 p6
            obtain ⟨p0, p2⟩ := HXb.out W6 HT6.out
            have p5 : W6.cell? ⟨xb + 1 + 1, q * 3 + 2, none⟩ = some (.slice A' n' c') := HRd.out.1 ▸ (HA6.out.cells HQ.out.2.1 HQ.out.2.1).2.2
            have p6 := HA6.out.frozen (q * 3 + 2)
            go_wp2
            have hck : ¬ c = k := by have := HN.out; have := HSp.out.2; omega
            rw [if_neg hck]
            obtain ⟨hA7, hT7⟩ := HA6.out.setR HQ.out.2.1 (.slice (some ⟨g, o + k * 5, none⟩) (i + 1 - k) (c - k))
            have hbE : (rtN (((s, h, l), (bn : Int)), x)).b = bn := rfl
            have hgE : grpN (rtN (((s, h, l), (bn : Int)), x)).m d = q := HQ.out.1
            refine ⟨⟨i + 1, _, by go_num, hin, Lib.hid (ArI.congr hA7 (fun u hu => ?_) (fun u hu => rfl)), Lib.hid (fun v hv => ?_), Lib.hid ((hT.out.trans_fre HT6.out (fun s hs => by cases hs)).trans_fre hT7 (fun s hs => .inl hs))⟩, ?_⟩
            · have hcv : covN d (rtN (((s, h, l), (bn : Int)), x)) u = false := by
                unfold covN; rw [hbE, decide_eq_false (by have := HDp.out; omega)]; rfl
              rw [slotN_step HE.out, hcv]; rfl
            · have hk := HSp.out.2
              by_cases ev : v = q
              · subst ev
                refine ⟨_, _, _, if_pos rfl, ?_⟩
                rw [HSp.out.1.2, show i - n' = k by omega, show i + 1 - k = n' + 1 by omega]
                exact (HR.out w (Tch.refl w [])).piece rfl (by omega)
              · rw [if_neg ev, slot_other HE.out (by unfold deepN; rw [hgE, decide_eq_false (p := q = v) (fun e => ev e.symm), Bool.and_false])]
                exact hR.out v hv
            · simp [intOf]; omega
          · obtain ⟨sp, hsp⟩ : ∃ sp, 6 * (d + 1) - bn = sp := ⟨_, rfl⟩
            have hcf := cov_fits hd HAl.out (by show bn ≤ _; omega) HQ.out.2.2.2
            have hbE : (rtN (((s, h, l), (bn : Int)), x)).b = bn := rfl
            have hgE : grpN (rtN (((s, h, l), (bn : Int)), x)).m d = q := HQ.out.1
            rw [hbE, hgE, hsp] at hcf
            obtain ⟨P, hP⟩ : ∃ P : Nat, 2 ^ sp = P := ⟨_, rfl⟩
            rw [hP] at hcf
            replace t3 : IntKind.i64.wrap (6 * ((d : Int) + 1) - (bn : Int)) = (sp : Int) := by rw [t3]; omega
            have u1 : ¬ (sp : Int) < 0 := by omega
            have j1 : IntKind.i64.wrap ((2 : Int) ^ sp) = (P : Int) := by
              have e : ((2 : Int) ^ sp) = ((2 ^ sp : Nat) : Int) := by simp
              rw [e, hP, IntKind.wrap_i64]; omega
            have u3 : min sp 64 = sp := by have := HQ.out.2.2; omega
            have j2 : wrap64 ((2 : Int) ^ sp) = (P : Int) := by
              have e : ((2 : Int) ^ sp) = ((2 ^ sp : Nat) : Int) := by simp
              rw [e, hP]; unfold wrap64; omega
            have HCf := Lib.hid (And.intro hcf (And.intro hsp hP))
            have HDp := Lib.hid hdp
            clear hdp hcf
            go_wp2_with (go_at_call 114; (with_reducible refine Calls.mono (HGr.out _) ?_); rintro e9 W5 ⟨rfl, hT5⟩; have HT5 : Hid (Tch wa W5 []) := Lib.hid (HAd.out.trans hT5); have HL5 := Lib.hid (hT5.blk HBl.out (by simp)); have HA5 := Lib.hid (hA.out.tch HT5.out (by simp)); obtain ⟨p0, p2⟩ := HXb.out W5 HT5.out; have p4 := (HL5.out.cell 3).trans (show _ = some (Value.int .i64 (bn : Int)) from rfl); clear hT5)
            clear u3 j1 j2 hP hsp t3 t2
            go_loopw [63] (fun iv wq => ∃ j : Nat, iv = .int .i64 (j : Int) ∧ j ≤ P ∧ Hid (ArI wq (xb + 1 + 1) ((d + 1 : Nat) : Int) (fun v => if q ≤ v ∧ v < q + j then x else slotN d ((rs.take i).map rtN) nx v) R 64) ∧ Hid (Tch W5 wq [xb + 1 + 1])) (fun iv _ => P - (intOf iv).toNat)
            case atStart => exact ⟨0, rfl, Nat.zero_le _, Lib.hid (ArI.congr HA5.out (fun u hu => (if_neg (by omega)).symm) (fun u hu => rfl)), Lib.hid (Tch.refl _ _)⟩
            case round =>
              obtain ⟨j, rfl, hj, hA3, hT3⟩ := hrel
              have hlb : xb + 3 ≤ wa.heap.size := by have h1 := hT.out.size; rw [HX.out.2] at h1; exact h1
              by_cases hjn : j < P
              · have jI : (j : Int) < (P : Int) := by omega
                have j0 : (0 : Int) ≤ (j : Int) := by omega
                obtain ⟨y, hy⟩ : ∃ y, q + j = y := ⟨_, rfl⟩
                have hy64 : y < 64 := by have := HCf.out.1; omega
                have v1 : IntKind.i64.wrap ((q : Int) + (j : Int)) = (y : Int) := by rw [IntKind.wrap_i64]; omega
                have v2 : IntKind.i64.wrap ((j : Int) + 1) = (j : Int) + 1 := by have := HCf.out.1; rw [IntKind.wrap_i64]; omega
                have v3 : (y : Int) < 64 := by omega
                have v4 : (0 : Int) ≤ (y : Int) := by omega
                have p4 := ((hT3.out.blk HL5.out (by simp; omega)).cell 4).trans (show _ = some (Value.int .i64 x) from rfl)
                have p5 := (hA3.out.cells hy64 hy64).2.1
                have p6 := hA3.out.frozen (y * 3 + 1)
                have HY := Lib.hid (And.intro hy (And.intro hy64 hjn))
                clear hy
                go_wp2
                go_roundw
                case rel =>
                  obtain ⟨hA4, hT4⟩ := hA3.out.setN HY.out.2.1 x
                  refine ⟨j + 1, by go_num, HY.out.2.2, Lib.hid (ArI.congr hA4 (fun u hu => ?_) (fun u hu => rfl)), Lib.hid (hT3.out.trans_fre hT4 (fun s hs => .inl hs))⟩
                  have := HY.out.1
                  by_cases eu : u = y
                  · rw [if_pos eu, if_pos (by omega)]
                  · rw [if_neg eu]
                    by_cases e2 : q ≤ u ∧ u < q + j
                    · rw [if_pos e2, if_pos (by omega)]
                    · rw [if_neg e2, if_neg (by omega)]
                case measure => simp [intOf]; omega
              · have jI : ¬ (j : Int) < (P : Int) := by omega
                have hjP : j = P := by omega
                rw [hjP] at hA3
                have hA5 : Hid (ArI wr (xb + 1 + 1) ((d + 1 : Nat) : Int) (fun v => slotN d ((rs.take (i + 1)).map rtN) nx v) R 64) := Lib.hid (ArI.congr hA3.out (fun u hu => by
                  rw [slotN_step HE.out]
                  have h1 := HCf.out
                  have hcv : covN d (rtN (((s, h, l), (bn : Int)), x)) u = decide (q ≤ u ∧ u < q + P) := by
                    unfold covN; rw [hbE, hgE, h1.2.1, h1.2.2, decide_eq_true (show bn ≤ 6 * (d + 1) from Nat.le_of_not_lt HDp.out), Bool.true_and, Bool.decide_and]
                  rw [hcv]
                  by_cases e2 : q ≤ u ∧ u < q + P
                  · rw [if_pos e2, decide_eq_true e2]; rfl
                  · rw [if_neg e2, decide_eq_false e2]; rfl) (fun u hu => rfl))
                have hR5 : Hid (∀ v, v < 64 → ∃ A' n' c', R v = .slice A' n' c' ∧ RdR w g A' n' c' (slotI d (rs.take (i + 1)) v)) := Lib.hid (fun v hv => by
                  rw [slot_other HE.out (by unfold deepN; rw [hbE, decide_eq_false HDp.out, Bool.false_and])]
                  exact hR.out v hv)
                have hT5 : Hid (Tch W3 wr [xb + 1 + 1]) := Lib.hid ((hT.out.trans_fre HT5.out (fun s hs => by cases hs)).trans_fre hT3.out (fun s hs => .inl hs))
                go_wp2
                refine ⟨⟨i + 1, R, by go_num, hin, hA5, hR5, hT5⟩, ?_⟩
                simp [intOf]; omega
        · have iI : ¬ (i : Int) < (n : Int) := by omega
          obtain rfl : i = n := by omega
          obtain ⟨cs, hb, h3, -, h5⟩ := hA.out.ex
          have h1c : ∀ v ∈ cs.toList, v.oneCell' = true := by
            intro v hv
            obtain ⟨p, hp, rfl⟩ := List.mem_iff_getElem.1 hv
            have hp2 : p < 192 := by have h9 : cs.toList.length = cs.size := by simp
                                     omega
            have e0 : cs[p]? = some cs.toList[p] := by rw [← Array.getElem?_toList]; exact List.getElem?_eq_getElem hp
            generalize cs.toList[p] = y at e0 ⊢
            obtain ⟨c0, c1, c2⟩ := h5 (p / 3) (by omega) (by omega)
            obtain ⟨A', n', c', hRq, -⟩ := hR.out (p / 3) (by omega)
            rcases (show p = p / 3 * 3 ∨ p = p / 3 * 3 + 1 ∨ p = p / 3 * 3 + 2 by omega) with h | h | h
            · rw [h] at e0; rw [c0] at e0; injection e0 with e0; rw [← e0]; rfl
            · rw [h] at e0; rw [c1] at e0; injection e0 with e0; rw [← e0]; rfl
            · rw [h] at e0; rw [c2, hRq] at e0; injection e0 with e0; rw [← e0]; rfl
          have HCs := Lib.hid (And.intro hb (And.intro h3 (And.intro h5 h1c)))
          have HB9 := Lib.hid (hT.out.blk HBr.out (by simp))
          have HSz : Hid ((Tryz.prog.info? 220).map (·.size) = some cs.size) := Lib.hid (by rw [h3]; exact arSz)
          clear hb h3 h5 h1c
          go_wp2_with (first
            | (refine wpList_load_row rfl 220 (.tmp 3) rfl (xb + 1 + 1) rfl 220 cs (0, 0) _ HCs.out.1 Tryz.underlying220 rfl HSz.out ?_)
            | (refine wpList_sta rfl 220 (.tmp 2) (.tmp 75) rfl (xb + 1) 0 cs rfl rfl 220 _ HB9.out 192 arSz HCs.out.2.1 (by rw [zero_ar.1]; decide) HCs.out.2.2.2 ?_; intro w8 hs8; have HM8 := Lib.hid (sta_whole hs8 (by rw [zero_ar.1, HCs.out.2.1])); have HT8 := Lib.hid hs8.tch; clear hs8))
          have hTr : Tch w w8 [] := (HT3.out.trans_fre hT.out (fun s hs => .inr (by rw [List.mem_singleton.1 hs]; have := HX.out; omega))).trans_fre HT8.out (fun s hs => .inr (by rw [List.mem_singleton.1 hs]; have := HX.out; omega))
          have hall : rs.take i = rs := List.take_of_length_le (by rw [HN.out.1]; exact Nat.le_refl _)
          refine bodyPost_ret (results_cell_row rfl _ _ (xb + 1) 220 cs (0, 0) _ rfl HM8.out Tryz.underlying220 rfl HSz.out) rfl ?_
          refine ⟨cs, rfl, ⟨HCs.out.2.1, HCs.out.2.2.2, fun v hv => ?_⟩, hTr⟩
          obtain ⟨A', n', c', hRq, hRd⟩ := hR.out v hv
          obtain ⟨c0, c1, c2⟩ := HCs.out.2.2.1 v hv hv
          rw [hall] at hRd c1
          exact ⟨A', n', c', c0, c1, by rw [c2, hRq], hRd.tch hTr HG.out (by simp)⟩
end Go.Proofs.YtgfkmgbcajdcdaaGreatDoor

namespace Go.Proofs.YtgfkmgbcajdcdaaGreatDoor
set_option linter.unusedVariables false
theorem cntN_le (m : Nat) : ∀ k, cntN m k ≤ k
  | 0 => Nat.le_refl _
  | k + 1 => by
    have := cntN_le m k
    rw [cntN_succ]
    split <;> omega
/-- Numbers of nodes: each is a number of 64 bits, each place lies within. -/
structure GrN (N : List NdN) (P : List PtN) (LV : List Int) : Prop where
  lv : LV.length ≤ 64 * N.length
  nd : ∀ n ∈ N, n.nm < 2 ^ 64 ∧ n.lm < 2 ^ 64 ∧ n.fn ≤ P.length ∧ n.fl ≤ LV.length
theorem GrN.store {N : List NdN} {P : List PtN} {LV : List Int} (h : GrN N P LV) (p : PtN) :
    GrN (N ++ [⟨P.length, (storeN p P LV 64).nm, LV.length, (storeN p P LV 64).lm⟩]) (storeN p P LV 64).P (storeN p P LV 64).LV := by
  have hs := storeN_ok p P LV 64
  have h1 := hs.pl
  have h2 := hs.ll
  have h3 := cntN_le (storeN p P LV 64).lm 64
  refine ⟨?_, fun n hn => ?_⟩
  · rw [h2, List.length_append]
    simp only [List.length_cons, List.length_nil]
    have := h.lv
    omega
  · rcases List.mem_append.1 hn with h4 | h4
    · have := h.nd n h4
      omega
    · have e : n = ⟨P.length, (storeN p P LV 64).nm, LV.length, (storeN p P LV 64).lm⟩ := by simpa using h4
      rw [e]
      refine ⟨Nat.lt_pow_two_of_testBit _ fun i hi => hs.nb i hi, Nat.lt_pow_two_of_testBit _ fun i hi => hs.lb i hi, ?_, ?_⟩
      · show P.length ≤ _
        omega
      · show LV.length ≤ _
        omega
theorem GrN.start (root : PtN) : GrN [] [root] [] := ⟨Nat.le_refl _, fun n hn => by cases hn⟩
theorem BlN.start {root : PtN} (h : PtOk root) : BlN root [] [root] [] := by
  refine ⟨Nat.zero_le _, rfl, fun p hp => ?_, fun i n p hn => by cases hn⟩
  have e : p = root := by simpa using hp
  rw [e]; exact h
end Go.Proofs.YtgfkmgbcajdcdaaGreatDoor

namespace Go.Proofs.YtgfkmgbcajdcdaaGreatDoor
set_option linter.unusedVariables false

def mkO (a : Nat) : Nat → Nat
  | 0 => 0
  | k + 1 => a + 256 * mkO a k
theorem mkO_succ (a k : Nat) : mkO a (k + 1) = a + 256 * mkO a k := rfl
theorem bit_byte {a : Nat} (h : a < 256) (y i : Nat) : (a + 256 * y).testBit i = if i < 8 then a.testBit i else y.testBit (i - 8) := by
  have := Nat.testBit_two_pow_mul_add y (show a < 2 ^ 8 from h) i
  rw [show (2 : Nat) ^ 8 = 256 from rfl, Nat.add_comm] at this
  exact this
theorem and_byte {a m : Nat} (ha : a < 256) (hm : m < 256) (y M : Nat) : (a + 256 * y) &&& (m + 256 * M) = (a &&& m) + 256 * (y &&& M) := by
  have hk : (a &&& m) < 256 := Nat.lt_of_le_of_lt Nat.and_le_left ha
  apply Nat.eq_of_testBit_eq
  intro i
  rw [Nat.testBit_and, bit_byte ha, bit_byte hm, bit_byte hk]
  split
  · rw [Nat.testBit_and]
  · rw [Nat.testBit_and]
def s1O (b : Nat) : Nat := (b / 2 &&& 85) + (b &&& 85)
def s2O (b : Nat) : Nat := (b / 4 &&& 51) + (b &&& 51)
def s3O (b : Nat) : Nat := (b / 16 + b) &&& 15
def popO (b : Nat) : Nat := s3O (s2O (s1O b))
def g1O (k x : Nat) : Nat := (x / 2 &&& mkO 85 k) + (x &&& mkO 85 k)
def g2O (k x : Nat) : Nat := (x / 4 &&& mkO 51 k) + (x &&& mkO 51 k)
def g3O (k x : Nat) : Nat := (x / 16 + x) &&& mkO 15 k
theorem k1 : ∀ (b : Fin 256) (c : Fin 2), (b.val / 2 + 128 * c.val) &&& 85 = b.val / 2 &&& 85 := by decide +kernel
theorem k2 : ∀ (b : Fin 256) (c : Fin 4), (b.val / 4 + 64 * c.val) &&& 51 = b.val / 4 &&& 51 := by decide +kernel
theorem k3 : ∀ (b : Fin 69) (c : Fin 5), (b.val / 16 + b.val + 16 * c.val) &&& 15 = (b.val / 16 + b.val) &&& 15 := by decide +kernel
theorem k4 : ∀ b : Fin 256, s1O b.val < 256 ∧ s2O (s1O b.val) ≤ 68 ∧ s2O (s1O b.val) % 16 ≤ 4 ∧ popO b.val ≤ 8 ∧ popO b.val = cntN b.val 8 := by decide +kernel
theorem g1_succ {b : Nat} (h : b < 256) (k y : Nat) : g1O (k + 1) (b + 256 * y) = s1O b + 256 * g1O k y := by
  unfold g1O s1O
  rw [mkO_succ]
  have e : (b + 256 * y) / 2 = (b / 2 + 128 * (y % 2)) + 256 * (y / 2) := by omega
  rw [e, and_byte (by omega) (by decide), and_byte h (by decide), k1 ⟨b, h⟩ ⟨y % 2, Nat.mod_lt _ (by decide)⟩]
  simp only
  omega
theorem g2_succ {b : Nat} (h : b < 256) (k y : Nat) : g2O (k + 1) (b + 256 * y) = s2O b + 256 * g2O k y := by
  unfold g2O s2O
  rw [mkO_succ]
  have e : (b + 256 * y) / 4 = (b / 4 + 64 * (y % 4)) + 256 * (y / 4) := by omega
  rw [e, and_byte (by omega) (by decide), and_byte h (by decide), k2 ⟨b, h⟩ ⟨y % 4, Nat.mod_lt _ (by decide)⟩]
  simp only
  omega
theorem g3_succ {b : Nat} (h : b ≤ 68) (k y : Nat) (hy : y % 16 ≤ 4) : g3O (k + 1) (b + 256 * y) = s3O b + 256 * g3O k y := by
  unfold g3O s3O
  rw [mkO_succ]
  have e : (b + 256 * y) / 16 + (b + 256 * y) = (b / 16 + b + 16 * (y % 16)) + 256 * (y / 16 + y) := by omega
  rw [e, and_byte (by omega) (by decide), k3 ⟨b, by omega⟩ ⟨y % 16, by omega⟩]
theorem low_O : ∀ (k y : Nat), g2O k (g1O k y) % 16 ≤ 4
  | 0, y => by unfold g2O mkO; simp
  | k + 1, y => by
    have hb : y % 256 < 256 := Nat.mod_lt _ (by decide)
    have h4 := k4 ⟨y % 256, hb⟩
    simp only at h4
    have e : g1O (k + 1) y = s1O (y % 256) + 256 * g1O k (y / 256) := by
      have := g1_succ hb k (y / 256)
      rw [show y % 256 + 256 * (y / 256) = y by omega] at this
      exact this
    rw [e, g2_succ h4.1]
    omega
def dgO : Nat → Nat → Nat
  | 0, _ => 0
  | k + 1, x => popO (x % 256) + 256 * dgO k (x / 256)
theorem allO : ∀ (k x : Nat), g3O k (g2O k (g1O k x)) = dgO k x
  | 0, x => by unfold g3O mkO dgO; simp
  | k + 1, x => by
    have hb : x % 256 < 256 := Nat.mod_lt _ (by decide)
    have h4 := k4 ⟨x % 256, hb⟩
    simp only at h4
    have e : g1O (k + 1) x = s1O (x % 256) + 256 * g1O k (x / 256) := by
      have := g1_succ hb k (x / 256)
      rw [show x % 256 + 256 * (x / 256) = x by omega] at this
      exact this
    rw [e, g2_succ h4.1, g3_succ h4.2.1 _ _ (low_O _ _), allO k]
    rfl
theorem cnt_byte {b : Nat} (h : b < 256) (y : Nat) : ∀ n, cntN (b + 256 * y) (8 + n) = cntN b 8 + cntN y n
  | 0 => by
    show cntN (b + 256 * y) 8 = cntN b 8 + 0
    rw [Nat.add_zero]
    exact cntN_congr 8 fun i hi => by rw [bit_byte h, if_pos hi]
  | n + 1 => by
    show cntN (b + 256 * y) (8 + n + 1) = _
    rw [cntN_succ (b + 256 * y) (8 + n), cnt_byte h y n, cntN_succ y n, bit_byte h, if_neg (show ¬ 8 + n < 8 by omega), show 8 + n - 8 = n by omega, Nat.add_assoc]
def smO : Nat → Nat → Nat
  | 0, _ => 0
  | k + 1, x => popO (x % 256) + smO k (x / 256)
theorem cnt_sm : ∀ (k x : Nat), cntN x (8 * k) = smO k x
  | 0, x => rfl
  | k + 1, x => by
    have hb : x % 256 < 256 := Nat.mod_lt _ (by decide)
    have h4 := (k4 ⟨x % 256, hb⟩).2.2.2.2
    simp only at h4
    have := cnt_byte hb (x / 256) (8 * k)
    rw [show x % 256 + 256 * (x / 256) = x by omega, cnt_sm k] at this
    rw [show 8 * (k + 1) = 8 + 8 * k by omega, this]
    show _ = popO (x % 256) + _
    rw [h4]
theorem masks : mkO 85 8 = 6148914691236517205 ∧ mkO 51 8 = 3689348814741910323 ∧ mkO 15 8 = 1085102592571150095 := by decide +kernel
set_option maxHeartbeats 2000000 in
theorem fin_O (x : Nat) : ∃ z, dgO 8 x = z ∧ z < 2 ^ 60 ∧ (z + z / 256) + (z + z / 256) / 65536 + ((z + z / 256) + (z + z / 256) / 65536) / 4294967296 < 2 ^ 62 ∧ ((z + z / 256) + (z + z / 256) / 65536 + ((z + z / 256) + (z + z / 256) / 65536) / 4294967296) % 128 = cntN x 64 := by
  refine ⟨_, rfl, ?_⟩
  have hp : ∀ b : Nat, popO (b % 256) ≤ 8 := fun b => (k4 ⟨b % 256, Nat.mod_lt _ (by decide)⟩).2.2.2.1
  have hc := cnt_sm 8 x
  rw [show 8 * 8 = 64 from rfl] at hc
  rw [hc]
  simp only [dgO, smO]
  have h0 := hp x
  have h1 := hp (x / 256)
  have h2 := hp (x / 256 / 256)
  have h3 := hp (x / 256 / 256 / 256)
  have h4 := hp (x / 256 / 256 / 256 / 256)
  have h5 := hp (x / 256 / 256 / 256 / 256 / 256)
  have h6 := hp (x / 256 / 256 / 256 / 256 / 256 / 256)
  have h7 := hp (x / 256 / 256 / 256 / 256 / 256 / 256 / 256)
  generalize popO (x % 256) = p0 at *
  generalize popO (x / 256 % 256) = p1 at *
  generalize popO (x / 256 / 256 % 256) = p2 at *
  generalize popO (x / 256 / 256 / 256 % 256) = p3 at *
  generalize popO (x / 256 / 256 / 256 / 256 % 256) = p4 at *
  generalize popO (x / 256 / 256 / 256 / 256 / 256 % 256) = p5 at *
  generalize popO (x / 256 / 256 / 256 / 256 / 256 / 256 % 256) = p6 at *
  generalize popO (x / 256 / 256 / 256 / 256 / 256 / 256 / 256 % 256) = p7 at *
  clear hp hc
  simp only [Nat.reducePow]
  obtain ⟨z, hz⟩ : ∃ z, p0 + 256 * (p1 + 256 * (p2 + 256 * (p3 + 256 * (p4 + 256 * (p5 + 256 * (p6 + 256 * (p7 + 256 * 0))))))) = z := ⟨_, rfl⟩
  rw [hz]
  have e1 : z / 256 = p1 + 256 * (p2 + 256 * (p3 + 256 * (p4 + 256 * (p5 + 256 * (p6 + 256 * p7))))) := by omega
  obtain ⟨y, hy⟩ : ∃ y, z + z / 256 = y := ⟨_, rfl⟩
  rw [hy]
  have f1 : y = (p0 + p1) + 256 * ((p1 + p2) + 256 * ((p2 + p3) + 256 * ((p3 + p4) + 256 * ((p4 + p5) + 256 * ((p5 + p6) + 256 * ((p6 + p7) + 256 * p7)))))) := by omega
  have e2 : y / 65536 = (p2 + p3) + 256 * ((p3 + p4) + 256 * ((p4 + p5) + 256 * ((p5 + p6) + 256 * ((p6 + p7) + 256 * p7)))) := by omega
  obtain ⟨v, hv⟩ : ∃ v, y + y / 65536 = v := ⟨_, rfl⟩
  rw [hv]
  have f2 : v = (p0 + p1 + p2 + p3) + 256 * ((p1 + p2 + p3 + p4) + 256 * ((p2 + p3 + p4 + p5) + 256 * ((p3 + p4 + p5 + p6) + 256 * ((p4 + p5 + p6 + p7) + 256 * ((p5 + p6 + p7) + 256 * ((p6 + p7) + 256 * p7)))))) := by omega
  have e3 : v / 4294967296 = (p4 + p5 + p6 + p7) + 256 * ((p5 + p6 + p7) + 256 * ((p6 + p7) + 256 * p7)) := by omega
  clear hy hv f1 e2 e1
  refine ⟨by omega, by omega, ?_⟩
  rw [e3, f2]
  omega
end Go.Proofs.YtgfkmgbcajdcdaaGreatDoor
