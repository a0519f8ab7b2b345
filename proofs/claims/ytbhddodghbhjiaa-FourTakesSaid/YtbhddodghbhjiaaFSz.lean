/-
  ip4.sizeOf; the words of a header, one behind the other: a function and its two variables.
-/
import Derived.Test.YtbhddodghbhjiaaFPk
import Derived.Test.YtbhddodghbhjiaaGet
namespace Go.Proofs.Ytbhddodghbhjiaa
open Go.RowKit
set_option linter.unusedVariables false

theorem f1N_at (s : ByteArray) (h : 0 < s.size) : f1N s = (s[0].toNat : Int) := by
  have e : (byt s)[0]? = some (s[0].toNat : Int) := by
    unfold byt
    rw [List.getElem?_map]
    have : s.data.toList[0]? = some s[0] := by rw [List.getElem?_eq_getElem (by rw [Array.length_toList]; exact h)]; rfl
    rw [this]; rfl
  unfold f1N nAt
  cases hq : byt s with
  | nil => rw [hq] at e; cases e
  | cons x r => rw [hq] at e; simp at e; simp [numOf, e]
/-- What ip4.sizeOf answers. -/
def szR (s : ByteArray) : Int × Int :=
  if s.size < 20 then (0, 51) else if f1N s < 69 ∨ 79 < f1N s then (0, 50) else if s.size < hdL s then (0, 51) else ((hdL s : Nat), 0)
abbrev szV (s : ByteArray) : Value := .tuple #[.int .i64 (szR s).1, .int .i64 (szR s).2]
set_option maxHeartbeats 2000000 in
theorem size_any (s : ByteArray) (w : World) :
    Calls Try.prog 32 #[.string s] w fun e w' => e = .returned (szV s) ∧ w = w' := by
  by_cases h20 : s.size < 20
  · have HX : Hid (szR s = (0, 51)) := Lib.hid (by unfold szR; rw [if_pos h20])
    have h20' : (s.size : Int) < 20 := by omega
    clear h20
    go_enter Try.func32, Try.ntmps32
    go_wp2
    go_ret2
    exact ⟨by unfold szV; rw [HX.out]; rfl, rfl⟩
  · have h20' : ¬ (s.size : Int) < 20 := by omega
    have h0 : 0 < s.size := by omega
    have hf := f1N_at s h0
    obtain ⟨N, hN⟩ : ∃ N, s[0].toNat = N := ⟨_, rfl⟩
    rw [hN] at hf
    have hN2 : N < 256 := by rw [← hN]; exact UInt8.toNat_lt _
    by_cases hb : N < 69 ∨ 79 < N
    · have HX : Hid (szR s = (0, 50)) := Lib.hid (by unfold szR; rw [if_neg h20, if_pos (by rw [hf]; omega)])
      have hc : (N : Int) < 69 ∨ (¬ (N : Int) < 69 ∧ (79 : Int) < N) := by omega
      clear h20 hf hb
      rcases hc with hc | ⟨hc, hc2⟩
      all_goals
        go_enter Try.func32, Try.ntmps32
        go_wp2
        go_ret2
        exact ⟨by unfold szV; rw [HX.out]; rfl, rfl⟩
    · have hc : ¬ (N : Int) < 69 := by omega
      have hc2 : ¬ (79 : Int) < N := by omega
      have hH : hdL s = 4 * (N - 64) := by unfold hdL; rw [hf]; rfl
      obtain ⟨M, hM⟩ : ∃ M : Int, (4 : Int) * ((N : Int) - 64) = M := ⟨_, rfl⟩
      have hHM : ((hdL s : Nat) : Int) = M := by rw [hH]; omega
      have hM2 : 20 ≤ M ∧ M ≤ 60 := by omega
      by_cases hl : s.size < hdL s
      · have HX : Hid (szR s = (0, 51)) := Lib.hid (by unfold szR; rw [if_neg h20, if_neg (by rw [hf]; omega), if_pos hl])
        have hl2 : (s.size : Int) < M := by omega
        clear h20 hf hb hH hHM hl
        go_enter Try.func32, Try.ntmps32
        go_wp2
        go_ret2
        exact ⟨by unfold szV; rw [HX.out]; rfl, rfl⟩
      · have HX : Hid (szR s = (M, 0)) := Lib.hid (by unfold szR; rw [if_neg h20, if_neg (by rw [hf]; omega), if_neg hl, hHM])
        have hl2 : ¬ (s.size : Int) < M := by omega
        clear h20 hf hb hH hHM hl
        go_enter Try.func32, Try.ntmps32
        go_wp2
        go_ret2
        exact ⟨by unfold szV; rw [HX.out]; rfl, rfl⟩

/-- What stands while words are read: a packet's variable, the header's, the place's, the function's. -/
def NS (w0 : World) (A : Option Addr) (n c : Nat) (zs : List Int) (cs : Array Value) (at_ : Nat) (W : World) : Prop :=
  Blk W w0.heap.size 27 cs ∧ Blk W (w0.heap.size + 1) 61 #[.slice A n c] ∧ Blk W (w0.heap.size + 2) 3 #[.int .i64 (at_ : Int)] ∧
  Blk W (w0.heap.size + 3) 90 #[.func (.func 85) #[] #[.pointer (some ⟨w0.heap.size + 1, 0, none⟩), .pointer (some ⟨w0.heap.size + 2, 0, none⟩)]] ∧
  RI .u8 W w0.heap.size A n zs ∧ Below w0.heap.size w0 W
theorem NS.below {w0 : World} {A : Option Addr} {n c : Nat} {zs : List Int} {cs : Array Value} {at_ : Nat} {W W' : World} (h : NS w0 A n c zs cs at_ W) (hb : Below W.heap.size W W') : NS w0 A n c zs cs at_ W' := by
  obtain ⟨a, b, c, d, e, f⟩ := h
  exact ⟨a.below hb a.lt, b.below hb b.lt, c.below hb c.lt, d.below hb d.lt, e.below (hb.mono f.size), f.trans (hb.mono f.size)⟩
theorem NS.put {w0 : World} {A : Option Addr} {n c : Nat} {zs : List Int} {cs : Array Value} {at_ : Nat} {W : World} (h : NS w0 A n c zs cs at_ W) (i : Nat) (u : Value) : NS w0 A n c zs (cs.setIfInBounds i u) at_ (W.setCell ⟨w0.heap.size, i, none⟩ u) := by
  obtain ⟨a, b, c, d, e, f⟩ := h
  have hb : Below w0.heap.size W (W.setCell ⟨w0.heap.size, i, none⟩ u) := ((Below.refl W.heap.size W).mono f.size).setCell (Nat.le_refl _) u
  exact ⟨a.set_ i u, b.far (by simp) u, c.far (by simp) u, d.far (by simp) u, e.below hb, f.trans hb⟩
set_option maxRecDepth 100000 in
set_option maxHeartbeats 2000000 in
theorem word_any (w0 : World) (A : Option Addr) (n c : Nat) (zs : List Int) (cs : Array Value) (at_ : Nat) (h2 : at_ + 2 ≤ n) (hn : n ≤ 100) (W : World) (h : NS w0 A n c zs cs at_ W) :
    Calls Try.prog 85 #[.pointer (some ⟨w0.heap.size + 1, 0, none⟩), .pointer (some ⟨w0.heap.size + 2, 0, none⟩)] W fun e W' => e = .returned (.int .i64 (nAt zs at_ 2)) ∧ NS w0 A n c zs cs (at_ + 2) W' ∧ Below w0.heap.size W W' ∧ W'.heap.size = W.heap.size ∧ (∀ b, w0.heap.size + 3 < b → W'.heap[b]? = W.heap[b]?) := by
  obtain ⟨a, b, cc, d, e, f⟩ := h
  have HG := Lib.hid (get_yes W w0.heap.size A n c at_ 2 zs e (by decide) h2 (by omega))
  have hb2 := nAt_bd (l := zs) (a := at_) (k := 2) (by rw [e.1]; exact h2) e.by_
  have p2 : (256 : Int) ^ 2 = 65536 := by decide
  rw [p2] at hb2
  obtain ⟨X, hX⟩ : ∃ X, numOf ((zs.drop at_).take 2) = X := ⟨_, rfl⟩
  have hX' : nAt zs at_ 2 = X := hX
  rw [hX'] at hb2 ⊢
  rw [hX] at HG
  obtain ⟨x0, x1⟩ := hb2
  have b0 := (b.cell 0).trans (show _ = some (Value.slice A n c) by rfl)
  have c0 := (cc.cell 0).trans (show _ = some (Value.int .i64 (at_ : Int)) by rfl)
  have cz := cc.frozen 0
  have hset : NS w0 A n c zs cs (at_ + 2) (W.setCell ⟨w0.heap.size + 2, 0, none⟩ (.int .i64 ((at_ : Int) + 2))) := by
    have hb : Below w0.heap.size W (W.setCell ⟨w0.heap.size + 2, 0, none⟩ (.int .i64 ((at_ : Int) + 2))) := ((Below.refl W.heap.size W).mono f.size).setCell (by simp) _
    exact ⟨a.far (by simp) _, b.far (by simp) _, by simpa using cc.set_ 0 (.int .i64 ((at_ : Int) + 2)), d.far (by simp) _, e.below hb, f.trans hb⟩
  have HS := Lib.hid hset
  have HF := Lib.hid f
  have ha : (at_ : Int) ≤ 100 := by omega
  clear a b cc d e f hX hX' hset
  go_enter Try.func85, Try.ntmps85
  go_wp2_with fail
  refine Calls.mono HG.out ?_
  rintro e w1 ⟨rfl, rfl⟩
  go_wp2
  go_ret
  exact ⟨rfl, HS.out, ((Below.refl W.heap.size W).mono HF.out.size).setCell (by simp) _, by simp [World.setCell], fun k hk => Below.heap_setCell _ _ _ _ (show k ≠ w0.heap.size + 2 by omega)⟩
theorem nAt_four {l : List Int} {a : Nat} (h : a + 4 ≤ l.length) : nAt l a 4 = nAt l a 2 * 65536 + nAt l (a + 2) 2 := by
  unfold nAt
  have e : (l.drop a).take 4 = (l.drop a).take 2 ++ (l.drop (a + 2)).take 2 := by
    rw [show (4 : Nat) = 2 + 2 from rfl, List.take_add, List.drop_drop]
  have h2 : ((l.drop (a + 2)).take 2).length = 2 := by rw [List.length_take, List.length_drop]; omega
  rw [e, numOf_append, h2]; rfl
theorem nAt_low {l : List Int} {a : Nat} (h : a + 2 ≤ l.length) (hb : By l) : nAt l a 2 % 256 = nAt l (a + 1) 1 ∧ nAt l a 2 / 256 = nAt l a 1 := by
  have e : (l.drop a).take 2 = (l.drop a).take 1 ++ (l.drop (a + 1)).take 1 := by
    rw [show (2 : Nat) = 1 + 1 from rfl, List.take_add, List.drop_drop]
  have h2 : ((l.drop (a + 1)).take 1).length = 1 := by rw [List.length_take, List.length_drop]; omega
  have b := nAt_bd (l := l) (a := a + 1) (k := 1) (by omega) hb
  have p1 : (256 : Int) ^ 1 = 256 := by decide
  rw [p1] at b
  unfold nAt at b ⊢
  rw [e, numOf_append, h2, p1]
  omega
set_option maxRecDepth 100000 in
set_option maxHeartbeats 2000000 in
theorem addr_any (w0 : World) (A : Option Addr) (n c : Nat) (zs : List Int) (cs : Array Value) (at_ : Nat) (h4 : at_ + 4 ≤ n) (hn : n ≤ 100) (W : World) (h : NS w0 A n c zs cs at_ W) :
    Calls Try.prog 63 #[.pointer (some ⟨w0.heap.size + 3, 0, none⟩)] W fun e W' => e = .returned (adr false 0 (nAt zs at_ 4)) ∧ NS w0 A n c zs cs (at_ + 4) W' := by
  have hl : zs.length = n := h.2.2.2.2.1.1
  have hby := h.2.2.2.2.1.by_
  have hd : w0.heap.size + 3 < W.heap.size := h.2.2.2.1.lt
  have b1 := nAt_bd (l := zs) (a := at_) (k := 2) (by omega) hby
  have b2 := nAt_bd (l := zs) (a := at_ + 2) (k := 2) (by omega) hby
  have p2 : (256 : Int) ^ 2 = 65536 := by decide
  rw [p2] at b1 b2
  have hV := nAt_four (l := zs) (a := at_) (by omega)
  have H1 := Lib.hid (fun W h => word_any w0 A n c zs cs at_ (by omega) hn W h)
  have H2 := Lib.hid (fun W h => word_any w0 A n c zs cs (at_ + 2) (by omega) hn W h)
  obtain ⟨X, hX⟩ : ∃ X, nAt zs at_ 2 = X := ⟨_, rfl⟩
  obtain ⟨Y, hY⟩ : ∃ Y, nAt zs (at_ + 2) 2 = Y := ⟨_, rfl⟩
  rw [hX] at b1 hV H1
  rw [hY] at b2 hV H2
  rw [hV]
  obtain ⟨x0, x1⟩ := b1
  obtain ⟨y0, y1⟩ := b2
  have hor := or_words X Y x0 x1 y0 y1
  have hu : IntKind.u64.wrap (X * 65536 + Y) = X * 65536 + Y := by rw [IntKind.wrap_u64]; omega
  obtain ⟨U, hU⟩ : ∃ U, U = W.alloc (.cells #[.bool false, .int .u64 0, .int .u64 0] 25) := ⟨_, rfl⟩
  have U0 : NS w0 A n c zs cs at_ U := by rw [hU]; exact h.below ((Below.refl _ _).alloc (Nat.le_refl _) _)
  have UR : Blk U W.heap.size 25 #[.bool false, .int .u64 0, .int .u64 0] := by rw [hU]; exact Blk.new _ _ _
  have d0 := (U0.2.2.2.1.cell 0).trans (show _ = some _ by rfl)
  have HU0 := Lib.hid U0
  have HUR := Lib.hid UR
  have HU := Lib.hid hU
  rw [hU] at d0
  clear hX hY hV h U0 UR hU hby p2
  go_enter Try.func63, Try.ntmps63
  go_wp2_with fail
  rw [← HU.out]
  refine Calls.mono (H1.out _ HU0.out) ?_
  rintro e w1 ⟨rfl, hs, hb, hz, ho⟩
  have d1 := (hs.2.2.2.1.cell 0).trans (show _ = some _ by rfl)
  have HN1 := Lib.hid hs
  have R1 : Hid (Blk w1 W.heap.size 25 #[.bool false, .int .u64 0, .int .u64 0]) := Lib.hid ((ho _ hd).trans HUR.out)
  clear hs hb hz ho d0
  go_wp2_with fail
  refine Calls.mono (H2.out _ HN1.out) ?_
  rintro e w2 ⟨rfl, hs, hb, hz, ho⟩
  have R2 : Blk w2 W.heap.size 25 #[.bool false, .int .u64 0, .int .u64 0] := (ho _ hd).trans R1.out
  have HN2 := Lib.hid hs
  obtain ⟨r0, r1, r2⟩ := R2.c3
  have z0 := R2.frozen 0
  have z1 := R2.frozen 1
  have z2 := R2.frozen 2
  have hge : w0.heap.size < W.heap.size := by omega
  have HL : Hid (∀ (W' : World), NS w0 A n c zs cs (at_ + 4) W' → ∀ i u, NS w0 A n c zs cs (at_ + 4) (W'.setCell ⟨W.heap.size, i, none⟩ u)) := Lib.hid fun W' h i u => by
    obtain ⟨a, b, cc, d, e, f⟩ := h
    have hb : Below w0.heap.size W' (W'.setCell ⟨W.heap.size, i, none⟩ u) := ((Below.refl W'.heap.size W').mono f.size).setCell (by simp; omega) _
    exact ⟨a.far (by simp; omega) _, b.far (by simp; omega) _, cc.far (by simp; omega) _, d.far (by simp; omega) _, e.below hb, f.trans hb⟩
  clear hs hb hz ho d1 R2
  go_wp2
  exact bodyPost_ret (v := adr false 0 (X * 65536 + Y)) (by simp [results, Try.results63, go_sem, r0, r1, r2]) rfl ⟨rfl, HL.out _ (HL.out _ (HL.out _ HN2.out _ _) _ _) _ _⟩
end Go.Proofs.Ytbhddodghbhjiaa
