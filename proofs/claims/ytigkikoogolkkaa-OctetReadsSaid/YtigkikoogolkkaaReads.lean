/-
  What is proved: octet's reader answers any calls over any bytes as the document's own reader does; what happens to the bytes that were handed in, or to those that came out, it does not see; the call returns true, and leaves its arguments alone. No condition.
-/
import Derived.Test.YtigkikoogolkkaaBoth
import Derived.Deep.RegionHeld3
namespace Go.Proofs.Ytigkikoogolkkaa.Reads
open Go.ChangeShapes Go.WideShapes Go.ChangeAt Go.RowKit
open Go.Proofs.Ytigkikoogolkkaa
set_option linter.unusedVariables false

theorem wf_bits8 (op : BinOp) (a b : Int) : (Lit.int .u8 (bits op .u8 a b)).wf = true := by
  have h := bits_within op .u8 a b
  simp [Lit.wf, h.1, h.2]

theorem own_keep {w w' : World} {base e size n : Nat} {v : Value} {xs : List Value} (h : w.ownsRow base e size v n xs) (hk : ∀ b, base ≤ b → b < w.heap.size → w'.heap[b]? = w.heap[b]?) : w'.ownsRow base e size v n xs := by
  refine ⟨h.1, ?_⟩
  rcases h.2 with h0 | ⟨g, cap, cur, e1, h1, h2, h3⟩
  · exact .inl h0
  · exact .inr ⟨g, cap, cur, e1, h1, (hk g h1 (Blk.lt (show Blk w g e cur from h2))).trans h2, h3⟩
theorem own_ri {w : World} {base n cx : Nat} {Ax : Option Addr} {xs : List Int} (h : w.ownsRow base 5 1 (.slice Ax n cx) n (xs.map (Value.int .u8))) (hw : ∀ z ∈ xs, (Lit.int .u8 z).wf = true) : RI .u8 w w.heap.size Ax n xs := by
  have hl : xs.length = n := by simpa using h.1
  refine ⟨hl, fun hn => ?_, hw⟩
  obtain ⟨g, cap, hv, hb, hlt⟩ := h.form hn
  injection hv with e1 e2 e3
  subst e1 e3
  refine ⟨g, 0, rfl, hlt, fun j z hz => ?_⟩
  rw [Nat.zero_add, h.cellAt j (by have := (List.getElem?_eq_some_iff.1 hz).1; omega), List.getElem?_map, hz]
  rfl

/-- The first n cells of block g are bytes. -/
def Bys (w : World) (g n : Nat) : Prop := ∃ cur : Array Value, Blk w g 5 cur ∧ ∀ t, t < n → ∃ z, cur[t]? = some (.int .u8 z) ∧ 0 ≤ z ∧ z ≤ 255
theorem Bys.flip {w : World} {g n j : Nat} {u : Int} (h : Bys w g n) (hu : 0 ≤ u ∧ u ≤ 255) : Bys (w.setCell ⟨g, j, none⟩ (.int .u8 u)) g n := by
  obtain ⟨cur, hb, hc⟩ := h
  refine ⟨_, hb.set_ j _, fun t ht => ?_⟩
  obtain ⟨z, hz, h1⟩ := hc t ht
  by_cases e : j = t
  · subst e
    exact ⟨u, by rw [Array.getElem?_setIfInBounds_self]; rw [if_pos (Array.getElem?_eq_some_iff.1 hz).1], hu⟩
  · exact ⟨z, by rw [Array.getElem?_setIfInBounds_ne e]; exact hz, h1⟩

theorem St.left {zs rest : List Int} {sh : Bool} {at_ : Nat} (h : St zs rest sh at_) : (if sh then 0 else (zs.length : Int) - at_) = (rest.length : Int) := by
  obtain ⟨h1, rfl⟩ := h
  cases sh <;> simp
  omega
theorem RR.bad_cell {w : World} {L B s at_ : Nat} {zs : List Int} {bad : Bool} (h : RR w L B s zs at_ bad) : w.cell? ⟨s, 2, none⟩ = some (.bool bad) := by
  obtain ⟨A, n, c, hb, _⟩ := h
  exact (hb.cell 2).trans (by simp)
theorem flip_calls {f : FuncId} {args : Array Value} {w : World} {v : Value} (h : Calls Try.prog f args w fun e w' => e = .returned v ∧ w = w') : Calls Try.prog f args w fun e w' => e = .returned v ∧ w' = w :=
  h.mono fun _ _ ⟨h1, h2⟩ => ⟨h1, h2.symm⟩

set_option maxRecDepth 100000 in
set_option maxHeartbeats 2000000 in
theorem walk (a0 : Option Addr) (len0 cap0 : Nat) (z0 : List Int) (a2 : Option Addr) (len2 cap2 : Nat) (l : List (Bool × Int)) (w : World) (w0 : IsRow .u8 w a0 len0 cap0 z0) (s0 : cap0 * 1 ≤ 140737488351232)
    (w2 : TK w w.heap.size a2 len2 l) (hl2 : len2 ≤ 9223372036854775807) :
    Calls Try.prog 5 #[.slice a0 len0 cap0, .slice a2 len2 cap2] w fun e w' => e = .returned (.bool true) ∧ Below w.heap.size w w' := by
  obtain ⟨hz, hl, hm⟩ := w0.ri
  have hA : a0 = none → cap0 = 0 := by
    intro h
    rcases w0 with ⟨_, _, h, _⟩ | ⟨x, h', _⟩
    · exact h
    · rw [h] at h'; cases h'
  obtain ⟨zs, hzs⟩ : ∃ zs, zs = z0.take len0 := ⟨_, rfl⟩
  rw [← hzs] at hz
  have HZ := Lib.hid hz
  have HA := Lib.hid hA
  have HT := Lib.hid w2
  clear w0 hz hA w2 hzs
  go_enter Try.func5, Try.ntmps5
  go_wp2_with fail
  refine (awake_yes _).mono ?_
  rintro e w1 ⟨rfl, hB1⟩
  go_wp2_with fail
  have HLe := Lib.hid (lent_any w1 w.heap.size a0 len0 cap0 zs (HZ.out.below hB1) HA.out hB1.size (by omega))
  refine Calls.mono HLe.out ?_
  rintro e w2 ⟨g, cap, rfl, hg, hL, hB2⟩
  have hB := hB1.trans (hB2.mono hB1.size)
  have hgw : w.heap.size ≤ g := Nat.le_trans hB1.size hg
  clear HLe hB1 hB2 hg
  have HN := Lib.hid (new_any w2 (g + 1) (some ⟨g, 0, none⟩) len0 cap zs (hL.ri (Nat.lt_succ_self _)) hL.lt (by omega))
  go_wp2_with fail
  refine Calls.mono HN.out ?_
  rintro e w3 ⟨r, rfl, hr3, hB3⟩
  have hL3 := hL.keep (hB3.block g hL.lt)
  have hB03 := hB.trans (hB3.mono hB.size)
  have hs23 := hB3.size
  have HM := Lib.hid (rnew_any w3 w.heap.size a0 len0 cap0 zs (HZ.out.below hB03) HA.out hB03.size (by omega))
  clear HN
  go_wp2_with fail
  refine Calls.mono HM.out ?_
  rintro e w4 ⟨s, rfl, hs4, hB4⟩
  have hL4 := hL3.keep (hB4.block g hL3.lt)
  have hB04 := hB03.trans (hB4.mono hB03.size)
  have hr4 := hr3.keep (w' := w4) (fun b _ h => hB4.block b h)
  have hJ4 : J w w4 w2.heap.size w3.heap.size r w3.heap.size w4.heap.size s zs zs false 0 false := ⟨hr4, hs4, hB04, Nat.le_refl _, hB.size, Nat.le_refl _⟩
  have HW := Lib.hid (whole_yes w4 _ g len0 cap cap0 a0 zs hL4 (HZ.out.below hB04))
  have hgl : g < w2.heap.size := hL.lt
  have hBys : Bys w4 g len0 := by
    have hL4' := hL4
    obtain ⟨cur, k1, k2, k3, k4, k5, k6, k7⟩ := hL4'
    refine ⟨cur, k1, fun t ht => ?_⟩
    have e := hL4.cell (j := t) (z := zs[t]) (by rw [List.getElem?_append_left (by omega), List.getElem?_eq_getElem (by omega)])
    rw [k1.cell] at e
    exact ⟨_, e, u8_bd (k6 _ (List.getElem_mem (by omega)))⟩
  have hst0 : Hid (St zs zs false 0) := ⟨Nat.zero_le _, by simp⟩
  obtain ⟨L, hLL⟩ : ∃ L, L = w2.heap.size := ⟨_, rfl⟩
  obtain ⟨B, hBB⟩ : ∃ B, B = w3.heap.size := ⟨_, rfl⟩
  obtain ⟨B2, hBB2⟩ : ∃ B2, B2 = w4.heap.size := ⟨_, rfl⟩
  rw [← hLL, ← hBB, ← hBB2] at hJ4
  have hgL : g < L := by omega
  have hLB : L ≤ B := by omega
  clear hLL hBB hBB2 HM hL hL3 hL4 hr3 hr4 hs4 hB hB3 hB03 hB4 hB04 hgl hs23
  go_wp2_with fail
  refine Calls.mono HW.out ?_
  rintro e w5 ⟨rfl, m, hw5⟩
  have hJ5 : J w w5 L B r B B2 s zs zs false 0 false := by rw [hw5]; exact hJ4.draw m
  have hY5 : Bys w5 g len0 := by rw [hw5]; exact hBys
  clear hw5 hJ4 hBys HW
  go_wp2_with fail
  go_loopw [9] (fun i wr => ∃ j : Nat, j ≤ len0 ∧ i = .int .i64 j ∧ J w wr L B r B B2 s zs zs false 0 false ∧ Bys wr g len0) (fun i _ => len0 - (intOf i).toNat)
  case atStart => exact ⟨0, Nat.zero_le _, rfl, hJ5, hY5⟩
  case round =>
    obtain ⟨j, hj, rfl, hJ, hY⟩ := hrel
    clear hJ5 hY5
    by_cases hlt : j < len0
    · have hY0 := hY
      obtain ⟨cur, hb, hc⟩ := hY
      obtain ⟨z, hz, hz0⟩ := hc j hlt
      have c0 : wr.cell? ⟨g, j, none⟩ = some (.int .u8 z) := (hb.cell j).trans hz
      have f0 := hb.frozen j
      have HXY := Lib.hid (hY0.flip (j := j) (u8_bd (wf_bits8 .xor z 255)))
      have HXJ : Hid (J w (wr.setCell ⟨g, j, none⟩ (.int .u8 (bits .xor .u8 z 255))) L B r B B2 s zs zs false 0 false) := by
        obtain ⟨q1, q2, q3, q4, q5, q6⟩ := hJ
        have hb2 := q2.bounds
        exact ⟨q1.keep (fun b h1 h2 => Below.heap_setCell wr _ _ b (by show b ≠ g; omega)), q2.keep (fun b h1 h2 => Below.heap_setCell wr _ _ b (by show b ≠ g; omega)), q3.setCell hgw _, by simpa [World.setCell] using q4, q5, q6⟩
      clear hY0 hb hc hz hJ
      go_wp2_with fail
      go_roundw
      case rel => exact ⟨j + 1, by omega, by go_num, HXJ.out, HXY.out⟩
      case measure => simp [intOf]; omega
    · obtain rfl : j = len0 := by omega
      have hzl := HZ.out.1
      have hzw := Lib.hid HZ.out.2.2
      have HZL : Hid (zs.length ≤ 140737488351232) := by show _ ≤ _; omega
      clear hY hzl
      go_wp2_with fail
      go_loopw [10, 11, 12, 13] (fun i _ _ _ wr => ∃ i' : Nat, i' ≤ len2 ∧ i = .int .i64 i' ∧ ∃ rest sh at', Hid (St zs rest sh at') ∧ J w wr L B r B B2 s zs rest sh at' sh) (fun i _ _ _ _ => len2 - (intOf i).toNat)
      case atStart => exact ⟨0, Nat.zero_le _, rfl, zs, false, 0, hst0, hJ⟩
      case round =>
        obtain ⟨i, hi, rfl, rest, sh, at', hst, hJ⟩ := hrel
        by_cases hil : i < len2
        · obtain ⟨b, o, p, rfl, hb, hp, hpw, hc0, hc1⟩ := HT.out.at_ hil
          have HC : Hid (∀ W, Below w.heap.size w W → W.cell? ⟨b, o + i * 2, none⟩ = some (.bool p.1) ∧ W.cell? ⟨b, o + i * 2 + 1, none⟩ = some (.int .i64 p.2)) := fun W h => ⟨(h.cell (p := ⟨b, o + i * 2, none⟩) hb).trans hc0, (h.cell (p := ⟨b, o + i * 2 + 1, none⟩) hb).trans hc1⟩
          obtain ⟨d0, d1⟩ := HC.out _ hJ.2.2.1
          have hlt' : (i : Int) < len2 := by omega
          obtain ⟨p1, p2⟩ := p
          simp only at HC d0 d1
          clear hp hpw hc0 hc1
          cases p1
          · obtain ⟨V, rest', sh', at2, hst1, c21, c22⟩ := both_num (L := L) (B := B) (r := r) (L2 := B) (B2 := B2) (s := s) hst.out (by have := HZL.out; omega) p2
            have hst' := Lib.hid hst1
            have HN1 : Hid (∀ W at_ bad, J w W L B r B B2 s zs rest sh at_ bad → Calls Try.prog 21 #[.pointer (some ⟨r, 0, none⟩), .int .i64 p2] W fun e w' => e = .returned (.int .u64 V) ∧ J w w' L B r B B2 s zs rest' sh' at_ bad) := fun W at_ bad h => (c21 W h.1).mono fun e w' ⟨h1, h2, h3⟩ => ⟨h1, h.first h2 h3⟩
            have HN2 : Hid (∀ W rest sh'', J w W L B r B B2 s zs rest sh'' at' sh → Calls Try.prog 22 #[.pointer (some ⟨s, 0, none⟩), .int .i64 p2] W fun e w' => e = .returned (.int .u64 V) ∧ J w w' L B r B B2 s zs rest sh'' at2 sh') := fun W rest sh'' h => (c22 W h.2.1).mono fun e w' ⟨h1, h2, h3⟩ => ⟨h1, h.second h2 h3⟩
            have hJd : J w wr.drew L B r B B2 s zs rest sh at' sh := hJ.draw 1
            have hVV : (V != V) = false := by simp
            clear c21 c22 hst1
            go_wp2_with fail
            go_region_held3 (fun w' => w'.cell? ⟨b, o + i * 2 + 1, none⟩ = some (.int .i64 p2)) (first | exact d1 | exact hca | exact hcb) (first | (go_at_call 21; (first | (with_reducible refine Calls.mono (HN1.out _ _ _ hJd) ?_) | (with_reducible refine Calls.mono (HN1.out _ _ _ hJb) ?_)); rintro e wa ⟨rfl, hJa⟩; have hca := (HC.out _ hJa.2.2.1).2) | (go_at_call 22; (first | (with_reducible refine Calls.mono (HN2.out _ _ _ hJd) ?_) | (with_reducible refine Calls.mono (HN2.out _ _ _ hJa) ?_)); rintro e wb ⟨rfl, hJb⟩; have hcb := (HC.out _ hJb.2.2.1).2))
            go_wp2_with fail
            clear hJa hca hcb hJd d0 d1 hJ
            have HLf := Lib.hid (fun m => flip_calls (left_any (hJb.draw m).1))
            have HLr : Hid (∀ m, Calls Try.prog 24 #[.pointer (some ⟨s, 0, none⟩)] (wb.drewN m) fun e w' => e = .returned (.int .i64 (rest'.length : Int)) ∧ ∃ m', w' = (wb.drewN m).drewN m') := fun m => by
              have h := rleft_any (hJb.draw m).2.1
              rw [St.left hst'.out] at h
              exact h
            have HSh := Lib.hid (fun m => flip_calls (short_any (hJb.draw m).1))
            have hc2 := RR.bad_cell hJb.2.1
            obtain ⟨X, hX⟩ : ∃ X, X = (rest'.length : Int) := ⟨_, rfl⟩
            rw [← hX] at HLf HLr
            have hXX : (X != X) = false := by simp
            have hSS : (sh' != sh') = false := by simp
            have HJ9 := Lib.hid (fun m => hJb.draw m)
            clear hX hJb
            go_quiet ((first | (go_at_call 23; exact Calls.quiet_of_same (HLf.out _)) | (go_at_call 24; exact Calls.quiet_of (HLr.out _)) | (go_at_call 25; exact Calls.quiet_of_same (HSh.out _))))
            go_wp2
            go_roundw
            case rel => exact ⟨i + 1, by omega, by go_num, rest', sh', at2, hst', HJ9.out _⟩
            case measure => simp [intOf]; omega
          · obtain ⟨out, rest', sh', at2, hmem, hol, hst1, c19, c20⟩ := both_bytes (L := L) (B := B) (r := r) (L2 := B) (B2 := B2) (s := s) hst.out (by have := HZL.out; omega) p2
            have hst' := Lib.hid hst1
            have hB2 : B2 ≤ wr.heap.size := hJ.2.2.2.1
            have hBB : B ≤ B2 := by have := hJ.2.1.bounds; omega
            have hwB : w.heap.size ≤ B2 := by have := hJ.1.bounds; have := hJ.2.2.2.2.1; omega
            have hsB : s < B2 := hJ.2.1.bounds.2.1
            have hwf : Hid (∀ z ∈ out, (Lit.int .u8 z).wf = true) := fun z hz => hzw.out z (hmem z hz)
            have hol' : out.length ≤ 140737488351232 := by have := HZL.out; omega
            have H19 := Lib.hid (c19 wr hJ.1 (by omega))
            have H20 : Hid (∀ W, J w W L B r B B2 s zs rest' sh' at' sh → Calls Try.prog 20 #[.pointer (some ⟨s, 0, none⟩), .int .i64 p2] W (RBytes W B B2 s zs out at2 sh')) := fun W h => c20 W h.2.1 h.2.2.2.1
            clear c19 c20 hst1 hmem hol
            go_wp2_with fail
            refine Calls.mono H19.out ?_
            rintro e w6 ⟨Ax, cx, rfl, hown6, hrd6, hg6⟩
            have hJ6 := hJ.first hrd6 hg6
            have hs6 := hg6.size
            obtain ⟨_, d6⟩ := HC.out _ hJ6.2.2.1
            have H20' := Lib.hid (H20.out w6 hJ6)
            clear hrd6 hg6 hJ d0 d1 H19
            go_wp2_with fail
            refine Calls.mono H20'.out ?_
            rintro e w7 ⟨A7, c7, rfl, hri7, hrr7, hg7⟩
            have hJ7 := hJ6.second hrr7 hg7
            have hs7 := hg7.size
            have hown7 : w7.ownsRow wr.heap.size 5 1 (.slice Ax out.length cx) out.length (out.map (Value.int .u8)) := own_keep hown6 (fun b h1 h2 => hg7.block b h2 (fun e => by injection e with e; omega))
            have HSm := Lib.hid (same_yes w7 _ _ Ax A7 out.length cx c7 out (own_ri hown7 hwf.out) hri7 (by omega))
            have HJ7 : Hid (∀ m, J w (w7.drewN m) L B r B B2 s zs rest' sh' at2 sh' ∧ (w7.drewN m).ownsRow wr.heap.size 5 1 (.slice Ax out.length cx) out.length (out.map (Value.int .u8)) ∧ wr.heap.size ≤ (w7.drewN m).heap.size) := fun m => ⟨hJ7.draw m, hown7, Nat.le_trans hs6 hs7⟩
            clear H20' hJ6 d6 hown6 hri7 hrr7 hg7 hJ7 hown7 hs6 hs7
            go_wp2_with fail
            refine Calls.mono HSm.out ?_
            rintro e w8 ⟨rfl, m8, hw8⟩
            obtain ⟨hJ8, hown8, hs8⟩ := HJ7.out m8
            rw [← hw8] at hJ8 hown8 hs8
            clear hw8 HJ7 HSm
            go_wp2_with fail
            obtain ⟨bs, hbs, hown8', hs8'⟩ : ∃ bs, B2 ≤ bs ∧ w8.ownsRow bs 5 1 (.slice Ax out.length cx) out.length (out.map (Value.int .u8)) ∧ bs ≤ w8.heap.size := ⟨_, hB2, hown8, hs8⟩
            clear hown8 hs8 hB2
            go_loopw [13] (fun t W => ∃ t' : Nat, t' ≤ out.length ∧ t = .int .i64 t' ∧ ∃ xs : List Int, xs.length = out.length ∧ W.ownsRow bs 5 1 (.slice Ax out.length cx) out.length (xs.map (Value.int .u8)) ∧ (∀ z ∈ xs, (Lit.int .u8 z).wf = true) ∧ bs ≤ W.heap.size ∧ J w W L B r B B2 s zs rest' sh' at2 sh') (fun t _ => out.length - (intOf t).toNat)
            case atStart => exact ⟨0, Nat.zero_le _, rfl, out, rfl, hown8', hwf.out, hs8', hJ8⟩
            case round =>
              obtain ⟨t, ht, rfl, xs, hxl, hown, hxw, hsz, hJ9⟩ := hrel
              clear hJ8 hown8' hs8'
              by_cases htl : t < out.length
              · obtain ⟨gx, capx, hv, hgb, hglt⟩ := hown.form (by omega)
                injection hv with e1 e2 e3
                subst e1 e3
                obtain ⟨z, hzt⟩ : ∃ z, xs[t]? = some z := ⟨_, List.getElem?_eq_getElem (by omega)⟩
                have hcx : wr.cell? ⟨gx, t, none⟩ = some (.int .u8 z) := by rw [hown.cellAt t (by omega), List.getElem?_map, hzt]; rfl
                have hfx := hown.frozenAt t
                have HO := Lib.hid (hown.stored t (.int .u8 (bits .xor .u8 z 255))).1
                have HXL := Lib.hid hxl
                have HXW := Lib.hid hxw
                have HJ10 := Lib.hid (hJ9.later (((Below.refl B2 wr).setCell (p := ⟨gx, t, none⟩) (by show B2 ≤ gx; omega) (.int .u8 (bits .xor .u8 z 255)))))
                clear hzt hxl hxw hJ9 hown
                go_wp2_with fail
                go_roundw
                case rel => exact ⟨t + 1, by omega, by go_num, xs.set t (bits .xor .u8 z 255), by simpa using HXL.out, by have := HO.out; rwa [← List.map_set] at this, (fun y hy => by rcases List.mem_or_eq_of_mem_set hy with h | h; exact HXW.out y h; rw [h]; exact wf_bits8 _ _ _), by simpa [World.setCell] using hsz, HJ10.out⟩
                case measure => simp [intOf]; omega
              · have HO := Lib.hid hown
                have HJ9 := Lib.hid hJ9
                have HbO := Lib.hid (own_base hown)
                clear hown hxw hJ9
                go_wp2_with (first
                  | (at_builtin; refine wpList_app2 _ rfl (.tmp 90) (.tmp 91) rfl bs (.slice Ax out.length cx) out.length xs rfl (HO.out.alloc _) (wr.heap.size + 1) (some ⟨wr.heap.size, 0, none⟩) 3 3 [1, 2, 3] rfl (fun h => by cases h) (Blk.reads (zs := [1, 2, 3]) (Blk.new _ _ _) (by decide) (Nat.lt_succ_self _)) (by omega) (by simp; omega) ?_; intro Ay cy w9 hown9 hg9; have hJ10 := HJ9.out.later ((((Below.refl B2 wr).alloc (by omega) _).grown hg9 (by simp; omega) (fun k hk => by have := HbO.out k hk; omega))); clear hown9 hg9))
                have HLf := Lib.hid (fun m => flip_calls (left_any (hJ10.draw m).1))
                have HLr : Hid (∀ m, Calls Try.prog 24 #[.pointer (some ⟨s, 0, none⟩)] (w9.drewN m) fun e w' => e = .returned (.int .i64 (rest'.length : Int)) ∧ ∃ m', w' = (w9.drewN m).drewN m') := fun m => by
                  have h := rleft_any (hJ10.draw m).2.1
                  rw [St.left hst'.out] at h
                  exact h
                have HSh := Lib.hid (fun m => flip_calls (short_any (hJ10.draw m).1))
                have hc2 := RR.bad_cell hJ10.2.1
                obtain ⟨X, hX⟩ : ∃ X, X = (rest'.length : Int) := ⟨_, rfl⟩
                rw [← hX] at HLf HLr
                have hXX : (X != X) = false := by simp
                have hSS : (sh' != sh') = false := by simp
                have HJ9 := Lib.hid (fun m => hJ10.draw m)
                clear hX hJ10
                go_quiet ((first | (go_at_call 23; exact Calls.quiet_of_same (HLf.out _)) | (go_at_call 24; exact Calls.quiet_of (HLr.out _)) | (go_at_call 25; exact Calls.quiet_of_same (HSh.out _))))
                go_wp2
                go_roundw
                case rel => exact ⟨i + 1, by omega, by go_num, rest', sh', at2, hst', HJ9.out _⟩
                case measure => simp [intOf]; omega
        · obtain rfl : i = len2 := by omega
          have hBe := hJ.2.2.1
          clear hJ
          go_wp2
          go_ret
          exact ⟨rfl, hBe⟩

set_option maxRecDepth 100000 in
theorem lifted (os : Os) (started : os.Started) (H : Type) (enc : TypeId × Value → H) :
    ReturnsInHanded {} Try.checked os 5 .any (Rows.octetReadsSpec.pre6 enc Try.prog Try.f5 Rows.octetReadsRow.domain false) (Rows.octetReadsSpec.post enc Try.prog Try.f5 false true false false) := by
  refine returnsInHanded_of_change_sized (C := Try.checked) own started (by kernel_rfl) Try.func5
    (ChangeSpec.witness6 (enc := enc) (C := Try.checked) false ⟨#[], #[.slice none 0 0, .slice none 0 0], []⟩ 8 (by kernel_rfl) (by kernel_rfl) (by kernel_rfl) (by kernel_rfl)) ?_
  intro W base args ds gs before hval0 hW hcnd hsz0 _
  have hsz : (DataW.weightsEach Try.prog (Try.f5.params.toList ++ Rows.octetReadsSpec.plain.varTypes Try.prog) (ds ++ gs)).all (· ≤ reachBytes) = true := hsz0
  clear hsz0
  have hval : ∀ (j : Nat) t v, Try.f5.params[j]? = some t → args[j]? = some v → Value.okWide Try.prog W .any base t v := hval0
  have hW' := hW
  obtain ⟨p, q, hA0, hV, rfl, hfz, hnd⟩ := hW
  have hA : DataW.TrodAll enc Try.prog W 0 (fun _ => true) true Try.f5.params.toList args.toList ds p := hA0
  rw [Try.params5] at hA hval hsz
  obtain ⟨v0, vs0, d0, ds0, p0, q0, hargs, rfl, rfl, h0, r0⟩ := trodAll_cons hA
  obtain ⟨v2, vs2, d2, ds2, p2, q2, rfl, rfl, rfl, h2, r2⟩ := trodAll_cons r0
  obtain ⟨rfl, rfl, rfl⟩ := trodAll_nil r2
  obtain rfl : args = #[v0, v2] := by cases args; simp_all
  obtain ⟨rfl, rfl⟩ := trodVars_none hV
  obtain ⟨a0, len0, cap0, rfl⟩ := okWide_slice Try.underlying22 (hval 0 22 v0 rfl rfl)
  have k0 := h0
  have lt0 : ∀ x ∈ p0, x.block < W.heap.size := by obtain ⟨m, hm⟩ := k0; exact DataW.trod_lt m _ _ _ hm
  obtain ⟨z0, w0, s0⟩ : ∃ zs, IsRow .u8 W a0 len0 cap0 zs ∧ cap0 * 1 ≤ 140737488351232 := by
    obtain ⟨fuel, hf⟩ := h0
    rcases open_ints Try.underlying22 Try.underlying5 (by kernel_rfl) hf with ⟨hcs, _⟩ | ⟨x, l, c, zs, hcs, _, hl, hm, hz, hx, hcell, hwz⟩
    · simp [Value.cells] at hcs
      obtain ⟨rfl, rfl, rfl⟩ := hcs
      exact ⟨[], .inl ⟨rfl, rfl, rfl, rfl⟩, by omega⟩
    · simp [Value.cells] at hcs
      obtain ⟨rfl, rfl, rfl⟩ := hcs
      have hz' : zs.length = cap0 := by simpa using hz
      simp only [Prod.mk.injEq] at hx
      obtain ⟨rfl, rfl⟩ := hx
      have hs := sized_slice hsz (j := 0) (t := 22) (e := 5) rfl rfl Try.underlying22
      rw [Try.bytes5] at hs
      simp only [lits, List.length_map, List.length_take, List.length_drop, reachBytes] at hs
      exact ⟨zs, .inr ⟨_, rfl, hl, hm, hz', hcell, hwz⟩, by omega⟩
  obtain ⟨a2, len2, cap2, rfl⟩ := okWide_slice Try.underlying32 (hval 1 32 v2 rfl rfl)
  have k2 := h2
  have lt2 : ∀ x ∈ p2, x.block < W.heap.size := by obtain ⟨m, hm⟩ := k2; exact DataW.trod_lt m _ _ _ hm
  obtain ⟨l2, w2, hl2, hm2⟩ : ∃ l, TK W W.heap.size a2 len2 l ∧ len2 ≤ cap2 ∧ cap2 ≤ 9223372036854775807 := by
    obtain ⟨fuel, hf⟩ := h2
    exact open_takes hf
  clear hA0 hval0
  refine (walk a0 len0 cap0 z0 a2 len2 cap2 l2 W w0 s0 w2 (by omega)).mono fun e W' ⟨he, bel⟩ => ?_
  subst he
  exact ⟨_, rfl, _, _, _, [], _, [], hW', trodAll_mk1 (shut_bool Try.underlying4 _), (trodAll_cons_mk (Below.trod laidOut (by kernel_rfl) (of_decide_eq_true (by kernel_rfl)) k0 bel lt0) (trodAll_cons_mk (Below.trod laidOut (by kernel_rfl) (of_decide_eq_true (by kernel_rfl)) k2 bel lt2) trodAll_mk0)), rfl, bel.frame _, fun h => by cases h⟩

theorem over : Rows.octetReadsRow.holds Try.pinned (OpenSpec.ofChange Rows.octetReadsSpec) :=
  OpenClaim.holds_of_wide 5 Try.f5 rfl rfl rfl rfl rfl rfl rfl ⟨rfl, rfl, rfl, rfl, rfl⟩ rfl rfl rfl rfl rfl (by kernel_rfl) Try.func5 (by kernel_rfl)
    (of_decide_eq_true (by kernel_rfl)) (by unfold Func.isWrapper; first | (rw [if_pos (by decide +kernel)]; kernel_rfl) | (rw [if_neg (by decide +kernel)]; exact ⟨rfl, rfl⟩))
    (fun os started H enc _ => lifted os started H enc)

theorem proved : Rows.OctetReadsSaid := over
#print axioms proved
end Go.Proofs.Ytigkikoogolkkaa.Reads

