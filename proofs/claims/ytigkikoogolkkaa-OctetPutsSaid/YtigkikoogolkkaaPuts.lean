/-
  What is proved: for any bytes, any width and any number, octet.Put makes what the document's own Put makes, and leaves the bytes, and the marks behind them, as they were; what it made is its owner's alone; the call returns true, and leaves its arguments alone. No condition.
-/
import Derived.Test.YtigkikoogolkkaaRefPut
import Derived.SizedLaws
namespace Go.Proofs.Ytigkikoogolkkaa.Puts
open Go.ChangeShapes Go.WideShapes Go.ChangeAt Go.RowKit
open Go.Proofs.Ytigkikoogolkkaa
open Go.ChangeMaps (open_string shut_string)
set_option linter.unusedVariables false

theorem wf_bits8 (op : BinOp) (a b : Int) : (Lit.int .u8 (bits op .u8 a b)).wf = true := by
  have h := bits_within op .u8 a b
  simp [Lit.wf, h.1, h.2]

theorem below_drewN {B : Nat} {a w : World} (h : Below B a w) (n : Nat) : Below B a (w.drewN n) := ⟨h.os, h.tape, h.output, h.size, h.block⟩

/-- A block of bytes is a row of its own. -/
theorem own_of_blk {w : World} {g base N : Nat} {xs : List Int} (h : Blk w g 5 ((xs.map (Value.int .u8)).toArray)) (hl : xs.length = N) (hb : base ≤ g) (hm : N ≤ 9223372036854775807) :
    w.ownsRow base 5 1 (.slice (some ⟨g, 0, none⟩) N N) N (xs.map (Value.int .u8)) :=
  ⟨by simp [hl], .inr ⟨g, N, _, rfl, hb, h, Nat.le_refl _, hm, by simp [hl], by rw [List.take_of_length_le (by simp [hl])]⟩⟩

theorem flip_blk {w : World} {g j : Nat} {xs : List Int} {u : Int} (h : Blk w g 5 ((xs.map (Value.int .u8)).toArray)) :
    Blk (w.setCell ⟨g, j, none⟩ (.int .u8 u)) g 5 (((xs.set j u).map (Value.int .u8)).toArray) := by
  have := h.set_ j (.int .u8 u)
  simpa [List.map_set] using this

set_option maxHeartbeats 1000000 in
theorem walk (a0 : Option Addr) (len0 cap0 : Nat) (z0 : List Int) (a1 : Int) (a2 : Int) (w : World) (w0 : IsRow .u8 w a0 len0 cap0 z0) (s0 : cap0 * 1 ≤ 140737488351232) (w2 : (Lit.int .u64 a2).wf = true) :
    Calls Try.prog 3 #[.slice a0 len0 cap0, .int .i64 a1, .int .u64 a2] w fun e w' => e = .returned (.bool true) ∧ Below w.heap.size w w' := by
  obtain ⟨hz, hl, hm⟩ := w0.ri
  have hA : a0 = none → cap0 = 0 := by
    intro h
    rcases w0 with ⟨_, _, h, _⟩ | ⟨x, h', _⟩
    · exact h
    · rw [h] at h'; cases h'
  have b2 := u64_bd w2
  have hwd := wide_le a1
  have HZ := Lib.hid hz
  have HA := Lib.hid hA
  clear w0 hz hA
  go_enter Try.func3, Try.ntmps3
  go_wp2_with fail
  refine (awake_yes _).mono ?_
  rintro e w1 ⟨rfl, hB1⟩
  go_wp2_with fail
  have HLe := Lib.hid (lent_any w1 w.heap.size a0 len0 cap0 _ (HZ.out.below hB1) HA.out hB1.size (by omega))
  refine Calls.mono HLe.out ?_
  rintro e w2 ⟨g, cap, rfl, hg, hL, hB2⟩
  have hB := hB1.trans (hB2.mono hB1.size)
  have hgl := hL.lt
  have hgw : w.heap.size ≤ g := Nat.le_trans hB1.size hg
  clear hB1 hB2
  have P1 := put_any w2 (g + 1) (some ⟨g, 0, none⟩) len0 cap a2 a1 _ (hL.ri (Nat.lt_succ_self _)) hL.lt (by omega) b2.1
  have HP1 := Lib.hid P1
  clear P1
  go_wp2_with fail
  refine Calls.mono HP1.out ?_
  rintro e w3 ⟨rfl, hx3, hB3⟩
  have hL3 := hL.keep (hB3.block g (by omega))
  have P2 := put_any w3 (g + 1) (some ⟨g, 0, none⟩) len0 cap a2 a1 _ (hL3.ri (Nat.lt_succ_self _)) hL3.lt (by omega) b2.1
  have HP2 := Lib.hid P2
  clear P2 HP1
  go_wp2_with fail
  refine Calls.mono HP2.out ?_
  rintro e w4 ⟨rfl, hy4, hB4⟩
  have hx3l := hx3.lt
  have hy4l := hy4.lt
  have hx4 := hx3.below hB4 hx3l
  have hL4 := hL3.keep (hB4.block g (by omega))
  have hB04 : Below w.heap.size w w4 := (hB.trans (hB3.mono hB.size)).trans (hB4.mono (by have := hB.size; have := hB3.size; omega))
  have P3 := refPut_any w4 w.heap.size a0 len0 cap0 a2 a1 _ (HZ.out.below hB04) HA.out hB04.size (by omega) b2.1 b2.2
  have HP3 := Lib.hid P3
  clear P3 HP2 hL3
  go_wp2_with fail
  refine Calls.mono HP3.out ?_
  rintro e w5 ⟨A5, c5, rfl, hr5, hA5, hB5⟩
  have hx5 := hx4.below hB5 (by omega)
  have hy5 := hy4.below hB5 (by omega)
  have hL5 := hL4.keep (hB5.block g (by omega))
  have hB05 : Below w.heap.size w w5 := hB04.trans (hB5.mono hB04.size)
  obtain ⟨Z, hZ⟩ : ∃ Z, Z = z0.take len0 ++ putOf (wide a1) a2 := ⟨_, rfl⟩
  rw [← hZ] at hx5 hy5 hr5
  have hZl : Z.length = len0 + wide a1 := by rw [hZ, List.length_append, putOf_len, HZ.out.1]
  have hZw : ∀ z ∈ Z, (Lit.int .u8 z).wf = true := by
    intro z hz
    rw [hZ] at hz
    rcases List.mem_append.1 hz with h | h
    · exact HZ.out.2.2 z h
    · exact wf_u8 (putOf_by (wide a1) a2 z h)
  have hx5r : RI .u8 w5 w5.heap.size (some ⟨w2.heap.size, 0, none⟩) (len0 + wide a1) Z := by
    have := hx5.reads hZw hx5.lt
    rwa [hZl] at this
  have hz5 := (HZ.out.below hB05)
  have HS1 := Lib.hid (same_yes w5 _ _ _ A5 (len0 + wide a1) (len0 + wide a1) c5 Z hx5r hr5 (by omega))
  have HW1 := Lib.hid (fun m => whole_yes (w5.drewN m) w.heap.size g len0 cap cap0 a0 _ hL5 hz5)
  have HH : Hid (g < w2.heap.size ∧ w2.heap.size < w3.heap.size ∧ w3.heap.size < w4.heap.size ∧ w4.heap.size ≤ w5.heap.size ∧ w.heap.size ≤ w2.heap.size ∧ w.heap.size ≤ g) := ⟨hgl, hx3l, hy4l, hB5.size, hB.size, hgw⟩
  have hy5r : RI .u8 w5 w5.heap.size (some ⟨w3.heap.size, 0, none⟩) (len0 + wide a1) Z := by
    have := hy5.reads hZw hy5.lt
    rwa [hZl] at this
  have HS2 : Hid (∀ w8 : World, (∀ b, b < w5.heap.size → b ≠ w2.heap.size → w8.heap[b]? = w5.heap[b]?) →
      Calls Try.prog 13 #[.slice (some ⟨w3.heap.size, 0, none⟩) (len0 + wide a1) (len0 + wide a1), .slice A5 (len0 + wide a1) c5] w8 (fun e w' => e = .returned (.bool true) ∧ ∃ m, w' = w8.drewN m)) := fun w8 hk => by
    have h1 : RI .u8 w8 w5.heap.size (some ⟨w3.heap.size, 0, none⟩) (len0 + wide a1) Z := hy5r.keep' (L := w3.heap.size) (fun x hx => by injection hx with hx; rw [← hx]; exact Nat.le_refl _) (fun b h1 h2 => hk b h2 (by omega))
    have h2 : RI .u8 w8 w5.heap.size A5 (len0 + wide a1) Z := hr5.keep' hA5 (fun b h1 h2 => hk b h2 (by have := hB5.size; omega))
    exact same_yes w8 _ _ _ A5 (len0 + wide a1) (len0 + wide a1) c5 Z h1 h2 (by omega)
  have HW2 : Hid (∀ w8 : World, (∀ b, b < w5.heap.size → b ≠ w2.heap.size → w8.heap[b]? = w5.heap[b]?) → ∀ m,
      Calls Try.prog 14 #[.slice (some ⟨g, 0, none⟩) len0 cap, .slice a0 len0 cap0] (w8.drewN m) (fun e w' => e = .returned (.bool true) ∧ ∃ m', w' = (w8.drewN m).drewN m')) := fun w8 hk m => by
    have hs := hB5.size
    have h1 : Lent (w8.drewN m) g len0 cap (z0.take len0) := hL5.keep (hk g (by omega) (by omega))
    have hsz := hB05.size
    have h2 : RI .u8 (w8.drewN m) w.heap.size a0 len0 (z0.take len0) := hz5.keep (fun p hp => World.cell?_of_block (w' := w8.drewN m) (hk p.block (by omega) (by have := hB.size; omega)))
    exact whole_yes (w8.drewN m) w.heap.size g len0 cap cap0 a0 _ h1 h2
  have hgB : w.heap.size ≤ w2.heap.size := hB.size
  have hgs : w2.heap.size < w5.heap.size := by have := hB5.size; omega
  have HZL := Lib.hid hZl
  have HZW := Lib.hid hZw
  clear hZ hZl hZw hz5 hx5r hy5r hr5 hL4 hx4 hL5 hA5 hy5 hB3 hB4 hB5 hx3 hy4 HP3 HLe HH hgl hgw hx3l hy4l hB hB04
  go_wp2_with fail
  refine Calls.mono HS1.out ?_
  rintro e w6 ⟨rfl, m, rfl⟩
  go_wp2_with fail
  refine Calls.mono (HW1.out m) ?_
  rintro e w6 ⟨rfl, m', hw6⟩
  have hO6 : w5.grownBy w6 (some w2.heap.size) := by rw [hw6]; exact ⟨rfl, rfl, rfl, Nat.le_refl _, fun _ _ _ => rfl⟩
  have hx6 : Blk w6 w2.heap.size 5 ((Z.map (Value.int .u8)).toArray) := by rw [hw6]; exact hx5
  clear hw6 hx5 HS1 HW1
  go_wp2_with fail
  go_loopw [12] (fun i wr => ∃ j : Nat, j ≤ len0 + wide a1 ∧ i = .int .i64 j ∧ ∃ xs : List Int, xs.length = len0 + wide a1 ∧ (∀ z ∈ xs, (Lit.int .u8 z).wf = true) ∧ Blk wr w2.heap.size 5 ((xs.map (Value.int .u8)).toArray) ∧ w5.grownBy wr (some w2.heap.size)) (fun i _ => len0 + wide a1 - (intOf i).toNat)
  case atStart => exact ⟨0, Nat.zero_le _, rfl, Z, HZL.out, HZW.out, hx6, hO6⟩
  case round =>
    obtain ⟨j, hj, rfl, xs, hxl, hxw, hxb, hxg⟩ := hrel
    clear hx6 hO6
    by_cases hlt : j < len0 + wide a1
    · obtain ⟨z, hzj⟩ : ∃ z, xs[j]? = some z := ⟨_, List.getElem?_eq_getElem (by omega)⟩
      have hcell : wr.cell? ⟨w2.heap.size, j, none⟩ = some (.int .u8 z) := by rw [hxb.cell]; simp [hzj]
      have hfr := hxb.frozen j
      have hzb := u8_bd (hxw z (List.mem_of_getElem? hzj))
      have HXL := Lib.hid hxl
      have HXB := Lib.hid (flip_blk (j := j) (u := bits .xor .u8 z 1) hxb)
      have HXG := Lib.hid hxg
      have HXW := Lib.hid hxw
      clear hzj hxl hxb hxg hxw
      go_wp2_with fail
      go_roundw
      case rel => exact ⟨j + 1, by omega, by go_num, xs.set j (bits .xor .u8 z 1), by simpa using HXL.out, fun y hy => by rcases List.mem_or_eq_of_mem_set hy with h | h; exact HXW.out y h; rw [h]; exact wf_bits8 _ _ _, HXB.out, grown_set HXG.out _ _⟩
      case measure => simp [intOf]; omega
    · obtain rfl : j = len0 + wide a1 := by omega
      have HO := Lib.hid (own_of_blk hxb hxl hgB (by omega))
      have HG : Hid (∀ (o : Obj) (w8 : World), (wr.alloc o).grownBy w8 (some w2.heap.size) → (∀ b, b < w5.heap.size → b ≠ w2.heap.size → w8.heap[b]? = w5.heap[b]?) ∧ Below w.heap.size w w8) := fun o w8 h8 => by
        have hs := hxg.size
        have hs5 := hB05.size
        refine ⟨fun b hb hne => ?_, ?_⟩
        · rw [h8.block b (by simp; omega) (by simpa using hne), Below.heap_alloc wr o b (by omega)]
          exact hxg.block b hb (by simpa using hne)
        · have h1 : Below w.heap.size w wr := hB05.trans (grown_below hxg hgB hs5)
          exact (h1.alloc h1.size o).grown h8 (by have := h1.size; simp; omega) (fun k hk => by injection hk with hk; omega)
      have hsz : w.heap.size ≤ wr.heap.size := Nat.le_trans hB05.size hxg.size
      clear hxb hxl hxw hxg
      go_wp2_with (first
        | (at_builtin; refine wpList_app1 _ rfl (.tmp 56) (.tmp 57) rfl w.heap.size (.slice (some ⟨w2.heap.size, 0, none⟩) (len0 + wide a1) (len0 + wide a1)) (len0 + wide a1) xs rfl (HO.out.alloc _) (wr.heap.size + 1) (some ⟨wr.heap.size, 0, none⟩) 1 1 [7] rfl (fun h => by cases h) (Blk.reads (zs := [7]) (Blk.new _ _ _) (by decide) (Nat.lt_succ_self _)) (by omega) (by simp; omega) (by omega) ?_; intro g8 cap8 w8 hown8 hg8 hat8; obtain ⟨hk8, hB8⟩ := HG.out _ w8 hg8; have H8 := Lib.hid (HS2.out w8 hk8); have H9 := Lib.hid (HW2.out w8 hk8); clear hown8 hg8 hat8 hk8)
        | (go_at_call 13; refine Calls.mono H8.out ?_; rintro e w' ⟨rfl, m8, rfl⟩)
        | (go_at_call 14; refine Calls.mono (H9.out m8) ?_; rintro e w' ⟨rfl, m9, rfl⟩))
      go_ret
      exact ⟨rfl, below_drewN hB8 _⟩


set_option maxRecDepth 100000 in
theorem lifted (os : Os) (started : os.Started) (H : Type) (enc : TypeId × Value → H) :
    ReturnsInHanded {} Try.checked os 3 .any (Rows.octetPutsSpec.pre6 enc Try.prog Try.f3 Rows.octetPutsRow.domain false) (Rows.octetPutsSpec.post enc Try.prog Try.f3 false true false false) := by
  refine returnsInHanded_of_change_sized (C := Try.checked) own started (by kernel_rfl) Try.func3
    (ChangeSpec.witness6 (enc := enc) (C := Try.checked) false ⟨#[], #[.slice none 0 0, .int .i64 0, .int .u64 0], []⟩ 8 (by kernel_rfl) (by kernel_rfl) (by kernel_rfl) (by kernel_rfl)) ?_
  intro W base args ds gs before hval0 hW hcnd hsz0 _
  have hsz : (DataW.weightsEach Try.prog (Try.f3.params.toList ++ Rows.octetPutsSpec.plain.varTypes Try.prog) (ds ++ gs)).all (· ≤ reachBytes) = true := hsz0
  clear hsz0
  have hval : ∀ (j : Nat) t v, Try.f3.params[j]? = some t → args[j]? = some v → Value.okWide Try.prog W .any base t v := hval0
  have hW' := hW
  obtain ⟨p, q, hA0, hV, rfl, hfz, hnd⟩ := hW
  have hA : DataW.TrodAll enc Try.prog W 0 (fun _ => true) true Try.f3.params.toList args.toList ds p := hA0
  rw [Try.params3] at hA hval hsz
  obtain ⟨v0, vs0, d0, ds0, p0, q0, hargs, rfl, rfl, h0, r0⟩ := trodAll_cons hA
  obtain ⟨v1, vs1, d1, ds1, p1, q1, rfl, rfl, rfl, h1, r1⟩ := trodAll_cons r0
  obtain ⟨v2, vs2, d2, ds2, p2, q2, rfl, rfl, rfl, h2, r2⟩ := trodAll_cons r1
  obtain ⟨rfl, rfl, rfl⟩ := trodAll_nil r2
  obtain rfl : args = #[v0, v1, v2] := by cases args; simp_all
  obtain ⟨rfl, rfl⟩ := trodVars_none hV
  obtain ⟨a0, len0, cap0, rfl⟩ := okWide_slice Try.underlying22 (hval 0 22 v0 rfl rfl)
  have k0 := h0
  have lt0 : ∀ x ∈ p0, x.block < W.heap.size := by obtain ⟨m, hm⟩ := k0; exact DataW.trod_lt m _ _ _ hm
  obtain ⟨z0, w0, s0⟩ : ∃ zs, IsRow .u8 W a0 len0 cap0 zs ∧ cap0 * 1 ≤ 140737488351232 := by
    obtain ⟨fuel, hf⟩ := h0
    rcases open_ints Try.underlying22 Try.underlying5 (by kernel_rfl) hf with ⟨hcs, _⟩ | ⟨x, l, c, zs, hcs, _, hl, hm, hz, hx, hcell, hwz⟩
    · simp [Value.cells] at hcs
      obtain ⟨rfl, rfl, rfl⟩ := hcs
      exact ⟨[], .inl ⟨rfl, rfl, rfl, rfl⟩, by omega⟩
    · simp [Value.cells] at hcs
      obtain ⟨rfl, rfl, rfl⟩ := hcs
      have hz' : zs.length = cap0 := by simpa using hz
      simp only [Prod.mk.injEq] at hx
      obtain ⟨rfl, rfl⟩ := hx
      have hs := sized_slice hsz (j := 0) (t := 22) (e := 5) rfl rfl Try.underlying22
      rw [Try.bytes5] at hs
      simp only [lits, List.length_map, List.length_take, List.length_drop, reachBytes] at hs
      exact ⟨zs, .inr ⟨_, rfl, hl, hm, hz', hcell, hwz⟩, by omega⟩
  obtain ⟨a1, rfl, rfl, rfl, w1⟩ := open_int Try.underlying3 (hval 1 3 v1 rfl rfl) h1
  obtain ⟨a2, rfl, rfl, rfl, w2⟩ := open_int Try.underlying23 (hval 2 23 v2 rfl rfl) h2
  clear hA0 hval0
  refine (walk a0 len0 cap0 z0 a1 a2 W w0 s0 w2).mono fun e W' ⟨he, bel⟩ => ?_
  subst he
  exact ⟨_, rfl, _, _, _, [], _, [], hW', trodAll_mk1 (shut_bool Try.underlying4 _), (trodAll_cons_mk (Below.trod laidOut (by kernel_rfl) (of_decide_eq_true (by kernel_rfl)) k0 bel lt0) (trodAll_cons_mk (shut_int Try.underlying3 w1) (trodAll_cons_mk (shut_int Try.underlying23 w2) trodAll_mk0))), rfl, bel.frame _, fun h => by cases h⟩

theorem over : Rows.octetPutsRow.holds Try.pinned (OpenSpec.ofChange Rows.octetPutsSpec) :=
  OpenClaim.holds_of_wide 3 Try.f3 rfl rfl rfl rfl rfl rfl rfl ⟨rfl, rfl, rfl, rfl, rfl⟩ rfl rfl rfl rfl rfl (by kernel_rfl) Try.func3 (by kernel_rfl)
    (of_decide_eq_true (by kernel_rfl)) (by unfold Func.isWrapper; first | (rw [if_pos (by decide +kernel)]; kernel_rfl) | (rw [if_neg (by decide +kernel)]; exact ⟨rfl, rfl⟩))
    (fun os started H enc _ => lifted os started H enc)

theorem proved : Rows.OctetPutsSaid := over
#print axioms proved
end Go.Proofs.Ytigkikoogolkkaa.Puts

