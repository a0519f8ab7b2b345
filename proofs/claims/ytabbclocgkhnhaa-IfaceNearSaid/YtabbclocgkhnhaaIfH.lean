/-
  The document's own set of ports (layer 14): holds, Near, Source.
-/
import Derived.Test.YtabbclocgkhnhaaIfS
import Derived.Test.YtabbclocgkhnhaaIfL
namespace Go.Proofs.Ytabbclocgkhnhaa
open Go.RowKit
set_option linter.unusedVariables false

abbrev loV (x : Loc) : Value := .agg #[.bool x.1.1, .int .u64 (x.1.2.1 : Int), .int .u64 (x.1.2.2 : Int), .int .i64 x.2]
set_option maxRecDepth 100000 in
set_option maxHeartbeats 2000000 in
theorem holdsD (x : Loc) (a : AdI) (hx : N64 x.1.2.1 ∧ N64 x.1.2.2) (ha : N64 a.2.1 ∧ N64 a.2.2) (w : World) :
    Calls Try.prog 58 #[loV x, adV a] w fun e w' => e = .returned (.bool (hldI a x)) ∧ Tch w w' [] := by
  obtain ⟨⟨xs, xh, xl⟩, xbt⟩ := x
  obtain ⟨s, ah, al⟩ := a
  have HR : Hid (hldI (s, ah, al) ((xs, xh, xl), xbt) = decide (xbt ≤ comV xs xh xl s ah al)) := Lib.hid rfl
  have HC := Lib.hid (fun W => rcommon_at xs xh xl s ah al hx.1 hx.2 ha.1 ha.2 rfl W)
  obtain ⟨v, hv⟩ : ∃ v, comV xs xh xl s ah al = v := ⟨_, rfl⟩
  rw [hv] at HR HC
  obtain ⟨xb, hxb⟩ : ∃ xb, w.heap.size = xb := ⟨_, rfl⟩
  obtain ⟨W0, hW0⟩ : ∃ W, (w.alloc (.cells #[.bool xs, .int .u64 (xh : Int), .int .u64 (xl : Int), .int .i64 xbt] 42)).alloc (.cells #[.bool s, .int .u64 (ah : Int), .int .u64 (al : Int)] 34) = W := ⟨_, rfl⟩
  have hX : Blk W0 xb 42 #[.bool xs, .int .u64 (xh : Int), .int .u64 (xl : Int), .int .i64 xbt] := hW0 ▸ hxb ▸ (Blk.new w _ _).alloc _
  have hY : Blk W0 (xb + 1) 34 #[.bool s, .int .u64 (ah : Int), .int .u64 (al : Int)] := by
    have := Blk.new (w.alloc (.cells #[.bool xs, .int .u64 (xh : Int), .int .u64 (xl : Int), .int .i64 xbt] 42)) 34 #[.bool s, .int .u64 (ah : Int), .int .u64 (al : Int)]
    rw [World.size_alloc, hW0, hxb] at this
    exact this
  have HT0 : Hid (Tch w W0 []) := Lib.hid (hW0 ▸ ((Tch.refl w []).alloc _).alloc _)
  have hsz : W0.heap.size = xb + 2 := by rw [← hW0, World.size_alloc, World.size_alloc, hxb]
  have HW0 := Lib.hid (And.intro hW0 hxb)
  have HX := Lib.hid hX
  have HY := Lib.hid hY
  have HSz := Lib.hid hsz
  have HCc := Lib.hid (HC.out W0.drew)
  have HF : Hid (W0.cell? ⟨xb, 0, none⟩ = some (Value.bool xs) ∧ W0.cell? ⟨xb, 1, none⟩ = some (Value.int .u64 (xh : Int)) ∧ W0.cell? ⟨xb, 2, none⟩ = some (Value.int .u64 (xl : Int)) ∧ W0.cell? ⟨xb, 3, none⟩ = some (Value.int .i64 xbt) ∧ W0.cell? ⟨xb + 1, 0, none⟩ = some (Value.bool s) ∧ W0.cell? ⟨xb + 1, 1, none⟩ = some (Value.int .u64 (ah : Int)) ∧ W0.cell? ⟨xb + 1, 2, none⟩ = some (Value.int .u64 (al : Int))) := Lib.hid ⟨(hX.cell 0).trans rfl, (hX.cell 1).trans rfl, (hX.cell 2).trans rfl, (hX.cell 3).trans rfl, (hY.cell 0).trans rfl, (hY.cell 1).trans rfl, (hY.cell 2).trans rfl⟩
  clear hv hxb hW0 hX hY hsz HC
  go_enter Try.func58, Try.ntmps58
  go_wp2
  rw [HW0.out.1, HW0.out.2]
  refine wp_region_held_drew (S := (fun W => W.cell? ⟨xb, 0, none⟩ = some (Value.bool xs) ∧ W.cell? ⟨xb, 1, none⟩ = some (Value.int .u64 (xh : Int)) ∧ W.cell? ⟨xb, 2, none⟩ = some (Value.int .u64 (xl : Int)) ∧ W.cell? ⟨xb, 3, none⟩ = some (Value.int .i64 xbt) ∧ W.cell? ⟨xb + 1, 0, none⟩ = some (Value.bool s) ∧ W.cell? ⟨xb + 1, 1, none⟩ = some (Value.int .u64 (ah : Int)) ∧ W.cell? ⟨xb + 1, 2, none⟩ = some (Value.int .u64 (al : Int)))) (by kernel_rfl) ?_ (fun hHeld => ?_)
  · (first | exact HF.out | exact HF2.out)
  refine wpAnyH_take (i := 0) (oi := { dst := some 5, op := Go.Op.fieldAddr 42 (Go.Operand.tmp 2) 0, type := 0, pos := "ref.go:138", after := #[], guard := none }) (v := ?_) rfl (by kernel_rfl) (by kernel_rfl) (by kernel_rfl) (fun _ _ _ h => h) (Or.inl ⟨by rfl, ?_⟩) (by assumption) ?_
  rotate_left
  · intro w hSw
    (try dsimp only at hSw)
    go_simp
    try (with_reducible rfl)
  try simp only [Act.put, List.setIfInBounds_toArray, List.set_cons_zero, List.set_cons_succ]
  refine wpAnyH_take (i := 1) (oi := { dst := some 6, op := Go.Op.load 34 (Go.Operand.tmp 5), type := 34, pos := "ref.go:138", after := #[{ on := 0, ground := Go.Ground.data }], guard := none }) (v := ?_) rfl (by kernel_rfl) (by kernel_rfl) (by kernel_rfl) (fun _ _ _ h => h) (Or.inl ⟨by rfl, ?_⟩) (by assumption) ?_
  rotate_left
  · intro w hSw
    (try dsimp only at hSw)
    go_simp
    try (with_reducible rfl)
  try simp only [Act.put, List.setIfInBounds_toArray, List.set_cons_zero, List.set_cons_succ]
  refine wpAnyH_take (i := 2) (oi := { dst := some 7, op := Go.Op.load 34 (Go.Operand.tmp 3), type := 34, pos := "ref.go:138", after := #[], guard := none }) (v := ?_) rfl (by kernel_rfl) (by kernel_rfl) (by kernel_rfl) (fun _ _ _ h => h) (Or.inl ⟨by rfl, ?_⟩) (by assumption) ?_
  rotate_left
  · intro w hSw
    (try dsimp only at hSw)
    go_simp
    try (with_reducible rfl)
  try simp only [Act.put, List.setIfInBounds_toArray, List.set_cons_zero, List.set_cons_succ]
  refine wpAnyH_take (i := 4) (oi := { dst := some 9, op := Go.Op.fieldAddr 42 (Go.Operand.tmp 2) 1, type := 0, pos := "ref.go:138", after := #[], guard := none }) (v := ?_) rfl (by kernel_rfl) (by kernel_rfl) (by kernel_rfl) (fun _ _ _ h => h) (Or.inl ⟨by rfl, ?_⟩) (by assumption) ?_
  rotate_left
  · intro w hSw
    (try dsimp only at hSw)
    go_simp
    try (with_reducible rfl)
  try simp only [Act.put, List.setIfInBounds_toArray, List.set_cons_zero, List.set_cons_succ]
  refine wpAnyH_take (i := 5) (oi := { dst := some 10, op := Go.Op.load 3 (Go.Operand.tmp 9), type := 3, pos := "ref.go:138", after := #[{ on := 4, ground := Go.Ground.data }], guard := none }) (v := ?_) rfl (by kernel_rfl) (by kernel_rfl) (by kernel_rfl) (fun _ _ _ h => h) (Or.inl ⟨by rfl, ?_⟩) (by assumption) ?_
  rotate_left
  · intro w hSw
    (try dsimp only at hSw)
    go_simp
    try (with_reducible rfl)
  try simp only [Act.put, List.setIfInBounds_toArray, List.set_cons_zero, List.set_cons_succ]
  refine wpAnyH_ready (rs := [3]) (by kernel_rfl) (by simp) ?_
  refine AllReadyH.cons (o := { dst := some 8, op := Go.Op.call { callee := Go.Callee.value (Go.Operand.func 69), args := #[Go.Operand.tmp 6, Go.Operand.tmp 7], argTypes := #[34, 34] }, type := 3, pos := "ref.go:138", after := #[{ on := 1, ground := Go.Ground.data }, { on := 2, ground := Go.Ground.data }], guard := none }) rfl (fun K hK => ?_) AllReadyH.nil
  go_simp
  (go_at_call 69; (with_reducible refine Calls.mono HCc.out ?_); rintro e w1 ⟨rfl, hb1⟩; have HB1 := Lib.hid hb1; have HF2 : Hid (w1.cell? ⟨xb, 0, none⟩ = some (Value.bool xs) ∧ w1.cell? ⟨xb, 1, none⟩ = some (Value.int .u64 (xh : Int)) ∧ w1.cell? ⟨xb, 2, none⟩ = some (Value.int .u64 (xl : Int)) ∧ w1.cell? ⟨xb, 3, none⟩ = some (Value.int .i64 xbt) ∧ w1.cell? ⟨xb + 1, 0, none⟩ = some (Value.bool s) ∧ w1.cell? ⟨xb + 1, 1, none⟩ = some (Value.int .u64 (ah : Int)) ∧ w1.cell? ⟨xb + 1, 2, none⟩ = some (Value.int .u64 (al : Int))) := Lib.hid (by have f := HF.out; have z := HSz.out; have k := fun (p : Addr) (hp : p.block < W0.heap.size) => hb1.cell (p := p) hp; exact ⟨(k ⟨xb, 0, none⟩ (by show xb < _; omega)).trans f.1, (k ⟨xb, 1, none⟩ (by show xb < _; omega)).trans f.2.1, (k ⟨xb, 2, none⟩ (by show xb < _; omega)).trans f.2.2.1, (k ⟨xb, 3, none⟩ (by show xb < _; omega)).trans f.2.2.2.1, (k ⟨xb + 1, 0, none⟩ (by show xb + 1 < _; omega)).trans f.2.2.2.2.1, (k ⟨xb + 1, 1, none⟩ (by show xb + 1 < _; omega)).trans f.2.2.2.2.2.1, (k ⟨xb + 1, 2, none⟩ (by show xb + 1 < _; omega)).trans f.2.2.2.2.2.2⟩); clear hb1)
  go_wp2_with fail
  refine hK.out _ _ ?_ (fun hHeld => ?_)
  · (first | exact HF.out | exact HF2.out)
  clear hK K
  try simp only [Act.put, List.setIfInBounds_toArray, List.set_cons_zero, List.set_cons_succ]
  refine wpAnyH_take (i := 6) (oi := { dst := some 11, op := Go.Op.binOp Go.BinOp.geq 3 (Go.Operand.tmp 8) (Go.Operand.tmp 10) 3, type := 4, pos := "ref.go:138", after := #[{ on := 3, ground := Go.Ground.data }, { on := 5, ground := Go.Ground.data }], guard := none }) (v := ?_) rfl (by kernel_rfl) (by kernel_rfl) (by kernel_rfl) (fun _ _ _ h => h) (Or.inl ⟨by rfl, ?_⟩) (by assumption) ?_
  rotate_left
  · intro w hSw
    (try dsimp only at hSw)
    go_simp
    try (with_reducible rfl)
  try simp only [Act.put, List.setIfInBounds_toArray, List.set_cons_zero, List.set_cons_succ]
  refine wpAnyH_take (i := 7) (oi := { dst := some 4, op := Go.Op.assign (Go.Operand.tmp 11), type := 4, pos := "ref.go:138", after := #[{ on := 6, ground := Go.Ground.data }, { on := 3, ground := Go.Ground.chain }, { on := 0, ground := Go.Ground.phase }, { on := 1, ground := Go.Ground.phase }, { on := 2, ground := Go.Ground.phase }, { on := 3, ground := Go.Ground.phase }, { on := 4, ground := Go.Ground.phase }, { on := 5, ground := Go.Ground.phase }, { on := 6, ground := Go.Ground.phase }], guard := none }) (v := ?_) rfl (by kernel_rfl) (by kernel_rfl) (by kernel_rfl) (fun _ _ _ h => h) (Or.inl ⟨by rfl, ?_⟩) (by assumption) ?_
  rotate_left
  · intro w hSw
    (try dsimp only at hSw)
    go_simp
    try (with_reducible rfl)
  try simp only [Act.put, List.setIfInBounds_toArray, List.set_cons_zero, List.set_cons_succ]
  refine wpAnyH_done (by kernel_rfl) ?_ _
  go_wp2
  go_ret
  exact ⟨by rw [HR.out]; rfl, HT0.out.drew.trans_fre (Tch.of_below [] HB1.out) (by simp)⟩
theorem nearT_step {a : AdI} {up : Bool} {port : Nat} {l : List Loc} {b : Nat × Int} {k : Nat} {x : Loc} (hx : l[k]? = some x) : nearT a up port l b (k + 1) = if up = true ∧ (nearT a up port l b k).2 < x.2 ∧ hldI a x = true then (port, x.2) else nearT a up port l b k := by
  show (match l[k]? with | none => nearT a up port l b k | some x => if up = true ∧ (nearT a up port l b k).2 < x.2 ∧ hldI a x = true then (port, x.2) else nearT a up port l b k) = _
  rw [hx]
theorem nearQ_step {st : StI} {a : AdI} {n : Nat} {p : Prt} {l : List Loc} (hp : st.1[n]? = some p) (hl : st.2[n]? = some l) : nearQ st a (n + 1) = nearT a p.2.2.2 (n + 1) l (nearQ st a n) l.length := by
  show (match st.1[n]?, st.2[n]? with | some p, some l => nearT a p.2.2.2 (n + 1) l (nearQ st a n) l.length | _, _ => nearQ st a n) = _
  rw [hp, hl]
set_option maxRecDepth 100000 in
set_option maxHeartbeats 4000000 in
theorem nearD (t : Nat) (S : List Nat) (st : StI) (a : AdI) (ha : N64 a.2.1 ∧ N64 a.2.2) (w : World) (h : IfD w t S st) :
    Calls Try.prog 35 #[.pointer (some ⟨t, 0, none⟩), adV a] w fun e w' => e = .returned (.tuple #[.int .i64 (nearI st a : Int), .bool (decide (0 < nearI st a))]) ∧ Tch w w' [] := by
  have hf := h.few
  have hlen := h.inv.len
  have HLoc := Lib.hid h.inv.loc
  have HU := Lib.hid h.inv.u64
  have HNr : Hid (nearI st a = (nearQ st a st.1.length).1) := Lib.hid rfl
  have HHld := Lib.hid (fun x hx W => holdsD x a hx ha W)
  obtain ⟨s, ah, al⟩ := a
  obtain ⟨xb, hxb⟩ : ∃ xb, w.heap.size = xb := ⟨_, rfl⟩
  obtain ⟨W0, hW0⟩ : ∃ W, w.alloc (.cells #[.bool s, .int .u64 (ah : Int), .int .u64 (al : Int)] 34) = W := ⟨_, rfl⟩
  have HX : Hid (Blk W0 xb 34 #[.bool s, .int .u64 (ah : Int), .int .u64 (al : Int)]) := Lib.hid (hW0 ▸ hxb ▸ Blk.new _ _ _)
  have HT0 : Hid (Tch w W0 []) := Lib.hid (hW0 ▸ (Tch.refl w []).alloc _)
  have HD0 := Lib.hid (h.tch HT0.out (by simp))
  have HW0 := Lib.hid (And.intro hW0 hxb)
  obtain ⟨n, hn⟩ : ∃ n, st.1.length = n := ⟨_, rfl⟩
  have HN := Lib.hid hn
  have HN2 : Hid (st.2.length = n) := Lib.hid (by omega)
  rw [hn] at hf HNr
  clear hW0 hxb h hn hlen ha
  go_enter Try.func35, Try.ntmps35
  go_wp2
  rw [HW0.out.1, HW0.out.2]
  go_loopw [6, 7, 8] (fun pv bv iv wr => ∃ i : Nat, pv = .int .i64 ((nearQ st (s, ah, al) i).1 : Int) ∧ bv = .int .i64 (nearQ st (s, ah, al) i).2 ∧ iv = .int .i64 (i : Int) ∧ i ≤ n ∧ Hid (Tch W0 wr [])) (fun _ _ iv _ => n - (intOf iv).toNat)
  case atStart => exact ⟨0, rfl, rfl, rfl, Nat.zero_le _, Lib.hid (Tch.refl _ _)⟩
  case round =>
    obtain ⟨i, rfl, rfl, rfl, hi, hT⟩ := hrel
    obtain ⟨q0, hq0⟩ : ∃ q, nearQ st (s, ah, al) i = q := ⟨_, rfl⟩
    rw [hq0]
    obtain ⟨q1, q2⟩ := q0
    have HQ0 := Lib.hid hq0
    have hD := HD0.out.tch hT.out (by simp)
    obtain ⟨AP, AL, cP, cL, lv, hS, h2, h3, h4, h5, h6, h7, h8⟩ := hD
    rw [HN.out] at h3 h4 h5
    have c0 := (h3.cell 0).trans (show _ = some (Value.slice AP n cP) by rfl)
    have j1 : IntKind.i64.wrap ((i : Int) + 1) = (i : Int) + 1 := by rw [IntKind.wrap_i64]; omega
    by_cases hlt : i < n
    · have i1 : (i : Int) < (n : Int) := by omega
      have i0 : (0 : Int) ≤ (i : Int) := by omega
      obtain ⟨l, hl⟩ : ∃ l, st.2[i]? = some l := ⟨_, List.getElem?_eq_getElem (by rw [HN2.out]; exact hlt)⟩
      obtain ⟨p, hp⟩ : ∃ p, st.1[i]? = some p := ⟨_, List.getElem?_eq_getElem (by rw [HN.out]; exact hlt)⟩
      have hl8 := HLoc.out l (List.mem_of_getElem? hl)
      have HUl := Lib.hid (HU.out l (List.mem_of_getElem? hl))
      obtain ⟨up, hup⟩ : ∃ up, p.2.2.2 = up := ⟨_, rfl⟩
      have HSt := Lib.hid (nearQ_step (a := (s, ah, al)) hp hl)
      rw [hup, hq0] at HSt
      have HP := Lib.hid hp
      have HUp := Lib.hid hup
      have HL := Lib.hid hl
      obtain ⟨m, hm⟩ : ∃ m, l.length = m := ⟨_, rfl⟩
      have HM := Lib.hid hm
      rw [hm] at hl8 HSt
      obtain ⟨wo, hwo⟩ : ∃ x, x = wr := ⟨_, rfl⟩
      subst hwo
      clear hS h2 h3 h4 h5 h6 h7 h8 hl hm hp hup hq0
      go_wp2
      go_loopw [6, 7, 9] (fun pv bv kv wr => ∃ k : Nat, pv = .int .i64 ((nearT (s, ah, al) up (i + 1) l (q1, q2) k).1 : Int) ∧ bv = .int .i64 (nearT (s, ah, al) up (i + 1) l (q1, q2) k).2 ∧ kv = .int .i64 (k : Int) ∧ k ≤ m ∧ Hid (Tch W0 wr [])) (fun _ _ kv _ => m - (intOf kv).toNat)
      case atStart => exact ⟨0, rfl, rfl, rfl, Nat.zero_le _, hT⟩
      case round =>
        obtain ⟨k, rfl, rfl, rfl, hk, hT2⟩ := hrel
        obtain ⟨r0, hr0⟩ : ∃ r, nearT (s, ah, al) up (i + 1) l (q1, q2) k = r := ⟨_, rfl⟩
        rw [hr0]
        obtain ⟨r1, r2⟩ := r0
        have HR0 := Lib.hid hr0
        obtain ⟨AP, AL, cP, cL, lv, hS, h2, h3, h4, h5, h6, h7, h8⟩ := HD0.out.tch hT2.out (by simp)
        rw [HN.out] at h3 h4 h5
        obtain ⟨A, c, hv, ho⟩ := h7 i l HL.out
        rw [HM.out] at hv ho
        obtain ⟨gL, rfl⟩ := slice_some h5 (by omega)
        obtain ⟨gP, rfl⟩ := slice_some h4 (by omega)
        have d0 := (h3.cell 0).trans (show _ = some (Value.slice (some ⟨gP, 0, none⟩) n cP) by rfl)
        have d1 := (h3.cell 1).trans (show _ = some (Value.slice (some ⟨gL, 0, none⟩) n cL) by rfl)
        have d2 := own_cell h5 hv
        have d3 := own_cellN h4 ((flat4_at (f := prC) (fun _ => rfl) HP.out (k := 3) (by decide)).trans (show _ = some (Value.bool p.2.2.2) by rfl))
        rw [HUp.out] at d3
        have k1 : IntKind.i64.wrap ((k : Int) + 1) = (k : Int) + 1 := by rw [IntKind.wrap_i64]; omega
        by_cases hkm : k < m
        · have kI : (k : Int) < (m : Int) := by omega
          have k0 : (0 : Int) ≤ (k : Int) := by omega
          obtain ⟨x, hx⟩ : ∃ x, l[k]? = some x := ⟨_, List.getElem?_eq_getElem (by rw [HM.out]; exact hkm)⟩
          have hux := HUl.out x (List.mem_of_getElem? hx)
          obtain ⟨gx, rfl⟩ := slice_some ho (by omega)
          obtain ⟨⟨xs, xh, xl⟩, xbt⟩ := x
          have x0 := own_cellN ho ((flat4_at (f := lcC) (fun _ => rfl) hx (k := 0) (by decide)).trans (show _ = some (Value.bool xs) by rfl))
          have x1 := own_cellN ho ((flat4_at (f := lcC) (fun _ => rfl) hx (k := 1) (by decide)).trans (show _ = some (Value.int .u64 (xh : Int)) by rfl))
          have x2 := own_cellN ho ((flat4_at (f := lcC) (fun _ => rfl) hx (k := 2) (by decide)).trans (show _ = some (Value.int .u64 (xl : Int)) by rfl))
          have x3 := own_cellN ho ((flat4_at (f := lcC) (fun _ => rfl) hx (k := 3) (by decide)).trans (show _ = some (Value.int .i64 xbt) by rfl))
          have x0 : wr.cell? ⟨gx, k * 4, none⟩ = some (Value.bool xs) := x0
          have HSp := Lib.hid (nearT_step (a := (s, ah, al)) (up := up) (port := i + 1) (b := (q1, q2)) hx)
          rw [hr0] at HSp
          simp only at HSp
          obtain ⟨W3, hW3⟩ : ∃ W, wr.alloc (.cells #[.bool xs, .int .u64 (xh : Int), .int .u64 (xl : Int), .int .i64 xbt] 42) = W := ⟨_, rfl⟩
          obtain ⟨yb, hyb⟩ : ∃ yb, wr.heap.size = yb := ⟨_, rfl⟩
          have HY : Hid (Blk W3 yb 42 #[.bool xs, .int .u64 (xh : Int), .int .u64 (xl : Int), .int .i64 xbt]) := Lib.hid (hW3 ▸ hyb ▸ Blk.new _ _ _)
          have HT3 : Hid (Tch W0 W3 []) := Lib.hid (hW3 ▸ hT2.out.alloc _)
          have HX3 : Hid (Blk W3 xb 34 #[.bool s, .int .u64 (ah : Int), .int .u64 (al : Int)]) := Lib.hid (HT3.out.blk HX.out (by simp))
          have HW3 := Lib.hid (And.intro hW3 hyb)
          have HCl := Lib.hid (HHld.out ((xs, xh, xl), xbt) hux W3)
          have HR1 := Lib.hid hr0
          have f0 : (wr.alloc (.cells #[.bool xs, .int .u64 (xh : Int), .int .u64 (xl : Int), .int .i64 xbt] 42)).cell? ⟨t, 0, none⟩ = some (Value.slice (some ⟨gP, 0, none⟩) n cP) := (World.cell?_alloc_some _ _ _ (by rw [d0]; rfl)).trans d0
          have f3 : (wr.alloc (.cells #[.bool xs, .int .u64 (xh : Int), .int .u64 (xl : Int), .int .i64 xbt] 42)).cell? ⟨gP, i * 4 + 3, none⟩ = some (Value.bool up) := (World.cell?_alloc_some _ _ _ (by rw [d3]; rfl)).trans d3
          have fy : (wr.alloc (.cells #[.bool xs, .int .u64 (xh : Int), .int .u64 (xl : Int), .int .i64 xbt] 42)).cell? ⟨wr.heap.size, 3, none⟩ = some (Value.int .i64 xbt) := ((Blk.new wr 42 _).cell 3).trans rfl
          have fz : (wr.alloc (.cells #[.bool xs, .int .u64 (xh : Int), .int .u64 (xl : Int), .int .i64 xbt] 42)).cell? ⟨wr.heap.size, 0, none⟩ = some (Value.bool xs) := ((Blk.new wr 42 _).cell 0).trans rfl
          have f1 : (wr.alloc (.cells #[.bool xs, .int .u64 (xh : Int), .int .u64 (xl : Int), .int .i64 xbt] 42)).cell? ⟨wr.heap.size, 1, none⟩ = some (Value.int .u64 (xh : Int)) := ((Blk.new wr 42 _).cell 1).trans rfl
          have f2 : (wr.alloc (.cells #[.bool xs, .int .u64 (xh : Int), .int .u64 (xl : Int), .int .i64 xbt] 42)).cell? ⟨wr.heap.size, 2, none⟩ = some (Value.int .u64 (xl : Int)) := ((Blk.new wr 42 _).cell 2).trans rfl
          have g0 := (World.cell?_alloc_some wr ⟨xb, 0, none⟩ (.cells #[.bool xs, .int .u64 (xh : Int), .int .u64 (xl : Int), .int .i64 xbt] 42) (by rw [(hT2.out.blk HX.out (by simp)).cell 0]; rfl)).trans (((hT2.out.blk HX.out (by simp)).cell 0).trans (show _ = some (Value.bool s) by rfl))
          have g1 := (World.cell?_alloc_some wr ⟨xb, 1, none⟩ (.cells #[.bool xs, .int .u64 (xh : Int), .int .u64 (xl : Int), .int .i64 xbt] 42) (by rw [(hT2.out.blk HX.out (by simp)).cell 1]; rfl)).trans (((hT2.out.blk HX.out (by simp)).cell 1).trans (show _ = some (Value.int .u64 (ah : Int)) by rfl))
          have g2 := (World.cell?_alloc_some wr ⟨xb, 2, none⟩ (.cells #[.bool xs, .int .u64 (xh : Int), .int .u64 (xl : Int), .int .i64 xbt] 42) (by rw [(hT2.out.blk HX.out (by simp)).cell 2]; rfl)).trans (((hT2.out.blk HX.out (by simp)).cell 2).trans (show _ = some (Value.int .u64 (al : Int)) by rfl))
          clear hx hux hS h2 h3 h4 h5 h6 h7 h8 hv ho hr0 hW3 hyb
          cases up with
          | false =>
            rw [if_neg (by simp)] at HSp
            go_wp2
            go_roundw
            case rel => exact ⟨k + 1, by rw [HSp.out], by rw [HSp.out], by go_num, hkm, Lib.hid (hT2.out.alloc _)⟩
            case measure => simp [intOf]; omega
          | true =>
            by_cases hb : r2 < xbt
            · obtain ⟨bh, hbh⟩ : ∃ b, hldI (s, ah, al) ((xs, xh, xl), xbt) = b := ⟨_, rfl⟩
              rw [hbh] at HCl HSp
              have HBh := Lib.hid hbh
              clear hbh
              go_wp2_with fail
              rw [HW3.out.1, HW3.out.2]
              refine Calls.mono HCl.out ?_
              rintro e w4 ⟨rfl, hT4⟩
              have HT4 := Lib.hid (HT3.out.trans hT4)
              have y3 := (hT4.blk HY.out (by simp)).cell 3 |>.trans (show _ = some (Value.int .i64 xbt) by rfl)
              clear hT4 HCl
              cases bh with
              | true =>
                rw [if_pos ⟨by first | rfl | trivial, hb, by first | rfl | trivial⟩] at HSp
                go_wp2
                go_roundw
                case rel => exact ⟨k + 1, by rw [HSp.out]; go_num, by rw [HSp.out], by go_num, hkm, HT4⟩
                case measure => simp [intOf]; omega
              | false =>
                rw [if_neg (by simp)] at HSp
                go_wp2
                go_roundw
                case rel => exact ⟨k + 1, by rw [HSp.out], by rw [HSp.out], by go_num, hkm, HT4⟩
                case measure => simp [intOf]; omega
            · rw [if_neg (fun z => hb z.2.1)] at HSp
              go_wp2
              go_roundw
              case rel => exact ⟨k + 1, by rw [HSp.out], by rw [HSp.out], by go_num, hkm, Lib.hid (hT2.out.alloc _)⟩
              case measure => simp [intOf]; omega
        · obtain rfl : k = m := by omega
          have kI : ¬ (k : Int) < (k : Int) := by omega
          have HE : Hid (nearQ st (s, ah, al) (i + 1) = (r1, r2)) := Lib.hid (by rw [HSt.out]; exact hr0)
          clear hkm hk hS h2 h3 h4 h5 h6 h7 h8 hv ho hr0
          go_wp2
          go_roundw
          case rel => exact ⟨i + 1, by rw [HE.out], by rw [HE.out], by go_num, hlt, hT2⟩
          case measure => simp [intOf]; omega
    · obtain rfl : i = n := by omega
      have i1 : ¬ (i : Int) < (i : Int) := by omega
      have hE : nearI st (s, ah, al) = q1 := by rw [HNr.out, hq0]
      have HE := Lib.hid hE
      clear hS h2 h3 h4 h5 h6 h7 h8 hlt hi hE hq0
      go_wp2
      exact bodyPost_ret (v := .tuple #[.int .i64 (q1 : Int), .bool (decide (0 < q1))]) (by simp [results, Try.results35, go_sem]) rfl ⟨by rw [HE.out], HT0.out.trans hT.out⟩
end Go.Proofs.Ytabbclocgkhnhaa
