/-
  crosswaylaw14.IfaceOne returns true for every input, and leaves its arguments alone.
  Conditions: none of our own.
-/
import Derived.Test.YtabbclocgkhnhaaMgG
namespace Go.Proofs.Ytabbclocgkhnhaa
open Go.ChangeShapes Go.WideShapes Go.ChangeAt Go.RowKit
set_option linter.unusedVariables false
namespace IOne
theorem StdI.drewN {w W : World} {p : Nat} {S : List Nat} {st : StI} (h : StdI w W p S st) (q : Nat) : StdI w (W.drewN q) p S st := ⟨h.P.tch ((Tch.refl W []).drewN q) (by simp), below_drewN h.bel q, h.abv⟩
theorem OwnI.drewN {W : World} {S : List Nat} {g : Nat} {t : TypeId} {cs : Array Value} (h : OwnI W S g t cs) (q : Nat) : OwnI (W.drewN q) S g t cs := ⟨h.blk.drewN q, h.non⟩
/-- A port's name is short. -/
theorem short_do {st : StI} (h : ∀ p ∈ st.1, p.1.size ≤ 8) (x : StpI) : ∀ p ∈ (doI st x).1.1, p.1.size ≤ 8 := by
  unfold doI
  split
  · unfold addI
    split
    · exact h
    · rename_i h1
      split
      · exact h
      · split
        · exact h
        · intro p hp
          rcases List.mem_append.1 hp with h2 | h2
          · exact h p h2
          · simp at h2
            subst h2
            have h3 : nameOk x.name = true := by
              cases h4 : nameOk x.name with
              | true => rfl
              | false => exact absurd (.inl h4) h1
            unfold nameOk at h3
            rw [Bool.and_eq_true, decide_eq_true_eq] at h3
            exact h3.1.2
  · split
    · unfold turnI
      split
      · exact h
      · intro p hp
        obtain ⟨j, hj⟩ := List.mem_iff_getElem?.1 hp
        obtain ⟨y, hy, e⟩ := modify_at hj
        have := h y (List.mem_of_getElem? hy)
        split at e <;> (subst e; exact this)
    · split
      · unfold dropI
        split
        · exact h
        · split <;> exact h
      · unfold putI
        split
        · exact h
        · split
          · exact h
          · split <;> exact h
theorem short_pl (z : List StpI) (n : Nat) : ∀ p ∈ (plI z n).1, p.1.size ≤ 8 := by
  induction n with
  | zero => rw [plI_zero]; simp
  | succ n ih =>
    cases hx : z[n]? with
    | none =>
      have : z.length ≤ n := List.getElem?_eq_none_iff.1 hx
      have e : plI z (n + 1) = plI z n := by unfold plI; rw [List.take_of_length_le this, List.take_of_length_le (by omega)]
      rw [e]; exact ih
    | some x => rw [plI_succ hx]; exact short_do ih x
/-- What the law asks of a port that is there. -/
theorem one_at {st : StI} (h : InvI st) {i : Nat} (hi : 1 ≤ i) (ht : thereI st (i : Int) = true) : ∃ pr l, portI st (i : Int) = pr ∧ localsI st (i : Int) = l ∧ namedI st.1 pr.1 = i ∧ l.length ≤ 8 ∧ (∀ x ∈ l, mineI st.2 x.1 = i ∧ (x.1.1 = true → 1280 ≤ pr.2.2.1) ∧ (N64 x.1.2.1 ∧ N64 x.1.2.2)) ∧ (l.map (·.1)).Nodup ∧ pr ∈ st.1 := by
  obtain ⟨pr, l, hp, hl, he, -, hlt, hpe⟩ := locI_at h ht
  have hix : idxI (i : Int) = i - 1 := by unfold idxI; omega
  rw [hix] at hp hl hlt
  refine ⟨pr, l, ?_, ?_, ?_, h.loc l (List.mem_of_getElem? hl), fun x hx => ⟨?_, fun hs => (h.ad (i - 1) pr l hp hl x hx).2.2 hs, h.u64 l (List.mem_of_getElem? hl) x hx⟩, nodup_in h.one hl, List.mem_of_getElem? hp⟩
  · unfold portI; rw [if_neg (by rw [ht]; simp), hix, hp]; rfl
  · unfold localsI; rw [if_neg (by rw [ht]; simp), he]
  · rw [namedI_at h.names hp]; omega
  · rw [mineI_at h.one hl hx]; omega
set_option maxRecDepth 100000 in
set_option maxHeartbeats 4000000 in
theorem walk (w : World) (a0 : Option Addr) (l0 c0 : Nat) (z0 : List Stp) (w0 : IsStp w a0 l0 z0) :
    Calls Try.prog 4 #[.slice a0 l0 c0] w fun e w' => e = .returned (.bool true) ∧ Below w.heap.size w w' := by
  have HZ := Lib.hid w0
  clear w0
  go_enter Try.func4, Try.ntmps4
  go_wp2_with fail
  refine Calls.mono (awake_yes w) ?_
  rintro e x1 ⟨rfl, hb1⟩
  have B1 := Lib.hid hb1
  have HM := Lib.hid (made_any w a0 l0 c0 z0 HZ.out x1 B1.out)
  clear hb1
  go_wp2_with fail
  refine Calls.mono HM.out ?_
  rintro e x2 ⟨p, S, rfl, hY⟩
  obtain ⟨st, hst⟩ : ∃ st, plI z0 (min l0 60) = st := ⟨_, rfl⟩
  rw [hst] at hY
  have HSh := Lib.hid (hst ▸ short_pl z0 (min l0 60) : ∀ p ∈ st.1, p.1.size ≤ 8)
  have Y2 := Lib.hid hY
  have HInv := Lib.hid hY.P.inv
  clear hst hY
  go_wp2
  go_loopw [5] (fun iv wr => ∃ (i : Nat), iv = .int .i64 (i : Int) ∧ 1 ≤ i ∧ i ≤ 9 ∧ Hid (StdI x1 wr p S st)) (fun iv _ => 10 - (intOf iv).toNat)
  case atStart => exact ⟨1, rfl, Nat.le_refl _, by omega, Y2⟩
  case round =>
    obtain ⟨i, rfl, hi1, hi9, hY⟩ := hrel
    have j1 : IntKind.i64.wrap ((i : Int) + 1) = (i : Int) + 1 := by rw [IntKind.wrap_i64]; omega
    by_cases hlt : i ≤ 8
    · have i1 : (i : Int) ≤ 8 := by omega
      have HI := Lib.hid (i64_small i (by omega))
      have HP1 := Lib.hid (portP p S st (i : Int) HI.out wr hY.out.P)
      obtain ⟨pp, hpp⟩ : ∃ pp, portI st (i : Int) = pp := ⟨_, rfl⟩
      obtain ⟨th, hth⟩ : ∃ th, thereI st (i : Int) = th := ⟨_, rfl⟩
      rw [hpp, hth] at HP1
      have HPp := Lib.hid hpp
      have HTh := Lib.hid hth
      obtain ⟨pn, pm, pu, pb⟩ := pp
      have HP1' : Hid (Calls Try.prog 16 #[.pointer (some ⟨p, 0, none⟩), .int .i64 (i : Int)] wr fun e w' => e = .returned (.tuple #[.agg #[.string pn, .int .u64 pm, .int .i64 pu, .bool pb], .bool th]) ∧ IfP w' p S st ∧ Tch wr w' S) := HP1
      clear HP1 hpp hth
      go_wp2_with fail
      refine Calls.mono HP1'.out ?_
      rintro e x3 ⟨rfl, hP, hT⟩
      have Y3 := Lib.hid (hY.out.read hP hT)
      obtain ⟨W3, hW3⟩ : ∃ W, x3.alloc (.cells #[.string pn, .int .u64 pm, .int .i64 pu, .bool pb] 46) = W := ⟨_, rfl⟩
      obtain ⟨g3, hg3⟩ : ∃ g, x3.heap.size = g := ⟨_, rfl⟩
      have Y4 : Hid (StdI x1 W3 p S st) := Lib.hid (hW3 ▸ Y3.out.alloc _)
      have V3 : Hid (OwnI W3 S g3 46 #[.string pn, .int .u64 pm, .int .i64 pu, .bool pb]) := Lib.hid (hW3 ▸ hg3 ▸ OwnI.new hP _ _)
      have Hw3 := Lib.hid (And.intro hW3 hg3)
      have HL3 := Lib.hid (localsP p S st (i : Int) HI.out W3 Y4.out.P)
      clear hP hT hW3 hg3
      go_wp2_with fail
      rw [Hw3.out.1, Hw3.out.2]
      refine Calls.mono HL3.out ?_
      rintro e x5 ⟨A, cc, rfl, ho, hP, hT⟩
      have Y5 := Lib.hid (Y4.out.read hP hT)
      have V5 := Lib.hid (V3.out.go (Goes.of_tch hT))
      obtain ⟨ll, hll⟩ : ∃ ll, localsI st (i : Int) = ll := ⟨_, rfl⟩
      rw [hll] at ho ⊢
      obtain ⟨m, hm⟩ : ∃ m, ll.length = m := ⟨_, rfl⟩
      rw [hm] at ho ⊢
      have HO := Lib.hid ho
      have HM2 := Lib.hid hm
      have HLl := Lib.hid hll
      have HNo : Hid (∀ s ∈ obI (.slice A m cc), s ∉ S) := Lib.hid (fun s hs h2 => by
        have h1 := own_ges ho s hs
        have := Y4.out.P.lt s h2
        omega)
      have n0 := (V5.out.blk.cell 0).trans (show _ = some (Value.string pn) by rfl)
      clear ho hP hT hll hm
      cases th with
      | false =>
        have hm0 : m = 0 := by
          rw [← HM2.out, ← HLl.out]
          unfold localsI
          rw [if_pos HTh.out]
          rfl
        subst hm0
        go_wp2
        go_loopw [9] (fun kv wk => kv = .int .i64 0 ∧ Hid (StdI x1 wk p S st)) (fun _ _ => 0)
        case atStart => exact ⟨rfl, Y5⟩
        case round =>
          obtain ⟨rfl, hYk⟩ := hrel
          go_wp2
          go_roundw
          case rel => exact ⟨i + 1, by go_num, by omega, by omega, hYk⟩
          case measure => simp [intOf]; omega
      | true =>
        obtain ⟨pr, l', hpr, hl', hnm, h8, hx8, hnd, hin⟩ := one_at HInv.out hi1 HTh.out
        rw [HPp.out] at hpr
        subst hpr
        have hin := HSh.out _ hin
        have hin : pn.size ≤ 8 := hin
        rw [HLl.out] at hl'
        subst hl'
        rw [HM2.out] at h8
        have HNm := Lib.hid (namedP p S st pn (by omega) x5 Y5.out.P)
        have hnm : namedI st.1 pn = i := hnm
        rw [hnm] at HNm
        have HX8 := Lib.hid hx8
        have HNd := Lib.hid hnd
        have bi : ((i : Int) != (i : Int)) = false := by simp
        have m8 : ¬ (8 : Int) < (m : Int) := by omega
        clear hnm hx8 hnd hin
        go_wp2_with fail
        refine Calls.mono HNm.out ?_
        rintro e x6 ⟨rfl, hP, hT⟩
        have Y6 := Lib.hid (Y5.out.read hP hT)
        have V6 := Lib.hid (V5.out.go (Goes.of_tch hT))
        have HO6 := Lib.hid (own_tch HO.out hT HNo.out)
        clear hP hT n0
        go_wp2
        go_loopw [9] (fun kv wk => ∃ (k : Nat), kv = .int .i64 (k : Int) ∧ k ≤ m ∧ Hid (StdI x1 wk p S st) ∧ Hid (OwnI wk S g3 46 #[.string pn, .int .u64 pm, .int .i64 pu, .bool pb]) ∧ Hid (wk.ownsRow W3.heap.size 42 4 (.slice A m cc) m (ll.flatMap lcC))) (fun kv _ => m - (intOf kv).toNat)
        case atStart => exact ⟨0, rfl, Nat.zero_le _, Y6, V6, HO6⟩
        case round =>
          obtain ⟨k, rfl, hk, hYk, hVk, hOk⟩ := hrel
          have k1 : IntKind.i64.wrap ((k : Int) + 1) = (k : Int) + 1 := by rw [IntKind.wrap_i64]; omega
          by_cases hkm : k < m
          · have kI : (k : Int) < (m : Int) := by omega
            have k0 : (0 : Int) ≤ (k : Int) := by omega
            obtain ⟨x, hx⟩ : ∃ x, ll[k]? = some x := ⟨_, List.getElem?_eq_getElem (by rw [HM2.out]; exact hkm)⟩
            obtain ⟨hmi, hsx, h64⟩ := HX8.out x (List.mem_of_getElem? hx)
            obtain ⟨gx, rfl⟩ := slice_some hOk.out (by omega)
            obtain ⟨⟨xs, xh, xl⟩, xbt⟩ := x
            have HMn := Lib.hid (mineP p S st (xs, xh, xl) h64 wr hYk.out.P)
            have hmi : mineI st.2 (xs, xh, xl) = i := hmi
            rw [hmi] at HMn
            have HSx : Hid (xs = true → 1280 ≤ pu) := Lib.hid hsx
            have Hx := Lib.hid hx
            have c0' : wr.cell? ⟨gx, k * 4, none⟩ = some (Value.bool xs) := own_cellN hOk.out ((flat4_at (f := lcC) (fun _ => rfl) hx (k := 0) (by decide)).trans rfl)
            have c1' : wr.cell? ⟨gx, k * 4 + 1, none⟩ = some (Value.int .u64 (xh : Int)) := own_cellN hOk.out ((flat4_at (f := lcC) (fun _ => rfl) hx (k := 1) (by decide)).trans rfl)
            have c2' : wr.cell? ⟨gx, k * 4 + 2, none⟩ = some (Value.int .u64 (xl : Int)) := own_cellN hOk.out ((flat4_at (f := lcC) (fun _ => rfl) hx (k := 2) (by decide)).trans rfl)
            clear hmi hsx h64 hx
            obtain ⟨wo, hwo⟩ : ∃ x, x = wr := ⟨_, rfl⟩
            subst hwo
            go_wp2_with fail
            refine Calls.mono HMn.out ?_
            rintro e x7 ⟨rfl, hP, hT⟩
            have Y7 := Lib.hid (hYk.out.read hP hT)
            have V7 := Lib.hid (hVk.out.go (Goes.of_tch hT))
            have HO7 := Lib.hid (own_tch hOk.out hT HNo.out)
            have d0 : x7.cell? ⟨gx, k * 4, none⟩ = some (Value.bool xs) := own_cellN HO7.out ((flat4_at (f := lcC) (fun _ => rfl) Hx.out (k := 0) (by decide)).trans rfl)
            have n2 := (V7.out.blk.cell 2).trans (show _ = some (Value.int .i64 pu) by rfl)
            clear hP hT c0' c1' c2'
            have hgo : xs = false ∨ (xs = true ∧ ¬ pu < 1280) := by cases xs with | false => exact .inl rfl | true => exact .inr ⟨rfl, by have := HSx.out rfl; omega⟩
            rcases hgo with rfl | ⟨rfl, hpu⟩
            · go_wp2
              go_loopw [10] (fun jv wk => ∃ (j q : Nat), jv = .int .i64 (j : Int) ∧ j ≤ k ∧ wk = x7.drewN q) (fun jv _ => k - (intOf jv).toNat)
              case atStart => exact ⟨0, 0, rfl, Nat.zero_le _, rfl⟩
              case round =>
                obtain ⟨j, q, rfl, hj, rfl⟩ := hrel
                have jj : IntKind.i64.wrap ((j : Int) + 1) = (j : Int) + 1 := by rw [IntKind.wrap_i64]; omega
                obtain ⟨wk, hwk⟩ : ∃ x, x7.drewN q = x := ⟨_, rfl⟩
                have HWk := Lib.hid hwk
                rw [hwk]
                by_cases hjk : j < k
                · have jI : (j : Int) < (k : Int) := by omega
                  have jm : (j : Int) < (m : Int) := by omega
                  have j0 : (0 : Int) ≤ (j : Int) := by omega
                  obtain ⟨y, hy⟩ : ∃ y, ll[j]? = some y := ⟨_, List.getElem?_eq_getElem (by rw [HM2.out]; omega)⟩
                  obtain ⟨⟨ys, yh, yl⟩, ybt⟩ := y
                  have hne : ¬ ((ys, yh, yl) : AdI) = (false, xh, xl) := fun e => by
                    have h1 : (ll.map (·.1))[j]? = some (ys, yh, yl) := by rw [List.getElem?_map, hy]; rfl
                    have h2 : (ll.map (·.1))[k]? = some (false, xh, xl) := by rw [List.getElem?_map, Hx.out]; rfl
                    have := (List.getElem?_inj (h₀ := (List.getElem?_eq_some_iff.1 h1).1) HNd.out).1 (h1.trans ((congrArg some e).trans h2.symm))
                    omega
                  have EQ : ∀ W, (binOp .eql 34 (.agg #[.bool ys, .int .u64 (yh : Int), .int .u64 (yl : Int)]) (.agg #[.bool false, .int .u64 (xh : Int), .int .u64 (xl : Int)])).run Try.prog W = .ok (.bool false) W := eq_eql _ _ _ (eq_adI (ys, yh, yl) (false, xh, xl) (decide_eq_false hne))
                  have c0 : wk.cell? ⟨gx, j * 4, none⟩ = some (Value.bool ys) := by rw [← hwk]; exact own_cellN HO7.out ((flat4_at (f := lcC) (fun _ => rfl) hy (k := 0) (by decide)).trans rfl)
                  have c1 : wk.cell? ⟨gx, j * 4 + 1, none⟩ = some (Value.int .u64 (yh : Int)) := by rw [← hwk]; exact own_cellN HO7.out ((flat4_at (f := lcC) (fun _ => rfl) hy (k := 1) (by decide)).trans rfl)
                  have c2 : wk.cell? ⟨gx, j * 4 + 2, none⟩ = some (Value.int .u64 (yl : Int)) := by rw [← hwk]; exact own_cellN HO7.out ((flat4_at (f := lcC) (fun _ => rfl) hy (k := 2) (by decide)).trans rfl)
                  have e0 : wk.cell? ⟨gx, k * 4, none⟩ = some (Value.bool false) := by rw [← hwk]; exact own_cellN HO7.out ((flat4_at (f := lcC) (fun _ => rfl) Hx.out (k := 0) (by decide)).trans rfl)
                  have e1 : wk.cell? ⟨gx, k * 4 + 1, none⟩ = some (Value.int .u64 (xh : Int)) := by rw [← hwk]; exact own_cellN HO7.out ((flat4_at (f := lcC) (fun _ => rfl) Hx.out (k := 1) (by decide)).trans rfl)
                  have e2 : wk.cell? ⟨gx, k * 4 + 2, none⟩ = some (Value.int .u64 (xl : Int)) := by rw [← hwk]; exact own_cellN HO7.out ((flat4_at (f := lcC) (fun _ => rfl) Hx.out (k := 2) (by decide)).trans rfl)
                  have HC := Lib.hid (And.intro c0 (And.intro c1 (And.intro c2 (And.intro e0 (And.intro e1 e2)))))
                  clear hy hne hwk c0 c1 c2 e0 e1 e2
                  go_wp2
                  refine wp_region_held_drew (S := (fun W => W.cell? ⟨gx, j * 4, none⟩ = some (Value.bool ys) ∧ W.cell? ⟨gx, j * 4 + 1, none⟩ = some (Value.int .u64 (yh : Int)) ∧ W.cell? ⟨gx, j * 4 + 2, none⟩ = some (Value.int .u64 (yl : Int)) ∧ W.cell? ⟨gx, k * 4, none⟩ = some (Value.bool false) ∧ W.cell? ⟨gx, k * 4 + 1, none⟩ = some (Value.int .u64 (xh : Int)) ∧ W.cell? ⟨gx, k * 4 + 2, none⟩ = some (Value.int .u64 (xl : Int)))) (by kernel_rfl) ?_ (fun hHeld => ?_)
                  · (exact HC.out)
                  refine wpAnyH_take (i := 0) (oi := { dst := some 93, op := Go.Op.move (Go.Operand.tmp 8), type := 39, pos := "law.go:145", after := #[], guard := none }) (v := ?_) rfl (by kernel_rfl) (by kernel_rfl) (by kernel_rfl) (fun _ _ _ h => h) (Or.inl ⟨by rfl, ?_⟩) (by assumption) ?_
                  rotate_left
                  · intro w hSw
                    (try dsimp only at hSw)
                    go_simp
                    try (with_reducible rfl)
                  try simp only [Act.put, List.setIfInBounds_toArray, List.set_cons_zero, List.set_cons_succ]
                  refine wpAnyH_take (i := 1) (oi := { dst := some 94, op := Go.Op.move (Go.Operand.tmp 10), type := 3, pos := "law.go:145", after := #[], guard := none }) (v := ?_) rfl (by kernel_rfl) (by kernel_rfl) (by kernel_rfl) (fun _ _ _ h => h) (Or.inl ⟨by rfl, ?_⟩) (by assumption) ?_
                  rotate_left
                  · intro w hSw
                    (try dsimp only at hSw)
                    go_simp
                    try (with_reducible rfl)
                  try simp only [Act.put, List.setIfInBounds_toArray, List.set_cons_zero, List.set_cons_succ]
                  refine wpAnyH_take (i := 2) (oi := { dst := some 95, op := Go.Op.indexAddr 39 (Go.Operand.tmp 93) (Go.Operand.tmp 94), type := 0, pos := "law.go:145", after := #[{ on := 0, ground := Go.Ground.data }, { on := 1, ground := Go.Ground.data }], guard := none }) (v := ?_) rfl (by kernel_rfl) (by kernel_rfl) (by kernel_rfl) (fun _ _ _ h => h) (Or.inl ⟨by rfl, ?_⟩) (by assumption) ?_
                  rotate_left
                  · intro w hSw
                    (try dsimp only at hSw)
                    go_simp
                    try (with_reducible rfl)
                  try simp only [Act.put, List.setIfInBounds_toArray, List.set_cons_zero, List.set_cons_succ]
                  refine wpAnyH_take (i := 3) (oi := { dst := some 96, op := Go.Op.fieldAddr 42 (Go.Operand.tmp 95) 0, type := 0, pos := "law.go:145", after := #[{ on := 2, ground := Go.Ground.data }], guard := none }) (v := ?_) rfl (by kernel_rfl) (by kernel_rfl) (by kernel_rfl) (fun _ _ _ h => h) (Or.inl ⟨by rfl, ?_⟩) (by assumption) ?_
                  rotate_left
                  · intro w hSw
                    (try dsimp only at hSw)
                    go_simp
                    try (with_reducible rfl)
                  try simp only [Act.put, List.setIfInBounds_toArray, List.set_cons_zero, List.set_cons_succ]
                  refine wpAnyH_take (i := 4) (oi := { dst := some 97, op := Go.Op.load 34 (Go.Operand.tmp 96), type := 34, pos := "law.go:145", after := #[{ on := 3, ground := Go.Ground.data }], guard := none }) (v := ?_) rfl (by kernel_rfl) (by kernel_rfl) (by kernel_rfl) (fun _ _ _ h => h) (Or.inl ⟨by rfl, ?_⟩) (by assumption) ?_
                  rotate_left
                  · intro w hSw
                    (try dsimp only at hSw)
                    go_simp
                    try (with_reducible rfl)
                  try simp only [Act.put, List.setIfInBounds_toArray, List.set_cons_zero, List.set_cons_succ]
                  refine wpAnyH_take (i := 5) (oi := { dst := some 98, op := Go.Op.move (Go.Operand.tmp 8), type := 39, pos := "law.go:145", after := #[], guard := none }) (v := ?_) rfl (by kernel_rfl) (by kernel_rfl) (by kernel_rfl) (fun _ _ _ h => h) (Or.inl ⟨by rfl, ?_⟩) (by assumption) ?_
                  rotate_left
                  · intro w hSw
                    (try dsimp only at hSw)
                    go_simp
                    try (with_reducible rfl)
                  try simp only [Act.put, List.setIfInBounds_toArray, List.set_cons_zero, List.set_cons_succ]
                  refine wpAnyH_take (i := 6) (oi := { dst := some 99, op := Go.Op.move (Go.Operand.tmp 9), type := 3, pos := "law.go:145", after := #[], guard := none }) (v := ?_) rfl (by kernel_rfl) (by kernel_rfl) (by kernel_rfl) (fun _ _ _ h => h) (Or.inl ⟨by rfl, ?_⟩) (by assumption) ?_
                  rotate_left
                  · intro w hSw
                    (try dsimp only at hSw)
                    go_simp
                    try (with_reducible rfl)
                  try simp only [Act.put, List.setIfInBounds_toArray, List.set_cons_zero, List.set_cons_succ]
                  refine wpAnyH_take (i := 7) (oi := { dst := some 100, op := Go.Op.indexAddr 39 (Go.Operand.tmp 98) (Go.Operand.tmp 99), type := 0, pos := "law.go:145", after := #[{ on := 5, ground := Go.Ground.data }, { on := 6, ground := Go.Ground.data }], guard := none }) (v := ?_) rfl (by kernel_rfl) (by kernel_rfl) (by kernel_rfl) (fun _ _ _ h => h) (Or.inl ⟨by rfl, ?_⟩) (by assumption) ?_
                  rotate_left
                  · intro w hSw
                    (try dsimp only at hSw)
                    go_simp
                    try (with_reducible rfl)
                  try simp only [Act.put, List.setIfInBounds_toArray, List.set_cons_zero, List.set_cons_succ]
                  refine wpAnyH_take (i := 8) (oi := { dst := some 101, op := Go.Op.fieldAddr 42 (Go.Operand.tmp 100) 0, type := 0, pos := "law.go:145", after := #[{ on := 7, ground := Go.Ground.data }], guard := none }) (v := ?_) rfl (by kernel_rfl) (by kernel_rfl) (by kernel_rfl) (fun _ _ _ h => h) (Or.inl ⟨by rfl, ?_⟩) (by assumption) ?_
                  rotate_left
                  · intro w hSw
                    (try dsimp only at hSw)
                    go_simp
                    try (with_reducible rfl)
                  try simp only [Act.put, List.setIfInBounds_toArray, List.set_cons_zero, List.set_cons_succ]
                  refine wpAnyH_take (i := 9) (oi := { dst := some 102, op := Go.Op.load 34 (Go.Operand.tmp 101), type := 34, pos := "law.go:145", after := #[{ on := 8, ground := Go.Ground.data }], guard := none }) (v := ?_) rfl (by kernel_rfl) (by kernel_rfl) (by kernel_rfl) (fun _ _ _ h => h) (Or.inl ⟨by rfl, ?_⟩) (by assumption) ?_
                  rotate_left
                  · intro w hSw
                    (try dsimp only at hSw)
                    go_simp
                    try (with_reducible rfl)
                  try simp only [Act.put, List.setIfInBounds_toArray, List.set_cons_zero, List.set_cons_succ]
                  refine wpAnyH_take (i := 10) (oi := { dst := some 103, op := Go.Op.binOp Go.BinOp.eql 34 (Go.Operand.tmp 97) (Go.Operand.tmp 102) 34, type := 4, pos := "law.go:145", after := #[{ on := 4, ground := Go.Ground.data }, { on := 9, ground := Go.Ground.data }], guard := none }) (v := ?_) rfl (by kernel_rfl) (by kernel_rfl) (by kernel_rfl) (fun _ _ _ h => h) (Or.inl ⟨by rfl, ?_⟩) (by assumption) ?_
                  rotate_left
                  · intro w hSw
                    (try dsimp only at hSw)
                    go_simp
                    try (with_reducible rfl)
                  try simp only [Act.put, List.setIfInBounds_toArray, List.set_cons_zero, List.set_cons_succ]
                  refine wpAnyH_done (by kernel_rfl) ?_ _
                  go_wp2
                  go_roundw
                  case rel => exact ⟨j + 1, q + 1, by go_num, hjk, by rw [← HWk.out]; rfl⟩
                  case measure => simp [intOf]; omega
                · obtain rfl : j = k := by omega
                  have jI : ¬ (j : Int) < (j : Int) := by omega
                  have Yk : Hid (StdI x1 wk p S st) := Lib.hid (hwk ▸ StdI.drewN Y7.out q)
                  have Vk : Hid (OwnI wk S g3 46 #[.string pn, .int .u64 pm, .int .i64 pu, .bool pb]) := Lib.hid (hwk ▸ OwnI.drewN V7.out q)
                  have Ok : Hid (wk.ownsRow W3.heap.size 42 4 (.slice (some ⟨gx, 0, none⟩) m cc) m (ll.flatMap lcC)) := Lib.hid (hwk ▸ own_tch HO7.out ((Tch.refl x7 []).drewN q) (by simp))
                  clear hjk hj hwk
                  go_wp2
                  go_roundw
                  case rel => exact ⟨j + 1, by go_num, hkm, Yk, Vk, Ok⟩
                  case measure => simp [intOf]; omega
            · go_wp2
              go_loopw [10] (fun jv wk => ∃ (j q : Nat), jv = .int .i64 (j : Int) ∧ j ≤ k ∧ wk = x7.drewN q) (fun jv _ => k - (intOf jv).toNat)
              case atStart => exact ⟨0, 0, rfl, Nat.zero_le _, rfl⟩
              case round =>
                obtain ⟨j, q, rfl, hj, rfl⟩ := hrel
                have jj : IntKind.i64.wrap ((j : Int) + 1) = (j : Int) + 1 := by rw [IntKind.wrap_i64]; omega
                obtain ⟨wk, hwk⟩ : ∃ x, x7.drewN q = x := ⟨_, rfl⟩
                have HWk := Lib.hid hwk
                rw [hwk]
                by_cases hjk : j < k
                · have jI : (j : Int) < (k : Int) := by omega
                  have jm : (j : Int) < (m : Int) := by omega
                  have j0 : (0 : Int) ≤ (j : Int) := by omega
                  obtain ⟨y, hy⟩ : ∃ y, ll[j]? = some y := ⟨_, List.getElem?_eq_getElem (by rw [HM2.out]; omega)⟩
                  obtain ⟨⟨ys, yh, yl⟩, ybt⟩ := y
                  have hne : ¬ ((ys, yh, yl) : AdI) = (true, xh, xl) := fun e => by
                    have h1 : (ll.map (·.1))[j]? = some (ys, yh, yl) := by rw [List.getElem?_map, hy]; rfl
                    have h2 : (ll.map (·.1))[k]? = some (true, xh, xl) := by rw [List.getElem?_map, Hx.out]; rfl
                    have := (List.getElem?_inj (h₀ := (List.getElem?_eq_some_iff.1 h1).1) HNd.out).1 (h1.trans ((congrArg some e).trans h2.symm))
                    omega
                  have EQ : ∀ W, (binOp .eql 34 (.agg #[.bool ys, .int .u64 (yh : Int), .int .u64 (yl : Int)]) (.agg #[.bool true, .int .u64 (xh : Int), .int .u64 (xl : Int)])).run Try.prog W = .ok (.bool false) W := eq_eql _ _ _ (eq_adI (ys, yh, yl) (true, xh, xl) (decide_eq_false hne))
                  have c0 : wk.cell? ⟨gx, j * 4, none⟩ = some (Value.bool ys) := by rw [← hwk]; exact own_cellN HO7.out ((flat4_at (f := lcC) (fun _ => rfl) hy (k := 0) (by decide)).trans rfl)
                  have c1 : wk.cell? ⟨gx, j * 4 + 1, none⟩ = some (Value.int .u64 (yh : Int)) := by rw [← hwk]; exact own_cellN HO7.out ((flat4_at (f := lcC) (fun _ => rfl) hy (k := 1) (by decide)).trans rfl)
                  have c2 : wk.cell? ⟨gx, j * 4 + 2, none⟩ = some (Value.int .u64 (yl : Int)) := by rw [← hwk]; exact own_cellN HO7.out ((flat4_at (f := lcC) (fun _ => rfl) hy (k := 2) (by decide)).trans rfl)
                  have e0 : wk.cell? ⟨gx, k * 4, none⟩ = some (Value.bool true) := by rw [← hwk]; exact own_cellN HO7.out ((flat4_at (f := lcC) (fun _ => rfl) Hx.out (k := 0) (by decide)).trans rfl)
                  have e1 : wk.cell? ⟨gx, k * 4 + 1, none⟩ = some (Value.int .u64 (xh : Int)) := by rw [← hwk]; exact own_cellN HO7.out ((flat4_at (f := lcC) (fun _ => rfl) Hx.out (k := 1) (by decide)).trans rfl)
                  have e2 : wk.cell? ⟨gx, k * 4 + 2, none⟩ = some (Value.int .u64 (xl : Int)) := by rw [← hwk]; exact own_cellN HO7.out ((flat4_at (f := lcC) (fun _ => rfl) Hx.out (k := 2) (by decide)).trans rfl)
                  have HC := Lib.hid (And.intro c0 (And.intro c1 (And.intro c2 (And.intro e0 (And.intro e1 e2)))))
                  clear hy hne hwk c0 c1 c2 e0 e1 e2
                  go_wp2
                  refine wp_region_held_drew (S := (fun W => W.cell? ⟨gx, j * 4, none⟩ = some (Value.bool ys) ∧ W.cell? ⟨gx, j * 4 + 1, none⟩ = some (Value.int .u64 (yh : Int)) ∧ W.cell? ⟨gx, j * 4 + 2, none⟩ = some (Value.int .u64 (yl : Int)) ∧ W.cell? ⟨gx, k * 4, none⟩ = some (Value.bool true) ∧ W.cell? ⟨gx, k * 4 + 1, none⟩ = some (Value.int .u64 (xh : Int)) ∧ W.cell? ⟨gx, k * 4 + 2, none⟩ = some (Value.int .u64 (xl : Int)))) (by kernel_rfl) ?_ (fun hHeld => ?_)
                  · (exact HC.out)
                  refine wpAnyH_take (i := 0) (oi := { dst := some 93, op := Go.Op.move (Go.Operand.tmp 8), type := 39, pos := "law.go:145", after := #[], guard := none }) (v := ?_) rfl (by kernel_rfl) (by kernel_rfl) (by kernel_rfl) (fun _ _ _ h => h) (Or.inl ⟨by rfl, ?_⟩) (by assumption) ?_
                  rotate_left
                  · intro w hSw
                    (try dsimp only at hSw)
                    go_simp
                    try (with_reducible rfl)
                  try simp only [Act.put, List.setIfInBounds_toArray, List.set_cons_zero, List.set_cons_succ]
                  refine wpAnyH_take (i := 1) (oi := { dst := some 94, op := Go.Op.move (Go.Operand.tmp 10), type := 3, pos := "law.go:145", after := #[], guard := none }) (v := ?_) rfl (by kernel_rfl) (by kernel_rfl) (by kernel_rfl) (fun _ _ _ h => h) (Or.inl ⟨by rfl, ?_⟩) (by assumption) ?_
                  rotate_left
                  · intro w hSw
                    (try dsimp only at hSw)
                    go_simp
                    try (with_reducible rfl)
                  try simp only [Act.put, List.setIfInBounds_toArray, List.set_cons_zero, List.set_cons_succ]
                  refine wpAnyH_take (i := 2) (oi := { dst := some 95, op := Go.Op.indexAddr 39 (Go.Operand.tmp 93) (Go.Operand.tmp 94), type := 0, pos := "law.go:145", after := #[{ on := 0, ground := Go.Ground.data }, { on := 1, ground := Go.Ground.data }], guard := none }) (v := ?_) rfl (by kernel_rfl) (by kernel_rfl) (by kernel_rfl) (fun _ _ _ h => h) (Or.inl ⟨by rfl, ?_⟩) (by assumption) ?_
                  rotate_left
                  · intro w hSw
                    (try dsimp only at hSw)
                    go_simp
                    try (with_reducible rfl)
                  try simp only [Act.put, List.setIfInBounds_toArray, List.set_cons_zero, List.set_cons_succ]
                  refine wpAnyH_take (i := 3) (oi := { dst := some 96, op := Go.Op.fieldAddr 42 (Go.Operand.tmp 95) 0, type := 0, pos := "law.go:145", after := #[{ on := 2, ground := Go.Ground.data }], guard := none }) (v := ?_) rfl (by kernel_rfl) (by kernel_rfl) (by kernel_rfl) (fun _ _ _ h => h) (Or.inl ⟨by rfl, ?_⟩) (by assumption) ?_
                  rotate_left
                  · intro w hSw
                    (try dsimp only at hSw)
                    go_simp
                    try (with_reducible rfl)
                  try simp only [Act.put, List.setIfInBounds_toArray, List.set_cons_zero, List.set_cons_succ]
                  refine wpAnyH_take (i := 4) (oi := { dst := some 97, op := Go.Op.load 34 (Go.Operand.tmp 96), type := 34, pos := "law.go:145", after := #[{ on := 3, ground := Go.Ground.data }], guard := none }) (v := ?_) rfl (by kernel_rfl) (by kernel_rfl) (by kernel_rfl) (fun _ _ _ h => h) (Or.inl ⟨by rfl, ?_⟩) (by assumption) ?_
                  rotate_left
                  · intro w hSw
                    (try dsimp only at hSw)
                    go_simp
                    try (with_reducible rfl)
                  try simp only [Act.put, List.setIfInBounds_toArray, List.set_cons_zero, List.set_cons_succ]
                  refine wpAnyH_take (i := 5) (oi := { dst := some 98, op := Go.Op.move (Go.Operand.tmp 8), type := 39, pos := "law.go:145", after := #[], guard := none }) (v := ?_) rfl (by kernel_rfl) (by kernel_rfl) (by kernel_rfl) (fun _ _ _ h => h) (Or.inl ⟨by rfl, ?_⟩) (by assumption) ?_
                  rotate_left
                  · intro w hSw
                    (try dsimp only at hSw)
                    go_simp
                    try (with_reducible rfl)
                  try simp only [Act.put, List.setIfInBounds_toArray, List.set_cons_zero, List.set_cons_succ]
                  refine wpAnyH_take (i := 6) (oi := { dst := some 99, op := Go.Op.move (Go.Operand.tmp 9), type := 3, pos := "law.go:145", after := #[], guard := none }) (v := ?_) rfl (by kernel_rfl) (by kernel_rfl) (by kernel_rfl) (fun _ _ _ h => h) (Or.inl ⟨by rfl, ?_⟩) (by assumption) ?_
                  rotate_left
                  · intro w hSw
                    (try dsimp only at hSw)
                    go_simp
                    try (with_reducible rfl)
                  try simp only [Act.put, List.setIfInBounds_toArray, List.set_cons_zero, List.set_cons_succ]
                  refine wpAnyH_take (i := 7) (oi := { dst := some 100, op := Go.Op.indexAddr 39 (Go.Operand.tmp 98) (Go.Operand.tmp 99), type := 0, pos := "law.go:145", after := #[{ on := 5, ground := Go.Ground.data }, { on := 6, ground := Go.Ground.data }], guard := none }) (v := ?_) rfl (by kernel_rfl) (by kernel_rfl) (by kernel_rfl) (fun _ _ _ h => h) (Or.inl ⟨by rfl, ?_⟩) (by assumption) ?_
                  rotate_left
                  · intro w hSw
                    (try dsimp only at hSw)
                    go_simp
                    try (with_reducible rfl)
                  try simp only [Act.put, List.setIfInBounds_toArray, List.set_cons_zero, List.set_cons_succ]
                  refine wpAnyH_take (i := 8) (oi := { dst := some 101, op := Go.Op.fieldAddr 42 (Go.Operand.tmp 100) 0, type := 0, pos := "law.go:145", after := #[{ on := 7, ground := Go.Ground.data }], guard := none }) (v := ?_) rfl (by kernel_rfl) (by kernel_rfl) (by kernel_rfl) (fun _ _ _ h => h) (Or.inl ⟨by rfl, ?_⟩) (by assumption) ?_
                  rotate_left
                  · intro w hSw
                    (try dsimp only at hSw)
                    go_simp
                    try (with_reducible rfl)
                  try simp only [Act.put, List.setIfInBounds_toArray, List.set_cons_zero, List.set_cons_succ]
                  refine wpAnyH_take (i := 9) (oi := { dst := some 102, op := Go.Op.load 34 (Go.Operand.tmp 101), type := 34, pos := "law.go:145", after := #[{ on := 8, ground := Go.Ground.data }], guard := none }) (v := ?_) rfl (by kernel_rfl) (by kernel_rfl) (by kernel_rfl) (fun _ _ _ h => h) (Or.inl ⟨by rfl, ?_⟩) (by assumption) ?_
                  rotate_left
                  · intro w hSw
                    (try dsimp only at hSw)
                    go_simp
                    try (with_reducible rfl)
                  try simp only [Act.put, List.setIfInBounds_toArray, List.set_cons_zero, List.set_cons_succ]
                  refine wpAnyH_take (i := 10) (oi := { dst := some 103, op := Go.Op.binOp Go.BinOp.eql 34 (Go.Operand.tmp 97) (Go.Operand.tmp 102) 34, type := 4, pos := "law.go:145", after := #[{ on := 4, ground := Go.Ground.data }, { on := 9, ground := Go.Ground.data }], guard := none }) (v := ?_) rfl (by kernel_rfl) (by kernel_rfl) (by kernel_rfl) (fun _ _ _ h => h) (Or.inl ⟨by rfl, ?_⟩) (by assumption) ?_
                  rotate_left
                  · intro w hSw
                    (try dsimp only at hSw)
                    go_simp
                    try (with_reducible rfl)
                  try simp only [Act.put, List.setIfInBounds_toArray, List.set_cons_zero, List.set_cons_succ]
                  refine wpAnyH_done (by kernel_rfl) ?_ _
                  go_wp2
                  go_roundw
                  case rel => exact ⟨j + 1, q + 1, by go_num, hjk, by rw [← HWk.out]; rfl⟩
                  case measure => simp [intOf]; omega
                · obtain rfl : j = k := by omega
                  have jI : ¬ (j : Int) < (j : Int) := by omega
                  have Yk : Hid (StdI x1 wk p S st) := Lib.hid (hwk ▸ StdI.drewN Y7.out q)
                  have Vk : Hid (OwnI wk S g3 46 #[.string pn, .int .u64 pm, .int .i64 pu, .bool pb]) := Lib.hid (hwk ▸ OwnI.drewN V7.out q)
                  have Ok : Hid (wk.ownsRow W3.heap.size 42 4 (.slice (some ⟨gx, 0, none⟩) m cc) m (ll.flatMap lcC)) := Lib.hid (hwk ▸ own_tch HO7.out ((Tch.refl x7 []).drewN q) (by simp))
                  clear hjk hj hwk
                  go_wp2
                  go_roundw
                  case rel => exact ⟨j + 1, by go_num, hkm, Yk, Vk, Ok⟩
                  case measure => simp [intOf]; omega
          · obtain rfl : k = m := by omega
            have kI : ¬ (k : Int) < (k : Int) := by omega
            clear hkm hk
            go_wp2
            go_roundw
            case rel => exact ⟨i + 1, by go_num, by omega, by omega, hYk⟩
            case measure => simp [intOf]; omega
    · obtain rfl : i = 9 := by omega
      have i1 : ¬ ((9 : Nat) : Int) ≤ 8 := by omega
      have h9 : thereI st 9 = false := by unfold thereI; rw [decide_eq_false_iff_not]; have := HInv.out.few; omega
      have h0 : thereI st 0 = false := by unfold thereI; rw [decide_eq_false_iff_not]; omega
      have HP9 := Lib.hid (portP p S st 9 (by decide) wr hY.out.P)
      rw [h9, show portI st 9 = (⟨#[]⟩, 0, 0, false) by unfold portI; rw [if_pos h9]] at HP9
      have HP9' : Hid (Calls Try.prog 16 #[.pointer (some ⟨p, 0, none⟩), .int .i64 9] wr fun e w' => e = .returned (.tuple #[.agg #[.string ⟨#[]⟩, .int .u64 0, .int .i64 0, .bool false], .bool false]) ∧ IfP w' p S st ∧ Tch wr w' S) := HP9
      have HP0 := Lib.hid (fun W h => portP p S st 0 (by decide) W h)
      rw [h0, show portI st 0 = (⟨#[]⟩, 0, 0, false) by unfold portI; rw [if_pos h0]] at HP0
      have HP0' : Hid (∀ W, IfP W p S st → Calls Try.prog 16 #[.pointer (some ⟨p, 0, none⟩), .int .i64 0] W fun e w' => e = .returned (.tuple #[.agg #[.string ⟨#[]⟩, .int .u64 0, .int .i64 0, .bool false], .bool false]) ∧ IfP w' p S st ∧ Tch W w' S) := HP0
      clear HP9 HP0 h9 h0 hlt hi1 hi9
      go_wp2_with fail
      refine Calls.mono HP9'.out ?_
      rintro e x3 ⟨rfl, hP, hT⟩
      have Y3 := Lib.hid (hY.out.read hP hT)
      have Y4 := Lib.hid (Y3.out.alloc (.cells #[.string ⟨#[]⟩, .int .u64 0, .int .i64 0, .bool false] 46))
      clear hP hT
      go_wp2_with fail
      refine Calls.mono (HP0'.out _ Y4.out.P) ?_
      rintro e x4 ⟨rfl, hP, hT⟩
      have Y5 := Lib.hid (Y4.out.read hP hT)
      have Y6 := Lib.hid (Y5.out.alloc (.cells #[.string ⟨#[]⟩, .int .u64 0, .int .i64 0, .bool false] 46))
      clear hP hT
      go_wp2
      go_ret
      exact ⟨rfl, B1.out.trans (Y6.out.bel.mono B1.out.size)⟩
set_option maxRecDepth 100000 in
theorem contract (H : Type) (enc : TypeId × Value → H) (W : World) (base : Nat) (args : Array Value) (ds gs : List (DataW H)) (before : List MemPlace)
    (hval0 : ∀ (j : Nat) t v, Try.f4.params[j]? = some t → args[j]? = some v → Value.okWide Try.prog W .any base t v)
    (hW : DataW.Whole enc Try.prog Try.f4.params.toList Rows.ifaceOneSpec.vars false W args.toList ds gs before)
    (hsz0 : (DataW.weightsEach Try.prog (Try.f4.params.toList ++ Rows.ifaceOneSpec.plain.varTypes Try.prog) (ds ++ gs)).all (· ≤ reachBytes) = true) :
    Calls Try.prog 4 args W fun e W' => ∃ v, e = .returned v ∧ Rows.ifaceOneSpec.post enc Try.prog Try.f4 false true false false W args v W' := by
  have hsz := hsz0
  clear hsz0
  have hval := hval0
  clear hval0
  have hW' := hW
  obtain ⟨p, q, hA0, hV, rfl, hfz, hnd⟩ := hW
  have hA : DataW.TrodAll enc Try.prog W 0 (fun _ => true) true Try.f4.params.toList args.toList ds p := hA0
  rw [Try.params4] at hA hval hsz
  obtain ⟨v0, vs0, d0, ds0, p0, q0, hargs, rfl, rfl, h0, r0⟩ := trodAll_cons hA
  obtain ⟨rfl, rfl, rfl⟩ := trodAll_nil r0
  obtain rfl : args = #[v0] := by cases args; simp_all
  obtain ⟨rfl, rfl⟩ := trodVars_none hV
  obtain ⟨a0, l0, c0, rfl⟩ := okWide_slice Try.underlying22 (hval 0 22 v0 rfl rfl)
  have k0 := h0
  have lt0 : ∀ x ∈ p0, x.block < W.heap.size := by obtain ⟨m, hm⟩ := k0; exact DataW.trod_lt m _ _ _ hm
  obtain ⟨z0, w0⟩ := isStp_of h0
  clear hA0
  refine (walk W a0 l0 c0 z0 w0).mono fun e W' ⟨he, bel⟩ => ?_
  subst he
  exact ⟨_, rfl, _, _, _, [], _, [], hW', trodAll_mk1 (shut_bool Try.underlying4 _), (trodAll_cons_mk (Below.trod laidOut (by kernel_rfl) (of_decide_eq_true (by kernel_rfl)) k0 bel lt0) trodAll_mk0), rfl, bel.frame _, fun h => by cases h⟩

set_option maxRecDepth 100000 in
theorem lifted (os : Os) (started : os.Started) (H : Type) (enc : TypeId × Value → H) :
    ReturnsInHanded {} Try.checked os 4 .any (Rows.ifaceOneSpec.pre6 enc Try.prog Try.f4 Rows.ifaceOneRow.domain false) (Rows.ifaceOneSpec.post enc Try.prog Try.f4 false true false false) := by
  refine returnsInHanded_of_change_sized (C := Try.checked) own started (by kernel_rfl) Try.func4
    (ChangeSpec.witness6 (enc := enc) (C := Try.checked) false ⟨#[], #[.slice none 0 0], []⟩ 8 (by kernel_rfl) (by kernel_rfl) (by kernel_rfl) (by kernel_rfl)) ?_
  intro W base args ds gs before hval hW _ hsz _
  exact contract H enc W base args ds gs before hval hW hsz

theorem over : Rows.ifaceOneRow.holds Try.pinned (OpenSpec.ofChange Rows.ifaceOneSpec) :=
  OpenClaim.holds_of_wide 4 Try.f4 rfl rfl rfl rfl rfl rfl rfl ⟨rfl, rfl, rfl, rfl, rfl⟩ rfl rfl rfl rfl rfl (by kernel_rfl) Try.func4 (by kernel_rfl)
    (of_decide_eq_true (by kernel_rfl)) (by unfold Func.isWrapper; first | (rw [if_pos (by decide +kernel)]; kernel_rfl) | (rw [if_neg (by decide +kernel)]; exact ⟨rfl, rfl⟩))
    (fun os started H enc _ => lifted os started H enc)

theorem proved : Rows.IfaceOneSaid := over
#print axioms proved
