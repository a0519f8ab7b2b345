/-
  The document's own rib (layer 15): Paths, Best.
-/
import Derived.Test.YtjlmgkdieffjcaaGreatDoorRbG
namespace Go.Proofs.YtjlmgkdieffjcaaGreatDoor
open Go.RowKit
set_option linter.unusedVariables false

/-- The paths of the first k. -/
def pathK (L : List TdI) (p : PfI) (k : Nat) : List PaI := ((L.take k).filter fun t => decide (t.1 = p)).map (·.2)
theorem pathK_yes {L : List TdI} {p : PfI} {k : Nat} {u : TdI} (hu : L[k]? = some u) (h : decide (u.1 = p) = true) : pathK L p (k + 1) = pathK L p k ++ [u.2] := by
  unfold pathK
  rw [List.take_add_one, hu, List.filter_append, List.map_append]
  simp [of_decide_eq_true h]
theorem pathK_no {L : List TdI} {p : PfI} {k : Nat} {u : TdI} (hu : L[k]? = some u) (h : decide (u.1 = p) = false) : pathK L p (k + 1) = pathK L p k := by
  unfold pathK
  rw [List.take_add_one, hu, List.filter_append, List.map_append]
  simp [of_decide_eq_false h]
theorem pathK_le (L : List TdI) (p : PfI) (k : Nat) : (pathK L p k).length ≤ L.length := by
  unfold pathK
  rw [List.length_map]
  exact Nat.le_trans (List.length_filter_le _ _) (by simp; omega)
theorem pathK_all (L : List TdI) (p : PfI) : pathK L p L.length = pathsI L p := by unfold pathK pathsI; rw [List.take_length]
theorem pathsI_le (L : List TdI) (p : PfI) : (pathsI L p).length ≤ L.length := by rw [← pathK_all]; exact pathK_le _ _ _
set_option maxRecDepth 100000 in
set_option maxHeartbeats 4000000 in
theorem pathsD (t : Nat) (S : List Nat) (L : List TdI) (hL : L.length ≤ 1000) (p : PfI) (w : World) (h : RbD w t S L) :
    Calls Tryz.prog 32 #[.pointer (some ⟨t, 0, none⟩), pfR p] w fun e w' => ∃ A c, e = .returned (.slice A (pathsI L p).length c) ∧ w'.ownsRow w.heap.size 34 7 (.slice A (pathsI L p).length c) (pathsI L p).length ((pathsI L p).flatMap paC) ∧ Tch w w' [] := by
  obtain ⟨⟨ps, ph, pl⟩, pb⟩ := p
  obtain ⟨A, cA, c0, hrow, htl, -⟩ := h.head
  obtain ⟨n, hn⟩ : ∃ n, L.length = n := ⟨_, rfl⟩
  rw [hn] at c0 hrow hL
  have HN := Lib.hid hn
  have HR := Lib.hid hrow
  have HC0 := Lib.hid (And.intro c0 htl)
  obtain ⟨xb, hxb⟩ : ∃ xb, w.heap.size = xb := ⟨_, rfl⟩
  have HXb := Lib.hid hxb
  obtain ⟨yb, hyb⟩ : ∃ yb, xb + 1 = yb := ⟨_, rfl⟩
  have HYb := Lib.hid hyb
  have HB1 : Hid (Blk (w.alloc (.cells #[.bool ps, .int .u64 (ph : Int), .int .u64 (pl : Int), .int .i64 pb] 32)) xb 32 #[.bool ps, .int .u64 (ph : Int), .int .u64 (pl : Int), .int .i64 pb]) := Lib.hid (hxb ▸ Blk.new w _ _)
  clear h c0 hrow htl hxb hyb hn
  go_enter Tryz.func32, Tryz.ntmps32
  go_wp2
  rw [HXb.out]
  go_loopw [5, 6] (fun ov kv wr => ∃ (k f : Nat) (A1 : Option Addr) (cc : Nat), ov = .slice A1 f cc ∧ kv = .int .i64 (k : Int) ∧ k ≤ n ∧ f ≤ n ∧ Hid ((pathK L ((ps, ph, pl), pb) k).length = f) ∧ Hid (wr.ownsRow yb 34 7 (.slice A1 f cc) f ((pathK L ((ps, ph, pl), pb) k).flatMap paC)) ∧ Hid (Tch w wr []) ∧ Hid (Blk wr xb 32 #[.bool ps, .int .u64 (ph : Int), .int .u64 (pl : Int), .int .i64 pb])) (fun _ kv _ => n - (intOf kv).toNat)
  case atStart => exact ⟨0, 0, none, 0, rfl, rfl, Nat.zero_le _, Nat.zero_le _, Lib.hid rfl, Lib.hid ⟨rfl, .inl ⟨rfl, rfl⟩⟩, Lib.hid ((Tch.refl w []).alloc _), HB1⟩
  case round =>
    obtain ⟨k, f, A1, cc, rfl, rfl, hk, hf, hF, hO, hT, hX⟩ := hrel
    have c0 := (hT.out.cell (p := ⟨t, 0, none⟩) HC0.out.2 (by simp)).trans HC0.out.1
    have k1 : IntKind.i64.wrap ((k : Int) + 1) = (k : Int) + 1 := by rw [IntKind.wrap_i64]; omega
    by_cases hkn : k < n
    · have kI : (k : Int) < (n : Int) := by omega
      have k0 : (0 : Int) ≤ (k : Int) := by omega
      obtain ⟨u, hu⟩ : ∃ u, L[k]? = some u := ⟨_, List.getElem?_eq_getElem (by rw [HN.out]; exact hkn)⟩
      have d3 := own_tch HR.out hT.out (by simp)
      obtain ⟨g, rfl⟩ := slice_some d3 (by omega)
      obtain ⟨b, hb⟩ : ∃ b, decide (u.1 = ((ps, ph, pl), pb)) = b := ⟨_, rfl⟩
      have HQ := eqA_eql 32 _ _ (eq_pfR u.1 ((ps, ph, pl), pb) hb)
      have HBb := Lib.hid hb
      obtain ⟨u0, u1, u2, u3, u4, u5, u6, u7, u8, u9, u10⟩ := td_cells d3 hu
      obtain ⟨⟨⟨us, uh, ul⟩, ub⟩, upr, ume, ⟨uvs, uvh, uvl⟩, upo, uaw⟩ := u
      have HQ : ∀ W, (binOp .eql 32 (.agg #[.bool us, .int .u64 (uh : Int), .int .u64 (ul : Int), .int .i64 ub]) (.agg #[.bool ps, .int .u64 (ph : Int), .int .u64 (pl : Int), .int .i64 pb])).run Tryz.prog W = .ok (.bool b) W := HQ
      have Hu := Lib.hid hu
      obtain ⟨v0, v1, v2, v3⟩ := hX.out.c4
      have HCl : Hid (wr.cell? ⟨t, 0, none⟩ = some (Value.slice (some ⟨g, 0, none⟩) n cA) ∧ wr.cell? ⟨g, k * 11, none⟩ = some (Value.bool us) ∧ wr.cell? ⟨g, k * 11 + 1, none⟩ = some (Value.int .u64 (uh : Int)) ∧ wr.cell? ⟨g, k * 11 + 2, none⟩ = some (Value.int .u64 (ul : Int)) ∧ wr.cell? ⟨g, k * 11 + 3, none⟩ = some (Value.int .i64 ub) ∧ wr.cell? ⟨xb, 0, none⟩ = some (Value.bool ps) ∧ wr.cell? ⟨xb, 1, none⟩ = some (Value.int .u64 (ph : Int)) ∧ wr.cell? ⟨xb, 2, none⟩ = some (Value.int .u64 (pl : Int)) ∧ wr.cell? ⟨xb, 3, none⟩ = some (Value.int .i64 pb)) := Lib.hid ⟨c0, u0, u1, u2, u3, v0, v1, v2, v3⟩
      have HP := Lib.hid (And.intro u4 (And.intro u5 (And.intro u6 (And.intro u7 (And.intro u8 (And.intro u9 u10))))))
      clear d3 hu hb u0 u1 u2 u3 u4 u5 u6 u7 u8 u9 u10 v0 v1 v2 v3
      go_wp2
      refine wp_region_held_drew (S := (fun W => W.cell? ⟨t, 0, none⟩ = some (Value.slice (some ⟨g, 0, none⟩) n cA) ∧ W.cell? ⟨g, k * 11, none⟩ = some (Value.bool us) ∧ W.cell? ⟨g, k * 11 + 1, none⟩ = some (Value.int .u64 (uh : Int)) ∧ W.cell? ⟨g, k * 11 + 2, none⟩ = some (Value.int .u64 (ul : Int)) ∧ W.cell? ⟨g, k * 11 + 3, none⟩ = some (Value.int .i64 ub) ∧ W.cell? ⟨xb, 0, none⟩ = some (Value.bool ps) ∧ W.cell? ⟨xb, 1, none⟩ = some (Value.int .u64 (ph : Int)) ∧ W.cell? ⟨xb, 2, none⟩ = some (Value.int .u64 (pl : Int)) ∧ W.cell? ⟨xb, 3, none⟩ = some (Value.int .i64 pb))) (by kernel_rfl) ?_ (fun hHeld => ?_)
      · (exact HCl.out)
      refine wpAnyH_take (i := 0) (oi := { dst := some 16, op := Go.Op.move (Go.Operand.tmp 0), type := 26, pos := "ref.go:158", after := #[], guard := none }) (v := ?_) rfl (by kernel_rfl) (by kernel_rfl) (by kernel_rfl) (fun _ _ _ h => h) (Or.inl ⟨by rfl, ?_⟩) (by assumption) ?_
      rotate_left
      · intro w hSw
        (try dsimp only at hSw)
        go_simp
        try (with_reducible rfl)
      try simp only [Act.put, List.setIfInBounds_toArray, List.set_cons_zero, List.set_cons_succ]
      refine wpAnyH_take (i := 1) (oi := { dst := some 17, op := Go.Op.nilCheck (Go.Operand.tmp 16), type := 0, pos := "ref.go:158", after := #[{ on := 0, ground := Go.Ground.data }], guard := none }) (v := ?_) rfl (by kernel_rfl) (by kernel_rfl) (by kernel_rfl) (fun _ _ _ h => h) (Or.inl ⟨by rfl, ?_⟩) (by assumption) ?_
      rotate_left
      · intro w hSw
        (try dsimp only at hSw)
        go_simp
        try (with_reducible rfl)
      try simp only [Act.put, List.setIfInBounds_toArray, List.set_cons_zero, List.set_cons_succ]
      refine wpAnyH_take (i := 2) (oi := { dst := some 18, op := Go.Op.fieldAddr 64 (Go.Operand.tmp 17) 0, type := 0, pos := "ref.go:158", after := #[{ on := 1, ground := Go.Ground.data }], guard := none }) (v := ?_) rfl (by kernel_rfl) (by kernel_rfl) (by kernel_rfl) (fun _ _ _ h => h) (Or.inl ⟨by rfl, ?_⟩) (by assumption) ?_
      rotate_left
      · intro w hSw
        (try dsimp only at hSw)
        go_simp
        try (with_reducible rfl)
      try simp only [Act.put, List.setIfInBounds_toArray, List.set_cons_zero, List.set_cons_succ]
      refine wpAnyH_take (i := 3) (oi := { dst := some 19, op := Go.Op.load 62 (Go.Operand.tmp 18), type := 62, pos := "ref.go:158", after := #[{ on := 2, ground := Go.Ground.data }], guard := none }) (v := ?_) rfl (by kernel_rfl) (by kernel_rfl) (by kernel_rfl) (fun _ _ _ h => h) (Or.inl ⟨by rfl, ?_⟩) (by assumption) ?_
      rotate_left
      · intro w hSw
        (try dsimp only at hSw)
        go_simp
        try (with_reducible rfl)
      try simp only [Act.put, List.setIfInBounds_toArray, List.set_cons_zero, List.set_cons_succ]
      refine wpAnyH_take (i := 4) (oi := { dst := some 20, op := Go.Op.move (Go.Operand.tmp 6), type := 3, pos := "ref.go:158", after := #[], guard := none }) (v := ?_) rfl (by kernel_rfl) (by kernel_rfl) (by kernel_rfl) (fun _ _ _ h => h) (Or.inl ⟨by rfl, ?_⟩) (by assumption) ?_
      rotate_left
      · intro w hSw
        (try dsimp only at hSw)
        go_simp
        try (with_reducible rfl)
      try simp only [Act.put, List.setIfInBounds_toArray, List.set_cons_zero, List.set_cons_succ]
      refine wpAnyH_take (i := 5) (oi := { dst := some 21, op := Go.Op.indexAddr 62 (Go.Operand.tmp 19) (Go.Operand.tmp 20), type := 0, pos := "ref.go:158", after := #[{ on := 3, ground := Go.Ground.data }, { on := 4, ground := Go.Ground.data }], guard := none }) (v := ?_) rfl (by kernel_rfl) (by kernel_rfl) (by kernel_rfl) (fun _ _ _ h => h) (Or.inl ⟨by rfl, ?_⟩) (by assumption) ?_
      rotate_left
      · intro w hSw
        (try dsimp only at hSw)
        go_simp
        try (with_reducible rfl)
      try simp only [Act.put, List.setIfInBounds_toArray, List.set_cons_zero, List.set_cons_succ]
      refine wpAnyH_take (i := 6) (oi := { dst := some 22, op := Go.Op.fieldAddr 86 (Go.Operand.tmp 21) 0, type := 0, pos := "ref.go:158", after := #[{ on := 5, ground := Go.Ground.data }], guard := none }) (v := ?_) rfl (by kernel_rfl) (by kernel_rfl) (by kernel_rfl) (fun _ _ _ h => h) (Or.inl ⟨by rfl, ?_⟩) (by assumption) ?_
      rotate_left
      · intro w hSw
        (try dsimp only at hSw)
        go_simp
        try (with_reducible rfl)
      try simp only [Act.put, List.setIfInBounds_toArray, List.set_cons_zero, List.set_cons_succ]
      refine wpAnyH_take (i := 7) (oi := { dst := some 23, op := Go.Op.load 32 (Go.Operand.tmp 22), type := 32, pos := "ref.go:158", after := #[{ on := 6, ground := Go.Ground.data }], guard := none }) (v := ?_) rfl (by kernel_rfl) (by kernel_rfl) (by kernel_rfl) (fun _ _ _ h => h) (Or.inl ⟨by rfl, ?_⟩) (by assumption) ?_
      rotate_left
      · intro w hSw
        (try dsimp only at hSw)
        go_simp
        try (with_reducible rfl)
      try simp only [Act.put, List.setIfInBounds_toArray, List.set_cons_zero, List.set_cons_succ]
      refine wpAnyH_take (i := 8) (oi := { dst := some 24, op := Go.Op.load 32 (Go.Operand.tmp 3), type := 32, pos := "ref.go:158", after := #[], guard := none }) (v := ?_) rfl (by kernel_rfl) (by kernel_rfl) (by kernel_rfl) (fun _ _ _ h => h) (Or.inl ⟨by rfl, ?_⟩) (by assumption) ?_
      rotate_left
      · intro w hSw
        (try dsimp only at hSw)
        go_simp
        try (with_reducible rfl)
      try simp only [Act.put, List.setIfInBounds_toArray, List.set_cons_zero, List.set_cons_succ]
      refine wpAnyH_take (i := 9) (oi := { dst := some 25, op := Go.Op.binOp Go.BinOp.eql 32 (Go.Operand.tmp 23) (Go.Operand.tmp 24) 32, type := 4, pos := "ref.go:158", after := #[{ on := 7, ground := Go.Ground.data }, { on := 8, ground := Go.Ground.data }], guard := none }) (v := ?_) rfl (by kernel_rfl) (by kernel_rfl) (by kernel_rfl) (fun _ _ _ h => h) (Or.inl ⟨by rfl, ?_⟩) (by assumption) ?_
      rotate_left
      · intro w hSw
        (try dsimp only at hSw)
        go_simp
        try (with_reducible rfl)
      try simp only [Act.put, List.setIfInBounds_toArray, List.set_cons_zero, List.set_cons_succ]
      refine wpAnyH_done (by kernel_rfl) ?_ _
      obtain ⟨w4, hw4⟩ : ∃ w4, wr.drew = w4 := ⟨_, rfl⟩
      have HO4 := Lib.hid hO.out.drew
      have HT4 := Lib.hid hT.out.drew
      have HX4 : Hid (Blk wr.drew xb 32 #[.bool ps, .int .u64 (ph : Int), .int .u64 (pl : Int), .int .i64 pb]) := Lib.hid hX.out
      have HC4 : Hid (wr.drew.cell? ⟨t, 0, none⟩ = some (Value.slice (some ⟨g, 0, none⟩) n cA) ∧ wr.drew.cell? ⟨g, k * 11 + 4, none⟩ = some (Value.int .i64 upr) ∧ wr.drew.cell? ⟨g, k * 11 + 5, none⟩ = some (Value.int .i64 ume) ∧ wr.drew.cell? ⟨g, k * 11 + 6, none⟩ = some (Value.bool uvs) ∧ wr.drew.cell? ⟨g, k * 11 + 7, none⟩ = some (Value.int .u64 (uvh : Int)) ∧ wr.drew.cell? ⟨g, k * 11 + 8, none⟩ = some (Value.int .u64 (uvl : Int)) ∧ wr.drew.cell? ⟨g, k * 11 + 9, none⟩ = some (Value.int .i64 upo) ∧ wr.drew.cell? ⟨g, k * 11 + 10, none⟩ = some (Value.bool uaw)) := Lib.hid ⟨HCl.out.1, HP.out⟩
      rw [hw4] at HO4 HT4 HX4 HC4 ⊢
      clear hw4 HQ HP HCl c0
      cases b with
      | false =>
        have HFl : Hid (pathK L ((ps, ph, pl), pb) (k + 1) = pathK L ((ps, ph, pl), pb) k) := Lib.hid (pathK_no Hu.out HBb.out)
        go_wp2
        go_roundw
        case rel => exact ⟨k + 1, f, A1, cc, rfl, by go_num, hkn, hf, by rw [HFl.out]; exact hF, by rw [HFl.out]; exact HO4, HT4, HX4⟩
        case measure => simp [intOf]; omega
      | true =>
        have HFl : Hid (pathK L ((ps, ph, pl), pb) (k + 1) = pathK L ((ps, ph, pl), pb) k ++ [(upr, ume, (uvs, uvh, uvl), upo, uaw)]) := Lib.hid (pathK_yes Hu.out HBb.out)
        have hfm : f + 1 ≤ n := by have h1 := pathK_le L ((ps, ph, pl), pb) (k + 1); rw [HFl.out, List.length_append, List.length_singleton, hF.out, HN.out] at h1; exact h1
        obtain ⟨z0, z4, z5, z6, z7, z8, z9, z10⟩ := HC4.out
        have HO5 : Hid ((w4.alloc (.cells #[.int .i64 upr, .int .i64 ume, .bool uvs, .int .u64 (uvh : Int), .int .u64 (uvl : Int), .int .i64 upo, .bool uaw] 34)).ownsRow yb 34 7 (.slice A1 f cc) f ((pathK L ((ps, ph, pl), pb) k).flatMap paC)) := Lib.hid (HO4.out.alloc _)
        have HSr := Lib.hid (src_new w4 34 [.int .i64 upr, .int .i64 ume, .bool uvs, .int .u64 (uvh : Int), .int .u64 (uvl : Int), .int .i64 upo, .bool uaw])
        have HSz5 : Hid (yb ≤ (w4.alloc (.cells #[.int .i64 upr, .int .i64 ume, .bool uvs, .int .u64 (uvh : Int), .int .u64 (uvl : Int), .int .i64 upo, .bool uaw] 34)).heap.size) := Lib.hid (by have h1 := HX4.out.lt; have h2 := HYb.out; rw [World.size_alloc]; omega)
        have HX5 := Lib.hid (HX4.out.alloc (.cells #[.int .i64 upr, .int .i64 ume, .bool uvs, .int .u64 (uvh : Int), .int .u64 (uvl : Int), .int .i64 upo, .bool uaw] 34))
        have HT5 := Lib.hid (HT4.out.alloc (.cells #[.int .i64 upr, .int .i64 ume, .bool uvs, .int .u64 (uvh : Int), .int .u64 (uvl : Int), .int .i64 upo, .bool uaw] 34))
        have HXn : Hid (∀ s ∈ obI (.slice A1 f cc), s ≠ xb) := Lib.hid (fun s hs => by have h1 := (own_geI HO5.out s hs).1; have h2 := HYb.out; omega)
        have HSzf : Hid (f ≤ 1000000) := Lib.hid (by omega)
        go_wp2_with (at_builtin; (refine wpList_apc 42 34 (.agg #[.int .i64 0, .int .i64 0, .bool false, .int .u64 0, .int .u64 0, .int .i64 0, .bool false]) 7 56 Tryz.underlying42 infoPa rfl (by decide) (by decide) _ rfl (.tmp 26) (.tmp 35) rfl yb (.slice A1 f cc) f ((pathK L ((ps, ph, pl), pb) k).flatMap paC) rfl HO5.out ⟨w4.heap.size, 0, none⟩ 1 [.int .i64 upr, .int .i64 ume, .bool uvs, .int .u64 (uvh : Int), .int .u64 (uvl : Int), .int .i64 upo, .bool uaw] rfl rfl (fun j u hj => HSr.out j u hj) (by simp [Value.oneCell']) HSzf.out HSz5.out ?_; intro v7 w7 hown hg hv; obtain ⟨A7, c7, e7, -, -⟩ := own_sl hown; subst e7; have hT57 := Tch.of_grown' (S := obI (.slice A1 f cc)) hg (fun k e => by rw [obI_some e]; simp); have HO7 := Lib.hid hown; have HT7 := Lib.hid (HT5.out.trans_fre hT57 (fun s hs => .inr (by have := (own_geI HO5.out s hs).1; have := HXb.out; have := HYb.out; omega))); have HX7 := Lib.hid (hT57.blk HX5.out (fun hm => HXn.out _ hm rfl)); clear hown hg hv hT57))
        go_roundw
        case rel => exact ⟨k + 1, f + 1, A7, c7, rfl, by go_num, hkn, hfm, Lib.hid (by rw [HFl.out, List.length_append, hF.out]; rfl), Lib.hid (by rw [HFl.out, List.flatMap_append]; exact HO7.out), HT7, HX7⟩
        case measure => simp [intOf]; omega
    · obtain rfl : k = n := by omega
      have kI : ¬ (k : Int) < (k : Int) := by omega
      have HAll : Hid (pathK L ((ps, ph, pl), pb) k = pathsI L ((ps, ph, pl), pb)) := Lib.hid (by rw [← pathK_all, HN.out])
      have HO9 := Lib.hid hO.out
      rw [HAll.out] at hF HO9
      have HF9 := Lib.hid hF.out
      have HT9 := Lib.hid hT.out
      clear hkn hk hF hO hT hX
      go_wp2
      go_ret
      exact ⟨A1, cc, by rw [HF9.out]; rfl, by rw [HF9.out, HXb.out]; exact own_mono HO9.out (by have := HYb.out; omega), HT9.out⟩
theorem sizePa : (Tryz.prog.info? 34).map (·.size) = some 7 := by kernel_rfl
theorem Blk.c7 {w : World} {g : Nat} {t : TypeId} {a b c d e f i : Value} (h : Blk w g t #[a, b, c, d, e, f, i]) : w.cell? ⟨g, 0, none⟩ = some a ∧ w.cell? ⟨g, 1, none⟩ = some b ∧ w.cell? ⟨g, 2, none⟩ = some c ∧ w.cell? ⟨g, 3, none⟩ = some d ∧ w.cell? ⟨g, 4, none⟩ = some e ∧ w.cell? ⟨g, 5, none⟩ = some f ∧ w.cell? ⟨g, 6, none⟩ = some i :=
  ⟨by rw [h.cell]; rfl, by rw [h.cell]; rfl, by rw [h.cell]; rfl, by rw [h.cell]; rfl, by rw [h.cell]; rfl, by rw [h.cell]; rfl, by rw [h.cell]; rfl⟩
set_option maxRecDepth 100000 in
set_option maxHeartbeats 4000000 in
theorem bestD (t : Nat) (S : List Nat) (L : List TdI) (hL : L.length ≤ 1000) (p : PfI) (w : World) (h : RbD w t S L) :
    Calls Tryz.prog 29 #[.pointer (some ⟨t, 0, none⟩), pfR p] w fun e w' => e = .returned (bestV (bestI L p)) ∧ Tch w w' [] := by
  have HPt := Lib.hid (fun W (hT : Tch w W []) => pathsD t S L hL p W (h.tch hT (by simp)))
  have hle := pathsI_le L p
  obtain ⟨l, hl⟩ : ∃ l, pathsI L p = l := ⟨_, rfl⟩
  have HB : Hid (bestI L p = l.head?) := Lib.hid (by unfold bestI; rw [hl])
  rw [hl] at HPt hle
  obtain ⟨n, hn⟩ : ∃ n, l.length = n := ⟨_, rfl⟩
  rw [hn] at HPt hle
  have HN := Lib.hid hn
  obtain ⟨⟨ps, ph, pl⟩, pb⟩ := p
  obtain ⟨xb, hxb⟩ : ∃ xb, w.heap.size = xb := ⟨_, rfl⟩
  obtain ⟨yb, hyb⟩ : ∃ yb, xb + 1 = yb := ⟨_, rfl⟩
  obtain ⟨W0, hW0⟩ : ∃ W, (w.alloc (.cells #[.bool ps, .int .u64 (ph : Int), .int .u64 (pl : Int), .int .i64 pb] 32)).alloc (.cells #[.int .i64 0, .int .i64 0, .bool false, .int .u64 0, .int .u64 0, .int .i64 0, .bool false] 34) = W := ⟨_, rfl⟩
  have hT0 : Tch w W0 [] := hW0 ▸ ((Tch.refl w []).alloc _).alloc _
  have hY : Blk W0 yb 34 #[.int .i64 0, .int .i64 0, .bool false, .int .u64 0, .int .u64 0, .int .i64 0, .bool false] := by
    have := Blk.new (w.alloc (.cells #[.bool ps, .int .u64 (ph : Int), .int .u64 (pl : Int), .int .i64 pb] 32)) 34 #[.int .i64 0, .int .i64 0, .bool false, .int .u64 0, .int .u64 0, .int .i64 0, .bool false]
    rw [World.size_alloc, hxb, hyb, hW0] at this
    exact this
  have HT0 := Lib.hid hT0
  have HY := Lib.hid hY
  have HW0 := Lib.hid (And.intro hW0 (And.intro hxb hyb))
  clear h hl hn hT0 hY hW0 hxb hyb hle
  go_enter Tryz.func29, Tryz.ntmps29
  go_wp2_with fail
  rw [HW0.out.1, HW0.out.2.1, HW0.out.2.2]
  refine Calls.mono (HPt.out _ HT0.out) ?_
  rintro e w5 ⟨A, c, rfl, ho, hT5⟩
  have HY5 := Lib.hid (hT5.blk HY.out (by simp))
  have HT5 := Lib.hid (HT0.out.trans hT5)
  clear hT5
  cases l with
  | nil =>
    have hn0 : n = 0 := HN.out.symm
    subst hn0
    clear ho
    go_wp2_with (refine wpList_sta rfl 34 (.tmp 4) (.tmp 13) rfl yb 0 #[.int .i64 0, .int .i64 0, .bool false, .int .u64 0, .int .u64 0, .int .i64 0, .bool false] rfl rfl 34 _ HY5.out 7 sizePa rfl (show 0 + 7 ≤ 7 from by decide) (by simp [Value.oneCell']) ?_; intro w6 hs6; have HS6 := Lib.hid hs6; clear hs6)
    obtain ⟨z0, z1, z2, z3, z4, z5, z6⟩ := (sta_whole HS6.out rfl).c7
    have hTT : Tch w w6 [] := HT5.out.trans_fre HS6.out.tch (by have := HW0.out.2.1; have := HW0.out.2.2; simp; omega)
    exact bodyPost_ret (v := .tuple #[.agg #[.int .i64 0, .int .i64 0, .bool false, .int .u64 0, .int .u64 0, .int .i64 0, .bool false], .bool false]) (by simp [results, Tryz.results29, go_sem, z0, z1, z2, z3, z4, z5, z6]) rfl ⟨by rw [HB.out]; rfl, hTT⟩
  | cons x r =>
    have hn1 : 0 < n := by rw [← HN.out]; simp
    obtain ⟨g, rfl⟩ := slice_some (own_mono ho (Nat.zero_le _)) hn1
    obtain ⟨y0, y1, y2, y3, y4, y5, y6⟩ := pa_cells (k := 0) ho (x := x) (by simp)
    have nI : (0 : Int) < (n : Int) := by omega
    have bz : ((n : Int) == 0) = false := by simp; omega
    obtain ⟨pr, me, ⟨vs, vh, vl⟩, po, aw⟩ := x
    simp only [Nat.zero_mul, Nat.zero_add] at y0 y1 y2 y3 y4 y5 y6
    clear ho hn1
    go_wp2_with (refine wpList_sta rfl 34 (.tmp 4) (.tmp 16) rfl yb 0 #[.int .i64 pr, .int .i64 me, .bool vs, .int .u64 (vh : Int), .int .u64 (vl : Int), .int .i64 po, .bool aw] rfl rfl 34 _ HY5.out 7 sizePa rfl (show 0 + 7 ≤ 7 from by decide) (by simp [Value.oneCell']) ?_; intro w6 hs6; have HS6 := Lib.hid hs6; clear hs6)
    obtain ⟨z0, z1, z2, z3, z4, z5, z6⟩ := (sta_whole HS6.out rfl).c7
    have hTT : Tch w w6 [] := HT5.out.trans_fre HS6.out.tch (by have := HW0.out.2.1; have := HW0.out.2.2; simp; omega)
    exact bodyPost_ret (v := .tuple #[.agg #[.int .i64 pr, .int .i64 me, .bool vs, .int .u64 (vh : Int), .int .u64 (vl : Int), .int .i64 po, .bool aw], .bool true]) (by simp [results, Tryz.results29, go_sem, z0, z1, z2, z3, z4, z5, z6]) rfl ⟨by rw [HB.out]; rfl, hTT⟩
end Go.Proofs.YtjlmgkdieffjcaaGreatDoor
