/-
  The document's own rib (layer 15): Flush, Prefixes.
-/
import Derived.Test.YtjlmgkdieffjcaaGreatDoorRbH
namespace Go.Proofs.YtjlmgkdieffjcaaGreatDoor
open Go.RowKit
set_option linter.unusedVariables false

def fluK (L : List TdI) (pr : Int) (k : Nat) : List TdI := (L.take k).filter fun t => !decide (t.2.1 = pr)
theorem fluK_yes {L : List TdI} {pr : Int} {k : Nat} {u : TdI} (hu : L[k]? = some u) (h : ¬ u.2.1 = pr) : fluK L pr (k + 1) = fluK L pr k ++ [u] := by
  unfold fluK
  rw [List.take_add_one, hu, List.filter_append]
  simp [h]
theorem fluK_no {L : List TdI} {pr : Int} {k : Nat} {u : TdI} (hu : L[k]? = some u) (h : u.2.1 = pr) : fluK L pr (k + 1) = fluK L pr k := by
  unfold fluK
  rw [List.take_add_one, hu, List.filter_append]
  simp [h]
theorem fluK_le (L : List TdI) (pr : Int) (k : Nat) : (fluK L pr k).length ≤ L.length := Nat.le_trans (List.length_filter_le _ _) (by simp; omega)
theorem fluK_all (L : List TdI) (pr : Int) : fluK L pr L.length = L.filter fun t => !decide (t.2.1 = pr) := by unfold fluK; rw [List.take_length]
set_option maxRecDepth 100000 in
set_option maxHeartbeats 4000000 in
theorem flushD (t : Nat) (S : List Nat) (L : List TdI) (hL : L.length ≤ 1000) (pr : Int) (w : World) (h : RbD w t S L) :
    Calls Tryz.prog 27 #[.pointer (some ⟨t, 0, none⟩), .int .i64 pr] w fun e w' => e = .returned (.int .i64 (flushR L pr).2) ∧ ∃ S', RbD w' t S' (flushR L pr).1 ∧ Goes w w' S S' := by
  have HH := Lib.hid h
  obtain ⟨A, cA, c0, hrow, htl, -⟩ := h.head
  obtain ⟨n, hn⟩ : ∃ n, L.length = n := ⟨_, rfl⟩
  rw [hn] at c0 hrow hL
  have HN := Lib.hid hn
  have HR := Lib.hid hrow
  have HC0 := Lib.hid (And.intro c0 htl)
  obtain ⟨xb, hxb⟩ : ∃ xb, w.heap.size = xb := ⟨_, rfl⟩
  have HXb := Lib.hid hxb
  clear h c0 hrow htl hxb hn
  go_enter Tryz.func27, Tryz.ntmps27
  go_wp2
  go_loopw [5, 6] (fun ov kv wr => ∃ (k f : Nat) (A1 : Option Addr) (cc : Nat), ov = .slice A1 f cc ∧ kv = .int .i64 (k : Int) ∧ k ≤ n ∧ f ≤ n ∧ Hid ((fluK L pr k).length = f) ∧ Hid (wr.ownsRow xb 86 11 (.slice A1 f cc) f ((fluK L pr k).flatMap tdC)) ∧ Hid (Tch w wr [])) (fun _ kv _ => n - (intOf kv).toNat)
  case atStart => exact ⟨0, 0, none, 0, rfl, rfl, Nat.zero_le _, Nat.zero_le _, Lib.hid rfl, Lib.hid ⟨rfl, .inl ⟨rfl, rfl⟩⟩, Lib.hid (Tch.refl w [])⟩
  case round =>
    obtain ⟨k, f, A1, cc, rfl, rfl, hk, hf, hF, hO, hT⟩ := hrel
    have c0 := (hT.out.cell (p := ⟨t, 0, none⟩) HC0.out.2 (by simp)).trans HC0.out.1
    have k1 : IntKind.i64.wrap ((k : Int) + 1) = (k : Int) + 1 := by rw [IntKind.wrap_i64]; omega
    by_cases hkn : k < n
    · have kI : (k : Int) < (n : Int) := by omega
      have k0 : (0 : Int) ≤ (k : Int) := by omega
      obtain ⟨u, hu⟩ : ∃ u, L[k]? = some u := ⟨_, List.getElem?_eq_getElem (by rw [HN.out]; exact hkn)⟩
      have d3 := own_tch HR.out hT.out (by simp)
      obtain ⟨g, rfl⟩ := slice_some d3 (by omega)
      obtain ⟨u0, u1, u2, u3, u4, u5, u6, u7, u8, u9, u10⟩ := td_cells d3 hu
      obtain ⟨⟨⟨us, uh, ul⟩, ub⟩, upr, ume, ⟨uvs, uvh, uvl⟩, upo, uaw⟩ := u
      have Hu := Lib.hid hu
      clear d3 hu
      by_cases hp : upr = pr
      · have bp : (upr != pr) = false := by simpa using hp
        have HFl : Hid (fluK L pr (k + 1) = fluK L pr k) := Lib.hid (fluK_no Hu.out hp)
        clear hp
        go_wp2
        go_roundw
        case rel => exact ⟨k + 1, f, A1, cc, rfl, by go_num, hkn, hf, by rw [HFl.out]; exact hF, by rw [HFl.out]; exact hO, hT⟩
        case measure => simp [intOf]; omega
      · have bp : (upr != pr) = true := by simpa using hp
        have HFl : Hid (fluK L pr (k + 1) = fluK L pr k ++ [(((us, uh, ul), ub), upr, ume, (uvs, uvh, uvl), upo, uaw)]) := Lib.hid (fluK_yes Hu.out hp)
        have hfm : f + 1 ≤ n := by have h1 := fluK_le L pr (k + 1); rw [HFl.out, List.length_append, List.length_singleton, hF.out, HN.out] at h1; exact h1
        have HO5 : Hid ((wr.alloc (.cells #[.bool us, .int .u64 (uh : Int), .int .u64 (ul : Int), .int .i64 ub, .int .i64 upr, .int .i64 ume, .bool uvs, .int .u64 (uvh : Int), .int .u64 (uvl : Int), .int .i64 upo, .bool uaw] 86)).ownsRow xb 86 11 (.slice A1 f cc) f ((fluK L pr k).flatMap tdC)) := Lib.hid (hO.out.alloc _)
        have HSr := Lib.hid (src_new wr 86 [.bool us, .int .u64 (uh : Int), .int .u64 (ul : Int), .int .i64 ub, .int .i64 upr, .int .i64 ume, .bool uvs, .int .u64 (uvh : Int), .int .u64 (uvl : Int), .int .i64 upo, .bool uaw])
        have HSz5 : Hid (xb ≤ (wr.alloc (.cells #[.bool us, .int .u64 (uh : Int), .int .u64 (ul : Int), .int .i64 ub, .int .i64 upr, .int .i64 ume, .bool uvs, .int .u64 (uvh : Int), .int .u64 (uvl : Int), .int .i64 upo, .bool uaw] 86)).heap.size) := Lib.hid (by have h1 := hT.out.size; have h2 := HXb.out; rw [World.size_alloc]; omega)
        have HT5 := Lib.hid (hT.out.alloc (.cells #[.bool us, .int .u64 (uh : Int), .int .u64 (ul : Int), .int .i64 ub, .int .i64 upr, .int .i64 ume, .bool uvs, .int .u64 (uvh : Int), .int .u64 (uvl : Int), .int .i64 upo, .bool uaw] 86))
        have HSzf : Hid (f ≤ 1000000) := Lib.hid (by omega)
        clear hp
        go_wp2_with (at_builtin; (refine wpList_apc 62 86 (.agg #[.bool false, .int .u64 0, .int .u64 0, .int .i64 0, .int .i64 0, .int .i64 0, .bool false, .int .u64 0, .int .u64 0, .int .i64 0, .bool false]) 11 88 Tryz.underlying62 infoTd rfl (by decide) (by decide) _ rfl (.tmp 28) (.tmp 36) rfl xb (.slice A1 f cc) f ((fluK L pr k).flatMap tdC) rfl HO5.out ⟨wr.heap.size, 0, none⟩ 1 [.bool us, .int .u64 (uh : Int), .int .u64 (ul : Int), .int .i64 ub, .int .i64 upr, .int .i64 ume, .bool uvs, .int .u64 (uvh : Int), .int .u64 (uvl : Int), .int .i64 upo, .bool uaw] rfl rfl (fun j u hj => HSr.out j u hj) (by simp [Value.oneCell']) HSzf.out HSz5.out ?_; intro v7 w7 hown hg hv; obtain ⟨A7, c7, e7, -, -⟩ := own_sl hown; subst e7; have HO7 := Lib.hid hown; have HT7 := Lib.hid (HT5.out.trans_fre (Tch.of_grown' (S := obI (.slice A1 f cc)) hg (fun k e => by rw [obI_some e]; simp)) (fun s hs => .inr (by have := (own_geI HO5.out s hs).1; have := HXb.out; omega))); clear hown hg hv))
        go_roundw
        case rel => exact ⟨k + 1, f + 1, A7, c7, rfl, by go_num, hkn, hfm, Lib.hid (by rw [HFl.out, List.length_append, hF.out]; rfl), Lib.hid (by rw [HFl.out, List.flatMap_append]; exact HO7.out), HT7⟩
        case measure => simp [intOf]; omega
    · obtain rfl : k = n := by omega
      have kI : ¬ (k : Int) < (k : Int) := by omega
      have HAll : Hid (fluK L pr k = (flushR L pr).1) := Lib.hid (by rw [← HN.out]; exact fluK_all L pr)
      have HO9 := Lib.hid hO.out
      rw [HAll.out] at hF HO9
      have HF9 := Lib.hid hF.out
      have j1 : IntKind.i64.wrap ((k : Int) - (f : Int)) = (k : Int) - (f : Int) := by rw [IntKind.wrap_i64]; omega
      have HRes : Hid ((flushR L pr).2 = (k : Int) - (f : Int)) := Lib.hid (by show (L.length : Int) - ((flushR L pr).1.length : Int) = _; rw [HF9.out, HN.out])
      obtain ⟨⟨u7, k7⟩, f7, S', hD7, hG7⟩ := RbD.set_ HH.out hT.out (A := A1) (c := cc) (M := (flushR L pr).1) (by rw [HF9.out, HXb.out]; exact HO9.out) (fun u hu => HH.out.num u (List.mem_filter.1 hu).1)
      rw [HF9.out] at hD7 hG7
      have HD7 := Lib.hid hD7
      have HG7 := Lib.hid hG7
      clear hkn hk hF hO hT hD7 hG7
      go_wp2
      go_ret
      exact ⟨by rw [HRes.out]; rfl, S', HD7.out, HG7.out⟩
set_option maxRecDepth 100000 in
set_option maxHeartbeats 4000000 in
theorem prefsD (t : Nat) (S : List Nat) (L : List TdI) (hL : L.length ≤ 1000) (w : World) (h : RbD w t S L) :
    Calls Tryz.prog 31 #[.pointer (some ⟨t, 0, none⟩)] w fun e w' => ∃ A c, e = .returned (.slice A (prefsI L).length c) ∧ w'.ownsRow w.heap.size 32 4 (.slice A (prefsI L).length c) (prefsI L).length ((prefsI L).flatMap pfC) ∧ Tch w w' [] := by
  obtain ⟨A, cA, c0, hrow, htl, -⟩ := h.head
  obtain ⟨n, hn⟩ : ∃ n, L.length = n := ⟨_, rfl⟩
  rw [hn] at c0 hrow hL
  have HN := Lib.hid hn
  have HR := Lib.hid hrow
  have HC0 := Lib.hid (And.intro c0 htl)
  obtain ⟨xb, hxb⟩ : ∃ xb, w.heap.size = xb := ⟨_, rfl⟩
  have HXb := Lib.hid hxb
  clear h c0 hrow htl hxb hn
  go_enter Tryz.func31, Tryz.ntmps31
  go_wp2
  go_loopw [3, 4] (fun ov kv wr => ∃ (k f : Nat) (A1 : Option Addr) (cc : Nat), ov = .slice A1 f cc ∧ kv = .int .i64 (k : Int) ∧ k ≤ n ∧ f ≤ n ∧ Hid ((prefK L k).length = f) ∧ Hid (wr.ownsRow xb 32 4 (.slice A1 f cc) f ((prefK L k).flatMap pfC)) ∧ Hid (Tch w wr [])) (fun _ kv _ => n - (intOf kv).toNat)
  case atStart => exact ⟨0, 0, none, 0, rfl, rfl, Nat.zero_le _, Nat.zero_le _, Lib.hid rfl, Lib.hid ⟨rfl, .inl ⟨rfl, rfl⟩⟩, Lib.hid (Tch.refl w [])⟩
  case round =>
    obtain ⟨k, f, A1, cc, rfl, rfl, hk, hf, hF, hO, hT⟩ := hrel
    have c0 := (hT.out.cell (p := ⟨t, 0, none⟩) HC0.out.2 (by simp)).trans HC0.out.1
    have k1 : IntKind.i64.wrap ((k : Int) + 1) = (k : Int) + 1 := by rw [IntKind.wrap_i64]; omega
    by_cases hkn : k < n
    · have kI : (k : Int) < (n : Int) := by omega
      have k0 : (0 : Int) ≤ (k : Int) := by omega
      obtain ⟨u, hu⟩ : ∃ u, L[k]? = some u := ⟨_, List.getElem?_eq_getElem (by rw [HN.out]; exact hkn)⟩
      have d3 := own_tch HR.out hT.out (by simp)
      obtain ⟨g, rfl⟩ := slice_some d3 (by omega)
      obtain ⟨u0, u1, u2, u3, -⟩ := td_cells d3 hu
      obtain ⟨⟨⟨us, uh, ul⟩, ub⟩, ux⟩ := u
      have Hu := Lib.hid hu
      have HCu : Hid (wr.cell? ⟨t, 0, none⟩ = some (Value.slice (some ⟨g, 0, none⟩) n cA) ∧ wr.cell? ⟨g, k * 11, none⟩ = some (Value.bool us) ∧ wr.cell? ⟨g, k * 11 + 1, none⟩ = some (Value.int .u64 (uh : Int)) ∧ wr.cell? ⟨g, k * 11 + 2, none⟩ = some (Value.int .u64 (ul : Int)) ∧ wr.cell? ⟨g, k * 11 + 3, none⟩ = some (Value.int .i64 ub)) := Lib.hid ⟨c0, u0, u1, u2, u3⟩
      by_cases hk0 : k = 0
      · have bz : ((k : Int) == 0) = true := by simpa using hk0
        have HNew : Hid (newP? L k = true) := Lib.hid (by subst hk0; exact newP_zero Hu.out)
        clear d3 hu u0 u1 u2 u3 hk0
        go_wp2
        refine wp_region_held_drew (S := (fun W => W.cell? ⟨t, 0, none⟩ = some (Value.slice (some ⟨g, 0, none⟩) n cA) ∧ W.cell? ⟨g, k * 11, none⟩ = some (Value.bool us) ∧ W.cell? ⟨g, k * 11 + 1, none⟩ = some (Value.int .u64 (uh : Int)) ∧ W.cell? ⟨g, k * 11 + 2, none⟩ = some (Value.int .u64 (ul : Int)) ∧ W.cell? ⟨g, k * 11 + 3, none⟩ = some (Value.int .i64 ub))) (by kernel_rfl) ?_ (fun hHeld => ?_)
        · (exact HCu.out)
        refine wpAnyH_take (i := 0) (oi := { dst := some 14, op := Go.Op.move (Go.Operand.tmp 4), type := 3, pos := "ref.go:178", after := #[], guard := none }) (v := ?_) rfl (by kernel_rfl) (by kernel_rfl) (by kernel_rfl) (fun _ _ _ h => h) (Or.inl ⟨by rfl, ?_⟩) (by assumption) ?_
        rotate_left
        · intro w hSw
          (try dsimp only at hSw)
          go_simp
          try (with_reducible rfl)
        try simp only [Act.put, List.setIfInBounds_toArray, List.set_cons_zero, List.set_cons_succ]
        refine wpAnyH_take (i := 1) (oi := { dst := some 15, op := Go.Op.binOp Go.BinOp.eql 3 (Go.Operand.tmp 14) (Go.Operand.const (Go.Value.int Go.IntKind.i64 0)) 3, type := 4, pos := "ref.go:178", after := #[{ on := 0, ground := Go.Ground.data }], guard := none }) (v := ?_) rfl (by kernel_rfl) (by kernel_rfl) (by kernel_rfl) (fun _ _ _ h => h) (Or.inl ⟨by rfl, ?_⟩) (by assumption) ?_
        rotate_left
        · intro w hSw
          (try dsimp only at hSw)
          go_simp
          try (with_reducible rfl)
        try simp only [Act.put, List.setIfInBounds_toArray, List.set_cons_zero, List.set_cons_succ]
        refine wpAnyH_take (i := 2) (oi := { dst := some 16, op := Go.Op.move (Go.Operand.tmp 15), type := 4, pos := "ref.go:178", after := #[{ on := 1, ground := Go.Ground.data }], guard := none }) (v := ?_) rfl (by kernel_rfl) (by kernel_rfl) (by kernel_rfl) (fun _ _ _ h => h) (Or.inl ⟨by rfl, ?_⟩) (by assumption) ?_
        rotate_left
        · intro w hSw
          (try dsimp only at hSw)
          go_simp
          try (with_reducible rfl)
        try simp only [Act.put, List.setIfInBounds_toArray, List.set_cons_zero, List.set_cons_succ]
        refine wpAnyH_take (i := 3) (oi := { dst := some 17, op := Go.Op.move (Go.Operand.tmp 0), type := 26, pos := "ref.go:178", after := #[{ on := 2, ground := Go.Ground.guard }], guard := some (2, false) }) (v := undef) rfl (by kernel_rfl) (by kernel_rfl) (by kernel_rfl) (fun _ _ _ h => h) (Or.inr ⟨by rfl, rfl⟩) (by assumption) ?_
        try simp only [Act.put, List.setIfInBounds_toArray, List.set_cons_zero, List.set_cons_succ]
        refine wpAnyH_take (i := 4) (oi := { dst := some 18, op := Go.Op.nilCheck (Go.Operand.tmp 17), type := 0, pos := "ref.go:178", after := #[{ on := 3, ground := Go.Ground.data }, { on := 2, ground := Go.Ground.guard }], guard := some (2, false) }) (v := undef) rfl (by kernel_rfl) (by kernel_rfl) (by kernel_rfl) (fun _ _ _ h => h) (Or.inr ⟨by rfl, rfl⟩) (by assumption) ?_
        try simp only [Act.put, List.setIfInBounds_toArray, List.set_cons_zero, List.set_cons_succ]
        refine wpAnyH_take (i := 5) (oi := { dst := some 19, op := Go.Op.fieldAddr 64 (Go.Operand.tmp 18) 0, type := 0, pos := "ref.go:178", after := #[{ on := 4, ground := Go.Ground.data }, { on := 2, ground := Go.Ground.guard }], guard := some (2, false) }) (v := undef) rfl (by kernel_rfl) (by kernel_rfl) (by kernel_rfl) (fun _ _ _ h => h) (Or.inr ⟨by rfl, rfl⟩) (by assumption) ?_
        try simp only [Act.put, List.setIfInBounds_toArray, List.set_cons_zero, List.set_cons_succ]
        refine wpAnyH_take (i := 6) (oi := { dst := some 20, op := Go.Op.load 62 (Go.Operand.tmp 19), type := 62, pos := "ref.go:178", after := #[{ on := 5, ground := Go.Ground.data }, { on := 2, ground := Go.Ground.guard }], guard := some (2, false) }) (v := undef) rfl (by kernel_rfl) (by kernel_rfl) (by kernel_rfl) (fun _ _ _ h => h) (Or.inr ⟨by rfl, rfl⟩) (by assumption) ?_
        try simp only [Act.put, List.setIfInBounds_toArray, List.set_cons_zero, List.set_cons_succ]
        refine wpAnyH_take (i := 7) (oi := { dst := some 21, op := Go.Op.move (Go.Operand.tmp 4), type := 3, pos := "ref.go:178", after := #[{ on := 2, ground := Go.Ground.guard }], guard := some (2, false) }) (v := undef) rfl (by kernel_rfl) (by kernel_rfl) (by kernel_rfl) (fun _ _ _ h => h) (Or.inr ⟨by rfl, rfl⟩) (by assumption) ?_
        try simp only [Act.put, List.setIfInBounds_toArray, List.set_cons_zero, List.set_cons_succ]
        refine wpAnyH_take (i := 8) (oi := { dst := some 22, op := Go.Op.indexAddr 62 (Go.Operand.tmp 20) (Go.Operand.tmp 21), type := 0, pos := "ref.go:178", after := #[{ on := 6, ground := Go.Ground.data }, { on := 7, ground := Go.Ground.data }, { on := 2, ground := Go.Ground.guard }], guard := some (2, false) }) (v := undef) rfl (by kernel_rfl) (by kernel_rfl) (by kernel_rfl) (fun _ _ _ h => h) (Or.inr ⟨by rfl, rfl⟩) (by assumption) ?_
        try simp only [Act.put, List.setIfInBounds_toArray, List.set_cons_zero, List.set_cons_succ]
        refine wpAnyH_take (i := 9) (oi := { dst := some 23, op := Go.Op.fieldAddr 86 (Go.Operand.tmp 22) 0, type := 0, pos := "ref.go:178", after := #[{ on := 8, ground := Go.Ground.data }, { on := 2, ground := Go.Ground.guard }], guard := some (2, false) }) (v := undef) rfl (by kernel_rfl) (by kernel_rfl) (by kernel_rfl) (fun _ _ _ h => h) (Or.inr ⟨by rfl, rfl⟩) (by assumption) ?_
        try simp only [Act.put, List.setIfInBounds_toArray, List.set_cons_zero, List.set_cons_succ]
        refine wpAnyH_take (i := 10) (oi := { dst := some 24, op := Go.Op.load 32 (Go.Operand.tmp 23), type := 32, pos := "ref.go:178", after := #[{ on := 9, ground := Go.Ground.data }, { on := 2, ground := Go.Ground.guard }], guard := some (2, false) }) (v := undef) rfl (by kernel_rfl) (by kernel_rfl) (by kernel_rfl) (fun _ _ _ h => h) (Or.inr ⟨by rfl, rfl⟩) (by assumption) ?_
        try simp only [Act.put, List.setIfInBounds_toArray, List.set_cons_zero, List.set_cons_succ]
        refine wpAnyH_take (i := 11) (oi := { dst := some 25, op := Go.Op.move (Go.Operand.tmp 0), type := 26, pos := "ref.go:178", after := #[{ on := 2, ground := Go.Ground.guard }], guard := some (2, false) }) (v := undef) rfl (by kernel_rfl) (by kernel_rfl) (by kernel_rfl) (fun _ _ _ h => h) (Or.inr ⟨by rfl, rfl⟩) (by assumption) ?_
        try simp only [Act.put, List.setIfInBounds_toArray, List.set_cons_zero, List.set_cons_succ]
        refine wpAnyH_take (i := 12) (oi := { dst := some 26, op := Go.Op.nilCheck (Go.Operand.tmp 25), type := 0, pos := "ref.go:178", after := #[{ on := 11, ground := Go.Ground.data }, { on := 2, ground := Go.Ground.guard }], guard := some (2, false) }) (v := undef) rfl (by kernel_rfl) (by kernel_rfl) (by kernel_rfl) (fun _ _ _ h => h) (Or.inr ⟨by rfl, rfl⟩) (by assumption) ?_
        try simp only [Act.put, List.setIfInBounds_toArray, List.set_cons_zero, List.set_cons_succ]
        refine wpAnyH_take (i := 13) (oi := { dst := some 27, op := Go.Op.fieldAddr 64 (Go.Operand.tmp 26) 0, type := 0, pos := "ref.go:178", after := #[{ on := 12, ground := Go.Ground.data }, { on := 2, ground := Go.Ground.guard }], guard := some (2, false) }) (v := undef) rfl (by kernel_rfl) (by kernel_rfl) (by kernel_rfl) (fun _ _ _ h => h) (Or.inr ⟨by rfl, rfl⟩) (by assumption) ?_
        try simp only [Act.put, List.setIfInBounds_toArray, List.set_cons_zero, List.set_cons_succ]
        refine wpAnyH_take (i := 14) (oi := { dst := some 28, op := Go.Op.load 62 (Go.Operand.tmp 27), type := 62, pos := "ref.go:178", after := #[{ on := 13, ground := Go.Ground.data }, { on := 2, ground := Go.Ground.guard }], guard := some (2, false) }) (v := undef) rfl (by kernel_rfl) (by kernel_rfl) (by kernel_rfl) (fun _ _ _ h => h) (Or.inr ⟨by rfl, rfl⟩) (by assumption) ?_
        try simp only [Act.put, List.setIfInBounds_toArray, List.set_cons_zero, List.set_cons_succ]
        refine wpAnyH_take (i := 15) (oi := { dst := some 29, op := Go.Op.move (Go.Operand.tmp 4), type := 3, pos := "ref.go:178", after := #[{ on := 2, ground := Go.Ground.guard }], guard := some (2, false) }) (v := undef) rfl (by kernel_rfl) (by kernel_rfl) (by kernel_rfl) (fun _ _ _ h => h) (Or.inr ⟨by rfl, rfl⟩) (by assumption) ?_
        try simp only [Act.put, List.setIfInBounds_toArray, List.set_cons_zero, List.set_cons_succ]
        refine wpAnyH_take (i := 16) (oi := { dst := some 30, op := Go.Op.binOp Go.BinOp.sub 3 (Go.Operand.tmp 29) (Go.Operand.const (Go.Value.int Go.IntKind.i64 1)) 3, type := 3, pos := "ref.go:178", after := #[{ on := 15, ground := Go.Ground.data }, { on := 2, ground := Go.Ground.guard }], guard := some (2, false) }) (v := undef) rfl (by kernel_rfl) (by kernel_rfl) (by kernel_rfl) (fun _ _ _ h => h) (Or.inr ⟨by rfl, rfl⟩) (by assumption) ?_
        try simp only [Act.put, List.setIfInBounds_toArray, List.set_cons_zero, List.set_cons_succ]
        refine wpAnyH_take (i := 17) (oi := { dst := some 31, op := Go.Op.indexAddr 62 (Go.Operand.tmp 28) (Go.Operand.tmp 30), type := 0, pos := "ref.go:178", after := #[{ on := 14, ground := Go.Ground.data }, { on := 16, ground := Go.Ground.data }, { on := 2, ground := Go.Ground.guard }], guard := some (2, false) }) (v := undef) rfl (by kernel_rfl) (by kernel_rfl) (by kernel_rfl) (fun _ _ _ h => h) (Or.inr ⟨by rfl, rfl⟩) (by assumption) ?_
        try simp only [Act.put, List.setIfInBounds_toArray, List.set_cons_zero, List.set_cons_succ]
        refine wpAnyH_take (i := 18) (oi := { dst := some 32, op := Go.Op.fieldAddr 86 (Go.Operand.tmp 31) 0, type := 0, pos := "ref.go:178", after := #[{ on := 17, ground := Go.Ground.data }, { on := 2, ground := Go.Ground.guard }], guard := some (2, false) }) (v := undef) rfl (by kernel_rfl) (by kernel_rfl) (by kernel_rfl) (fun _ _ _ h => h) (Or.inr ⟨by rfl, rfl⟩) (by assumption) ?_
        try simp only [Act.put, List.setIfInBounds_toArray, List.set_cons_zero, List.set_cons_succ]
        refine wpAnyH_take (i := 19) (oi := { dst := some 33, op := Go.Op.load 32 (Go.Operand.tmp 32), type := 32, pos := "ref.go:178", after := #[{ on := 18, ground := Go.Ground.data }, { on := 2, ground := Go.Ground.guard }], guard := some (2, false) }) (v := undef) rfl (by kernel_rfl) (by kernel_rfl) (by kernel_rfl) (fun _ _ _ h => h) (Or.inr ⟨by rfl, rfl⟩) (by assumption) ?_
        try simp only [Act.put, List.setIfInBounds_toArray, List.set_cons_zero, List.set_cons_succ]
        refine wpAnyH_take (i := 20) (oi := { dst := some 34, op := Go.Op.binOp Go.BinOp.neq 32 (Go.Operand.tmp 24) (Go.Operand.tmp 33) 32, type := 4, pos := "ref.go:178", after := #[{ on := 10, ground := Go.Ground.data }, { on := 19, ground := Go.Ground.data }, { on := 2, ground := Go.Ground.guard }], guard := some (2, false) }) (v := undef) rfl (by kernel_rfl) (by kernel_rfl) (by kernel_rfl) (fun _ _ _ h => h) (Or.inr ⟨by rfl, rfl⟩) (by assumption) ?_
        try simp only [Act.put, List.setIfInBounds_toArray, List.set_cons_zero, List.set_cons_succ]
        refine wpAnyH_take (i := 21) (oi := { dst := some 35, op := Go.Op.pick (Go.Operand.tmp 16) (Go.Operand.const (Go.Value.bool true)) (Go.Operand.tmp 34), type := 4, pos := "ref.go:178", after := #[{ on := 2, ground := Go.Ground.data }, { on := 20, ground := Go.Ground.data }], guard := none }) (v := ?_) rfl (by kernel_rfl) (by kernel_rfl) (by kernel_rfl) (fun _ _ _ h => h) (Or.inl ⟨by rfl, ?_⟩) (by assumption) ?_
        rotate_left
        · intro w hSw
          (try dsimp only at hSw)
          go_simp
          try (with_reducible rfl)
        try simp only [Act.put, List.setIfInBounds_toArray, List.set_cons_zero, List.set_cons_succ]
        refine wpAnyH_done (by kernel_rfl) ?_ _
        obtain ⟨w4, hw4⟩ : ∃ w4, wr.drew = w4 := ⟨_, rfl⟩
        have HO4 := Lib.hid hO.out.drew
        have HT4 := Lib.hid hT.out.drew
        have HC4 : Hid (wr.drew.cell? ⟨t, 0, none⟩ = some (Value.slice (some ⟨g, 0, none⟩) n cA) ∧ wr.drew.cell? ⟨g, k * 11, none⟩ = some (Value.bool us) ∧ wr.drew.cell? ⟨g, k * 11 + 1, none⟩ = some (Value.int .u64 (uh : Int)) ∧ wr.drew.cell? ⟨g, k * 11 + 2, none⟩ = some (Value.int .u64 (ul : Int)) ∧ wr.drew.cell? ⟨g, k * 11 + 3, none⟩ = some (Value.int .i64 ub)) := Lib.hid HCu.out
        rw [hw4] at HO4 HT4 HC4 ⊢
        clear hw4 c0
        have HFl : Hid (prefK L (k + 1) = prefK L k ++ [((us, uh, ul), ub)]) := Lib.hid (by rw [prefK_at Hu.out, HNew.out]; rfl)
        have hfm : f + 1 ≤ n := by have h1 := prefK_le L (k + 1); rw [HFl.out, List.length_append, List.length_singleton, hF.out] at h1; omega
        have HO5 : Hid ((w4.alloc (.cells #[.bool us, .int .u64 (uh : Int), .int .u64 (ul : Int), .int .i64 ub] 32)).ownsRow xb 32 4 (.slice A1 f cc) f ((prefK L k).flatMap pfC)) := Lib.hid (HO4.out.alloc _)
        have HSr := Lib.hid (src_new w4 32 [.bool us, .int .u64 (uh : Int), .int .u64 (ul : Int), .int .i64 ub])
        have HSz5 : Hid (xb ≤ (w4.alloc (.cells #[.bool us, .int .u64 (uh : Int), .int .u64 (ul : Int), .int .i64 ub] 32)).heap.size) := Lib.hid (by have h1 := HT4.out.size; have h2 := HXb.out; rw [World.size_alloc]; omega)
        have HT5 := Lib.hid (HT4.out.alloc (.cells #[.bool us, .int .u64 (uh : Int), .int .u64 (ul : Int), .int .i64 ub] 32))
        have HSzf : Hid (f ≤ 1000000) := Lib.hid (by omega)
        obtain ⟨z0, z1, z2, z3, z4⟩ := HC4.out
        go_wp2_with (at_builtin; (refine wpList_apc 44 32 (.agg #[.bool false, .int .u64 0, .int .u64 0, .int .i64 0]) 4 32 Tryz.underlying44 infoPf rfl (by decide) (by decide) _ rfl (.tmp 36) (.tmp 45) rfl xb (.slice A1 f cc) f ((prefK L k).flatMap pfC) rfl HO5.out ⟨w4.heap.size, 0, none⟩ 1 [.bool us, .int .u64 (uh : Int), .int .u64 (ul : Int), .int .i64 ub] rfl rfl (fun j u hj => HSr.out j u hj) (by simp [Value.oneCell']) HSzf.out HSz5.out ?_; intro v7 w7 hown hg hv; obtain ⟨A7, c7, e7, -, -⟩ := own_sl hown; subst e7; have HO7 := Lib.hid hown; have HT7 := Lib.hid (HT5.out.trans_fre (Tch.of_grown' (S := obI (.slice A1 f cc)) hg (fun k e => by rw [obI_some e]; simp)) (fun s hs => .inr (by have := (own_geI HO5.out s hs).1; have := HXb.out; omega))); clear hown hg hv))
        go_roundw
        case rel => exact ⟨k + 1, f + 1, A7, c7, rfl, by go_num, hkn, hfm, Lib.hid (by rw [HFl.out, List.length_append, hF.out]; rfl), Lib.hid (by rw [HFl.out, List.flatMap_append]; exact HO7.out), HT7⟩
        case measure => simp [intOf]; omega
      · have bz : ((k : Int) == 0) = false := by simpa using hk0
        obtain ⟨j, hkj⟩ : ∃ j, j + 1 = k := ⟨k - 1, by omega⟩
        obtain ⟨v, hv⟩ : ∃ v, L[j]? = some v := ⟨_, List.getElem?_eq_getElem (by rw [HN.out]; omega)⟩
        obtain ⟨v0, v1, v2, v3, -⟩ := td_cells d3 hv
        obtain ⟨b, hb⟩ : ∃ b, decide ((((us, uh, ul), ub) : PfI) = v.1) = b := ⟨_, rfl⟩
        have HNw : Hid (newP? L k = !b) := Lib.hid (by rw [← hkj, newP_succ (by rw [hkj]; exact Hu.out) hv, ← hb]; simp only [eq_comm])
        obtain ⟨⟨⟨vs, vh, vl⟩, vb⟩, vx⟩ := v
        have HQ : ∀ W, (binOp .neq 32 (.agg #[.bool us, .int .u64 (uh : Int), .int .u64 (ul : Int), .int .i64 ub]) (.agg #[.bool vs, .int .u64 (vh : Int), .int .u64 (vl : Int), .int .i64 vb])).run Tryz.prog W = .ok (.bool (!b)) W := eq_neq 32 _ _ (eq_pfR ((us, uh, ul), ub) ((vs, vh, vl), vb) hb)
        have j1 : IntKind.i64.wrap ((k : Int) - 1) = (j : Int) := by rw [IntKind.wrap_i64]; omega
        have jI : (0 : Int) ≤ (j : Int) ∧ (j : Int) < (n : Int) := by omega
        have j0 : (0 : Int) ≤ (j : Int) := jI.1
        have j2 : (j : Int) < (n : Int) := jI.2
        have HCv : Hid ((wr.cell? ⟨t, 0, none⟩ = some (Value.slice (some ⟨g, 0, none⟩) n cA) ∧ wr.cell? ⟨g, k * 11, none⟩ = some (Value.bool us) ∧ wr.cell? ⟨g, k * 11 + 1, none⟩ = some (Value.int .u64 (uh : Int)) ∧ wr.cell? ⟨g, k * 11 + 2, none⟩ = some (Value.int .u64 (ul : Int)) ∧ wr.cell? ⟨g, k * 11 + 3, none⟩ = some (Value.int .i64 ub)) ∧ wr.cell? ⟨g, j * 11, none⟩ = some (Value.bool vs) ∧ wr.cell? ⟨g, j * 11 + 1, none⟩ = some (Value.int .u64 (vh : Int)) ∧ wr.cell? ⟨g, j * 11 + 2, none⟩ = some (Value.int .u64 (vl : Int)) ∧ wr.cell? ⟨g, j * 11 + 3, none⟩ = some (Value.int .i64 vb)) := Lib.hid ⟨HCu.out, v0, v1, v2, v3⟩
        clear d3 hu hv hb u0 u1 u2 u3 v0 v1 v2 v3 jI hkj hk0
        go_wp2
        refine wp_region_held_drew (S := (fun W => (W.cell? ⟨t, 0, none⟩ = some (Value.slice (some ⟨g, 0, none⟩) n cA) ∧ W.cell? ⟨g, k * 11, none⟩ = some (Value.bool us) ∧ W.cell? ⟨g, k * 11 + 1, none⟩ = some (Value.int .u64 (uh : Int)) ∧ W.cell? ⟨g, k * 11 + 2, none⟩ = some (Value.int .u64 (ul : Int)) ∧ W.cell? ⟨g, k * 11 + 3, none⟩ = some (Value.int .i64 ub)) ∧ W.cell? ⟨g, j * 11, none⟩ = some (Value.bool vs) ∧ W.cell? ⟨g, j * 11 + 1, none⟩ = some (Value.int .u64 (vh : Int)) ∧ W.cell? ⟨g, j * 11 + 2, none⟩ = some (Value.int .u64 (vl : Int)) ∧ W.cell? ⟨g, j * 11 + 3, none⟩ = some (Value.int .i64 vb))) (by kernel_rfl) ?_ (fun hHeld => ?_)
        · (exact HCv.out)
        refine wpAnyH_take (i := 0) (oi := { dst := some 14, op := Go.Op.move (Go.Operand.tmp 4), type := 3, pos := "ref.go:178", after := #[], guard := none }) (v := ?_) rfl (by kernel_rfl) (by kernel_rfl) (by kernel_rfl) (fun _ _ _ h => h) (Or.inl ⟨by rfl, ?_⟩) (by assumption) ?_
        rotate_left
        · intro w hSw
          (try dsimp only at hSw)
          go_simp
          try (with_reducible rfl)
        try simp only [Act.put, List.setIfInBounds_toArray, List.set_cons_zero, List.set_cons_succ]
        refine wpAnyH_take (i := 1) (oi := { dst := some 15, op := Go.Op.binOp Go.BinOp.eql 3 (Go.Operand.tmp 14) (Go.Operand.const (Go.Value.int Go.IntKind.i64 0)) 3, type := 4, pos := "ref.go:178", after := #[{ on := 0, ground := Go.Ground.data }], guard := none }) (v := ?_) rfl (by kernel_rfl) (by kernel_rfl) (by kernel_rfl) (fun _ _ _ h => h) (Or.inl ⟨by rfl, ?_⟩) (by assumption) ?_
        rotate_left
        · intro w hSw
          (try dsimp only at hSw)
          go_simp
          try (with_reducible rfl)
        try simp only [Act.put, List.setIfInBounds_toArray, List.set_cons_zero, List.set_cons_succ]
        refine wpAnyH_take (i := 2) (oi := { dst := some 16, op := Go.Op.move (Go.Operand.tmp 15), type := 4, pos := "ref.go:178", after := #[{ on := 1, ground := Go.Ground.data }], guard := none }) (v := ?_) rfl (by kernel_rfl) (by kernel_rfl) (by kernel_rfl) (fun _ _ _ h => h) (Or.inl ⟨by rfl, ?_⟩) (by assumption) ?_
        rotate_left
        · intro w hSw
          (try dsimp only at hSw)
          go_simp
          try (with_reducible rfl)
        try simp only [Act.put, List.setIfInBounds_toArray, List.set_cons_zero, List.set_cons_succ]
        refine wpAnyH_take (i := 3) (oi := { dst := some 17, op := Go.Op.move (Go.Operand.tmp 0), type := 26, pos := "ref.go:178", after := #[{ on := 2, ground := Go.Ground.guard }], guard := some (2, false) }) (v := ?_) rfl (by kernel_rfl) (by kernel_rfl) (by kernel_rfl) (fun _ _ _ h => h) (Or.inl ⟨by rfl, ?_⟩) (by assumption) ?_
        rotate_left
        · intro w hSw
          (try dsimp only at hSw)
          go_simp
          try (with_reducible rfl)
        try simp only [Act.put, List.setIfInBounds_toArray, List.set_cons_zero, List.set_cons_succ]
        refine wpAnyH_take (i := 4) (oi := { dst := some 18, op := Go.Op.nilCheck (Go.Operand.tmp 17), type := 0, pos := "ref.go:178", after := #[{ on := 3, ground := Go.Ground.data }, { on := 2, ground := Go.Ground.guard }], guard := some (2, false) }) (v := ?_) rfl (by kernel_rfl) (by kernel_rfl) (by kernel_rfl) (fun _ _ _ h => h) (Or.inl ⟨by rfl, ?_⟩) (by assumption) ?_
        rotate_left
        · intro w hSw
          (try dsimp only at hSw)
          go_simp
          try (with_reducible rfl)
        try simp only [Act.put, List.setIfInBounds_toArray, List.set_cons_zero, List.set_cons_succ]
        refine wpAnyH_take (i := 5) (oi := { dst := some 19, op := Go.Op.fieldAddr 64 (Go.Operand.tmp 18) 0, type := 0, pos := "ref.go:178", after := #[{ on := 4, ground := Go.Ground.data }, { on := 2, ground := Go.Ground.guard }], guard := some (2, false) }) (v := ?_) rfl (by kernel_rfl) (by kernel_rfl) (by kernel_rfl) (fun _ _ _ h => h) (Or.inl ⟨by rfl, ?_⟩) (by assumption) ?_
        rotate_left
        · intro w hSw
          (try dsimp only at hSw)
          go_simp
          try (with_reducible rfl)
        try simp only [Act.put, List.setIfInBounds_toArray, List.set_cons_zero, List.set_cons_succ]
        refine wpAnyH_take (i := 6) (oi := { dst := some 20, op := Go.Op.load 62 (Go.Operand.tmp 19), type := 62, pos := "ref.go:178", after := #[{ on := 5, ground := Go.Ground.data }, { on := 2, ground := Go.Ground.guard }], guard := some (2, false) }) (v := ?_) rfl (by kernel_rfl) (by kernel_rfl) (by kernel_rfl) (fun _ _ _ h => h) (Or.inl ⟨by rfl, ?_⟩) (by assumption) ?_
        rotate_left
        · intro w hSw
          (try dsimp only at hSw)
          go_simp
          try (with_reducible rfl)
        try simp only [Act.put, List.setIfInBounds_toArray, List.set_cons_zero, List.set_cons_succ]
        refine wpAnyH_take (i := 7) (oi := { dst := some 21, op := Go.Op.move (Go.Operand.tmp 4), type := 3, pos := "ref.go:178", after := #[{ on := 2, ground := Go.Ground.guard }], guard := some (2, false) }) (v := ?_) rfl (by kernel_rfl) (by kernel_rfl) (by kernel_rfl) (fun _ _ _ h => h) (Or.inl ⟨by rfl, ?_⟩) (by assumption) ?_
        rotate_left
        · intro w hSw
          (try dsimp only at hSw)
          go_simp
          try (with_reducible rfl)
        try simp only [Act.put, List.setIfInBounds_toArray, List.set_cons_zero, List.set_cons_succ]
        refine wpAnyH_take (i := 8) (oi := { dst := some 22, op := Go.Op.indexAddr 62 (Go.Operand.tmp 20) (Go.Operand.tmp 21), type := 0, pos := "ref.go:178", after := #[{ on := 6, ground := Go.Ground.data }, { on := 7, ground := Go.Ground.data }, { on := 2, ground := Go.Ground.guard }], guard := some (2, false) }) (v := ?_) rfl (by kernel_rfl) (by kernel_rfl) (by kernel_rfl) (fun _ _ _ h => h) (Or.inl ⟨by rfl, ?_⟩) (by assumption) ?_
        rotate_left
        · intro w hSw
          (try dsimp only at hSw)
          go_simp
          try (with_reducible rfl)
        try simp only [Act.put, List.setIfInBounds_toArray, List.set_cons_zero, List.set_cons_succ]
        refine wpAnyH_take (i := 9) (oi := { dst := some 23, op := Go.Op.fieldAddr 86 (Go.Operand.tmp 22) 0, type := 0, pos := "ref.go:178", after := #[{ on := 8, ground := Go.Ground.data }, { on := 2, ground := Go.Ground.guard }], guard := some (2, false) }) (v := ?_) rfl (by kernel_rfl) (by kernel_rfl) (by kernel_rfl) (fun _ _ _ h => h) (Or.inl ⟨by rfl, ?_⟩) (by assumption) ?_
        rotate_left
        · intro w hSw
          (try dsimp only at hSw)
          go_simp
          try (with_reducible rfl)
        try simp only [Act.put, List.setIfInBounds_toArray, List.set_cons_zero, List.set_cons_succ]
        refine wpAnyH_take (i := 10) (oi := { dst := some 24, op := Go.Op.load 32 (Go.Operand.tmp 23), type := 32, pos := "ref.go:178", after := #[{ on := 9, ground := Go.Ground.data }, { on := 2, ground := Go.Ground.guard }], guard := some (2, false) }) (v := ?_) rfl (by kernel_rfl) (by kernel_rfl) (by kernel_rfl) (fun _ _ _ h => h) (Or.inl ⟨by rfl, ?_⟩) (by assumption) ?_
        rotate_left
        · intro w hSw
          (try dsimp only at hSw)
          go_simp
          try (with_reducible rfl)
        try simp only [Act.put, List.setIfInBounds_toArray, List.set_cons_zero, List.set_cons_succ]
        refine wpAnyH_take (i := 11) (oi := { dst := some 25, op := Go.Op.move (Go.Operand.tmp 0), type := 26, pos := "ref.go:178", after := #[{ on := 2, ground := Go.Ground.guard }], guard := some (2, false) }) (v := ?_) rfl (by kernel_rfl) (by kernel_rfl) (by kernel_rfl) (fun _ _ _ h => h) (Or.inl ⟨by rfl, ?_⟩) (by assumption) ?_
        rotate_left
        · intro w hSw
          (try dsimp only at hSw)
          go_simp
          try (with_reducible rfl)
        try simp only [Act.put, List.setIfInBounds_toArray, List.set_cons_zero, List.set_cons_succ]
        refine wpAnyH_take (i := 12) (oi := { dst := some 26, op := Go.Op.nilCheck (Go.Operand.tmp 25), type := 0, pos := "ref.go:178", after := #[{ on := 11, ground := Go.Ground.data }, { on := 2, ground := Go.Ground.guard }], guard := some (2, false) }) (v := ?_) rfl (by kernel_rfl) (by kernel_rfl) (by kernel_rfl) (fun _ _ _ h => h) (Or.inl ⟨by rfl, ?_⟩) (by assumption) ?_
        rotate_left
        · intro w hSw
          (try dsimp only at hSw)
          go_simp
          try (with_reducible rfl)
        try simp only [Act.put, List.setIfInBounds_toArray, List.set_cons_zero, List.set_cons_succ]
        refine wpAnyH_take (i := 13) (oi := { dst := some 27, op := Go.Op.fieldAddr 64 (Go.Operand.tmp 26) 0, type := 0, pos := "ref.go:178", after := #[{ on := 12, ground := Go.Ground.data }, { on := 2, ground := Go.Ground.guard }], guard := some (2, false) }) (v := ?_) rfl (by kernel_rfl) (by kernel_rfl) (by kernel_rfl) (fun _ _ _ h => h) (Or.inl ⟨by rfl, ?_⟩) (by assumption) ?_
        rotate_left
        · intro w hSw
          (try dsimp only at hSw)
          go_simp
          try (with_reducible rfl)
        try simp only [Act.put, List.setIfInBounds_toArray, List.set_cons_zero, List.set_cons_succ]
        refine wpAnyH_take (i := 14) (oi := { dst := some 28, op := Go.Op.load 62 (Go.Operand.tmp 27), type := 62, pos := "ref.go:178", after := #[{ on := 13, ground := Go.Ground.data }, { on := 2, ground := Go.Ground.guard }], guard := some (2, false) }) (v := ?_) rfl (by kernel_rfl) (by kernel_rfl) (by kernel_rfl) (fun _ _ _ h => h) (Or.inl ⟨by rfl, ?_⟩) (by assumption) ?_
        rotate_left
        · intro w hSw
          (try dsimp only at hSw)
          go_simp
          try (with_reducible rfl)
        try simp only [Act.put, List.setIfInBounds_toArray, List.set_cons_zero, List.set_cons_succ]
        refine wpAnyH_take (i := 15) (oi := { dst := some 29, op := Go.Op.move (Go.Operand.tmp 4), type := 3, pos := "ref.go:178", after := #[{ on := 2, ground := Go.Ground.guard }], guard := some (2, false) }) (v := ?_) rfl (by kernel_rfl) (by kernel_rfl) (by kernel_rfl) (fun _ _ _ h => h) (Or.inl ⟨by rfl, ?_⟩) (by assumption) ?_
        rotate_left
        · intro w hSw
          (try dsimp only at hSw)
          go_simp
          try (with_reducible rfl)
        try simp only [Act.put, List.setIfInBounds_toArray, List.set_cons_zero, List.set_cons_succ]
        refine wpAnyH_take (i := 16) (oi := { dst := some 30, op := Go.Op.binOp Go.BinOp.sub 3 (Go.Operand.tmp 29) (Go.Operand.const (Go.Value.int Go.IntKind.i64 1)) 3, type := 3, pos := "ref.go:178", after := #[{ on := 15, ground := Go.Ground.data }, { on := 2, ground := Go.Ground.guard }], guard := some (2, false) }) (v := ?_) rfl (by kernel_rfl) (by kernel_rfl) (by kernel_rfl) (fun _ _ _ h => h) (Or.inl ⟨by rfl, ?_⟩) (by assumption) ?_
        rotate_left
        · intro w hSw
          (try dsimp only at hSw)
          go_simp
          try (with_reducible rfl)
        try simp only [Act.put, List.setIfInBounds_toArray, List.set_cons_zero, List.set_cons_succ]
        refine wpAnyH_take (i := 17) (oi := { dst := some 31, op := Go.Op.indexAddr 62 (Go.Operand.tmp 28) (Go.Operand.tmp 30), type := 0, pos := "ref.go:178", after := #[{ on := 14, ground := Go.Ground.data }, { on := 16, ground := Go.Ground.data }, { on := 2, ground := Go.Ground.guard }], guard := some (2, false) }) (v := ?_) rfl (by kernel_rfl) (by kernel_rfl) (by kernel_rfl) (fun _ _ _ h => h) (Or.inl ⟨by rfl, ?_⟩) (by assumption) ?_
        rotate_left
        · intro w hSw
          (try dsimp only at hSw)
          go_simp
          try (with_reducible rfl)
        try simp only [Act.put, List.setIfInBounds_toArray, List.set_cons_zero, List.set_cons_succ]
        refine wpAnyH_take (i := 18) (oi := { dst := some 32, op := Go.Op.fieldAddr 86 (Go.Operand.tmp 31) 0, type := 0, pos := "ref.go:178", after := #[{ on := 17, ground := Go.Ground.data }, { on := 2, ground := Go.Ground.guard }], guard := some (2, false) }) (v := ?_) rfl (by kernel_rfl) (by kernel_rfl) (by kernel_rfl) (fun _ _ _ h => h) (Or.inl ⟨by rfl, ?_⟩) (by assumption) ?_
        rotate_left
        · intro w hSw
          (try dsimp only at hSw)
          go_simp
          try (with_reducible rfl)
        try simp only [Act.put, List.setIfInBounds_toArray, List.set_cons_zero, List.set_cons_succ]
        refine wpAnyH_take (i := 19) (oi := { dst := some 33, op := Go.Op.load 32 (Go.Operand.tmp 32), type := 32, pos := "ref.go:178", after := #[{ on := 18, ground := Go.Ground.data }, { on := 2, ground := Go.Ground.guard }], guard := some (2, false) }) (v := ?_) rfl (by kernel_rfl) (by kernel_rfl) (by kernel_rfl) (fun _ _ _ h => h) (Or.inl ⟨by rfl, ?_⟩) (by assumption) ?_
        rotate_left
        · intro w hSw
          (try dsimp only at hSw)
          go_simp
          try (with_reducible rfl)
        try simp only [Act.put, List.setIfInBounds_toArray, List.set_cons_zero, List.set_cons_succ]
        refine wpAnyH_take (i := 20) (oi := { dst := some 34, op := Go.Op.binOp Go.BinOp.neq 32 (Go.Operand.tmp 24) (Go.Operand.tmp 33) 32, type := 4, pos := "ref.go:178", after := #[{ on := 10, ground := Go.Ground.data }, { on := 19, ground := Go.Ground.data }, { on := 2, ground := Go.Ground.guard }], guard := some (2, false) }) (v := ?_) rfl (by kernel_rfl) (by kernel_rfl) (by kernel_rfl) (fun _ _ _ h => h) (Or.inl ⟨by rfl, ?_⟩) (by assumption) ?_
        rotate_left
        · intro w hSw
          (try dsimp only at hSw)
          go_simp
          try (with_reducible rfl)
        try simp only [Act.put, List.setIfInBounds_toArray, List.set_cons_zero, List.set_cons_succ]
        refine wpAnyH_take (i := 21) (oi := { dst := some 35, op := Go.Op.pick (Go.Operand.tmp 16) (Go.Operand.const (Go.Value.bool true)) (Go.Operand.tmp 34), type := 4, pos := "ref.go:178", after := #[{ on := 2, ground := Go.Ground.data }, { on := 20, ground := Go.Ground.data }], guard := none }) (v := ?_) rfl (by kernel_rfl) (by kernel_rfl) (by kernel_rfl) (fun _ _ _ h => h) (Or.inl ⟨by rfl, ?_⟩) (by assumption) ?_
        rotate_left
        · intro w hSw
          (try dsimp only at hSw)
          go_simp
          try (with_reducible rfl)
        try simp only [Act.put, List.setIfInBounds_toArray, List.set_cons_zero, List.set_cons_succ]
        refine wpAnyH_done (by kernel_rfl) ?_ _
        clear HCv HQ
        obtain ⟨w4, hw4⟩ : ∃ w4, wr.drew = w4 := ⟨_, rfl⟩
        have HO4 := Lib.hid hO.out.drew
        have HT4 := Lib.hid hT.out.drew
        have HC4 : Hid (wr.drew.cell? ⟨t, 0, none⟩ = some (Value.slice (some ⟨g, 0, none⟩) n cA) ∧ wr.drew.cell? ⟨g, k * 11, none⟩ = some (Value.bool us) ∧ wr.drew.cell? ⟨g, k * 11 + 1, none⟩ = some (Value.int .u64 (uh : Int)) ∧ wr.drew.cell? ⟨g, k * 11 + 2, none⟩ = some (Value.int .u64 (ul : Int)) ∧ wr.drew.cell? ⟨g, k * 11 + 3, none⟩ = some (Value.int .i64 ub)) := Lib.hid HCu.out
        rw [hw4] at HO4 HT4 HC4 ⊢
        clear hw4 c0
        cases b with
        | true =>
          have HFl : Hid (prefK L (k + 1) = prefK L k) := Lib.hid (by rw [prefK_at Hu.out, HNw.out]; rfl)
          go_wp2
          go_roundw
          case rel => exact ⟨k + 1, f, A1, cc, rfl, by go_num, hkn, hf, by rw [HFl.out]; exact hF, by rw [HFl.out]; exact HO4, HT4⟩
          case measure => simp [intOf]; omega
        | false =>
          have HNew : Hid (newP? L k = true) := Lib.hid (by rw [HNw.out]; rfl)
          have HFl : Hid (prefK L (k + 1) = prefK L k ++ [((us, uh, ul), ub)]) := Lib.hid (by rw [prefK_at Hu.out, HNew.out]; rfl)
          have hfm : f + 1 ≤ n := by have h1 := prefK_le L (k + 1); rw [HFl.out, List.length_append, List.length_singleton, hF.out] at h1; omega
          have HO5 : Hid ((w4.alloc (.cells #[.bool us, .int .u64 (uh : Int), .int .u64 (ul : Int), .int .i64 ub] 32)).ownsRow xb 32 4 (.slice A1 f cc) f ((prefK L k).flatMap pfC)) := Lib.hid (HO4.out.alloc _)
          have HSr := Lib.hid (src_new w4 32 [.bool us, .int .u64 (uh : Int), .int .u64 (ul : Int), .int .i64 ub])
          have HSz5 : Hid (xb ≤ (w4.alloc (.cells #[.bool us, .int .u64 (uh : Int), .int .u64 (ul : Int), .int .i64 ub] 32)).heap.size) := Lib.hid (by have h1 := HT4.out.size; have h2 := HXb.out; rw [World.size_alloc]; omega)
          have HT5 := Lib.hid (HT4.out.alloc (.cells #[.bool us, .int .u64 (uh : Int), .int .u64 (ul : Int), .int .i64 ub] 32))
          have HSzf : Hid (f ≤ 1000000) := Lib.hid (by omega)
          obtain ⟨z0, z1, z2, z3, z4⟩ := HC4.out
          go_wp2_with (at_builtin; (refine wpList_apc 44 32 (.agg #[.bool false, .int .u64 0, .int .u64 0, .int .i64 0]) 4 32 Tryz.underlying44 infoPf rfl (by decide) (by decide) _ rfl (.tmp 36) (.tmp 45) rfl xb (.slice A1 f cc) f ((prefK L k).flatMap pfC) rfl HO5.out ⟨w4.heap.size, 0, none⟩ 1 [.bool us, .int .u64 (uh : Int), .int .u64 (ul : Int), .int .i64 ub] rfl rfl (fun j u hj => HSr.out j u hj) (by simp [Value.oneCell']) HSzf.out HSz5.out ?_; intro v7 w7 hown hg hv; obtain ⟨A7, c7, e7, -, -⟩ := own_sl hown; subst e7; have HO7 := Lib.hid hown; have HT7 := Lib.hid (HT5.out.trans_fre (Tch.of_grown' (S := obI (.slice A1 f cc)) hg (fun k e => by rw [obI_some e]; simp)) (fun s hs => .inr (by have := (own_geI HO5.out s hs).1; have := HXb.out; omega))); clear hown hg hv))
          go_roundw
          case rel => exact ⟨k + 1, f + 1, A7, c7, rfl, by go_num, hkn, hfm, Lib.hid (by rw [HFl.out, List.length_append, hF.out]; rfl), Lib.hid (by rw [HFl.out, List.flatMap_append]; exact HO7.out), HT7⟩
          case measure => simp [intOf]; omega
    · obtain rfl : k = n := by omega
      have kI : ¬ (k : Int) < (k : Int) := by omega
      have HAll : Hid (prefK L k = prefsI L) := Lib.hid (by rw [← HN.out]; rfl)
      have HO9 := Lib.hid hO.out
      rw [HAll.out] at hF HO9
      have HF9 := Lib.hid hF.out
      have HT9 := Lib.hid hT.out
      clear hkn hk hF hO hT
      go_wp2
      go_ret
      exact ⟨A1, cc, by rw [HF9.out]; rfl, by rw [HF9.out, HXb.out]; exact HO9.out, HT9.out⟩
end Go.Proofs.YtjlmgkdieffjcaaGreatDoor
