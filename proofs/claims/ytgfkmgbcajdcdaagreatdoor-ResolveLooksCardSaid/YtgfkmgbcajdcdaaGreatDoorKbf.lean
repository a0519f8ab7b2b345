/-
  Several texts in one: RwF, TrN.
-/
import Derived.Test.YtgfkmgbcajdcdaaGreatDoorKas
import Derived.Test.YtgfkmgbcajdcdaaGreatDoorKbe
import Derived.Test.YtgfkmgbcajdcdaaGreatDoorKap
namespace Go.Proofs.YtgfkmgbcajdcdaaGreatDoor
open Go.RowKit Ifs
set_option linter.unusedVariables false

theorem hldP_bits {p : PfI} {a : AdR} (h : hldP p a = true) : 0 ≤ p.2 ∧ p.2 ≤ 128 := by
  unfold hldP hld at h
  simp only [Bool.and_eq_true] at h
  have h1 := okn_iff.1 h.1.1.1.2
  have h2 : wd a.1 ≤ 128 := by unfold wd; split <;> omega
  omega
set_option maxRecDepth 100000 in
set_option maxHeartbeats 8000000 in
theorem dlook_any (A : Option Addr) (n c : Nat) (l : List EnI) (hn : l.length = n) (hn9 : n ≤ 1000000) (a : AdR) (ha : N64 a.2.1 ∧ N64 a.2.2) (hp : ∀ e ∈ l, N64 e.1.1.2.1 ∧ N64 e.1.1.2.2) (w : World) (h : RowE w 0 A n c l) :
    Calls Tryz.prog 30 #[.slice A n c, adR a] w fun e w' => e = .returned (lookV (lookI l a)) ∧ Tch w w' [] := by
  have HRow := Lib.hid (fun W (hT : Tch w W []) => own_tch h hT (by simp))
  have HN := Lib.hid hn
  have HA := Lib.hid ha
  have HPn := Lib.hid hp
  have HNo := Lib.hid (look_none (l := l) (a := a)).2
  have HSo := Lib.hid (fun i e => look_some (l := l) (a := a) (i := i) (e := e))
  obtain ⟨ads, ah, al⟩ := a
  obtain ⟨ab, hab⟩ : ∃ ab, w.heap.size = ab := ⟨_, rfl⟩
  obtain ⟨W1, hW1⟩ : ∃ W, w.alloc (.cells #[.bool ads, .int .u64 (ah : Int), .int .u64 (al : Int)] 28) = W := ⟨_, rfl⟩
  obtain ⟨rb, hrb⟩ : ∃ rb, ab + 1 = rb := ⟨_, rfl⟩
  obtain ⟨W0, hW0⟩ : ∃ W, W1.alloc (.cells #[.int .i64 0, .bool false, .int .u64 0, .int .u64 0, .bool false] 43) = W := ⟨_, rfl⟩
  have z1 : W1.heap.size = rb := by rw [← hW1, World.size_alloc, hab, hrb]
  have hT0 : Tch w W0 [] := hW0 ▸ hW1 ▸ (((Tch.refl w []).alloc _).alloc _)
  have hX : Blk W0 ab 28 #[.bool ads, .int .u64 (ah : Int), .int .u64 (al : Int)] := hW0 ▸ hW1 ▸ hab ▸ ((Blk.new w _ _).alloc _)
  have hR : Blk W0 rb 43 #[.int .i64 0, .bool false, .int .u64 0, .int .u64 0, .bool false] := hW0 ▸ z1 ▸ (Blk.new W1 _ _)
  have HT0 := Lib.hid hT0
  have HW0 : Hid ((w.alloc (.cells #[.bool ads, .int .u64 (ah : Int), .int .u64 (al : Int)] 28)).alloc (.cells #[.int .i64 0, .bool false, .int .u64 0, .int .u64 0, .bool false] 43) = W0) := Lib.hid (by rw [hW1, hW0])
  have HSz : Hid (w.heap.size = ab ∧ ab + 1 = rb) := Lib.hid (by omega)
  have HX := Lib.hid (fun W (hT : Tch W0 W []) => hT.blk hX (by simp))
  have HR := Lib.hid (fun W (hT : Tch W0 W []) => hT.blk hR (by simp))
  clear hn ha hp h hab hrb hW1 hW0 z1 hT0 hX hR
  go_enter Tryz.func30, Tryz.ntmps30
  go_wp2
  rw [HW0.out, HSz.out.1, HSz.out.2]
  go_loopw [6] (fun bv wr => ∃ B : Int, bv = .int .i64 B ∧ -1 ≤ B ∧ B ≤ 128 ∧ Hid (∀ (j : Nat) (f : EnI), l[j]? = some f → hldP f.1 (ads, ah, al) = true → f.1.2 ≤ B) ∧ Hid (Tch W0 wr [])) (fun bv _ => (intOf bv + 1).toNat)
  case atStart => exact ⟨128, rfl, by decide, by decide, Lib.hid (fun j f _ hf => (hldP_bits hf).2), Lib.hid (Tch.refl _ _)⟩
  case round =>
    obtain ⟨B, rfl, hB1, hB2, hup, hT1⟩ := hrel
    by_cases hB : 0 ≤ B
    · have bB : B ≥ 0 := hB
      have b1 : IntKind.i64.wrap (B - 1) = B - 1 := by rw [IntKind.wrap_i64]; omega
      go_wp2
      go_loopw [7] (fun iv wr => ∃ i : Nat, iv = .int .i64 (i : Int) ∧ i ≤ n ∧ Hid (∀ (j : Nat) (f : EnI), j < i → l[j]? = some f → hldP f.1 (ads, ah, al) = true → f.1.2 < B) ∧ Hid (Tch W0 wr [])) (fun iv _ => n - (intOf iv).toNat)
      case atStart => exact ⟨0, rfl, Nat.zero_le _, Lib.hid (fun j f hj => absurd hj (Nat.not_lt_zero _)), hT1⟩
      case round =>
        obtain ⟨i, rfl, hi, hlo, hT⟩ := hrel
        by_cases hin : i < n
        · have iI : (i : Int) < (n : Int) := by omega
          have i0 : (0 : Int) ≤ (i : Int) := by omega
          have i1 : IntKind.i64.wrap ((i : Int) + 1) = (i : Int) + 1 := by rw [IntKind.wrap_i64]; omega
          obtain ⟨x, hx⟩ : ∃ x, l[i]? = some x := ⟨_, List.getElem?_eq_getElem (by rw [HN.out]; exact hin)⟩
          have HXx := Lib.hid hx
          have ho2 := HRow.out wr (HT0.out.trans hT.out)
          obtain ⟨g, rfl⟩ := slice_some ho2 (by omega)
          have hpn := HPn.out x (List.mem_of_getElem? hx)
          have HE := Lib.hid (fun W (hW : Tch W0 W []) => en_cells (HRow.out W (HT0.out.trans hW)) hx)
          obtain ⟨⟨⟨xs, xh, xl⟩, xn⟩, ⟨hp, ⟨hs, hh, hl⟩, hw⟩⟩ := x
          obtain ⟨hd, hhd⟩ : ∃ b, hldP ((xs, xh, xl), xn) (ads, ah, al) = b := ⟨_, rfl⟩
          have HHo := Lib.hid (fun W => rholds_at xs xh xl xn ads ah al hpn.1 hpn.2 HA.out.1 HA.out.2 hhd W)
          have HHd := Lib.hid hhd
          have HC := Lib.hid (fun W (hW : Tch W0 W []) => show ((W.cell? ⟨g, i * 9, none⟩ = some (Value.bool xs) ∧ W.cell? ⟨g, i * 9 + 1, none⟩ = some (Value.int .u64 (xh : Int)) ∧ W.cell? ⟨g, i * 9 + 2, none⟩ = some (Value.int .u64 (xl : Int)) ∧ W.cell? ⟨g, i * 9 + 3, none⟩ = some (Value.int .i64 xn)) ∧ (W.cell? ⟨ab, 0, none⟩ = some (Value.bool ads) ∧ W.cell? ⟨ab, 1, none⟩ = some (Value.int .u64 (ah : Int)) ∧ W.cell? ⟨ab, 2, none⟩ = some (Value.int .u64 (al : Int)))) from ⟨⟨(HE.out W hW).1, (HE.out W hW).2.1, (HE.out W hW).2.2.1, (HE.out W hW).2.2.2.1⟩, (HX.out W hW).c3⟩)
          have HC0 := Lib.hid (HC.out _ hT.out.drew)
          have HTd : Hid (Tch W0 wr.drew []) := Lib.hid hT.out.drew
          clear hx ho2 hhd hpn
          by_cases hq : xn = B
          · have HXB := Lib.hid hq
            subst hq
            go_wp2
            refine wp_region_held_drew (S := (fun W => ((W.cell? ⟨g, i * 9, none⟩ = some (Value.bool xs) ∧ W.cell? ⟨g, i * 9 + 1, none⟩ = some (Value.int .u64 (xh : Int)) ∧ W.cell? ⟨g, i * 9 + 2, none⟩ = some (Value.int .u64 (xl : Int)) ∧ W.cell? ⟨g, i * 9 + 3, none⟩ = some (Value.int .i64 xn)) ∧ (W.cell? ⟨ab, 0, none⟩ = some (Value.bool ads) ∧ W.cell? ⟨ab, 1, none⟩ = some (Value.int .u64 (ah : Int)) ∧ W.cell? ⟨ab, 2, none⟩ = some (Value.int .u64 (al : Int)))))) (by kernel_rfl) ?_ (fun hHeld => ?_)
            · (first | exact HC0.out | exact HC5.out)
            refine wpAnyH_take (i := 0) (oi := { dst := some 18, op := Go.Op.move (Go.Operand.tmp 0), type := 59, pos := "ref.go:74", after := #[], guard := none }) (v := ?_) rfl (by kernel_rfl) (by kernel_rfl) (by kernel_rfl) (fun _ _ _ h => h) (Or.inl ⟨by rfl, ?_⟩) (by assumption) ?_
            rotate_left
            · intro w hSw
              (try dsimp only at hSw)
              go_simp
              try (with_reducible rfl)
            try simp only [Act.put, List.setIfInBounds_toArray, List.set_cons_zero, List.set_cons_succ]
            refine wpAnyH_take (i := 1) (oi := { dst := some 19, op := Go.Op.move (Go.Operand.tmp 7), type := 3, pos := "ref.go:74", after := #[], guard := none }) (v := ?_) rfl (by kernel_rfl) (by kernel_rfl) (by kernel_rfl) (fun _ _ _ h => h) (Or.inl ⟨by rfl, ?_⟩) (by assumption) ?_
            rotate_left
            · intro w hSw
              (try dsimp only at hSw)
              go_simp
              try (with_reducible rfl)
            try simp only [Act.put, List.setIfInBounds_toArray, List.set_cons_zero, List.set_cons_succ]
            refine wpAnyH_take (i := 2) (oi := { dst := some 20, op := Go.Op.indexAddr 59 (Go.Operand.tmp 18) (Go.Operand.tmp 19), type := 0, pos := "ref.go:74", after := #[{ on := 0, ground := Go.Ground.data }, { on := 1, ground := Go.Ground.data }], guard := none }) (v := ?_) rfl (by kernel_rfl) (by kernel_rfl) (by kernel_rfl) (fun _ _ _ h => h) (Or.inl ⟨by rfl, ?_⟩) (by assumption) ?_
            rotate_left
            · intro w hSw
              (try dsimp only at hSw)
              go_simp
              try (with_reducible rfl)
            try simp only [Act.put, List.setIfInBounds_toArray, List.set_cons_zero, List.set_cons_succ]
            refine wpAnyH_take (i := 3) (oi := { dst := some 21, op := Go.Op.fieldAddr 70 (Go.Operand.tmp 20) 0, type := 0, pos := "ref.go:74", after := #[{ on := 2, ground := Go.Ground.data }], guard := none }) (v := ?_) rfl (by kernel_rfl) (by kernel_rfl) (by kernel_rfl) (fun _ _ _ h => h) (Or.inl ⟨by rfl, ?_⟩) (by assumption) ?_
            rotate_left
            · intro w hSw
              (try dsimp only at hSw)
              go_simp
              try (with_reducible rfl)
            try simp only [Act.put, List.setIfInBounds_toArray, List.set_cons_zero, List.set_cons_succ]
            refine wpAnyH_take (i := 4) (oi := { dst := some 22, op := Go.Op.fieldAddr 30 (Go.Operand.tmp 21) 1, type := 0, pos := "ref.go:74", after := #[{ on := 3, ground := Go.Ground.data }], guard := none }) (v := ?_) rfl (by kernel_rfl) (by kernel_rfl) (by kernel_rfl) (fun _ _ _ h => h) (Or.inl ⟨by rfl, ?_⟩) (by assumption) ?_
            rotate_left
            · intro w hSw
              (try dsimp only at hSw)
              go_simp
              try (with_reducible rfl)
            try simp only [Act.put, List.setIfInBounds_toArray, List.set_cons_zero, List.set_cons_succ]
            refine wpAnyH_take (i := 5) (oi := { dst := some 23, op := Go.Op.load 3 (Go.Operand.tmp 22), type := 3, pos := "ref.go:74", after := #[{ on := 4, ground := Go.Ground.data }], guard := none }) (v := ?_) rfl (by kernel_rfl) (by kernel_rfl) (by kernel_rfl) (fun _ _ _ h => h) (Or.inl ⟨by rfl, ?_⟩) (by assumption) ?_
            rotate_left
            · intro w hSw
              (try dsimp only at hSw)
              go_simp
              try (with_reducible rfl)
            try simp only [Act.put, List.setIfInBounds_toArray, List.set_cons_zero, List.set_cons_succ]
            refine wpAnyH_take (i := 6) (oi := { dst := some 24, op := Go.Op.move (Go.Operand.tmp 6), type := 3, pos := "ref.go:74", after := #[], guard := none }) (v := ?_) rfl (by kernel_rfl) (by kernel_rfl) (by kernel_rfl) (fun _ _ _ h => h) (Or.inl ⟨by rfl, ?_⟩) (by assumption) ?_
            rotate_left
            · intro w hSw
              (try dsimp only at hSw)
              go_simp
              try (with_reducible rfl)
            try simp only [Act.put, List.setIfInBounds_toArray, List.set_cons_zero, List.set_cons_succ]
            refine wpAnyH_take (i := 7) (oi := { dst := some 25, op := Go.Op.binOp Go.BinOp.eql 3 (Go.Operand.tmp 23) (Go.Operand.tmp 24) 3, type := 4, pos := "ref.go:74", after := #[{ on := 5, ground := Go.Ground.data }, { on := 6, ground := Go.Ground.data }], guard := none }) (v := ?_) rfl (by kernel_rfl) (by kernel_rfl) (by kernel_rfl) (fun _ _ _ h => h) (Or.inl ⟨by rfl, ?_⟩) (by assumption) ?_
            rotate_left
            · intro w hSw
              (try dsimp only at hSw)
              go_simp
              try (with_reducible rfl)
            try simp only [Act.put, List.setIfInBounds_toArray, List.set_cons_zero, List.set_cons_succ]
            refine wpAnyH_take (i := 8) (oi := { dst := some 26, op := Go.Op.move (Go.Operand.tmp 25), type := 4, pos := "ref.go:74", after := #[{ on := 7, ground := Go.Ground.data }], guard := none }) (v := ?_) rfl (by kernel_rfl) (by kernel_rfl) (by kernel_rfl) (fun _ _ _ h => h) (Or.inl ⟨by rfl, ?_⟩) (by assumption) ?_
            rotate_left
            · intro w hSw
              (try dsimp only at hSw)
              go_simp
              try (with_reducible rfl)
            try simp only [Act.put, List.setIfInBounds_toArray, List.set_cons_zero, List.set_cons_succ]
            refine wpAnyH_take (i := 9) (oi := { dst := some 27, op := Go.Op.move (Go.Operand.tmp 0), type := 59, pos := "ref.go:74", after := #[{ on := 8, ground := Go.Ground.guard }], guard := some (8, true) }) (v := ?_) rfl (by kernel_rfl) (by kernel_rfl) (by kernel_rfl) (fun _ _ _ h => h) (Or.inl ⟨by rfl, ?_⟩) (by assumption) ?_
            rotate_left
            · intro w hSw
              (try dsimp only at hSw)
              go_simp
              try (with_reducible rfl)
            try simp only [Act.put, List.setIfInBounds_toArray, List.set_cons_zero, List.set_cons_succ]
            refine wpAnyH_take (i := 10) (oi := { dst := some 28, op := Go.Op.move (Go.Operand.tmp 7), type := 3, pos := "ref.go:74", after := #[{ on := 8, ground := Go.Ground.guard }], guard := some (8, true) }) (v := ?_) rfl (by kernel_rfl) (by kernel_rfl) (by kernel_rfl) (fun _ _ _ h => h) (Or.inl ⟨by rfl, ?_⟩) (by assumption) ?_
            rotate_left
            · intro w hSw
              (try dsimp only at hSw)
              go_simp
              try (with_reducible rfl)
            try simp only [Act.put, List.setIfInBounds_toArray, List.set_cons_zero, List.set_cons_succ]
            refine wpAnyH_take (i := 11) (oi := { dst := some 29, op := Go.Op.indexAddr 59 (Go.Operand.tmp 27) (Go.Operand.tmp 28), type := 0, pos := "ref.go:74", after := #[{ on := 9, ground := Go.Ground.data }, { on := 10, ground := Go.Ground.data }, { on := 8, ground := Go.Ground.guard }], guard := some (8, true) }) (v := ?_) rfl (by kernel_rfl) (by kernel_rfl) (by kernel_rfl) (fun _ _ _ h => h) (Or.inl ⟨by rfl, ?_⟩) (by assumption) ?_
            rotate_left
            · intro w hSw
              (try dsimp only at hSw)
              go_simp
              try (with_reducible rfl)
            try simp only [Act.put, List.setIfInBounds_toArray, List.set_cons_zero, List.set_cons_succ]
            refine wpAnyH_take (i := 12) (oi := { dst := some 30, op := Go.Op.fieldAddr 70 (Go.Operand.tmp 29) 0, type := 0, pos := "ref.go:74", after := #[{ on := 11, ground := Go.Ground.data }, { on := 8, ground := Go.Ground.guard }], guard := some (8, true) }) (v := ?_) rfl (by kernel_rfl) (by kernel_rfl) (by kernel_rfl) (fun _ _ _ h => h) (Or.inl ⟨by rfl, ?_⟩) (by assumption) ?_
            rotate_left
            · intro w hSw
              (try dsimp only at hSw)
              go_simp
              try (with_reducible rfl)
            try simp only [Act.put, List.setIfInBounds_toArray, List.set_cons_zero, List.set_cons_succ]
            refine wpAnyH_take (i := 13) (oi := { dst := some 31, op := Go.Op.load 30 (Go.Operand.tmp 30), type := 30, pos := "ref.go:74", after := #[{ on := 12, ground := Go.Ground.data }, { on := 8, ground := Go.Ground.guard }], guard := some (8, true) }) (v := ?_) rfl (by kernel_rfl) (by kernel_rfl) (by kernel_rfl) (fun _ _ _ h => h) (Or.inl ⟨by rfl, ?_⟩) (by assumption) ?_
            rotate_left
            · intro w hSw
              (try dsimp only at hSw)
              go_simp
              try (with_reducible rfl)
            try simp only [Act.put, List.setIfInBounds_toArray, List.set_cons_zero, List.set_cons_succ]
            refine wpAnyH_take (i := 14) (oi := { dst := some 32, op := Go.Op.load 28 (Go.Operand.tmp 3), type := 28, pos := "ref.go:74", after := #[{ on := 8, ground := Go.Ground.guard }], guard := some (8, true) }) (v := ?_) rfl (by kernel_rfl) (by kernel_rfl) (by kernel_rfl) (fun _ _ _ h => h) (Or.inl ⟨by rfl, ?_⟩) (by assumption) ?_
            rotate_left
            · intro w hSw
              (try dsimp only at hSw)
              go_simp
              try (with_reducible rfl)
            try simp only [Act.put, List.setIfInBounds_toArray, List.set_cons_zero, List.set_cons_succ]
            refine wpAnyH_ready (rs := [15]) (by kernel_rfl) (by simp) ?_
            refine AllReadyH.cons (o := { dst := some 33, op := Go.Op.call { callee := Go.Callee.value (Go.Operand.func 70), args := #[Go.Operand.tmp 31, Go.Operand.tmp 32], argTypes := #[30, 28] }, type := 4, pos := "ref.go:74", after := #[{ on := 13, ground := Go.Ground.data }, { on := 14, ground := Go.Ground.data }, { on := 8, ground := Go.Ground.chain }, { on := 8, ground := Go.Ground.guard }], guard := some (8, true) }) rfl (fun K hK => ?_) AllReadyH.nil
            go_simp
            (go_at_call 70; (with_reducible refine Calls.mono (HHo.out _) ?_); rintro e w5 ⟨rfl, hb5⟩; have HT5 : Hid (Tch W0 w5 []) := Lib.hid (HTd.out.trans (Tch.of_below [] hb5)); have HC5 := Lib.hid (HC.out w5 HT5.out); clear hb5)
            go_wp2_with fail
            refine hK.out _ _ ?_ (fun hHeld => ?_)
            · (first | exact HC0.out | exact HC5.out)
            clear hK K
            try simp only [Act.put, List.setIfInBounds_toArray, List.set_cons_zero, List.set_cons_succ]
            refine wpAnyH_take (i := 16) (oi := { dst := some 34, op := Go.Op.pick (Go.Operand.tmp 26) (Go.Operand.tmp 33) (Go.Operand.const (Go.Value.bool false)), type := 4, pos := "ref.go:74", after := #[{ on := 8, ground := Go.Ground.data }, { on := 15, ground := Go.Ground.data }], guard := none }) (v := ?_) rfl (by kernel_rfl) (by kernel_rfl) (by kernel_rfl) (fun _ _ _ h => h) (Or.inl ⟨by rfl, ?_⟩) (by assumption) ?_
            rotate_left
            · intro w hSw
              (try dsimp only at hSw)
              go_simp
              try (with_reducible rfl)
            try simp only [Act.put, List.setIfInBounds_toArray, List.set_cons_zero, List.set_cons_succ]
            refine wpAnyH_done (by kernel_rfl) ?_ _
            cases hd with
            | false =>
              go_wp2
              go_roundw
              case rel =>
                refine ⟨i + 1, by go_num, hin, Lib.hid (fun j f hj hf hfa => ?_), HT5⟩
                rcases Nat.lt_or_ge j i with h1 | h1
                · exact hlo.out j f h1 hf hfa
                · obtain rfl : j = i := by omega
                  rw [HXx.out] at hf; injection hf with hf
                  rw [← hf] at hfa
                  exact absurd (HHd.out.symm.trans hfa) (by decide)
              case measure => simp [intOf]; omega
            | true =>
              have HO : Hid (lookI l (ads, ah, al) = some (hp, (hs, hh, hl), hw)) := Lib.hid (HSo.out i _ ⟨HXx.out, by rw [HN.out]; exact hin, HHd.out, fun j f _ hf hfa => hup.out j f hf hfa, fun j f hj hf hfa => hlo.out j f hj hf hfa⟩)
              have HRi := Lib.hid (HR.out w5 HT5.out)
              have HTw := Lib.hid (HT0.out.trans HT5.out)
              have HSz' := Lib.hid HSz.out
              obtain ⟨t0, t1, t2, t3, t4, t5, t6, t7, t8⟩ := HE.out w5 HT5.out
              go_wp2_with (refine wpList_sta rfl 43 (.tmp 4) (.tmp 39) rfl rb 0 #[.int .i64 hp, .bool hs, .int .u64 (hh : Int), .int .u64 (hl : Int), .bool hw] rfl rfl 43 _ HRi.out 5 hpSz rfl (show 0 + 5 ≤ 5 from by decide) (by simp [Value.oneCell']) ?_; intro w6 hs6; have HS6 := Lib.hid hs6; clear hs6)
              obtain ⟨z0, z1, z2, z3, z4⟩ := (sta_whole HS6.out rfl).h5
              exact bodyPost_ret (v := .tuple #[.agg #[.int .i64 hp, .bool hs, .int .u64 (hh : Int), .int .u64 (hl : Int), .bool hw], .bool true]) (by simp [results, Tryz.results30, go_sem, z0, z1, z2, z3, z4]) rfl ⟨by rw [HO.out]; rfl, HTw.out.trans_fre HS6.out.tch (by simp; have := HSz'.out; omega)⟩
          · have HXB := Lib.hid hq
            have bq : (xn == B) = false := by simpa using hq
            have dq : decide (xn = B) = false := decide_eq_false hq
            have HK0 : Hid (((wr.drew.cell? ⟨g, i * 9, none⟩ = some (Value.bool xs) ∧ wr.drew.cell? ⟨g, i * 9 + 1, none⟩ = some (Value.int .u64 (xh : Int)) ∧ wr.drew.cell? ⟨g, i * 9 + 2, none⟩ = some (Value.int .u64 (xl : Int)) ∧ wr.drew.cell? ⟨g, i * 9 + 3, none⟩ = some (Value.int .i64 xn)) ∧ (wr.drew.cell? ⟨ab, 0, none⟩ = some (Value.bool ads) ∧ wr.drew.cell? ⟨ab, 1, none⟩ = some (Value.int .u64 (ah : Int)) ∧ wr.drew.cell? ⟨ab, 2, none⟩ = some (Value.int .u64 (al : Int))))) := Lib.hid HC0.out
            go_wp2
            refine wp_region_held_drew (S := (fun W => ((W.cell? ⟨g, i * 9, none⟩ = some (Value.bool xs) ∧ W.cell? ⟨g, i * 9 + 1, none⟩ = some (Value.int .u64 (xh : Int)) ∧ W.cell? ⟨g, i * 9 + 2, none⟩ = some (Value.int .u64 (xl : Int)) ∧ W.cell? ⟨g, i * 9 + 3, none⟩ = some (Value.int .i64 xn)) ∧ (W.cell? ⟨ab, 0, none⟩ = some (Value.bool ads) ∧ W.cell? ⟨ab, 1, none⟩ = some (Value.int .u64 (ah : Int)) ∧ W.cell? ⟨ab, 2, none⟩ = some (Value.int .u64 (al : Int)))))) (by kernel_rfl) ?_ (fun hHeld => ?_)
            · (exact HC0.out)
            refine wpAnyH_take (i := 0) (oi := { dst := some 18, op := Go.Op.move (Go.Operand.tmp 0), type := 59, pos := "ref.go:74", after := #[], guard := none }) (v := ?_) rfl (by kernel_rfl) (by kernel_rfl) (by kernel_rfl) (fun _ _ _ h => h) (Or.inl ⟨by rfl, ?_⟩) (by assumption) ?_
            rotate_left
            · intro w hSw
              (try dsimp only at hSw)
              go_simp
              try (with_reducible rfl)
            try simp only [Act.put, List.setIfInBounds_toArray, List.set_cons_zero, List.set_cons_succ]
            refine wpAnyH_take (i := 1) (oi := { dst := some 19, op := Go.Op.move (Go.Operand.tmp 7), type := 3, pos := "ref.go:74", after := #[], guard := none }) (v := ?_) rfl (by kernel_rfl) (by kernel_rfl) (by kernel_rfl) (fun _ _ _ h => h) (Or.inl ⟨by rfl, ?_⟩) (by assumption) ?_
            rotate_left
            · intro w hSw
              (try dsimp only at hSw)
              go_simp
              try (with_reducible rfl)
            try simp only [Act.put, List.setIfInBounds_toArray, List.set_cons_zero, List.set_cons_succ]
            refine wpAnyH_take (i := 2) (oi := { dst := some 20, op := Go.Op.indexAddr 59 (Go.Operand.tmp 18) (Go.Operand.tmp 19), type := 0, pos := "ref.go:74", after := #[{ on := 0, ground := Go.Ground.data }, { on := 1, ground := Go.Ground.data }], guard := none }) (v := ?_) rfl (by kernel_rfl) (by kernel_rfl) (by kernel_rfl) (fun _ _ _ h => h) (Or.inl ⟨by rfl, ?_⟩) (by assumption) ?_
            rotate_left
            · intro w hSw
              (try dsimp only at hSw)
              go_simp
              try (with_reducible rfl)
            try simp only [Act.put, List.setIfInBounds_toArray, List.set_cons_zero, List.set_cons_succ]
            refine wpAnyH_take (i := 3) (oi := { dst := some 21, op := Go.Op.fieldAddr 70 (Go.Operand.tmp 20) 0, type := 0, pos := "ref.go:74", after := #[{ on := 2, ground := Go.Ground.data }], guard := none }) (v := ?_) rfl (by kernel_rfl) (by kernel_rfl) (by kernel_rfl) (fun _ _ _ h => h) (Or.inl ⟨by rfl, ?_⟩) (by assumption) ?_
            rotate_left
            · intro w hSw
              (try dsimp only at hSw)
              go_simp
              try (with_reducible rfl)
            try simp only [Act.put, List.setIfInBounds_toArray, List.set_cons_zero, List.set_cons_succ]
            refine wpAnyH_take (i := 4) (oi := { dst := some 22, op := Go.Op.fieldAddr 30 (Go.Operand.tmp 21) 1, type := 0, pos := "ref.go:74", after := #[{ on := 3, ground := Go.Ground.data }], guard := none }) (v := ?_) rfl (by kernel_rfl) (by kernel_rfl) (by kernel_rfl) (fun _ _ _ h => h) (Or.inl ⟨by rfl, ?_⟩) (by assumption) ?_
            rotate_left
            · intro w hSw
              (try dsimp only at hSw)
              go_simp
              try (with_reducible rfl)
            try simp only [Act.put, List.setIfInBounds_toArray, List.set_cons_zero, List.set_cons_succ]
            refine wpAnyH_take (i := 5) (oi := { dst := some 23, op := Go.Op.load 3 (Go.Operand.tmp 22), type := 3, pos := "ref.go:74", after := #[{ on := 4, ground := Go.Ground.data }], guard := none }) (v := ?_) rfl (by kernel_rfl) (by kernel_rfl) (by kernel_rfl) (fun _ _ _ h => h) (Or.inl ⟨by rfl, ?_⟩) (by assumption) ?_
            rotate_left
            · intro w hSw
              (try dsimp only at hSw)
              go_simp
              try (with_reducible rfl)
            try simp only [Act.put, List.setIfInBounds_toArray, List.set_cons_zero, List.set_cons_succ]
            refine wpAnyH_take (i := 6) (oi := { dst := some 24, op := Go.Op.move (Go.Operand.tmp 6), type := 3, pos := "ref.go:74", after := #[], guard := none }) (v := ?_) rfl (by kernel_rfl) (by kernel_rfl) (by kernel_rfl) (fun _ _ _ h => h) (Or.inl ⟨by rfl, ?_⟩) (by assumption) ?_
            rotate_left
            · intro w hSw
              (try dsimp only at hSw)
              go_simp
              try (with_reducible rfl)
            try simp only [Act.put, List.setIfInBounds_toArray, List.set_cons_zero, List.set_cons_succ]
            refine wpAnyH_take (i := 7) (oi := { dst := some 25, op := Go.Op.binOp Go.BinOp.eql 3 (Go.Operand.tmp 23) (Go.Operand.tmp 24) 3, type := 4, pos := "ref.go:74", after := #[{ on := 5, ground := Go.Ground.data }, { on := 6, ground := Go.Ground.data }], guard := none }) (v := ?_) rfl (by kernel_rfl) (by kernel_rfl) (by kernel_rfl) (fun _ _ _ h => h) (Or.inl ⟨by rfl, ?_⟩) (by assumption) ?_
            rotate_left
            · intro w hSw
              (try dsimp only at hSw)
              go_simp
              try (with_reducible rfl)
            try simp only [Act.put, List.setIfInBounds_toArray, List.set_cons_zero, List.set_cons_succ]
            refine wpAnyH_take (i := 8) (oi := { dst := some 26, op := Go.Op.move (Go.Operand.tmp 25), type := 4, pos := "ref.go:74", after := #[{ on := 7, ground := Go.Ground.data }], guard := none }) (v := ?_) rfl (by kernel_rfl) (by kernel_rfl) (by kernel_rfl) (fun _ _ _ h => h) (Or.inl ⟨by rfl, ?_⟩) (by assumption) ?_
            rotate_left
            · intro w hSw
              (try dsimp only at hSw)
              go_simp
              try (with_reducible rfl)
            try simp only [Act.put, List.setIfInBounds_toArray, List.set_cons_zero, List.set_cons_succ]
            refine wpAnyH_take (i := 9) (oi := { dst := some 27, op := Go.Op.move (Go.Operand.tmp 0), type := 59, pos := "ref.go:74", after := #[{ on := 8, ground := Go.Ground.guard }], guard := some (8, true) }) (v := undef) rfl (by kernel_rfl) (by kernel_rfl) (by kernel_rfl) (fun _ _ _ h => h) (Or.inr ⟨by rfl, rfl⟩) (by assumption) ?_
            try simp only [Act.put, List.setIfInBounds_toArray, List.set_cons_zero, List.set_cons_succ]
            refine wpAnyH_take (i := 10) (oi := { dst := some 28, op := Go.Op.move (Go.Operand.tmp 7), type := 3, pos := "ref.go:74", after := #[{ on := 8, ground := Go.Ground.guard }], guard := some (8, true) }) (v := undef) rfl (by kernel_rfl) (by kernel_rfl) (by kernel_rfl) (fun _ _ _ h => h) (Or.inr ⟨by rfl, rfl⟩) (by assumption) ?_
            try simp only [Act.put, List.setIfInBounds_toArray, List.set_cons_zero, List.set_cons_succ]
            refine wpAnyH_take (i := 11) (oi := { dst := some 29, op := Go.Op.indexAddr 59 (Go.Operand.tmp 27) (Go.Operand.tmp 28), type := 0, pos := "ref.go:74", after := #[{ on := 9, ground := Go.Ground.data }, { on := 10, ground := Go.Ground.data }, { on := 8, ground := Go.Ground.guard }], guard := some (8, true) }) (v := undef) rfl (by kernel_rfl) (by kernel_rfl) (by kernel_rfl) (fun _ _ _ h => h) (Or.inr ⟨by rfl, rfl⟩) (by assumption) ?_
            try simp only [Act.put, List.setIfInBounds_toArray, List.set_cons_zero, List.set_cons_succ]
            refine wpAnyH_take (i := 12) (oi := { dst := some 30, op := Go.Op.fieldAddr 70 (Go.Operand.tmp 29) 0, type := 0, pos := "ref.go:74", after := #[{ on := 11, ground := Go.Ground.data }, { on := 8, ground := Go.Ground.guard }], guard := some (8, true) }) (v := undef) rfl (by kernel_rfl) (by kernel_rfl) (by kernel_rfl) (fun _ _ _ h => h) (Or.inr ⟨by rfl, rfl⟩) (by assumption) ?_
            try simp only [Act.put, List.setIfInBounds_toArray, List.set_cons_zero, List.set_cons_succ]
            refine wpAnyH_take (i := 13) (oi := { dst := some 31, op := Go.Op.load 30 (Go.Operand.tmp 30), type := 30, pos := "ref.go:74", after := #[{ on := 12, ground := Go.Ground.data }, { on := 8, ground := Go.Ground.guard }], guard := some (8, true) }) (v := undef) rfl (by kernel_rfl) (by kernel_rfl) (by kernel_rfl) (fun _ _ _ h => h) (Or.inr ⟨by rfl, rfl⟩) (by assumption) ?_
            try simp only [Act.put, List.setIfInBounds_toArray, List.set_cons_zero, List.set_cons_succ]
            refine wpAnyH_take (i := 14) (oi := { dst := some 32, op := Go.Op.load 28 (Go.Operand.tmp 3), type := 28, pos := "ref.go:74", after := #[{ on := 8, ground := Go.Ground.guard }], guard := some (8, true) }) (v := undef) rfl (by kernel_rfl) (by kernel_rfl) (by kernel_rfl) (fun _ _ _ h => h) (Or.inr ⟨by rfl, rfl⟩) (by assumption) ?_
            try simp only [Act.put, List.setIfInBounds_toArray, List.set_cons_zero, List.set_cons_succ]
            refine wpAnyH_take (i := 15) (oi := { dst := some 33, op := Go.Op.call { callee := Go.Callee.value (Go.Operand.func 70), args := #[Go.Operand.tmp 31, Go.Operand.tmp 32], argTypes := #[30, 28] }, type := 4, pos := "ref.go:74", after := #[{ on := 13, ground := Go.Ground.data }, { on := 14, ground := Go.Ground.data }, { on := 8, ground := Go.Ground.chain }, { on := 8, ground := Go.Ground.guard }], guard := some (8, true) }) (v := undef) rfl (by kernel_rfl) (by kernel_rfl) (by kernel_rfl) (fun _ _ _ h => h) (Or.inr ⟨by rfl, rfl⟩) (by assumption) ?_
            try simp only [Act.put, List.setIfInBounds_toArray, List.set_cons_zero, List.set_cons_succ]
            refine wpAnyH_take (i := 16) (oi := { dst := some 34, op := Go.Op.pick (Go.Operand.tmp 26) (Go.Operand.tmp 33) (Go.Operand.const (Go.Value.bool false)), type := 4, pos := "ref.go:74", after := #[{ on := 8, ground := Go.Ground.data }, { on := 15, ground := Go.Ground.data }], guard := none }) (v := ?_) rfl (by kernel_rfl) (by kernel_rfl) (by kernel_rfl) (fun _ _ _ h => h) (Or.inl ⟨by rfl, ?_⟩) (by assumption) ?_
            rotate_left
            · intro w hSw
              (try dsimp only at hSw)
              go_simp
              try (with_reducible rfl)
            try simp only [Act.put, List.setIfInBounds_toArray, List.set_cons_zero, List.set_cons_succ]
            refine wpAnyH_done (by kernel_rfl) ?_ _
            clear bq dq
            go_wp2
            go_roundw
            case rel =>
              refine ⟨i + 1, by go_num, hin, Lib.hid (fun j f hj hf hfa => ?_), HTd⟩
              rcases Nat.lt_or_ge j i with h1 | h1
              · exact hlo.out j f h1 hf hfa
              · obtain rfl : j = i := by omega
                have h2 := hup.out j f hf hfa
                rw [HXx.out] at hf; injection hf with hf
                rw [← hf] at h2 ⊢
                have h3 := HXB.out
                simp only at h2 ⊢
                omega
            case measure => simp [intOf]; omega
        · obtain rfl : i = n := by omega
          have iI : ¬ (i : Int) < (i : Int) := by omega
          have HUp : Hid (∀ (j : Nat) (f : EnI), l[j]? = some f → hldP f.1 (ads, ah, al) = true → f.1.2 ≤ B - 1) := Lib.hid (fun j f hf hfa => by
            have := hlo.out j f (by have := (List.getElem?_eq_some_iff.1 hf).1; rw [HN.out] at this; exact this) hf hfa
            omega)
          have HTi := Lib.hid hT.out
          have HBb := Lib.hid (And.intro hB hB2)
          clear hin hi
          go_wp2
          go_roundw
          case rel => exact ⟨B - 1, rfl, by have := HBb.out; omega, by have := HBb.out; omega, HUp, HTi⟩
          case measure => have := HBb.out; simp [intOf]; omega
    · have bB : ¬ B ≥ 0 := hB
      have HO : Hid (lookI l (ads, ah, al) = none) := Lib.hid (HNo.out fun j f hf => by
        cases hfa : hldP f.1 (ads, ah, al) with
        | false => rfl
        | true =>
          have h1 := hup.out j f hf hfa
          have h2 := (hldP_bits hfa).1
          omega)
      have HRi := Lib.hid (HR.out wr hT1.out)
      have HTw := Lib.hid (HT0.out.trans hT1.out)
      have HSz' := Lib.hid HSz.out
      go_wp2_with (refine wpList_sta rfl 43 (.tmp 4) (.tmp 40) rfl rb 0 #[.int .i64 0, .bool false, .int .u64 0, .int .u64 0, .bool false] rfl rfl 43 _ HRi.out 5 hpSz rfl (show 0 + 5 ≤ 5 from by decide) (by simp [Value.oneCell']) ?_; intro w6 hs6; have HS6 := Lib.hid hs6; clear hs6)
      obtain ⟨z0, z1, z2, z3, z4⟩ := (sta_whole HS6.out rfl).h5
      exact bodyPost_ret (v := .tuple #[.agg #[.int .i64 0, .bool false, .int .u64 0, .int .u64 0, .bool false], .bool false]) (by simp [results, Tryz.results30, go_sem, z0, z1, z2, z3, z4]) rfl ⟨by rw [HO.out]; rfl, HTw.out.trans_fre HS6.out.tch (by simp; have := HSz'.out; omega)⟩
end Go.Proofs.YtgfkmgbcajdcdaaGreatDoor

namespace Go.Proofs.YtgfkmgbcajdcdaaGreatDoor
set_option linter.unusedVariables false

structure RtN where
  m : Nat
  b : Nat
  nx : Int
/-- Ahead of another one, in the order of the routes. -/
def ltN (r s : RtN) : Prop := r.m < s.m ∨ (r.m = s.m ∧ r.b < s.b)
def alN (r : RtN) : Prop := r.b ≤ 132 ∧ r.m % 2 ^ (132 - r.b) = 0
def hldN (r : RtN) (a : Nat) : Bool := decide (a / 2 ^ (132 - r.b) = r.m / 2 ^ (132 - r.b))
/-- The d-th six bits. -/
def grpN (m d : Nat) : Nat := m / 2 ^ (126 - 6 * d) % 64
theorem grpN_lt (m d : Nat) : grpN m d < 64 := Nat.mod_lt _ (by decide)
def valN (rs : List RtN) (nx : Int) (a : Nat) : Int := rs.foldl (fun n r => if hldN r a = true then r.nx else n) nx
/-- Does a route of no more bits than the next group ends at hold a slot. -/
def covN (d : Nat) (r : RtN) (v : Nat) : Bool := decide (r.b ≤ 6 * (d + 1)) && decide (grpN r.m d ≤ v) && decide (v < grpN r.m d + 2 ^ (6 * (d + 1) - r.b))
def deepN (d v : Nat) (r : RtN) : Bool := decide (6 * (d + 1) < r.b) && decide (grpN r.m d = v)
def slotR (d : Nat) (rs : List RtN) (v : Nat) : List RtN := rs.filter (deepN d v)
def slotN (d : Nat) (rs : List RtN) (nx : Int) (v : Nat) : Int := rs.foldl (fun n r => if covN d r v = true then r.nx else n) nx
/-- Routes of one node: so many groups are theirs alike, and they have no fewer bits. -/
structure PosN (d c : Nat) (rs : List RtN) : Prop where
  srt : rs.Pairwise ltN
  al : ∀ r ∈ rs, alN r
  ge : ∀ r ∈ rs, 6 * d ≤ r.b
  at_ : ∀ r ∈ rs, r.m / 2 ^ (132 - 6 * d) = c
theorem div_pow (a i j : Nat) : a / 2 ^ (i + j) = a / 2 ^ i / 2 ^ j := by rw [Nat.pow_add, Nat.div_div_eq_div_mul]
theorem trunc_le (a : Nat) {i j : Nat} (h : i ≤ j) : a / 2 ^ j * 2 ^ j ≤ a / 2 ^ i * 2 ^ i := by
  obtain ⟨k, rfl⟩ : ∃ k, j = i + k := ⟨j - i, by omega⟩
  rw [div_pow, Nat.pow_add, Nat.mul_comm (2 ^ i) (2 ^ k), ← Nat.mul_assoc]
  exact Nat.mul_le_mul_right _ (Nat.div_mul_le_self _ _)
theorem hldN_m {r : RtN} (k : alN r) {a : Nat} (h : hldN r a = true) : r.m = a / 2 ^ (132 - r.b) * 2 ^ (132 - r.b) := by
  rw [of_decide_eq_true h]
  have := Nat.div_add_mod r.m (2 ^ (132 - r.b))
  rw [k.2, Nat.add_zero, Nat.mul_comm] at this
  exact this.symm
/-- Of two that hold the same, the one ahead has fewer bits. -/
theorem hldN_lt {r s : RtN} (hs : alN s) (hr : alN r) {a : Nat} (h1 : hldN s a = true) (h2 : hldN r a = true) (h : ltN s r) : s.b < r.b := by
  rcases Nat.lt_or_ge s.b r.b with h3 | h3
  · exact h3
  · exfalso
    have e1 := hldN_m hs h1
    have e2 := hldN_m hr h2
    have h4 := trunc_le a (show 132 - s.b ≤ 132 - r.b by omega)
    rw [← e1, ← e2] at h4
    rcases h with h5 | ⟨h5, h6⟩
    · omega
    · omega
theorem deepN_of {d c : Nat} {r : RtN} {a : Nat} (hd : d ≤ 21) (hb : 6 * (d + 1) < r.b) (hk : alN r) (h : hldN r a = true) : grpN r.m d = grpN a d := by
  have e := of_decide_eq_true h
  unfold grpN
  have h1 : 126 - 6 * d = (132 - r.b) + (r.b - 6 * (d + 1)) := by have := hk.1; omega
  rw [h1, div_pow, div_pow, e]
theorem covN_iff {d c : Nat} {r : RtN} {a : Nat} (hd : d ≤ 21) (hb : r.b ≤ 6 * (d + 1)) (hg : 6 * d ≤ r.b) (hk : alN r) (hc : r.m / 2 ^ (132 - 6 * d) = c) (ha : a / 2 ^ (132 - 6 * d) = c) : hldN r a = covN d r (grpN a d) := by
  obtain ⟨e, he⟩ : ∃ e, 6 * (d + 1) - r.b = e := ⟨_, rfl⟩
  have he6 : e ≤ 6 := by omega
  have h1 : 132 - r.b = (126 - 6 * d) + e := by omega
  have h2 : 132 - 6 * d = (126 - 6 * d) + 6 := by omega
  have hm : r.m % 2 ^ ((126 - 6 * d) + e) = 0 := by rw [← h1]; exact hk.2
  have hA : r.m / 2 ^ (126 - 6 * d) % 2 ^ e = 0 := by
    have h3 : r.m = 2 ^ ((126 - 6 * d) + e) * (r.m / 2 ^ ((126 - 6 * d) + e)) := by
      have := Nat.div_add_mod r.m (2 ^ ((126 - 6 * d) + e)); omega
    rw [h3, Nat.pow_add, Nat.mul_assoc, Nat.mul_div_cancel_left _ (Nat.two_pow_pos _), Nat.mul_mod_right]
  unfold hldN covN grpN
  rw [h1, he, div_pow, div_pow]
  rw [h2, div_pow] at hc ha
  generalize a / 2 ^ (126 - 6 * d) = A at *
  generalize r.m / 2 ^ (126 - 6 * d) = R at *
  have hA2 : A / 64 = R / 64 := by
    have e64 : (2 : Nat) ^ 6 = 64 := rfl
    rw [e64] at hc ha; omega
  have hb2 : decide (r.b ≤ 6 * (d + 1)) = true := decide_eq_true hb
  rw [hb2, Bool.true_and]
  clear h1 h2 hm hc ha he hb hg hk hb2
  rw [← Bool.decide_and]
  have : e = 0 ∨ e = 1 ∨ e = 2 ∨ e = 3 ∨ e = 4 ∨ e = 5 ∨ e = 6 := by omega
  rcases this with rfl | rfl | rfl | rfl | rfl | rfl | rfl <;> · apply decide_eq_decide.2; simp only [Nat.reducePow] at hA ⊢; omega
theorem valN_app (rs : List RtN) (r : RtN) (nx : Int) (a : Nat) : valN (rs ++ [r]) nx a = if hldN r a = true then r.nx else valN rs nx a := by
  unfold valN; rw [List.foldl_append]; rfl
theorem slotN_app (d : Nat) (rs : List RtN) (r : RtN) (nx : Int) (v : Nat) : slotN d (rs ++ [r]) nx v = if covN d r v = true then r.nx else slotN d rs nx v := by
  unfold slotN; rw [List.foldl_append]; rfl
theorem valN_none {rs : List RtN} {nx : Int} {a : Nat} (h : ∀ r ∈ rs, ¬ hldN r a = true) : valN rs nx a = nx := by
  induction rs generalizing nx with
  | nil => rfl
  | cons r t ih =>
    unfold valN
    rw [List.foldl_cons, if_neg (h r (by simp))]
    exact ih (fun s hs => h s (List.mem_cons_of_mem _ hs))
theorem snoc_ind {α : Type} {P : List α → Prop} (h0 : P []) (h1 : ∀ t r, P t → P (t ++ [r])) (l : List α) : P l := by
  rw [← List.reverse_reverse l]
  induction l.reverse with
  | nil => exact h0
  | cons x t ih => rw [List.reverse_cons]; exact h1 _ _ ih
/-- What a node's routes find is what its slot's find. -/
theorem valN_slot {d c : Nat} {a : Nat} (hd : d ≤ 21) (ha : a / 2 ^ (132 - 6 * d) = c) : ∀ {rs : List RtN}, PosN d c rs → ∀ nx, valN (slotR d rs (grpN a d)) (slotN d rs nx (grpN a d)) a = valN rs nx a := by
  intro rs
  refine snoc_ind (P := fun rs => PosN d c rs → ∀ nx, valN (slotR d rs (grpN a d)) (slotN d rs nx (grpN a d)) a = valN rs nx a) (fun _ _ => rfl) (fun t r ih => ?_) rs
  · intro h nx
    have hp := List.pairwise_append.1 h.srt
    have h' : PosN d c t := ⟨hp.1, fun s hs => h.al s (by simp [hs]), fun s hs => h.ge s (by simp [hs]), fun s hs => h.at_ s (by simp [hs])⟩
    have hr : r ∈ t ++ [r] := by simp
    have IH := ih h' nx
    rw [valN_app, slotN_app]
    unfold slotR at IH ⊢
    rw [List.filter_append]
    rcases Nat.lt_or_ge (6 * (d + 1)) r.b with hb | hb
    · have hc0 : ¬ covN d r (grpN a d) = true := by
        unfold covN; rw [show decide (r.b ≤ 6 * (d + 1)) = false from decide_eq_false (by omega)]; simp
      rw [if_neg hc0]
      by_cases hh : hldN r a = true
      · have hg := deepN_of (c := c) hd hb (h.al r hr) hh
        have hf : [r].filter (deepN d (grpN a d)) = [r] := by
          rw [List.filter_cons_of_pos]
          · rfl
          · unfold deepN; simp [hb, hg]
        rw [hf, valN_app, if_pos hh, if_pos hh]
      · rw [if_neg hh]
        by_cases hf : deepN d (grpN a d) r = true
        · rw [List.filter_cons_of_pos hf, List.filter_nil, valN_app, if_neg hh]; exact IH
        · rw [List.filter_cons_of_neg hf, List.filter_nil, List.append_nil]; exact IH
    · have hf : ¬ deepN d (grpN a d) r = true := by
        unfold deepN; rw [show decide (6 * (d + 1) < r.b) = false from decide_eq_false (by omega)]; simp
      rw [List.filter_cons_of_neg hf, List.filter_nil, List.append_nil]
      have hi := covN_iff hd hb (h.ge r hr) (h.al r hr) (h.at_ r hr) ha
      by_cases hh : hldN r a = true
      · rw [if_pos hh, if_pos (by rw [← hi]; exact hh)]
        refine valN_none fun s hs hsa => ?_
        obtain ⟨hst, hsd⟩ := List.mem_filter.1 hs
        have h1 := hldN_lt (h.al s (by simp [hst])) (h.al r hr) hsa hh (hp.2.2 s hst r (by simp))
        unfold deepN at hsd
        rw [Bool.and_eq_true, decide_eq_true_eq] at hsd
        omega
      · rw [if_neg hh, if_neg (by rw [← hi]; exact hh)]; exact IH
/-- A slot's routes are a node's. -/
theorem PosN.slot {d c : Nat} {rs : List RtN} (hd : d ≤ 21) (h : PosN d c rs) (v : Nat) : PosN (d + 1) (64 * c + v) (slotR d rs v) := by
  refine ⟨h.srt.sublist List.filter_sublist, fun r hr => h.al r (List.mem_filter.1 hr).1, fun r hr => ?_, fun r hr => ?_⟩
  · have := (List.mem_filter.1 hr).2
    unfold deepN at this
    rw [Bool.and_eq_true, decide_eq_true_eq] at this
    omega
  · obtain ⟨h1, h2⟩ := List.mem_filter.1 hr
    unfold deepN at h2
    rw [Bool.and_eq_true, decide_eq_true_eq, decide_eq_true_eq] at h2
    have h3 := h.at_ r h1
    have h4 := h2.2
    unfold grpN at h4
    rw [show 132 - 6 * d = (126 - 6 * d) + 6 by omega, div_pow] at h3
    rw [show 132 - 6 * (d + 1) = 126 - 6 * d by omega]
    have e64 : (2 : Nat) ^ 6 = 64 := rfl
    rw [e64] at h3
    omega
theorem pos_step {d c a : Nat} (hd : d ≤ 21) (ha : a / 2 ^ (132 - 6 * d) = c) : a / 2 ^ (132 - 6 * (d + 1)) = 64 * c + grpN a d := by
  unfold grpN
  rw [show 132 - 6 * d = (126 - 6 * d) + 6 by omega, div_pow] at ha
  rw [show 132 - 6 * (d + 1) = 126 - 6 * d by omega]
  have e64 : (2 : Nat) ^ 6 = 64 := rfl
  rw [e64] at ha
  omega
/-- The last group's slots are leaves. -/
theorem slotR_last {c : Nat} {rs : List RtN} (h : PosN 21 c rs) (v : Nat) : slotR 21 rs v = [] := by
  unfold slotR
  rw [List.filter_eq_nil_iff]
  intro r hr
  have := (h.al r hr).1
  unfold deepN
  rw [show decide (6 * (21 + 1) < r.b) = false from decide_eq_false (by omega)]
  simp
end Go.Proofs.YtgfkmgbcajdcdaaGreatDoor
