/-
  The document's own num, Take, arp and TakeArp.
-/
import Derived.Test.YtnhlgonldffgoaaDoorERMac
import Derived.Test.YtnhlgonldffgoaaDoorETa
import Derived.Test.YtnhlgonldffgoaaDoorRGet
import Derived.OrdersHeld
import Derived.Deep.RegionHeld3
namespace Go.Proofs.YtnhlgonldffgoaaDoor
open Go.RowKit
set_option linter.unusedVariables false

set_option maxRecDepth 100000 in
set_option maxHeartbeats 1000000 in
theorem num_any' (s : ByteArray) (a k : Nat) (hk : k ≤ 8) (hak : a + k ≤ s.size) (hs : s.size ≤ 9223372036854775807) (w : World) :
    Calls Tryd.prog 74 #[.string s, .int .i64 (a : Int), .int .i64 (k : Int)] w fun e w' => e = .returned (.int .u64 (nAt (byt s) a k)) ∧ Below w.heap.size w w' := by
  have hcv := conv_bytes w s
  have HB := Lib.hid (bytesWorld_below w s)
  have HG := Lib.hid (rget_yes (Lib.bytesWorld w 5 s) _ (some ⟨w.heap.size, 0, none⟩) s.size (grownCap w s.size 0 5) a k (byt s) (bytesWorld_ri w s) hk hak hs)
  clear hk hak
  go_enter Tryd.func74, Tryd.ntmps74
  go_wp2_with fail
  refine Calls.mono HG.out ?_
  rintro e w' ⟨rfl, rfl⟩
  go_wp2
  go_ret
  exact ⟨rfl, HB.out⟩
theorem num_at (s : ByteArray) (a k : Nat) (hk : k ≤ 8) (hak : a + k ≤ s.size) (hs : s.size ≤ 9223372036854775807) {v : Int} (hv : nAt (byt s) a k = v) (w : World) :
    Calls Tryd.prog 74 #[.string s, .int .i64 (a : Int), .int .i64 (k : Int)] w fun e w' => e = .returned (.int .u64 v) ∧ Below w.heap.size w w' := by
  subst hv; exact num_any' s a k hk hak hs w

set_option maxRecDepth 100000 in
set_option maxHeartbeats 8000000 in
theorem rarp_any (op fm : Int) (s : Bool) (h l tm : Int) (s' : Bool) (h' l' : Int) (w : World) :
    Calls Tryd.prog 70 #[arpv op fm s h l tm s' h' l'] w fun e w' => e = .returned (.bool (arB op fm s h l tm s' h' l')) ∧ Below w.heap.size w w' := by
  obtain ⟨V1, hV1⟩ : ∃ v, mcB fm = v := ⟨_, rfl⟩
  obtain ⟨V2, hV2⟩ : ∃ v, vld s h l = v := ⟨_, rfl⟩
  obtain ⟨V3, hV3⟩ : ∃ v, mcB tm = v := ⟨_, rfl⟩
  obtain ⟨V4, hV4⟩ : ∃ v, vld s' h' l' = v := ⟨_, rfl⟩
  have f2 : foB s h l = (!s && V2) := by rw [← hV2]; cases s <;> simp [foB, vld]
  have f4 : foB s' h' l' = (!s' && V4) := by rw [← hV4]; cases s' <;> simp [foB, vld]
  have hR2 : arB op fm s h l tm s' h' l' = ((decide (op = 1) || decide (op = 2)) && V1 && (!s && V2) && V3 && (!s' && V4)) := by rw [← hV1, ← f2, ← hV3, ← f4]; rfl
  obtain ⟨R, hR⟩ : ∃ v, arB op fm s h l tm s' h' l' = v := ⟨_, rfl⟩
  rw [hR] at hR2 ⊢
  have HR := Lib.hid hR2
  have H1 := Lib.hid (fun W => rmac_at fm hV1 W)
  have H2 := Lib.hid (fun W => rvalid_at s h l W hV2)
  have H3 := Lib.hid (fun W => rmac_at tm hV3 W)
  have H4 := Lib.hid (fun W => rvalid_at s' h' l' W hV4)
  clear hR hR2 hV1 hV2 hV3 hV4 f2 f4
  go_enter Tryd.func70, Tryd.ntmps70
  go_wp2_with fail
  refine Calls.mono (H1.out _) ?_
  rintro e w1 ⟨rfl, rfl⟩
  go_wp2_with fail
  refine Calls.mono (H3.out _) ?_
  rintro e w1 ⟨rfl, rfl⟩
  go_wp2_with fail
  refine Calls.mono (H2.out _) ?_
  rintro e w2 ⟨rfl, hb⟩
  have K2 := Lib.hid ((Blk.new w 45 #[.int .i64 op, .int .u64 fm, .bool s, .int .u64 h, .int .u64 l, .int .u64 tm, .bool s', .int .u64 h', .int .u64 l']).below hb (by simp only [World.size_alloc]; omega))
  have L2 := Lib.hid (((Below.refl _ w).alloc (Nat.le_refl _) _).trans (hb.mono (by simp only [World.size_alloc]; omega)))
  clear hb
  obtain ⟨f1, f2, f3, f4, f5, f6, f7, f8, f9⟩ := K2.out.c9
  go_wp2_with fail
  refine Calls.mono (H4.out _) ?_
  rintro e w4 ⟨rfl, hb⟩
  have K4 := Lib.hid (K2.out.below hb K2.out.lt)
  have L4 := Lib.hid (L2.out.trans (hb.mono L2.out.size))
  clear hb f1 f2 f3 f4 f5 f6 f7 f8 f9
  obtain ⟨f1, f2, f3, f4, f5, f6, f7, f8, f9⟩ := K4.out.c9
  by_cases ho : op = 1 ∨ op = 2
  · rcases ho with rfl | rfl
    all_goals
      cases V1
      · go_wp2
        go_ret
        exact ⟨ret_bool (by rw [HR.out]; simp), L4.out⟩
      · cases V3
        · go_wp2
          go_ret
          exact ⟨ret_bool (by rw [HR.out]; simp), L4.out⟩
        · cases V2
          · go_wp2
            go_ret
            exact ⟨ret_bool (by rw [HR.out]; simp), L4.out⟩
          · cases V4
            · go_wp2
              go_ret
              exact ⟨ret_bool (by rw [HR.out]; simp), L4.out⟩
            · cases s
              · cases s'
                · go_wp2
                  go_ret
                  exact ⟨ret_bool (by rw [HR.out]; simp), L4.out⟩
                · go_wp2
                  go_ret
                  exact ⟨ret_bool (by rw [HR.out]; simp), L4.out⟩
              · go_wp2
                go_ret
                exact ⟨ret_bool (by rw [HR.out]; simp), L4.out⟩
  · have n1 : ¬ op = 1 := fun e => ho (.inl e)
    have n2 : ¬ op = 2 := fun e => ho (.inr e)
    clear ho
    go_wp2
    go_ret
    exact ⟨ret_bool (by rw [HR.out]; simp [n1, n2]), L4.out⟩
theorem rarp_at (op fm : Int) (s : Bool) (h l tm : Int) (s' : Bool) (h' l' : Int) {b : Bool} (e : arB op fm s h l tm s' h' l' = b) (w : World) :
    Calls Tryd.prog 70 #[arpv op fm s h l tm s' h' l'] w fun e w' => e = .returned (.bool b) ∧ Below w.heap.size w w' := by
  subst e; exact rarp_any op fm s h l tm s' h' l' w

set_option maxRecDepth 100000 in
set_option maxHeartbeats 8000000 in
theorem rtake_any (s : ByteArray) (w : World) :
    Calls Tryd.prog 35 #[.string s] w fun e w' => e = .returned (tkV s) ∧ Below w.heap.size w w' := by
  by_cases h14 : s.size < 14
  · have HX := Lib.hid (tkV_short h14)
    have hi : (s.size : Int) < 14 := by omega
    clear h14
    go_enter Tryd.func35, Tryd.ntmps35
    go_wp2
    exact bodyPost_ret (v := .tuple #[noFrm, .int .i64 41]) (by simp [results, Tryd.results35, go_sem]) rfl ⟨by rw [HX.out], (Below.refl _ _).alloc (Nat.le_refl _) _⟩
  · by_cases h15 : 1514 < s.size
    · have HX := Lib.hid (tkV_long h15)
      have hi : ¬ (s.size : Int) < 14 := by omega
      have hi2 : (1514 : Int) < s.size := by omega
      clear h14 h15
      go_enter Tryd.func35, Tryd.ntmps35
      go_wp2
      exact bodyPost_ret (v := .tuple #[noFrm, .int .i64 42]) (by simp [results, Tryd.results35, go_sem]) rfl ⟨by rw [HX.out], (Below.refl _ _).alloc (Nat.le_refl _) _⟩
    · have hi : ¬ (s.size : Int) < 14 := by omega
      have hi2 : ¬ (1514 : Int) < s.size := by omega
      have hi3 : (14 : Int) ≤ s.size := by omega
      have hl : 14 ≤ (byt s).length := by rw [byt_len]; omega
      have k0 := nKd_bd hl (byt_by s)
      have hbad := fun h => tkV_bad (Nat.le_of_not_lt h14) (Nat.le_of_not_lt h15) h
      have hok := fun h => tkV_ok (Nat.le_of_not_lt h14) (Nat.le_of_not_lt h15) h
      obtain ⟨NT, hNT⟩ : ∃ x, nTo (byt s) = x := ⟨_, rfl⟩
      obtain ⟨NF, hNF⟩ : ∃ x, nFr (byt s) = x := ⟨_, rfl⟩
      obtain ⟨NK, hNK⟩ : ∃ x, nKd (byt s) = x := ⟨_, rfl⟩
      obtain ⟨T, hT⟩ : ∃ T, s.extract 14 s.size = T := ⟨_, rfl⟩
      have bT : strOfNums ((byt s).drop 14) = T := by rw [← str_byt T, ← hT, byt_extract, List.take_of_length_le (by rw [byt_len]; exact Nat.le_refl _)]
      rw [hNT, hNF, hNK, bT] at hok
      rw [hNK] at hbad k0
      have h1 : nAt (byt s) 0 6 = NT := hNT
      have h2 : nAt (byt s) 6 6 = NF := hNF
      have h3 : nAt (byt s) 12 2 = NK := hNK
      have H1 := Lib.hid (fun W => num_at s 0 6 (by decide) (by omega) (by omega) h1 W)
      have H2 := Lib.hid (fun W => num_at s 6 6 (by decide) (by omega) (by omega) h2 W)
      have H3 := Lib.hid (fun W => num_at s 12 2 (by decide) (by omega) (by omega) h3 W)
      obtain ⟨k00, k01⟩ := k0
      clear h14 h15 hl hNT hNF hNK bT h1 h2 h3
      by_cases hk : NK < 1536
      · have HX := Lib.hid (hbad hk)
        clear hbad hok
        go_enter Tryd.func35, Tryd.ntmps35
        go_wp2_with fail
        refine Calls.mono (H3.out _) ?_
        rintro e w1 ⟨rfl, hb⟩
        have K1 := Lib.hid ((Blk.new w 43 #[.int .u64 0, .int .u64 0, .int .i64 0, .string ⟨#[]⟩]).below hb (by simp only [World.size_alloc]; omega))
        have L1 := Lib.hid (((Below.refl _ w).alloc (Nat.le_refl _) _).trans (hb.mono (by simp only [World.size_alloc]; omega)))
        clear hb
        obtain ⟨e0, e1, e2, e3⟩ := K1.out.c4
        have y0 := K1.out.frozen 0
        have y1 := K1.out.frozen 1
        have y2 := K1.out.frozen 2
        have y3 := K1.out.frozen 3
        go_wp2
        exact bodyPost_ret (v := .tuple #[noFrm, .int .i64 40]) (by simp [results, Tryd.results35, go_sem, e0, e1, e2, e3]) rfl ⟨by rw [HX.out], ((((L1.out.setCell (p := ⟨w.heap.size, 0, none⟩) (Nat.le_refl _) _).setCell (p := ⟨w.heap.size, 1, none⟩) (Nat.le_refl _) _).setCell (p := ⟨w.heap.size, 2, none⟩) (Nat.le_refl _) _).setCell (p := ⟨w.heap.size, 3, none⟩) (Nat.le_refl _) _)⟩
      · have HX := Lib.hid (hok hk)
        clear hbad hok
        go_enter Tryd.func35, Tryd.ntmps35
        go_wp2_with fail
        refine Calls.mono (H3.out _) ?_
        rintro e w1 ⟨rfl, hb⟩
        have K1 := Lib.hid ((Blk.new w 43 #[.int .u64 0, .int .u64 0, .int .i64 0, .string ⟨#[]⟩]).below hb (by simp only [World.size_alloc]; omega))
        have L1 := Lib.hid (((Below.refl _ w).alloc (Nat.le_refl _) _).trans (hb.mono (by simp only [World.size_alloc]; omega)))
        have hR : Below w1.heap.size w1 w1.drew := (Below.refl _ _).drew
        clear hb
        go_wp2
        refine wp_region_held_drew (S := (fun _ => True)) (by kernel_rfl) ?_ (fun hHeld => ?_)
        · trivial
        refine wpAnyH_take (i := 0) (oi := { dst := some 19, op := Go.Op.move (Go.Operand.tmp 0), type := 9, pos := "ref.go:51", after := #[], guard := none }) (v := ?_) rfl (by kernel_rfl) (by kernel_rfl) (by kernel_rfl) (fun _ _ _ h => h) (Or.inl ⟨by rfl, ?_⟩) (by assumption) ?_
        rotate_left
        · intro w hSw
          (try dsimp only at hSw)
          go_simp
          try (with_reducible rfl)
        try simp only [Act.put, List.setIfInBounds_toArray, List.set_cons_zero, List.set_cons_succ]
        refine wpAnyH_take (i := 2) (oi := { dst := some 21, op := Go.Op.move (Go.Operand.tmp 0), type := 9, pos := "ref.go:51", after := #[], guard := none }) (v := ?_) rfl (by kernel_rfl) (by kernel_rfl) (by kernel_rfl) (fun _ _ _ h => h) (Or.inl ⟨by rfl, ?_⟩) (by assumption) ?_
        rotate_left
        · intro w hSw
          (try dsimp only at hSw)
          go_simp
          try (with_reducible rfl)
        try simp only [Act.put, List.setIfInBounds_toArray, List.set_cons_zero, List.set_cons_succ]
        refine wpAnyH_take (i := 4) (oi := { dst := some 23, op := Go.Op.move (Go.Operand.tmp 4), type := 3, pos := "ref.go:51", after := #[], guard := none }) (v := ?_) rfl (by kernel_rfl) (by kernel_rfl) (by kernel_rfl) (fun _ _ _ h => h) (Or.inl ⟨by rfl, ?_⟩) (by assumption) ?_
        rotate_left
        · intro w hSw
          (try dsimp only at hSw)
          go_simp
          try (with_reducible rfl)
        try simp only [Act.put, List.setIfInBounds_toArray, List.set_cons_zero, List.set_cons_succ]
        refine wpAnyH_take (i := 5) (oi := { dst := some 24, op := Go.Op.move (Go.Operand.tmp 0), type := 9, pos := "ref.go:51", after := #[], guard := none }) (v := ?_) rfl (by kernel_rfl) (by kernel_rfl) (by kernel_rfl) (fun _ _ _ h => h) (Or.inl ⟨by rfl, ?_⟩) (by assumption) ?_
        rotate_left
        · intro w hSw
          (try dsimp only at hSw)
          go_simp
          try (with_reducible rfl)
        try simp only [Act.put, List.setIfInBounds_toArray, List.set_cons_zero, List.set_cons_succ]
        refine wpAnyH_take (i := 6) (oi := { dst := some 25, op := Go.Op.slice 9 (Go.Operand.tmp 24) (some (Go.Operand.const (Go.Value.int Go.IntKind.i64 14))) none none, type := 9, pos := "ref.go:51", after := #[{ on := 5, ground := Go.Ground.data }], guard := none }) (v := ?_) rfl (by kernel_rfl) (by kernel_rfl) (by kernel_rfl) (fun _ _ _ h => h) (Or.inl ⟨by rfl, ?_⟩) (by assumption) ?_
        rotate_left
        · intro w hSw
          (try dsimp only at hSw)
          go_simp
          try (with_reducible rfl)
        try simp only [Act.put, List.setIfInBounds_toArray, List.set_cons_zero, List.set_cons_succ]
        refine wpAnyH_ready (rs := [1]) (by kernel_rfl) (by simp) ?_
        refine AllReadyH.cons (o := { dst := some 20, op := Go.Op.call { callee := Go.Callee.value (Go.Operand.func 74), args := #[Go.Operand.tmp 19, Go.Operand.const (Go.Value.int Go.IntKind.i64 0), Go.Operand.const (Go.Value.int Go.IntKind.i64 6)], argTypes := #[9, 3, 3] }, type := 23, pos := "ref.go:51", after := #[{ on := 0, ground := Go.Ground.data }], guard := none }) rfl (fun K hK => ?_) AllReadyH.nil
        go_simp
        (go_at_call 74; (with_reducible refine Calls.mono (H1.out _) ?_); rintro e W' ⟨rfl, hb⟩; replace hR := hR.trans (hb.mono hR.size); clear hb)
        go_wp2_with fail
        refine hK.out _ _ ?_ (fun hHeld => ?_)
        · trivial
        clear hK K
        try simp only [Act.put, List.setIfInBounds_toArray, List.set_cons_zero, List.set_cons_succ]
        refine wpAnyH_ready (rs := [3]) (by kernel_rfl) (by simp) ?_
        refine AllReadyH.cons (o := { dst := some 22, op := Go.Op.call { callee := Go.Callee.value (Go.Operand.func 74), args := #[Go.Operand.tmp 21, Go.Operand.const (Go.Value.int Go.IntKind.i64 6), Go.Operand.const (Go.Value.int Go.IntKind.i64 6)], argTypes := #[9, 3, 3] }, type := 23, pos := "ref.go:51", after := #[{ on := 2, ground := Go.Ground.data }, { on := 1, ground := Go.Ground.chain }], guard := none }) rfl (fun K hK => ?_) AllReadyH.nil
        go_simp
        (go_at_call 74; (with_reducible refine Calls.mono (H2.out _) ?_); rintro e W' ⟨rfl, hb⟩; replace hR := hR.trans (hb.mono hR.size); clear hb)
        go_wp2_with fail
        refine hK.out _ _ ?_ (fun hHeld => ?_)
        · trivial
        clear hK K
        try simp only [Act.put, List.setIfInBounds_toArray, List.set_cons_zero, List.set_cons_succ]
        refine wpAnyH_take (i := 7) (oi := { dst := some 26, op := Go.Op.build 43 #[(0, Go.Operand.tmp 20), (1, Go.Operand.tmp 22), (2, Go.Operand.tmp 23), (3, Go.Operand.tmp 25)], type := 43, pos := "ref.go:51", after := #[{ on := 1, ground := Go.Ground.data }, { on := 3, ground := Go.Ground.data }, { on := 4, ground := Go.Ground.data }, { on := 6, ground := Go.Ground.data }], guard := none }) (v := ?_) rfl (by kernel_rfl) (by kernel_rfl) (by kernel_rfl) (fun _ _ _ h => h) (Or.inl ⟨by rfl, ?_⟩) (by assumption) ?_
        rotate_left
        · intro w hSw
          (try dsimp only at hSw)
          go_simp
          try (with_reducible rfl)
        try simp only [Act.put, List.setIfInBounds_toArray, List.set_cons_zero, List.set_cons_succ]
        have K9 := Lib.hid (K1.out.below hR K1.out.lt)
        have L9 := Lib.hid (L1.out.trans (hR.mono L1.out.size))
        obtain ⟨e0, e1, e2, e3⟩ := K9.out.c4
        have y0 := K9.out.frozen 0
        have y1 := K9.out.frozen 1
        have y2 := K9.out.frozen 2
        have y3 := K9.out.frozen 3
        refine wpAnyH_ready (rs := [8]) (by kernel_rfl) (by simp) ?_
        refine AllReadyH.cons (o := { dst := none, op := Go.Op.store 43 (Go.Operand.tmp 2) (Go.Operand.tmp 26), type := 0, pos := "ref.go:51", after := #[{ on := 7, ground := Go.Ground.data }, { on := 3, ground := Go.Ground.chain }, { on := 0, ground := Go.Ground.phase }, { on := 1, ground := Go.Ground.phase }, { on := 2, ground := Go.Ground.phase }, { on := 3, ground := Go.Ground.phase }, { on := 4, ground := Go.Ground.phase }, { on := 5, ground := Go.Ground.phase }, { on := 6, ground := Go.Ground.phase }, { on := 7, ground := Go.Ground.phase }], guard := none }) rfl (fun K hK => ?_) AllReadyH.nil
        go_simp
        refine hK.out _ _ ?_ (fun hHeld => ?_)
        · trivial
        clear hK K
        try simp only [Act.put, List.setIfInBounds_toArray, List.set_cons_zero, List.set_cons_succ]
        refine wpAnyH_take (i := 9) (oi := { dst := some 3, op := Go.Op.assign (Go.Operand.const (Go.Value.int Go.IntKind.i64 0)), type := 26, pos := "ref.go:51", after := #[{ on := 8, ground := Go.Ground.chain }, { on := 0, ground := Go.Ground.phase }, { on := 1, ground := Go.Ground.phase }, { on := 2, ground := Go.Ground.phase }, { on := 3, ground := Go.Ground.phase }, { on := 4, ground := Go.Ground.phase }, { on := 5, ground := Go.Ground.phase }, { on := 6, ground := Go.Ground.phase }, { on := 7, ground := Go.Ground.phase }, { on := 8, ground := Go.Ground.phase }], guard := none }) (v := ?_) rfl (by kernel_rfl) (by kernel_rfl) (by kernel_rfl) (fun _ _ _ h => h) (Or.inl ⟨by rfl, ?_⟩) (by assumption) ?_
        rotate_left
        · intro w hSw
          (try dsimp only at hSw)
          go_simp
          try (with_reducible rfl)
        try simp only [Act.put, List.setIfInBounds_toArray, List.set_cons_zero, List.set_cons_succ]
        refine wpAnyH_done (by kernel_rfl) ?_ _
        clear hR
        go_wp2
        exact bodyPost_ret (v := .tuple #[frm NT NF NK T, .int .i64 0]) (by simp [results, Tryd.results35, go_sem, e0, e1, e2, e3]) rfl ⟨by rw [HX.out], ((((L9.out.setCell (p := ⟨w.heap.size, 0, none⟩) (Nat.le_refl _) _).setCell (p := ⟨w.heap.size, 1, none⟩) (Nat.le_refl _) _).setCell (p := ⟨w.heap.size, 2, none⟩) (Nat.le_refl _) _).setCell (p := ⟨w.heap.size, 3, none⟩) (Nat.le_refl _) _)⟩

set_option maxRecDepth 100000 in
set_option maxHeartbeats 8000000 in
theorem rtakeArp_any (s : ByteArray) (hs : s.size ≤ 9223372036854775807) (w : World) :
    Calls Tryd.prog 37 #[.string s] w fun e w' => e = .returned (taV s) ∧ Below w.heap.size w w' := by
  by_cases h28 : s.size < 28
  · have HX := Lib.hid (ta_short h28)
    have hi : (s.size : Int) < 28 := by omega
    clear h28
    go_enter Tryd.func37, Tryd.ntmps37
    go_wp2
    exact bodyPost_ret (v := .tuple #[noArp, .int .i64 41]) (by simp [results, Tryd.results37, go_sem]) rfl ⟨by rw [HX.out], (Below.refl _ _).alloc (Nat.le_refl _) _⟩
  · have hi : ¬ (s.size : Int) < 28 := by omega
    have hi3 : (6 : Int) ≤ s.size := by omega
    have hl : 28 ≤ (byt s).length := by rw [byt_len]; omega
    have hb2 := nAt_bd (l := byt s) (a := 6) (k := 2) (by omega) (byt_by s)
    rw [show (256 : Int) ^ 2 = 65536 by decide] at hb2
    have hIS := ar_is hl (byt_by s)
    have hbad := fun h => taV_bad (s := s) (Nat.le_of_not_lt h28) h
    have hok := fun h => taV_ok (s := s) (Nat.le_of_not_lt h28) h
    have hoo : okA (byt s) = (decide ((byt s).take 6 = [0, 1, 8, 0, 6, 4]) && (decide (nAt (byt s) 6 2 = 1) || decide (nAt (byt s) 6 2 = 2))) := rfl
    rw [hoo] at hbad hok
    have b6 : byt (s.extract 0 6) = (byt s).take 6 := by rw [byt_extract]; rfl
    rw [← hIS] at hbad hok
    obtain ⟨n4, e4⟩ : ∃ x, nAt (byt s) 6 2 = x := ⟨_, rfl⟩
    obtain ⟨n5, e5⟩ : ∃ x, nAt (byt s) 8 6 = x := ⟨_, rfl⟩
    obtain ⟨n6, e6⟩ : ∃ x, nAt (byt s) 14 4 = x := ⟨_, rfl⟩
    obtain ⟨n7, e7⟩ : ∃ x, nAt (byt s) 18 6 = x := ⟨_, rfl⟩
    obtain ⟨n8, e8⟩ : ∃ x, nAt (byt s) 24 4 = x := ⟨_, rfl⟩
    rw [e4] at hb2
    rw [e4, e5, e6, e7, e8] at hbad hok
    have H4 := Lib.hid (fun W => num_at s 6 2 (by decide) (by omega) hs e4 W)
    have H5 := Lib.hid (fun W => num_at s 8 6 (by decide) (by omega) hs e5 W)
    have H6 := Lib.hid (fun W => num_at s 14 4 (by decide) (by omega) hs e6 W)
    have H7 := Lib.hid (fun W => num_at s 18 6 (by decide) (by omega) hs e7 W)
    have H8 := Lib.hid (fun W => num_at s 24 4 (by decide) (by omega) hs e8 W)
    obtain ⟨V, hV⟩ : ∃ V, arB n4 n5 false 0 n6 n7 false 0 n8 = V := ⟨_, rfl⟩
    have HA := Lib.hid (fun W => rarp_at n4 n5 false 0 n6 n7 false 0 n8 hV W)
    rw [hV] at hbad hok
    obtain ⟨b20, b21⟩ := hb2
    have b22 : n4 ≤ 65535 := by omega
    clear h28 hl hIS hoo e4 e5 e6 e7 e8 hV b21
    cases V
    · have HX := Lib.hid (hbad (by simp))
      clear hbad hok b6
      go_enter Tryd.func37, Tryd.ntmps37
      go_wp2_with fail
      refine Calls.mono (H4.out _) ?_
      rintro e w1 ⟨rfl, hb⟩
      have K1 := Lib.hid ((Blk.new w 45 #[.int .i64 0, .int .u64 0, .bool false, .int .u64 0, .int .u64 0, .int .u64 0, .bool false, .int .u64 0, .int .u64 0]).below hb (by simp only [World.size_alloc]; omega))
      have L1 := Lib.hid (((Below.refl _ w).alloc (Nat.le_refl _) _).trans (hb.mono (by simp only [World.size_alloc]; omega)))
      clear hb
      go_wp2_with fail
      refine Calls.mono (H5.out _) ?_
      rintro e w2 ⟨rfl, hb⟩
      have K2 := Lib.hid (K1.out.below hb K1.out.lt)
      have L2 := Lib.hid (L1.out.trans (hb.mono L1.out.size))
      clear hb
      go_wp2_with fail
      refine Calls.mono (H6.out _) ?_
      rintro e w3 ⟨rfl, hb⟩
      have K3 := Lib.hid (K2.out.below hb K2.out.lt)
      have L3 := Lib.hid (L2.out.trans (hb.mono L2.out.size))
      clear hb
      go_wp2_with fail
      refine Calls.mono (H7.out _) ?_
      rintro e w4 ⟨rfl, hb⟩
      have K4 := Lib.hid (K3.out.below hb K3.out.lt)
      have L4 := Lib.hid (L3.out.trans (hb.mono L3.out.size))
      clear hb
      go_wp2_with fail
      refine Calls.mono (H8.out _) ?_
      rintro e w5 ⟨rfl, hb⟩
      have K5 := Lib.hid (K4.out.below hb K4.out.lt)
      have L5 := Lib.hid (L4.out.trans (hb.mono L4.out.size))
      clear hb
      go_wp2_with fail
      refine Calls.mono (HA.out _) ?_
      rintro e w6 ⟨rfl, hb⟩
      have K6 := Lib.hid ((K5.out.alloc (.cells #[.int .i64 n4, .int .u64 n5, .bool false, .int .u64 0, .int .u64 n6, .int .u64 n7, .bool false, .int .u64 0, .int .u64 n8] 45)).below hb (by have := K5.out.lt; simp only [World.size_alloc]; omega))
      have M6 := Lib.hid ((Blk.new w5 45 #[.int .i64 n4, .int .u64 n5, .bool false, .int .u64 0, .int .u64 n6, .int .u64 n7, .bool false, .int .u64 0, .int .u64 n8]).below hb (by simp only [World.size_alloc]; omega))
      have L6 := Lib.hid ((L5.out.alloc L5.out.size (.cells #[.int .i64 n4, .int .u64 n5, .bool false, .int .u64 0, .int .u64 n6, .int .u64 n7, .bool false, .int .u64 0, .int .u64 n8] 45)).trans (hb.mono (L5.out.alloc L5.out.size (.cells #[.int .i64 n4, .int .u64 n5, .bool false, .int .u64 0, .int .u64 n6, .int .u64 n7, .bool false, .int .u64 0, .int .u64 n8] 45)).size))
      clear hb
      obtain ⟨c0, c1, c2, c3, c4, c5, c6, c7, c8⟩ := K6.out.c9
      obtain ⟨d0, d1, d2, d3, d4, d5, d6, d7, d8⟩ := M6.out.c9
      have z0 := K6.out.frozen 0
      have z1 := K6.out.frozen 1
      have z2 := K6.out.frozen 2
      have z3 := K6.out.frozen 3
      have z4 := K6.out.frozen 4
      have z5 := K6.out.frozen 5
      have z6 := K6.out.frozen 6
      have z7 := K6.out.frozen 7
      have z8 := K6.out.frozen 8
      go_wp2
      exact bodyPost_ret (v := .tuple #[noArp, .int .i64 40]) (by simp [results, Tryd.results37, go_sem, c0, c1, c2, c3, c4, c5, c6, c7, c8]) rfl ⟨by rw [HX.out], (((((((((L6.out.setCell (p := ⟨w.heap.size, 0, none⟩) (Nat.le_refl _) _).setCell (p := ⟨w.heap.size, 1, none⟩) (Nat.le_refl _) _).setCell (p := ⟨w.heap.size, 2, none⟩) (Nat.le_refl _) _).setCell (p := ⟨w.heap.size, 3, none⟩) (Nat.le_refl _) _).setCell (p := ⟨w.heap.size, 4, none⟩) (Nat.le_refl _) _).setCell (p := ⟨w.heap.size, 5, none⟩) (Nat.le_refl _) _).setCell (p := ⟨w.heap.size, 6, none⟩) (Nat.le_refl _) _).setCell (p := ⟨w.heap.size, 7, none⟩) (Nat.le_refl _) _).setCell (p := ⟨w.heap.size, 8, none⟩) (Nat.le_refl _) _)⟩
    · by_cases h6 : (byt s).take 6 = [0, 1, 8, 0, 6, 4]
      · have HX := Lib.hid (hok (by simp [h6]))
        have hx6 : s.extract 0 6 = ⟨#[0, 1, 8, 0, 6, 4]⟩ := by apply byt_inj; rw [b6, h6]; rfl
        clear hbad hok b6 h6
        go_enter Tryd.func37, Tryd.ntmps37
        go_wp2_with fail
        refine Calls.mono (H4.out _) ?_
        rintro e w1 ⟨rfl, hb⟩
        have K1 := Lib.hid ((Blk.new w 45 #[.int .i64 0, .int .u64 0, .bool false, .int .u64 0, .int .u64 0, .int .u64 0, .bool false, .int .u64 0, .int .u64 0]).below hb (by simp only [World.size_alloc]; omega))
        have L1 := Lib.hid (((Below.refl _ w).alloc (Nat.le_refl _) _).trans (hb.mono (by simp only [World.size_alloc]; omega)))
        clear hb
        go_wp2_with fail
        refine Calls.mono (H5.out _) ?_
        rintro e w2 ⟨rfl, hb⟩
        have K2 := Lib.hid (K1.out.below hb K1.out.lt)
        have L2 := Lib.hid (L1.out.trans (hb.mono L1.out.size))
        clear hb
        go_wp2_with fail
        refine Calls.mono (H6.out _) ?_
        rintro e w3 ⟨rfl, hb⟩
        have K3 := Lib.hid (K2.out.below hb K2.out.lt)
        have L3 := Lib.hid (L2.out.trans (hb.mono L2.out.size))
        clear hb
        go_wp2_with fail
        refine Calls.mono (H7.out _) ?_
        rintro e w4 ⟨rfl, hb⟩
        have K4 := Lib.hid (K3.out.below hb K3.out.lt)
        have L4 := Lib.hid (L3.out.trans (hb.mono L3.out.size))
        clear hb
        go_wp2_with fail
        refine Calls.mono (H8.out _) ?_
        rintro e w5 ⟨rfl, hb⟩
        have K5 := Lib.hid (K4.out.below hb K4.out.lt)
        have L5 := Lib.hid (L4.out.trans (hb.mono L4.out.size))
        clear hb
        go_wp2_with fail
        refine Calls.mono (HA.out _) ?_
        rintro e w6 ⟨rfl, hb⟩
        have K6 := Lib.hid ((K5.out.alloc (.cells #[.int .i64 n4, .int .u64 n5, .bool false, .int .u64 0, .int .u64 n6, .int .u64 n7, .bool false, .int .u64 0, .int .u64 n8] 45)).below hb (by have := K5.out.lt; simp only [World.size_alloc]; omega))
        have M6 := Lib.hid ((Blk.new w5 45 #[.int .i64 n4, .int .u64 n5, .bool false, .int .u64 0, .int .u64 n6, .int .u64 n7, .bool false, .int .u64 0, .int .u64 n8]).below hb (by simp only [World.size_alloc]; omega))
        have L6 := Lib.hid ((L5.out.alloc L5.out.size (.cells #[.int .i64 n4, .int .u64 n5, .bool false, .int .u64 0, .int .u64 n6, .int .u64 n7, .bool false, .int .u64 0, .int .u64 n8] 45)).trans (hb.mono (L5.out.alloc L5.out.size (.cells #[.int .i64 n4, .int .u64 n5, .bool false, .int .u64 0, .int .u64 n6, .int .u64 n7, .bool false, .int .u64 0, .int .u64 n8] 45)).size))
        clear hb
        obtain ⟨c0, c1, c2, c3, c4, c5, c6, c7, c8⟩ := K6.out.c9
        obtain ⟨d0, d1, d2, d3, d4, d5, d6, d7, d8⟩ := M6.out.c9
        have z0 := K6.out.frozen 0
        have z1 := K6.out.frozen 1
        have z2 := K6.out.frozen 2
        have z3 := K6.out.frozen 3
        have z4 := K6.out.frozen 4
        have z5 := K6.out.frozen 5
        have z6 := K6.out.frozen 6
        have z7 := K6.out.frozen 7
        have z8 := K6.out.frozen 8
        go_wp2
        exact bodyPost_ret (v := .tuple #[arpv n4 n5 false 0 n6 n7 false 0 n8, .int .i64 0]) (by simp [results, Tryd.results37, go_sem, c0, c1, c2, c3, c4, c5, c6, c7, c8]) rfl ⟨by rw [HX.out], (((((((((L6.out.setCell (p := ⟨w.heap.size, 0, none⟩) (Nat.le_refl _) _).setCell (p := ⟨w.heap.size, 1, none⟩) (Nat.le_refl _) _).setCell (p := ⟨w.heap.size, 2, none⟩) (Nat.le_refl _) _).setCell (p := ⟨w.heap.size, 3, none⟩) (Nat.le_refl _) _).setCell (p := ⟨w.heap.size, 4, none⟩) (Nat.le_refl _) _).setCell (p := ⟨w.heap.size, 5, none⟩) (Nat.le_refl _) _).setCell (p := ⟨w.heap.size, 6, none⟩) (Nat.le_refl _) _).setCell (p := ⟨w.heap.size, 7, none⟩) (Nat.le_refl _) _).setCell (p := ⟨w.heap.size, 8, none⟩) (Nat.le_refl _) _)⟩
      · have HX := Lib.hid (hbad (by simp [h6]))
        obtain ⟨Q, hQ⟩ : ∃ Q, s.extract 0 6 = Q := ⟨_, rfl⟩
        have hne : ¬ Q = ⟨#[0, 1, 8, 0, 6, 4]⟩ := fun e => h6 (by rw [← b6, hQ, e]; rfl)
        have hn4 : ¬ Q.toList = [0, 1, 8, 0, 6, 4] := fun h => hne (by rw [ByteArray.toList_eq] at h; apply ByteArray.ext; exact Array.toList_inj.1 h)
        have hn2 : (Q.toList == [0, 1, 8, 0, 6, 4]) = false := by simpa using hn4
        have hn1 : (Q == ⟨#[0, 1, 8, 0, 6, 4]⟩) = false := by
          rw [beq_toListBytes, ByteArray.toList_eq ⟨#[0, 1, 8, 0, 6, 4]⟩]; exact hn2
        have hn3 : (Q.toList != [0, 1, 8, 0, 6, 4]) = true := by simp only [bne, hn2, Bool.not_false]
        have hn5 : (Q != ⟨#[0, 1, 8, 0, 6, 4]⟩) = true := by simp only [bne, hn1, Bool.not_false]
        clear hbad hok b6 h6 hne
        go_enter Tryd.func37, Tryd.ntmps37
        go_wp2_with fail
        refine Calls.mono (H4.out _) ?_
        rintro e w1 ⟨rfl, hb⟩
        have K1 := Lib.hid ((Blk.new w 45 #[.int .i64 0, .int .u64 0, .bool false, .int .u64 0, .int .u64 0, .int .u64 0, .bool false, .int .u64 0, .int .u64 0]).below hb (by simp only [World.size_alloc]; omega))
        have L1 := Lib.hid (((Below.refl _ w).alloc (Nat.le_refl _) _).trans (hb.mono (by simp only [World.size_alloc]; omega)))
        clear hb
        go_wp2_with fail
        refine Calls.mono (H5.out _) ?_
        rintro e w2 ⟨rfl, hb⟩
        have K2 := Lib.hid (K1.out.below hb K1.out.lt)
        have L2 := Lib.hid (L1.out.trans (hb.mono L1.out.size))
        clear hb
        go_wp2_with fail
        refine Calls.mono (H6.out _) ?_
        rintro e w3 ⟨rfl, hb⟩
        have K3 := Lib.hid (K2.out.below hb K2.out.lt)
        have L3 := Lib.hid (L2.out.trans (hb.mono L2.out.size))
        clear hb
        go_wp2_with fail
        refine Calls.mono (H7.out _) ?_
        rintro e w4 ⟨rfl, hb⟩
        have K4 := Lib.hid (K3.out.below hb K3.out.lt)
        have L4 := Lib.hid (L3.out.trans (hb.mono L3.out.size))
        clear hb
        go_wp2_with fail
        refine Calls.mono (H8.out _) ?_
        rintro e w5 ⟨rfl, hb⟩
        have K5 := Lib.hid (K4.out.below hb K4.out.lt)
        have L5 := Lib.hid (L4.out.trans (hb.mono L4.out.size))
        clear hb
        go_wp2_with fail
        refine Calls.mono (HA.out _) ?_
        rintro e w6 ⟨rfl, hb⟩
        have K6 := Lib.hid ((K5.out.alloc (.cells #[.int .i64 n4, .int .u64 n5, .bool false, .int .u64 0, .int .u64 n6, .int .u64 n7, .bool false, .int .u64 0, .int .u64 n8] 45)).below hb (by have := K5.out.lt; simp only [World.size_alloc]; omega))
        have M6 := Lib.hid ((Blk.new w5 45 #[.int .i64 n4, .int .u64 n5, .bool false, .int .u64 0, .int .u64 n6, .int .u64 n7, .bool false, .int .u64 0, .int .u64 n8]).below hb (by simp only [World.size_alloc]; omega))
        have L6 := Lib.hid ((L5.out.alloc L5.out.size (.cells #[.int .i64 n4, .int .u64 n5, .bool false, .int .u64 0, .int .u64 n6, .int .u64 n7, .bool false, .int .u64 0, .int .u64 n8] 45)).trans (hb.mono (L5.out.alloc L5.out.size (.cells #[.int .i64 n4, .int .u64 n5, .bool false, .int .u64 0, .int .u64 n6, .int .u64 n7, .bool false, .int .u64 0, .int .u64 n8] 45)).size))
        clear hb
        obtain ⟨c0, c1, c2, c3, c4, c5, c6, c7, c8⟩ := K6.out.c9
        obtain ⟨d0, d1, d2, d3, d4, d5, d6, d7, d8⟩ := M6.out.c9
        have z0 := K6.out.frozen 0
        have z1 := K6.out.frozen 1
        have z2 := K6.out.frozen 2
        have z3 := K6.out.frozen 3
        have z4 := K6.out.frozen 4
        have z5 := K6.out.frozen 5
        have z6 := K6.out.frozen 6
        have z7 := K6.out.frozen 7
        have z8 := K6.out.frozen 8
        go_wp2
        exact bodyPost_ret (v := .tuple #[noArp, .int .i64 40]) (by simp [results, Tryd.results37, go_sem, c0, c1, c2, c3, c4, c5, c6, c7, c8]) rfl ⟨by rw [HX.out], (((((((((L6.out.setCell (p := ⟨w.heap.size, 0, none⟩) (Nat.le_refl _) _).setCell (p := ⟨w.heap.size, 1, none⟩) (Nat.le_refl _) _).setCell (p := ⟨w.heap.size, 2, none⟩) (Nat.le_refl _) _).setCell (p := ⟨w.heap.size, 3, none⟩) (Nat.le_refl _) _).setCell (p := ⟨w.heap.size, 4, none⟩) (Nat.le_refl _) _).setCell (p := ⟨w.heap.size, 5, none⟩) (Nat.le_refl _) _).setCell (p := ⟨w.heap.size, 6, none⟩) (Nat.le_refl _) _).setCell (p := ⟨w.heap.size, 7, none⟩) (Nat.le_refl _) _).setCell (p := ⟨w.heap.size, 8, none⟩) (Nat.le_refl _) _)⟩

end Go.Proofs.YtnhlgonldffgoaaDoor
