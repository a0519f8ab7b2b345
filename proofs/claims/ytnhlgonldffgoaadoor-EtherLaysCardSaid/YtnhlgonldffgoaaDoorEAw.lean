/-
  The chapter's examples that each law of ether calls first: they answer true.
-/
import Derived.Test.YtnhlgonldffgoaaDoorEPr
import Derived.Test.YtnhlgonldffgoaaDoorEPm
import Derived.Test.YtnhlgonldffgoaaDoorELa
import Derived.Test.YtnhlgonldffgoaaDoorETa
namespace Go.Proofs.YtnhlgonldffgoaaDoor
open Go.RowKit
set_option linter.unusedVariables false

theorem lay_at (to_ fr k : Int) (d : ByteArray) (h0 : 0 ≤ to_) (h1 : 0 ≤ fr) {v : Value} (hv : lyV to_ fr k d = v) (w : World) :
    Calls Tryd.prog 30 #[frm to_ fr k d] w fun e w' => e = .returned v ∧ Below w.heap.size w w' := by
  subst hv; exact lay_any to_ fr k d h0 h1 w
theorem take_at (s : ByteArray) {v : Value} (hv : tkV s = v) (w : World) :
    Calls Tryd.prog 34 #[.string s] w fun e w' => e = .returned v ∧ Below w.heap.size w w' := by
  subst hv; exact take_any s w
theorem layArp_at (op fm : Int) (s : Bool) (h l tm : Int) (s' : Bool) (h' l' : Int) (f0 : 0 ≤ fm) (l0 : 0 ≤ l) (t0 : 0 ≤ tm) (m0 : 0 ≤ l') {v : Value} (hv : laV op fm s h l tm s' h' l' = v) (w : World) (hE : EnvE w) :
    Calls Tryd.prog 32 #[arpv op fm s h l tm s' h' l'] w fun e w' => e = .returned v ∧ Below w.heap.size w w' := by
  subst hv; exact layArp_any op fm s h l tm s' h' l' f0 l0 t0 m0 w hE
theorem takeArp_at (s : ByteArray) {v : Value} (hv : taV s = v) (w : World) (hE : EnvE w) :
    Calls Tryd.prog 36 #[.string s] w fun e w' => e = .returned v ∧ Below w.heap.size w w' := by
  subst hv; exact takeArp_any s w hE
theorem parseMac_at (s : ByteArray) {v : Value} (hv : pmV s = v) (w : World) :
    Calls Tryd.prog 38 #[.string s] w fun e w' => e = .returned v ∧ Below w.heap.size w w' := by
  subst hv; exact parseMac_any s w
theorem printMac_at (m : Int) (h0 : 0 ≤ m) {v : ByteArray} (hv : prM m = v) (w : World) :
    Calls Tryd.prog 40 #[.int .u64 m] w fun e w' => e = .returned (.string v) ∧ Below w.heap.size w w' := by
  subst hv; exact printMac_any m h0 w
theorem group_at (s : Bool) (h l : Int) (hh : U6 h) (hl : U6 l) {v : Int} (hv : grpV s h l = v) (w : World) :
    Calls Tryd.prog 42 #[adr s h l] w fun e w' => e = .returned (.int .u64 v) ∧ Below w.heap.size w w' := by
  subst hv; exact group_any s h l hh hl w
set_option maxHeartbeats 1000000 in
theorem ask_any (w : World) : Calls Tryd.prog 63 #[] w fun e w' => e = .returned (arpv 1 5 false 0 167772161 0 false 0 167772162) ∧ Below w.heap.size w w' := by
  go_enter Tryd.func63, Tryd.ntmps63
  go_wp2
  exact bodyPost_ret (v := arpv 1 5 false 0 167772161 0 false 0 167772162) (by simp [results, Tryd.results63, go_sem]) rfl ⟨rfl, (Below.refl _ _).alloc (Nat.le_refl _) _⟩

theorem ab_fr : frB 1 2 2048 = true := by decide
theorem ab_16 : (strOfNums (hdr 1 2 2048) ++ (⟨#[97, 98]⟩ : ByteArray) ++ strOfNums (List.replicate (46 - (⟨#[97, 98]⟩ : ByteArray).size) 0)).extract 0 16 = ⟨#[0, 0, 0, 0, 0, 1, 0, 0, 0, 0, 0, 2, 8, 0, 97, 98]⟩ := by kernel_rfl
theorem ab_60 : (strOfNums (hdr 1 2 2048) ++ (⟨#[97, 98]⟩ : ByteArray) ++ strOfNums (List.replicate (46 - (⟨#[97, 98]⟩ : ByteArray).size) 0)).size = 60 := by kernel_rfl
theorem ab_tk : ∃ D, tkV (strOfNums (hdr 1 2 2048) ++ (⟨#[97, 98]⟩ : ByteArray) ++ strOfNums (List.replicate (46 - (⟨#[97, 98]⟩ : ByteArray).size) 0)) = .tuple #[frm 1 2 2048 D, .int .i64 0] := by
  have h := tk_ly 1 2 2048 ⟨#[97, 98]⟩ ab_fr (by decide) (by decide) (by decide)
  have e : strOfNums (lyL 1 2 2048 (byt ⟨#[97, 98]⟩)) = strOfNums (hdr 1 2 2048) ++ (⟨#[97, 98]⟩ : ByteArray) ++ strOfNums (List.replicate (46 - (⟨#[97, 98]⟩ : ByteArray).size) 0) := by
    unfold lyL
    rw [byt_len, ← str_add, ← str_add, str_byt]
  rw [e] at h
  exact ⟨_, h⟩
theorem ask_ar : arB 1 5 false 0 167772161 0 false 0 167772162 = true := by decide
theorem ask_ta : taV (strOfNums (arL 1 5 167772161 0 167772162)) = .tuple #[arpv 1 5 false 0 167772161 0 false 0 167772162, .int .i64 0] := by
  have h := ta_la 1 5 167772161 0 167772162 ⟨#[]⟩ (.inl rfl) (by decide) (by decide) (by decide) (by decide) (by decide) (by decide) (by decide) (by decide)
  rwa [show strOfNums (arL 1 5 167772161 0 167772162) ++ (⟨#[]⟩ : ByteArray) = strOfNums (arL 1 5 167772161 0 167772162) by rw [← str_nil, str_add, List.append_nil]] at h
theorem pm_ex : pmV ⟨#[48, 49, 58, 48, 48, 58, 53, 69, 58, 48, 48, 58, 48, 48, 58, 102, 98]⟩ = .tuple #[.int .u64 1101088686331, .int .i64 0] := by kernel_rfl
theorem pr_ex : prM 5 = ⟨#[48, 48, 58, 48, 48, 58, 48, 48, 58, 48, 48, 58, 48, 48, 58, 48, 53]⟩ := by kernel_rfl
theorem gr_ex : grpV false 0 3758096635 = 1101088686331 := by decide +kernel
theorem u6_z : U6 0 := by unfold U6; decide
theorem u6_g : U6 3758096635 := by unfold U6; decide

set_option maxRecDepth 100000 in
set_option maxHeartbeats 8000000 in
theorem eawake_yes (w : World) (hE : EnvE w) : Calls Tryd.prog 29 #[] w fun e w' => e = .returned (.bool true) ∧ Below w.heap.size w w' := by
  have HE := Lib.hid hE
  obtain ⟨D, hD⟩ := ab_tk
  have h60 := ab_60
  have h16 := ab_16
  have hly := lyV_ok (d := ⟨#[97, 98]⟩) ab_fr (by decide)
  obtain ⟨X, hX⟩ : ∃ X, strOfNums (hdr 1 2 2048) ++ (⟨#[97, 98]⟩ : ByteArray) ++ strOfNums (List.replicate (46 - (⟨#[97, 98]⟩ : ByteArray).size) 0) = X := ⟨_, rfl⟩
  rw [hX] at hD h60 h16 hly
  have hta := ask_ta
  have hla := laV_ok ask_ar
  have h28 : (strOfNums (arL 1 5 167772161 0 167772162)).size = 28 := by rw [strOfNums_size, arL_len]
  obtain ⟨Y, hY⟩ : ∃ Y, strOfNums (arL 1 5 167772161 0 167772162) = Y := ⟨_, rfl⟩
  rw [hY] at hta hla h28
  have H1 := Lib.hid (fun W => lay_at 1 2 2048 ⟨#[97, 98]⟩ (by decide) (by decide) hly W)
  have H2 := Lib.hid (fun W => take_at X hD W)
  have H3 := Lib.hid (fun W => take_at ⟨#[48, 49, 50, 51, 52, 53, 54, 55, 56, 57, 97, 98, 99]⟩ (tkV_short (by decide)) W)
  have HA := Lib.hid ask_any
  have H4 := Lib.hid (fun W hW => layArp_at 1 5 false 0 167772161 0 false 0 167772162 (by decide) (by decide) (by decide) (by decide) hla W hW)
  have H5 := Lib.hid (fun W hW => takeArp_at Y hta W hW)
  have H6 := Lib.hid (fun W => parseMac_at _ pm_ex W)
  have HP := Lib.hid (fun W => printMac_at 5 (by decide) pr_ex W)
  have HG := Lib.hid (fun W => group_at false 0 3758096635 u6_z u6_g gr_ex W)
  have hq : ∀ W : World, (Op.equalIn 10000 45 (arpv 1 5 false 0 167772161 0 false 0 167772162) (arpv 1 5 false 0 167772161 0 false 0 167772162)).run Tryd.prog W = .ok true W := fun W => by kernel_rfl
  clear hD hly hta hla hX hY hE
  go_enter Tryd.func29, Tryd.ntmps29
  have L0 := Lib.hid (Below.refl w.heap.size w)
  go_wp2_with fail
  refine Calls.mono (H1.out _) ?_
  rintro e w1 ⟨rfl, hb⟩
  have L1 := Lib.hid (L0.out.trans (hb.mono L0.out.size))
  clear hb
  go_wp2_with fail
  refine Calls.mono (H2.out _) ?_
  rintro e w2 ⟨rfl, hb⟩
  have L2 := Lib.hid (L1.out.trans (hb.mono L1.out.size))
  clear hb
  replace L2 := Lib.hid (L2.out.alloc L2.out.size (.cells #[.int .u64 1, .int .u64 2, .int .i64 2048, .string D] 43))
  have KF2 := Lib.hid (Blk.new w2 43 #[.int .u64 1, .int .u64 2, .int .i64 2048, .string D])
  go_wp2_with fail
  refine Calls.mono (H3.out _) ?_
  rintro e w3 ⟨rfl, hb⟩
  have L3 := Lib.hid (L2.out.trans (hb.mono L2.out.size))
  have KF3 := Lib.hid (KF2.out.below hb KF2.out.lt)
  clear hb
  replace L3 := Lib.hid (L3.out.alloc L3.out.size (.cells #[.int .u64 0, .int .u64 0, .int .i64 0, .string ⟨#[]⟩] 43))
  replace KF3 := Lib.hid (KF3.out.alloc (.cells #[.int .u64 0, .int .u64 0, .int .i64 0, .string ⟨#[]⟩] 43))
  have KN3 := Lib.hid (Blk.new w3 43 #[.int .u64 0, .int .u64 0, .int .i64 0, .string ⟨#[]⟩])
  go_wp2_with fail
  refine Calls.mono (HA.out _) ?_
  rintro e w4 ⟨rfl, hb⟩
  have L4 := Lib.hid (L3.out.trans (hb.mono L3.out.size))
  have KF4 := Lib.hid (KF3.out.below hb KF3.out.lt)
  clear hb
  have E4 := HE.out.below L4.out
  go_wp2_with fail
  refine Calls.mono (H4.out _ E4) ?_
  rintro e w5 ⟨rfl, hb⟩
  have L5 := Lib.hid (L4.out.trans (hb.mono L4.out.size))
  have KF5 := Lib.hid (KF4.out.below hb KF4.out.lt)
  clear hb
  have E5 := HE.out.below L5.out
  go_wp2_with fail
  refine Calls.mono (H5.out _ E5) ?_
  rintro e w6 ⟨rfl, hb⟩
  have L6 := Lib.hid (L5.out.trans (hb.mono L5.out.size))
  have KF6 := Lib.hid (KF5.out.below hb KF5.out.lt)
  clear hb
  replace L6 := Lib.hid (L6.out.alloc L6.out.size (.cells #[.int .i64 1, .int .u64 5, .bool false, .int .u64 0, .int .u64 167772161, .int .u64 0, .bool false, .int .u64 0, .int .u64 167772162] 45))
  replace KF6 := Lib.hid (KF6.out.alloc (.cells #[.int .i64 1, .int .u64 5, .bool false, .int .u64 0, .int .u64 167772161, .int .u64 0, .bool false, .int .u64 0, .int .u64 167772162] 45))
  have KA6 := Lib.hid (Blk.new w6 45 #[.int .i64 1, .int .u64 5, .bool false, .int .u64 0, .int .u64 167772161, .int .u64 0, .bool false, .int .u64 0, .int .u64 167772162])
  obtain ⟨f0, f1, f2, f3⟩ := KF6.out.c4
  go_wp2_with fail
  refine Calls.mono (H6.out _) ?_
  rintro e w7 ⟨rfl, hb⟩
  have L7 := Lib.hid (L6.out.trans (hb.mono L6.out.size))
  have KF7 := Lib.hid (KF6.out.below hb KF6.out.lt)
  have KA7 := Lib.hid (KA6.out.below hb KA6.out.lt)
  clear hb
  clear f0 f1 f2 f3
  obtain ⟨f0, f1, f2, f3⟩ := KF7.out.c4
  obtain ⟨M, hM⟩ : ∃ M, w6.heap.size = M := ⟨_, rfl⟩
  have KM := Lib.hid (show Blk w7 M 45 #[.int .i64 1, .int .u64 5, .bool false, .int .u64 0, .int .u64 167772161, .int .u64 0, .bool false, .int .u64 0, .int .u64 167772162] by rw [← hM]; exact KA7.out)
  have HC : Hid (∀ W', Below w7.heap.size w7 W' → W'.cell? ⟨M, 0, none⟩ = some (.int .i64 1) ∧ W'.cell? ⟨M, 1, none⟩ = some (.int .u64 5) ∧ W'.cell? ⟨M, 2, none⟩ = some (.bool false) ∧ W'.cell? ⟨M, 3, none⟩ = some (.int .u64 0) ∧ W'.cell? ⟨M, 4, none⟩ = some (.int .u64 167772161) ∧ W'.cell? ⟨M, 5, none⟩ = some (.int .u64 0) ∧ W'.cell? ⟨M, 6, none⟩ = some (.bool false) ∧ W'.cell? ⟨M, 7, none⟩ = some (.int .u64 0) ∧ W'.cell? ⟨M, 8, none⟩ = some (.int .u64 167772162)) := Lib.hid fun W' hb => (KM.out.below hb KM.out.lt).c9
  have hR : Below w7.heap.size w7 w7.drew := (Below.refl _ _).drew
  rw [hM]
  clear KA6 KA7 hM
  go_wp2
  refine wp_region_held_drew (S := (fun w' => w'.cell? ⟨M, 0, none⟩ = some (.int .i64 1) ∧ w'.cell? ⟨M, 1, none⟩ = some (.int .u64 5) ∧ w'.cell? ⟨M, 2, none⟩ = some (.bool false) ∧ w'.cell? ⟨M, 3, none⟩ = some (.int .u64 0) ∧ w'.cell? ⟨M, 4, none⟩ = some (.int .u64 167772161) ∧ w'.cell? ⟨M, 5, none⟩ = some (.int .u64 0) ∧ w'.cell? ⟨M, 6, none⟩ = some (.bool false) ∧ w'.cell? ⟨M, 7, none⟩ = some (.int .u64 0) ∧ w'.cell? ⟨M, 8, none⟩ = some (.int .u64 167772162))) (by kernel_rfl) ?_ (fun hHeld => ?_)
  · exact HC.out _ hR
  refine wpAnyH_take (i := 0) (oi := { dst := some 68, op := Go.Op.move (Go.Operand.tmp 8), type := 26, pos := "law.go:24", after := #[], guard := none }) (v := ?_) rfl (by kernel_rfl) (by kernel_rfl) (by kernel_rfl) (fun _ _ _ h => h) (Or.inl ⟨by rfl, ?_⟩) (by assumption) ?_
  rotate_left
  · intro w hSw
    (try dsimp only at hSw)
    go_simp
    try (with_reducible rfl)
  try simp only [Act.put, List.setIfInBounds_toArray, List.set_cons_zero, List.set_cons_succ]
  refine wpAnyH_take (i := 1) (oi := { dst := some 69, op := Go.Op.binOp Go.BinOp.eql 26 (Go.Operand.tmp 68) (Go.Operand.const (Go.Value.int Go.IntKind.i64 0)) 26, type := 4, pos := "law.go:24", after := #[{ on := 0, ground := Go.Ground.data }], guard := none }) (v := ?_) rfl (by kernel_rfl) (by kernel_rfl) (by kernel_rfl) (fun _ _ _ h => h) (Or.inl ⟨by rfl, ?_⟩) (by assumption) ?_
  rotate_left
  · intro w hSw
    (try dsimp only at hSw)
    go_simp
    try (with_reducible rfl)
  try simp only [Act.put, List.setIfInBounds_toArray, List.set_cons_zero, List.set_cons_succ]
  refine wpAnyH_take (i := 2) (oi := { dst := some 70, op := Go.Op.move (Go.Operand.tmp 69), type := 4, pos := "law.go:24", after := #[{ on := 1, ground := Go.Ground.data }], guard := none }) (v := ?_) rfl (by kernel_rfl) (by kernel_rfl) (by kernel_rfl) (fun _ _ _ h => h) (Or.inl ⟨by rfl, ?_⟩) (by assumption) ?_
  rotate_left
  · intro w hSw
    (try dsimp only at hSw)
    go_simp
    try (with_reducible rfl)
  try simp only [Act.put, List.setIfInBounds_toArray, List.set_cons_zero, List.set_cons_succ]
  refine wpAnyH_take (i := 3) (oi := { dst := some 71, op := Go.Op.move (Go.Operand.tmp 7), type := 9, pos := "law.go:24", after := #[{ on := 2, ground := Go.Ground.guard }], guard := some (2, true) }) (v := ?_) rfl (by kernel_rfl) (by kernel_rfl) (by kernel_rfl) (fun _ _ _ h => h) (Or.inl ⟨by rfl, ?_⟩) (by assumption) ?_
  rotate_left
  · intro w hSw
    (try dsimp only at hSw)
    go_simp
    try (with_reducible rfl)
  try simp only [Act.put, List.setIfInBounds_toArray, List.set_cons_zero, List.set_cons_succ]
  refine wpAnyH_take (i := 4) (oi := { dst := some 72, op := Go.Op.call { callee := Go.Callee.builtin Go.Builtin.len, args := #[Go.Operand.tmp 71], argTypes := #[9] }, type := 3, pos := "law.go:24", after := #[{ on := 3, ground := Go.Ground.data }, { on := 2, ground := Go.Ground.guard }], guard := some (2, true) }) (v := ?_) rfl (by kernel_rfl) (by kernel_rfl) (by kernel_rfl) (fun _ _ _ h => h) (Or.inl ⟨by rfl, ?_⟩) (by assumption) ?_
  rotate_left
  · intro w hSw
    (try dsimp only at hSw)
    go_simp
    try (with_reducible rfl)
  try simp only [Act.put, List.setIfInBounds_toArray, List.set_cons_zero, List.set_cons_succ]
  refine wpAnyH_take (i := 5) (oi := { dst := some 73, op := Go.Op.binOp Go.BinOp.eql 3 (Go.Operand.tmp 72) (Go.Operand.const (Go.Value.int Go.IntKind.i64 28)) 3, type := 4, pos := "law.go:24", after := #[{ on := 4, ground := Go.Ground.data }, { on := 2, ground := Go.Ground.guard }], guard := some (2, true) }) (v := ?_) rfl (by kernel_rfl) (by kernel_rfl) (by kernel_rfl) (fun _ _ _ h => h) (Or.inl ⟨by rfl, ?_⟩) (by assumption) ?_
  rotate_left
  · intro w hSw
    (try dsimp only at hSw)
    go_simp
    try (with_reducible rfl)
  try simp only [Act.put, List.setIfInBounds_toArray, List.set_cons_zero, List.set_cons_succ]
  refine wpAnyH_take (i := 6) (oi := { dst := some 74, op := Go.Op.pick (Go.Operand.tmp 70) (Go.Operand.tmp 73) (Go.Operand.const (Go.Value.bool false)), type := 4, pos := "law.go:24", after := #[{ on := 2, ground := Go.Ground.data }, { on := 5, ground := Go.Ground.data }], guard := none }) (v := ?_) rfl (by kernel_rfl) (by kernel_rfl) (by kernel_rfl) (fun _ _ _ h => h) (Or.inl ⟨by rfl, ?_⟩) (by assumption) ?_
  rotate_left
  · intro w hSw
    (try dsimp only at hSw)
    go_simp
    try (with_reducible rfl)
  try simp only [Act.put, List.setIfInBounds_toArray, List.set_cons_zero, List.set_cons_succ]
  refine wpAnyH_take (i := 7) (oi := { dst := some 75, op := Go.Op.move (Go.Operand.tmp 74), type := 4, pos := "law.go:24", after := #[{ on := 6, ground := Go.Ground.data }, { on := 2, ground := Go.Ground.chain }], guard := none }) (v := ?_) rfl (by kernel_rfl) (by kernel_rfl) (by kernel_rfl) (fun _ _ _ h => h) (Or.inl ⟨by rfl, ?_⟩) (by assumption) ?_
  rotate_left
  · intro w hSw
    (try dsimp only at hSw)
    go_simp
    try (with_reducible rfl)
  try simp only [Act.put, List.setIfInBounds_toArray, List.set_cons_zero, List.set_cons_succ]
  refine wpAnyH_take (i := 8) (oi := { dst := some 76, op := Go.Op.move (Go.Operand.tmp 10), type := 26, pos := "law.go:24", after := #[{ on := 7, ground := Go.Ground.guard }], guard := some (7, true) }) (v := ?_) rfl (by kernel_rfl) (by kernel_rfl) (by kernel_rfl) (fun _ _ _ h => h) (Or.inl ⟨by rfl, ?_⟩) (by assumption) ?_
  rotate_left
  · intro w hSw
    (try dsimp only at hSw)
    go_simp
    try (with_reducible rfl)
  try simp only [Act.put, List.setIfInBounds_toArray, List.set_cons_zero, List.set_cons_succ]
  refine wpAnyH_take (i := 9) (oi := { dst := some 77, op := Go.Op.binOp Go.BinOp.eql 26 (Go.Operand.tmp 76) (Go.Operand.const (Go.Value.int Go.IntKind.i64 0)) 26, type := 4, pos := "law.go:24", after := #[{ on := 8, ground := Go.Ground.data }, { on := 7, ground := Go.Ground.guard }], guard := some (7, true) }) (v := ?_) rfl (by kernel_rfl) (by kernel_rfl) (by kernel_rfl) (fun _ _ _ h => h) (Or.inl ⟨by rfl, ?_⟩) (by assumption) ?_
  rotate_left
  · intro w hSw
    (try dsimp only at hSw)
    go_simp
    try (with_reducible rfl)
  try simp only [Act.put, List.setIfInBounds_toArray, List.set_cons_zero, List.set_cons_succ]
  refine wpAnyH_take (i := 10) (oi := { dst := some 78, op := Go.Op.pick (Go.Operand.tmp 75) (Go.Operand.tmp 77) (Go.Operand.const (Go.Value.bool false)), type := 4, pos := "law.go:24", after := #[{ on := 7, ground := Go.Ground.data }, { on := 9, ground := Go.Ground.data }], guard := none }) (v := ?_) rfl (by kernel_rfl) (by kernel_rfl) (by kernel_rfl) (fun _ _ _ h => h) (Or.inl ⟨by rfl, ?_⟩) (by assumption) ?_
  rotate_left
  · intro w hSw
    (try dsimp only at hSw)
    go_simp
    try (with_reducible rfl)
  try simp only [Act.put, List.setIfInBounds_toArray, List.set_cons_zero, List.set_cons_succ]
  refine wpAnyH_take (i := 11) (oi := { dst := some 79, op := Go.Op.move (Go.Operand.tmp 78), type := 4, pos := "law.go:24", after := #[{ on := 10, ground := Go.Ground.data }, { on := 7, ground := Go.Ground.chain }], guard := none }) (v := ?_) rfl (by kernel_rfl) (by kernel_rfl) (by kernel_rfl) (fun _ _ _ h => h) (Or.inl ⟨by rfl, ?_⟩) (by assumption) ?_
  rotate_left
  · intro w hSw
    (try dsimp only at hSw)
    go_simp
    try (with_reducible rfl)
  try simp only [Act.put, List.setIfInBounds_toArray, List.set_cons_zero, List.set_cons_succ]
  refine wpAnyH_take (i := 12) (oi := { dst := some 80, op := Go.Op.load 45 (Go.Operand.tmp 9), type := 45, pos := "law.go:24", after := #[{ on := 11, ground := Go.Ground.guard }], guard := some (11, true) }) (v := ?_) rfl (by kernel_rfl) (by kernel_rfl) (by kernel_rfl) (fun _ _ _ h => h) (Or.inl ⟨by rfl, ?_⟩) (by assumption) ?_
  rotate_left
  · intro w hSw
    (try dsimp only at hSw)
    go_simp
    try (with_reducible rfl)
  try simp only [Act.put, List.setIfInBounds_toArray, List.set_cons_zero, List.set_cons_succ]
  refine wpAnyH_ready (rs := [13]) (by kernel_rfl) (by simp) ?_
  refine AllReadyH.cons (o := { dst := some 81, op := Go.Op.call { callee := Go.Callee.value (Go.Operand.func 63), args := #[], argTypes := #[] }, type := 45, pos := "law.go:24", after := #[{ on := 11, ground := Go.Ground.chain }, { on := 11, ground := Go.Ground.guard }], guard := some (11, true) }) rfl (fun K hK => ?_) AllReadyH.nil
  go_simp
  (go_at_call 63; (with_reducible refine Calls.mono (HA.out _) ?_); rintro e W' ⟨rfl, hb⟩; replace hR := hR.trans (hb.mono hR.size); clear hb)
  go_wp2_with fail
  refine hK.out _ _ ?_ (fun hHeld => ?_)
  · exact HC.out _ hR
  clear hK K
  try simp only [Act.put, List.setIfInBounds_toArray, List.set_cons_zero, List.set_cons_succ]
  refine wpAnyH_take (i := 14) (oi := { dst := some 82, op := Go.Op.binOp Go.BinOp.eql 45 (Go.Operand.tmp 80) (Go.Operand.tmp 81) 45, type := 4, pos := "law.go:24", after := #[{ on := 12, ground := Go.Ground.data }, { on := 13, ground := Go.Ground.data }, { on := 11, ground := Go.Ground.guard }], guard := some (11, true) }) (v := ?_) rfl (by kernel_rfl) (by kernel_rfl) (by kernel_rfl) (fun _ _ _ h => h) (Or.inl ⟨by rfl, ?_⟩) (by assumption) ?_
  rotate_left
  · intro w hSw
    (try dsimp only at hSw)
    go_simp
    try (with_reducible rfl)
  try simp only [Act.put, List.setIfInBounds_toArray, List.set_cons_zero, List.set_cons_succ]
  refine wpAnyH_take (i := 15) (oi := { dst := some 83, op := Go.Op.pick (Go.Operand.tmp 79) (Go.Operand.tmp 82) (Go.Operand.const (Go.Value.bool false)), type := 4, pos := "law.go:24", after := #[{ on := 11, ground := Go.Ground.data }, { on := 14, ground := Go.Ground.data }], guard := none }) (v := ?_) rfl (by kernel_rfl) (by kernel_rfl) (by kernel_rfl) (fun _ _ _ h => h) (Or.inl ⟨by rfl, ?_⟩) (by assumption) ?_
  rotate_left
  · intro w hSw
    (try dsimp only at hSw)
    go_simp
    try (with_reducible rfl)
  try simp only [Act.put, List.setIfInBounds_toArray, List.set_cons_zero, List.set_cons_succ]
  refine wpAnyH_take (i := 16) (oi := { dst := some 84, op := Go.Op.move (Go.Operand.tmp 83), type := 4, pos := "law.go:24", after := #[{ on := 15, ground := Go.Ground.data }, { on := 13, ground := Go.Ground.chain }], guard := none }) (v := ?_) rfl (by kernel_rfl) (by kernel_rfl) (by kernel_rfl) (fun _ _ _ h => h) (Or.inl ⟨by rfl, ?_⟩) (by assumption) ?_
  rotate_left
  · intro w hSw
    (try dsimp only at hSw)
    go_simp
    try (with_reducible rfl)
  try simp only [Act.put, List.setIfInBounds_toArray, List.set_cons_zero, List.set_cons_succ]
  refine wpAnyH_take (i := 17) (oi := { dst := some 85, op := Go.Op.move (Go.Operand.tmp 12), type := 26, pos := "law.go:24", after := #[{ on := 16, ground := Go.Ground.guard }], guard := some (16, true) }) (v := ?_) rfl (by kernel_rfl) (by kernel_rfl) (by kernel_rfl) (fun _ _ _ h => h) (Or.inl ⟨by rfl, ?_⟩) (by assumption) ?_
  rotate_left
  · intro w hSw
    (try dsimp only at hSw)
    go_simp
    try (with_reducible rfl)
  try simp only [Act.put, List.setIfInBounds_toArray, List.set_cons_zero, List.set_cons_succ]
  refine wpAnyH_take (i := 18) (oi := { dst := some 86, op := Go.Op.binOp Go.BinOp.eql 26 (Go.Operand.tmp 85) (Go.Operand.const (Go.Value.int Go.IntKind.i64 0)) 26, type := 4, pos := "law.go:24", after := #[{ on := 17, ground := Go.Ground.data }, { on := 16, ground := Go.Ground.guard }], guard := some (16, true) }) (v := ?_) rfl (by kernel_rfl) (by kernel_rfl) (by kernel_rfl) (fun _ _ _ h => h) (Or.inl ⟨by rfl, ?_⟩) (by assumption) ?_
  rotate_left
  · intro w hSw
    (try dsimp only at hSw)
    go_simp
    try (with_reducible rfl)
  try simp only [Act.put, List.setIfInBounds_toArray, List.set_cons_zero, List.set_cons_succ]
  refine wpAnyH_take (i := 19) (oi := { dst := some 87, op := Go.Op.pick (Go.Operand.tmp 84) (Go.Operand.tmp 86) (Go.Operand.const (Go.Value.bool false)), type := 4, pos := "law.go:24", after := #[{ on := 16, ground := Go.Ground.data }, { on := 18, ground := Go.Ground.data }], guard := none }) (v := ?_) rfl (by kernel_rfl) (by kernel_rfl) (by kernel_rfl) (fun _ _ _ h => h) (Or.inl ⟨by rfl, ?_⟩) (by assumption) ?_
  rotate_left
  · intro w hSw
    (try dsimp only at hSw)
    go_simp
    try (with_reducible rfl)
  try simp only [Act.put, List.setIfInBounds_toArray, List.set_cons_zero, List.set_cons_succ]
  refine wpAnyH_take (i := 20) (oi := { dst := some 88, op := Go.Op.move (Go.Operand.tmp 87), type := 4, pos := "law.go:24", after := #[{ on := 19, ground := Go.Ground.data }, { on := 16, ground := Go.Ground.chain }], guard := none }) (v := ?_) rfl (by kernel_rfl) (by kernel_rfl) (by kernel_rfl) (fun _ _ _ h => h) (Or.inl ⟨by rfl, ?_⟩) (by assumption) ?_
  rotate_left
  · intro w hSw
    (try dsimp only at hSw)
    go_simp
    try (with_reducible rfl)
  try simp only [Act.put, List.setIfInBounds_toArray, List.set_cons_zero, List.set_cons_succ]
  refine wpAnyH_take (i := 21) (oi := { dst := some 89, op := Go.Op.move (Go.Operand.tmp 11), type := 41, pos := "law.go:24", after := #[{ on := 20, ground := Go.Ground.guard }], guard := some (20, true) }) (v := ?_) rfl (by kernel_rfl) (by kernel_rfl) (by kernel_rfl) (fun _ _ _ h => h) (Or.inl ⟨by rfl, ?_⟩) (by assumption) ?_
  rotate_left
  · intro w hSw
    (try dsimp only at hSw)
    go_simp
    try (with_reducible rfl)
  try simp only [Act.put, List.setIfInBounds_toArray, List.set_cons_zero, List.set_cons_succ]
  refine wpAnyH_take (i := 22) (oi := { dst := some 90, op := Go.Op.binOp Go.BinOp.eql 41 (Go.Operand.tmp 89) (Go.Operand.const (Go.Value.int Go.IntKind.u64 1101088686331)) 41, type := 4, pos := "law.go:24", after := #[{ on := 21, ground := Go.Ground.data }, { on := 20, ground := Go.Ground.guard }], guard := some (20, true) }) (v := ?_) rfl (by kernel_rfl) (by kernel_rfl) (by kernel_rfl) (fun _ _ _ h => h) (Or.inl ⟨by rfl, ?_⟩) (by assumption) ?_
  rotate_left
  · intro w hSw
    (try dsimp only at hSw)
    go_simp
    try (with_reducible rfl)
  try simp only [Act.put, List.setIfInBounds_toArray, List.set_cons_zero, List.set_cons_succ]
  refine wpAnyH_take (i := 23) (oi := { dst := some 91, op := Go.Op.pick (Go.Operand.tmp 88) (Go.Operand.tmp 90) (Go.Operand.const (Go.Value.bool false)), type := 4, pos := "law.go:24", after := #[{ on := 20, ground := Go.Ground.data }, { on := 22, ground := Go.Ground.data }], guard := none }) (v := ?_) rfl (by kernel_rfl) (by kernel_rfl) (by kernel_rfl) (fun _ _ _ h => h) (Or.inl ⟨by rfl, ?_⟩) (by assumption) ?_
  rotate_left
  · intro w hSw
    (try dsimp only at hSw)
    go_simp
    try (with_reducible rfl)
  try simp only [Act.put, List.setIfInBounds_toArray, List.set_cons_zero, List.set_cons_succ]
  refine wpAnyH_take (i := 24) (oi := { dst := some 92, op := Go.Op.move (Go.Operand.tmp 91), type := 4, pos := "law.go:24", after := #[{ on := 23, ground := Go.Ground.data }, { on := 20, ground := Go.Ground.chain }], guard := none }) (v := ?_) rfl (by kernel_rfl) (by kernel_rfl) (by kernel_rfl) (fun _ _ _ h => h) (Or.inl ⟨by rfl, ?_⟩) (by assumption) ?_
  rotate_left
  · intro w hSw
    (try dsimp only at hSw)
    go_simp
    try (with_reducible rfl)
  try simp only [Act.put, List.setIfInBounds_toArray, List.set_cons_zero, List.set_cons_succ]
  refine wpAnyH_ready (rs := [25]) (by kernel_rfl) (by simp) ?_
  refine AllReadyH.cons (o := { dst := some 93, op := Go.Op.call { callee := Go.Callee.value (Go.Operand.func 40), args := #[Go.Operand.const (Go.Value.int Go.IntKind.u64 5)], argTypes := #[41] }, type := 9, pos := "law.go:24", after := #[{ on := 24, ground := Go.Ground.chain }, { on := 24, ground := Go.Ground.guard }], guard := some (24, true) }) rfl (fun K hK => ?_) AllReadyH.nil
  go_simp
  (go_at_call 40; (with_reducible refine Calls.mono (HP.out _) ?_); rintro e W' ⟨rfl, hb⟩; replace hR := hR.trans (hb.mono hR.size); clear hb)
  go_wp2_with fail
  refine hK.out _ _ ?_ (fun hHeld => ?_)
  · exact HC.out _ hR
  clear hK K
  try simp only [Act.put, List.setIfInBounds_toArray, List.set_cons_zero, List.set_cons_succ]
  refine wpAnyH_take (i := 26) (oi := { dst := some 94, op := Go.Op.binOp Go.BinOp.eql 9 (Go.Operand.tmp 93) (Go.Operand.const (Go.Value.string { data := #[48, 48, 58, 48, 48, 58, 48, 48, 58, 48, 48, 58, 48, 48, 58, 48, 53] })) 9, type := 4, pos := "law.go:24", after := #[{ on := 25, ground := Go.Ground.data }, { on := 24, ground := Go.Ground.guard }], guard := some (24, true) }) (v := ?_) rfl (by kernel_rfl) (by kernel_rfl) (by kernel_rfl) (fun _ _ _ h => h) (Or.inl ⟨by rfl, ?_⟩) (by assumption) ?_
  rotate_left
  · intro w hSw
    (try dsimp only at hSw)
    go_simp
    try (with_reducible rfl)
  try simp only [Act.put, List.setIfInBounds_toArray, List.set_cons_zero, List.set_cons_succ]
  refine wpAnyH_take (i := 27) (oi := { dst := some 95, op := Go.Op.pick (Go.Operand.tmp 92) (Go.Operand.tmp 94) (Go.Operand.const (Go.Value.bool false)), type := 4, pos := "law.go:24", after := #[{ on := 24, ground := Go.Ground.data }, { on := 26, ground := Go.Ground.data }], guard := none }) (v := ?_) rfl (by kernel_rfl) (by kernel_rfl) (by kernel_rfl) (fun _ _ _ h => h) (Or.inl ⟨by rfl, ?_⟩) (by assumption) ?_
  rotate_left
  · intro w hSw
    (try dsimp only at hSw)
    go_simp
    try (with_reducible rfl)
  try simp only [Act.put, List.setIfInBounds_toArray, List.set_cons_zero, List.set_cons_succ]
  refine wpAnyH_take (i := 28) (oi := { dst := some 14, op := Go.Op.assign (Go.Operand.tmp 95), type := 4, pos := "law.go:24", after := #[{ on := 27, ground := Go.Ground.data }, { on := 25, ground := Go.Ground.chain }, { on := 0, ground := Go.Ground.phase }, { on := 1, ground := Go.Ground.phase }, { on := 2, ground := Go.Ground.phase }, { on := 3, ground := Go.Ground.phase }, { on := 4, ground := Go.Ground.phase }, { on := 5, ground := Go.Ground.phase }, { on := 6, ground := Go.Ground.phase }, { on := 7, ground := Go.Ground.phase }, { on := 8, ground := Go.Ground.phase }, { on := 9, ground := Go.Ground.phase }, { on := 10, ground := Go.Ground.phase }, { on := 11, ground := Go.Ground.phase }, { on := 12, ground := Go.Ground.phase }, { on := 13, ground := Go.Ground.phase }, { on := 14, ground := Go.Ground.phase }, { on := 15, ground := Go.Ground.phase }, { on := 16, ground := Go.Ground.phase }, { on := 17, ground := Go.Ground.phase }, { on := 18, ground := Go.Ground.phase }, { on := 19, ground := Go.Ground.phase }, { on := 20, ground := Go.Ground.phase }, { on := 21, ground := Go.Ground.phase }, { on := 22, ground := Go.Ground.phase }, { on := 23, ground := Go.Ground.phase }, { on := 24, ground := Go.Ground.phase }, { on := 25, ground := Go.Ground.phase }, { on := 26, ground := Go.Ground.phase }, { on := 27, ground := Go.Ground.phase }], guard := none }) (v := ?_) rfl (by kernel_rfl) (by kernel_rfl) (by kernel_rfl) (fun _ _ _ h => h) (Or.inl ⟨by rfl, ?_⟩) (by assumption) ?_
  rotate_left
  · intro w hSw
    (try dsimp only at hSw)
    go_simp
    try (with_reducible rfl)
  try simp only [Act.put, List.setIfInBounds_toArray, List.set_cons_zero, List.set_cons_succ]
  refine wpAnyH_done (by kernel_rfl) ?_ _
  have L8 := Lib.hid (L7.out.trans (hR.mono L7.out.size))
  clear hR
  go_wp2_with fail
  refine Calls.mono (HG.out _) ?_
  rintro e w9 ⟨rfl, hb⟩
  have L9 := L8.out.trans (hb.mono L8.out.size)
  clear hb
  go_wp2
  go_ret
  exact ⟨rfl, L9⟩
end Go.Proofs.YtnhlgonldffgoaaDoor
