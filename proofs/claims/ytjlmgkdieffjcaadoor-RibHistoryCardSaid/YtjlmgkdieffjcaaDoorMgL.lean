/-
  Several texts in one: RbBy, RbAw, RbIn, RbSt, RbMd.
-/
import Derived.Test.YtjlmgkdieffjcaaDoorMgW
import Derived.Test.YtjlmgkdieffjcaaDoorRbSm
import Derived.Test.YtjlmgkdieffjcaaDoorFrame
import Derived.Deep.SlicePairs
import Derived.Deep.Strs

namespace Go.Proofs.YtjlmgkdieffjcaaDoor
open Go.RowKit
set_option linter.unusedVariables false

set_option maxRecDepth 100000 in
theorem ten_any (w : World) : Calls Tryd.prog 21 #[] w fun e w' => e = .returned (.agg #[.bool false, .int .u64 0, .int .u64 167772160, .int .i64 8]) ∧ Below w.heap.size w w' := by
  have HB := Lib.hid (fun (o : Obj) => (Below.refl w.heap.size w).alloc (Nat.le_refl _) o)
  go_enter Tryd.func21, Tryd.ntmps21
  go_wp2
  refine bodyPost_ret (v := .agg #[.bool false, .int .u64 0, .int .u64 167772160, .int .i64 8]) (by simp [results, Tryd.results21, go_sem]) rfl ⟨rfl, HB.out _⟩
set_option maxRecDepth 100000 in
theorem by_any (n : Int) (h0 : 0 ≤ n) (h9 : n ≤ 9) (w : World) : Calls Tryd.prog 20 #[.int .u64 n] w fun e w' => e = .returned (.agg #[.bool false, .int .u64 0, .int .u64 (168361984 + n)]) ∧ Below w.heap.size w w' := by
  have HB := Lib.hid (fun (o : Obj) => (Below.refl w.heap.size w).alloc (Nat.le_refl _) o)
  have k1 : IntKind.u64.wrap (168361984 + n) = 168361984 + n := by rw [IntKind.wrap_u64]; omega
  go_enter Tryd.func20, Tryd.ntmps20
  go_wp2
  refine bodyPost_ret (v := .agg #[.bool false, .int .u64 0, .int .u64 (168361984 + n)]) (by simp [results, Tryd.results20, go_sem]) rfl ⟨rfl, HB.out _⟩
def tenP : PfI := ((false, 0, 167772160), 8)
def byR (k : Nat) : AdR := (false, 0, 168361984 + k)
def awX : PaI := (3, 5, byR 1, 0, false)
def awY : PaI := (1, 7, byR 2, 0, false)
def aw1 : List TdI := [(tenP, awX)]
def aw2 : List TdI := [(tenP, (1, 0, byR 2, 0, false)), (tenP, awX)]
def aw3 : List TdI := [(tenP, awY), (tenP, awX)]
theorem aw_a : putR [] tenP awX = (aw1, 0) := by kernel_rfl
theorem aw_b : putR aw1 tenP (1, 0, byR 2, 0, false) = (aw2, 0) := by kernel_rfl
theorem aw_c : putR aw2 tenP awY = (aw3, 0) := by kernel_rfl
theorem aw_d : putR aw3 tenP zeroX = (aw3, 140) := by kernel_rfl
theorem aw_e : bestI aw3 tenP = some awY := by kernel_rfl
theorem aw_f : dropR aw3 tenP (1, 0, byR 9, 0, false) = (aw3, 142) := by kernel_rfl
theorem aw_g : flushR aw3 1 = (aw1, 1) := by kernel_rfl
theorem aw_h : pathsI aw1 tenP = [awX] := by kernel_rfl
theorem aw_i : (prefsI aw1).length = 1 := by kernel_rfl
theorem aw_j : betI awY awX = true := by kernel_rfl
theorem aw_k : (overI aw1 (byR 1)).length = 1 := by kernel_rfl
theorem ten_ok : PfOk tenP := by unfold PfOk N64 I64 tenP; decide
theorem awX_ok : PaOk awX := by unfold PaOk N64 I64 awX byR; decide
theorem awY_ok : PaOk awY := by unfold PaOk N64 I64 awY byR; decide
theorem aw2_ok : PaOk (1, 0, byR 2, 0, false) := by unfold PaOk N64 I64 byR; decide
theorem aw9_ok : PaOk (1, 0, byR 9, 0, false) := by unfold PaOk N64 I64 byR; decide
theorem zeroX_ok : PaOk zeroX := by unfold PaOk N64 I64 zeroX; decide
theorem by1_ok : N64 (byR 1).2.1 ∧ N64 (byR 1).2.2 := by unfold N64 byR; decide
/-- The program's rib in a law that began at w. -/
structure StdR (w W : World) (p : Nat) (S : List Nat) (L : List TdI) : Prop where
  P : RbP W p S L
  bel : Below w.heap.size w W
  abv : ∀ s ∈ S, w.heap.size ≤ s
section
variable {w W W' : World} {p : Nat} {S S' : List Nat} {L M : List TdI} {g : Nat} {t : TypeId} {cs : Array Value}
theorem StdR.env (h : StdR w W p S L) (hE : EnvR w) : EnvN W S := hE.n h.bel h.abv
theorem StdR.go (h : StdR w W p S L) (hP : RbP W' p S' M) (hg : Goes W W' S S') : StdR w W' p S' M :=
  have k := hg.below h.bel.size h.abv
  ⟨hP, h.bel.trans k.1, k.2⟩
theorem StdR.read (h : StdR w W p S L) (hP : RbP W' p S L) (ht : Tch W W' S) : StdR w W' p S L := h.go hP (Goes.of_tch ht)
theorem StdR.tch0 (h : StdR w W p S L) (ht : Tch W W' []) : StdR w W' p S L := h.read (h.P.tch ht (by simp)) (ht.mono (by simp))
theorem StdR.alloc (h : StdR w W p S L) (o : Obj) : StdR w (W.alloc o) p S L := h.tch0 ((Tch.refl W []).alloc o)
/-- A block of the law's own beside it. -/
structure OwnR (W : World) (S : List Nat) (g : Nat) (t : TypeId) (cs : Array Value) : Prop where
  blk : Blk W g t cs
  non : g ∉ S
theorem OwnR.go (h : OwnR W S g t cs) (hg : Goes W W' S S') : OwnR W' S' g t cs :=
  ⟨hg.tch.blk h.blk h.non, fun hm => by
    rcases hg.fre g hm with h1 | h1
    · exact h.non h1
    · have := h.blk.lt; omega⟩
theorem OwnR.tch0 (h : OwnR W S g t cs) (ht : Tch W W' []) : OwnR W' S g t cs := h.go (Goes.of_tch (ht.mono (by simp)))
theorem OwnR.alloc (h : OwnR W S g t cs) (o : Obj) : OwnR (W.alloc o) S g t cs := ⟨h.blk.alloc o, h.non⟩
theorem OwnR.new (h : RbP W p S L) (t : TypeId) (cs : Array Value) : OwnR (W.alloc (.cells cs t)) S W.heap.size t cs := ⟨Blk.new W t cs, fun hm => by have := h.lt _ hm; omega⟩
end
end Go.Proofs.YtjlmgkdieffjcaaDoor

namespace Go.Proofs.YtjlmgkdieffjcaaDoor
open Go.RowKit
set_option linter.unusedVariables false

theorem own_new1 (w : World) (t : TypeId) (e : List Value) (sz : Nat) (h : e.length = sz) : (w.alloc (.cells e.toArray t)).ownsRow 0 t sz (.slice (some ⟨w.heap.size, 0, none⟩) 1 1) 1 e :=
  ⟨by rw [h, Nat.one_mul], .inr ⟨w.heap.size, 1, e.toArray, rfl, Nat.zero_le _, Blk.new w t e.toArray, Nat.le_refl _, by decide, by simp [h], by rw [Nat.one_mul, ← h]; exact List.take_length⟩⟩
/-- The rib, the example's two paths, and what is best. -/
structure AwR (w W : World) (p : Nat) (S : List Nat) (L : List TdI) (va vb vc : Nat) : Prop where
  Y : StdR w W p S L
  A : OwnR W S va 26 #[.int .i64 3, .int .i64 5, .bool false, .int .u64 0, .int .u64 168361985, .int .i64 0, .bool false]
  B : OwnR W S vb 26 #[.int .i64 1, .int .i64 7, .bool false, .int .u64 0, .int .u64 168361986, .int .i64 0, .bool false]
  C : OwnR W S vc 26 #[.int .i64 1, .int .i64 7, .bool false, .int .u64 0, .int .u64 168361986, .int .i64 0, .bool false]
section
variable {w W W' : World} {p : Nat} {S S' : List Nat} {L M : List TdI} {va vb vc : Nat}
theorem AwR.go (h : AwR w W p S L va vb vc) (hP : RbP W' p S' M) (hg : Goes W W' S S') : AwR w W' p S' M va vb vc := ⟨h.Y.go hP hg, h.A.go hg, h.B.go hg, h.C.go hg⟩
theorem AwR.read (h : AwR w W p S L va vb vc) (hP : RbP W' p S L) (ht : Tch W W' S) : AwR w W' p S L va vb vc := h.go hP (Goes.of_tch ht)
theorem AwR.tch0 (h : AwR w W p S L va vb vc) (ht : Tch W W' []) : AwR w W' p S L va vb vc := ⟨h.Y.tch0 ht, h.A.tch0 ht, h.B.tch0 ht, h.C.tch0 ht⟩
theorem AwR.below (h : AwR w W p S L va vb vc) (hb : Below W.heap.size W W') : AwR w W' p S L va vb vc := h.tch0 (Tch.of_below [] hb)
theorem AwR.alloc (h : AwR w W p S L va vb vc) (o : Obj) : AwR w (W.alloc o) p S L va vb vc := h.tch0 ((Tch.refl W []).alloc o)
end
set_option maxRecDepth 100000 in
set_option maxHeartbeats 8000000 in
theorem awake_yes (w : World) (hE0 : EnvR w) : Calls Tryd.prog 7 #[] w fun e w' => e = .returned (.bool true) ∧ Below w.heap.size w w' := by
  have HNew := Lib.hid (newP w)
  have HEn := Lib.hid hE0
  clear hE0
  have HTen := Lib.hid ten_any
  have HBy1 : Hid (∀ W, Calls Tryd.prog 20 #[.int .u64 1] W fun e w' => e = .returned (.agg #[.bool false, .int .u64 0, .int .u64 168361985]) ∧ Below W.heap.size W w') := Lib.hid (fun W => by_any 1 (by decide) (by decide) W)
  have HBy2 : Hid (∀ W, Calls Tryd.prog 20 #[.int .u64 2] W fun e w' => e = .returned (.agg #[.bool false, .int .u64 0, .int .u64 168361986]) ∧ Below W.heap.size W w') := Lib.hid (fun W => by_any 2 (by decide) (by decide) W)
  have HBy9 : Hid (∀ W, Calls Tryd.prog 20 #[.int .u64 9] W fun e w' => e = .returned (.agg #[.bool false, .int .u64 0, .int .u64 168361993]) ∧ Below W.heap.size W w') := Lib.hid (fun W => by_any 9 (by decide) (by decide) W)
  have HPa : Hid (∀ (W : World) (p : Nat) (S : List Nat), RbP W p S [] → EnvN W S → Calls Tryd.prog 14 #[.pointer (some ⟨p, 0, none⟩), .agg #[.bool false, .int .u64 0, .int .u64 167772160, .int .i64 8], .agg #[.int .i64 3, .int .i64 5, .bool false, .int .u64 0, .int .u64 168361985, .int .i64 0, .bool false]] W fun e w' => e = .returned (.int .i64 0) ∧ ∃ S', RbP w' p S' aw1 ∧ Goes W w' S S') := Lib.hid (fun W p S h hE => by
    have h1 := putP p S [] tenP awX ten_ok awX_ok W hE.1 hE.2 h
    rw [aw_a] at h1
    exact h1)
  have HPb : Hid (∀ (W : World) (p : Nat) (S : List Nat), RbP W p S aw1 → EnvN W S → Calls Tryd.prog 14 #[.pointer (some ⟨p, 0, none⟩), .agg #[.bool false, .int .u64 0, .int .u64 167772160, .int .i64 8], .agg #[.int .i64 1, .int .i64 0, .bool false, .int .u64 0, .int .u64 168361986, .int .i64 0, .bool false]] W fun e w' => e = .returned (.int .i64 0) ∧ ∃ S', RbP w' p S' aw2 ∧ Goes W w' S S') := Lib.hid (fun W p S h hE => by
    have h1 := putP p S aw1 tenP (1, 0, byR 2, 0, false) ten_ok aw2_ok W hE.1 hE.2 h
    rw [aw_b] at h1
    exact h1)
  have HPc : Hid (∀ (W : World) (p : Nat) (S : List Nat), RbP W p S aw2 → EnvN W S → Calls Tryd.prog 14 #[.pointer (some ⟨p, 0, none⟩), .agg #[.bool false, .int .u64 0, .int .u64 167772160, .int .i64 8], .agg #[.int .i64 1, .int .i64 7, .bool false, .int .u64 0, .int .u64 168361986, .int .i64 0, .bool false]] W fun e w' => e = .returned (.int .i64 0) ∧ ∃ S', RbP w' p S' aw3 ∧ Goes W w' S S') := Lib.hid (fun W p S h hE => by
    have h1 := putP p S aw2 tenP awY ten_ok awY_ok W hE.1 hE.2 h
    rw [aw_c] at h1
    exact h1)
  have HPd : Hid (∀ (W : World) (p : Nat) (S : List Nat), RbP W p S aw3 → EnvN W S → Calls Tryd.prog 14 #[.pointer (some ⟨p, 0, none⟩), .agg #[.bool false, .int .u64 0, .int .u64 167772160, .int .i64 8], .agg #[.int .i64 0, .int .i64 0, .bool false, .int .u64 0, .int .u64 0, .int .i64 0, .bool false]] W fun e w' => e = .returned (.int .i64 140) ∧ ∃ S', RbP w' p S' aw3 ∧ Goes W w' S S') := Lib.hid (fun W p S h hE => by
    have h1 := putP p S aw3 tenP zeroX ten_ok zeroX_ok W hE.1 hE.2 h
    rw [aw_d] at h1
    exact h1)
  have HBe : Hid (∀ (W : World) (p : Nat) (S : List Nat), RbP W p S aw3 → Calls Tryd.prog 18 #[.pointer (some ⟨p, 0, none⟩), .agg #[.bool false, .int .u64 0, .int .u64 167772160, .int .i64 8]] W fun e w' => e = .returned (.tuple #[.agg #[.int .i64 1, .int .i64 7, .bool false, .int .u64 0, .int .u64 168361986, .int .i64 0, .bool false], .bool true]) ∧ RbP w' p S aw3 ∧ Tch W w' S) := Lib.hid (fun W p S h => by
    have h1 := bestP p S aw3 tenP ten_ok W h
    rw [aw_e] at h1
    exact h1)
  have HCn : Hid (∀ (W : World) (p : Nat) (S : List Nat), RbP W p S aw3 → Calls Tryd.prog 15 #[.pointer (some ⟨p, 0, none⟩)] W fun e w' => e = .returned (.int .i64 2) ∧ RbP w' p S aw3 ∧ Tch W w' S) := Lib.hid (fun W p S h => by
    have h1 := countP p S aw3 W h
    exact h1)
  have HDr : Hid (∀ (W : World) (p : Nat) (S : List Nat), RbP W p S aw3 → Calls Tryd.prog 22 #[.pointer (some ⟨p, 0, none⟩), .agg #[.bool false, .int .u64 0, .int .u64 167772160, .int .i64 8], .agg #[.int .i64 1, .int .i64 0, .bool false, .int .u64 0, .int .u64 168361993, .int .i64 0, .bool false]] W fun e w' => e = .returned (.int .i64 142) ∧ ∃ S', RbP w' p S' aw3 ∧ Goes W w' S S') := Lib.hid (fun W p S h => by
    have h1 := dropP p S aw3 tenP (1, 0, byR 9, 0, false) ten_ok aw9_ok W h
    rw [aw_f] at h1
    exact h1)
  have HFl : Hid (∀ (W : World) (p : Nat) (S : List Nat), RbP W p S aw3 → Calls Tryd.prog 23 #[.pointer (some ⟨p, 0, none⟩), .int .i64 1] W fun e w' => e = .returned (.int .i64 1) ∧ ∃ S', RbP w' p S' aw1 ∧ Goes W w' S S') := Lib.hid (fun W p S h => by
    have h1 := flushP p S aw3 1 (by decide) W h
    rw [aw_g] at h1
    exact h1)
  have HPt : Hid (∀ (W : World) (p : Nat) (S : List Nat), RbP W p S aw1 → Calls Tryd.prog 13 #[.pointer (some ⟨p, 0, none⟩), .agg #[.bool false, .int .u64 0, .int .u64 167772160, .int .i64 8]] W fun e w' => ∃ A c, e = .returned (.slice A 1 c) ∧ w'.ownsRow W.heap.size 26 7 (.slice A 1 c) 1 [.int .i64 3, .int .i64 5, .bool false, .int .u64 0, .int .u64 168361985, .int .i64 0, .bool false] ∧ RbP w' p S aw1 ∧ Tch W w' S) := Lib.hid (fun W p S h => by
    have h1 := pathsP p S aw1 tenP ten_ok W h
    rw [aw_h] at h1
    exact h1)
  have HPf : Hid (∀ (W : World) (p : Nat) (S : List Nat), RbP W p S aw1 → Calls Tryd.prog 12 #[.pointer (some ⟨p, 0, none⟩)] W fun e w' => ∃ A c, e = .returned (.slice A 1 c) ∧ RbP w' p S aw1 ∧ Tch W w' S) := Lib.hid (fun W p S h => by
    have h1 := (prefsP p S aw1 W h).mono (R' := fun e w' => ∃ A c, e = .returned (.slice A 1 c) ∧ RbP w' p S aw1 ∧ Tch W w' S) (fun e w' ⟨A, c, a1, a2, a3⟩ => by rw [aw_i] at a1; exact ⟨A, c, a1, a3⟩)
    exact h1)
  have HOv : Hid (∀ (W : World) (p : Nat) (S : List Nat), RbP W p S aw1 → Calls Tryd.prog 19 #[.pointer (some ⟨p, 0, none⟩), .agg #[.bool false, .int .u64 0, .int .u64 168361985]] W fun e w' => ∃ A c, e = .returned (.slice A 1 c) ∧ RbP w' p S aw1 ∧ Tch W w' S) := Lib.hid (fun W p S h => by
    have h1 := (overP p S aw1 (byR 1) by1_ok W h).mono (R' := fun e w' => ∃ A c, e = .returned (.slice A 1 c) ∧ RbP w' p S aw1 ∧ Tch W w' S) (fun e w' ⟨A, c, a1, a2, a3⟩ => by rw [aw_k] at a1; exact ⟨A, c, a1, a3⟩)
    exact h1)
  have HBt : Hid (∀ W, EnvR W → Calls Tryd.prog 8 #[.agg #[.int .i64 1, .int .i64 7, .bool false, .int .u64 0, .int .u64 168361986, .int .i64 0, .bool false], .agg #[.int .i64 3, .int .i64 5, .bool false, .int .u64 0, .int .u64 168361985, .int .i64 0, .bool false]] W fun e w' => e = .returned (.bool true) ∧ Tch W w' []) := Lib.hid (fun W hE => by
    have h1 := betterP awY awX awY_ok awX_ok W hE
    rw [aw_j] at h1
    exact h1)
  have HSm : Hid (∀ (A B : Option Addr) (c d b1 b2 : Nat) (W : World), W.ownsRow b1 26 7 (.slice A 1 c) 1 [.int .i64 3, .int .i64 5, .bool false, .int .u64 0, .int .u64 168361985, .int .i64 0, .bool false] → W.ownsRow b2 26 7 (.slice B 1 d) 1 [.int .i64 3, .int .i64 5, .bool false, .int .u64 0, .int .u64 168361985, .int .i64 0, .bool false] → Calls Tryd.prog 17 #[.slice A 1 c, .slice B 1 d] W fun e w' => e = .returned (.bool true) ∧ Tch W w' []) := Lib.hid (fun A B c d b1 b2 W h1 h2 => by
    have h9 := samePa A B 1 1 c d [awX] [awX] rfl rfl (by decide) (by decide) W (own_mono h1 (Nat.zero_le _)) (own_mono h2 (Nat.zero_le _))
    rw [decide_eq_true rfl] at h9
    exact h9)
  have E1 : ∀ W, (binOp .eql 26 (.agg #[.int .i64 1, .int .i64 7, .bool false, .int .u64 0, .int .u64 168361986, .int .i64 0, .bool false]) (.agg #[.int .i64 1, .int .i64 7, .bool false, .int .u64 0, .int .u64 168361986, .int .i64 0, .bool false])).run Tryd.prog W = .ok (.bool true) W := eqA_eql 26 _ _ (eq_paR awY awY (decide_eq_true rfl))
  go_enter Tryd.func7, Tryd.ntmps7
  go_wp2_with fail
  refine Calls.mono HNew.out ?_
  rintro e w1 ⟨p, S0, rfl, hP, hb, hs⟩
  have Y0 : Hid (StdR w w1 p S0 []) := Lib.hid ⟨hP, hb, hs⟩
  clear hP hb hs
  go_wp2_with fail
  refine Calls.mono (HBy1.out _) ?_
  rintro e w2 ⟨rfl, hb⟩
  have Y1 := Lib.hid (Y0.out.tch0 (Tch.of_below [] hb))
  obtain ⟨va, hva⟩ : ∃ va, w2.heap.size = va := ⟨_, rfl⟩
  obtain ⟨W2, hW2⟩ : ∃ W, w2.alloc (.cells #[.int .i64 3, .int .i64 5, .bool false, .int .u64 0, .int .u64 168361985, .int .i64 0, .bool false] 26) = W := ⟨_, rfl⟩
  have Y2 : Hid (StdR w W2 p S0 []) := Lib.hid (hW2 ▸ Y1.out.alloc _)
  have A2 : Hid (OwnR W2 S0 va 26 #[.int .i64 3, .int .i64 5, .bool false, .int .u64 0, .int .u64 168361985, .int .i64 0, .bool false]) := Lib.hid (hW2 ▸ hva ▸ OwnR.new Y1.out.P _ _)
  have HW2 := Lib.hid (And.intro hW2 hva)
  clear hb hva hW2
  go_wp2_with fail
  rw [HW2.out.1, HW2.out.2]
  refine Calls.mono (HBy2.out _) ?_
  rintro e w3 ⟨rfl, hb⟩
  have Y3 := Lib.hid (Y2.out.tch0 (Tch.of_below [] hb))
  have A3 := Lib.hid (A2.out.tch0 (Tch.of_below [] hb))
  obtain ⟨vb, hvb⟩ : ∃ vb, w3.heap.size = vb := ⟨_, rfl⟩
  obtain ⟨W3, hW3⟩ : ∃ W, w3.alloc (.cells #[.int .i64 1, .int .i64 7, .bool false, .int .u64 0, .int .u64 168361986, .int .i64 0, .bool false] 26) = W := ⟨_, rfl⟩
  have Z : Hid (AwR w W3 p S0 [] va vb vb) := Lib.hid ⟨hW3 ▸ Y3.out.alloc _, hW3 ▸ A3.out.alloc _, hW3 ▸ hvb ▸ OwnR.new Y3.out.P _ _, hW3 ▸ hvb ▸ OwnR.new Y3.out.P _ _⟩
  have HW3 := Lib.hid (And.intro hW3 hvb)
  clear hb hvb hW3
  go_wp2_with fail
  rw [HW3.out.1, HW3.out.2]
  replace Z := Lib.hid (Z.out.tch0 (Tch.refl _ []).drew)
  refine wp_region_held_drew (S := (fun W => W.cell? ⟨va, 0, none⟩ = some (Value.int .i64 3) ∧ W.cell? ⟨va, 1, none⟩ = some (Value.int .i64 5) ∧ W.cell? ⟨va, 2, none⟩ = some (Value.bool false) ∧ W.cell? ⟨va, 3, none⟩ = some (Value.int .u64 0) ∧ W.cell? ⟨va, 4, none⟩ = some (Value.int .u64 168361985) ∧ W.cell? ⟨va, 5, none⟩ = some (Value.int .i64 0) ∧ W.cell? ⟨va, 6, none⟩ = some (Value.bool false))) (by kernel_rfl) ?_ (fun hHeld => ?_)
  · (exact Z.out.A.blk.p7)
  refine wpAnyH_take (i := 0) (oi := { dst := some 22, op := Go.Op.move (Go.Operand.tmp 1), type := 31, pos := "law.go:30", after := #[], guard := none }) (v := ?_) rfl (by kernel_rfl) (by kernel_rfl) (by kernel_rfl) (fun _ _ _ h => h) (Or.inl ⟨by rfl, ?_⟩) (by assumption) ?_
  rotate_left
  · intro w hSw
    (try dsimp only at hSw)
    go_simp
    try (with_reducible rfl)
  try simp only [Act.put, List.setIfInBounds_toArray, List.set_cons_zero, List.set_cons_succ]
  refine wpAnyH_take (i := 2) (oi := { dst := some 24, op := Go.Op.load 26 (Go.Operand.tmp 2), type := 26, pos := "law.go:30", after := #[], guard := none }) (v := ?_) rfl (by kernel_rfl) (by kernel_rfl) (by kernel_rfl) (fun _ _ _ h => h) (Or.inl ⟨by rfl, ?_⟩) (by assumption) ?_
  rotate_left
  · intro w hSw
    (try dsimp only at hSw)
    go_simp
    try (with_reducible rfl)
  try simp only [Act.put, List.setIfInBounds_toArray, List.set_cons_zero, List.set_cons_succ]
  refine wpAnyH_ready (rs := [1]) (by kernel_rfl) (by simp) ?_
  refine AllReadyH.cons (o := { dst := some 23, op := Go.Op.call { callee := Go.Callee.value (Go.Operand.func 21), args := #[], argTypes := #[] }, type := 37, pos := "law.go:30", after := #[], guard := none }) rfl (fun K hK => ?_) AllReadyH.nil
  go_simp
  (go_at_call 21; (with_reducible refine Calls.mono (HTen.out _) ?_); rintro e W' ⟨rfl, hb'⟩; replace Z := Lib.hid (Z.out.below hb'); clear hb')
  go_wp2_with fail
  refine hK.out _ _ ?_ (fun hHeld => ?_)
  · (exact Z.out.A.blk.p7)
  clear hK K
  try simp only [Act.put, List.setIfInBounds_toArray, List.set_cons_zero, List.set_cons_succ]
  refine wpAnyH_ready (rs := [3]) (by kernel_rfl) (by simp) ?_
  refine AllReadyH.cons (o := { dst := some 25, op := Go.Op.call { callee := Go.Callee.value (Go.Operand.func 14), args := #[Go.Operand.tmp 22, Go.Operand.tmp 23, Go.Operand.tmp 24], argTypes := #[31, 37, 26] }, type := 40, pos := "law.go:30", after := #[{ on := 0, ground := Go.Ground.data }, { on := 1, ground := Go.Ground.data }, { on := 2, ground := Go.Ground.data }, { on := 1, ground := Go.Ground.chain }], guard := none }) rfl (fun K hK => ?_) AllReadyH.nil
  go_simp
  (go_at_call 14; (with_reducible refine Calls.mono (HPa.out _ _ _ Z.out.Y.P (Z.out.Y.env HEn.out)) ?_); rintro e W' ⟨rfl, S', hP', hg'⟩; replace Z := Lib.hid (Z.out.go hP' hg'); clear hP' hg')
  go_wp2_with fail
  refine hK.out _ _ ?_ (fun hHeld => ?_)
  · (exact Z.out.A.blk.p7)
  clear hK K
  try simp only [Act.put, List.setIfInBounds_toArray, List.set_cons_zero, List.set_cons_succ]
  refine wpAnyH_take (i := 4) (oi := { dst := some 4, op := Go.Op.assign (Go.Operand.tmp 25), type := 40, pos := "law.go:30", after := #[{ on := 3, ground := Go.Ground.data }, { on := 3, ground := Go.Ground.chain }, { on := 0, ground := Go.Ground.phase }, { on := 1, ground := Go.Ground.phase }, { on := 2, ground := Go.Ground.phase }, { on := 3, ground := Go.Ground.phase }], guard := none }) (v := ?_) rfl (by kernel_rfl) (by kernel_rfl) (by kernel_rfl) (fun _ _ _ h => h) (Or.inl ⟨by rfl, ?_⟩) (by assumption) ?_
  rotate_left
  · intro w hSw
    (try dsimp only at hSw)
    go_simp
    try (with_reducible rfl)
  try simp only [Act.put, List.setIfInBounds_toArray, List.set_cons_zero, List.set_cons_succ]
  refine wpAnyH_done (by kernel_rfl) ?_ _
  go_wp2_with fail
  refine Calls.mono (HTen.out _) ?_
  rintro e wa1 ⟨rfl, hb'⟩
  replace Z := Lib.hid (Z.out.below hb')
  clear hb'
  go_wp2_with fail
  refine Calls.mono (HBy2.out _) ?_
  rintro e wa2 ⟨rfl, hb'⟩
  replace Z := Lib.hid (Z.out.below hb')
  clear hb'
  go_wp2_with fail
  refine Calls.mono (HPb.out _ _ _ Z.out.Y.P (Z.out.Y.env HEn.out)) ?_
  rintro e wa3 ⟨rfl, S3, hP', hg'⟩
  replace Z := Lib.hid (Z.out.go hP' hg')
  clear hP' hg'
  go_wp2_with fail
  replace Z := Lib.hid (Z.out.tch0 (Tch.refl _ []).drew)
  refine wp_region_held_drew (S := (fun W => W.cell? ⟨vb, 0, none⟩ = some (Value.int .i64 1) ∧ W.cell? ⟨vb, 1, none⟩ = some (Value.int .i64 7) ∧ W.cell? ⟨vb, 2, none⟩ = some (Value.bool false) ∧ W.cell? ⟨vb, 3, none⟩ = some (Value.int .u64 0) ∧ W.cell? ⟨vb, 4, none⟩ = some (Value.int .u64 168361986) ∧ W.cell? ⟨vb, 5, none⟩ = some (Value.int .i64 0) ∧ W.cell? ⟨vb, 6, none⟩ = some (Value.bool false))) (by kernel_rfl) ?_ (fun hHeld => ?_)
  · (exact Z.out.B.blk.p7)
  refine wpAnyH_take (i := 0) (oi := { dst := some 31, op := Go.Op.move (Go.Operand.tmp 1), type := 31, pos := "law.go:32", after := #[], guard := none }) (v := ?_) rfl (by kernel_rfl) (by kernel_rfl) (by kernel_rfl) (fun _ _ _ h => h) (Or.inl ⟨by rfl, ?_⟩) (by assumption) ?_
  rotate_left
  · intro w hSw
    (try dsimp only at hSw)
    go_simp
    try (with_reducible rfl)
  try simp only [Act.put, List.setIfInBounds_toArray, List.set_cons_zero, List.set_cons_succ]
  refine wpAnyH_take (i := 2) (oi := { dst := some 33, op := Go.Op.load 26 (Go.Operand.tmp 3), type := 26, pos := "law.go:32", after := #[], guard := none }) (v := ?_) rfl (by kernel_rfl) (by kernel_rfl) (by kernel_rfl) (fun _ _ _ h => h) (Or.inl ⟨by rfl, ?_⟩) (by assumption) ?_
  rotate_left
  · intro w hSw
    (try dsimp only at hSw)
    go_simp
    try (with_reducible rfl)
  try simp only [Act.put, List.setIfInBounds_toArray, List.set_cons_zero, List.set_cons_succ]
  refine wpAnyH_ready (rs := [1]) (by kernel_rfl) (by simp) ?_
  refine AllReadyH.cons (o := { dst := some 32, op := Go.Op.call { callee := Go.Callee.value (Go.Operand.func 21), args := #[], argTypes := #[] }, type := 37, pos := "law.go:32", after := #[], guard := none }) rfl (fun K hK => ?_) AllReadyH.nil
  go_simp
  (go_at_call 21; (with_reducible refine Calls.mono (HTen.out _) ?_); rintro e W' ⟨rfl, hb'⟩; replace Z := Lib.hid (Z.out.below hb'); clear hb')
  go_wp2_with fail
  refine hK.out _ _ ?_ (fun hHeld => ?_)
  · (exact Z.out.B.blk.p7)
  clear hK K
  try simp only [Act.put, List.setIfInBounds_toArray, List.set_cons_zero, List.set_cons_succ]
  refine wpAnyH_ready (rs := [3]) (by kernel_rfl) (by simp) ?_
  refine AllReadyH.cons (o := { dst := some 34, op := Go.Op.call { callee := Go.Callee.value (Go.Operand.func 14), args := #[Go.Operand.tmp 31, Go.Operand.tmp 32, Go.Operand.tmp 33], argTypes := #[31, 37, 26] }, type := 40, pos := "law.go:32", after := #[{ on := 0, ground := Go.Ground.data }, { on := 1, ground := Go.Ground.data }, { on := 2, ground := Go.Ground.data }, { on := 1, ground := Go.Ground.chain }], guard := none }) rfl (fun K hK => ?_) AllReadyH.nil
  go_simp
  (go_at_call 14; (with_reducible refine Calls.mono (HPc.out _ _ _ Z.out.Y.P (Z.out.Y.env HEn.out)) ?_); rintro e W' ⟨rfl, S', hP', hg'⟩; replace Z := Lib.hid (Z.out.go hP' hg'); clear hP' hg')
  go_wp2_with fail
  refine hK.out _ _ ?_ (fun hHeld => ?_)
  · (exact Z.out.B.blk.p7)
  clear hK K
  try simp only [Act.put, List.setIfInBounds_toArray, List.set_cons_zero, List.set_cons_succ]
  refine wpAnyH_take (i := 4) (oi := { dst := some 6, op := Go.Op.assign (Go.Operand.tmp 34), type := 40, pos := "law.go:32", after := #[{ on := 3, ground := Go.Ground.data }, { on := 3, ground := Go.Ground.chain }, { on := 0, ground := Go.Ground.phase }, { on := 1, ground := Go.Ground.phase }, { on := 2, ground := Go.Ground.phase }, { on := 3, ground := Go.Ground.phase }], guard := none }) (v := ?_) rfl (by kernel_rfl) (by kernel_rfl) (by kernel_rfl) (fun _ _ _ h => h) (Or.inl ⟨by rfl, ?_⟩) (by assumption) ?_
  rotate_left
  · intro w hSw
    (try dsimp only at hSw)
    go_simp
    try (with_reducible rfl)
  try simp only [Act.put, List.setIfInBounds_toArray, List.set_cons_zero, List.set_cons_succ]
  refine wpAnyH_done (by kernel_rfl) ?_ _
  go_wp2_with fail
  refine Calls.mono (HTen.out _) ?_
  rintro e wa4 ⟨rfl, hb'⟩
  replace Z := Lib.hid (Z.out.below hb')
  clear hb'
  go_wp2_with fail
  refine Calls.mono (HPd.out _ _ _ Z.out.Y.P (Z.out.Y.env HEn.out)) ?_
  rintro e wa5 ⟨rfl, S5, hP', hg'⟩
  replace Z := Lib.hid (Z.out.go hP' hg')
  clear hP' hg'
  go_wp2_with fail
  refine Calls.mono (HTen.out _) ?_
  rintro e wa6 ⟨rfl, hb'⟩
  replace Z := Lib.hid (Z.out.below hb')
  clear hb'
  go_wp2_with fail
  refine Calls.mono (HBe.out _ _ _ Z.out.Y.P) ?_
  rintro e wa7 ⟨rfl, hP', hT'⟩
  replace Z := Lib.hid (Z.out.read hP' hT')
  clear hP' hT'
  obtain ⟨vc, hvc⟩ : ∃ vc, wa7.heap.size = vc := ⟨_, rfl⟩
  obtain ⟨W4, hW4⟩ : ∃ W, wa7.alloc (.cells #[.int .i64 1, .int .i64 7, .bool false, .int .u64 0, .int .u64 168361986, .int .i64 0, .bool false] 26) = W := ⟨_, rfl⟩
  have HZ := Z
  replace Z : Hid (AwR w W4 p _ aw3 va vb vc) := Lib.hid ⟨hW4 ▸ HZ.out.Y.alloc _, hW4 ▸ HZ.out.A.alloc _, hW4 ▸ HZ.out.B.alloc _, hW4 ▸ hvc ▸ OwnR.new HZ.out.Y.P _ _⟩
  have HW4 := Lib.hid (And.intro hW4 hvc)
  clear hvc hW4 HZ
  go_wp2_with fail
  rw [HW4.out.1, HW4.out.2]
  refine Calls.mono (HCn.out _ _ _ Z.out.Y.P) ?_
  rintro e wc1 ⟨rfl, hP', hT'⟩
  replace Z := Lib.hid (Z.out.read hP' hT')
  clear hP' hT'
  go_wp2_with fail
  refine Calls.mono (HTen.out _) ?_
  rintro e wa8 ⟨rfl, hb'⟩
  replace Z := Lib.hid (Z.out.below hb')
  clear hb'
  go_wp2_with fail
  refine Calls.mono (HBy9.out _) ?_
  rintro e wa9 ⟨rfl, hb'⟩
  replace Z := Lib.hid (Z.out.below hb')
  clear hb'
  go_wp2_with fail
  refine Calls.mono (HDr.out _ _ _ Z.out.Y.P) ?_
  rintro e wa10 ⟨rfl, S10, hP', hg'⟩
  replace Z := Lib.hid (Z.out.go hP' hg')
  clear hP' hg'
  go_wp2_with fail
  refine Calls.mono (HFl.out _ _ _ Z.out.Y.P) ?_
  rintro e wa11 ⟨rfl, S11, hP', hg'⟩
  replace Z := Lib.hid (Z.out.go hP' hg')
  clear hP' hg'
  go_wp2_with fail
  refine Calls.mono (HTen.out _) ?_
  rintro e wa12 ⟨rfl, hb'⟩
  replace Z := Lib.hid (Z.out.below hb')
  clear hb'
  go_wp2_with fail
  refine Calls.mono (HPt.out _ _ _ Z.out.Y.P) ?_
  rintro e wp ⟨Ap, cp, rfl, hop, hP', hT'⟩
  replace Z := Lib.hid (Z.out.read hP' hT')
  have HOp := Lib.hid hop
  clear hop hP' hT'
  obtain ⟨x0, x1, x2, x3, x4, x5, x6⟩ := Z.out.A.blk.p7
  obtain ⟨y0, y1, y2, y3, y4, y5, y6⟩ := Z.out.B.blk.p7
  obtain ⟨z0, z1, z2, z3, z4, z5, z6⟩ := Z.out.C.blk.p7
  have HOq := Lib.hid (own_new1 wp 26 [.int .i64 3, .int .i64 5, .bool false, .int .u64 0, .int .u64 168361985, .int .i64 0, .bool false] 7 rfl)
  have HOr := Lib.hid (HOp.out.alloc (.cells #[.int .i64 3, .int .i64 5, .bool false, .int .u64 0, .int .u64 168361985, .int .i64 0, .bool false] 26))
  have Z2 := Lib.hid (Z.out.alloc (.cells #[.int .i64 3, .int .i64 5, .bool false, .int .u64 0, .int .u64 168361985, .int .i64 0, .bool false] 26))
  go_wp2_with fail
  refine Calls.mono (HSm.out _ _ _ _ _ _ _ HOr.out HOq.out) ?_
  rintro e wq ⟨rfl, hT'⟩
  replace Z := Lib.hid (Z2.out.tch0 hT')
  clear hT' x0 x1 x2 x3 x4 x5 x6 y0 y1 y2 y3 y4 y5 y6 z0 z1 z2 z3 z4 z5 z6 Z2
  go_wp2_with fail
  refine Calls.mono (HPf.out _ _ _ Z.out.Y.P) ?_
  rintro e wr ⟨Af, cf, rfl, hP', hT'⟩
  replace Z := Lib.hid (Z.out.read hP' hT')
  clear hP' hT'
  obtain ⟨x0, x1, x2, x3, x4, x5, x6⟩ := Z.out.A.blk.p7
  obtain ⟨y0, y1, y2, y3, y4, y5, y6⟩ := Z.out.B.blk.p7
  go_wp2_with fail
  refine Calls.mono (HBt.out _ (Z.out.Y.env HEn.out).1) ?_
  rintro e ws ⟨rfl, hT'⟩
  replace Z := Lib.hid (Z.out.tch0 hT')
  clear hT' x0 x1 x2 x3 x4 x5 x6 y0 y1 y2 y3 y4 y5 y6
  go_wp2_with fail
  refine Calls.mono (HBy1.out _) ?_
  rintro e wa13 ⟨rfl, hb'⟩
  replace Z := Lib.hid (Z.out.below hb')
  clear hb'
  go_wp2_with fail
  refine Calls.mono (HOv.out _ _ _ Z.out.Y.P) ?_
  rintro e wt ⟨Ao, co, rfl, hP', hT'⟩
  replace Z := Lib.hid (Z.out.read hP' hT')
  clear hP' hT'
  go_wp2
  go_ret
  exact ⟨rfl, Z.out.Y.bel⟩
end Go.Proofs.YtjlmgkdieffjcaaDoor

namespace Go.Proofs.YtjlmgkdieffjcaaDoor
open Go.ChangeShapes Go.WideShapes Go.ChangeAt Go.RowKit
set_option linter.unusedVariables false

section
variable {H : Type} {enc : TypeId × Value → H} {W : World}
theorem array7 {cs : Array Value} (h : cs.size = 7) : ∃ a b c d e f g, cs = #[a, b, c, d, e, f, g] := by
  obtain ⟨l⟩ := cs
  match l, h with
  | [a, b, c, d, e, f, g], _ => exact ⟨a, b, c, d, e, f, g, rfl⟩
set_option maxRecDepth 100000 in
set_option maxHeartbeats 1000000 in
theorem open_pa {b0 base : Nat} {spare : Nat → Bool} {held : Bool} {v : Value} {d : DataW H} {ps : List MemPlace}
    (hval : Value.okWide Tryd.prog W .any b0 26 v) (h : DataW.Trod enc Tryd.prog W base spare held 26 v d ps) :
    ∃ pr me s h l po aw, v = .agg #[.int .i64 pr, .int .i64 me, .bool s, .int .u64 h, .int .u64 l, .int .i64 po, .bool aw] ∧ (Lit.int .i64 pr).wf = true ∧ (Lit.int .i64 me).wf = true ∧ (Lit.int .u64 h).wf = true ∧ (Lit.int .u64 l).wf = true ∧ (Lit.int .i64 po).wf = true ∧ ps = [] := by
  obtain ⟨cs, rfl, hsz⟩ := okWide_struct Tryd.underlying26 hval
  have eC : Tryd.prog.cellsOf 26 = 7 := by kernel_rfl
  rw [eC] at hsz
  obtain ⟨c0, c1, c2, c3, c4, c5, c6, rfl⟩ := array7 hsz
  obtain ⟨fuel, hf⟩ := h
  have e0 : Tryd.prog.cellsOf 24 = 3 := by kernel_rfl
  have e1 : Tryd.prog.cellsOf 3 = 1 := by kernel_rfl
  have e2 : Tryd.prog.cellsOf 4 = 1 := by kernel_rfl
  have e3 : Tryd.prog.cellsOf 22 = 1 := by kernel_rfl
  cases fuel with
  | zero => simp [DataW.trod] at hf
  | succ fuel =>
    simp only [DataW.trod, Tryd.underlying26, Value.cells] at hf
    split at hf
    · obtain ⟨xs, hm, hx⟩ := Option.map_eq_some_iff.1 hf
      simp only [List.mapM_cons, List.mapM_nil, bind, Option.bind_eq_some_iff, pure, Option.some.injEq] at hm
      obtain ⟨y0, g0, r0, ⟨y1, g1, r1, ⟨y2, g2, r2, ⟨y3, g3, r3, ⟨y4, g4, r4, rfl, rfl⟩, rfl⟩, rfl⟩, rfl⟩, rfl⟩ := hm
      simp only [e0, e1, e2, List.drop_zero, List.take_succ_cons, List.take_zero, List.drop_succ_cons] at g0 g1 g2 g3 g4
      obtain ⟨z0, z1, z2, m, hz, _, k0, k1, k2⟩ := Go.Deep.trod_struct3 Tryd.underlying24 g2
      simp only [e2, e3, List.drop_zero, List.take_succ_cons, List.take_zero, List.drop_succ_cons] at k0 k1 k2
      obtain ⟨pr, epr, q0, w0⟩ := DataW.trod_int Tryd.underlying3 g0
      obtain ⟨me, eme, q1, w1⟩ := DataW.trod_int Tryd.underlying3 g1
      obtain ⟨s, es, q2⟩ := DataW.trod_bool Tryd.underlying4 k0
      obtain ⟨h, eh, q3, w3⟩ := DataW.trod_int Tryd.underlying22 k1
      obtain ⟨l, el, q4, w4⟩ := DataW.trod_int Tryd.underlying22 k2
      obtain ⟨po, epo, q5, w5⟩ := DataW.trod_int Tryd.underlying3 g3
      obtain ⟨aw, eaw, q6⟩ := DataW.trod_bool Tryd.underlying4 g4
      injection epr with epr _
      injection eme with eme _
      injection es with es _
      injection eh with eh _
      injection el with el _
      injection epo with epo _
      injection eaw with eaw _
      subst epr eme es eh el epo eaw
      refine ⟨pr, me, s, h, l, po, aw, rfl, w0, w1, w3, w4, w5, ?_⟩
      simp only [Prod.mk.injEq] at hx
      rw [← hx.2]
      simp [q0, q1, hz, q2, q3, q4, q5, q6]
    · cases hf
end
theorem n64R {x : Int} (h : (Lit.int .u64 x).wf = true) : ∃ n : Nat, x = n ∧ N64 n := by
  have h1 : 0 ≤ x ∧ x ≤ 18446744073709551615 := by simpa [Lit.wf, IntKind.min, IntKind.max, IntKind.bits, IntKind.signed] using h
  exact ⟨x.toNat, by omega, by unfold N64; omega⟩
end Go.Proofs.YtjlmgkdieffjcaaDoor

namespace Go.Proofs.YtjlmgkdieffjcaaDoor
open Go.RowKit Go.ChangeShapes Go.WideShapes Go.ChangeAt
set_option linter.unusedVariables false

abbrev Stp := StpR
instance : Inhabited Stp := ⟨⟨0, ((false, 0, 0), 0), zeroX⟩⟩
/-- A slice of steps that came in. -/
def IsStp (w : World) (a : Option Addr) (l : Nat) (z : List Stp) : Prop :=
  z.length = l ∧ (∀ x ∈ z, x.ok) ∧ (0 < l → ∃ b o, a = some ⟨b, o, none⟩ ∧ b < w.heap.size ∧ ∀ j x, z[j]? = some x → ∀ k v, (srC x)[k]? = some v → w.cell? ⟨b, o + j * 12 + k, none⟩ = some v)
theorem IsStp.below {w w' : World} {a : Option Addr} {l : Nat} {z : List Stp} (h : IsStp w a l z) (hb : Below w.heap.size w w') : IsStp w' a l z := by
  refine ⟨h.1, h.2.1, fun h0 => ?_⟩
  obtain ⟨b, o, e, hlt, hc⟩ := h.2.2 h0
  exact ⟨b, o, e, by have := hb.size; omega, fun j x hx k v hv => (hb.cell (p := ⟨b, o + j * 12 + k, none⟩) hlt).trans (hc j x hx k v hv)⟩
set_option maxRecDepth 100000 in
set_option maxHeartbeats 4000000 in
theorem open_step {H : Type} {enc : TypeId × Value → H} {W : World} {base n : Nat} {spare : Nat → Bool} {held : Bool} {cs : List Value} {y : DataW H × List MemPlace} (hl : cs.length = 12) (hf : DataW.trod enc Tryd.prog W base spare held n 61 cs = some y) :
    ∃ q : StpR, cs = srC q ∧ q.ok := by
  match cs, hl with
  | [c0, c1, c2, c3, c4, c5, c6, c7, c8, c9, c10, c11], _ =>
    have e0 : Tryd.prog.cellsOf 24 = 3 := by kernel_rfl
    have e1 : Tryd.prog.cellsOf 3 = 1 := by kernel_rfl
    have e2 : Tryd.prog.cellsOf 4 = 1 := by kernel_rfl
    have e3 : Tryd.prog.cellsOf 22 = 1 := by kernel_rfl
    have e4 : Tryd.prog.cellsOf 37 = 4 := by kernel_rfl
    have e5 : Tryd.prog.cellsOf 26 = 7 := by kernel_rfl
    cases n with
    | zero => simp [DataW.trod] at hf
    | succ n =>
      simp only [DataW.trod, Tryd.underlying61] at hf
      split at hf
      · obtain ⟨xs, hm, hx⟩ := Option.map_eq_some_iff.1 hf
        simp only [List.mapM_cons, List.mapM_nil, bind, Option.bind_eq_some_iff, pure, Option.some.injEq] at hm
        obtain ⟨y0, g0, r0, ⟨y1, g1, r1, ⟨y2, g2, r2, rfl, rfl⟩, rfl⟩, rfl⟩ := hm
        simp only [e1, e4, e5, List.drop_zero, List.take_succ_cons, List.take_zero, List.drop_succ_cons] at g0 g1 g2
        obtain ⟨x0, t0, q0, w0⟩ := DataW.trod_int Tryd.underlying3 g0
        obtain ⟨p0, p1, m1, hp, _, k0, k1⟩ := trod_struct2 Tryd.underlying37 g1
        simp only [e0, e1, List.drop_zero, List.take_succ_cons, List.take_zero, List.drop_succ_cons] at k0 k1
        obtain ⟨z0, z1, z2, m, hz, _, a0, a1, a2⟩ := Go.Deep.trod_struct3 Tryd.underlying24 k0
        simp only [e2, e3, List.drop_zero, List.take_succ_cons, List.take_zero, List.drop_succ_cons] at a0 a1 a2
        obtain ⟨x1, t1, q1⟩ := DataW.trod_bool Tryd.underlying4 a0
        obtain ⟨x2, t2, q2, w2⟩ := DataW.trod_int Tryd.underlying22 a1
        obtain ⟨x3, t3, q3, w3⟩ := DataW.trod_int Tryd.underlying22 a2
        obtain ⟨x4, t4, q4, w4⟩ := DataW.trod_int Tryd.underlying3 k1
        clear g0 g1 k0 k1 a0 a1 a2 hp hz hx
        cases n with
        | zero => simp [DataW.trod] at g2
        | succ n =>
          simp only [DataW.trod, Tryd.underlying26] at g2
          split at g2
          · obtain ⟨xs, hm, hx⟩ := Option.map_eq_some_iff.1 g2
            simp only [List.mapM_cons, List.mapM_nil, bind, Option.bind_eq_some_iff, pure, Option.some.injEq] at hm
            obtain ⟨y5, g5, r5, ⟨y6, g6, r6, ⟨y7, g7, r7, ⟨y8, g8, r8, ⟨y9, g9, r9, rfl, rfl⟩, rfl⟩, rfl⟩, rfl⟩, rfl⟩ := hm
            simp only [e0, e1, e2, List.drop_zero, List.take_succ_cons, List.take_zero, List.drop_succ_cons] at g5 g6 g7 g8 g9
            obtain ⟨x5, t5, q5, w5⟩ := DataW.trod_int Tryd.underlying3 g5
            obtain ⟨x6, t6, q6, w6⟩ := DataW.trod_int Tryd.underlying3 g6
            obtain ⟨u0, u1, u2, m', hu, _, l0, l1, l2⟩ := Go.Deep.trod_struct3 Tryd.underlying24 g7
            simp only [e2, e3, List.drop_zero, List.take_succ_cons, List.take_zero, List.drop_succ_cons] at l0 l1 l2
            obtain ⟨x7, t7, q7⟩ := DataW.trod_bool Tryd.underlying4 l0
            obtain ⟨x8, t8, q8, w8⟩ := DataW.trod_int Tryd.underlying22 l1
            obtain ⟨x9, t9, q9, w9⟩ := DataW.trod_int Tryd.underlying22 l2
            obtain ⟨xa, ta, qa, wa⟩ := DataW.trod_int Tryd.underlying3 g8
            obtain ⟨xc, tc, qc⟩ := DataW.trod_bool Tryd.underlying4 g9
            injection t0 with t0 _
            injection t1 with t1 _
            injection t2 with t2 _
            injection t3 with t3 _
            injection t4 with t4 _
            injection t5 with t5 _
            injection t6 with t6 _
            injection t7 with t7 _
            injection t8 with t8 _
            injection t9 with t9 _
            injection ta with ta _
            injection tc with tc _
            subst t0 t1 t2 t3 t4 t5 t6 t7 t8 t9 ta tc
            obtain ⟨n2, rfl, v2⟩ := n64R w2
            obtain ⟨n3, rfl, v3⟩ := n64R w3
            obtain ⟨n8, rfl, v8⟩ := n64R w8
            obtain ⟨n9, rfl, v9⟩ := n64R w9
            exact ⟨⟨x0, ((x1, n2, n3), x4), (x5, x6, (x7, n8, n9), xa, xc)⟩, rfl, w0, ⟨⟨v2, v3⟩, w4⟩, w5, w6, ⟨v8, v9⟩, wa⟩
          · cases g2
      · cases hf
set_option maxRecDepth 100000 in
theorem isStp_of {H : Type} {enc : TypeId × Value → H} {W : World} {a : Option Addr} {l c : Nat} {d : DataW H} {p : List MemPlace} (h : DataW.Trod enc Tryd.prog W 0 (fun _ => true) true 30 (.slice a l c) d p) : ∃ z, IsStp W a l z := by
  obtain ⟨fuel, hf⟩ := h
  have ce : Tryd.prog.cellsOf 61 = 12 := by kernel_rfl
  rcases Go.Deep.open_slice Tryd.underlying30 hf with ⟨hcs, _⟩ | ⟨ad, len, cap, m, n, D, Pl, hcs, _, hl, hm, hmm, _, hx⟩
  · simp [Value.cells] at hcs
    obtain ⟨rfl, rfl, rfl⟩ := hcs
    exact ⟨[], rfl, fun x hx => (by cases hx), fun h0 => absurd h0 (by omega)⟩
  · simp [Value.cells] at hcs
    obtain ⟨rfl, rfl, rfl⟩ := hcs
    simp only [if_true] at hmm
    have each : ∀ i, i < l → ∃ q : Stp, (∀ k v, (srC q)[k]? = some v → W.cell? ((ad.add (i * 12)).add k) = some v) ∧ q.ok := by
      intro i hi
      obtain ⟨cs', h1, h2⟩ := hx i (by omega)
      rw [ce] at h1
      obtain ⟨_, hlen, hcell⟩ := World.cells?_some h1
      obtain ⟨q, hq, hok⟩ := open_step hlen h2
      refine ⟨q, fun k v hv => ?_, hok⟩
      rw [← hq] at hv
      have hk := (List.getElem?_eq_some_iff.1 hv).1
      have := hcell k (by omega)
      rw [this]
      simpa using hv
    obtain ⟨q, hq⟩ := Go.Deep.choose_lt each
    refine ⟨(List.range l).map q, by simp, fun x hx => ?_, fun h0 => ?_⟩
    · obtain ⟨i, hi, rfl⟩ := List.mem_map.1 hx
      exact (hq i (List.mem_range.1 hi)).2
    · obtain ⟨b, off, spot⟩ := ad
      have hc := (hq 0 h0).1 0 _ rfl
      have hspot : spot = none := by simpa [Addr.add] using World.cell?_spot hc
      subst hspot
      refine ⟨b, off, rfl, by simpa [Addr.add] using World.block_lt_of_cell? W _ hc, fun j x hjx k v hv => ?_⟩
      rw [List.getElem?_map, Option.map_eq_some_iff] at hjx
      obtain ⟨i, hi, rfl⟩ := hjx
      have hil := (List.getElem?_eq_some_iff.1 hi).1
      have hij : i = j := by rw [List.getElem?_range (by simpa using hil)] at hi; injection hi with hi; exact hi.symm
      subst hij
      have k0 := (hq i (by simpa using hil)).1 k v hv
      have ea : ∀ x : Nat, (⟨b, off, none⟩ : Addr).add x = ⟨b, off + x, none⟩ := fun x => by unfold Addr.add; split <;> simp_all
      have eb : ∀ y x : Nat, (⟨b, y, none⟩ : Addr).add x = ⟨b, y + x, none⟩ := fun y x => by unfold Addr.add; split <;> simp_all
      rw [ea, eb] at k0
      exact k0
end Go.Proofs.YtjlmgkdieffjcaaDoor

namespace Go.Proofs.YtjlmgkdieffjcaaDoor
open Go.RowKit
set_option linter.unusedVariables false

/-- What n steps leave. -/
def plR (z : List StpR) (n : Nat) : List TdI := (z.take n).foldl (fun st x => (doR st x).1) []
theorem plR_zero (z : List StpR) : plR z 0 = [] := by simp [plR]
theorem plR_succ {z : List StpR} {n : Nat} {x : StpR} (hx : z[n]? = some x) : plR z (n + 1) = (doR (plR z n) x).1 := by
  unfold plR
  rw [List.take_add_one, hx, List.foldl_append]
  rfl
theorem plR_inv {z : List StpR} (hz : ∀ x ∈ z, x.ok) (n : Nat) : InvB (plR z n) := by
  induction n with
  | zero => rw [plR_zero]; exact InvB.nil
  | succ n ih =>
    cases hx : z[n]? with
    | none =>
      have : z.length ≤ n := List.getElem?_eq_none_iff.1 hx
      have e : plR z (n + 1) = plR z n := by unfold plR; rw [List.take_of_length_le this, List.take_of_length_le (by omega)]
      rw [e]; exact ih
    | some x => rw [plR_succ hx]; exact ih.do_ (hz x (List.mem_of_getElem? hx))
/-- A step's cells, where it stands. -/
theorem IsStp.cells {w wr : World} {a : Option Addr} {l j : Nat} {z : List Stp} (h : IsStp w a l z) (hb : Below w.heap.size w wr) (hj : j < l) : ∃ g o wh ps ph pl pb pr me vs vh vl po aw, a = some ⟨g, o, none⟩ ∧ z[j]? = some ⟨wh, ((ps, ph, pl), pb), (pr, me, (vs, vh, vl), po, aw)⟩ ∧ StpR.ok ⟨wh, ((ps, ph, pl), pb), (pr, me, (vs, vh, vl), po, aw)⟩ ∧
    wr.cell? ⟨g, o + j * 12, none⟩ = some (.int .i64 wh) ∧ wr.cell? ⟨g, o + j * 12 + 1, none⟩ = some (.bool ps) ∧ wr.cell? ⟨g, o + j * 12 + 2, none⟩ = some (.int .u64 (ph : Int)) ∧ wr.cell? ⟨g, o + j * 12 + 3, none⟩ = some (.int .u64 (pl : Int)) ∧ wr.cell? ⟨g, o + j * 12 + 4, none⟩ = some (.int .i64 pb) ∧ wr.cell? ⟨g, o + j * 12 + 5, none⟩ = some (.int .i64 pr) ∧ wr.cell? ⟨g, o + j * 12 + 6, none⟩ = some (.int .i64 me) ∧ wr.cell? ⟨g, o + j * 12 + 7, none⟩ = some (.bool vs) ∧ wr.cell? ⟨g, o + j * 12 + 8, none⟩ = some (.int .u64 (vh : Int)) ∧ wr.cell? ⟨g, o + j * 12 + 9, none⟩ = some (.int .u64 (vl : Int)) ∧ wr.cell? ⟨g, o + j * 12 + 10, none⟩ = some (.int .i64 po) ∧ wr.cell? ⟨g, o + j * 12 + 11, none⟩ = some (.bool aw) := by
  obtain ⟨b, o, e, hlt, hc⟩ := h.2.2 (by omega)
  have hlz : j < z.length := by rw [h.1]; exact hj
  have hz : z[j]? = some z[j] := List.getElem?_eq_getElem hlz
  have hok := h.2.1 _ (List.mem_of_getElem? hz)
  generalize z[j] = x at hz hok
  obtain ⟨wh, ⟨⟨ps, ph, pl⟩, pb⟩, pr, me, ⟨vs, vh, vl⟩, po, aw⟩ := x
  have k : ∀ k v, (srC ⟨wh, ((ps, ph, pl), pb), (pr, me, (vs, vh, vl), po, aw)⟩)[k]? = some v → wr.cell? ⟨b, o + j * 12 + k, none⟩ = some v := fun k v hv => (hb.cell (p := ⟨b, o + j * 12 + k, none⟩) hlt).trans (hc j _ hz k v hv)
  exact ⟨b, o, wh, ps, ph, pl, pb, pr, me, vs, vh, vl, po, aw, e, hz, hok, k 0 _ rfl, k 1 _ rfl, k 2 _ rfl, k 3 _ rfl, k 4 _ rfl, k 5 _ rfl, k 6 _ rfl, k 7 _ rfl, k 8 _ rfl, k 9 _ rfl, k 10 _ rfl, k 11 _ rfl⟩
set_option maxRecDepth 100000 in
set_option maxHeartbeats 4000000 in
theorem made_any (w : World) (a : Option Addr) (l c : Nat) (z : List Stp) (hz : IsStp w a l z) (w0 : World) (hb0 : Below w.heap.size w w0) (hE : EnvR w) :
    Calls Tryd.prog 10 #[.slice a l c] w0 fun e w' => ∃ p S, e = .returned (.pointer (some ⟨p, 0, none⟩)) ∧ StdR w0 w' p S (plR z (min l 60)) := by
  have HNew := Lib.hid (newP w0)
  have HZ := Lib.hid hz
  have HB0 := Lib.hid hb0
  have HEn := Lib.hid (hE.below hb0)
  clear hz hb0 hE
  go_enter Tryd.func10, Tryd.ntmps10
  go_wp2_with fail
  refine Calls.mono HNew.out ?_
  rintro e w1 ⟨p, S0, rfl, hP, hb, hs⟩
  have Y0 : Hid (StdR w0 w1 p S0 (plR z 0)) := Lib.hid ⟨by rw [plR_zero]; exact hP, hb, hs⟩
  clear hP hb hs
  go_wp2_with fail
  go_loopw [4] (fun iv wr => ∃ (i : Nat) (S : List Nat), iv = .int .i64 (i : Int) ∧ i ≤ l ∧ i ≤ 60 ∧ Hid (StdR w0 wr p S (plR z i))) (fun iv _ => 60 - (intOf iv).toNat)
  case atStart => exact ⟨0, S0, rfl, Nat.zero_le _, Nat.zero_le _, Y0⟩
  case round =>
    obtain ⟨i, S, rfl, hil, hi6, hY⟩ := hrel
    have j1 : IntKind.i64.wrap ((i : Int) + 1) = (i : Int) + 1 := by rw [IntKind.wrap_i64]; omega
    by_cases hlt : i < l
    · have i1 : (i : Int) < (l : Int) := by omega
      have i0 : (0 : Int) ≤ (i : Int) := by omega
      by_cases h60 : i < 60
      · have i6 : (i : Int) < 60 := by omega
        obtain ⟨g, o, wh, ps, ph, pl, pb, pr, me, vs, vh, vl, po, aw, rfl, hzi, hok, c0, c1, c2, c3, c4, c5, c6, c7, c8, c9, ca, cb⟩ := HZ.out.cells (HB0.out.trans (hY.out.bel.mono HB0.out.size)) hlt
        have HD : Hid (Calls Tryd.prog 27 #[.pointer (some ⟨p, 0, none⟩), .agg #[.int .i64 wh, .bool ps, .int .u64 (ph : Int), .int .u64 (pl : Int), .int .i64 pb, .int .i64 pr, .int .i64 me, .bool vs, .int .u64 (vh : Int), .int .u64 (vl : Int), .int .i64 po, .bool aw]] wr _) := Lib.hid (do_any p S (plR z i) ⟨wh, ((ps, ph, pl), pb), (pr, me, (vs, vh, vl), po, aw)⟩ hok wr (HEn.out.n hY.out.bel hY.out.abv) hY.out.P)
        have HS := Lib.hid (plR_succ hzi)
        clear hzi hok
        go_wp2_with fail
        refine Calls.mono HD.out ?_
        rintro e w2 ⟨rfl, S', hP, hg⟩
        rw [← HS.out] at hP
        have Y2 := Lib.hid (hY.out.go hP hg)
        clear hP hg c0 c1 c2 c3 c4 c5 c6 c7 c8 c9 ca cb
        go_wp2
        go_roundw
        case rel => exact ⟨i + 1, S', by go_num, hlt, h60, Y2⟩
        case measure => simp [intOf]; omega
      · have i6 : ¬ (i : Int) < 60 := by omega
        have he : min l 60 = i := by omega
        have HE := Lib.hid he
        clear he h60 hil hi6
        go_wp2
        go_ret
        rw [HE.out]
        exact ⟨p, rfl, S, hY.out⟩
    · have i1 : ¬ (i : Int) < (l : Int) := by omega
      have i1b : decide ((i : Int) < (l : Int)) = false := decide_eq_false i1
      have he : min l 60 = i := by omega
      have HE := Lib.hid he
      clear he hlt hil hi6
      go_wp2
      go_ret
      rw [HE.out]
      exact ⟨p, rfl, S, hY.out⟩
end Go.Proofs.YtjlmgkdieffjcaaDoor
