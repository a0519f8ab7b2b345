/-
  What the document's own reader answers: Left, Num, Bytes, New.
-/
import Derived.Test.YtigkikoogolkkaaRefPut
import Derived.StillTailTactics
namespace Go.Proofs.Ytigkikoogolkkaa
open Go.RowKit
set_option linter.unusedVariables false

/-- The document's reader in block s: its bytes zs, its place, whether it is bad. It and its bytes lie in the blocks from L on, below B. -/
def RR (w : World) (L B s : Nat) (zs : List Int) (at_ : Nat) (bad : Bool) : Prop :=
  ∃ A n c, Blk w s 43 #[.slice A n c, .int .i64 (at_ : Int), .bool bad] ∧ RI .u8 w B A n zs ∧ (A = none → c = 0) ∧ (∀ x, A = some x → L ≤ x.block) ∧ n ≤ c ∧ c ≤ 9223372036854775807 ∧ at_ ≤ n ∧ n ≤ 140737488351232 ∧ L ≤ s ∧ s < B

theorem RR.keep {w w' : World} {L B s at_ : Nat} {zs : List Int} {bad : Bool} (h : RR w L B s zs at_ bad) (hk : ∀ b, L ≤ b → b < B → w'.heap[b]? = w.heap[b]?) : RR w' L B s zs at_ bad := by
  obtain ⟨A, n, c, hb, hr, hA, hL, h1, h2, h3, h4, h5, h6⟩ := h
  exact ⟨A, n, c, (hk s h5 h6).trans hb, hr.keep' hL hk, hA, hL, h1, h2, h3, h4, h5, h6⟩
theorem RR.bounds {w : World} {L B s at_ : Nat} {zs : List Int} {bad : Bool} (h : RR w L B s zs at_ bad) : L ≤ s ∧ s < B ∧ at_ ≤ zs.length := by
  obtain ⟨A, n, c, hb, hr, hA, hL, h1, h2, h3, h4, h5, h6⟩ := h
  exact ⟨h5, h6, by rw [hr.1]; exact h3⟩

/-- The bytes of the document's reader do not lie in its own block. -/
theorem other_block3 {w : World} {B s n : Nat} {A : Option Addr} {zs : List Int} {v : Value} {sh : Bool} {o : Nat} (hb : Blk w s 43 #[v, .int .i64 o, .bool sh]) (hr : RI .u8 w B A n zs) (hv : ∀ k z, v ≠ .int k z) (hn : 0 < n) {b' o' : Nat} (e : A = some ⟨b', o', none⟩) : b' ≠ s := by
  rintro rfl
  obtain ⟨b2, o2, z, e', _, _, _, hc⟩ := hr.at_ hn
  rw [e] at e'
  injection e' with e'
  injection e' with e1 e2
  subst e1
  rw [hb.cell] at hc
  rcases (show o2 + 0 = 0 ∨ o2 + 0 = 1 ∨ o2 + 0 = 2 ∨ 3 ≤ o2 + 0 by omega) with h | h | h | h
  · rw [h] at hc; simp at hc; exact hv _ _ hc
  · rw [h] at hc; simp at hc
  · rw [h] at hc; simp at hc
  · rw [Array.getElem?_eq_none (by simpa using h)] at hc; cases hc
theorem RI.own_store3 {w : World} {B s n i o : Nat} {A : Option Addr} {zs : List Int} {v u : Value} {sh : Bool} (hb : Blk w s 43 #[v, .int .i64 o, .bool sh]) (hv : ∀ k z, v ≠ .int k z) (hr : RI .u8 w B A n zs) : RI .u8 (w.setCell ⟨s, i, none⟩ u) B A n zs :=
  ⟨hr.1, fun hn => by
    obtain ⟨b, o, e, hbB, hc⟩ := hr.2.1 hn
    have hne := other_block3 hb hr hv hn e
    exact ⟨b, o, e, hbB, fun j z hz => (World.cell?_setCell_other w _ _ u (by intro h; injection h with h1; exact hne h1.symm)).trans (hc j z hz)⟩, hr.2.2⟩

theorem RR.set_at {w : World} {L B s at_ k : Nat} {zs : List Int} {bad : Bool} (h : RR w L B s zs at_ bad) (hk : k ≤ zs.length) : RR (w.setCell ⟨s, 1, none⟩ (.int .i64 (k : Int))) L B s zs k bad := by
  obtain ⟨A, n, c, hb, hr, hA, hL, h1, h2, h3, h4, h5, h6⟩ := h
  exact ⟨A, n, c, by simpa using hb.set_ 1 (.int .i64 (k : Int)), hr.own_store3 hb (fun _ _ h => by cases h), hA, hL, h1, h2, by rw [← hr.1]; exact hk, h4, h5, h6⟩
theorem RR.set_bad {w : World} {L B s at_ : Nat} {zs : List Int} {bad : Bool} (h : RR w L B s zs at_ bad) : RR (w.setCell ⟨s, 2, none⟩ (.bool true)) L B s zs at_ true := by
  obtain ⟨A, n, c, hb, hr, hA, hL, h1, h2, h3, h4, h5, h6⟩ := h
  exact ⟨A, n, c, by simpa using hb.set_ 2 (.bool true), hr.own_store3 hb (fun _ _ h => by cases h), hA, hL, h1, h2, h3, h4, h5, h6⟩
theorem RR.drewN {w : World} {L B s at_ m : Nat} {zs : List Int} {bad : Bool} (h : RR w L B s zs at_ bad) : RR (w.drewN m) L B s zs at_ bad := h

set_option maxHeartbeats 400000 in
theorem rleft_any {w : World} {L B s at_ : Nat} {zs : List Int} {bad : Bool} (h : RR w L B s zs at_ bad) :
    Calls Try.prog 24 #[.pointer (some ⟨s, 0, none⟩)] w fun e w' => e = .returned (.int .i64 (if bad then 0 else (zs.length : Int) - at_)) ∧ ∃ m, w' = w.drewN m := by
  obtain ⟨A, n, c, hb, hr, hA, hL, h1, h2, h3, h4, h5, h6⟩ := h
  have c0 : w.cell? ⟨s, 0, none⟩ = some (.slice A n c) := (hb.cell 0).trans (by simp)
  have c1 : w.cell? ⟨s, 1, none⟩ = some (.int .i64 (at_ : Int)) := (hb.cell 1).trans (by simp)
  have c2 : w.cell? ⟨s, 2, none⟩ = some (.bool bad) := (hb.cell 2).trans (by simp)
  rw [hr.1]
  clear hb hr hL hA
  cases bad
  · go_enter Try.func24, Try.ntmps24
    go_wp2
    go_quiet (fail)
    go_wp2
    go_ret
    exact ⟨rfl, _, rfl⟩
  · go_enter Try.func24, Try.ntmps24
    go_wp2
    go_ret
    exact ⟨rfl, 0, rfl⟩

theorem grown_drewN {a w : World} {row : Option Nat} (h : a.grownBy w row) (n : Nat) : a.grownBy (w.drewN n) row := ⟨h.os, h.tape, h.output, h.size, h.block⟩
theorem grown_self (w : World) (row : Option Nat) (n : Nat) : w.grownBy (w.drewN n) row := ⟨rfl, rfl, rfl, Nat.le_refl _, fun _ _ _ => rfl⟩

/-- What the document's Num leaves. -/
def RNum (w : World) (L B s : Nat) (zs : List Int) (V : Int) (at_ : Nat) (bad : Bool) (e : Ending) (w' : World) : Prop := e = .returned (.int .u64 V) ∧ RR w' L B s zs at_ bad ∧ w.grownBy w' (some s)

set_option maxHeartbeats 1000000 in
theorem rnum_yes {w : World} {L B s at_ k : Nat} {zs : List Int} (h : RR w L B s zs at_ false) (hk8 : k ≤ 8) (hk : at_ + k ≤ zs.length) :
    Calls Try.prog 22 #[.pointer (some ⟨s, 0, none⟩), .int .i64 (k : Int)] w (RNum w L B s zs (numOf ((zs.drop at_).take k)) (at_ + k) false) := by
  have H0 := Lib.hid h
  obtain ⟨A, n, c, hb, hr, hA, hL, h1, h2, h3, h4, h5, h6⟩ := h
  have c0 : w.cell? ⟨s, 0, none⟩ = some (.slice A n c) := (hb.cell 0).trans (by simp)
  have c1 : w.cell? ⟨s, 1, none⟩ = some (.int .i64 (at_ : Int)) := (hb.cell 1).trans (by simp)
  have c2 : w.cell? ⟨s, 2, none⟩ = some (.bool false) := (hb.cell 2).trans (by simp)
  have f1 := hb.frozen 1
  have hn := hr.1
  have hk' : at_ + k ≤ n := by omega
  have HK := Lib.hid hk
  have HG := Lib.hid (fun m => (rget_yes (w.drewN m) B A n c at_ k zs hr hk8 hk' (by omega)).mono fun e w' h => (⟨h.1, h.2.symm⟩ : e = _ ∧ w' = w.drewN m))
  clear hb hr hL hA hn hk
  go_enter Try.func22, Try.ntmps22
  go_wp2_with fail
  go_quiet ((go_at_call 16; exact Calls.quiet_of_same (HG.out _)))
  go_wp2
  go_ret
  have h9 := H0.out.set_at HK.out
  rw [show (((at_ + k : Nat)) : Int) = (at_ : Int) + (k : Int) by omega] at h9
  exact ⟨rfl, h9, grown_drewN (grown_set (World.grownBy.refl w _) 1 _) nq⟩

set_option maxHeartbeats 1000000 in
theorem rnum_no {w : World} {L B s at_ : Nat} {k : Int} {zs : List Int} {bad : Bool} (h : RR w L B s zs at_ bad) (hk : NoNum zs.length at_ k) :
    Calls Try.prog 22 #[.pointer (some ⟨s, 0, none⟩), .int .i64 k] w (RNum w L B s zs 0 at_ true) := by
  have H0 := Lib.hid h
  obtain ⟨A, n, c, hb, hr, hA, hL, h1, h2, h3, h4, h5, h6⟩ := h
  have c0 : w.cell? ⟨s, 0, none⟩ = some (.slice A n c) := (hb.cell 0).trans (by simp)
  have c1 : w.cell? ⟨s, 1, none⟩ = some (.int .i64 (at_ : Int)) := (hb.cell 1).trans (by simp)
  have c2 : w.cell? ⟨s, 2, none⟩ = some (.bool bad) := (hb.cell 2).trans (by simp)
  have f2 := hb.frozen 2
  rw [hr.1] at hk
  have HG := Lib.hid (fun m => (rget_no (w.drewN m) A n c at_ k hk (by omega) (by omega)).mono fun e w' h => (⟨h.1, h.2.symm⟩ : e = _ ∧ w' = w.drewN m))
  clear hb hr hL hA hk
  go_enter Try.func22, Try.ntmps22
  go_wp2_with fail
  go_quiet ((go_at_call 16; exact Calls.quiet_of_same (HG.out _)))
  go_wp2
  all_goals
    go_ret
    exact ⟨rfl, H0.out.set_bad, grown_drewN (grown_set (World.grownBy.refl w _) 2 _) nq⟩

set_option maxHeartbeats 1000000 in
theorem rnum_bad {w : World} {L B s at_ : Nat} {k : Nat} {zs : List Int} (h : RR w L B s zs at_ true) (hk8 : k ≤ 8) (hk : at_ + k ≤ zs.length) :
    Calls Try.prog 22 #[.pointer (some ⟨s, 0, none⟩), .int .i64 (k : Int)] w (RNum w L B s zs 0 at_ true) := by
  have H0 := Lib.hid h
  obtain ⟨A, n, c, hb, hr, hA, hL, h1, h2, h3, h4, h5, h6⟩ := h
  have c0 : w.cell? ⟨s, 0, none⟩ = some (.slice A n c) := (hb.cell 0).trans (by simp)
  have c1 : w.cell? ⟨s, 1, none⟩ = some (.int .i64 (at_ : Int)) := (hb.cell 1).trans (by simp)
  have c2 : w.cell? ⟨s, 2, none⟩ = some (.bool true) := (hb.cell 2).trans (by simp)
  have f2 := hb.frozen 2
  rw [hr.1] at hk
  have HG := Lib.hid (fun m => (rget_yes (w.drewN m) B A n c at_ k zs hr hk8 hk (by omega)).mono fun e w' h => (⟨h.1, h.2.symm⟩ : e = _ ∧ w' = w.drewN m))
  clear hb hr hL hA hk
  go_enter Try.func22, Try.ntmps22
  go_wp2_with fail
  go_quiet ((go_at_call 16; exact Calls.quiet_of_same (HG.out _)))
  go_wp2
  go_ret
  exact ⟨rfl, H0.out.set_bad, grown_drewN (grown_set (World.grownBy.refl w _) 2 _) nq⟩

/-- What the document's Bytes leaves. -/
def RBytes (w : World) (L B s : Nat) (zs out : List Int) (at_ : Nat) (bad : Bool) (e : Ending) (w' : World) : Prop :=
  ∃ A c, e = .returned (.slice A out.length c) ∧ RI .u8 w' w'.heap.size A out.length out ∧ RR w' L B s zs at_ bad ∧ w.grownBy w' (some s)

set_option maxHeartbeats 1000000 in
theorem rbytes_no {w : World} {L B s at_ : Nat} {k : Int} {zs : List Int} {bad : Bool} (h : RR w L B s zs at_ bad) (hk : bad = true ∨ k < 0 ∨ (zs.length : Int) - at_ < k) :
    Calls Try.prog 20 #[.pointer (some ⟨s, 0, none⟩), .int .i64 k] w (RBytes w L B s zs [] at_ true) := by
  have H0 := Lib.hid h
  obtain ⟨A, n, c, hb, hr, hA, hL, h1, h2, h3, h4, h5, h6⟩ := h
  have c0 : w.cell? ⟨s, 0, none⟩ = some (.slice A n c) := (hb.cell 0).trans (by simp)
  have c1 : w.cell? ⟨s, 1, none⟩ = some (.int .i64 (at_ : Int)) := (hb.cell 1).trans (by simp)
  have c2 : w.cell? ⟨s, 2, none⟩ = some (.bool bad) := (hb.cell 2).trans (by simp)
  have f2 := hb.frozen 2
  have HB2 := Lib.hid (hb.cell 2)
  rw [hr.1] at hk
  clear hb hr hL hA
  cases bad
  · by_cases h0 : k < 0
    · have hd : decide (k < 0) = true := by simpa using h0
      clear hk h0
      go_enter Try.func20, Try.ntmps20
      go_wp2_with fail
      go_quiet (fail)
      go_wp2
      go_ret
      exact ⟨none, 0, rfl, RI.nil_, H0.out.set_bad, grown_drewN (grown_set (World.grownBy.refl w _) 2 _) nq⟩
    · have hk' : (n : Int) - at_ < k := by simp at hk; omega
      have hd : decide (k < 0) = false := by simpa using h0
      have hd2 : decide ((n : Int) - at_ < k) = true := by simpa using hk'
      clear hk h0
      go_enter Try.func20, Try.ntmps20
      go_wp2_with fail
      go_quiet (fail)
      go_wp2
      go_ret
      exact ⟨none, 0, rfl, RI.nil_, H0.out.set_bad, grown_drewN (grown_set (World.grownBy.refl w _) 2 _) nq⟩
  · clear hk
    go_enter Try.func20, Try.ntmps20
    go_wp2_with fail
    go_quiet (fail)
    go_wp2
    go_ret
    exact ⟨none, 0, rfl, RI.nil_, H0.out.set_bad, grown_drewN (grown_set (World.grownBy.refl w _) 2 _) nq⟩

theorem slice_mid (w : World) (A : Option Addr) (n c i k : Nat) (hk : i + k ≤ n) (hn : n ≤ c) :
    (Instr.slice 22 (.slice A n c) (some (.int .i64 (i : Int))) (some (.int .i64 ((i : Int) + (k : Int)))) none).run Try.prog w = .ok (.slice (if c = i then A else A.map (·.add i)) k (c - i)) w := by
  have h := run_slice_lh (P := Try.prog) (w := w) 22 A n c Try.underlying22 .i64 .i64 (i : Int) ((i : Int) + (k : Int)) (by omega) (by omega) (by omega)
  rw [h]
  have e : ((i : Int) + (k : Int)).toNat - i = k := by omega
  simp [sliced, go_sem, e]
theorem RI.take_ {k : IntKind} {w : World} {B n j : Nat} {A : Option Addr} {zs : List Int} (h : RI k w B A n zs) (hj : j ≤ n) : RI k w B A j (zs.take j) := by
  refine ⟨by rw [List.length_take, h.1]; omega, fun hn => ?_, fun z hz => h.2.2 z (List.mem_of_mem_take hz)⟩
  obtain ⟨b, o, rfl, hb, hcell⟩ := h.2.1 (by omega)
  refine ⟨b, o, rfl, hb, fun i z hz => hcell i z ?_⟩
  rw [List.getElem?_take] at hz
  split at hz
  · exact hz
  · cases hz

theorem rbytes_of {w w2 w3 : World} {L B s at_ k : Nat} {zs : List Int} {v : Value} (hrr : RR w L B s zs at_ false) (hB : B ≤ w.heap.size) (hk : at_ + k ≤ zs.length)
    (hown : w2.ownsRow w.heap.size 5 1 v k (((zs.drop at_).take k).map (Value.int .u8))) (hb : Below w.heap.size w w2) (h3 : w3 = w2.setCell ⟨s, 1, none⟩ (.int .i64 ((at_ : Int) + (k : Int)))) :
    RBytes w L B s zs ((zs.drop at_).take k) (at_ + k) false (.returned v) w3 := by
  obtain ⟨hs1, hs2, _⟩ := hrr.bounds
  have hrr2 : RR w2 L B s zs at_ false := hrr.keep (fun b _ hbB => hb.block b (by omega))
  have h9 := hrr2.set_at hk
  rw [show (((at_ + k : Nat)) : Int) = (at_ : Int) + (k : Int) by omega] at h9
  have hw : ∀ z ∈ (zs.drop at_).take k, (Lit.int .u8 z).wf = true := by
    obtain ⟨A, n, c, _, hr, _⟩ := hrr
    exact fun z hz => hr.2.2 z (List.mem_of_mem_drop (List.mem_of_mem_take hz))
  have hl : ((zs.drop at_).take k).length = k := by simp; omega
  obtain ⟨A5, c5, e5, hr5, hA5, hB5⟩ := refPut_of (w := w) (w' := w2) hw hown hb
  injection e5 with e5
  refine ⟨A5, c5, by rw [e5, hl], ?_, by rw [h3]; exact h9, by rw [h3]; exact grown_set (below_grown hb _) 1 _⟩
  rw [h3, hl]
  have hsz : (w2.setCell ⟨s, 1, none⟩ (.int .i64 ((at_ : Int) + (k : Int)))).heap.size = w2.heap.size := by simp [World.setCell]
  rw [hsz]
  exact hr5.keep' hA5 (fun b h1 h2 => Below.heap_setCell w2 _ _ b (by show b ≠ s; omega))

set_option maxHeartbeats 1000000 in
theorem rbytes_yes {w : World} {L B s at_ k : Nat} {zs : List Int} (h : RR w L B s zs at_ false) (hB : B ≤ w.heap.size) (hk : at_ + k ≤ zs.length) :
    Calls Try.prog 20 #[.pointer (some ⟨s, 0, none⟩), .int .i64 (k : Int)] w (RBytes w L B s zs ((zs.drop at_).take k) (at_ + k) false) := by
  have H0 := Lib.hid h
  have HK := Lib.hid hk
  obtain ⟨A, n, c, hb, hr, hA, hL, h1, h2, h3, h4, h5, h6⟩ := h
  have c0 : w.cell? ⟨s, 0, none⟩ = some (.slice A n c) := (hb.cell 0).trans (by simp)
  have c1 : w.cell? ⟨s, 1, none⟩ = some (.int .i64 (at_ : Int)) := (hb.cell 1).trans (by simp)
  have c2 : w.cell? ⟨s, 2, none⟩ = some (.bool false) := (hb.cell 2).trans (by simp)
  have f1 := hb.frozen 1
  have hn := hr.1
  have hk' : at_ + k ≤ n := by omega
  obtain ⟨A', hA'⟩ : ∃ A', A' = (if c = at_ then A else A.map (·.add at_)) := ⟨_, rfl⟩
  have hsl := fun w => slice_mid w A n c at_ k hk' h1
  simp only [← hA'] at hsl
  have HR : Hid (RI .u8 w B A' k ((zs.drop at_).take k)) := by rw [hA']; exact (hr.cut h3 h1).take_ (by omega)
  have HA : Hid (A' = none → c - at_ = 0) := fun e => by
    rw [hA'] at e
    split at e
    · omega
    · have := hA (by cases A with | none => rfl | some a => cases e); omega
  have F : Hid (∀ w2, Below w.heap.size w w2 → w2.cell? ⟨s, 1, none⟩ = some (.int .i64 (at_ : Int)) ∧ w2.frozen? ⟨s, 1, none⟩ = false) := fun w2 hb2 => by
    have h7 := hb.below hb2 (by omega)
    exact ⟨(h7.cell 1).trans (by simp), h7.frozen 1⟩
  have hd : decide ((k : Int) < 0) = false := by simp
  have hd2 : decide ((n : Int) - at_ < (k : Int)) = false := by simp; omega
  clear hb hr hL hA hn hk hA'
  go_enter Try.func20, Try.ntmps20
  go_wp2_with fail
  go_quiet (fail)
  go_wp2_with fail
  have d0 : (w.drewN nq).cell? ⟨s, 0, none⟩ = some (.slice A n c) := c0
  have d1 : (w.drewN nq).cell? ⟨s, 1, none⟩ = some (.int .i64 (at_ : Int)) := c1
  have HR1 : Hid (RI .u8 (w.drewN nq).drew B A' k ((zs.drop at_).take k)) := HR.out
  have HB1 : Below w.heap.size w (w.drewN nq).drew := ⟨rfl, rfl, rfl, Nat.le_refl _, fun _ _ => rfl⟩
  clear c0 c1 c2 f1 HR
  generalize w.drewN nq = w1 at d0 d1 HR1 HB1 ⊢
  have hwr : IntKind.i64.wrap ((at_ : Int) + (k : Int)) = (at_ : Int) + (k : Int) := by rw [IntKind.wrap_i64]; omega
  go_still_tail 16, (by kernel_rfl)
  clear hwr
  go_wp2_with (first
    | (at_builtin; refine wpList_app _ rfl (.tmp 31) (.tmp 46) rfl w.heap.size (.slice none 0 0) 0 [] rfl ⟨by simp, .inl ⟨rfl, rfl⟩⟩ B A' k (c - at_) _ rfl HA.out HR1.out (by omega) HB1.size ?_; intro v2 w2 hown2 hg2 hat2; have HB2 : Below w.heap.size w w2 := HB1.grown hg2 HB1.size (fun k hk => by simp [Value.ownBlock] at hk); obtain ⟨c3, f3⟩ := F.out w2 HB2; have HO2 := Lib.hid hown2; clear hown2 hg2 hat2))
  go_ret
  exact rbytes_of H0.out hB HK.out (by have := HO2.out; simpa using this) HB2 rfl

/-- 'append' once more: the value as a slice. -/
theorem wpList_app2 (w : World) {ops : Array Oper} {rest : List Oper} {o : Oper} {a : Act} {Q : Exit → Act → World → Prop} (hgd : o.guard = none) (s x : Operand)
    (ho : o.op = .call { callee := .builtin .append, args := #[s, x], argTypes := #[22, 22] })
    (base : Nat) (v : Value) (n : Nat) (ys : List Int) (hs : a.eval s = v) (hown : w.ownsRow base 5 1 v n (ys.map (Value.int .u8)))
    (B : Nat) (A : Option Addr) (m c : Nat) (zs : List Int) (hx : a.eval x = .slice A m c) (hA : A = none → c = 0) (hr : RI .u8 w B A m zs)
    (hsz : n + m ≤ 140737488355328) (hbase : base ≤ w.heap.size)
    (h : ∀ Ax cx w', w'.ownsRow base 5 1 (.slice Ax (n + m) cx) (n + m) ((ys ++ zs).map (Value.int .u8)) → w.grownBy w' v.ownBlock → wpList Try.prog ops Q rest (a.put o.dst (.slice Ax (n + m) cx)) w') :
    wpList Try.prog ops Q (o :: rest) a w := by
  refine wpList_app w hgd s x ho base v n ys hs hown B A m c zs hx hA hr hsz hbase fun v' w' h1 h2 h3 => ?_
  have hv : ∃ Ax cx, v' = .slice Ax (n + m) cx := by
    rcases h1.2 with ⟨e, e0⟩ | ⟨g, cap, cur, e, _⟩
    · exact ⟨none, 0, by rw [e, e0]⟩
    · exact ⟨_, _, e⟩
  obtain ⟨Ax, cx, rfl⟩ := hv
  exact h Ax cx w' h1 h2

/-- What the document's New hands back. -/
def RNew (w : World) (zs : List Int) (e : Ending) (w' : World) : Prop := ∃ s, e = .returned (.pointer (some ⟨s, 0, none⟩)) ∧ RR w' w.heap.size w'.heap.size s zs 0 false ∧ Below w.heap.size w w'

theorem rnew_of {w w2 : World} {n : Nat} {zs : List Int} {v : Value} (hl : zs.length = n) (hw : ∀ z ∈ zs, (Lit.int .u8 z).wf = true) (hn : n ≤ 140737488351232)
    (hown : w2.ownsRow (w.heap.size + 1) 5 1 v n (zs.map (Value.int .u8))) (hb : Below (w.heap.size + 1) (w.alloc (.cells #[.slice none 0 0, .int .i64 0, .bool false] 43)) w2) :
    RNew w zs (.returned (.pointer (some ⟨w.heap.size, 0, none⟩))) (w2.setCell ⟨w.heap.size, 0, none⟩ v) := by
  have hblk : Blk w2 w.heap.size 43 #[.slice none 0 0, .int .i64 0, .bool false] := (Blk.new w _ _).below hb (Nat.lt_succ_self _)
  have hset := hblk.set_ 0 v
  have hsz : (w2.setCell ⟨w.heap.size, 0, none⟩ v).heap.size = w2.heap.size := by simp [World.setCell]
  have hlt := hblk.lt
  have hB : Below w.heap.size w (w2.setCell ⟨w.heap.size, 0, none⟩ v) := (((Below.refl _ _).alloc (Nat.le_refl _) _).trans (hb.mono (Nat.le_succ _))).setCell (Nat.le_refl _) _
  rcases hown.2 with ⟨rfl, rfl⟩ | ⟨g, cap, cur, rfl, h1, h2, h3, h4, h5, h6⟩
  · obtain rfl : zs = [] := List.eq_nil_of_length_eq_zero hl
    exact ⟨_, rfl, ⟨none, 0, 0, by simpa using hset, RI.nil_, (fun _ => rfl), (fun _ h => by cases h), Nat.le_refl _, by omega, Nat.le_refl _, by omega, Nat.le_refl _, by rw [hsz]; exact hlt⟩, hB⟩
  · have hb5 : Blk (w2.setCell ⟨w.heap.size, 0, none⟩ (.slice (some ⟨g, 0, none⟩) n cap)) g 5 cur := (show Blk w2 g 5 cur from h2).far (p := ⟨w.heap.size, 0, none⟩) (by show g ≠ w.heap.size; omega) _
    refine ⟨_, rfl, ⟨some ⟨g, 0, none⟩, n, cap, by simpa using hset, ⟨hl, fun _ => ⟨g, 0, rfl, hb5.lt, fun j z hz => ?_⟩, hw⟩, (fun h => by cases h), (fun x hx => by injection hx with hx; rw [← hx]; show w.heap.size ≤ g; omega), h3, h4, Nat.zero_le _, hn, Nat.le_refl _, by rw [hsz]; exact hlt⟩, hB⟩
    rw [Nat.zero_add, hb5.cell]
    have hj : j < n := by rw [← hl]; exact (List.getElem?_eq_some_iff.1 hz).1
    have e : (cur.toList.take (n * 1))[j]? = some (.int .u8 z) := by rw [h6, List.getElem?_map, hz]; rfl
    rw [List.getElem?_take, if_pos (by omega)] at e
    simpa using e

set_option maxHeartbeats 1000000 in
theorem rnew_any (w : World) (B : Nat) (A : Option Addr) (n c : Nat) (zs : List Int) (hz : RI .u8 w B A n zs) (hA : A = none → c = 0) (hB : B ≤ w.heap.size) (hn : n ≤ 140737488351232) :
    Calls Try.prog 18 #[.slice A n c] w (RNew w zs) := by
  have HZ : Hid (RI .u8 (w.alloc (.cells #[.slice none 0 0, .int .i64 0, .bool false] 43)) B A n zs) := hz.alloc hB _
  have HZ0 := Lib.hid hz
  have HA := Lib.hid hA
  have F : Hid (∀ w2, Below (w.heap.size + 1) (w.alloc (.cells #[.slice none 0 0, .int .i64 0, .bool false] 43)) w2 → w2.cell? ⟨w.heap.size, 0, none⟩ = some (.slice none 0 0) ∧ w2.frozen? ⟨w.heap.size, 0, none⟩ = false) := fun w2 hb2 => by
    have h7 := (Blk.new w 43 #[.slice none 0 0, .int .i64 0, .bool false]).below hb2 (Nat.lt_succ_self _)
    exact ⟨(h7.cell 0).trans (by simp), h7.frozen 0⟩
  clear hz hA
  go_enter Try.func18, Try.ntmps18
  go_wp2_with (first
    | (at_builtin; refine wpList_app2 _ rfl (.tmp 10) (.tmp 11) rfl (w.heap.size + 1) (.slice none 0 0) 0 [] rfl ⟨by simp, .inl ⟨rfl, rfl⟩⟩ B A n c zs rfl HA.out HZ.out (by omega) (by simp) ?_; intro Ax cx w2 hown2 hg2; have HB2 : Below (w.heap.size + 1) (w.alloc (.cells #[.slice none 0 0, .int .i64 0, .bool false] 43)) w2 := (Below.refl _ _).grown hg2 (by simp) (fun k hk => by simp [Value.ownBlock] at hk); obtain ⟨c3, f3⟩ := F.out w2 HB2; have HO2 := Lib.hid hown2; clear hown2 hg2))
  go_ret
  exact rnew_of HZ0.out.1 HZ0.out.2.2 hn (by have := HO2.out; simpa using this) HB2

end Go.Proofs.Ytigkikoogolkkaa
