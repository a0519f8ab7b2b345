/-
  strings.Builder's WriteString, WriteByte and Len, over a builder whose row lies in memory of its own.
-/
import Derived.Test.YtbhddodghbhjiaaENum
import Derived.Test.YtbhddodghbhjiaaFApps
import Derived.Test.YtbhddodghbhjiaaApp
import Derived.Test.YtbhddodghbhjiaaAppk
import Derived.Lib.Builder
import Derived.Laws.Externs
namespace Go.Proofs.Ytbhddodghbhjiaa
open Go.RowKit
set_option linter.unusedVariables false

theorem infoB : (Try.prog.info? 85).map (·.size) = some 2 := by kernel_rfl
set_option maxHeartbeats 1000000 in
set_option maxRecDepth 100000 in
theorem copy_used (b : Nat) (w : World) (h0 : w.cell? ⟨b, 0, none⟩ = some (.pointer (some ⟨b, 0, none⟩))) :
    Calls Try.prog 84 #[.pointer (some ⟨b, 0, none⟩)] w fun e w' => e = .returned (.tuple #[]) ∧ w' = w := by
  obtain ⟨j, hj, _⟩ := Option.map_eq_some_iff.1 infoB
  go_enter Try.func84, Try.ntmps84
  go_wp2
  rw [Lib.run_neq_ptr_same w _ Try.underlying83 hj]
  go_wp2
  go_end0
  exact ⟨rfl, rfl⟩
set_option maxHeartbeats 1000000 in
set_option maxRecDepth 100000 in
theorem copy_fresh (b : Nat) (w : World) (h0 : w.cell? ⟨b, 0, none⟩ = some (.pointer none)) (hsh : w.shape? b = some (85, 2)) (hfz : w.frozen? ⟨b, 0, none⟩ = false) :
    Calls Try.prog 84 #[.pointer (some ⟨b, 0, none⟩)] w fun e w' => e = .returned (.tuple #[]) ∧ w' = w.setCell ⟨b, 0, none⟩ (.pointer (some ⟨b, 0, none⟩)) := by
  obtain ⟨j, hj, hjs⟩ := Option.map_eq_some_iff.1 infoB
  go_enter Try.func84, Try.ntmps84
  go_wp2
  rw [Lib.run_to_unsafe w ⟨b, 0, none⟩ Try.underlying83 Try.underlying118 hj (by rw [hjs]; decide) hsh (Nat.zero_lt_succ 1)]
  simp only [Result.andThen]
  rw [Oper.upon_value]
  go_wp2
  rw [run_callFunc_extern Try.func93 (by kernel_rfl) (by kernel_rfl) (by kernel_rfl) (e := Extern.AbiNoEscape.same) (by kernel_rfl)]
  rw [Lib.run_noEscape]
  simp only [Result.andThen]
  rw [Oper.upon_value]
  go_wp2
  rw [Lib.run_from_unsafe w ⟨b, 0, none⟩ Try.underlying118 Try.underlying83 hj hsh (by kernel_rfl)]
  simp only [Result.andThen]
  rw [Oper.upon_value]
  go_wp2
  go_end0
  exact ⟨rfl, rfl⟩

/-- The builder in block b, its first word p, holds xs; its row lies from block R on. -/
def Wr (w : World) (b R : Nat) (p : Option Addr) (xs : List Int) : Prop :=
  b < R ∧ ∃ v, Blk w b 85 #[.pointer p, v] ∧ w.ownsRow R 5 1 v xs.length (xs.map (Value.int .u8))
/-- What a write leaves: all below R but the builder's own block. -/
def Kp (w w' : World) (b R : Nat) : Prop := w'.os = w.os ∧ w'.tape = w.tape ∧ w'.output = w.output ∧ w.heap.size ≤ w'.heap.size ∧ ∀ k, k < R → k ≠ b → w'.heap[k]? = w.heap[k]?
theorem Kp.trans {a c d : World} {b R : Nat} (h : Kp a c b R) (k : Kp c d b R) : Kp a d b R :=
  ⟨k.1.trans h.1, k.2.1.trans h.2.1, k.2.2.1.trans h.2.2.1, Nat.le_trans h.2.2.2.1 k.2.2.2.1, fun i hi hb => (k.2.2.2.2 i hi hb).trans (h.2.2.2.2 i hi hb)⟩
theorem Kp.refl (w : World) (b R : Nat) : Kp w w b R := ⟨rfl, rfl, rfl, Nat.le_refl _, fun _ _ _ => rfl⟩
theorem Kp.below {w w' : World} {b R : Nat} (h : Kp w w' b R) (hb : b < R) : Below b w w' := ⟨h.1, h.2.1, h.2.2.1, h.2.2.2.1, fun k hk => h.2.2.2.2 k (by omega) (by omega)⟩
theorem own_form {w : World} {R n : Nat} {t : TypeId} {v : Value} {xs : List Value} (h : w.ownsRow R t 1 v n xs) : ∃ a c, v = .slice a n c := by
  rcases h.2 with ⟨hv, h0⟩ | ⟨g, cap, cur, hv, _⟩
  · exact ⟨none, 0, by rw [hv, h0]⟩
  · exact ⟨_, _, hv⟩
theorem own_far {w : World} {R n b : Nat} {t : TypeId} {v : Value} {xs : List Value} (h : w.ownsRow R t 1 v n xs) (hb : b < R) : v.ownBlock ≠ some b := by
  intro e
  have := own_basek h b e
  omega
theorem own_set {w : World} {R n b i : Nat} {t : TypeId} {v u : Value} {xs : List Value} (h : w.ownsRow R t 1 v n xs) (hb : b < R) : (w.setCell ⟨b, i, none⟩ u).ownsRow R t 1 v n xs :=
  h.kept (row := some b) ⟨rfl, rfl, rfl, by simp [World.setCell], fun k _ hk => Below.heap_setCell _ _ _ _ (fun e => hk (by simp [e]))⟩ (Or.inr (own_far h hb))

set_option maxHeartbeats 1000000 in
theorem cchk_any {w : World} {b R : Nat} {p : Option Addr} {xs : List Int} (h : Wr w b R p xs) (hp : p = none ∨ p = some ⟨b, 0, none⟩) :
    Calls Try.prog 84 #[.pointer (some ⟨b, 0, none⟩)] w fun e w' => e = .returned (.tuple #[]) ∧ Wr w' b R (some ⟨b, 0, none⟩) xs ∧ Kp w w' b R := by
  obtain ⟨hbR, v, hb, hown⟩ := h
  have c0 := (hb.cell 0).trans (show _ = some (Value.pointer p) by rfl)
  rcases hp with rfl | rfl
  · refine (copy_fresh b w c0 (by simp [World.shape?, show w.heap[b]? = _ from hb]) (hb.frozen 0)).mono ?_
    rintro e w' ⟨rfl, rfl⟩
    refine ⟨rfl, ⟨hbR, v, by simpa using hb.set_ 0 (.pointer (some ⟨b, 0, none⟩)), own_set hown hbR⟩, rfl, rfl, rfl, by simp [World.setCell], fun k _ hk => Below.heap_setCell _ _ _ _ hk⟩
  · refine (copy_used b w c0).mono ?_
    rintro e w' ⟨rfl, rfl⟩
    exact ⟨rfl, ⟨hbR, v, hb, hown⟩, Kp.refl _ _ _⟩

set_option maxRecDepth 100000 in
set_option maxHeartbeats 2000000 in
theorem writeString_any {w : World} {b R : Nat} {p : Option Addr} {xs : List Int} (h : Wr w b R p xs) (hp : p = none ∨ p = some ⟨b, 0, none⟩) (d : ByteArray) (hn : xs.length + d.size ≤ 140737488355328) (hR : R ≤ w.heap.size) :
    Calls Try.prog 56 #[.pointer (some ⟨b, 0, none⟩), .string d] w fun e w' => (∃ v, e = .returned v) ∧ Wr w' b R (some ⟨b, 0, none⟩) (xs ++ byt d) ∧ Kp w w' b R := by
  have HC := Lib.hid (cchk_any h hp)
  clear h
  go_enter Try.func56, Try.ntmps56
  go_wp2_with fail
  refine Calls.mono HC.out ?_
  rintro e w1 ⟨rfl, ⟨hbR, v, hb, hown⟩, hk⟩
  obtain ⟨a, c, rfl⟩ := own_form hown
  have K1 := Lib.hid hk
  have B1 := Lib.hid hb
  have hs1 := hk.2.2.2.1
  have HO := Lib.hid hown
  have c1 : w1.cell? ⟨b, 1, none⟩ = some (.slice a xs.length c) := (hb.cell 1).trans rfl
  clear hk hb hown HC
  go_wp2_with (at_builtin; refine wpList_apps _ rfl (.tmp 12) (.tmp 13) rfl R _ xs.length xs rfl HO.out d rfl hn (by omega) ?_; intro v2 w2 hown2 hg2; obtain ⟨a2, k2, rfl⟩ := own_form hown2; have HO2 := Lib.hid hown2; have HG2 := Lib.hid hg2; have hb2 := B1.out.grown hg2 (fun e => own_far HO.out hbR e.symm); have HB2 := Lib.hid hb2; have f2 := hb2.frozen 1; have c2 := (hb2.cell 1).trans (show _ = some (Value.slice a xs.length c) by rfl); clear hb2 hg2 hown2)
  go_ret2
  refine ⟨⟨_, rfl⟩, ⟨hbR, _, by simpa using HB2.out.set_ 1 _, ?_⟩, K1.out.trans ⟨HG2.out.os, HG2.out.tape, HG2.out.output, by have := HG2.out.size; simp [World.setCell] at this ⊢; omega, fun k hk hne => by
    rw [Below.heap_setCell _ _ _ _ hne, HG2.out.block k (by omega) (fun e => own_far HO.out hk e.symm)]⟩⟩
  have := own_set (i := 1) (u := .slice a2 (xs.length + d.size) k2) HO2.out hbR
  rw [List.length_append, byt_len]
  exact this
set_option maxRecDepth 100000 in
set_option maxHeartbeats 2000000 in
theorem writeByte_any {w : World} {b R : Nat} {p : Option Addr} {xs : List Int} (h : Wr w b R p xs) (hp : p = none ∨ p = some ⟨b, 0, none⟩) (z : Int) (hz : 0 ≤ z ∧ z ≤ 255) (hn : xs.length + 1 ≤ 140737488355328) (hR : R ≤ w.heap.size) :
    Calls Try.prog 58 #[.pointer (some ⟨b, 0, none⟩), .int .u8 z] w fun e w' => (∃ v, e = .returned v) ∧ Wr w' b R (some ⟨b, 0, none⟩) (xs ++ [z]) ∧ Kp w w' b R := by
  have HC := Lib.hid (cchk_any h hp)
  have HW := Lib.hid (show ∀ y ∈ [z], (Lit.int .u8 y).wf = true by intro y hy; rw [List.mem_singleton] at hy; subst hy; exact wf_u8 hz)
  clear h
  go_enter Try.func58, Try.ntmps58
  go_wp2_with fail
  refine Calls.mono HC.out ?_
  rintro e w1 ⟨rfl, ⟨hbR, v, hb, hown⟩, hk⟩
  obtain ⟨a, c, rfl⟩ := own_form hown
  have K1 := Lib.hid hk
  have B1 := Lib.hid hb
  have hs1 := hk.2.2.2.1
  have HO := Lib.hid hown
  have c1 : w1.cell? ⟨b, 1, none⟩ = some (.slice a xs.length c) := (hb.cell 1).trans rfl
  clear hk hb hown HC
  go_wp2_with (at_builtin; refine wpList_app _ rfl (.tmp 11) (.tmp 13) rfl R _ xs.length xs rfl (HO.out.alloc _) (w1.heap.size + 1) (some ⟨w1.heap.size, 0, none⟩) 1 1 [z] rfl (fun h => by cases h) (Blk.reads (zs := [z]) (Blk.new _ _ _) HW.out (Nat.lt_succ_self _)) (by omega) (by simp only [World.size_alloc]; omega) ?_; intro v2 w2 hown2 hg2 hat2; obtain ⟨a2, k2, rfl⟩ := own_form hown2; have HO2 := Lib.hid hown2; have HG2 := Lib.hid hg2; have hb2 := (B1.out.alloc _).grown hg2 (fun e => own_far HO.out hbR e.symm); have HB2 := Lib.hid hb2; have f2 := hb2.frozen 1; have c2 := (hb2.cell 1).trans (show _ = some (Value.slice a xs.length c) by rfl); clear hb2 hg2 hown2 hat2)
  go_ret
  refine ⟨⟨_, rfl⟩, ⟨hbR, _, by simpa using HB2.out.set_ 1 _, ?_⟩, K1.out.trans ⟨HG2.out.os, HG2.out.tape, HG2.out.output, by have := HG2.out.size; simp [World.setCell] at this ⊢; omega, fun k hk hne => by
    rw [Below.heap_setCell _ _ _ _ hne, HG2.out.block k (by simp only [World.size_alloc]; omega) (fun e => own_far HO.out hk e.symm)]
    exact Below.heap_alloc w1 _ k (by omega)⟩⟩
  have := own_set (i := 1) (u := .slice a2 (xs.length + 1) k2) HO2.out hbR
  rw [List.length_append]
  exact this
set_option maxHeartbeats 1000000 in
theorem blen_any {w : World} {b R : Nat} {p : Option Addr} {xs : List Int} (h : Wr w b R p xs) :
    Calls Try.prog 57 #[.pointer (some ⟨b, 0, none⟩)] w fun e w' => e = .returned (.int .i64 (xs.length : Int)) ∧ w = w' := by
  obtain ⟨hbR, v, hb, hown⟩ := h
  obtain ⟨a, c, rfl⟩ := own_form hown
  have c1 : w.cell? ⟨b, 1, none⟩ = some (.slice a xs.length c) := (hb.cell 1).trans rfl
  clear hb hown
  go_enter Try.func57, Try.ntmps57
  go_wp2
  go_ret
  exact ⟨rfl, rfl⟩
theorem byteCells_of (l : List UInt8) : (l.map fun b => (b.toNat : Int)).map (Value.int .u8) = Lib.byteCells l := by
  simp [Lib.byteCells, Function.comp_def]
theorem own_less {w : World} {R B n : Nat} {t : TypeId} {v : Value} {xs : List Value} (h : w.ownsRow R t 1 v n xs) (hB : B ≤ R) : w.ownsRow B t 1 v n xs :=
  ⟨h.1, h.2.imp id fun ⟨g, cap, cur, a, b, c⟩ => ⟨g, cap, cur, a, by omega, c⟩⟩
end Go.Proofs.Ytbhddodghbhjiaa
