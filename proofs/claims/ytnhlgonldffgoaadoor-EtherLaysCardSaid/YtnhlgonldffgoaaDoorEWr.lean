/-
  strings.Builder.WriteRune of one byte, over a builder whose row lies in memory of its own; strings.Builder.String; strings.Repeat of a nought; strings.Clone.
-/
import Derived.Test.YtnhlgonldffgoaaDoorENum
import Derived.Test.YtnhlgonldffgoaaDoorShelfE
import Derived.Test.YtnhlgonldffgoaaDoorApp
import Derived.Test.YtnhlgonldffgoaaDoorAppk
import Derived.Lib.Builder
import Derived.Laws.Externs
namespace Go.Proofs.YtnhlgonldffgoaaDoor
open Go.RowKit
set_option linter.unusedVariables false

theorem infoB : (Tryd.prog.info? 108).map (·.size) = some 2 := by kernel_rfl
set_option maxHeartbeats 1000000 in
set_option maxRecDepth 100000 in
theorem copy_used (b : Nat) (w : World) (h0 : w.cell? ⟨b, 0, none⟩ = some (.pointer (some ⟨b, 0, none⟩))) :
    Calls Tryd.prog 100 #[.pointer (some ⟨b, 0, none⟩)] w fun e w' => e = .returned (.tuple #[]) ∧ w' = w := by
  obtain ⟨j, hj, _⟩ := Option.map_eq_some_iff.1 infoB
  go_enter Tryd.func100, Tryd.ntmps100
  go_wp2
  rw [Lib.run_neq_ptr_same w _ Tryd.underlying106 hj]
  go_wp2
  go_end0
  exact ⟨rfl, rfl⟩
set_option maxHeartbeats 1000000 in
set_option maxRecDepth 100000 in
theorem copy_fresh (b : Nat) (w : World) (h0 : w.cell? ⟨b, 0, none⟩ = some (.pointer none)) (hsh : w.shape? b = some (108, 2)) (hfz : w.frozen? ⟨b, 0, none⟩ = false) :
    Calls Tryd.prog 100 #[.pointer (some ⟨b, 0, none⟩)] w fun e w' => e = .returned (.tuple #[]) ∧ w' = w.setCell ⟨b, 0, none⟩ (.pointer (some ⟨b, 0, none⟩)) := by
  obtain ⟨j, hj, hjs⟩ := Option.map_eq_some_iff.1 infoB
  go_enter Tryd.func100, Tryd.ntmps100
  go_wp2
  rw [Lib.run_to_unsafe w ⟨b, 0, none⟩ Tryd.underlying106 Tryd.underlying143 hj (by rw [hjs]; decide) hsh (Nat.zero_lt_succ 1)]
  simp only [Result.andThen]
  rw [Oper.upon_value]
  go_wp2
  rw [run_callFunc_extern Tryd.func111 (by kernel_rfl) (by kernel_rfl) (by kernel_rfl) (e := Extern.AbiNoEscape.same) (by kernel_rfl)]
  rw [Lib.run_noEscape]
  simp only [Result.andThen]
  rw [Oper.upon_value]
  go_wp2
  rw [Lib.run_from_unsafe w ⟨b, 0, none⟩ Tryd.underlying143 Tryd.underlying106 hj hsh (by kernel_rfl)]
  simp only [Result.andThen]
  rw [Oper.upon_value]
  go_wp2
  go_end0
  exact ⟨rfl, rfl⟩

/-- The builder in block b, its first word p, holds xs; its row lies from block R on. -/
def Wr (w : World) (b R : Nat) (p : Option Addr) (xs : List Int) : Prop :=
  b < R ∧ ∃ v, Blk w b 108 #[.pointer p, v] ∧ w.ownsRow R 5 1 v xs.length (xs.map (Value.int .u8))
/-- What a write leaves: all below R but the builder's own block. -/
def Kp (w w' : World) (b R : Nat) : Prop := w'.os = w.os ∧ w'.tape = w.tape ∧ w'.output = w.output ∧ w.heap.size ≤ w'.heap.size ∧ ∀ k, k < R → k ≠ b → w'.heap[k]? = w.heap[k]?
theorem Kp.trans {a c d : World} {b R : Nat} (h : Kp a c b R) (k : Kp c d b R) : Kp a d b R :=
  ⟨k.1.trans h.1, k.2.1.trans h.2.1, k.2.2.1.trans h.2.2.1, Nat.le_trans h.2.2.2.1 k.2.2.2.1, fun i hi hb => (k.2.2.2.2 i hi hb).trans (h.2.2.2.2 i hi hb)⟩
theorem Kp.refl (w : World) (b R : Nat) : Kp w w b R := ⟨rfl, rfl, rfl, Nat.le_refl _, fun _ _ _ => rfl⟩
theorem Kp.below {w w' : World} {b R : Nat} (h : Kp w w' b R) (hb : b < R) : Below b w w' := ⟨h.1, h.2.1, h.2.2.1, h.2.2.2.1, fun k hk => h.2.2.2.2 k (by omega) (by omega)⟩
theorem own_form {w : World} {R n : Nat} {t : TypeId} {v : Value} {xs : List Value} (h : w.ownsRow R t 1 v n xs) : ∃ a c, v = .slice a n c := by
  rcases h.2 with ⟨hv, h0⟩ | ⟨g, cap, cur, hv, _⟩
  · exact ⟨none, 0, by rw [hv, h0]⟩
  · exact ⟨_, _, hv⟩
theorem own_far {w : World} {R n b : Nat} {t : TypeId} {v : Value} {xs : List Value} (h : w.ownsRow R t 1 v n xs) (hb : b < R) : v.ownBlock ≠ some b := by
  intro e
  have := own_basek h b e
  omega
theorem own_set {w : World} {R n b i : Nat} {t : TypeId} {v u : Value} {xs : List Value} (h : w.ownsRow R t 1 v n xs) (hb : b < R) : (w.setCell ⟨b, i, none⟩ u).ownsRow R t 1 v n xs :=
  h.kept (row := some b) ⟨rfl, rfl, rfl, by simp [World.setCell], fun k _ hk => Below.heap_setCell _ _ _ _ (fun e => hk (by simp [e]))⟩ (Or.inr (own_far h hb))

set_option maxHeartbeats 1000000 in
theorem check_any {w : World} {b R : Nat} {p : Option Addr} {xs : List Int} (h : Wr w b R p xs) (hp : p = none ∨ p = some ⟨b, 0, none⟩) :
    Calls Tryd.prog 100 #[.pointer (some ⟨b, 0, none⟩)] w fun e w' => e = .returned (.tuple #[]) ∧ Wr w' b R (some ⟨b, 0, none⟩) xs ∧ Kp w w' b R := by
  obtain ⟨hbR, v, hb, hown⟩ := h
  have c0 := (hb.cell 0).trans (show _ = some (Value.pointer p) by rfl)
  rcases hp with rfl | rfl
  · refine (copy_fresh b w c0 (by simp [World.shape?, show w.heap[b]? = _ from hb]) (hb.frozen 0)).mono ?_
    rintro e w' ⟨rfl, rfl⟩
    refine ⟨rfl, ⟨hbR, v, by simpa using hb.set_ 0 (.pointer (some ⟨b, 0, none⟩)), own_set hown hbR⟩, rfl, rfl, rfl, by simp [World.setCell], fun k _ hk => Below.heap_setCell _ _ _ _ hk⟩
  · refine (copy_used b w c0).mono ?_
    rintro e w' ⟨rfl, rfl⟩
    exact ⟨rfl, ⟨hbR, v, hb, hown⟩, Kp.refl _ _ _⟩

set_option maxRecDepth 100000 in
set_option maxHeartbeats 1000000 in
theorem appendRune_any (w : World) (R n : Nat) (v : Value) (xs : List Int) (r : Int) (h0 : 0 ≤ r) (h1 : r ≤ 127) (hown : w.ownsRow R 5 1 v n (xs.map (Value.int .u8))) (hn : n ≤ 1000) (hR : R ≤ w.heap.size) :
    Calls Tryd.prog 101 #[v, .int .i32 r] w fun e w' => ∃ v', e = .returned v' ∧ w'.ownsRow R 5 1 v' (n + 1) ((xs ++ [r]).map (Value.int .u8)) ∧ ∃ o, (w.alloc o).grownBy w' v.ownBlock := by
  have HO := Lib.hid hown
  have HW := Lib.hid (show ∀ z ∈ [r], (Lit.int .u8 z).wf = true by intro z hz; rw [List.mem_singleton] at hz; subst hz; exact wf_u8 (by omega))
  clear hown
  go_enter Tryd.func101, Tryd.ntmps101
  go_wp2_with (first
    | (at_builtin; refine wpList_app _ rfl (.tmp 8) (.tmp 11) rfl R v n xs rfl (HO.out.alloc _) (w.heap.size + 1) (some ⟨w.heap.size, 0, none⟩) 1 1 [r] rfl (fun h => by cases h) (Blk.reads (zs := [r]) (Blk.new _ _ _) HW.out (Nat.lt_succ_self _)) (by omega) (by simp only [World.size_alloc]; omega) ?_; intro v2 w2 hown2 hg2 hat2; have HO2 := Lib.hid hown2; have HG2 := Lib.hid hg2; clear hown2 hg2 hat2))
  go_ret
  exact ⟨_, rfl, HO2.out, _, HG2.out⟩

theorem ret_in {a b : Int} (h : a = b) : Ending.returned (.tuple #[.int .i64 a, .nilIface]) = .returned (.tuple #[.int .i64 b, .nilIface]) := by rw [h]
set_option maxRecDepth 100000 in
set_option maxHeartbeats 2000000 in
theorem writeRune_any {w : World} {b R : Nat} {p : Option Addr} {xs : List Int} (h : Wr w b R p xs) (hp : p = none ∨ p = some ⟨b, 0, none⟩) (r : Int) (h0 : 0 ≤ r) (h1 : r ≤ 127) (hn : xs.length ≤ 1000) (hR : R ≤ w.heap.size) :
    Calls Tryd.prog 80 #[.pointer (some ⟨b, 0, none⟩), .int .i32 r] w fun e w' => e = .returned (.tuple #[.int .i64 1, .nilIface]) ∧ Wr w' b R (some ⟨b, 0, none⟩) (xs ++ [r]) ∧ Kp w w' b R := by
  have HC := Lib.hid (check_any h hp)
  clear h
  go_enter Tryd.func80, Tryd.ntmps80
  go_wp2_with fail
  refine Calls.mono HC.out ?_
  rintro e w1 ⟨rfl, ⟨hbR, v, hb, hown⟩, hk⟩
  obtain ⟨a, c, rfl⟩ := own_form hown
  have K1 := Lib.hid hk
  have B1 := Lib.hid hb
  have hs1 := hk.2.2.2.1
  have HA := Lib.hid (appendRune_any w1 R xs.length _ xs r h0 h1 hown hn (by omega))
  have HO := Lib.hid hown
  have c1 : w1.cell? ⟨b, 1, none⟩ = some (.slice a xs.length c) := (hb.cell 1).trans rfl
  clear hk hb hown HC
  go_wp2_with fail
  refine Calls.mono HA.out ?_
  rintro e w2 ⟨v', rfl, hown', o, hg⟩
  obtain ⟨a', c', rfl⟩ := own_form hown'
  have hfar := own_far HO.out hbR
  have hb2 : Blk w2 b 108 #[.pointer (some ⟨b, 0, none⟩), .slice a xs.length c] := (B1.out.alloc o).grown hg (fun e => hfar e.symm)
  have f2 := hb2.frozen 1
  have c2 : w2.cell? ⟨b, 1, none⟩ = some (.slice a xs.length c) := (hb2.cell 1).trans rfl
  have HX : Hid (Wr (w2.setCell ⟨b, 1, none⟩ (.slice a' (xs.length + 1) c')) b R (some ⟨b, 0, none⟩) (xs ++ [r])) := Lib.hid
    ⟨hbR, _, by simpa using hb2.set_ 1 (.slice a' (xs.length + 1) c'), by
      have := own_set (i := 1) (u := .slice a' (xs.length + 1) c') hown' hbR
      simpa using this⟩
  have HK : Hid (Kp w (w2.setCell ⟨b, 1, none⟩ (.slice a' (xs.length + 1) c')) b R) := Lib.hid (K1.out.trans ⟨hg.os, hg.tape, hg.output, by have := hg.size; simp [World.setCell] at this ⊢; omega, fun k hk hne => by
    rw [Below.heap_setCell _ _ _ _ hne, hg.block k (by simp only [World.size_alloc]; omega) (fun e => own_far HO.out hk e.symm)]
    exact Below.heap_alloc w1 o k (by omega)⟩)
  clear hb2 hg hown' hfar
  go_wp2
  go_ret2
  exact ⟨ret_in (by omega), HX.out, HK.out⟩

theorem byteCells_of (l : List UInt8) : (l.map fun b => (b.toNat : Int)).map (Value.int .u8) = Lib.byteCells l := by
  simp [Lib.byteCells, Function.comp_def]
theorem own_less {w : World} {R B n : Nat} {t : TypeId} {v : Value} {xs : List Value} (h : w.ownsRow R t 1 v n xs) (hB : B ≤ R) : w.ownsRow B t 1 v n xs :=
  ⟨h.1, h.2.imp id fun ⟨g, cap, cur, a, b, c⟩ => ⟨g, cap, cur, a, by omega, c⟩⟩
theorem string_any {w : World} {b R : Nat} {p : Option Addr} {l : List UInt8} (h : Wr w b R p (l.map fun b => (b.toNat : Int))) (hp : p = none ∨ p = some ⟨b, 0, none⟩) (hR : R ≤ w.heap.size) :
    Calls Tryd.prog 82 #[.pointer (some ⟨b, 0, none⟩)] w fun e w' => e = .returned (.string ⟨l.toArray⟩) ∧ Below b w w' := by
  obtain ⟨hbR, v, hb, hown⟩ := h
  rw [byteCells_of, List.length_map] at hown
  have hI : Lib.BuilderAt 108 5 b b (.pointer p) (Lib.byteCells l) w := ⟨Nat.le_refl _, v, hb, by rw [Lib.byteCells_length]; exact own_less hown (by omega), own_far hown hbR⟩
  refine Tryd.Builder_String_any b b l w ?_ (by omega)
  rcases hp with rfl | rfl
  · exact .inl hI
  · exact .inr hI

/-- strings.Repeat of the text of one nought. -/
theorem repeat_any (n : Nat) (hn : n ≤ 1000) (w : World) :
    Calls Tryd.prog 66 #[.string ⟨#[0]⟩, .int .i64 (n : Int)] w fun e w' => e = .returned (.string (strOfNums (List.replicate n 0))) ∧ Below w.heap.size w w' := by
  have h := Tryd.strings_Repeat ⟨#[0]⟩ n w (by omega) (by show 1 * n ≤ _; omega)
  rw [show (⟨#[0]⟩ : ByteArray).data.toList = List.replicate 1 0 from rfl, Lib.repeatL_replicate] at h
  rw [show strOfNums (List.replicate n 0) = ⟨(List.replicate (n * 1) (0 : UInt8)).toArray⟩ by simp [strOfNums]]
  exact h

set_option maxHeartbeats 1000000 in
theorem clone_any (s : ByteArray) (hs : s.size ≤ 281474976710656) (w : World) :
    Calls Tryd.prog 73 #[.string s] w fun e w' => e = .returned (.string s) ∧ Below w.heap.size w w' := by
  have H := Lib.hid (Tryd.stringslite_Clone s w hs)
  go_enter Tryd.func73, Tryd.ntmps73
  go_wp2_with fail
  refine Calls.mono H.out ?_
  rintro e w1 ⟨rfl, hb⟩
  go_wp2
  go_ret
  exact ⟨rfl, hb⟩
end Go.Proofs.YtnhlgonldffgoaaDoor
