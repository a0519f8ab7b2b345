/-
  addr.Parse of any text.
-/
import Derived.Test.YtbpdnohcgojmbaaGreatDoorSix
namespace Go.Proofs.YtbpdnohcgojmbaaGreatDoor
open Go.RowKit
set_option linter.unusedVariables false

/-- What a text is read as. -/
def prsV (s : List UInt8) : Value := if 58 ∈ s then sixV (six s) else fourV (four s)
theorem contains_one (s : List UInt8) : Lib.contains s [58] = decide (58 ∈ s) := by
  unfold Lib.contains
  by_cases h : (58 : UInt8) ∈ s
  · obtain ⟨a, b, rfl, ha⟩ := mem_cut h
    rw [index_one_at ha]; simp
  · rw [index_one_no h]; simp [h]
theorem sixV_form (o : Option (List Nat)) : ∃ s h l e, sixV o = .tuple #[adr s h l, .int .i64 e] := by
  cases o <;> exact ⟨_, _, _, _, rfl⟩
theorem fourV_form (o : Option (List Nat)) : ∃ s h l e, fourV o = .tuple #[adr s h l, .int .i64 e] := by
  cases o <;> exact ⟨_, _, _, _, rfl⟩

set_option maxHeartbeats 1000000 in
theorem parse_any (s : ByteArray) (hs : s.size < 4294967281) (w : World) (hE : Env w) :
    Calls Tryz.prog 19 #[.string s] w fun e w' => e = .returned (prsV s.data.toList) ∧ Below w.heap.size w w' := by
  have hE1 := hE.alloc (.cells #[.bool false, .int .u64 0, .int .u64 0] 24)
  obtain ⟨m, hm⟩ := hE1.1
  have HC := Tryz.strings_Contains s ⟨#[58]⟩ m _ hs hm
  rw [show (⟨#[58]⟩ : ByteArray).data.toList = [58] from rfl, contains_one] at HC
  have HF := four_any s hs _ hE1
  have HS := six_any s hs _ hE1
  obtain ⟨V, hV⟩ : ∃ V, prsV s.data.toList = V := ⟨_, rfl⟩
  rw [hV]
  have HV := Lib.hid hV
  by_cases h : (58 : UInt8) ∈ s.data.toList
  · rw [show decide ((58 : UInt8) ∈ s.data.toList) = true by simpa using h] at HC
    obtain ⟨x, y, z, er, hf⟩ := sixV_form (six s.data.toList)
    rw [hf] at HS
    have HN : Hid (Value.tuple #[adr x y z, .int .i64 er] = V) := Lib.hid (by rw [← hV]; unfold prsV; rw [if_pos h, hf])
    have HC' := Lib.hid HC
    have HS' := Lib.hid HS
    clear HC HS HF hm hV h hf hs
    go_enter Tryz.func19, Tryz.ntmps19
    go_wp2_with fail
    refine Calls.mono HC'.out ?_
    rintro e w' ⟨rfl, rfl⟩
    go_wp2_with fail
    refine Calls.mono HS'.out ?_
    rintro e w2 ⟨rfl, hb⟩
    have R2 := (Blk.new w 24 _).below hb (by simp only [World.size_alloc]; omega)
    have L2 := Lib.hid (((Below.refl _ w).alloc (Nat.le_refl _) _).trans (hb.mono (by simp only [World.size_alloc]; omega)))
    obtain ⟨g1, g2, g3⟩ := R2.c3
    have z1 := R2.frozen 0
    have z2 := R2.frozen 1
    have z3 := R2.frozen 2
    clear hb R2
    go_wp2
    exact bodyPost_ret (v := .tuple #[adr x y z, .int .i64 er]) (by simp [results, Tryz.results19, go_sem, g1, g2, g3]) rfl ⟨by rw [← HN.out], ((L2.out.setCell (p := ⟨_, _, _⟩) (Nat.le_refl _) _).setCell (p := ⟨_, _, _⟩) (Nat.le_refl _) _).setCell (p := ⟨_, _, _⟩) (Nat.le_refl _) _⟩
  · rw [show decide ((58 : UInt8) ∈ s.data.toList) = false by simpa using h] at HC
    obtain ⟨x, y, z, er, hf⟩ := fourV_form (four s.data.toList)
    rw [hf] at HF
    have HN : Hid (Value.tuple #[adr x y z, .int .i64 er] = V) := Lib.hid (by rw [← hV]; unfold prsV; rw [if_neg h, hf])
    have HC' := Lib.hid HC
    have HF' := Lib.hid HF
    clear HC HS HF hm hV h hf hs
    go_enter Tryz.func19, Tryz.ntmps19
    go_wp2_with fail
    refine Calls.mono HC'.out ?_
    rintro e w' ⟨rfl, rfl⟩
    go_wp2_with fail
    refine Calls.mono HF'.out ?_
    rintro e w2 ⟨rfl, hb⟩
    have R2 := (Blk.new w 24 _).below hb (by simp only [World.size_alloc]; omega)
    have L2 := Lib.hid (((Below.refl _ w).alloc (Nat.le_refl _) _).trans (hb.mono (by simp only [World.size_alloc]; omega)))
    obtain ⟨g1, g2, g3⟩ := R2.c3
    have z1 := R2.frozen 0
    have z2 := R2.frozen 1
    have z3 := R2.frozen 2
    clear hb R2
    go_wp2
    exact bodyPost_ret (v := .tuple #[adr x y z, .int .i64 er]) (by simp [results, Tryz.results19, go_sem, g1, g2, g3]) rfl ⟨by rw [← HN.out], ((L2.out.setCell (p := ⟨_, _, _⟩) (Nat.le_refl _) _).setCell (p := ⟨_, _, _⟩) (Nat.le_refl _) _).setCell (p := ⟨_, _, _⟩) (Nat.le_refl _) _⟩
end Go.Proofs.YtbpdnohcgojmbaaGreatDoor
