/-
  addr.Bytes of any address.
-/
import Derived.Test.YtbpdnohcgojmbaaGreatDoorValid
import Derived.Test.YtbpdnohcgojmbaaGreatDoorRefPut
import Derived.Deep.RegionHeld3
namespace Go.Proofs.YtbpdnohcgojmbaaGreatDoor
open Go.RowKit
set_option linter.unusedVariables false

/-- The lowest bytes laid over a row from its end on. -/
theorem fill_put (cs : List Int) (o k j : Nat) (n : Int) (hj : j < k) (hl : o + k ≤ cs.length) :
    ((((cs.take (o + (k - j)) ++ putOf j n ++ cs.drop (o + k)).map (Value.int .u8)).toArray)).setIfInBounds (o + (k - 1 - j)) (.int .u8 (n / 256 ^ j % 256)) = (((cs.take (o + (k - (j + 1))) ++ putOf (j + 1) n ++ cs.drop (o + k)).map (Value.int .u8)).toArray) := by
  have e : o + (k - j) = (o + (k - (j + 1))) + 1 := by omega
  have hg : o + (k - (j + 1)) < cs.length := by omega
  rw [e, List.take_add_one, List.getElem?_eq_getElem hg, putOf_cons]
  have e3 : (cs.take (o + (k - (j + 1)))).length = o + (k - 1 - j) := by simp; omega
  have e4 : o + (k - 1 - j) = ((cs.take (o + (k - (j + 1)))).map (Value.int .u8)).length := by rw [List.length_map]; exact e3.symm
  simp only [List.map_append, Option.toList_some, List.map_cons, List.map_nil, List.append_assoc, List.setIfInBounds_toArray]
  rw [e4, List.set_append_right _ _ (Nat.le_refl _), Nat.sub_self]
  rfl

set_option maxHeartbeats 1000000 in
theorem fill_any (w : World) (g o k c : Nat) (t : TypeId) (n : Int) (cs : List Int) (hn : U6 n) (hk : k ≤ 8) (hg : Blk w g t ((cs.map (Value.int .u8)).toArray)) (hl : o + k ≤ cs.length) :
    Calls Tryz.prog 67 #[.slice (some ⟨g, o, none⟩) k c, .int .u64 n] w fun e w' => e = .returned (.tuple #[]) ∧ Blk w' g t (((cs.take o ++ putOf k n ++ cs.drop (o + k)).map (Value.int .u8)).toArray) ∧ ∀ B w0, Below B w0 w → B ≤ g → Below B w0 w' := by
  have HG : Hid (Blk w g t (((cs.take (o + (k - 0)) ++ putOf 0 n ++ cs.drop (o + k)).map (Value.int .u8)).toArray)) := Lib.hid (by simpa [putOf] using hg)
  have HH := Lib.hid hl
  have HN := Lib.hid hn
  clear hg hl hn
  have hc : k ≤ 9223372036854775807 := by omega
  go_enter Tryz.func67, Tryz.ntmps67
  go_wp2
  go_loopw [1, 7] (fun x i wr => ∃ j : Nat, j ≤ k ∧ i = .int .i64 j ∧ x = .int .u64 (n / 256 ^ j) ∧ Blk wr g t (((cs.take (o + (k - j)) ++ putOf j n ++ cs.drop (o + k)).map (Value.int .u8)).toArray) ∧ Hid (∀ B w0, Below B w0 w → B ≤ g → Below B w0 wr)) (fun _ i _ => k - (intOf i).toNat)
  case atStart => exact ⟨0, Nat.zero_le _, rfl, by simp, HG.out, fun _ _ h _ => h⟩
  case round =>
    obtain ⟨j, hj, rfl, rfl, hblk, hbel⟩ := hrel
    have HBk := Lib.hid hblk
    by_cases hlt : j < k
    · have hlen : o + (k - 1 - j) < ((cs.take (o + (k - j)) ++ putOf j n ++ cs.drop (o + k)).map (Value.int .u8)).length := by
        have := HH.out
        simp [putOf_len]; omega
      obtain ⟨q, hq⟩ : ∃ q, wr.cell? ⟨g, o + (k - 1 - j), none⟩ = some q := ⟨_, (hblk.cell _).trans (by rw [List.getElem?_toArray, List.getElem?_eq_getElem hlen])⟩
      have hfz := hblk.frozen (o + (k - 1 - j))
      obtain ⟨d0, d1⟩ := div_bd n j HN.out.1 HN.out.2
      obtain ⟨U, hU⟩ : ∃ U, n / 256 ^ j = U := ⟨_, rfl⟩
      rw [hU] at d0 d1 ⊢
      have HU := Lib.hid hU
      have hj' : ((k : Int) - 1 - (j : Int)).toNat = k - 1 - j := by omega
      have h1 : (j : Int) < k := by omega
      clear hblk hlen hU
      go_wp2
      go_roundw
      case rel =>
        refine ⟨j + 1, by omega, by go_num, u64_eq (by rw [← div_step n j HN.out.1, HU.out]), ?_, fun B w0 h hB => (hbel.out B w0 h hB).setCell (p := ⟨_, _, _⟩) hB _⟩
        have h := HBk.out.set_ (o + (k - 1 - j)) (.int .u8 (n / 256 ^ j % 256))
        rw [fill_put cs o k j n hlt HH.out, HU.out] at h
        exact h
      case measure => simp [intOf]; omega
    · obtain rfl : j = k := by omega
      clear hblk
      go_wp2
      exact bodyPost_end (v := .tuple #[]) (by simp [results, Tryz.results67, go_sem]) rfl ⟨rfl, by have := HBk.out; simpa using this, hbel.out⟩

/-- What hands back bytes of the call's own. -/
def OutB (w : World) (zs : List Int) (e : Ending) (w' : World) : Prop :=
  ∃ A c, e = .returned (.slice A zs.length c) ∧ zs.length ≤ c ∧ c ≤ 100 ∧ RI .u8 w' w'.heap.size A zs.length zs ∧ (A = none → c = 0) ∧ (∀ g, A = some g → w.heap.size ≤ g.block) ∧ Below w.heap.size w w' ∧
    (zs ≠ [] → ∃ g, A = some ⟨g, 0, none⟩ ∧ Blk w' g 5 ((zs.map (Value.int .u8)).toArray))
theorem slice_all {α : Type} (l : List α) (k : Nat) (h : l.length = k) : l.take k = l := List.take_of_length_le (by omega)
theorem make_u8 (n : Nat) (h : n ≤ 1000) (w : World) :
    (Instr.makeSlice 71 (.int .i64 (n : Int)) (.int .i64 (n : Int))).run Tryz.prog w = .ok (.slice (some ⟨w.heap.size, 0, none⟩) n n) (w.alloc (.cells (madeCells #[.int .u8 0] n) 5)) :=
  run_make_row' (P := Tryz.prog) 71 5 (.int .u8 0) 1 Tryz.underlying71 (by kernel_rfl) rfl .i64 .i64 n (by omega) (by omega) w
theorem outB_of {w w' : World} {g : Nat} {zs : List Int} (hz : zs ≠ []) (hl : zs.length ≤ 100) (hb : By zs) (h : Blk w' g 5 ((zs.map (Value.int .u8)).toArray)) (hg : w.heap.size ≤ g) (hB : Below w.heap.size w w') : OutB w zs (.returned (.slice (some ⟨g, 0, none⟩) zs.length zs.length)) w' :=
  ⟨_, _, rfl, Nat.le_refl _, hl, h.reads (fun z hz => wf_u8 (hb z hz)) h.lt, (fun e => by cases e), (fun x e => by injection e with e; rw [← e]; exact hg), hB, fun _ => ⟨g, rfl, h⟩⟩

set_option maxRecDepth 100000 in
set_option maxHeartbeats 2000000 in
theorem bytes_any (s : Bool) (h l : Int) (hh : U6 h) (hl : U6 l) (w : World) :
    Calls Tryz.prog 45 #[adr s h l] w (OutB w (byts s h l)) := by
  obtain ⟨V, hV⟩ : ∃ V, vld s h l = V := ⟨_, rfl⟩
  have HVa := Lib.hid (valid_at s h l (w.alloc (.cells #[.bool s, .int .u64 h, .int .u64 l] 24)) hV)
  cases V
  · have e : byts s h l = [] := by unfold byts; rw [hV]; rfl
    rw [e]
    have HV := Lib.hid hV
    clear hV e
    go_enter Tryz.func45, Tryz.ntmps45
    go_wp2_with fail
    refine Calls.mono HVa.out ?_
    rintro e w1 ⟨rfl, hb⟩
    have L1 := ((Below.refl _ w).alloc (Nat.le_refl _) _).trans (hb.mono (by simp only [World.size_alloc]; omega))
    clear hb
    go_wp2
    go_ret
    exact ⟨none, 0, rfl, Nat.zero_le _, by decide, RI.nil_, fun _ => rfl, (fun g e => by cases e), L1, fun e => absurd rfl e⟩
  · cases s
    · have e : byts false h l = putOf 4 l := by unfold byts; rw [hV]; rfl
      rw [e]
      clear hV e
      have HL := Lib.hid hl
      go_enter Tryz.func45, Tryz.ntmps45
      go_wp2_with fail
      refine Calls.mono HVa.out ?_
      rintro e w1 ⟨rfl, hb⟩
      have R1 := Lib.hid ((Blk.new w 24 _).below hb (by simp only [World.size_alloc]; omega))
      have L1 := Lib.hid (((Below.refl _ w).alloc (Nat.le_refl _) _).trans (hb.mono (by simp only [World.size_alloc]; omega)))
      have hs1 : w.heap.size < w1.heap.size := by have := hb.size; simp only [World.size_alloc] at this; omega
      obtain ⟨g1, g2, g3⟩ := R1.out.c3
      clear hb
      obtain ⟨W, hmk, hG, hW⟩ : ∃ W, (Instr.makeSlice 71 (.int .i64 4) (.int .i64 4)).run Tryz.prog w1 = .ok (.slice (some ⟨w1.heap.size, 0, none⟩) 4 4) W ∧ Blk W w1.heap.size 5 (((List.replicate 4 0).map (Value.int .u8)).toArray) ∧ W = w1.alloc (.cells (madeCells #[.int .u8 0] 4) 5) := by
        refine ⟨_, make_u8 4 (by decide) w1, ?_, rfl⟩
        rw [List.map_replicate, ← made_list]
        exact Blk.new w1 5 (madeCells #[.int .u8 0] 4)
      have R2 := Lib.hid (R1.out.alloc (.cells (madeCells #[.int .u8 0] 4) 5))
      have L2 := Lib.hid (L1.out.alloc (by omega) (.cells (madeCells #[.int .u8 0] 4) 5))
      rw [← hW] at R2 L2
      have hs2 : w1.heap.size < W.heap.size := by rw [hW, World.size_alloc]; omega
      obtain ⟨k1, k2, k3⟩ := R2.out.c3
      have HF := Lib.hid (fill_any W w1.heap.size 0 4 4 5 l (List.replicate 4 0) HL.out (by decide) hG (by decide))
      clear hW hG
      go_wp2_with fail
      refine Calls.mono HF.out ?_
      rintro e w2 ⟨rfl, hg, hbel⟩
      have G2 : Hid (Blk w2 w1.heap.size 5 (((putOf 4 l).map (Value.int .u8)).toArray)) := Lib.hid (by simpa using hg)
      have L3 := Lib.hid (hbel w.heap.size w L2.out (by omega))
      clear hg hbel HF hmk k1 k2 k3 g1 g2 g3
      go_wp2
      go_ret
      exact outB_of (by simp [putOf]) (by rw [putOf_len]; decide) (putOf_by 4 l) G2.out (by omega) L3.out
    · have e : byts true h l = putOf 8 h ++ putOf 8 l := by unfold byts; rw [hV]; rfl
      rw [e]
      clear hV e
      have HL := Lib.hid hl
      have HH := Lib.hid hh
      go_enter Tryz.func45, Tryz.ntmps45
      go_wp2_with fail
      refine Calls.mono HVa.out ?_
      rintro e w1 ⟨rfl, hb⟩
      have R1 := Lib.hid ((Blk.new w 24 _).below hb (by simp only [World.size_alloc]; omega))
      have L1 := Lib.hid (((Below.refl _ w).alloc (Nat.le_refl _) _).trans (hb.mono (by simp only [World.size_alloc]; omega)))
      have hs1 : w.heap.size < w1.heap.size := by have := hb.size; simp only [World.size_alloc] at this; omega
      obtain ⟨g1, g2, g3⟩ := R1.out.c3
      clear hb
      obtain ⟨W, hmk, hG, hW⟩ : ∃ W, (Instr.makeSlice 71 (.int .i64 16) (.int .i64 16)).run Tryz.prog w1 = .ok (.slice (some ⟨w1.heap.size, 0, none⟩) 16 16) W ∧ Blk W w1.heap.size 5 (((List.replicate 16 0).map (Value.int .u8)).toArray) ∧ W = w1.alloc (.cells (madeCells #[.int .u8 0] 16) 5) := by
        refine ⟨_, make_u8 16 (by decide) w1, ?_, rfl⟩
        rw [List.map_replicate, ← made_list]
        exact Blk.new w1 5 (madeCells #[.int .u8 0] 16)
      have R2 := Lib.hid (R1.out.alloc (.cells (madeCells #[.int .u8 0] 16) 5))
      have L2 := Lib.hid (L1.out.alloc (by omega) (.cells (madeCells #[.int .u8 0] 16) 5))
      rw [← hW] at R2 L2
      have hs2 : w1.heap.size < W.heap.size := by rw [hW, World.size_alloc]; omega
      obtain ⟨k1, k2, k3⟩ := R2.out.c3
      have HF := Lib.hid (fill_any W.drew w1.heap.size 0 8 16 5 h (List.replicate 16 0) HH.out (by decide) hG.drew (by decide))
      clear hW hG
      go_wp2
      go_region_held3 (fun w' => w'.cell? ⟨w.heap.size, 1, none⟩ = some (.int .u64 h)) (first | exact k2 | exact ((hbel w1.heap.size W.drew (Below.refl _ _) (Nat.le_refl _)).cell (p := ⟨w.heap.size, 1, none⟩) hs1).trans k2 | go_keep)
        ((first
          | (go_at_call 67; (with_reducible refine Calls.mono HF.out ?_); rintro e w2 ⟨rfl, hg, hbel⟩)))
      all_goals
        have G2 : Hid (Blk w2 w1.heap.size 5 (((putOf 8 h ++ List.replicate 8 0).map (Value.int .u8)).toArray)) := Lib.hid (by simpa using hg)
        have R3 := Lib.hid (R2.out.drew.below (hbel w1.heap.size W.drew (Below.refl _ _) (Nat.le_refl _)) (by omega))
        have L3 := Lib.hid (hbel w.heap.size w L2.out.drew (by omega))
        have HF2 := Lib.hid (fill_any w2.drew w1.heap.size 8 8 8 5 l (putOf 8 h ++ List.replicate 8 0) HL.out (by decide) G2.out.drew (by simp [putOf_len]))
        clear hg hbel hmk k1 k2 k3 g1 g2 g3
        obtain ⟨g1, g2, g3⟩ := R3.out.c3
        go_wp2
        go_region_held3 (fun w' => w'.cell? ⟨w.heap.size, 2, none⟩ = some (.int .u64 l)) (first | exact g3 | exact ((hbel w1.heap.size w2.drew (Below.refl _ _) (Nat.le_refl _)).cell (p := ⟨w.heap.size, 2, none⟩) hs1).trans g3 | go_keep)
          ((first
            | (go_at_call 67; (with_reducible refine Calls.mono HF2.out ?_); rintro e w3 ⟨rfl, hg, hbel⟩)))
        all_goals
          have G3 : Hid (Blk w3 w1.heap.size 5 (((putOf 8 h ++ putOf 8 l).map (Value.int .u8)).toArray)) := Lib.hid (by
            have e1 : (putOf 8 h ++ List.replicate 8 (0 : Int)).take 8 = putOf 8 h := List.take_left' (by rw [putOf_len])
            have e2 : (putOf 8 h ++ List.replicate 8 (0 : Int)).drop (8 + 8) = [] := List.drop_eq_nil_of_le (by simp [putOf_len])
            rw [e1, e2, List.append_nil] at hg
            exact hg)
          have L4 := Lib.hid (hbel w.heap.size w L3.out.drew (by omega))
          clear hg hbel g1 g2 g3
          go_wp2
          go_ret
          exact outB_of (by simp [putOf]) (by simp [putOf_len]) (fun z hz => by rcases List.mem_append.1 hz with h | h; exact putOf_by 8 _ z h; exact putOf_by 8 _ z h) G3.out (by omega) L4.out
end Go.Proofs.YtbpdnohcgojmbaaGreatDoor
