/-
  ether.PrintMac and ether.Group of any argument.
-/
import Derived.Test.YtnhlgonldffgoaaDoorEWr
import Derived.Test.YtnhlgonldffgoaaDoorESmall
import Derived.Test.YtnhlgonldffgoaaDoorECls
import Derived.Test.YtnhlgonldffgoaaDoorPut
namespace Go.Proofs.YtnhlgonldffgoaaDoor
open Go.RowKit
set_option linter.unusedVariables false

/-- The text of the first k bytes, as numbers. -/
def mtxN (l : List Int) : List Int := (mtx l).map fun b => (b.toNat : Int)
theorem mtxN_first (z : Int) : mtxN [z] = [((xdg (z / 16)).toNat : Int), ((xdg (z % 16)).toNat : Int)] := by simp [mtxN, mtx_one, two]
theorem mtxN_snoc (l : List Int) (z : Int) (h : l ≠ []) : mtxN (l ++ [z]) = mtxN l ++ [58] ++ [((xdg (z / 16)).toNat : Int)] ++ [((xdg (z % 16)).toNat : Int)] := by
  unfold mtxN
  rw [mtx_snoc l z h]
  simp [two]
theorem mtxN_len (l : List Int) : (mtxN l).length ≤ 3 * l.length := by unfold mtxN; rw [List.length_map]; exact mtx_len l
theorem xdg_ascii {d : Int} (h0 : 0 ≤ d) (h1 : d ≤ 15) : 0 ≤ ((xdg d).toNat : Int) ∧ ((xdg d).toNat : Int) ≤ 127 := by
  rw [← xdg_int h0 h1]; split <;> omega
theorem shr_u8 (z : Int) (h0 : 0 ≤ z) (h1 : z ≤ 255) : 0 ≤ z / 16 ∧ z / 16 ≤ 15 := by omega
theorem and_u8 (z : Int) (h0 : 0 ≤ z) (h1 : z ≤ 255) : bits .and .u8 z 15 = z % 16 := by
  have e : ∀ m : Fin 256, bits .and .u8 (m.val : Int) 15 = (m.val : Int) % 16 := by decide +kernel
  have := e ⟨z.toNat, by omega⟩
  simp only at this
  rwa [show ((z.toNat : Nat) : Int) = z by omega] at this

set_option maxRecDepth 100000 in
set_option maxHeartbeats 4000000 in
theorem printMac_any (m : Int) (h0 : 0 ≤ m) (w : World) :
    Calls Tryd.prog 40 #[.int .u64 m] w fun e w' => e = .returned (.string (prM m)) ∧ Below w.heap.size w w' := by
  obtain ⟨V, hV⟩ : ∃ V, mcB m = V := ⟨_, rfl⟩
  have H1 := Lib.hid (fun W => isMac_at m hV W)
  cases V
  · have HX : Hid (prM m = ⟨#[]⟩) := Lib.hid (by unfold prM; rw [hV, if_neg (by decide)])
    clear hV
    go_enter Tryd.func40, Tryd.ntmps40
    go_wp2_with fail
    refine Calls.mono (H1.out _) ?_
    rintro e w1 ⟨rfl, rfl⟩
    go_wp2
    go_ret
    exact ⟨by rw [HX.out]; rfl, Below.refl _ _⟩
  · have HX : Hid (prM m = ⟨(mtx (putOf 6 m)).toArray⟩) := Lib.hid (by unfold prM; rw [hV, if_pos rfl])
    have HP := Lib.hid (fun W => put_nil 6 (by decide) m h0 W)
    obtain ⟨B6, hB6⟩ : ∃ l, l = putOf 6 m := ⟨_, rfl⟩
    have hl6 : B6.length = 6 := by rw [hB6]; exact putOf_len 6 m
    have HBy := Lib.hid (show By B6 by rw [hB6]; exact putOf_by 6 m)
    rw [← hB6] at HX HP
    have HL6 := Lib.hid hl6
    clear hV hB6 hl6
    go_enter Tryd.func40, Tryd.ntmps40
    go_wp2_with fail
    refine Calls.mono (H1.out _) ?_
    rintro e w1 ⟨rfl, rfl⟩
    go_wp2_with fail
    refine Calls.mono (HP.out _) ?_
    rintro e w1 ⟨rfl, hblk, hb⟩
    rw [World.size_alloc] at hblk hb
    have hsz : w.heap.size + 1 < w1.heap.size := hblk.lt
    have HB0 := Lib.hid (((Below.refl _ w).alloc (Nat.le_refl _) (.cells #[.pointer none, .slice none 0 0] 108)).trans (hb.mono (by omega)))
    have HW : Hid (Wr w1 w.heap.size (w.heap.size + 2) none (mtxN [])) := Lib.hid ⟨by omega, .slice none 0 0, (Blk.new w 108 #[.pointer none, .slice none 0 0]).below hb (by simp), ⟨rfl, .inl ⟨rfl, rfl⟩⟩⟩
    have HBk := Lib.hid hblk
    clear hblk hb
    go_wp2
    go_loopw [12] (fun i wr => ∃ j : Nat, j ≤ 6 ∧ i = .int .i64 (j : Int) ∧ Hid (∃ p, (p = none ∨ p = some ⟨w.heap.size, 0, none⟩) ∧ Wr wr w.heap.size (w.heap.size + 2) p (mtxN (B6.take j))) ∧ Hid (Kp w1 wr w.heap.size (w.heap.size + 2))) (fun i _ => 6 - (intOf i).toNat)
    case atStart => exact ⟨0, by decide, rfl, Lib.hid ⟨none, .inl rfl, HW.out⟩, Lib.hid (Kp.refl _ _ _)⟩
    case round =>
      obtain ⟨j, hj, rfl, hwr, hkp⟩ := hrel
      have hsr : w.heap.size + 2 ≤ wr.heap.size := by have := hkp.out.2.2.2.1; omega
      by_cases hlt : j < 6
      · have hjl : j < B6.length := by rw [HL6.out]; exact hlt
        obtain ⟨z, hz⟩ : ∃ z, B6[j]? = some z := ⟨_, List.getElem?_eq_getElem hjl⟩
        have hzb := HBy.out z (List.mem_of_getElem? hz)
        have htk : B6.take (j + 1) = B6.take j ++ [z] := by rw [List.take_add_one, hz]; rfl
        have hc : wr.cell? ⟨w.heap.size + 1, j, none⟩ = some (.int .u8 z) := by
          have e := hkp.out.2.2.2.2 (w.heap.size + 1) (by omega) (by omega)
          have hb : Blk wr (w.heap.size + 1) 5 ((B6.map (Value.int .u8)).toArray) := e.trans HBk.out
          rw [hb.cell]; simp [hz]
        have hlen : (mtxN (B6.take j)).length ≤ 18 := by have := mtxN_len (B6.take j); rw [List.length_take, HL6.out] at this; omega
        obtain ⟨d0, d1⟩ := shr_u8 z hzb.1 hzb.2
        have he := and_u8 z hzb.1 hzb.2
        have e0 : 0 ≤ z % 16 := by omega
        have e1 : z % 16 ≤ 15 := by omega
        have HD1 := Lib.hid (fun W => digit_any (z / 16) d0 d1 W)
        have HD2 := Lib.hid (fun W => digit_any (z % 16) e0 e1 W)
        obtain ⟨x1, x2⟩ := xdg_ascii d0 d1
        obtain ⟨y1, y2⟩ := xdg_ascii e0 e1
        obtain ⟨X, hX⟩ : ∃ X : Int, X = ((xdg (z / 16)).toNat : Int) := ⟨_, rfl⟩
        obtain ⟨Y, hY⟩ : ∃ Y : Int, Y = ((xdg (z % 16)).toNat : Int) := ⟨_, rfl⟩
        rw [← hX] at HD1 x1 x2
        rw [← hY] at HD2 y1 y2
        obtain ⟨p, hp, hw⟩ := hwr.out
        have HTK := Lib.hid htk
        have hj1 : (j : Int) < 6 := by omega
        obtain ⟨z0, z1⟩ := hzb
        by_cases h00 : j = 0
        · subst h00
          have HM : Hid (mtxN (B6.take 1) = mtxN (B6.take 0) ++ [X] ++ [Y]) := Lib.hid (by rw [htk, hX, hY]; simp only [List.take_zero, List.nil_append, mtxN_first]; rfl)
          have HW1 := Lib.hid (writeRune_any hw hp X x1 x2 (by omega) hsr)
          clear hX hY htk hz hjl hwr hw hp hlt
          go_wp2_with fail
          refine Calls.mono (HD1.out _) ?_
          rintro e w2 ⟨rfl, rfl⟩
          go_wp2_with fail
          refine Calls.mono HW1.out ?_
          rintro e w2 ⟨rfl, hw2, hk2⟩
          have hs2 : w.heap.size + 2 ≤ w2.heap.size := by have := hk2.2.2.2.1; omega
          have HW2 := Lib.hid (writeRune_any hw2 (.inr rfl) Y y1 y2 (by have h0 : (mtxN []).length = 0 := rfl; rw [List.length_append]; simp; omega) hs2)
          have HK2 := Lib.hid (hkp.out.trans hk2)
          clear hw2 hk2 hkp
          go_wp2_with fail
          refine Calls.mono (HD2.out _) ?_
          rintro e w3 ⟨rfl, rfl⟩
          go_wp2_with fail
          refine Calls.mono HW2.out ?_
          rintro e w3 ⟨rfl, hw3, hk3⟩
          have HW3 := Lib.hid hw3
          have HK3 := Lib.hid (HK2.out.trans hk3)
          clear hw3 hk3 hs2 hc he
          go_wp2
          go_roundw
          case rel => exact ⟨1, by omega, by first | rfl | go_num, Lib.hid ⟨_, .inr rfl, by rw [HM.out]; exact HW3.out⟩, HK3⟩
          case measure => simp [intOf]
        · have hne : B6.take j ≠ [] := by
            intro e
            have := congrArg List.length e
            rw [List.length_take, HL6.out] at this
            simp at this; omega
          have HM : Hid (mtxN (B6.take (j + 1)) = mtxN (B6.take j) ++ [58] ++ [X] ++ [Y]) := Lib.hid (by rw [htk, hX, hY, mtxN_snoc _ _ hne])
          have HW0 := Lib.hid (writeRune_any hw hp 58 (by decide) (by decide) (by omega) hsr)
          have hj0 : 0 < (j : Int) := by omega
          clear hX hY htk hz hjl hwr hw hp hlt hne h00
          go_wp2_with fail
          refine Calls.mono HW0.out ?_
          rintro e wA ⟨rfl, hwA, hkA⟩
          have hsA : w.heap.size + 2 ≤ wA.heap.size := by have := hkA.2.2.2.1; omega
          have HW1 := Lib.hid (writeRune_any hwA (.inr rfl) X x1 x2 (by rw [List.length_append]; simp; omega) hsA)
          have HKA := Lib.hid (hkp.out.trans hkA)
          clear hwA hkA hkp
          go_wp2_with fail
          refine Calls.mono (HD1.out _) ?_
          rintro e w2 ⟨rfl, rfl⟩
          go_wp2_with fail
          refine Calls.mono HW1.out ?_
          rintro e w2 ⟨rfl, hw2, hk2⟩
          have hs2 : w.heap.size + 2 ≤ w2.heap.size := by have := hk2.2.2.2.1; omega
          have HW2 := Lib.hid (writeRune_any hw2 (.inr rfl) Y y1 y2 (by rw [List.length_append, List.length_append]; simp; omega) hs2)
          have HK2 := Lib.hid (HKA.out.trans hk2)
          clear hw2 hk2
          go_wp2_with fail
          refine Calls.mono (HD2.out _) ?_
          rintro e w3 ⟨rfl, rfl⟩
          go_wp2_with fail
          refine Calls.mono HW2.out ?_
          rintro e w3 ⟨rfl, hw3, hk3⟩
          have HW3 := Lib.hid hw3
          have HK3 := Lib.hid (HK2.out.trans hk3)
          clear hw3 hk3 hs2 hc he
          go_wp2
          go_roundw
          case rel => exact ⟨j + 1, by omega, by go_num, Lib.hid ⟨_, .inr rfl, by rw [HM.out]; exact HW3.out⟩, HK3⟩
          case measure => simp [intOf]; omega
      · obtain rfl : j = 6 := by omega
        obtain ⟨p, hp, hw⟩ := hwr.out
        rw [List.take_of_length_le (by rw [HL6.out]; exact Nat.le_refl _)] at hw
        have HS := Lib.hid (string_any (l := mtx B6) hw hp hsr)
        have HKB := Lib.hid (HB0.out.trans (hkp.out.below (by omega)))
        clear hw hp hwr hkp
        go_wp2_with fail
        refine Calls.mono HS.out ?_
        rintro e w2 ⟨rfl, hb⟩
        have LE := HKB.out.trans hb
        clear hb
        go_wp2
        go_ret
        exact ⟨by rw [HX.out]; rfl, LE⟩

theorem grp_val (s : Bool) (h l : Int) {c : Int} (hc : clsV s h l = c) : grpV s h l = if c = 4 then 281474976710655 else if c = 3 then (if s = true then 56294136348672 + l % 4294967296 else 1101088686080 + l % 8388608) else 0 := by
  unfold grpV; rw [hc]
set_option maxRecDepth 100000 in
set_option maxHeartbeats 2000000 in
theorem group_any (s : Bool) (h l : Int) (hh : U6 h) (hl : U6 l) (w : World) :
    Calls Tryd.prog 42 #[adr s h l] w fun e w' => e = .returned (.int .u64 (grpV s h l)) ∧ Below w.heap.size w w' := by
  obtain ⟨c, hc⟩ : ∃ c, clsV s h l = c := ⟨_, rfl⟩
  have HC := Lib.hid (fun W => class_at s h l hh hl hc W)
  obtain ⟨G, hG⟩ : ∃ G, grpV s h l = G := ⟨_, rfl⟩
  have HG := Lib.hid (show G = _ from hG.symm.trans (grp_val s h l hc))
  rw [hG]
  have g6 := grp_six l hl.1 hl.2
  have g4 := grp_four l hl.1 hl.2
  clear hG hc hh hl
  have F : ∀ w1, Below (w.alloc (.cells #[.bool s, .int .u64 h, .int .u64 l] 25)).heap.size (w.alloc (.cells #[.bool s, .int .u64 h, .int .u64 l] 25)) w1 → (w1.cell? ⟨w.heap.size, 0, none⟩ = some (.bool s) ∧ w1.cell? ⟨w.heap.size, 1, none⟩ = some (.int .u64 h) ∧ w1.cell? ⟨w.heap.size, 2, none⟩ = some (.int .u64 l)) ∧ Below w.heap.size w w1 :=
    fun w1 hb => ⟨((Blk.new w 25 _).below hb (by simp only [World.size_alloc]; omega)).c3, ((Below.refl _ w).alloc (Nat.le_refl _) _).trans (hb.mono (by simp only [World.size_alloc]; omega))⟩
  have HF := Lib.hid F
  clear F
  by_cases c4 : c = 4
  · have HV : Hid (G = 281474976710655) := Lib.hid (by rw [HG.out, if_pos c4])
    clear g6 g4
    go_enter Tryd.func42, Tryd.ntmps42
    go_wp2_with fail
    refine Calls.mono (HC.out _) ?_
    rintro e w1 ⟨rfl, hb⟩
    have L1 := (HF.out w1 hb).2
    clear hb
    go_wp2
    go_ret
    exact ⟨ret_k HV.out.symm, L1⟩
  · by_cases c3 : c = 3
    · subst c3
      cases s
      · have HV : Hid (G = 1101088686080 + l % 8388608) := Lib.hid (by rw [HG.out, if_neg (by decide), if_pos rfl, if_neg (by decide)])
        clear g6
        go_enter Tryd.func42, Tryd.ntmps42
        go_wp2_with fail
        refine Calls.mono (HC.out _) ?_
        rintro e w1 ⟨rfl, hb⟩
        obtain ⟨⟨f1, f2, f3⟩, L1⟩ := HF.out w1 hb
        clear hb
        go_wp2
        go_ret
        exact ⟨ret_k HV.out.symm, L1⟩
      · have HV : Hid (G = 56294136348672 + l % 4294967296) := Lib.hid (by rw [HG.out, if_neg (by decide), if_pos rfl, if_pos rfl])
        clear g4
        go_enter Tryd.func42, Tryd.ntmps42
        go_wp2_with fail
        refine Calls.mono (HC.out _) ?_
        rintro e w1 ⟨rfl, hb⟩
        obtain ⟨⟨f1, f2, f3⟩, L1⟩ := HF.out w1 hb
        clear hb
        go_wp2
        go_ret
        exact ⟨ret_k HV.out.symm, L1⟩
    · have HV : Hid (G = 0) := Lib.hid (by rw [HG.out, if_neg c4, if_neg c3])
      have c3' : (c != 3) = true := by simpa using c3
      clear g6 g4
      go_enter Tryd.func42, Tryd.ntmps42
      go_wp2_with fail
      refine Calls.mono (HC.out _) ?_
      rintro e w1 ⟨rfl, hb⟩
      have L1 := (HF.out w1 hb).2
      clear hb
      go_wp2
      go_ret
      exact ⟨ret_k HV.out.symm, L1⟩
end Go.Proofs.YtnhlgonldffgoaaDoor
