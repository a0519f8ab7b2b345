/-
  ether.Lay and ether.Take of any argument.
-/
import Derived.Test.YtnhlgonldffgoaaDoorEWr
import Derived.Test.YtnhlgonldffgoaaDoorESmall
import Derived.Test.YtnhlgonldffgoaaDoorPut
import Derived.Test.YtnhlgonldffgoaaDoorReader
import Derived.Lib.ConvBytes
import Derived.Laws.BytesArg
namespace Go.Proofs.YtnhlgonldffgoaaDoor
open Go.RowKit
set_option linter.unusedVariables false

/-- 'string(b)' of a block that is known whole. -/
theorem conv_str {w : World} {B n c : Nat} {A : Option Addr} {zs : List Int} (h : RI .u8 w B A n zs) :
    (convert 30 9 (.slice A n c)).run Tryd.prog w = .ok (.string (strOfNums zs)) w := by
  rcases Nat.eq_zero_or_pos n with h0 | h0
  · subst h0
    obtain rfl := List.eq_nil_of_length_eq_zero h.1
    rcases A with _ | ⟨b, o, sp⟩
    · exact run_convert_bytes_nil w 30 5 (by kernel_rfl) (by kernel_rfl) 0 c 9 (by kernel_rfl)
    · rw [run_convert_bytes_string w 30 9 5 _ 0 c (by kernel_rfl) (by kernel_rfl) (by kernel_rfl)]
      have hl : (loadCells ⟨b, o, sp⟩ 0).run Tryd.prog w = .ok (([] : List Int).map (Value.int .u8)).toArray w := by
        have := run_loadCells_list (P := Tryd.prog) w ⟨b, o, sp⟩ [] (fun j v hj => by cases hj)
        simpa using this
      rw [run_bytesToString w _ 0 c [] hl]
      rfl
  · obtain ⟨b, o, rfl, hb, hc⟩ := h.2.1 h0
    refine run_convert_bytes_arg w 30 5 (by kernel_rfl) (by kernel_rfl) b o n c zs h.1 (fun i hi => ?_) 9 (by kernel_rfl)
    have hi' : i < zs.length := by rw [h.1]; exact hi
    rw [hc i _ (List.getElem?_eq_getElem hi')]
    simp [List.getD_eq_getElem?_getD, hi']

/-- The world behind '[]byte(s)'. -/
theorem bytesWorld_below (w : World) (s : ByteArray) : Below w.heap.size w (Lib.bytesWorld w 5 s) :=
  ⟨rfl, rfl, rfl, by rw [Lib.bytesWorld_size]; omega, fun k hk => Lib.bytesWorld_at_old w _ s k hk⟩
theorem bytesWorld_ri (w : World) (s : ByteArray) : RI .u8 (Lib.bytesWorld w 5 s) (Lib.bytesWorld w 5 s).heap.size (some ⟨w.heap.size, 0, none⟩) s.size (byt s) := by
  refine ⟨byt_len s, fun _ => ⟨w.heap.size, 0, rfl, by rw [Lib.bytesWorld_size]; omega, fun j z hz => ?_⟩, (byt_by s).wf⟩
  have hj : j < s.size := by rw [← byt_len]; exact (List.getElem?_eq_some_iff.1 hz).1
  rw [Nat.zero_add, Lib.bytesWorld_cell w 5 s j hj]
  have hj' : j < s.data.toList.length := by rw [Array.length_toList]; exact hj
  unfold byt at hz
  rw [List.getElem?_map, List.getElem?_eq_getElem hj', Option.map_some] at hz
  injection hz with hz
  rw [← hz, List.getD_eq_getElem?_getD, List.getElem?_eq_getElem hj']
  rfl
theorem conv_bytes (w : World) (s : ByteArray) : (convert 9 30 (.string s)).run Tryd.prog w = .ok (.slice (some ⟨w.heap.size, 0, none⟩) s.size (grownCap w s.size 0 5)) (Lib.bytesWorld w 5 s) :=
  Lib.run_convert_string_bytes w 9 30 5 s Tryd.underlying9 Tryd.underlying30 Tryd.underlying5

theorem Blk.c4 {w : World} {g : Nat} {t : TypeId} {a b c d : Value} (h : Blk w g t #[a, b, c, d]) : w.cell? ⟨g, 0, none⟩ = some a ∧ w.cell? ⟨g, 1, none⟩ = some b ∧ w.cell? ⟨g, 2, none⟩ = some c ∧ w.cell? ⟨g, 3, none⟩ = some d :=
  ⟨by rw [h.cell]; rfl, by rw [h.cell]; rfl, by rw [h.cell]; rfl, by rw [h.cell]; rfl⟩

theorem lyV_no {tt fr k : Int} {d : ByteArray} (h : frB tt fr k = false) : lyV tt fr k d = .tuple #[.string ⟨#[]⟩, .int .i64 40] := by unfold lyV; rw [if_pos h]
theorem lyV_long {tt fr k : Int} {d : ByteArray} (h : frB tt fr k = true) (hd : 1500 < d.size) : lyV tt fr k d = .tuple #[.string ⟨#[]⟩, .int .i64 42] := by unfold lyV; rw [h, if_neg (by decide), if_pos hd]
theorem lyV_ok {tt fr k : Int} {d : ByteArray} (h : frB tt fr k = true) (hd : d.size ≤ 1500) : lyV tt fr k d = .tuple #[.string (strOfNums (hdr tt fr k) ++ d ++ strOfNums (List.replicate (46 - d.size) 0)), .int .i64 0] := by
  unfold lyV
  rw [h, if_neg (by decide), if_neg (by omega)]
  have e : strOfNums (lyL tt fr k (byt d)) = strOfNums (hdr tt fr k) ++ d ++ strOfNums (List.replicate (46 - d.size) 0) := by
    unfold lyL
    rw [byt_len, ← str_add, ← str_add, str_byt]
  rw [e]

set_option maxRecDepth 100000 in
set_option maxHeartbeats 4000000 in
theorem lay_any (tt fr k : Int) (d : ByteArray) (h0 : 0 ≤ tt) (h1 : 0 ≤ fr) (w : World) :
    Calls Tryd.prog 30 #[frm tt fr k d] w fun e w' => e = .returned (lyV tt fr k d) ∧ Below w.heap.size w w' := by
  obtain ⟨V, hV⟩ : ∃ V, frB tt fr k = V := ⟨_, rfl⟩
  have H1 := Lib.hid (fun W => isFrame_at tt fr k d hV W)
  have HK : Hid (∀ w1, Below (w.alloc (.cells #[.int .u64 tt, .int .u64 fr, .int .i64 k, .string d] 43)).heap.size (w.alloc (.cells #[.int .u64 tt, .int .u64 fr, .int .i64 k, .string d] 43)) w1 → Blk w1 w.heap.size 43 #[.int .u64 tt, .int .u64 fr, .int .i64 k, .string d] ∧ Below w.heap.size w w1) :=
    Lib.hid fun w1 hb => ⟨(Blk.new w 43 _).below hb (by simp only [World.size_alloc]; omega), ((Below.refl _ w).alloc (Nat.le_refl _) _).trans (hb.mono (by simp only [World.size_alloc]; omega))⟩
  cases V
  · have HX := Lib.hid (lyV_no (d := d) hV)
    clear hV
    go_enter Tryd.func30, Tryd.ntmps30
    go_wp2_with fail
    refine Calls.mono (H1.out _) ?_
    rintro e w1 ⟨rfl, hb⟩
    have L1 := (HK.out w1 hb).2
    clear hb
    go_wp2
    go_ret2
    exact ⟨by rw [HX.out]; rfl, L1⟩
  · by_cases hd : d.size ≤ 1500
    · have HX := Lib.hid (lyV_ok hV hd)
      obtain ⟨-, -, q1, q2⟩ := frB_of hV
      have HP1 := Lib.hid (fun W => put_nil 6 (by decide) tt h0 W)
      have HP2 := Lib.hid (fun (W : World) (A : Option Addr) (c : Nat) (zs : List Int) (hz : RI .u8 W W.heap.size A 6 zs) => put_k 6 6 (by decide) fr h1 (by decide) (c := c) hz)
      have HP3 := Lib.hid (fun (W : World) (A : Option Addr) (c : Nat) (zs : List Int) (hz : RI .u8 W W.heap.size A 12 zs) => put_k 2 12 (by decide) k (by omega) (by decide) (c := c) hz)
      have hd1 : (d.size : Int) ≤ 1500 := by omega
      have HR := Lib.hid (fun W => repeat_any (46 - d.size) (by omega) W)
      have HDS := Lib.hid hd
      have q0 : 0 ≤ k := by omega
      clear hV hd
      go_enter Tryd.func30, Tryd.ntmps30
      go_wp2_with fail
      refine Calls.mono (H1.out _) ?_
      rintro e w1 ⟨rfl, hb⟩
      obtain ⟨hk1, hl1⟩ := HK.out w1 hb
      have K1 := Lib.hid hk1
      have L1 := Lib.hid hl1
      obtain ⟨f1, f2, f3, f4⟩ := hk1.c4
      clear hb hk1 hl1
      go_wp2_with fail
      refine Calls.mono (HP1.out _) ?_
      rintro e w2 ⟨rfl, hr, hb⟩
      have R2 := Lib.hid (hr.reads (putOf_by 6 tt).wf hr.lt)
      have K2 := Lib.hid (K1.out.below hb K1.out.lt)
      have L2 := Lib.hid (L1.out.trans (hb.mono L1.out.size))
      clear f1 f2 f3 f4 hr hb
      obtain ⟨f1, f2, f3, f4⟩ := K2.out.c4
      rw [putOf_len] at R2
      go_wp2_with fail
      refine Calls.mono (HP2.out _ _ _ _ R2.out) ?_
      rintro e w3 ⟨rfl, hr, hb⟩
      have R3 := Lib.hid (hr.reads ((putOf_by 6 tt).app (putOf_by 6 fr)).wf hr.lt)
      have K3 := Lib.hid (K2.out.below hb K2.out.lt)
      have L3 := Lib.hid (L2.out.trans (hb.mono L2.out.size))
      clear f1 f2 f3 f4 hr hb
      obtain ⟨f1, f2, f3, f4⟩ := K3.out.c4
      rw [List.length_append, putOf_len, putOf_len] at R3
      go_wp2_with fail
      refine Calls.mono (HP3.out _ _ _ _ R3.out) ?_
      rintro e w4 ⟨rfl, hr, hb⟩
      have R4 := hr.reads (((putOf_by 6 tt).app (putOf_by 6 fr)).app (putOf_by 2 k)).wf hr.lt
      have K4 := Lib.hid (K3.out.below hb K3.out.lt)
      have L4 := Lib.hid (L3.out.trans (hb.mono L3.out.size))
      rw [List.length_append, List.length_append, putOf_len, putOf_len, putOf_len] at R4
      have hcv := conv_str (c := 12 + 2) R4
      obtain ⟨S, hS⟩ : ∃ S, S = strOfNums (putOf 6 tt ++ putOf 6 fr ++ putOf 2 k) := ⟨_, rfl⟩
      rw [← hS] at hcv
      have hs14 : S.size = 14 := by rw [hS, strOfNums_size]; simp [putOf_len]
      have HS := Lib.hid (show S = strOfNums (hdr tt fr k) from hS)
      clear f1 f2 f3 f4 hr hb R4 hS
      obtain ⟨f1, f2, f3, f4⟩ := K4.out.c4
      have hmax : max (60 - (14 + (d.size : Int))) 0 = ((46 - d.size : Nat) : Int) := by have := HDS.out; omega
      have HM := Lib.hid hmax
      obtain ⟨Z, hZ⟩ : ∃ Z, Z = strOfNums (List.replicate (46 - d.size) 0) := ⟨_, rfl⟩
      have hz46 : Z.size ≤ 46 := by rw [hZ, strOfNums_size, List.length_replicate]; omega
      rw [← hZ] at HR HX
      clear hmax hZ
      go_wp2_with fail
      rw [HM.out]
      refine Calls.mono (HR.out _) ?_
      rintro e w5 ⟨rfl, hb⟩
      have L5 := L4.out.trans (hb.mono L4.out.size)
      clear hb f1 f2 f3 f4 hcv
      go_wp2
      go_ret2
      exact ⟨by rw [HX.out, ← HS.out]; rfl, L5⟩
    · have HX := Lib.hid (lyV_long (d := d) hV (by omega))
      have hd1 : (1500 : Int) < d.size := by omega
      clear hV hd
      go_enter Tryd.func30, Tryd.ntmps30
      go_wp2_with fail
      refine Calls.mono (H1.out _) ?_
      rintro e w1 ⟨rfl, hb⟩
      obtain ⟨hk1, L1⟩ := HK.out w1 hb
      obtain ⟨f1, f2, f3, f4⟩ := hk1.c4
      clear hb
      go_wp2
      go_ret2
      exact ⟨by rw [HX.out]; rfl, L1⟩
end Go.Proofs.YtnhlgonldffgoaaDoor
