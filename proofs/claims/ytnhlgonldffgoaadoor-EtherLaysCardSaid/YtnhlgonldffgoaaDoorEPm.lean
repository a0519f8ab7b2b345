/-
  ether.ParseMac of any text.
-/
import Derived.Test.YtnhlgonldffgoaaDoorESmall
import Derived.Lib.OthersKept
import Derived.Laws.RangeAny
namespace Go.Proofs.YtnhlgonldffgoaaDoor
open Go.RowKit
set_option linter.unusedVariables false

theorem drop_byte (s : ByteArray) (k : Nat) (h : k < s.size) : s.data.toList.drop k = s[k] :: s.data.toList.drop (k + 1) := by
  have h' : k < s.data.toList.length := by rw [Array.length_toList]; exact h
  rw [List.drop_eq_getElem_cons h']
  rfl
theorem pmV_some {s : ByteArray} {n : Nat} (hs : s.size = 17) (h : pmF 0 s.data.toList 0 = some n) : pmV s = .tuple #[.int .u64 (n : Int), .int .i64 0] := by
  unfold pmV; rw [if_pos hs, h]
theorem pmV_none {s : ByteArray} (hs : s.size = 17) (h : pmF 0 s.data.toList 0 = none) : pmV s = .tuple #[.int .u64 0, .int .i64 40] := by
  unfold pmV; rw [if_pos hs, h]
theorem xdv_high {c : UInt8} (h : ¬ c.toNat < 128) : xdv c = none := by
  unfold xdv; rw [if_neg (by omega), if_neg (by omega), if_neg (by omega)]
theorem or_four (a d : Nat) (hd : d < 16) (ha : a < 17592186044416) : bits .or .u64 ((a : Int) * 16) (d : Int) = ((a * 16 + d : Nat) : Int) := by
  have h := or_hi 4 a d (by omega) (by omega)
  have e1 : ((2 ^ 4 * a : Nat) : Int) = (a : Int) * 16 := by
    have : (2 : Nat) ^ 4 = 16 := by decide
    rw [this]; omega
  have e2 : ((2 ^ 4 * a + d : Nat) : Int) = ((a * 16 + d : Nat) : Int) := by
    have : (2 : Nat) ^ 4 = 16 := by decide
    rw [this]; omega
  rw [e1, e2] at h
  exact h

set_option maxRecDepth 100000 in
set_option maxHeartbeats 2000000 in
theorem parseMac_any (s : ByteArray) (w : World) :
    Calls Tryd.prog 38 #[.string s] w fun e w' => e = .returned (pmV s) ∧ Below w.heap.size w w' := by
  by_cases hs : s.size = 17
  · have HS := Lib.hid hs
    have hs1 : (s.size : Int) = 17 := by omega
    clear hs
    go_enter Tryd.func38, Tryd.ntmps38
    go_wp2
    clear hs1
    go_loopw [4] (fun m wr => ∃ pos a : Nat, m = .int .u64 (a : Int) ∧ wr.heap[w.heap.size]? = some (.stringIter s pos) ∧ Below w.heap.size w wr ∧ Hid (pos ≤ 17 ∧ a < 16 ^ (pos - pos / 3) ∧ pmF 0 s.data.toList 0 = pmF pos (s.data.toList.drop pos) a)) (fun _ wr => s.size - wr.iterPos w.heap.size)
    case atStart =>
      refine ⟨0, 0, rfl, ?_, (Below.refl _ w).alloc (Nat.le_refl _) _, Lib.hid ⟨by decide, by decide, by simp⟩⟩
      have := World.iter_heap w s 0
      simpa using this
    case round =>
      obtain ⟨pos, a, rfl, hit, hbw, hh⟩ := hrel
      have hsz : w.heap.size < wr.heap.size := (Array.getElem?_eq_some_iff.1 hit).1
      have HIT := Lib.hid hit
      by_cases hp : pos < s.size
      · have hp17 : pos < 17 := by have := HS.out; omega
        have hdb := drop_byte s pos hp
        obtain ⟨c, hc⟩ : ∃ c, s[pos] = c := ⟨_, rfl⟩
        have hcb := UInt8.toNat_lt c
        by_cases hasc : c.toNat < 128
        · have hnx : ∀ ty, (Instr.next (.pointer (some ⟨w.heap.size, 0, none⟩)) true ty).run Tryd.prog wr = .ok (.tuple #[.bool true, .int .i64 pos, .int .i32 (c.toNat : Int)]) (wr.iterAt w.heap.size s (pos + 1)) := fun ty => by
            have := Lib.run_next_ascii_at (P := Tryd.prog) wr w.heap.size s pos ty hit hp (by rw [hc]; exact hasc)
            rw [this, hc]
          have hit2 := Lib.iterAt_heap wr w.heap.size s pos (pos + 1) hit
          have hbw2 := Lib.below_iterAt hbw (k := w.heap.size) (by omega) s (pos + 1)
          rw [hc] at hdb
          obtain ⟨h1, h2, h3⟩ := hh.out
          rw [hdb] at h3
          obtain ⟨R, hR⟩ : ∃ R, s.data.toList.drop (pos + 1) = R := ⟨_, rfl⟩
          rw [hR] at h3
          have HR := Lib.hid hR
          by_cases hm : pos % 3 = 2
          · have hm1 : (pos : Int) % 3 = 2 := by omega
            by_cases hcol : c = 58
            · have hc1 : (c.toNat : Int) = 58 := by rw [hcol]; rfl
              have HN : Hid (pos + 1 ≤ 17 ∧ a < 16 ^ ((pos + 1) - (pos + 1) / 3) ∧ pmF 0 s.data.toList 0 = pmF (pos + 1) (s.data.toList.drop (pos + 1)) a) := Lib.hid ⟨by omega, pm_same h2 hm, by rw [h3, HR.out, hcol, pmF_mark hm]⟩
              have HI := Lib.hid hit2
              have HB := Lib.hid hbw2
              clear hh h1 h2 h3 hdb hR hit2 hbw2 hc hcol hit hbw
              go_wp2
              go_roundw
              case rel => exact ⟨pos + 1, a, rfl, HI.out, HB.out, HN⟩
              case measure =>
                simp only [World.iterPos, HI.out, HIT.out]
                omega
            · have hc1 : ¬ (c.toNat : Int) = 58 := fun e => hcol (by
                have e58 : (58 : UInt8).toNat = 58 := rfl
                have : c.toNat = (58 : UInt8).toNat := by omega
                exact UInt8.toNat_inj.1 this)
              have HN : Hid (pmV s = .tuple #[.int .u64 0, .int .i64 40]) := Lib.hid (pmV_none HS.out (by rw [h3, pmF_bad hm hcol]))
              have HB := Lib.hid hbw2
              clear hh h1 h2 h3 hdb hR hit2 hbw2 hc hit hbw
              go_wp2
              go_ret2
              exact ⟨by rw [HN.out]; rfl, HB.out⟩
          · have hm1 : ¬ (pos : Int) % 3 = 2 := by omega
            have hrb := rdv_byte c
            cases hx : xdv c with
            | none =>
              rw [hx] at hrb
              have HV := Lib.hid (fun W => value_no (c.toNat : Int) (by omega) (by omega) (by rw [hrb]; rfl) W)
              have HN : Hid (pmV s = .tuple #[.int .u64 0, .int .i64 40]) := Lib.hid (pmV_none HS.out (by rw [h3, pmF_none hm hx]))
              have HB := Lib.hid hbw2
              clear hh h1 h2 h3 hdb hR hit2 hbw2 hc hit hbw hrb hx
              go_wp2_with fail
              refine Calls.mono (HV.out _) ?_
              rintro e w1 ⟨rfl, rfl⟩
              go_wp2
              go_ret2
              exact ⟨by rw [HN.out]; rfl, HB.out⟩
            | some d =>
              rw [hx] at hrb
              have hd := xdv_lt hx
              have HV := Lib.hid (fun W => value_yes (c.toNat : Int) (d : Int) (by omega) (by omega) (by rw [hrb]; rfl) W)
              have ha := pm_bd2 h2 hp17 hm
              have hor := or_four a d hd ha
              have HN : Hid (pos + 1 ≤ 17 ∧ a * 16 + d < 16 ^ ((pos + 1) - (pos + 1) / 3) ∧ pmF 0 s.data.toList 0 = pmF (pos + 1) (s.data.toList.drop (pos + 1)) (a * 16 + d)) := Lib.hid ⟨by omega, pm_grow h2 hd hm, by rw [h3, HR.out, pmF_digit hm hx]⟩
              have HI := Lib.hid hit2
              have HB := Lib.hid hbw2
              clear hh h1 h2 h3 hdb hR hit2 hbw2 hc hit hbw hrb hx
              go_wp2_with fail
              refine Calls.mono (HV.out _) ?_
              rintro e w1 ⟨rfl, rfl⟩
              go_wp2
              go_roundw
              case rel => exact ⟨pos + 1, a * 16 + d, rfl, HI.out, HB.out, HN⟩
              case measure =>
                simp only [World.iterPos, HI.out, HIT.out]
                omega
        · have hnx : ∀ ty, (Instr.next (.pointer (some ⟨w.heap.size, 0, none⟩)) true ty).run Tryd.prog wr = _ := fun ty => Lib.run_next_any_at wr w.heap.size s pos ty hit hp
          have hdh := (decode_high s pos hp (by rw [hc]; omega)).1
          have hd1 := decode_le s pos
          have hbw2 := Lib.below_iterAt hbw (k := w.heap.size) (by omega) s (pos + (Utf8.decode s pos).2)
          obtain ⟨r, hr⟩ : ∃ r : Nat, (Utf8.decode s pos).1 = r := ⟨_, rfl⟩
          obtain ⟨k, hk⟩ : ∃ k : Nat, (Utf8.decode s pos).2 = k := ⟨_, rfl⟩
          rw [hr] at hdh
          rw [hk] at hbw2
          rw [hr, hk] at hnx
          have hr31 : r ≤ 2147483647 := by omega
          rw [hc] at hdb
          obtain ⟨h1, h2, h3⟩ := hh.out
          rw [hdb] at h3
          have HN : Hid (pmV s = .tuple #[.int .u64 0, .int .i64 40]) := Lib.hid (pmV_none HS.out (by
            rw [h3]
            by_cases hm : pos % 3 = 2
            · exact pmF_bad hm (fun e => by rw [e] at hasc; exact hasc (by decide))
            · exact pmF_none hm (xdv_high hasc)))
          have HV := Lib.hid (fun W => value_no (r : Int) (by omega) (by omega) (rdv_high (by omega)) W)
          have HB := Lib.hid hbw2
          have hr58 : ¬ (r : Int) = 58 := by omega
          clear hh h1 h2 h3 hdb hbw2 hc hit hbw hr hk hd1
          by_cases hm1 : (pos : Int) % 3 = 2
          · go_wp2
            go_ret2
            exact ⟨by rw [HN.out]; rfl, HB.out⟩
          · go_wp2_with fail
            refine Calls.mono (HV.out _) ?_
            rintro e w1 ⟨rfl, rfl⟩
            go_wp2
            go_ret2
            exact ⟨by rw [HN.out]; rfl, HB.out⟩
      · have hnx : ∀ ty, (Instr.next (.pointer (some ⟨w.heap.size, 0, none⟩)) true ty).run Tryd.prog wr = _ := fun ty => Lib.run_next_end_at wr w.heap.size s pos ty hit hp
        obtain ⟨h1, h2, h3⟩ := hh.out
        have HN : Hid (pmV s = .tuple #[.int .u64 (a : Int), .int .i64 0]) := Lib.hid (pmV_some HS.out (by
          rw [h3, List.drop_eq_nil_of_le (by rw [Array.length_toList]; exact Nat.le_of_not_lt hp)]; rfl))
        clear hh h1 h2 h3
        go_wp2
        go_ret2
        exact ⟨by rw [HN.out]; rfl, hbw⟩
  · have HN : Hid (pmV s = .tuple #[.int .u64 0, .int .i64 40]) := Lib.hid (by unfold pmV; rw [if_neg hs])
    have hs1 : ¬ (s.size : Int) = 17 := by omega
    clear hs
    go_enter Tryd.func38, Tryd.ntmps38
    go_wp2
    go_ret2
    exact ⟨by rw [HN.out]; rfl, Below.refl _ _⟩
end Go.Proofs.YtnhlgonldffgoaaDoor
