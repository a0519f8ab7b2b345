/-
  Several texts in one: SCl, IpI, IpJ, IpO.
-/
import Derived.Test.YtabbclocgkhnhaaWords
import Derived.Lib.Hide
import Derived.Test.YtabbclocgkhnhaaShelfC
import Derived.Test.YtabbclocgkhnhaaMgA
import Derived.Laws.RangeAny
import Derived.Laws.RangeString
import Derived.Carry
import Derived.Test.YtabbclocgkhnhaaMgD
import Derived.Test.YtabbclocgkhnhaaEMac

namespace Go.Proofs.Ytabbclocgkhnhaa
open Go.RowKit
set_option linter.unusedVariables false

set_option maxHeartbeats 1000000 in
theorem sclone_any (s : ByteArray) (hs : s.size ≤ 281474976710656) (w : World) :
    Calls Try.prog 50 #[.string s] w fun e w' => e = .returned (.string s) ∧ Below w.heap.size w w' := by
  have H := Lib.hid (Try.stringslite_Clone s w hs)
  go_enter Try.func50, Try.ntmps50
  go_wp2_with fail
  refine Calls.mono H.out ?_
  rintro e w1 ⟨rfl, hb⟩
  go_wp2
  go_ret
  exact ⟨rfl, hb⟩
end Go.Proofs.Ytabbclocgkhnhaa

namespace Go.Proofs.Ytabbclocgkhnhaa
open Go.RowKit Go.Maps
set_option linter.unusedVariables false

set_option maxHeartbeats 1000000 in
theorem newP (w : World) : Calls Try.prog 9 #[] w fun e w' => ∃ p S, e = .returned (.pointer (some ⟨p, 0, none⟩)) ∧ IfP w' p S ([], []) ∧ Below w.heap.size w w' ∧ ∀ s ∈ S, w.heap.size ≤ s := by
  have hM := World.ownsMap_made (H := Unit) w Try.prog 9 (plainElem Try.prog 3)
  have hB := Blk.new (w.alloc (.map #[] 0)) 63 #[.slice none 0 0, .map (some w.heap.size)]
  rw [World.size_alloc] at hB
  have HI : Hid (IfP ((w.alloc (.map #[] 0)).alloc (.cells #[.slice none 0 0, .map (some w.heap.size)] 63)) (w.heap.size + 1) [w.heap.size + 1, w.heap.size] ([], [])) :=
    Lib.hid ⟨none, 0, w.heap.size, [], .map [], rfl, by simp, hB, ⟨rfl, .inl ⟨rfl, rfl⟩⟩, hM.alloc _, NmIs.nil, rfl, fun i l hl => by simp at hl, InvI.nil⟩
  have hmm := @run_makeMap Try.prog
  clear hM hB
  go_enter Try.func9, Try.ntmps9
  go_wp2
  go_ret
  exact ⟨_, _, rfl, HI.out, ((Below.refl _ w).alloc (Nat.le_refl _) _).alloc (by simp) _, by simp⟩
set_option maxHeartbeats 1000000 in
theorem letter_any (r : Int) (w : World) : Calls Try.prog 63 #[.int .i32 r] w fun e w' => e = .returned (.bool (decide (97 ≤ r ∧ r ≤ 122))) ∧ w = w' := by
  obtain ⟨L, hL⟩ : ∃ L, decide (97 ≤ r ∧ r ≤ 122) = L := ⟨_, rfl⟩
  rw [hL]
  by_cases h1 : 97 ≤ r
  · by_cases h2 : r ≤ 122
    · have HE : Hid (L = true) := Lib.hid (hL.symm.trans (decide_eq_true (And.intro h1 h2)))
      clear hL
      go_enter Try.func63, Try.ntmps63
      go_wp2
      go_ret
      exact ⟨by rw [HE.out]; rfl, rfl⟩
    · have HE : Hid (L = false) := Lib.hid (hL.symm.trans (decide_eq_false (fun x => h2 x.2)))
      clear hL
      go_enter Try.func63, Try.ntmps63
      go_wp2
      go_ret
      exact ⟨by rw [HE.out]; rfl, rfl⟩
  · have HE : Hid (L = false) := Lib.hid (hL.symm.trans (decide_eq_false (fun x => h1 x.1)))
    clear hL
    go_enter Try.func63, Try.ntmps63
    go_wp2
    go_ret
    exact ⟨by rw [HE.out]; rfl, rfl⟩
set_option maxHeartbeats 1000000 in
theorem digitI_any (r : Int) (w : World) : Calls Try.prog 64 #[.int .i32 r] w fun e w' => e = .returned (.bool (decide (48 ≤ r ∧ r ≤ 57))) ∧ w = w' := by
  obtain ⟨L, hL⟩ : ∃ L, decide (48 ≤ r ∧ r ≤ 57) = L := ⟨_, rfl⟩
  rw [hL]
  by_cases h1 : 48 ≤ r
  · by_cases h2 : r ≤ 57
    · have HE : Hid (L = true) := Lib.hid (hL.symm.trans (decide_eq_true (And.intro h1 h2)))
      clear hL
      go_enter Try.func64, Try.ntmps64
      go_wp2
      go_ret
      exact ⟨by rw [HE.out]; rfl, rfl⟩
    · have HE : Hid (L = false) := Lib.hid (hL.symm.trans (decide_eq_false (fun x => h2 x.2)))
      clear hL
      go_enter Try.func64, Try.ntmps64
      go_wp2
      go_ret
      exact ⟨by rw [HE.out]; rfl, rfl⟩
  · have HE : Hid (L = false) := Lib.hid (hL.symm.trans (decide_eq_false (fun x => h1 x.1)))
    clear hL
    go_enter Try.func64, Try.ntmps64
    go_wp2
    go_ret
    exact ⟨by rw [HE.out]; rfl, rfl⟩
/-- May a byte stand at a place of a name. -/
def okAt (i : Nat) (b : UInt8) : Bool := (decide (97 ≤ b.toNat ∧ b.toNat ≤ 122)) || (decide (i ≠ 0) && decide (48 ≤ b.toNat ∧ b.toNat ≤ 57))
theorem nameOk_def (s : ByteArray) : nameOk s = (decide (1 ≤ s.size ∧ s.size ≤ 8) && (s.data.toList.zipIdx.all fun x => okAt x.2 x.1)) := rfl
theorem zip_all {l : List UInt8} : (l.zipIdx.all fun x => okAt x.2 x.1) = true ↔ ∀ (j : Nat) (b : UInt8), l[j]? = some b → okAt j b = true := by
  rw [List.all_eq_true]
  constructor
  · intro h j b hb
    exact h (b, j) (List.mem_zipIdx_iff_getElem?.2 hb)
  · rintro h ⟨b, j⟩ hm
    exact h j b (List.mem_zipIdx_iff_getElem?.1 hm)
theorem name_yes {s : ByteArray} (h : 1 ≤ s.size ∧ s.size ≤ 8) (ha : ∀ (j : Nat) (b : UInt8), s.data.toList[j]? = some b → okAt j b = true) : nameOk s = true := by
  rw [nameOk_def, decide_eq_true h, zip_all.2 ha]; rfl
theorem name_size {s : ByteArray} (h : ¬ (1 ≤ s.size ∧ s.size ≤ 8)) : nameOk s = false := by
  rw [nameOk_def, decide_eq_false h]; rfl
theorem name_no {s : ByteArray} {j : Nat} {b : UInt8} (hb : s.data.toList[j]? = some b) (h : okAt j b = false) : nameOk s = false := by
  rw [nameOk_def]
  have : (s.data.toList.zipIdx.all fun x => okAt x.2 x.1) = false := by
    rw [Bool.eq_false_iff]
    intro e
    rw [zip_all.1 e j b hb] at h
    cases h
  rw [this, Bool.and_false]
/-- What is asked of the rune at a place that begins there. -/
theorem rune_at (s : ByteArray) (pos : Nat) (hp : pos < s.size) : ∃ (r : Int) (d : Nat) (b : UInt8), Utf8.decode s pos = (r.toNat, d) ∧ 0 ≤ r ∧ r ≤ 2147483647 ∧ s.data.toList[pos]? = some b ∧ okAt pos b = (decide (97 ≤ r ∧ r ≤ 122) || (decide (pos ≠ 0) && decide (48 ≤ r ∧ r ≤ 57))) ∧ (okAt pos b = true → d = 1) := by
  have hle := decode_le s pos
  have hb : s.data.toList[pos]? = some (s[pos]'hp) := by
    rw [Array.getElem?_toList]
    exact Array.getElem?_eq_getElem (xs := s.data) hp
  by_cases ha : (s[pos]'hp).toNat < 128
  · have hd := decode_ascii s pos hp ha
    rw [hd] at hle
    refine ⟨((s[pos]'hp).toNat : Int), 1, _, by rw [hd]; rfl, by omega, by omega, hb, ?_, fun _ => rfl⟩
    unfold okAt
    obtain ⟨x, hx⟩ : ∃ x : Nat, (s[pos]'hp).toNat = x := ⟨_, rfl⟩
    rw [hx]
    have e1 : (97 ≤ x ∧ x ≤ 122) ↔ (97 ≤ (x : Int) ∧ (x : Int) ≤ 122) := by omega
    have e2 : (48 ≤ x ∧ x ≤ 57) ↔ (48 ≤ (x : Int) ∧ (x : Int) ≤ 57) := by omega
    rw [decide_eq_decide.2 e1, decide_eq_decide.2 e2]
  · obtain ⟨h1, h2⟩ := decode_high s pos hp (by omega)
    have hno : okAt pos (s[pos]'hp) = false := by
      unfold okAt
      rw [decide_eq_false (fun x => by omega), decide_eq_false (p := 48 ≤ (s[pos]'hp).toNat ∧ (s[pos]'hp).toNat ≤ 57) (fun x => by omega)]
      simp
    refine ⟨((Utf8.decode s pos).1 : Int), (Utf8.decode s pos).2, _, by simp, by omega, by omega, hb, ?_, fun h => by rw [hno] at h; cases h⟩
    rw [hno, decide_eq_false (fun x => by omega), decide_eq_false (p := 48 ≤ ((Utf8.decode s pos).1 : Int) ∧ ((Utf8.decode s pos).1 : Int) ≤ 57) (fun x => by omega)]
    simp
set_option maxRecDepth 1000000 in
set_option maxHeartbeats 4000000 in
theorem isName_any (s : ByteArray) (w : World) : Calls Try.prog 48 #[.string s] w fun e w' => e = .returned (.bool (nameOk s)) ∧ Tch w w' [] := by
  have HLt := Lib.hid (fun r W => letter_any r W)
  have HDg := Lib.hid (fun r W => digitI_any r W)
  by_cases h0 : s.size = 0
  · have hs : s = ⟨#[]⟩ := by
      apply ByteArray.ext
      exact Array.eq_empty_of_size_eq_zero h0
    subst hs
    have HE : Hid (nameOk ⟨#[]⟩ = false) := Lib.hid (name_size (by simp [ByteArray.size]))
    clear h0
    go_enter Try.func48, Try.ntmps48
    go_wp2
    go_ret
    exact ⟨by rw [HE.out]; rfl, Tch.refl _ _⟩
  · have b0 : (s.toList == []) = false := by
      have : s.toList ≠ [] := fun e => h0 (by rw [ByteArray.toList_eq] at e; have := congrArg List.length e; rw [Array.length_toList] at this; exact this)
      simpa using this
    by_cases h8 : (8 : Int) < (s.size : Int)
    · have HE : Hid (nameOk s = false) := Lib.hid (name_size (by omega))
      clear h0
      go_enter Try.func48, Try.ntmps48
      go_wp2
      go_ret
      exact ⟨by rw [HE.out]; rfl, Tch.refl _ _⟩
    · have HSz : Hid (1 ≤ s.size ∧ s.size ≤ 8) := Lib.hid (by omega)
      clear h0
      go_enter Try.func48, Try.ntmps48
      go_wp2
      clear b0 h8
      go_loopw [3] (fun _ wr => ∃ pos : Nat, wr = w.iter s pos ∧ pos ≤ s.size ∧ Hid (∀ (j : Nat) (b : UInt8), j < pos → s.data.toList[j]? = some b → okAt j b = true)) (fun _ wr => s.size - wr.iterPos w.heap.size)
      case atStart => exact ⟨0, rfl, Nat.zero_le _, Lib.hid (fun j b hj => absurd hj (by omega))⟩
      case round =>
        obtain ⟨pos, rfl, hps, hA⟩ := hrel
        have HTi : Hid (Tch w (w.iter s pos) []) := Lib.hid ((Tch.refl w []).alloc _)
        by_cases hp : pos < s.size
        · obtain ⟨r, d, b, hd, r0, r1, hb, ho, hd1⟩ := rune_at s pos hp
          have hnx : ∀ ty, (Instr.next (.pointer (some ⟨w.heap.size, 0, none⟩)) true ty).run Try.prog (w.iter s pos) = .ok (.tuple #[.bool true, .int .i64 (pos : Int), .int .i32 r]) (w.iter s (pos + d)) := fun ty => by
            rw [run_next_any w s pos ty hp, hd]
            show Result.ok (Value.tuple #[.bool true, .int .i64 (pos : Int), .int .i32 ((r.toNat : Nat) : Int)]) _ = _
            rw [Int.toNat_of_nonneg r0]
          have HTd : Hid (Tch w (w.iter s (pos + d)) []) := Lib.hid ((Tch.refl w []).alloc _)
          have Hb := Lib.hid hb
          have HL := Lib.hid (HLt.out r (w.iter s (pos + d)))
          have HD := Lib.hid (HDg.out r (w.iter s (pos + d)))
          obtain ⟨L, hL⟩ : ∃ L, decide (97 ≤ r ∧ r ≤ 122) = L := ⟨_, rfl⟩
          obtain ⟨G, hG⟩ : ∃ G, decide (48 ≤ r ∧ r ≤ 57) = G := ⟨_, rfl⟩
          rw [hL] at HL ho
          rw [hG] at HD ho
          have HO := Lib.hid ho
          have HD1 := Lib.hid hd1
          clear hd hb ho hd1 hL hG r0 r1
          have HGo : Hid (okAt pos b = true → ∀ (j : Nat) (c : UInt8), j < pos + 1 → s.data.toList[j]? = some c → okAt j c = true) := Lib.hid (fun hk j c hj hc => by
            rcases Nat.lt_or_ge j pos with h1 | h1
            · exact hA.out j c h1 hc
            · obtain rfl : j = pos := by omega
              rw [Hb.out] at hc
              injection hc with hc
              subst hc
              exact hk)
          cases L with
          | true =>
            have hk : okAt pos b = true := by rw [HO.out]; rfl
            have e1 := HD1.out hk
            subst e1
            have HG2 := Lib.hid (HGo.out hk)
            clear hk
            go_wp2_with (go_at_call 63; (with_reducible refine Calls.mono HL.out ?_); rintro e w' ⟨rfl, rfl⟩)
            go_roundw
            case rel => exact ⟨pos + 1, rfl, hp, HG2⟩
            case measure => simp; omega
          | false =>
            by_cases hz : pos = 0
            · have bz : ((pos : Int) == 0) = true := by simpa using hz
              have hzz : decide (pos ≠ 0) = false := decide_eq_false (fun x => x hz)
              rw [hzz] at HO
              have hk : okAt pos b = false := by rw [HO.out]; rfl
              clear hzz hz
              have HE : Hid (nameOk s = false) := Lib.hid (name_no Hb.out hk)
              clear hk
              go_wp2_with (go_at_call 63; (with_reducible refine Calls.mono HL.out ?_); rintro e w' ⟨rfl, rfl⟩)
              go_ret
              exact ⟨by rw [HE.out]; rfl, HTd.out⟩
            · have bz : ((pos : Int) == 0) = false := by simpa using hz
              have hzz : decide (pos ≠ 0) = true := decide_eq_true hz
              rw [hzz] at HO
              clear hzz
              cases G with
              | true =>
                have hk : okAt pos b = true := by rw [HO.out]; rfl
                have e1 := HD1.out hk
                subst e1
                have HG2 := Lib.hid (HGo.out hk)
                clear hk
                go_wp2_with (first | (go_at_call 63; (with_reducible refine Calls.mono HL.out ?_); rintro e w' ⟨rfl, rfl⟩) | (go_at_call 64; (with_reducible refine Calls.mono HD.out ?_); rintro e w' ⟨rfl, rfl⟩))
                go_roundw
                case rel => exact ⟨pos + 1, rfl, hp, HG2⟩
                case measure => simp; omega
              | false =>
                have hk : okAt pos b = false := by rw [HO.out]; rfl
                have HE : Hid (nameOk s = false) := Lib.hid (name_no Hb.out hk)
                clear hk
                go_wp2_with (first | (go_at_call 63; (with_reducible refine Calls.mono HL.out ?_); rintro e w' ⟨rfl, rfl⟩) | (go_at_call 64; (with_reducible refine Calls.mono HD.out ?_); rintro e w' ⟨rfl, rfl⟩))
                go_ret
                exact ⟨by rw [HE.out]; rfl, HTd.out⟩
        · obtain rfl : pos = s.size := by omega
          have hnx : ∀ ty, (Instr.next (.pointer (some ⟨w.heap.size, 0, none⟩)) true ty).run Try.prog (w.iter s s.size) = _ := fun ty => run_next_end w s s.size ty hp
          have HE : Hid (nameOk s = true) := Lib.hid (name_yes HSz.out (fun j b hb => hA.out j b (by have := (List.getElem?_eq_some_iff.1 hb).1; rw [Array.length_toList] at this; exact this) hb))
          clear hp hps
          go_wp2
          go_ret
          exact ⟨by rw [HE.out]; rfl, HTi.out⟩
end Go.Proofs.Ytabbclocgkhnhaa

namespace Go.Proofs.Ytabbclocgkhnhaa
open Go.RowKit Go.Maps
set_option linter.unusedVariables false

theorem and_bit (x : Nat) : x &&& 1099511627776 = x / 1099511627776 % 2 * 1099511627776 := by
  rw [show (1099511627776 : Nat) = 2 ^ 40 by decide]
  apply Nat.eq_of_testBit_eq
  intro j
  rw [Nat.testBit_and, Nat.testBit_two_pow]
  rcases Nat.mod_two_eq_zero_or_one (x / 2 ^ 40) with h | h
  · rw [h, Nat.zero_mul, Nat.zero_testBit]
    by_cases e : 40 = j
    · subst e; rw [Nat.testBit_eq_decide_div_mod_eq, h]; rfl
    · simp [e]
  · rw [h, Nat.one_mul, Nat.testBit_two_pow]
    by_cases e : 40 = j
    · subst e; rw [Nat.testBit_eq_decide_div_mod_eq, h]; rfl
    · simp [e]
theorem and_forty (x : Nat) (hx : x < 18446744073709551616) : bits .and .u64 (x : Int) 1099511627776 = ((x / 1099511627776 % 2 * 1099511627776 : Nat) : Int) := by
  have h := u64_and_nat x 1099511627776 hx (by omega)
  rw [show ((1099511627776 : Nat) : Int) = 1099511627776 from rfl] at h
  rw [h]
  rw [and_bit]
set_option maxHeartbeats 1000000 in
theorem macI_any (m : Int) (hm : 0 ≤ m ∧ m ≤ 18446744073709551615) (w : World) : Calls Try.prog 49 #[.int .u64 m] w fun e w' => e = .returned (.bool (macOk m)) ∧ w = w' := by
  obtain ⟨R, hR⟩ : ∃ R, macOk m = R := ⟨_, rfl⟩
  rw [hR]
  unfold macOk at hR
  by_cases h0 : m = 0
  · have HE : Hid (R = false) := Lib.hid (by rw [← hR]; exact decide_eq_false (fun x => x.1 h0))
    have b0 : (m != 0) = false := by simpa using h0
    clear hR hm h0
    go_enter Try.func49, Try.ntmps49
    go_wp2
    go_ret
    exact ⟨by rw [HE.out]; rfl, rfl⟩
  · have b0 : (m != 0) = true := by simpa using h0
    by_cases h1 : m < 281474976710656
    · obtain ⟨x, rfl⟩ : ∃ x : Nat, m = (x : Int) := ⟨m.toNat, by omega⟩
      have ha := and_forty x (by omega)
      obtain ⟨q, hq⟩ : ∃ q : Int, ((x / 1099511627776 % 2 * 1099511627776 : Nat) : Int) = q := ⟨_, rfl⟩
      rw [hq] at ha
      have HE : Hid (R = (q == 0)) := Lib.hid (by
        rw [← hR]
        by_cases h3 : x / 1099511627776 % 2 = 1
        · have : (q == 0) = false := by simp; omega
          rw [this]
          exact decide_eq_false (fun z => z.2.2 (by omega))
        · have : (q == 0) = true := by simp; omega
          rw [this]
          exact decide_eq_true ⟨h0, h1, by omega⟩)
      obtain ⟨X, hX⟩ : ∃ X : Int, (x : Int) = X := ⟨_, rfl⟩
      rw [hX] at b0 h1 ha ⊢
      clear hR hm h0 hq hX
      go_enter Try.func49, Try.ntmps49
      go_wp2
      go_ret
      exact ⟨by rw [HE.out]; rfl, rfl⟩
    · have HE : Hid (R = false) := Lib.hid (by rw [← hR]; exact decide_eq_false (fun x => h1 x.2.1))
      clear hR hm h0
      go_enter Try.func49, Try.ntmps49
      go_wp2
      go_ret
      exact ⟨by rw [HE.out]; rfl, rfl⟩
theorem wpo_mup {o : Oper} {a : Act} {w : World} {K : Act → World → Prop} {Q : Exit → Act → World → Prop} (m x v : Operand) (t : TypeId) (hop : o.op = Op.mapUpdate t m x v)
    (k e : TypeId) (Kd : Keyed Try.prog k) (ht : Try.prog.underlying t = some (.map k e)) (R : Value → Option (DataW Unit × List MemPlace)) (b n : Nat) (D : DataW Unit)
    (hm : a.eval m = .map (some b)) (hown : w.ownsMap Try.prog k R b n D) (hn : n < maxLen) (key val : Value) (kl : Lit) (hx : a.eval x = key) (hv : a.eval v = val) (hkey : keyOf Try.prog k key = some kl)
    (d : DataW Unit) (ps : List MemPlace) (hval : R val = some (d, ps))
    (hK : ∀ w', w'.ownsMap Try.prog k R b (n + 1) (D.put kl d) → w.grownBy w' (some b) → K (a.put o.dst undef) w') : o.wp Try.prog a w K Q := by
  obtain ⟨w', hrun, r1, r2⟩ := hown.update Kd ht hn hkey hval
  unfold Oper.wp
  simp [execOp, hop, hm, hx, hv, hrun, Result.andThen]
  exact hK w' r1 r2
/-- A port more. -/
theorem IfP.grow {w W w3 : World} {p : Nat} {S : List Nat} {st : StI} (h : IfP w p S st) {AM : Option Addr} {cM n : Nat} (hc0 : w.cell? ⟨p, 0, none⟩ = some (.slice AM n cM)) (q : Prt) (hT : Tch w W []) {v1 : Value} {xs : List Value}
    (hxs : ∀ lv : List Value, w.ownsRow 0 74 5 (.slice AM n cM) n (mmC st.1 lv) → xs = mmC st.1 lv ++ (prC q ++ [.slice none 0 0]))
    (hown : w3.ownsRow 0 74 5 v1 (n + 1) xs) (hg : W.grownBy w3 (Value.slice AM n cM).ownBlock) (hv : v1.ownBlock = (Value.slice AM n cM).ownBlock ∨ v1.ownBlock = some W.heap.size) (hinv : InvI (st.1 ++ [q], st.2 ++ [[]])) :
    ∃ (m : Nat) (D : DataW Unit) (A1 : Option Addr) (c1 : Nat), v1 = .slice A1 (n + 1) c1 ∧ (∃ u, w3.cell? ⟨p, 0, none⟩ = some u) ∧ w3.frozen? ⟨p, 0, none⟩ = false ∧ (w3.setCell ⟨p, 0, none⟩ v1).cell? ⟨p, 0, none⟩ = some v1 ∧ (w3.setCell ⟨p, 0, none⟩ v1).cell? ⟨p, 1, none⟩ = some (.map (some m)) ∧ p ≠ m ∧
      (w3.setCell ⟨p, 0, none⟩ v1).ownsMap Try.prog 9 (plainElem Try.prog 3) m n D ∧ NmIs D st.1 ∧ n ≤ 8 ∧
      ∀ (w5 : World) (D' : DataW Unit), (w3.setCell ⟨p, 0, none⟩ v1).grownBy w5 (some m) → w5.ownsMap Try.prog 9 (plainElem Try.prog 3) m (n + 1) D' → NmIs D' (st.1 ++ [q]) → ∃ S', IfP w5 p S' (st.1 ++ [q], st.2 ++ [[]]) ∧ Goes w w5 S S' := by
  have hlt := h.lt
  have hf := h.few
  obtain ⟨AM', cM', m, lv, D, rfl, h2, h3, h4, h5, h6, h7, h8, h9⟩ := h
  rw [(h3.cell 0).trans (show _ = some (Value.slice AM' st.1.length cM') by rfl)] at hc0
  injection hc0 with hc
  injection hc with hc hcn hcc
  subst hc hcc hcn
  obtain rfl := hxs lv h4
  obtain ⟨A1, c1, rfl, -, -⟩ := own_sl hown
  have hnd := h2
  rw [List.nodup_cons, List.nodup_cons, List.nodup_append] at hnd
  obtain ⟨n1, n2, n3, n4, n5⟩ := hnd
  have hin : ∀ s, s ∈ obI (.slice AM' st.1.length cM') → s ∈ p :: m :: (obI (.slice AM' st.1.length cM') ++ lv.flatMap obI) := fun s hs => by simp [hs]
  have hob : ∀ s ∈ obI (.slice A1 (st.1.length + 1) c1), s ∈ obI (.slice AM' st.1.length cM') ∨ w.heap.size ≤ s := fun s hs => by
    have h10 := hT.size
    rcases hv with hv | hv
    · exact .inl (by unfold obI at hs ⊢; rw [← hv]; exact hs)
    · unfold obI at hs
      rw [hv] at hs
      have := List.mem_singleton.1 hs
      exact .inr (by omega)
  have hT3 : Tch W w3 (obI (.slice AM' st.1.length cM')) := Tch.of_grown' hg (fun g e => by rw [obI_some e]; simp)
  have pn : p ∉ obI (.slice AM' st.1.length cM') := fun hm => n1 (List.mem_cons_of_mem _ (List.mem_append_left _ hm))
  have mn : m ∉ obI (.slice AM' st.1.length cM') := fun hm => n2 (List.mem_append_left _ hm)
  have pm : p ≠ m := fun x => n1 (by simp [x])
  have hpl : p < w.heap.size := hlt p (by simp)
  have hml : m < w.heap.size := hlt m (by simp)
  have b3 := hT3.blk (hT.blk h3 (by simp)) pn
  have hTp : Tch w3 (w3.setCell ⟨p, 0, none⟩ (.slice A1 (st.1.length + 1) c1)) [p] := (Tch.refl w3 [p]).set_ (p := ⟨p, 0, none⟩) (by simp) _
  have b4 := b3.set_ 0 (.slice A1 (st.1.length + 1) c1)
  have m4 := map_tch (map_tch (map_tch h5 hT (by simp)) hT3 mn) hTp (by simpa using fun x => pm x.symm)
  have r4 := own_tch hown hTp (fun s hs hm => by
    have := List.mem_singleton.1 hm
    rcases hob s hs with k | k
    · exact pn (by rw [← this]; exact k)
    · omega)
  refine ⟨m, D, A1, c1, rfl, ⟨_, b3.cell 0⟩, b3.frozen 0, (b4.cell 0).trans rfl, (b4.cell 1).trans rfl, pm, m4, h6, hf, fun w5 D' hg5 hM5 hN5 => ?_⟩
  have hT5 : Tch (w3.setCell ⟨p, 0, none⟩ (.slice A1 (st.1.length + 1) c1)) w5 [m] := Tch.of_grown hg5 (by simp)
  have hl1 : (st.1 ++ [q]).length = st.1.length + 1 := by simp
  have hfm : (lv ++ [Value.slice none 0 0]).flatMap obI = lv.flatMap obI := by simp [obI, Value.ownBlock]
  refine ⟨p :: m :: (obI (.slice A1 (st.1.length + 1) c1) ++ lv.flatMap obI), ⟨A1, c1, m, lv ++ [.slice none 0 0], D', by simp only [hl1, hfm], ?_, ?_, ?_, ?_, hN5, by simp [h7], fun j l hj => ?_, hinv⟩, ⟨?_, fun s hs => ?_⟩⟩
  · rw [List.nodup_cons, List.nodup_cons, List.nodup_append]
    refine ⟨fun hm => ?_, fun hm => ?_, obI_nodup _, n4, fun a ha b hb e => ?_⟩
    · rcases List.mem_cons.1 hm with k | k
      · exact pm k
      rcases List.mem_append.1 k with k | k
      · rcases hob p k with k | k
        · exact pn k
        · omega
      · exact n1 (List.mem_cons_of_mem _ (List.mem_append_right _ k))
    · rcases List.mem_append.1 hm with k | k
      · rcases hob m k with k | k
        · exact mn k
        · omega
      · exact n2 (List.mem_append_right _ k)
    · rcases hob a ha with k | k
      · exact n5 a k b hb e
      · have := hlt b (List.mem_cons_of_mem _ (List.mem_cons_of_mem _ (List.mem_append_right _ hb)))
        omega
  · simp only [hl1]
    exact hT5.blk b4 (by simpa using pm)
  · simp only [hl1]
    rw [mm_app h7]
    exact own_tch r4 hT5 (fun s hs hm => by
      have := List.mem_singleton.1 hm
      rcases hob s hs with k | k
      · exact mn (by rw [← this]; exact k)
      · omega)
  · simp only [hl1]; exact hM5
  · have hj : (st.2 ++ [[]])[j]? = some l := hj
    rcases Nat.lt_or_ge j st.2.length with hjl | hjl
    · rw [List.getElem?_append_left hjl] at hj
      obtain ⟨A2, c2, e2, ho2⟩ := h8 j l hj
      have hm2 : ∀ s ∈ obI (.slice A2 l.length c2), s ∈ lv.flatMap obI := fun s hs => List.mem_flatMap.2 ⟨_, List.mem_of_getElem? e2, hs⟩
      refine ⟨A2, c2, by rw [List.getElem?_append_left (List.getElem?_eq_some_iff.1 e2).1]; exact e2, own_tch (own_tch (own_tch (own_tch ho2 hT (fun s _ => by simp)) hT3 (fun s hs hm => n5 s hm s (hm2 s hs) rfl)) hTp (fun s hs hm => ?_)) hT5 (fun s hs hm => ?_)⟩
      · rw [List.mem_singleton.1 hm] at hs
        exact n1 (List.mem_cons_of_mem _ (List.mem_append_right _ (hm2 _ hs)))
      · rw [List.mem_singleton.1 hm] at hs
        exact n2 (List.mem_append_right _ (hm2 _ hs))
    · have hjl2 : j < (st.2 ++ [[]]).length := (List.getElem?_eq_some_iff.1 hj).1
      have hj2 : j = st.2.length := by simp at hjl2; omega
      subst hj2
      rw [List.getElem?_append_right (Nat.le_refl _), Nat.sub_self] at hj
      simp at hj
      subst hj
      refine ⟨none, 0, ?_, ⟨rfl, .inl ⟨rfl, rfl⟩⟩⟩
      have e3 : st.2.length = lv.length := by rw [h7]; exact h9.len.symm
      rw [e3, List.getElem?_append_right (Nat.le_refl _), Nat.sub_self]
      rfl
  · exact (((hT.mono (by simp)).trans (hT3.mono hin)).trans (hTp.mono (by simp))).trans (hT5.mono (by simp))
  · rcases List.mem_cons.1 hs with k | k
    · exact .inl (by rw [k]; simp)
    rcases List.mem_cons.1 k with k | k
    · exact .inl (by rw [k]; simp)
    rcases List.mem_append.1 k with k | k
    · rcases hob s k with k | k
      · exact .inl (hin s k)
      · exact .inr k
    · exact .inl (List.mem_cons_of_mem _ (List.mem_cons_of_mem _ (List.mem_append_right _ k)))
theorem i64w {x : Nat} (h : x ≤ 100) : (Lit.int .i64 (x : Int)).wf = true := by
  simp [Lit.wf, IntKind.min, IntKind.max, IntKind.bits, IntKind.signed]; omega
theorem memb_one (q : Prt) : ∀ u ∈ prC q ++ [Value.slice none 0 0], u.oneCell' = true := by
  intro u hu
  simp [prC] at hu
  rcases hu with rfl | rfl | rfl | rfl | rfl <;> rfl
set_option maxRecDepth 100000 in
set_option maxHeartbeats 4000000 in
theorem addP_bad (p : Nat) (S : List Nat) (st : StI) (nm : ByteArray) (mac mtu : Int) (hm : 0 ≤ mac ∧ mac ≤ 18446744073709551615) (hb : nameOk nm = false ∨ namedI st.1 nm ≠ 0 ∨ (macOk mac && mtuOk mtu) = false ∨ 8 ≤ st.1.length) (w : World) (h : IfP w p S st) :
    Calls Try.prog 24 #[.pointer (some ⟨p, 0, none⟩), .string nm, .int .u64 mac, .int .i64 mtu] w fun e w' => e = .returned (.tuple #[.int .i64 (addI st nm mac mtu).2.1, .int .i64 (addI st nm mac mtu).2.2]) ∧ (addI st nm mac mtu).1 = st ∧ Tch w w' [] := by
  have HNa := Lib.hid (isName_any nm w)
  obtain ⟨N0, hN0⟩ : ∃ b, nameOk nm = b := ⟨_, rfl⟩
  rw [hN0] at HNa hb
  cases N0 with
  | false =>
    have HE : Hid (addI st nm mac mtu = (st, 0, 130)) := Lib.hid (by unfold addI; rw [if_pos (.inl hN0)])
    clear h hm hb hN0
    go_enter Try.func24, Try.ntmps24
    go_wp2_with fail
    refine Calls.mono HNa.out ?_
    rintro e w1 ⟨rfl, hT⟩
    have HT := Lib.hid hT
    clear hT
    go_wp2
    go_ret2
    rw [HE.out]
    exact ⟨rfl, rfl, HT.out⟩
  | true =>
    have hs8 : nm.size ≤ 8 := ((nameOk_iff).1 hN0).1.2
    have HNd := Lib.hid (fun W (hT : Tch w W []) => pnamed_any p S st nm (by omega) W (h.tch hT (by simp)))
    obtain ⟨N1, hN1⟩ : ∃ k, namedI st.1 nm = k := ⟨_, rfl⟩
    rw [hN1] at HNd hb
    by_cases h1 : N1 = 0
    · subst h1
      have b1 : (((0 : Nat) : Int) != 0) = false := by rfl
      have HMc := Lib.hid (fun W => macI_any mac hm W)
      obtain ⟨AM, cM, m, D, c0, -, -, -, hpl⟩ := h.head
      obtain ⟨C, hC⟩ : ∃ b, macOk mac = b := ⟨_, rfl⟩
      rw [hC] at HMc hb
      have HC0 : Hid (∀ W, Tch w W [] → W.cell? ⟨p, 0, none⟩ = some (.slice AM st.1.length cM)) := Lib.hid (fun W hT => (hT.cell (p := ⟨p, 0, none⟩) hpl (by simp)).trans c0)
      by_cases h2 : (C && mtuOk mtu) = false
      · have HE : Hid (addI st nm mac mtu = (st, 0, 1)) := Lib.hid (by
          unfold addI
          rw [if_neg (fun x => by rcases x with x | x; (rw [hN0] at x; cases x); exact x hN1), if_pos (by rw [hC]; exact h2)])
        have hcs : C = false ∨ mtu < 68 ∨ 1500 < mtu := by
          cases C with
          | false => exact .inl rfl
          | true =>
            rw [Bool.true_and] at h2
            unfold mtuOk at h2
            have := of_decide_eq_false h2
            omega
        clear h hm hb hN0 hs8 hN1 hC h2 c0 hpl HC0
        go_enter Try.func24, Try.ntmps24
        go_wp2_with fail
        refine Calls.mono HNa.out ?_
        rintro e w1 ⟨rfl, hT⟩
        have HT := Lib.hid hT
        clear hT
        go_wp2_with fail
        refine Calls.mono (HNd.out _ HT.out) ?_
        rintro e w2 ⟨rfl, rfl⟩
        go_wp2_with fail
        refine Calls.mono (HMc.out _) ?_
        rintro e w2 ⟨rfl, rfl⟩
        cases C with
        | false =>
          clear hcs
          go_wp2
          go_ret2
          rw [HE.out]
          exact ⟨rfl, rfl, HT.out⟩
        | true =>
          have hcs : mtu < 68 ∨ 1500 < mtu := by rcases hcs with h | h; cases h; exact h
          by_cases h3 : mtu < 68
          · clear hcs
            go_wp2
            go_ret2
            rw [HE.out]
            exact ⟨rfl, rfl, HT.out⟩
          · have h4 : 1500 < mtu := by rcases hcs with h | h; exact absurd h h3; exact h
            clear hcs
            go_wp2
            go_ret2
            rw [HE.out]
            exact ⟨rfl, rfl, HT.out⟩
      · have h8 : 8 ≤ st.1.length := by
          rcases hb with h | h | h | h
          · cases h
          · exact absurd rfl h
          · exact absurd h h2
          · exact h
        have hn8 := h.few
        have HE : Hid (addI st nm mac mtu = (st, 0, 131)) := Lib.hid (by
          unfold addI
          rw [if_neg (fun x => by rcases x with x | x; (rw [hN0] at x; cases x); exact x hN1), if_neg (by rw [hC]; exact h2), if_pos h8])
        have hC1 : C = true ∧ ¬ mtu < 68 ∧ ¬ 1500 < mtu := by
          cases C with
          | false => exact absurd rfl h2
          | true =>
            rw [Bool.true_and, Bool.not_eq_false] at h2
            unfold mtuOk at h2
            have := of_decide_eq_true h2
            exact ⟨rfl, by omega, by omega⟩
        obtain ⟨rfl, m1, m2⟩ := hC1
        obtain ⟨n, hn⟩ : ∃ n, st.1.length = n := ⟨_, rfl⟩
        rw [hn] at HC0 h8 hn8
        have b8 : ((n : Int) == 8) = true := by have : n = 8 := by omega
                                                subst this; rfl
        clear h hm hb hN0 hs8 hN1 hC h2 c0 hpl h8 hn8 hn
        go_enter Try.func24, Try.ntmps24
        go_wp2_with fail
        refine Calls.mono HNa.out ?_
        rintro e w1 ⟨rfl, hT⟩
        have HT := Lib.hid hT
        have c1 := HC0.out w1 hT
        clear hT
        go_wp2_with fail
        refine Calls.mono (HNd.out _ HT.out) ?_
        rintro e w2 ⟨rfl, rfl⟩
        go_wp2_with fail
        refine Calls.mono (HMc.out _) ?_
        rintro e w2 ⟨rfl, rfl⟩
        go_wp2
        go_ret2
        rw [HE.out]
        exact ⟨rfl, rfl, HT.out⟩
    · have HE : Hid (addI st nm mac mtu = (st, 0, 130)) := Lib.hid (by unfold addI; rw [if_pos (.inr (by rw [hN1]; exact h1))])
      have b1 : ((N1 : Int) != 0) = true := by simpa using h1
      clear h hm hb hN0 hs8 hN1 h1
      go_enter Try.func24, Try.ntmps24
      go_wp2_with fail
      refine Calls.mono HNa.out ?_
      rintro e w1 ⟨rfl, hT⟩
      have HT := Lib.hid hT
      clear hT
      go_wp2_with fail
      refine Calls.mono (HNd.out _ HT.out) ?_
      rintro e w2 ⟨rfl, rfl⟩
      go_wp2
      go_ret2
      rw [HE.out]
      exact ⟨rfl, rfl, HT.out⟩
end Go.Proofs.Ytabbclocgkhnhaa

namespace Go.Proofs.Ytabbclocgkhnhaa
open Go.RowKit Go.Maps
set_option linter.unusedVariables false

theorem own_uniq {w : World} {base e size n : Nat} {v : Value} {xs ys : List Value} (h : w.ownsRow base e size v n xs) (k : w.ownsRow base e size v n ys) : xs = ys := by
  rcases h.2 with ⟨rfl, h0⟩ | ⟨g, cap, cur, rfl, h1, h2, h3, h4, h5, h6⟩
  · have e1 := h.1
    have e2 := k.1
    rw [h0, Nat.zero_mul] at e1 e2
    rw [List.eq_nil_of_length_eq_zero e1, List.eq_nil_of_length_eq_zero e2]
  · rcases k.2 with ⟨e, -⟩ | ⟨g', cap', cur', e, k1, k2, k3, k4, k5, k6⟩
    · cases e
    · injection e with e1 e2 e3
      injection e1 with e1
      injection e1 with e1
      subst e1
      rw [h2] at k2
      injection k2 with k2
      injection k2 with k2
      subst k2
      rw [← h6, ← k6]
theorem IfP.mrow {w : World} {p : Nat} {S : List Nat} {st : StI} (h : IfP w p S st) : ∃ (AM : Option Addr) (cM : Nat) (lv : List Value), w.cell? ⟨p, 0, none⟩ = some (.slice AM st.1.length cM) ∧ w.ownsRow 0 74 5 (.slice AM st.1.length cM) st.1.length (mmC st.1 lv) := by
  obtain ⟨AM, cM, m, lv, D, rfl, h2, h3, h4, -⟩ := h
  exact ⟨AM, cM, lv, (h3.cell 0).trans rfl, h4⟩
set_option maxRecDepth 100000 in
set_option maxHeartbeats 4000000 in
theorem addP_ok (p : Nat) (S : List Nat) (st : StI) (nm : ByteArray) (mac mtu : Int) (hm : 0 ≤ mac ∧ mac ≤ 18446744073709551615) (hb : nameOk nm = true ∧ namedI st.1 nm = 0 ∧ (macOk mac && mtuOk mtu) = true ∧ st.1.length < 8) (w : World) (h : IfP w p S st) :
    Calls Try.prog 24 #[.pointer (some ⟨p, 0, none⟩), .string nm, .int .u64 mac, .int .i64 mtu] w fun e w' => e = .returned (.tuple #[.int .i64 (addI st nm mac mtu).2.1, .int .i64 (addI st nm mac mtu).2.2]) ∧ ∃ S', IfP w' p S' (addI st nm mac mtu).1 ∧ Goes w w' S S' := by
  obtain ⟨hN0, hN1, hmm, hlt8⟩ := hb
  have hinv := h.inv.add nm mac mtu
  have hAdd : addI st nm mac mtu = ((st.1 ++ [(nm, mac, mtu, false)], st.2 ++ [[]]), ((st.1.length + 1 : Nat) : Int), 0) := by
    unfold addI
    rw [if_neg (by rw [hN0, hN1]; simp), if_neg (by rw [hmm]; simp), if_neg (by omega)]
  rw [hAdd] at hinv
  have hs8 : nm.size ≤ 8 := ((nameOk_iff).1 hN0).1.2
  have HNa := Lib.hid (isName_any nm w)
  rw [hN0] at HNa
  have HNd := Lib.hid (fun W (hT : Tch w W []) => pnamed_any p S st nm (by omega) W (h.tch hT (by simp)))
  rw [hN1] at HNd
  have HMc := Lib.hid (fun W => macI_any mac hm W)
  have hC1 : macOk mac = true ∧ ¬ mtu < 68 ∧ ¬ 1500 < mtu := by
    rw [Bool.and_eq_true] at hmm
    have h9 := hmm.2
    unfold mtuOk at h9
    have := of_decide_eq_true h9
    exact ⟨hmm.1, by omega, by omega⟩
  rw [hC1.1] at HMc
  obtain ⟨-, m1, m2⟩ := hC1
  have HSc := Lib.hid (fun W => sclone_any nm (by omega) W)
  obtain ⟨AM, cM, lv, c0, hrow⟩ := h.mrow
  have HKey := Lib.hid (WideMaps.keyOf_string_mk Try.underlying9 (s := nm) (by unfold maxLen; omega))
  have HAd : Hid (∀ k : Nat, st.1.length + 1 = k → addI st nm mac mtu = ((st.1 ++ [(nm, mac, mtu, false)], st.2 ++ [[]]), (k : Int), 0)) := Lib.hid (fun k hk => by rw [hAdd, hk])
  have hpl : p < w.heap.size := h.lt p h.pin
  obtain ⟨n, hn⟩ : ∃ n, st.1.length = n := ⟨_, rfl⟩
  rw [hn] at c0 hrow hlt8
  have HN := Lib.hid hn
  have HP := Lib.hid h
  have HC0 : Hid (∀ W, Tch w W [] → W.cell? ⟨p, 0, none⟩ = some (.slice AM n cM)) := Lib.hid (fun W hT => (hT.cell (p := ⟨p, 0, none⟩) hpl (by simp)).trans c0)
  have HC := Lib.hid c0
  have HRow : Hid (∀ W, Tch w W [] → W.ownsRow 0 74 5 (.slice AM n cM) n (mmC st.1 lv)) := Lib.hid (fun W hT => own_tch hrow hT (by simp))
  have HXs : Hid (∀ lv' : List Value, w.ownsRow 0 74 5 (.slice AM n cM) n (mmC st.1 lv') → mmC st.1 lv ++ [.string nm, .int .u64 mac, .int .i64 mtu, .bool false, .slice none 0 0] = mmC st.1 lv' ++ (prC (nm, mac, mtu, false) ++ [.slice none 0 0])) := Lib.hid (fun lv' h' => by rw [own_uniq hrow h']; rfl)
  have HInv := Lib.hid hinv
  have HMX : Hid (n < maxLen ∧ n ≤ 1000000 ∧ n + 1 ≤ 100) := Lib.hid ⟨by unfold maxLen; omega, by omega, by omega⟩
  have HN1 := Lib.hid hN1
  have b8 : ((n : Int) == 8) = false := by simp; omega
  have b1 : (((0 : Nat) : Int) != 0) = false := by rfl
  clear h hinv hN0 hN1 hmm hs8 hm hAdd hpl hn c0 hrow hlt8
  go_enter Try.func24, Try.ntmps24
  go_wp2_with fail
  refine Calls.mono HNa.out ?_
  rintro e w1 ⟨rfl, hT⟩
  have HT := Lib.hid hT
  have c1 := HC0.out w1 hT
  clear hT
  go_wp2_with fail
  refine Calls.mono (HNd.out _ HT.out) ?_
  rintro e w2 ⟨rfl, rfl⟩
  go_wp2_with fail
  refine Calls.mono (HMc.out _) ?_
  rintro e w2 ⟨rfl, rfl⟩
  go_wp2_with fail
  refine Calls.mono (HSc.out _) ?_
  rintro e w2 ⟨rfl, hb2⟩
  have HT2 := Lib.hid (HT.out.trans (Tch.of_below [] hb2))
  have c2 := HC0.out w2 HT2.out
  have HR2 := Lib.hid ((HRow.out w2 HT2.out).alloc (.cells #[.string nm, .int .u64 mac, .int .i64 mtu, .bool false, .slice none 0 0] 74))
  have HTW := Lib.hid (HT2.out.alloc (.cells #[.string nm, .int .u64 mac, .int .i64 mtu, .bool false, .slice none 0 0] 74))
  have HSr := Lib.hid (src_new w2 74 [.string nm, .int .u64 mac, .int .i64 mtu, .bool false, .slice none 0 0])
  clear hb2 c1
  go_wp2_with (at_builtin; (refine wpList_apc 61 74 (.agg #[.string ⟨#[]⟩, .int .u64 0, .int .i64 0, .bool false, .slice none 0 0]) 5 64 Try.underlying61 infoMm rfl (by decide) (by decide) _ rfl (.tmp 45) (.tmp 51) rfl 0 (.slice AM n cM) n (mmC st.1 lv) rfl HR2.out ⟨w2.heap.size, 0, none⟩ 1 [.string nm, .int .u64 mac, .int .i64 mtu, .bool false, .slice none 0 0] rfl rfl (fun j u hj => HSr.out j u hj) (by simp [Value.oneCell']) HMX.out.2.1 (Nat.zero_le _) ?_; intro v1 w3 hown hg hv; obtain ⟨m, D, A1, c1, rfl, ⟨u, hu⟩, f3, d0, d1, pm, hM, hNm, hn8, hclose⟩ := IfP.grow HP.out HC.out (nm, mac, mtu, false) HTW.out HXs.out hown hg hv HInv.out; have HM := Lib.hid hM; have HNm := Lib.hid hNm; have HCl := Lib.hid hclose; have HD := Lib.hid (And.intro d1 d0); have HPm := Lib.hid pm; clear hM hNm hclose hown hg hv pm hn8 c2))
  refine wp_region_held_drew (S := (fun W => W.cell? ⟨p, 1, none⟩ = some (Value.map (some m)) ∧ W.cell? ⟨p, 0, none⟩ = some (Value.slice A1 (n + 1) c1))) (by kernel_rfl) ?_ (fun hHeld => ?_)
  · (exact HD.out)
  refine wpAnyH_take (i := 0) (oi := { dst := some 55, op := Go.Op.move (Go.Operand.tmp 0), type := 24, pos := "iface.go:53", after := #[], guard := none }) (v := ?_) rfl (by kernel_rfl) (by kernel_rfl) (by kernel_rfl) (fun _ _ _ h => h) (Or.inl ⟨by rfl, ?_⟩) (by assumption) ?_
  rotate_left
  · intro w hSw
    (try dsimp only at hSw)
    go_simp
    try (with_reducible rfl)
  try simp only [Act.put, List.setIfInBounds_toArray, List.set_cons_zero, List.set_cons_succ]
  refine wpAnyH_take (i := 1) (oi := { dst := some 56, op := Go.Op.nilCheck (Go.Operand.tmp 55), type := 0, pos := "iface.go:53", after := #[{ on := 0, ground := Go.Ground.data }], guard := none }) (v := ?_) rfl (by kernel_rfl) (by kernel_rfl) (by kernel_rfl) (fun _ _ _ h => h) (Or.inl ⟨by rfl, ?_⟩) (by assumption) ?_
  rotate_left
  · intro w hSw
    (try dsimp only at hSw)
    go_simp
    try (with_reducible rfl)
  try simp only [Act.put, List.setIfInBounds_toArray, List.set_cons_zero, List.set_cons_succ]
  refine wpAnyH_take (i := 2) (oi := { dst := some 57, op := Go.Op.fieldAddr 63 (Go.Operand.tmp 56) 1, type := 0, pos := "iface.go:53", after := #[{ on := 1, ground := Go.Ground.data }], guard := none }) (v := ?_) rfl (by kernel_rfl) (by kernel_rfl) (by kernel_rfl) (fun _ _ _ h => h) (Or.inl ⟨by rfl, ?_⟩) (by assumption) ?_
  rotate_left
  · intro w hSw
    (try dsimp only at hSw)
    go_simp
    try (with_reducible rfl)
  try simp only [Act.put, List.setIfInBounds_toArray, List.set_cons_zero, List.set_cons_succ]
  refine wpAnyH_take (i := 3) (oi := { dst := some 58, op := Go.Op.load 60 (Go.Operand.tmp 57), type := 60, pos := "iface.go:53", after := #[{ on := 2, ground := Go.Ground.data }], guard := none }) (v := ?_) rfl (by kernel_rfl) (by kernel_rfl) (by kernel_rfl) (fun _ _ _ h => h) (Or.inl ⟨by rfl, ?_⟩) (by assumption) ?_
  rotate_left
  · intro w hSw
    (try dsimp only at hSw)
    go_simp
    try (with_reducible rfl)
  try simp only [Act.put, List.setIfInBounds_toArray, List.set_cons_zero, List.set_cons_succ]
  refine wpAnyH_take (i := 4) (oi := { dst := some 59, op := Go.Op.move (Go.Operand.tmp 1), type := 9, pos := "iface.go:53", after := #[], guard := none }) (v := ?_) rfl (by kernel_rfl) (by kernel_rfl) (by kernel_rfl) (fun _ _ _ h => h) (Or.inl ⟨by rfl, ?_⟩) (by assumption) ?_
  rotate_left
  · intro w hSw
    (try dsimp only at hSw)
    go_simp
    try (with_reducible rfl)
  try simp only [Act.put, List.setIfInBounds_toArray, List.set_cons_zero, List.set_cons_succ]
  refine wpAnyH_take (i := 5) (oi := { dst := some 60, op := Go.Op.move (Go.Operand.tmp 0), type := 24, pos := "iface.go:53", after := #[], guard := none }) (v := ?_) rfl (by kernel_rfl) (by kernel_rfl) (by kernel_rfl) (fun _ _ _ h => h) (Or.inl ⟨by rfl, ?_⟩) (by assumption) ?_
  rotate_left
  · intro w hSw
    (try dsimp only at hSw)
    go_simp
    try (with_reducible rfl)
  try simp only [Act.put, List.setIfInBounds_toArray, List.set_cons_zero, List.set_cons_succ]
  refine wpAnyH_take (i := 6) (oi := { dst := some 61, op := Go.Op.nilCheck (Go.Operand.tmp 60), type := 0, pos := "iface.go:53", after := #[{ on := 5, ground := Go.Ground.data }], guard := none }) (v := ?_) rfl (by kernel_rfl) (by kernel_rfl) (by kernel_rfl) (fun _ _ _ h => h) (Or.inl ⟨by rfl, ?_⟩) (by assumption) ?_
  rotate_left
  · intro w hSw
    (try dsimp only at hSw)
    go_simp
    try (with_reducible rfl)
  try simp only [Act.put, List.setIfInBounds_toArray, List.set_cons_zero, List.set_cons_succ]
  refine wpAnyH_take (i := 7) (oi := { dst := some 62, op := Go.Op.fieldAddr 63 (Go.Operand.tmp 61) 0, type := 0, pos := "iface.go:53", after := #[{ on := 6, ground := Go.Ground.data }], guard := none }) (v := ?_) rfl (by kernel_rfl) (by kernel_rfl) (by kernel_rfl) (fun _ _ _ h => h) (Or.inl ⟨by rfl, ?_⟩) (by assumption) ?_
  rotate_left
  · intro w hSw
    (try dsimp only at hSw)
    go_simp
    try (with_reducible rfl)
  try simp only [Act.put, List.setIfInBounds_toArray, List.set_cons_zero, List.set_cons_succ]
  refine wpAnyH_take (i := 8) (oi := { dst := some 63, op := Go.Op.load 61 (Go.Operand.tmp 62), type := 61, pos := "iface.go:53", after := #[{ on := 7, ground := Go.Ground.data }], guard := none }) (v := ?_) rfl (by kernel_rfl) (by kernel_rfl) (by kernel_rfl) (fun _ _ _ h => h) (Or.inl ⟨by rfl, ?_⟩) (by assumption) ?_
  rotate_left
  · intro w hSw
    (try dsimp only at hSw)
    go_simp
    try (with_reducible rfl)
  try simp only [Act.put, List.setIfInBounds_toArray, List.set_cons_zero, List.set_cons_succ]
  refine wpAnyH_take (i := 9) (oi := { dst := some 64, op := Go.Op.call { callee := Go.Callee.builtin Go.Builtin.len, args := #[Go.Operand.tmp 63], argTypes := #[61] }, type := 3, pos := "iface.go:53", after := #[{ on := 8, ground := Go.Ground.data }], guard := none }) (v := ?_) rfl (by kernel_rfl) (by kernel_rfl) (by kernel_rfl) (fun _ _ _ h => h) (Or.inl ⟨by rfl, ?_⟩) (by assumption) ?_
  rotate_left
  · intro w hSw
    (try dsimp only at hSw)
    go_simp
    try (with_reducible rfl)
  try simp only [Act.put, List.setIfInBounds_toArray, List.set_cons_zero, List.set_cons_succ]
  refine wpAnyH_ready (rs := [10]) (by kernel_rfl) (by simp) ?_
  refine AllReadyH.cons (o := { dst := none, op := Go.Op.mapUpdate 60 (Go.Operand.tmp 58) (Go.Operand.tmp 59) (Go.Operand.tmp 64), type := 0, pos := "iface.go:53", after := #[{ on := 3, ground := Go.Ground.data }, { on := 4, ground := Go.Ground.data }, { on := 9, ground := Go.Ground.data }, { on := 0, ground := Go.Ground.phase }, { on := 1, ground := Go.Ground.phase }, { on := 2, ground := Go.Ground.phase }, { on := 3, ground := Go.Ground.phase }, { on := 4, ground := Go.Ground.phase }, { on := 5, ground := Go.Ground.phase }, { on := 6, ground := Go.Ground.phase }, { on := 7, ground := Go.Ground.phase }, { on := 8, ground := Go.Ground.phase }, { on := 9, ground := Go.Ground.phase }], guard := none }) rfl (fun K hK => ?_) AllReadyH.nil
  rw [if_pos (by rfl)]
  refine wpo_mup (.tmp 58) (.tmp 59) (.tmp 64) 60 rfl 9 3 lawN Try.underlying60 (plainElem Try.prog 3) m n D rfl HM.out.drew HMX.out.1 (.string nm) (.int .i64 ((n + 1 : Nat) : Int)) _ rfl rfl HKey.out _ [] (plainElem_int Try.underlying3 (i64w HMX.out.2.2)) (fun w5 hM5 hG5 => ?_)
  have HM5 := Lib.hid hM5
  have HG5 := Lib.hid hG5
  clear hM5 hG5
  refine hK.out _ _ ?_ (fun hHeld => ?_)
  · (exact And.intro (HG5.out.cell HD.out.1 (by simpa using HPm.out)) (HG5.out.cell HD.out.2 (by simpa using HPm.out)))
  clear hK K
  try simp only [Act.put]
  refine wpAnyH_done (by kernel_rfl) ?_ _
  have HS5 := Lib.hid (And.intro (HG5.out.cell HD.out.1 (by simpa using HPm.out)) (HG5.out.cell HD.out.2 (by simpa using HPm.out)))
  have e0 := HS5.out.2
  clear d0 d1 hu f3
  go_wp2
  go_ret2
  obtain ⟨S', hI, hG⟩ := HCl.out w5 _ ⟨HG5.out.os, HG5.out.tape, HG5.out.output, HG5.out.size, HG5.out.block⟩ HM5.out (by
    have h1 := HNm.out.put HM.out.isMap (q := (nm, mac, mtu, false)) HN1.out
    rw [HN.out] at h1
    exact h1)
  rw [HAd.out (n + 1) (by rw [HN.out])]
  exact ⟨rfl, S', hI, hG⟩
theorem addP (p : Nat) (S : List Nat) (st : StI) (nm : ByteArray) (mac mtu : Int) (hs : nm.size ≤ 9223372036854775807) (hm : 0 ≤ mac ∧ mac ≤ 18446744073709551615) (hi : I64 mtu) (w : World) (h : IfP w p S st) :
    Calls Try.prog 24 #[.pointer (some ⟨p, 0, none⟩), .string nm, .int .u64 mac, .int .i64 mtu] w fun e w' => e = .returned (.tuple #[.int .i64 (addI st nm mac mtu).2.1, .int .i64 (addI st nm mac mtu).2.2]) ∧ ∃ S', IfP w' p S' (addI st nm mac mtu).1 ∧ Goes w w' S S' := by
  by_cases hb : nameOk nm = false ∨ namedI st.1 nm ≠ 0 ∨ (macOk mac && mtuOk mtu) = false ∨ 8 ≤ st.1.length
  · refine Calls.mono (addP_bad p S st nm mac mtu hm hb w h) ?_
    rintro e w' ⟨rfl, h1, hT⟩
    exact ⟨rfl, S, by rw [h1]; exact h.tch hT (by simp), Goes.of_tch (hT.mono (by simp))⟩
  · refine addP_ok p S st nm mac mtu hm ⟨?_, ?_, ?_, ?_⟩ w h
    · cases e : nameOk nm with
      | true => rfl
      | false => exact absurd (.inl e) hb
    · exact Classical.byContradiction fun e => hb (.inr (.inl e))
    · cases e : (macOk mac && mtuOk mtu) with
      | true => rfl
      | false => exact absurd (.inr (.inr (.inl e))) hb
    · exact Nat.lt_of_not_le fun e => hb (.inr (.inr (.inr e)))
end Go.Proofs.Ytabbclocgkhnhaa
