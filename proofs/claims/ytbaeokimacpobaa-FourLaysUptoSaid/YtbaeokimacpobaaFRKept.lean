/-
  The document's own Kept of any text of at most 2^42 bytes.
-/
import Derived.Test.YtbaeokimacpobaaFROpt
import Derived.Test.YtbaeokimacpobaaFKept
import Derived.Test.YtbaeokimacpobaaFSame
import Derived.BigRegion
namespace Go.Proofs.Ytbaeokimacpobaa
open Go.RowKit
set_option linter.unusedVariables false

theorem bap (a b : List UInt8) : ((⟨a.toArray⟩ : ByteArray) ++ (⟨b.toArray⟩ : ByteArray)) = ⟨(a ++ b).toArray⟩ := by
  apply ByteArray.ext
  simp [ByteArray.data_append]
theorem basz (a : List UInt8) : (⟨a.toArray⟩ : ByteArray).size = a.length := by rw [Lib.size_eq]
theorem conv_two (w : World) (X Y : Int) : (convert 45 9 (.slice (some ⟨w.heap.size, 0, none⟩) 2 2)).run Try.prog (w.alloc (.cells #[.int .u8 X, .int .u8 Y] 5)).drew = .ok (.string (strOfNums [X, Y])) (w.alloc (.cells #[.int .u8 X, .int .u8 Y] 5)).drew := by
  refine run_convert_bytes_arg _ 45 5 (by kernel_rfl) (by kernel_rfl) _ 0 2 2 [X, Y] rfl (fun i hi => ?_) 9 (by kernel_rfl)
  have e : ∀ a, (w.alloc (.cells #[.int .u8 X, .int .u8 Y] 5)).drew.cell? a = (w.alloc (.cells #[.int .u8 X, .int .u8 Y] 5)).cell? a := fun _ => rfl
  rw [e, (Blk.new w 5 #[.int .u8 X, .int .u8 Y]).cell]
  have : i = 0 ∨ i = 1 := by omega
  rcases this with rfl | rfl <;> rfl
theorem two_bytes (c m : UInt8) : strOfNums [(c.toNat : Int), (m.toNat : Int)] = (⟨#[c, m]⟩ : ByteArray) := by
  unfold strOfNums
  simp
theorem kpR_getD (r : Option (List (List UInt8))) : kpR r = pad4 (keptOf (r.getD [])) := by cases r <;> rfl
def eO (r : Option (List (List UInt8))) : Int := match r with
  | some _ => 0
  | none => 50
theorem out_ro {f : Nat} {s : ByteArray} {w : World} {R : Option (List (List UInt8))} (h : Calls Try.prog f #[.string s] w (OpOut w R)) :
    Calls Try.prog f #[.string s] w fun e w' => ∃ A c, e = .returned (.tuple #[.slice A (R.getD []).length c, .int .i64 (eO R)]) ∧ RO w' A (R.getD []).length (R.getD []) ∧ Below w.heap.size w w' := by
  refine Calls.mono h ?_
  intro e w' hp
  unfold OpOut at hp
  cases R with
  | none => obtain ⟨rfl, hb⟩ := hp; exact ⟨none, 0, rfl, ⟨rfl, fun h => absurd h (by simp)⟩, hb⟩
  | some os => obtain ⟨v, rfl, ho, hb, hg⟩ := hp; obtain ⟨A, c, rfl, hro, -⟩ := own_ro rfl ho; exact ⟨A, c, rfl, hro, hb⟩
theorem kp_len (l : List UInt8) : (kpL l).length ≤ l.length + 3 := by
  unfold kpL
  cases h : opn l with
  | none => simp
  | some os =>
    have := opn_total l h
    have := keptOf_len os
    show (pad4 (keptOf os)).length ≤ _
    unfold pad4
    rw [List.length_append, List.length_replicate]
    omega

set_option maxRecDepth 100000 in
set_option maxHeartbeats 4000000 in
theorem rkept_any (s : ByteArray) (hs : s.size ≤ 4398046511104) (w : World) :
    Calls Try.prog 19 #[.string s] w fun e w' => e = .returned (.string ⟨(kpL s.data.toList).toArray⟩) ∧ Below w.heap.size w w' := by
  have H0 := out_ro (ropt_any s hs w)
  obtain ⟨os, hos⟩ : ∃ os, (opn s.data.toList).getD [] = os := ⟨_, rfl⟩
  have hkp : kpL s.data.toList = pad4 (keptOf os) := by rw [kpL_R, kpR_getD, hos]
  have hgd : ∀ x ∈ os, Gd x := by
    cases h : opn s.data.toList with
    | none => rw [h] at hos; subst hos; simp
    | some q => rw [h] at hos; subst hos; exact opn_gd _ h
  have htot : os.flatten.length ≤ s.size := by
    cases h : opn s.data.toList with
    | none => rw [h] at hos; subst hos; simp
    | some q => rw [h] at hos; have := opn_total _ h; have := Lib.size_eq s; subst hos; simp only [Option.getD_some]; omega
  rw [hos] at H0
  rw [hkp]
  have H := Lib.hid H0
  have HG := Lib.hid hgd
  have HT := Lib.hid htot
  have HSz := Lib.hid hs
  clear H0 hos hkp hgd htot hs
  go_enter Try.func19, Try.ntmps19
  go_wp2_with fail
  refine Calls.mono H.out ?_
  rintro e w2 ⟨A, c, rfl, hro, hb⟩
  obtain ⟨n, hnn⟩ : ∃ n, os.length = n := ⟨_, rfl⟩
  obtain ⟨E, hE⟩ : ∃ E, eO (opn s.data.toList) = E := ⟨_, rfl⟩
  rw [hnn] at hro ⊢
  rw [hE]
  clear hE
  have hn : n ≤ 4398046511104 := by have := gd_len HG.out; have := hro.1; have := HT.out; have := HSz.out; omega
  have HR := Lib.hid hro
  have HB := Lib.hid hb
  clear hro hb
  go_wp2
  go_loopw [5, 6] (fun o i wr => ∃ j : Nat, j ≤ n ∧ i = .int .i64 (j : Int) ∧ o = .string ⟨(keptOf (os.take j)).toArray⟩ ∧ Hid (Below w2.heap.size w2 wr)) (fun _ i _ => n - (intOf i).toNat)
  case atStart => exact ⟨0, Nat.zero_le _, rfl, by simp [keptOf], Lib.hid (Below.refl _ _)⟩
  case round =>
    obtain ⟨j, hj, rfl, rfl, hW⟩ := hrel
    by_cases hlt : j < n
    · have hji : (j : Int) < n := by omega
      obtain ⟨b, eb, hc⟩ := HR.out.2 (by omega)
      subst eb
      obtain ⟨x, hx⟩ : ∃ x, os[j]? = some x := ⟨_, List.getElem?_eq_getElem (by rw [HR.out.1]; exact hlt)⟩
      obtain ⟨p1, p2⟩ := hc j x hx
      have q1 := (hW.out.cell (World.block_lt_of_cell? w2 _ p1)).trans p1
      have q2 := (hW.out.cell (World.block_lt_of_cell? w2 _ p2)).trans p2
      have hgx := HG.out x (List.mem_of_getElem? hx)
      have htk : keptOf (os.take (j + 1)) = keptOf (os.take j) ++ (if isKept x = true then x else []) := by
        rw [List.take_add_one, hx]; exact keptOf_snoc _ _
      have hks : isKept x = decide (128 ≤ (x.headD 0).toNat) := by
        rcases hgx with rfl | ⟨c, n, q, rfl, -, -, -⟩ <;> rfl
      have htl : (keptOf (os.take j)).length ≤ 4398046511104 := by
        have h1 := keptOf_len (os.take j)
        have h2 : (os.take j).flatten.length ≤ os.flatten.length := by
          conv => rhs; rw [← List.take_append_drop j os, List.flatten_append, List.length_append]
          omega
        have := HT.out; have := HSz.out; omega
      obtain ⟨T, hT⟩ : ∃ T : ByteArray, T = ⟨(keptOf (os.take j)).toArray⟩ := ⟨_, rfl⟩
      have hTs : T.size ≤ 4398046511104 := by rw [hT, basz]; exact htl
      rw [← hT]
      by_cases hk : 128 ≤ (x.headD 0).toNat
      · obtain ⟨c, m, q, rfl, hm⟩ : ∃ c m q, x = c :: m :: q ∧ m.toNat = q.length + 2 := by
          rcases hgx with rfl | ⟨c, m, q, rfl, -, -, hm⟩
          · simp at hk
          · exact ⟨c, m, q, rfl, hm⟩
        simp only [List.headD_cons, List.drop_succ_cons, List.drop_zero] at q1 q2 hk
        obtain ⟨D, hD⟩ : ∃ D : ByteArray, (⟨q.toArray⟩ : ByteArray) = D := ⟨_, rfl⟩
        have hDs : D.size = q.length := by rw [← hD, basz]
        have hm2 : m.toNat < 256 := UInt8.toNat_lt _
        obtain ⟨C, hC⟩ : ∃ C : Int, (c.toNat : Int) = C := ⟨_, rfl⟩
        have hc2 : c.toNat < 256 := UInt8.toNat_lt _
        have hfin : T ++ (⟨#[c, m]⟩ : ByteArray) ++ D = ⟨(keptOf (os.take (j + 1))).toArray⟩ := by
          rw [htk, if_pos (show isKept (c :: m :: q) = true from decide_eq_true hk), hT, ← hD]
          rw [show (⟨#[c, m]⟩ : ByteArray) = ⟨[c, m].toArray⟩ from rfl, bap, bap]; simp
        have HF := Lib.hid hfin
        rw [hD] at q2
        rw [hC] at q1
        have hCb : (127 : Int) < C := by omega
        have hw1 : IntKind.u8.wrap C = C := by rw [IntKind.wrap_u8]; omega
        have hw2 : IntKind.i64.wrap ((q.length : Int) + 2) = (q.length : Int) + 2 := by rw [IntKind.wrap_i64]; omega
        have hw3 : IntKind.u8.wrap ((q.length : Int) + 2) = (q.length : Int) + 2 := by rw [IntKind.wrap_u8]; omega
        have q3 : (wr.alloc (.cells #[.int .u8 C, .int .u8 ((q.length : Int) + 2)] 5)).drew.cell? ⟨b, j * 2 + 1, none⟩ = some (.string D) := (((Below.refl _ wr).alloc (Nat.le_refl _) (.cells #[.int .u8 C, .int .u8 ((q.length : Int) + 2)] 5)).cell (World.block_lt_of_cell? wr _ q2)).trans q2
        have hs1 : ¬ 9223372036854775807 < T.size + 2 := by omega
        have hs2 : ¬ 9223372036854775807 < T.size + 2 + q.length := by omega
        have hcv := conv_two wr C ((q.length : Int) + 2)
        have h2b : strOfNums [C, (q.length : Int) + 2] = (⟨#[c, m]⟩ : ByteArray) := by
          rw [← two_bytes c m, hC, show (q.length : Int) + 2 = (m.toNat : Int) by omega]
        rw [h2b] at hcv
        have HWr := Lib.hid hW.out
        clear hc hx p1 p2 hgx htk hks htl hT hD hfin hk hW h2b
        go_wp2
        go_region
        all_goals
          go_wp2
          go_roundw
          case rel => exact ⟨j + 1, by omega, by go_num, by rw [← HF.out], Lib.hid (HWr.out.alloc HWr.out.size _).drew⟩
          case measure => simp [intOf]; omega
      · have hfin : T = ⟨(keptOf (os.take (j + 1))).toArray⟩ := by
          rw [htk, hks, if_neg (by simp only [decide_eq_true_eq]; exact hk), hT, List.append_nil]
        have HF := Lib.hid hfin
        obtain ⟨C, hC⟩ : ∃ C : Int, ((x.headD 0).toNat : Int) = C := ⟨_, rfl⟩
        rw [hC] at q1
        have hCb : ¬ (127 : Int) < C := by omega
        have HWr := Lib.hid hW.out
        clear hc hx p1 p2 hgx htk hks htl hT hfin hk hW hC
        go_wp2
        go_roundw
        case rel => exact ⟨j + 1, by omega, by go_num, by rw [HF.out], HWr⟩
        case measure => simp [intOf]; omega
    · obtain rfl : j = n := by omega
      have htake : os.take j = os := List.take_of_length_le (by rw [HR.out.1]; exact Nat.le_refl _)
      rw [htake]
      obtain ⟨m, hm⟩ : ∃ m, (keptOf os).length = m := ⟨_, rfl⟩
      have hml : m ≤ 4398046511104 := by rw [← hm]; have := keptOf_len os; have := HT.out; have := HSz.out; omega
      have HM := Lib.hid hm
      have HL := Lib.hid (HB.out.trans (hW.out.mono HB.out.size))
      clear hm htake hW
      go_wp2
      go_loopw [5] (fun o w4 => w4 = wr ∧ ∃ i : Nat, i ≤ (4 - m % 4) % 4 ∧ o = .string ⟨(keptOf os ++ List.replicate i 0).toArray⟩) (fun o _ => match o with | .string T => (4 - T.size % 4) % 4 | _ => 0)
      case atStart => exact ⟨rfl, 0, Nat.zero_le _, by simp⟩
      case round =>
        obtain ⟨rfl, i, hi, rfl⟩ := hrel
        obtain ⟨T, hT⟩ : ∃ T : ByteArray, T = ⟨(keptOf os ++ List.replicate i 0).toArray⟩ := ⟨_, rfl⟩
        have hTs : T.size = m + i := by rw [hT, basz, List.length_append, List.length_replicate, HM.out]
        have hT1 : T ++ (⟨#[0]⟩ : ByteArray) = ⟨(keptOf os ++ List.replicate (i + 1) 0).toArray⟩ := by
          rw [hT, show (⟨#[0]⟩ : ByteArray) = ⟨[(0 : UInt8)].toArray⟩ from rfl, bap, List.append_assoc, ← List.replicate_succ']
        have hT2 : i = (4 - m % 4) % 4 → T = ⟨(pad4 (keptOf os)).toArray⟩ := fun h => by rw [hT, h]; unfold pad4; rw [HM.out]
        have HT1 := Lib.hid hT1
        have HT2 := Lib.hid hT2
        rw [← hT]
        clear hT hT1 hT2
        by_cases hlt2 : i < (4 - m % 4) % 4
        · have hgt : (0 : Int) < (T.size : Int) % 4 := by omega
          go_wp2
          go_roundw
          case rel => exact ⟨by first | rfl | trivial, i + 1, by omega, by rw [HT1.out]⟩
          case measure => have h1 : (⟨#[0]⟩ : ByteArray).size = 1 := rfl; simp only [ByteArray.size_append, h1]; omega
        · have hgt : ¬ (0 : Int) < (T.size : Int) % 4 := by omega
          have HT3 := Lib.hid (HT2.out (by omega))
          go_wp2
          go_ret
          exact ⟨congrArg (fun t => Ending.returned (Value.string t)) HT3.out, HL.out⟩
end Go.Proofs.Ytbaeokimacpobaa
