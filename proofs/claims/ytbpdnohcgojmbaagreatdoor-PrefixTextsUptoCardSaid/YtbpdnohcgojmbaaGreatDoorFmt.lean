/-
  strconv.FormatUint of a number below 65536 in base 16, and of one below 256 in base 10.
-/
import Derived.Test.YtbpdnohcgojmbaaGreatDoorEnv
import Derived.Test.YtbpdnohcgojmbaaGreatDoorShelf
import Derived.Lib.AppendIntMem
namespace Go.Proofs.YtbpdnohcgojmbaaGreatDoor
open Go.RowKit
set_option linter.unusedVariables false

theorem pow2_16 (w : World) : Calls Tryz.prog 99 #[.int .i64 16] w fun e w' => e = .returned (.bool true) ∧ w = w' := by
  go_enter Tryz.func99, Tryz.ntmps99
  go_wp2
  go_ret
  exact ⟨rfl, rfl⟩
theorem tz64 (w : World) (hE : Env w) : Calls Tryz.prog 104 #[.int .u64 16] w fun e w' => e = .returned (.int .i64 4) ∧ w = w' := by
  have hc := hE.2.2.2.2.cell gDeb 15 (by decide)
  rw [show deb.getD 15 0 = 4 by decide] at hc
  have E : IntKind.u64.wrap (bits BinOp.and IntKind.u64 16 (IntKind.u64.wrap (-16)) * 285870213051353865) / 288230376151711744 = 15 := by decide +kernel
  go_enter Tryz.func104, Tryz.ntmps104
  go_wp2
  go_ret
  exact ⟨rfl, rfl⟩
theorem tz (w : World) (hE : Env w) : Calls Tryz.prog 100 #[.int .u64 16] w fun e w' => e = .returned (.int .i64 4) ∧ w = w' := by
  have H := Lib.hid (tz64 w hE)
  go_enter Tryz.func100, Tryz.ntmps100
  go_wp2_with fail
  refine Calls.mono H.out ?_
  rintro e w' ⟨rfl, rfl⟩
  go_wp2
  go_ret
  exact ⟨rfl, rfl⟩
/-- The digit of a number below 16. -/
def hx (d : Int) : Int := if d < 10 then 48 + d else 87 + d
theorem hx_bd {d : Int} (h0 : 0 ≤ d) (h1 : d < 16) : 0 ≤ hx d ∧ hx d ≤ 255 := by unfold hx; split <;> omega
/-- The lowest k digits of a number in base 16. -/
def lowd : Nat → Int → List Int
  | 0, _ => []
  | k + 1, n => lowd k (n / 16) ++ [hx (n % 16)]
theorem lowd_len (k : Nat) : ∀ n, (lowd k n).length = k := by
  induction k with
  | zero => intro n; rfl
  | succ k ih => intro n; simp [lowd, ih]
theorem lowd_cons (k : Nat) : ∀ n : Int, lowd (k + 1) n = hx (n / 16 ^ k % 16) :: lowd k n := by
  induction k with
  | zero => intro n; simp [lowd]
  | succ k ih =>
    intro n
    rw [lowd, ih]
    simp only [lowd, List.cons_append, List.cons.injEq, and_true]
    rw [Int.pow_succ, Int.mul_comm, ← Int.ediv_ediv_of_nonneg (by decide)]
theorem lowd_by (k : Nat) : ∀ n : Int, By (lowd k n) := by
  induction k with
  | zero => intro n z hz; cases hz
  | succ k ih =>
    intro n z hz
    simp only [lowd, List.mem_append, List.mem_singleton] at hz
    rcases hz with hz | rfl
    · exact ih _ z hz
    · exact hx_bd (by omega) (by omega)
/-- How many digits a number below 65536 has in base 16. -/
def nhx (n : Int) : Nat := if n < 16 then 1 else if n < 256 then 2 else if n < 4096 then 3 else 4
def dhx (n : Int) : List Int := lowd (nhx n) n

theorem run_digit (d : Int) (h0 : 0 ≤ d) (h1 : d < 16) (w : World) : (Instr.index 9 (.string ⟨#[48, 49, 50, 51, 52, 53, 54, 55, 56, 57, 97, 98, 99, 100, 101, 102, 103, 104, 105, 106, 107, 108, 109, 110, 111, 112, 113, 114, 115, 116, 117, 118, 119, 120, 121, 122]⟩) (.int .u64 d)).run Tryz.prog w = .ok (.int .u8 (hx d)) w := by
  rcases (show d = 0 ∨ d = 1 ∨ d = 2 ∨ d = 3 ∨ d = 4 ∨ d = 5 ∨ d = 6 ∨ d = 7 ∨ d = 8 ∨ d = 9 ∨ d = 10 ∨ d = 11 ∨ d = 12 ∨ d = 13 ∨ d = 14 ∨ d = 15 by omega) with rfl | rfl | rfl | rfl | rfl | rfl | rfl | rfl | rfl | rfl | rfl | rfl | rfl | rfl | rfl | rfl
  all_goals kernel_rfl
theorem and15 (u : Int) (h0 : 0 ≤ u) (h1 : u ≤ 65535) : bits BinOp.and IntKind.u64 u 15 = u % 16 := by
  rw [u64_and u 15 h0 (by omega) (by omega) (by omega)]
  have e : u.toNat &&& (15 : Int).toNat = u.toNat % 16 := Nat.and_two_pow_sub_one_eq_mod u.toNat 4
  rw [e]; omega
theorem put_hx (k : Nat) (n : Int) (hk : k < 65) :
    (((List.replicate (65 - k) 0 ++ lowd k n).map (Value.int .u8)).toArray).setIfInBounds (64 - k) (.int .u8 (hx (n / 16 ^ k % 16))) =
      ((List.replicate (65 - (k + 1)) 0 ++ lowd (k + 1) n).map (Value.int .u8)).toArray := by
  have e : 65 - k = (64 - k) + 1 := by omega
  rw [e, List.replicate_succ', lowd_cons, show 65 - (k + 1) = 64 - k by omega]
  simp
theorem hx_reads {w : World} {g k : Nat} {n : Int} {t : TypeId} (hk : k ≤ 65) (h : Blk w g t (((List.replicate (65 - k) 0 ++ lowd k n).map (Value.int .u8)).toArray)) : ∀ i, i < k → w.cell? ⟨g, 0 + (65 - k) + i, none⟩ = some (.int .u8 ((lowd k n).getD i 0)) := by
  intro i hi
  rw [h.cell]
  have hl : i < (lowd k n).length := by rw [lowd_len]; exact hi
  simp [List.getElem?_append_right, List.getD, List.getElem?_eq_getElem hl]
theorem nhx_of {n : Int} {k : Nat} (h0 : 0 ≤ n) (h1 : n ≤ 65535) (hk : k ≤ 3) (hlo : k = 0 ∨ 16 ^ k ≤ n) (hhi : n / 16 ^ k < 16) : nhx n = k + 1 := by
  rcases (show k = 0 ∨ k = 1 ∨ k = 2 ∨ k = 3 by omega) with rfl | rfl | rfl | rfl <;> simp at hlo hhi <;> unfold nhx <;> repeat (first | rfl | omega | split)
theorem zero65 : Tryz.zeroCells133 = (List.replicate 65 (Value.int .u8 0)).toArray := by kernel_rfl

theorem addr_add (g o n : Nat) : Addr.add ⟨g, o, none⟩ n = ⟨g, o + n, none⟩ := by
  unfold Addr.add
  split
  · rename_i h; subst h; rfl
  · rfl
theorem slice65 (w : World) (g l : Nat) (L : Int) (e : L = l) (hl : l ≤ 64) :
    (Instr.sliceAt 133 (.pointer (some ⟨g, 0, none⟩)) (some (.int .i64 L)) none none).run Tryz.prog w = .ok (.slice (some ⟨g, l, none⟩) (65 - l) (65 - l)) w := by
  subst e
  have e65 : Tryz.prog.arrayLen 133 = 65 := by kernel_rfl
  have es : (sizeOf (Tryz.prog.elem 133)).run Tryz.prog w = .ok 1 w := by kernel_rfl
  rw [run_sliceAt_array_l w 133 ⟨g, 0, none⟩ (by rw [e65]; kernel_rfl) .i64 l (by omega) (by rw [e65]; omega), es, e65]
  show Result.ok (slicedAt _ _ _ _ _) _ = _
  unfold slicedAt
  rw [if_neg (by simp; omega), addr_add]
  simp
set_option maxRecDepth 100000 in
set_option maxHeartbeats 1000000 in
theorem fmt_bits (w : World) (hE : Env w) (n : Int) (h0 : 0 ≤ n) (h1 : n ≤ 65535) :
    Calls Tryz.prog 89 #[.slice none 0 0, .int .u64 n, .int .i64 16, .bool false, .bool false] w fun e w' => e = .returned (.tuple #[.slice none 0 0, .string (strOfNums (dhx n))]) ∧ Below w.heap.size w w' := by
  obtain ⟨w1, hw1⟩ : ∃ w1, w1 = w.alloc (.cells Tryz.zeroCells133 133) := ⟨_, rfl⟩
  have P := Lib.hid (pow2_16 w1)
  have hE1 := hE.alloc (.cells Tryz.zeroCells133 133)
  rw [← hw1] at hE1
  have T := Lib.hid (tz w1 hE1)
  have HB : Below w.heap.size w w1 := by rw [hw1]; exact (Below.refl _ _).alloc (Nat.le_refl _) _
  have HG : Blk w1 w.heap.size 133 (((List.replicate 65 0 ++ lowd 0 n).map (Value.int .u8)).toArray) := by
    have h := Blk.new w 133 Tryz.zeroCells133
    rw [← hw1, zero65] at h
    simpa [lowd] using h
  have HW := Lib.hid hw1
  clear hw1
  go_enter Tryz.func89, Tryz.ntmps89
  go_wp2_with fail
  rw [← HW.out]
  refine Calls.mono P.out ?_
  rintro e w' ⟨rfl, rfl⟩
  go_wp2_with fail
  refine Calls.mono T.out ?_
  rintro e w' ⟨rfl, rfl⟩
  go_wp2
  go_loopw [1, 13] (fun u i wr => ∃ k : Nat, k ≤ 3 ∧ i = .int .i64 ((65 - k : Nat) : Int) ∧ u = .int .u64 (n / 16 ^ k) ∧ (k = 0 ∨ 16 ^ k ≤ n) ∧ Blk wr w.heap.size 133 (((List.replicate (65 - k) 0 ++ lowd k n).map (Value.int .u8)).toArray) ∧ Below w.heap.size w wr) (fun _ i _ => (intOf i).toNat)
  case atStart => exact ⟨0, by omega, rfl, by simp, .inl rfl, HG, HB⟩
  case round =>
    obtain ⟨k, hk, rfl, rfl, hlo, hblk, hbel⟩ := hrel
    have HL := Lib.hid hlo
    clear hlo
    have HBk := Lib.hid hblk
    obtain ⟨U, hU⟩ : ∃ U, U = n / 16 ^ k := ⟨_, rfl⟩
    have u0 : 0 ≤ U := by rw [hU]; exact Int.ediv_nonneg h0 (Int.pow_nonneg (by decide))
    have u1 : U ≤ 65535 := by rw [hU]; exact Int.le_trans (Int.ediv_le_self _ h0) h1
    rw [← hU]
    have HU := Lib.hid hU
    clear hU
    have hlen : 64 - k < ((List.replicate (65 - k) 0 ++ lowd k n).map (Value.int .u8)).length := by simp [lowd_len]; omega
    obtain ⟨u, hu⟩ : ∃ u, wr.cell? ⟨w.heap.size, 64 - k, none⟩ = some u := ⟨_, (hblk.cell _).trans (by rw [List.getElem?_toArray, List.getElem?_eq_getElem hlen])⟩
    have hfz := hblk.frozen (64 - k)
    clear hblk hlen
    have hi : ((65 - k : Nat) : Int) = 65 - k := by omega
    rw [hi]
    have hj : (65 - (k : Int) - 1).toNat = 64 - k := by omega
    clear hi
    by_cases hlt : U < 16
    · have hidx := run_digit U u0 hlt wr
      have HN := Lib.hid (show Blk (wr.setCell ⟨w.heap.size, 64 - k, none⟩ (.int .u8 (hx U))) w.heap.size 133 (((List.replicate (65 - (k + 1)) 0 ++ lowd (k + 1) n).map (Value.int .u8)).toArray) by
        have h := HBk.out.set_ (64 - k) (.int .u8 (hx (n / 16 ^ k % 16)))
        have e : n / 16 ^ k % 16 = U := by rw [← HU.out]; omega
        rw [put_hx k n (by omega), e] at h
        exact h)
      have HC := Lib.hid (hx_reads (by omega) HN.out)
      have hsl := slice65 (wr.setCell ⟨w.heap.size, 64 - k, none⟩ (.int .u8 (hx U))) w.heap.size (64 - k) (65 - (k : Int) - 1) (by omega) (by omega)
      have hcv := run_convert_bytes_arg (P := Tryz.prog) (wr.setCell ⟨w.heap.size, 64 - k, none⟩ (.int .u8 (hx U))) 71 5 Tryz.underlying71 Tryz.underlying5 w.heap.size (64 - k) (65 - (64 - k)) (65 - (64 - k)) (lowd (k + 1) n) (by rw [lowd_len]; omega)
        (fun i hi => by have h := HC.out i (by omega); rwa [show 0 + (65 - (k + 1)) + i = 64 - k + i by omega] at h) 9 Tryz.underlying9
      have HNX := Lib.hid (nhx_of h0 h1 hk HL.out (by rw [← HU.out]; exact hlt))
      have HB2 := hbel.setCell (p := ⟨w.heap.size, 64 - k, none⟩) (Nat.le_refl _) (.int .u8 (hx U))
      go_wp2
      go_ret2
      exact ⟨by unfold dhx; rw [HNX.out]; rfl, HB2⟩
    · have HA := and15 U u0 u1
      have hidx := run_digit (U % 16) (by omega) (by omega) wr
      go_wp2
      go_roundw
      case rel =>
        have hk2 : k + 1 ≤ 3 := by
          have e := HU.out
          rcases (show k = 0 ∨ k = 1 ∨ k = 2 ∨ k = 3 by omega) with rfl | rfl | rfl | rfl <;> simp at e <;> omega
        refine ⟨k + 1, hk2, ?_, ?_, .inr ?_, ?_, hbel.setCell (p := ⟨_, _, _⟩) (Nat.le_refl _) _⟩
        · congr 1; omega
        · congr 1; rw [HU.out, Int.pow_succ, Int.ediv_ediv_of_nonneg (Int.pow_nonneg (by decide))]
        · have e := HU.out
          rw [Int.pow_succ]
          rcases (show k = 0 ∨ k = 1 ∨ k = 2 by omega) with rfl | rfl | rfl <;> simp at e ⊢ <;> omega
        · have h := HBk.out.set_ (64 - k) (.int .u8 (hx (n / 16 ^ k % 16)))
          rw [put_hx k n (by omega), ← HU.out] at h
          exact h
      case measure => simp [intOf]; omega

set_option maxHeartbeats 1000000 in
theorem fmt16 (w : World) (hE : Env w) (n : Int) (h0 : 0 ≤ n) (h1 : n ≤ 65535) :
    Calls Tryz.prog 65 #[.int .u64 n, .int .i64 16] w fun e w' => e = .returned (.string (strOfNums (dhx n))) ∧ Below w.heap.size w w' := by
  have H := Lib.hid (fmt_bits w hE n h0 h1)
  have HI : Hid (Calls Tryz.prog 82 #[.int .u64 n, .int .i64 16] w fun e w' => e = .returned (.string (strOfNums (dhx n))) ∧ Below w.heap.size w w') := by
    show Calls _ _ _ _ _
    go_enter Tryz.func82, Tryz.ntmps82
    go_wp2_with fail
    refine Calls.mono H.out ?_
    rintro e w' ⟨rfl, hb⟩
    go_wp2
    go_ret
    exact ⟨rfl, hb⟩
  go_enter Tryz.func65, Tryz.ntmps65
  go_wp2_with fail
  refine Calls.mono HI.out ?_
  rintro e w' ⟨rfl, hb⟩
  go_wp2
  go_ret
  exact ⟨rfl, hb⟩

theorem holds24 (w : World) (T : TypeId) (nd : Nat) (hs : nd ≤ 24) : Sort.Holds (fun (b : UInt8) => Value.int .u8 (b.toNat : Int)) (w.alloc (.cells Lib.zeros24 T)) w.heap.size 0 (Array.replicate nd (0 : UInt8)) := fun j hj => by
  have hj' : j < nd := by simpa using hj
  refine ⟨?_, World.frozen?_alloc_new _ _ _ _⟩
  rw [World.cell?_alloc_new, Lib.zeros24_at _ (by omega), getElem!_pos _ j hj]
  simp
theorem below24 (w : World) (o : Obj) (dk : Array UInt8) (k : Nat) : Below w.heap.size w ((Sort.putRow (fun (b : UInt8) => Value.int .u8 (b.toNat : Int)) (w.alloc o) w.heap.size 0 dk).drewN k) := by
  obtain ⟨os', _, e⟩ := Sort.putRow_grow_new (fun (b : UInt8) => Value.int .u8 (b.toNat : Int)) w #[o] w.heap.size 0 dk (Nat.le_refl _)
  rw [Sort.alloc_eq_grow, e]
  exact Lib.below_grow _ w (Nat.le_refl _) k os'

set_option maxRecDepth 100000 in
set_option maxHeartbeats 1000000 in
theorem fmt10i (w : World) (hE : Env w) (u : Nat) (hu : u < 256) :
    Calls Tryz.prog 82 #[.int .u64 u, .int .i64 10] w fun e w' => e = .returned (.string ⟨(Lib.decDigits u).toArray⟩) ∧ Below w.heap.size w w' := by
  by_cases hs : u < 100
  · have H := Lib.hid (Tryz.internal_strconv_small u hs w)
    have hs' : (u : Int) < 100 := by omega
    go_enter Tryz.func82, Tryz.ntmps82
    go_wp2_with fail
    refine Calls.mono H.out ?_
    rintro e w' ⟨rfl, rfl⟩
    go_wp2
    go_ret
    exact ⟨rfl, Below.refl _ _⟩
  · have hu1 : 1 ≤ u := by omega
    have hu64 : u < 18446744073709551616 := by omega
    have hnd : Lib.nDigits u ≤ 20 := by have := Lib.numDigits_eq u hu1 hu64; split at this <;> omega
    have hE1 := (hE.alloc (.cells Lib.zeros24 119)).2.2.2.1
    have N := Lib.hid (Tryz.internal_strconv_numDigits u hu1 hu64 _ hE1)
    have hal : Tryz.prog.arrayLen 119 = 24 := by kernel_rfl
    have hsl : ∀ W, (Instr.sliceAt 119 (.pointer (some ⟨w.heap.size, 0, none⟩)) none (some (.int .i64 (Lib.nDigits u : Int))) none).run Tryz.prog W = .ok (.slice (some ⟨w.heap.size, 0, none⟩) (Lib.nDigits u) 24) W := fun W => by
      rw [run_sliceAt_array_h W 119 ⟨w.heap.size, 0, none⟩ (by rw [hal]; kernel_rfl) .i64 (Lib.nDigits u : Int) (by omega) (by rw [hal]; omega)]
      go_simp
    have hH0 := holds24 w 119 (Lib.nDigits u) (by omega)
    have hfmt := Tryz.internal_strconv_formatBase10 w.heap.size 0 24 u (Array.replicate (Lib.nDigits u) 0) (w.alloc (.cells Lib.zeros24 119)) hH0 (by rw [Array.size_replicate]; exact Lib.lt_pow_nDigits u) hu64 (by rw [Array.size_replicate]; omega)
    rw [Array.size_replicate] at hfmt
    have HF := Lib.hid hfmt
    have HH0 := Lib.hid hH0
    have hs' : ¬ (u : Int) < 100 := by omega
    have HS := Lib.hid hsl
    clear hH0 hal hfmt hsl
    go_enter Tryz.func82, Tryz.ntmps82
    go_wp2_with fail
    show Calls _ _ _ (w.alloc (.cells Lib.zeros24 119)) _
    refine Calls.mono N.out ?_
    rintro e w' ⟨rfl, rfl⟩
    have hsl := HS.out (w.alloc (.cells Lib.zeros24 119))
    go_wp2_with fail
    clear hsl
    refine Calls.mono HF.out ?_
    rintro e w' ⟨rfl, k, v', dk, rfl, hF⟩
    have hcv : (convert 71 9 (.slice (some ⟨w.heap.size, 0, none⟩) (Lib.nDigits u) 24)).run Tryz.prog ((Sort.putRow (fun (b : UInt8) => Value.int .u8 (b.toNat : Int)) (w.alloc (.cells Lib.zeros24 119)) w.heap.size 0 dk).drewN k) = .ok (.string ⟨(Lib.decDigits u).toArray⟩) ((Sort.putRow (fun (b : UInt8) => Value.int .u8 (b.toNat : Int)) (w.alloc (.cells Lib.zeros24 119)) w.heap.size 0 dk).drewN k) := by
      have h := run_convert_bytes_back (P := Tryz.prog) ((Sort.putRow (fun (b : UInt8) => Value.int .u8 (b.toNat : Int)) (w.alloc (.cells Lib.zeros24 119)) w.heap.size 0 dk).drewN k) 71 9 5 ⟨w.heap.size, 0, none⟩ 24 (Lib.decDigits u) Tryz.underlying71 Tryz.underlying5 Tryz.underlying9 (fun j hj => by
        rw [Lib.row_is_numeral hF j hj, Lib.add_plain, World.cell?_drewN]
        exact Sort.cell?_putRow (fun (b : UInt8) => Value.int .u8 (b.toNat : Int)) _ w.heap.size 0 _ dk HH0.out (by rw [hF.size, Array.size_replicate]) j (by rw [hF.size]; rw [Lib.decDigits_length] at hj; exact hj))
      rw [Lib.decDigits_length] at h
      exact h
    have HB := below24 w (.cells Lib.zeros24 119) dk k
    have hsl := HS.out ((Sort.putRow (fun (b : UInt8) => Value.int .u8 (b.toNat : Int)) (w.alloc (.cells Lib.zeros24 119)) w.heap.size 0 dk).drewN k)
    clear hF
    obtain ⟨W, hW⟩ : ∃ W, W = (Sort.putRow (fun (b : UInt8) => Value.int .u8 (b.toNat : Int)) (w.alloc (.cells Lib.zeros24 119)) w.heap.size 0 dk).drewN k := ⟨_, rfl⟩
    rw [← hW] at hcv HB hsl ⊢
    clear hW
    go_wp2
    go_ret
    exact ⟨rfl, HB⟩
theorem fmt10 (w : World) (hE : Env w) (u : Nat) (hu : u < 256) :
    Calls Tryz.prog 65 #[.int .u64 u, .int .i64 10] w fun e w' => e = .returned (.string ⟨(Lib.decDigits u).toArray⟩) ∧ Below w.heap.size w w' := by
  have H := Lib.hid (fmt10i w hE u hu)
  go_enter Tryz.func65, Tryz.ntmps65
  go_wp2_with fail
  refine Calls.mono H.out ?_
  rintro e w' ⟨rfl, hb⟩
  go_wp2
  go_ret
  exact ⟨rfl, hb⟩
end Go.Proofs.YtbpdnohcgojmbaaGreatDoor
