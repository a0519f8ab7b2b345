/-
  Plain numbers and texts of layer 5: ARP messages, and link's addresses as texts.
-/
import Derived.Test.YtlbkphnbpenbcaaENum
namespace Go.Proofs.Ytlbkphnbpenbcaa
open Go.RowKit
set_option linter.unusedVariables false

/-- An ARP message as a value. -/
abbrev arpv (op fm : Int) (s : Bool) (h l : Int) (tm : Int) (s' : Bool) (h' l' : Int) : Value :=
  .agg #[.int .i64 op, .int .u64 fm, .bool s, .int .u64 h, .int .u64 l, .int .u64 tm, .bool s', .int .u64 h', .int .u64 l']
abbrev noArp : Value := arpv 0 0 false 0 0 0 false 0 0
/-- May it be an address without Six? -/
def foB (s : Bool) (h l : Int) : Bool := !s && (decide (h = 0) && decide (l ≤ 4294967295))
/-- May it be a message? -/
def arB (op fm : Int) (s : Bool) (h l : Int) (tm : Int) (s' : Bool) (h' l' : Int) : Bool :=
  (decide (op = 1) || decide (op = 2)) && mcB fm && foB s h l && mcB tm && foB s' h' l'
theorem arB_of {op fm : Int} {s : Bool} {h l tm : Int} {s' : Bool} {h' l' : Int} (e : arB op fm s h l tm s' h' l' = true) :
    (op = 1 ∨ op = 2) ∧ fm ≤ 281474976710655 ∧ s = false ∧ h = 0 ∧ l ≤ 4294967295 ∧ tm ≤ 281474976710655 ∧ s' = false ∧ h' = 0 ∧ l' ≤ 4294967295 := by
  simp [arB, mcB, foB] at e
  obtain ⟨⟨⟨⟨a, b⟩, c, d, e⟩, f⟩, g, i, j⟩ := e
  exact ⟨a, by omega, c, d, by omega, by omega, g, i, by omega⟩
def arL (op fm l tm l' : Int) : List Int := [0, 1, 8, 0, 6, 4] ++ putOf 2 op ++ putOf 6 fm ++ putOf 4 l ++ putOf 6 tm ++ putOf 4 l'
theorem arL_len (op fm l tm l' : Int) : (arL op fm l tm l').length = 28 := by simp [arL, putOf_len]
theorem arL_by (op fm l tm l' : Int) : By (arL op fm l tm l') :=
  (((((show By [0, 1, 8, 0, 6, 4] by intro z hz; revert z; decide).app (putOf_by 2 op)).app (putOf_by 6 fm)).app (putOf_by 4 l)).app (putOf_by 6 tm)).app (putOf_by 4 l')
/-- What ether.LayArp answers. -/
def laV (op fm : Int) (s : Bool) (h l : Int) (tm : Int) (s' : Bool) (h' l' : Int) : Value :=
  if arB op fm s h l tm s' h' l' = false then .tuple #[.string ⟨#[]⟩, .int .i64 40] else .tuple #[.string (strOfNums (arL op fm l tm l')), .int .i64 0]
/-- The number of a width at a place. -/
def nAt (l : List Int) (a k : Nat) : Int := numOf ((l.drop a).take k)
def okA (l : List Int) : Bool := decide (l.take 6 = [0, 1, 8, 0, 6, 4]) && (decide (nAt l 6 2 = 1) || decide (nAt l 6 2 = 2))
/-- What ether.TakeArp answers. -/
def taV (s : ByteArray) : Value :=
  if s.size < 28 then .tuple #[noArp, .int .i64 41] else if okA (byt s) = false then .tuple #[noArp, .int .i64 40] else
  .tuple #[arpv (nAt (byt s) 6 2) (nAt (byt s) 8 6) false 0 (nAt (byt s) 14 4) (nAt (byt s) 18 6) false 0 (nAt (byt s) 24 4), .int .i64 0]
theorem nAt_bd {l : List Int} {a k : Nat} (h : a + k ≤ l.length) (hb : By l) : 0 ≤ nAt l a k ∧ nAt l a k < 256 ^ k := numOf_bd k _ (by simp; omega) ((hb.drop a).take k)
theorem nAt_app (p q r : List Int) {a k : Nat} (ha : p.length = a) (hk : q.length = k) : nAt (p ++ (q ++ r)) a k = numOf q := by
  unfold nAt; rw [List.drop_left' ha, List.take_left' hk]
theorem nAt_take {l : List Int} {a k m : Nat} (h : a + k ≤ m) : nAt (l.take m) a k = nAt l a k := by
  unfold nAt; rw [List.drop_take, List.take_take, Nat.min_eq_left (by omega)]
theorem arL_at (op fm l tm l' : Int) (b : List Int) (ho : op = 1 ∨ op = 2) (f0 : 0 ≤ fm) (f1 : fm ≤ 281474976710655) (l0 : 0 ≤ l) (l1 : l ≤ 4294967295) (t0 : 0 ≤ tm) (t1 : tm ≤ 281474976710655) (m0 : 0 ≤ l') (m1 : l' ≤ 4294967295) :
    okA (arL op fm l tm l' ++ b) = true ∧ nAt (arL op fm l tm l' ++ b) 6 2 = op ∧ nAt (arL op fm l tm l' ++ b) 8 6 = fm ∧ nAt (arL op fm l tm l' ++ b) 14 4 = l ∧ nAt (arL op fm l tm l' ++ b) 18 6 = tm ∧ nAt (arL op fm l tm l' ++ b) 24 4 = l' := by
  have p6 : (256 : Int) ^ 6 = 281474976710656 := by decide
  have p4 : (256 : Int) ^ 4 = 4294967296 := by decide
  have p2 : (256 : Int) ^ 2 = 65536 := by decide
  have e1 : nAt (arL op fm l tm l' ++ b) 6 2 = op := by
    have := nAt_app [0, 1, 8, 0, 6, 4] (putOf 2 op) (putOf 6 fm ++ (putOf 4 l ++ (putOf 6 tm ++ (putOf 4 l' ++ b)))) (a := 6) rfl (putOf_len 2 op)
    rw [numOf_put (by omega) (by omega)] at this
    simpa [arL] using this
  have e2 : nAt (arL op fm l tm l' ++ b) 8 6 = fm := by
    have := nAt_app ([0, 1, 8, 0, 6, 4] ++ putOf 2 op) (putOf 6 fm) (putOf 4 l ++ (putOf 6 tm ++ (putOf 4 l' ++ b))) (a := 8) (by simp [putOf_len]) (putOf_len 6 fm)
    rw [numOf_put (by omega) (by omega)] at this
    simpa [arL] using this
  have e3 : nAt (arL op fm l tm l' ++ b) 14 4 = l := by
    have := nAt_app ([0, 1, 8, 0, 6, 4] ++ putOf 2 op ++ putOf 6 fm) (putOf 4 l) (putOf 6 tm ++ (putOf 4 l' ++ b)) (a := 14) (by simp [putOf_len]) (putOf_len 4 l)
    rw [numOf_put (by omega) (by omega)] at this
    simpa [arL] using this
  have e4 : nAt (arL op fm l tm l' ++ b) 18 6 = tm := by
    have := nAt_app ([0, 1, 8, 0, 6, 4] ++ putOf 2 op ++ putOf 6 fm ++ putOf 4 l) (putOf 6 tm) (putOf 4 l' ++ b) (a := 18) (by simp [putOf_len]) (putOf_len 6 tm)
    rw [numOf_put (by omega) (by omega)] at this
    simpa [arL] using this
  have e5 : nAt (arL op fm l tm l' ++ b) 24 4 = l' := by
    have := nAt_app ([0, 1, 8, 0, 6, 4] ++ putOf 2 op ++ putOf 6 fm ++ putOf 4 l ++ putOf 6 tm) (putOf 4 l') b (a := 24) (by simp [putOf_len]) (putOf_len 4 l')
    rw [numOf_put (by omega) (by omega)] at this
    simpa [arL] using this
  refine ⟨?_, e1, e2, e3, e4, e5⟩
  have e6 : (arL op fm l tm l' ++ b).take 6 = [0, 1, 8, 0, 6, 4] := by
    have := List.take_left' (l₁ := [0, 1, 8, 0, 6, 4]) (l₂ := putOf 2 op ++ (putOf 6 fm ++ (putOf 4 l ++ (putOf 6 tm ++ (putOf 4 l' ++ b))))) (i := 6) rfl
    simp [arL]
  unfold okA
  rw [e6, e1]
  rcases ho with rfl | rfl <;> decide
/-- What is laid is taken up, whatever stands behind. -/
theorem ta_la (op fm l tm l' : Int) (b : ByteArray) (ho : op = 1 ∨ op = 2) (f0 : 0 ≤ fm) (f1 : fm ≤ 281474976710655) (l0 : 0 ≤ l) (l1 : l ≤ 4294967295) (t0 : 0 ≤ tm) (t1 : tm ≤ 281474976710655) (m0 : 0 ≤ l') (m1 : l' ≤ 4294967295) :
    taV (strOfNums (arL op fm l tm l') ++ b) = .tuple #[arpv op fm false 0 l tm false 0 l', .int .i64 0] := by
  obtain ⟨a1, a2, a3, a4, a5, a6⟩ := arL_at op fm l tm l' (byt b) ho f0 f1 l0 l1 t0 t1 m0 m1
  have hs : 28 ≤ (strOfNums (arL op fm l tm l') ++ b).size := by rw [ByteArray.size_append, strOfNums_size, arL_len]; omega
  unfold taV
  rw [if_neg (by omega), byt_add, byt_str (arL_by _ _ _ _ _), a1, if_neg (by decide), a2, a3, a4, a5, a6]
theorem ta_short {s : ByteArray} (h : s.size < 28) : taV s = .tuple #[noArp, .int .i64 41] := by unfold taV; rw [if_pos h]

/-- What a digit of base sixteen says. -/
def xdv (c : UInt8) : Option Nat :=
  if 48 ≤ c.toNat ∧ c.toNat ≤ 57 then some (c.toNat - 48) else if 97 ≤ c.toNat ∧ c.toNat ≤ 102 then some (c.toNat - 87) else if 65 ≤ c.toNat ∧ c.toNat ≤ 70 then some (c.toNat - 55) else none
theorem xdv_lt {c : UInt8} {d : Nat} (h : xdv c = some d) : d < 16 := by
  unfold xdv at h
  split at h
  · injection h with h; omega
  · split at h
    · injection h with h; omega
    · split at h
      · injection h with h; omega
      · cases h
/-- What a link's address says, from a place on. -/
def pmF : Nat → List UInt8 → Nat → Option Nat
  | _, [], a => some a
  | i, c :: r, a => if i % 3 = 2 then (if c = 58 then pmF (i + 1) r a else none) else match xdv c with
    | some d => pmF (i + 1) r (a * 16 + d)
    | none => none
/-- What ether.ParseMac answers. -/
def pmV (s : ByteArray) : Value :=
  if s.size = 17 then (match pmF 0 s.data.toList 0 with | some n => .tuple #[.int .u64 (n : Int), .int .i64 0] | none => .tuple #[.int .u64 0, .int .i64 40]) else .tuple #[.int .u64 0, .int .i64 40]
theorem pmF_mark {i a : Nat} {r : List UInt8} (h : i % 3 = 2) : pmF i (58 :: r) a = pmF (i + 1) r a := by simp [pmF, h]
theorem pmF_bad {i a : Nat} {c : UInt8} {r : List UInt8} (h : i % 3 = 2) (hc : c ≠ 58) : pmF i (c :: r) a = none := by simp [pmF, h, hc]
theorem pmF_digit {i a d : Nat} {c : UInt8} {r : List UInt8} (h : ¬ i % 3 = 2) (hc : xdv c = some d) : pmF i (c :: r) a = pmF (i + 1) r (a * 16 + d) := by simp [pmF, h, hc]
theorem pmF_none {i a : Nat} {c : UInt8} {r : List UInt8} (h : ¬ i % 3 = 2) (hc : xdv c = none) : pmF i (c :: r) a = none := by simp [pmF, h, hc]
theorem pm_grow {a d i : Nat} (ha : a < 16 ^ (i - i / 3)) (hd : d < 16) (h : ¬ i % 3 = 2) : a * 16 + d < 16 ^ ((i + 1) - (i + 1) / 3) := by
  have e : (i + 1) - (i + 1) / 3 = (i - i / 3) + 1 := by omega
  rw [e, Nat.pow_succ]; omega
theorem pm_same {a i : Nat} (ha : a < 16 ^ (i - i / 3)) (h : i % 3 = 2) : a < 16 ^ ((i + 1) - (i + 1) / 3) := by
  have e : (i + 1) - (i + 1) / 3 = i - i / 3 := by omega
  rw [e]; exact ha
theorem pm_bd {a i : Nat} (ha : a < 16 ^ (i - i / 3)) (h : i ≤ 17) : a < 281474976710656 := by
  have e : (16 : Nat) ^ (i - i / 3) ≤ 16 ^ 12 := Nat.pow_le_pow_right (by decide) (by omega)
  have e2 : (16 : Nat) ^ 12 = 281474976710656 := by decide
  omega
theorem pm_bd2 {a i : Nat} (ha : a < 16 ^ (i - i / 3)) (h : i < 17) (h3 : ¬ i % 3 = 2) : a < 17592186044416 := by
  have e : (16 : Nat) ^ (i - i / 3) ≤ 16 ^ 11 := Nat.pow_le_pow_right (by decide) (by omega)
  have e2 : (16 : Nat) ^ 11 = 17592186044416 := by decide
  omega

/-- A digit of base sixteen. -/
def xdg (d : Int) : UInt8 := if d < 10 then UInt8.ofNat (48 + d.toNat) else UInt8.ofNat (87 + d.toNat)
theorem xdv_xdg : ∀ m : Fin 16, xdv (xdg (m.val : Int)) = some m.val := by decide +kernel
theorem xdv_dg {d : Int} (h0 : 0 ≤ d) (h1 : d < 16) : xdv (xdg d) = some d.toNat := by
  have := xdv_xdg ⟨d.toNat, by omega⟩
  simp only at this
  rwa [show ((d.toNat : Nat) : Int) = d by omega] at this
def two (z : Int) : List UInt8 := [xdg (z / 16), xdg (z % 16)]
/-- Bytes, two digits each, a mark between. -/
def mtx : List Int → List UInt8
  | [] => []
  | z :: r => two z ++ (match r with | [] => [] | _ => 58 :: mtx r)
theorem mtx_one (z : Int) : mtx [z] = two z := by simp [mtx]
theorem mtx_cons (z y : Int) (r : List Int) : mtx (z :: y :: r) = two z ++ 58 :: mtx (y :: r) := by simp [mtx]
theorem mtx_snoc : ∀ (l : List Int) (z : Int), l ≠ [] → mtx (l ++ [z]) = mtx l ++ 58 :: two z
  | [], z, h => absurd rfl h
  | [x], z, _ => by rw [List.singleton_append, mtx_cons, mtx_one, mtx_one]
  | x :: y :: r, z, _ => by
    have ih := mtx_snoc (y :: r) z (by simp)
    rw [List.cons_append, List.cons_append, mtx_cons, mtx_cons, ← List.cons_append, ih]
    simp
theorem mtx_len : ∀ l : List Int, (mtx l).length ≤ 3 * l.length
  | [] => by simp [mtx]
  | [x] => by rw [mtx_one]; simp [two]
  | x :: y :: r => by
    have ih := mtx_len (y :: r)
    rw [mtx_cons]
    simp only [two, List.length_append, List.length_cons, List.length_nil] at ih ⊢
    omega
theorem mtx_len17 : ∀ l : List Int, l ≠ [] → (mtx l).length + 1 = 3 * l.length
  | [], h => absurd rfl h
  | [x], _ => by rw [mtx_one]; simp [two]
  | x :: y :: r, _ => by
    have ih := mtx_len17 (y :: r) (by simp)
    rw [mtx_cons]
    simp only [two, List.length_append, List.length_cons, List.length_nil] at ih ⊢
    omega
theorem pmF_two {z : Int} (h0 : 0 ≤ z) (h1 : z ≤ 255) {i a : Nat} (hi : i % 3 = 0) (r : List UInt8) : pmF i (two z ++ r) a = pmF (i + 2) r (a * 256 + z.toNat) := by
  show pmF i (xdg (z / 16) :: xdg (z % 16) :: r) a = _
  rw [pmF_digit (by omega) (xdv_dg (d := z / 16) (by omega) (by omega)), pmF_digit (by omega) (xdv_dg (d := z % 16) (by omega) (by omega))]
  have e : (a * 16 + (z / 16).toNat) * 16 + (z % 16).toNat = a * 256 + z.toNat := by omega
  rw [e]
theorem numOf_cons (z : Int) (r : List Int) : numOf (z :: r) = z * 256 ^ r.length + numOf r := by
  have := numOf_append [z] r
  rw [show numOf [z] = z by simp [numOf]] at this
  exact this
theorem numOf_pos {l : List Int} (h : By l) : 0 ≤ numOf l := (numOf_bd l.length l rfl h).1
theorem pmF_mtx : ∀ (l : List Int) (i a : Nat), By l → i % 3 = 0 → pmF i (mtx l) a = some (a * 256 ^ l.length + (numOf l).toNat)
  | [], i, a, _, _ => by simp [mtx, pmF, numOf]
  | [z], i, a, hb, hi => by
    have hz := hb z (by simp)
    have := pmF_two hz.1 hz.2 (a := a) hi []
    rw [List.append_nil] at this
    rw [mtx_one, this]
    simp [pmF, numOf]
  | z :: y :: r, i, a, hb, hi => by
    have hz := hb z (by simp)
    have hb2 : By (y :: r) := fun x hx => hb x (List.mem_cons_of_mem _ hx)
    have ih := pmF_mtx (y :: r) (i + 3) (a * 256 + z.toNat) hb2 (by omega)
    rw [mtx_cons, pmF_two hz.1 hz.2 hi, pmF_mark (by omega), show i + 2 + 1 = i + 3 by omega, ih, numOf_cons z (y :: r)]
    have hp := numOf_pos hb2
    congr 1
    generalize hL : (y :: r).length = L at *
    have e1 : (z :: y :: r).length = L + 1 := by rw [List.length_cons, hL]
    rw [e1, Nat.pow_succ]
    have e2 : (z * 256 ^ L + numOf (y :: r)).toNat = z.toNat * 256 ^ L + (numOf (y :: r)).toNat := by
      have h1 : z = (z.toNat : Int) := by omega
      have h2 : numOf (y :: r) = ((numOf (y :: r)).toNat : Int) := by omega
      have h3 : z * 256 ^ L + numOf (y :: r) = ((z.toNat * 256 ^ L + (numOf (y :: r)).toNat : Nat) : Int) := by
        rw [Int.natCast_add, Int.natCast_mul, Int.natCast_pow, ← h1, ← h2]; rfl
      rw [h3, Int.toNat_natCast]
    rw [e2, Nat.add_mul, Nat.mul_assoc, Nat.mul_comm 256 (256 ^ L)]
    omega
/-- What ether.PrintMac answers. -/
def prM (m : Int) : ByteArray := if mcB m = true then ⟨(mtx (putOf 6 m)).toArray⟩ else ⟨#[]⟩
/-- What is told is read back. -/
theorem pm_pr {m : Int} (h0 : 0 ≤ m) (h1 : mcB m = true) : pmV (prM m) = .tuple #[.int .u64 m, .int .i64 0] := by
  have hm : m ≤ 281474976710655 := by simpa [mcB] using h1
  have e6 : (256 : Int) ^ 6 = 281474976710656 := by decide
  have hne : putOf 6 m ≠ [] := by intro h; have := putOf_len 6 m; rw [h] at this; cases this
  have hl := mtx_len17 (putOf 6 m) hne
  rw [putOf_len] at hl
  have hs : (prM m).size = 17 := by
    unfold prM; rw [if_pos h1]
    show (mtx (putOf 6 m)).toArray.size = 17
    rw [List.size_toArray]; omega
  have hd : (prM m).data.toList = mtx (putOf 6 m) := by unfold prM; rw [if_pos h1]
  unfold pmV
  rw [if_pos hs, hd, pmF_mtx _ 0 0 (putOf_by 6 m) rfl, numOf_put h0 (by omega)]
  simp only [Nat.zero_mul, Nat.zero_add]
  rw [show ((m.toNat : Nat) : Int) = m by omega]

/-- The class of an address. -/
def clsV (s : Bool) (h l : Int) : Int :=
  if (s || (decide (h = 0) && decide (l ≤ 4294967295))) = false then -1 else
  if s = true then (if h = 0 ∧ l = 0 then 0 else if h = 0 ∧ l = 1 then 1 else if h / 18014398509481984 = 1018 then 2 else if h / 72057594037927936 = 255 then 3 else 5)
  else (if l = 0 then 0 else if l / 16777216 = 127 then 1 else if l / 65536 = 43518 then 2 else if l = 4294967295 then 4 else if l / 268435456 = 14 then 3 else 5)
/-- The link's address of a group. -/
def egrV (s : Bool) (h l : Int) : Int :=
  if clsV s h l = 4 then 281474976710655 else if clsV s h l = 3 then (if s = true then 56294136348672 + l % 4294967296 else 1101088686080 + l % 8388608) else 0
theorem or_hi (k X z : Nat) (hz : z < 2 ^ k) (hX : 2 ^ k * X + z < 18446744073709551616) : bits .or .u64 (((2 ^ k * X : Nat)) : Int) (z : Int) = ((2 ^ k * X + z : Nat) : Int) := by
  rw [u64_or_nat _ _ (by omega) (by omega), ← Nat.two_pow_add_eq_or_of_lt hz]
theorem and_low (k x : Nat) (hx : x < 18446744073709551616) (hk : k ≤ 63) : bits .and .u64 (x : Int) ((2 ^ k - 1 : Nat) : Int) = ((x % 2 ^ k : Nat) : Int) := by
  have h2 : 2 ^ k ≤ 2 ^ 63 := Nat.pow_le_pow_right (by decide) hk
  rw [u64_and_nat _ _ hx (by omega), Nat.and_two_pow_sub_one_eq_mod]
theorem grp_six (l : Int) (h0 : 0 ≤ l) (h1 : l ≤ 18446744073709551615) : bits .or .u64 56294136348672 (bits .and .u64 l 4294967295) = 56294136348672 + l % 4294967296 := by
  obtain ⟨u, rfl⟩ : ∃ u : Nat, l = u := ⟨l.toNat, by omega⟩
  have e1 := and_low 32 u (by omega) (by decide)
  rw [show ((2 ^ 32 - 1 : Nat) : Int) = 4294967295 from rfl] at e1
  have e2 := or_hi 32 13107 (u % 2 ^ 32) (Nat.mod_lt _ (by decide)) (by have := Nat.mod_lt u (show 0 < 2 ^ 32 by decide); omega)
  rw [show ((2 ^ 32 * 13107 : Nat) : Int) = 56294136348672 from rfl] at e2
  rw [e1, e2]
  have e3 : (2 : Nat) ^ 32 = 4294967296 := by decide
  rw [e3]; omega
theorem grp_four (l : Int) (h0 : 0 ≤ l) (h1 : l ≤ 18446744073709551615) : bits .or .u64 1101088686080 (bits .and .u64 l 8388607) = 1101088686080 + l % 8388608 := by
  obtain ⟨u, rfl⟩ : ∃ u : Nat, l = u := ⟨l.toNat, by omega⟩
  have e1 := and_low 23 u (by omega) (by decide)
  rw [show ((2 ^ 23 - 1 : Nat) : Int) = 8388607 from rfl] at e1
  have e2 := or_hi 23 131260 (u % 2 ^ 23) (Nat.mod_lt _ (by decide)) (by have := Nat.mod_lt u (show 0 < 2 ^ 23 by decide); omega)
  rw [show ((2 ^ 23 * 131260 : Nat) : Int) = 1101088686080 from rfl] at e2
  rw [e1, e2]
  have e3 : (2 : Nat) ^ 23 = 8388608 := by decide
  rw [e3]; omega
end Go.Proofs.Ytlbkphnbpenbcaa
