/-
  Plain numbers of layer 8: a message, what it is laid as, what bytes are taken up as; what becomes of a sum.
-/
import Derived.Test.YtnligeelbajnpaaEMac
import Derived.Test.YtnligeelbajnpaaFold
namespace Go.Proofs.Ytnligeelbajnpaa
open Go.RowKit
set_option linter.unusedVariables false

/-- A message. -/
structure Ms where
  s : Bool
  k : Int
  c : Int
  r : Int
  d : ByteArray
abbrev mcs (m : Ms) : Array Value := #[.bool m.s, .int .i64 m.k, .int .i64 m.c, .int .i64 m.r, .string m.d]
abbrev Ms.val (m : Ms) : Value := .agg (mcs m)
def noM : Ms := ⟨false, 0, 0, 0, ⟨#[]⟩⟩
def bti (n m : Int) : Bool := decide (0 ≤ n) && decide (n ≤ m)
theorem bti_iff {n m : Int} : bti n m = true ↔ 0 ≤ n ∧ n ≤ m := by simp [bti]
def rgIB (m : Ms) : Bool := bti m.k 255 && bti m.c 255 && bti m.r 4294967295 && decide (m.d.size ≤ 65000)
structure RgI (m : Ms) : Prop where
  k : 0 ≤ m.k ∧ m.k ≤ 255
  c : 0 ≤ m.c ∧ m.c ≤ 255
  r : 0 ≤ m.r ∧ m.r ≤ 4294967295
  d : m.d.size ≤ 65000
theorem rgI_iff {m : Ms} : rgIB m = true ↔ RgI m := by
  unfold rgIB
  simp only [Bool.and_eq_true, bti_iff, decide_eq_true_eq]
  exact ⟨fun ⟨⟨⟨a, b⟩, c⟩, d⟩ => ⟨a, b, c, d⟩, fun h => ⟨⟨⟨h.k, h.c⟩, h.r⟩, h.d⟩⟩
/-- The bytes of a message, with a check. -/
def hdI (m : Ms) (x : Int) : List Int := (putOf 1 m.k ++ putOf 1 m.c) ++ (putOf 2 x ++ putOf 4 m.r)
theorem hdI_len (m : Ms) (x : Int) : (hdI m x).length = 8 := by simp [hdI, putOf_len]
theorem hdI_by (m : Ms) (x : Int) : By (hdI m x) := ((putOf_by 1 _).app (putOf_by 1 _)).app ((putOf_by 2 _).app (putOf_by 4 _))
def allI (m : Ms) (x : Int) : List Int := hdI m x ++ byt m.d
theorem allI_len (m : Ms) (x : Int) : (allI m x).length = 8 + m.d.size := by simp [allI, hdI_len, byt_len]
theorem allI_by (m : Ms) (x : Int) : By (allI m x) := (hdI_by m x).app (byt_by _)
theorem By.bysI {l : List Int} (h : By l) : Bys l := fun z hz => h z hz
theorem tot_putI {x : Int} (h0 : 0 ≤ x) (h1 : x ≤ 65535) {k : Nat} (hk : k % 2 = 0) : tot k (putOf 2 x) = x := by
  show tot k (([] ++ [x / 256 % 256]) ++ [x % 256]) = x
  simp only [List.nil_append, List.cons_append, tot, wt]
  rw [if_pos hk, if_neg (by omega)]
  omega
theorem tot_allI (m : Ms) {x : Int} (h0 : 0 ≤ x) (h1 : x ≤ 65535) : tot 0 (allI m x) = tot 0 (allI m 0) + x := by
  unfold allI hdI
  simp only [tot_append, List.length_append, putOf_len]
  rw [tot_putI h0 h1 (by decide), tot_putI (by decide) (by decide) (by decide)]
  omega
/-- The check, with so much summed up beside. -/
def chI (m : Ms) (X : Int) : Int := 65535 - fo (tot 0 (allI m 0) + X)
theorem chI_bd (m : Ms) {X : Int} (hX : 0 ≤ X) : 0 ≤ chI m X ∧ chI m X ≤ 65535 := by
  have := fo_bd (s := tot 0 (allI m 0) + X) (by have := tot_nonneg (allI_by m 0).bysI 0; omega)
  unfold chI; omega
/-- The sum is all ones. -/
theorem fo_allI (m : Ms) {X : Int} (hX : 0 ≤ X) : fo (tot 0 (allI m (chI m X)) + X) = 65535 := by
  have hc := chI_bd m hX
  have h0 := tot_nonneg (allI_by m 0).bysI 0
  rw [tot_allI m hc.1 hc.2, show tot 0 (allI m 0) + chI m X + X = (tot 0 (allI m 0) + X) + chI m X by omega]
  exact fo_full (by omega)
theorem fo_ones {t : Int} (h : 0 ≤ t) : fo t = 65535 ↔ 0 < t ∧ t % 65535 = 0 := by
  unfold fo
  split <;> omega
/-- What Lay answers: 'ok' if the two ends may be. -/
def lyI (m : Ms) (ok : Bool) (X : Int) : ByteArray × Int := if rgIB m = false ∨ (m.s = true ∧ ok = false) then (⟨#[]⟩, 70) else (strOfNums (allI m (chI m X)), 0)
def pkI (s : ByteArray) (six : Bool) : Ms := ⟨six, nAt (byt s) 0 1, nAt (byt s) 1 1, nAt (byt s) 4 4, s.extract 8 s.size⟩
/-- What Take answers. -/
def tkI (s : ByteArray) (six ok : Bool) (X : Int) : Ms × Int :=
  if six = true ∧ ok = false then (noM, 70) else if s.size < 8 then (noM, 71) else if fo (tot 0 (byt s) + X) ≠ 65535 then (noM, 72) else if 65008 < s.size then (noM, 70) else (pkI s six, 0)
theorem putI (n : Int) : putOf 1 n = [n % 256] := by simp [putOf]
theorem nAt_one {l : List Int} {i : Nat} {z : Int} (h : l[i]? = some z) : nAt l i 1 = z := by
  unfold nAt
  have : (l.drop i).take 1 = [z] := by
    rw [List.take_one, List.head?_drop, h]; rfl
  rw [this]; simp [numOf]
theorem strI_size (m : Ms) (x : Int) : (strOfNums (allI m x)).size = 8 + m.d.size := by rw [strOfNums_size, allI_len]
/-- What is laid is taken up. -/
theorem tk_lyI (m : Ms) (h : RgI m) {ok : Bool} (ho : m.s = true → ok = true) {X : Int} (hX : 0 ≤ X) : tkI (strOfNums (allI m (chI m X))) m.s ok X = (m, 0) := by
  have hs := strI_size m (chI m X)
  have hb : byt (strOfNums (allI m (chI m X))) = allI m (chI m X) := byt_str (allI_by m _)
  have hd := h.d
  unfold tkI
  rw [if_neg (fun ⟨a, b⟩ => by rw [ho a] at b; cases b), hs, if_neg (by omega), hb, fo_allI m hX, if_neg (by decide), if_neg (by omega)]
  have hk := h.k; have hc := h.c; have hr := h.r
  have e0 : nAt (allI m (chI m X)) 0 1 = m.k := nAt_one (by unfold allI hdI; rw [putI]; simp; omega)
  have e1 : nAt (allI m (chI m X)) 1 1 = m.c := nAt_one (by unfold allI hdI; rw [putI, putI]; simp; omega)
  have e4 : nAt (allI m (chI m X)) 4 4 = m.r := by
    have e : allI m (chI m X) = (putOf 1 m.k ++ putOf 1 m.c ++ putOf 2 (chI m X)) ++ (putOf 4 m.r ++ byt m.d) := by simp [allI, hdI]
    rw [e, nAt_app _ _ _ (by simp [putOf_len]) (putOf_len 4 _)]
    exact numOf_put hr.1 (by have e : (256 : Int) ^ 4 = 4294967296 := by decide
                             rw [e]; omega)
  have ed : (strOfNums (allI m (chI m X))).extract 8 (8 + m.d.size) = m.d := by
    apply byt_inj
    have hx : byt ((strOfNums (allI m (chI m X))).extract 8 (8 + m.d.size)) = ((byt (strOfNums (allI m (chI m X)))).take (8 + m.d.size)).drop 8 := by
      unfold byt
      rw [ByteArray.data_extract, Array.toList_extract, List.extract_eq_take_drop, List.map_take, List.map_drop, List.drop_take]
    rw [hx, hb, List.take_of_length_le (by rw [allI_len]; exact Nat.le_refl _)]
    exact List.drop_left' (hdI_len m _)
  unfold pkI
  rw [hb, hs, e0, e1, e4, ed]
/-- A sum that is all ones is none with so little more or less. -/
theorem fo_off {t u : Int} (h0 : 0 ≤ t) (h : fo t = 65535) (hu : 0 ≤ u) (hne : t ≠ u) (hlt : -65535 < u - t ∧ u - t < 65535) : fo u ≠ 65535 := by
  rw [fo_ones h0] at h
  intro he
  rw [fo_ones hu] at he
  omega
/-- The same with what differs by no whole round. -/
theorem fo_apart {t p q : Int} (h0 : 0 ≤ t) (hp : 0 ≤ p) (hq : 0 ≤ q) (h : fo (t + p) = 65535) (hne : p % 65535 ≠ q % 65535) : fo (t + q) ≠ 65535 := by
  rw [fo_ones (by omega)] at h
  intro he
  rw [fo_ones (by omega)] at he
  omega
theorem fo_alike {t p q : Int} (h0 : 0 ≤ t) (hp : 0 ≤ p) (hq : 0 < q) (h : fo (t + p) = 65535) (he : p % 65535 = q % 65535) : fo (t + q) = 65535 := by
  rw [fo_ones (by omega)] at h
  rw [fo_ones (by omega)]
  omega
theorem fo_mod {t : Int} (h : 0 ≤ t) : fo t % 65535 = t % 65535 := by
  unfold fo
  split <;> omega
/-- Two checks that both make all ones are the same, or one all ones and one noughts. -/
theorem two_checks {T a b : Int} (hT : 0 ≤ T) (ha : 0 ≤ a ∧ a ≤ 65535) (hb : 0 ≤ b ∧ b ≤ 65535) (h1 : fo (T + a) = 65535) (h2 : fo (T + b) = 65535) : a = b ∨ ((a = 0 ∨ a = 65535) ∧ (b = 0 ∨ b = 65535)) := by
  rw [fo_ones (by omega)] at h1 h2
  omega
/-- One byte changed. -/
theorem tot_set {l : List Int} {i : Nat} {x y : Int} (h : l[i]? = some x) : tot 0 (l.set i y) = tot 0 l - wt i x + wt i y := by
  obtain ⟨hlt, e⟩ := List.getElem?_eq_some_iff.1 h
  have e1 : l = l.take i ++ x :: l.drop (i + 1) := by
    conv => lhs; rw [← List.take_append_drop i l, List.drop_eq_getElem_cons hlt, e]
  have e2 : l.set i y = l.take i ++ y :: l.drop (i + 1) := by
    rw [List.set_eq_take_append_cons_drop, if_pos hlt]
  have hl : (l.take i).length = i := by simp; omega
  rw [e2]
  conv => rhs; rw [e1]
  rw [tot_append, tot_append, hl]
  simp only [tot, Nat.zero_add]
  omega
theorem wt_off {i : Nat} {x y : Int} (hx : 0 ≤ x ∧ x ≤ 255) (hy : 0 ≤ y ∧ y ≤ 255) (hne : x ≠ y) : wt i x ≠ wt i y ∧ -65535 < wt i y - wt i x ∧ wt i y - wt i x < 65535 := by
  unfold wt
  split <;> omega
theorem nAt_bdI {l : List Int} {i k : Nat} (hb : By l) (h : i + k ≤ l.length) : 0 ≤ nAt l i k ∧ nAt l i k < 256 ^ k := nAt_bd h hb
theorem take_nAt {l : List Int} (hb : By l) (i k : Nat) (h : i + k ≤ l.length) : l.take (i + k) = l.take i ++ putOf k (nAt l i k) := by
  unfold nAt
  rw [putOf_numOf k _ (by simp; omega) ((hb.drop _).take _), List.take_add]
theorem tk_badI {s : ByteArray} {six ok : Bool} {X : Int} (h : (tkI s six ok X).2 ≠ 0) : (tkI s six ok X).1 = noM := by
  unfold tkI at h ⊢
  by_cases h1 : six = true ∧ ok = false
  · rw [if_pos h1]
  rw [if_neg h1] at h ⊢
  by_cases h2 : s.size < 8
  · rw [if_pos h2]
  rw [if_neg h2] at h ⊢
  by_cases h3 : fo (tot 0 (byt s) + X) ≠ 65535
  · rw [if_pos h3]
  rw [if_neg h3] at h ⊢
  by_cases h4 : 65008 < s.size
  · rw [if_pos h4]
  rw [if_neg h4] at h
  exact absurd rfl h
/-- What is taken up is a message that may be, and its bytes are these. -/
theorem tk_okI {s : ByteArray} {six ok : Bool} {X : Int} (h : (tkI s six ok X).2 = 0) : (tkI s six ok X).1 = pkI s six ∧ RgI (pkI s six) ∧ (six = true → ok = true) ∧ 8 ≤ s.size ∧ s.size ≤ 65008 ∧ fo (tot 0 (byt s) + X) = 65535 ∧
    0 ≤ nAt (byt s) 2 2 ∧ nAt (byt s) 2 2 ≤ 65535 ∧ allI (pkI s six) (nAt (byt s) 2 2) = byt s := by
  unfold tkI at h ⊢
  by_cases h1 : six = true ∧ ok = false
  · rw [if_pos h1] at h; cases h
  rw [if_neg h1] at h ⊢
  by_cases h2 : s.size < 8
  · rw [if_pos h2] at h; cases h
  rw [if_neg h2] at h ⊢
  by_cases h3 : fo (tot 0 (byt s) + X) ≠ 65535
  · rw [if_pos h3] at h; cases h
  rw [if_neg h3] at h ⊢
  by_cases h4 : 65008 < s.size
  · rw [if_pos h4] at h; cases h
  rw [if_neg h4]
  have hb := byt_by s
  have hl := byt_len s
  have b0 := nAt_bdI (i := 0) (k := 1) hb (by omega)
  have b1 := nAt_bdI (i := 1) (k := 1) hb (by omega)
  have b2 := nAt_bdI (i := 2) (k := 2) hb (by omega)
  have b4 := nAt_bdI (i := 4) (k := 4) hb (by omega)
  have p1 : (256 : Int) ^ 1 = 256 := by decide
  have p2 : (256 : Int) ^ 2 = 65536 := by decide
  have p4 : (256 : Int) ^ 4 = 4294967296 := by decide
  rw [p1] at b0 b1
  rw [p2] at b2
  rw [p4] at b4
  have hd : (pkI s six).d.size = s.size - 8 := by
    show (s.extract 8 s.size).size = _
    rw [ByteArray.size_extract]; omega
  refine ⟨rfl, ⟨?_, ?_, ?_, by omega⟩, fun e => ?_, by omega, by omega, by simpa using h3, b2.1, by omega, ?_⟩
  · show 0 ≤ nAt (byt s) 0 1 ∧ nAt (byt s) 0 1 ≤ 255; omega
  · show 0 ≤ nAt (byt s) 1 1 ∧ nAt (byt s) 1 1 ≤ 255; omega
  · show 0 ≤ nAt (byt s) 4 4 ∧ nAt (byt s) 4 4 ≤ 4294967295; omega
  · cases ok with
    | true => rfl
    | false => exact absurd ⟨e, rfl⟩ h1
  · have hx : byt (s.extract 8 s.size) = (byt s).drop 8 := by
      unfold byt
      rw [ByteArray.data_extract, Array.toList_extract, List.extract_eq_take_drop, List.map_take, List.map_drop]
      exact List.take_of_length_le (by simp)
    have hh : hdI (pkI s six) (nAt (byt s) 2 2) = (byt s).take 8 := by
      show (putOf 1 (nAt (byt s) 0 1) ++ putOf 1 (nAt (byt s) 1 1)) ++ (putOf 2 (nAt (byt s) 2 2) ++ putOf 4 (nAt (byt s) 4 4)) = _
      rw [show (8 : Nat) = 4 + 4 from rfl, take_nAt hb 4 4 (by omega), show (byt s).take 4 = (byt s).take (2 + 2) from rfl, take_nAt hb 2 2 (by omega), show (byt s).take 2 = (byt s).take (1 + 1) from rfl, take_nAt hb 1 1 (by omega), show (byt s).take 1 = (byt s).take (0 + 1) from rfl, take_nAt hb 0 1 (by omega)]
      simp
    unfold allI
    rw [hh]
    show (byt s).take 8 ++ byt (s.extract 8 s.size) = _
    rw [hx, List.take_append_drop]
/-- The check that was there, and the one that is laid. -/
theorem againI {s : ByteArray} {six ok : Bool} {X : Int} (hX : 0 ≤ X) (h : (tkI s six ok X).2 = 0) :
    nAt (byt s) 2 2 = chI (pkI s six) X ∨ ((nAt (byt s) 2 2 = 0 ∨ nAt (byt s) 2 2 = 65535) ∧ (chI (pkI s six) X = 0 ∨ chI (pkI s six) X = 65535)) := by
  obtain ⟨-, hr, -, -, -, hf, c0, c1, ha⟩ := tk_okI h
  have hb := chI_bd (pkI s six) hX
  have h0 := tot_nonneg (allI_by (pkI s six) 0).bysI 0
  have hf2 := fo_allI (pkI s six) hX
  rw [← ha, tot_allI _ c0 c1] at hf
  rw [tot_allI _ hb.1 hb.2] at hf2
  exact two_checks (T := tot 0 (allI (pkI s six) 0) + X) (by omega) ⟨c0, c1⟩ hb (by rw [← hf]; congr 1; omega) (by rw [← hf2]; congr 1; omega)
end Go.Proofs.Ytnligeelbajnpaa
