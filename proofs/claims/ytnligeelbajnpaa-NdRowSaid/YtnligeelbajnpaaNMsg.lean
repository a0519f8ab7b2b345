/-
  Plain numbers of layer 9: what is asked and told, as a message; what a message is taken as.
-/
import Derived.Test.YtnligeelbajnpaaINum
import Derived.Test.YtnligeelbajnpaaNNum
namespace Go.Proofs.Ytnligeelbajnpaa
open Go.RowKit
set_option linter.unusedVariables false

/-- May be spoken of an address? -/
def whmB (s : Bool) (h l : Int) : Bool := s && !(clsV s h l == 3) && !(clsV s h l == 0)
/-- What is asked. -/
structure Sol where
  s : Bool
  h : Int
  l : Int
  y : Bool
  m : Int
abbrev solC (x : Sol) : Array Value := #[.bool x.s, .int .u64 x.h, .int .u64 x.l, .bool x.y, .int .u64 x.m]
abbrev Sol.val (x : Sol) : Value := .agg (solC x)
def noSol : Sol := ⟨false, 0, 0, false, 0⟩
/-- What is told. -/
structure Adv where
  s : Bool
  h : Int
  l : Int
  r : Bool
  a : Bool
  o : Bool
  y : Bool
  m : Int
abbrev advC (x : Adv) : Array Value := #[.bool x.s, .int .u64 x.h, .int .u64 x.l, .bool x.r, .bool x.a, .bool x.o, .bool x.y, .int .u64 x.m]
abbrev Adv.val (x : Adv) : Value := .agg (advC x)
def noAdv : Adv := ⟨false, 0, 0, false, false, false, false, 0⟩
def rgtB (s : Bool) (h l : Int) (y : Bool) (m : Int) : Bool := whmB s h l && decide (m < 281474976710656) && (y || decide (m = 0))
/-- A message's data. -/
def datN (h l : Int) (y : Bool) (kd m : Int) : List Int := (putOf 8 h ++ putOf 8 l) ++ (if y then [kd, 1] ++ putOf 6 m else [])
theorem datN_by {h l : Int} {y : Bool} {kd m : Int} (hk : 0 ≤ kd ∧ kd ≤ 255) : By (datN h l y kd m) := by
  unfold datN
  refine ((putOf_by 8 _).app (putOf_by 8 _)).app ?_
  split
  · refine By.app (fun z hz => ?_) (putOf_by 6 _)
    rcases List.mem_cons.1 hz with h | h
    · rw [h]; exact hk
    · rw [List.mem_singleton.1 h]; decide
  · exact fun z hz => by cases hz
theorem datN_len (h l : Int) (y : Bool) (kd m : Int) : (datN h l y kd m).length = if y then 24 else 16 := by
  unfold datN
  cases y <;> simp [putOf_len]
def rstA (r a o : Bool) : Int := (if r then 2147483648 else 0) + (if a then 1073741824 else 0) + (if o then 536870912 else 0)
/-- What Ask, what Tell answers. -/
def askR (x : Sol) : Ms × Int := if rgtB x.s x.h x.l x.y x.m then (⟨true, 135, 0, 0, strOfNums (datN x.h x.l x.y 1 x.m)⟩, 0) else (noM, 80)
def telR (x : Adv) : Ms × Int := if rgtB x.s x.h x.l x.y x.m then (⟨true, 136, 0, rstA x.r x.a x.o, strOfNums (datN x.h x.l x.y 2 x.m)⟩, 0) else (noM, 80)
/-- The address and the options of a message. -/
def tkN (m : Ms) (kind : Int) : (Int × Int × List Opt9) × Int :=
  if m.s = false ∨ m.k ≠ kind ∨ m.c ≠ 0 then ((0, 0, []), 80) else if m.d.size < 16 then ((0, 0, []), 81) else
  if whmB true (nAt (byt m.d) 0 8) (nAt (byt m.d) 8 8) = false then ((0, 0, []), 80) else
  if (ops (m.d.data.toList.drop 16)).2 ≠ 0 then ((0, 0, []), (ops (m.d.data.toList.drop 16)).2) else ((nAt (byt m.d) 0 8, nAt (byt m.d) 8 8, (ops (m.d.data.toList.drop 16)).1), 0)
def macN (kind : Nat) (l : List Opt9) : Bool × Int := match macO kind l with
  | some d => (true, numOf (d.map fun b => (b.toNat : Int)))
  | none => (false, 0)
def tkAsk (m : Ms) : Sol × Int := if (tkN m 135).2 = 0 then (⟨true, (tkN m 135).1.1, (tkN m 135).1.2.1, (macN 1 (tkN m 135).1.2.2).1, (macN 1 (tkN m 135).1.2.2).2⟩, 0) else (noSol, (tkN m 135).2)
def tkTel (m : Ms) : Adv × Int := if (tkN m 136).2 = 0 then (⟨true, (tkN m 136).1.1, (tkN m 136).1.2.1, decide (m.r / 2147483648 % 2 = 1), decide (m.r / 1073741824 % 2 = 1), decide (m.r / 536870912 % 2 = 1), (macN 2 (tkN m 136).1.2.2).1, (macN 2 (tkN m 136).1.2.2).2⟩, 0) else (noAdv, (tkN m 136).2)
theorem tkN_kind {m : Ms} {kind : Int} (h : m.k ≠ kind) : (tkN m kind).2 = 80 := by unfold tkN; rw [if_pos (.inr (.inl h))]
structure WfT (h l m : Int) : Prop where
  h : 0 ≤ h ∧ h ≤ 18446744073709551615
  l : 0 ≤ l ∧ l ≤ 18446744073709551615
  m : 0 ≤ m
def u8l (l : List Int) : List UInt8 := l.map fun z => UInt8.ofNat z.toNat
theorem str_list (l : List Int) : (strOfNums l).data.toList = u8l l := by
  rw [strOfNums_data]; rfl
theorem u8l_back {l : List Int} (h : By l) : (u8l l).map (fun b => (b.toNat : Int)) = l := by
  have := byt_str h
  unfold byt at this
  rwa [str_list] at this
/-- A message with such data, and more behind it. -/
theorem tkN_dat (h l : Int) (y : Bool) (kd : UInt8) (m r kind : Int) (hw : WfT h l m) (hm : m < 281474976710656) (hk : whmB true h l = true) (more : List UInt8) (ho : (ops more).2 = 0) :
    tkN ⟨true, kind, 0, r, strOfNums (datN h l y (kd.toNat : Int) m) ++ ⟨more.toArray⟩⟩ kind = ((h, l, (if y then [(kd, u8l (putOf 6 m))] else []) ++ (ops more).1), 0) := by
  have hkd : 0 ≤ ((kd.toNat : Nat) : Int) ∧ ((kd.toNat : Nat) : Int) ≤ 255 := by have := UInt8.toNat_lt kd; omega
  have hby := datN_by (h := h) (l := l) (y := y) (m := m) hkd
  have hb : byt (strOfNums (datN h l y (kd.toNat : Int) m) ++ ⟨more.toArray⟩) = datN h l y (kd.toNat : Int) m ++ byt ⟨more.toArray⟩ := by rw [byt_add, byt_str hby]
  have hsz : 16 ≤ (strOfNums (datN h l y (kd.toNat : Int) m) ++ ⟨more.toArray⟩).size := by
    rw [ByteArray.size_append, strOfNums_size, datN_len]; split <;> omega
  have e8 : (256 : Int) ^ 8 = 18446744073709551616 := by decide
  have n0 : nAt (byt (strOfNums (datN h l y (kd.toNat : Int) m) ++ ⟨more.toArray⟩)) 0 8 = h := by
    rw [hb]
    unfold datN
    rw [show (putOf 8 h ++ putOf 8 l ++ (if y = true then [(kd.toNat : Int), 1] ++ putOf 6 m else [])) ++ byt ⟨more.toArray⟩ = [] ++ (putOf 8 h ++ (putOf 8 l ++ ((if y = true then [(kd.toNat : Int), 1] ++ putOf 6 m else []) ++ byt ⟨more.toArray⟩))) by simp, nAt_app ([] : List Int) (putOf 8 h) _ (a := 0) rfl (putOf_len 8 _)]
    exact numOf_put hw.h.1 (by rw [e8]; have := hw.h.2; omega)
  have n8 : nAt (byt (strOfNums (datN h l y (kd.toNat : Int) m) ++ ⟨more.toArray⟩)) 8 8 = l := by
    rw [hb]
    unfold datN
    rw [show (putOf 8 h ++ putOf 8 l ++ (if y = true then [(kd.toNat : Int), 1] ++ putOf 6 m else [])) ++ byt ⟨more.toArray⟩ = putOf 8 h ++ (putOf 8 l ++ ((if y = true then [(kd.toNat : Int), 1] ++ putOf 6 m else []) ++ byt ⟨more.toArray⟩)) by simp, nAt_app _ _ _ (putOf_len 8 _) (putOf_len 8 _)]
    exact numOf_put hw.l.1 (by rw [e8]; have := hw.l.2; omega)
  have hd : (strOfNums (datN h l y (kd.toNat : Int) m) ++ ⟨more.toArray⟩).data.toList.drop 16 = (if y then kd :: 1 :: u8l (putOf 6 m) else []) ++ more := by
    rw [ByteArray.data_append, Array.toList_append, str_list]
    have e : u8l (datN h l y (kd.toNat : Int) m) = u8l (putOf 8 h ++ putOf 8 l) ++ (if y then kd :: 1 :: u8l (putOf 6 m) else []) := by
      unfold datN u8l
      rw [List.map_append]
      congr 1
      cases y
      · rfl
      · simp
    rw [e, List.append_assoc]
    have := List.drop_left' (l₁ := u8l (putOf 8 h ++ putOf 8 l)) (l₂ := (if y then kd :: 1 :: u8l (putOf 6 m) else []) ++ (⟨more.toArray⟩ : ByteArray).data.toList) (i := 16) (by simp [u8l, putOf_len])
    rw [this]
  have hops : ops ((if y then kd :: 1 :: u8l (putOf 6 m) else []) ++ more) = ((if y then [(kd, u8l (putOf 6 m))] else []) ++ (ops more).1, 0) := by
    cases y
    · simp only [Bool.false_eq_true, if_false, List.nil_append]
      exact Prod.ext rfl ho
    · simp only [if_true, List.cons_append, List.nil_append]
      rw [ops_step kd 1 _ more (by decide) (by simp [u8l, putOf_len])]
      unfold consO
      rw [if_pos ho]
  unfold tkN
  rw [if_neg (by simp), if_neg (Nat.not_lt.2 hsz)]
  show (if whmB true (nAt (byt (strOfNums (datN h l y (kd.toNat : Int) m) ++ ⟨more.toArray⟩)) 0 8) (nAt (byt (strOfNums (datN h l y (kd.toNat : Int) m) ++ ⟨more.toArray⟩)) 8 8) = false then _ else _) = _
  rw [n0, n8, hd, hops, hk, if_neg (by decide), if_neg (by simp)]
theorem macN_dat (y : Bool) (kd : UInt8) (m : Int) (h0 : 0 ≤ m) (hm : m < 281474976710656) (hy : y = false → m = 0) (more : List Opt9) (hk : ∀ x ∈ more, x.1.toNat ≠ kd.toNat) :
    macN kd.toNat ((if y then [(kd, u8l (putOf 6 m))] else []) ++ more) = (y, m) := by
  unfold macN
  rw [macO_app _ _ _ hk]
  cases y
  · simp only [Bool.false_eq_true, if_false]
    rw [hy rfl]; rfl
  · simp only [if_true]
    have e : macO kd.toNat [(kd, u8l (putOf 6 m))] = some (u8l (putOf 6 m)) := by
      unfold macO
      rw [List.find?_cons_of_pos (by simp [u8l, putOf_len])]; rfl
    rw [e]
    simp only [u8l_back (putOf_by 6 m)]
    rw [numOf_put h0 (by have e : (256 : Int) ^ 6 = 281474976710656 := by decide
                         rw [e]; exact hm)]
theorem rgt_parts {s : Bool} {h l : Int} {y : Bool} {m : Int} (hr : rgtB s h l y m = true) : s = true ∧ whmB true h l = true ∧ m < 281474976710656 ∧ (y = false → m = 0) := by
  unfold rgtB at hr
  simp only [Bool.and_eq_true, decide_eq_true_eq, Bool.or_eq_true] at hr
  obtain ⟨⟨h1, h2⟩, h3⟩ := hr
  have hs : s = true := by unfold whmB at h1; revert h1; cases s <;> simp
  subst hs
  exact ⟨rfl, h1, h2, fun hy => by rcases h3 with h | h; rw [hy] at h; cases h; exact h⟩
/-- What is asked is taken as what was asked, and not as what is told. -/
theorem ask_back {x : Sol} (hw : WfT x.h x.l x.m) (hr : rgtB x.s x.h x.l x.y x.m = true) : tkAsk (askR x).1 = (x, 0) ∧ tkTel (askR x).1 = (noAdv, 80) := by
  obtain ⟨s, h, l, y, m⟩ := x
  obtain ⟨rfl, hk, hm, hy⟩ := rgt_parts hr
  have e : askR ⟨true, h, l, y, m⟩ = (⟨true, 135, 0, 0, strOfNums (datN h l y 1 m)⟩, 0) := by unfold askR; rw [if_pos hr]
  rw [e]
  have h1 := tkN_dat h l y 1 m 0 135 hw hm hk [] (by rw [ops_nil])
  have ea : strOfNums (datN h l y ((1 : UInt8).toNat : Int) m) ++ ⟨([] : List UInt8).toArray⟩ = strOfNums (datN h l y 1 m) := by
    apply byt_inj
    rw [byt_add]
    simp [byt_mk]
  rw [ea, ops_nil] at h1
  have h2 := macN_dat y 1 m hw.m hm hy [] (fun _ h => by cases h)
  refine ⟨?_, ?_⟩
  · unfold tkAsk
    rw [h1, if_pos rfl]
    simp only
    rw [show (1 : Nat) = (1 : UInt8).toNat from rfl, h2]
  · have h3 : (tkN ⟨true, 135, 0, 0, strOfNums (datN h l y 1 m)⟩ 136).2 = 80 := tkN_kind (show (135 : Int) ≠ 136 by decide)
    unfold tkTel
    rw [h3, if_neg (by decide)]
theorem rst_bits (r a o : Bool) : decide (rstA r a o / 2147483648 % 2 = 1) = r ∧ decide (rstA r a o / 1073741824 % 2 = 1) = a ∧ decide (rstA r a o / 536870912 % 2 = 1) = o := by
  cases r <;> cases a <;> cases o <;> exact ⟨by decide, by decide, by decide⟩
/-- What is told is taken as what was told, with options of other kinds behind it too, and not as what is asked. -/
theorem tel_more {x : Adv} (hw : WfT x.h x.l x.m) (hr : rgtB x.s x.h x.l x.y x.m = true) (more : List UInt8) (ho : (ops more).2 = 0) (hk2 : ∀ o ∈ (ops more).1, o.1.toNat ≠ 2) :
    tkTel { (telR x).1 with d := (telR x).1.d ++ ⟨more.toArray⟩ } = (x, 0) := by
  obtain ⟨s, h, l, r, a, o, y, m⟩ := x
  obtain ⟨rfl, hk, hm, hy⟩ := rgt_parts hr
  have e : telR ⟨true, h, l, r, a, o, y, m⟩ = (⟨true, 136, 0, rstA r a o, strOfNums (datN h l y 2 m)⟩, 0) := by unfold telR; rw [if_pos hr]
  rw [e]
  have h1 := tkN_dat h l y 2 m (rstA r a o) 136 hw hm hk more ho
  have h2 := macN_dat y 2 m hw.m hm hy (ops more).1 hk2
  obtain ⟨b1, b2, b3⟩ := rst_bits r a o
  unfold tkTel
  rw [show ((2 : UInt8).toNat : Int) = 2 from rfl] at h1
  simp only
  rw [h1, if_pos rfl]
  simp only
  rw [show (2 : Nat) = (2 : UInt8).toNat from rfl, h2, b1, b2, b3]
theorem tel_back {x : Adv} (hw : WfT x.h x.l x.m) (hr : rgtB x.s x.h x.l x.y x.m = true) : tkTel (telR x).1 = (x, 0) ∧ tkAsk (telR x).1 = (noSol, 80) := by
  have h := tel_more hw hr [] (by rw [ops_nil]) (by rw [ops_nil]; exact fun _ h => by cases h)
  have e : (telR x).1.d ++ ⟨([] : List UInt8).toArray⟩ = (telR x).1.d := by
    apply byt_inj
    rw [byt_add]
    simp [byt_mk]
  rw [e] at h
  refine ⟨h, ?_⟩
  have h3 : (tkN (telR x).1 135).2 = 80 := tkN_kind (by unfold telR; rw [if_pos hr]; show (136 : Int) ≠ 135; decide)
  unfold tkAsk
  rw [h3, if_neg (by decide)]
/-- An option of a kind that isn't 2, of so many noughts. -/
def oneP (x : UInt8 × UInt8) : List UInt8 := (if x.1.toNat = 2 then 3 else x.1) :: UInt8.ofNat (1 + x.2.toNat % 4) :: List.replicate (8 * (1 + x.2.toNat % 4) - 2) 0
def rowP (l : List (UInt8 × UInt8)) : List UInt8 := l.flatMap oneP
theorem rowP_snoc (l : List (UInt8 × UInt8)) (x : UInt8 × UInt8) : rowP (l ++ [x]) = rowP l ++ oneP x := by simp [rowP]
theorem rowP_ops : ∀ l : List (UInt8 × UInt8), (ops (rowP l)).2 = 0 ∧ ∀ o ∈ (ops (rowP l)).1, o.1.toNat ≠ 2
  | [] => by
    have e : rowP [] = [] := rfl
    rw [e, ops_nil]
    exact ⟨rfl, fun _ h => by cases h⟩
  | x :: l => by
    obtain ⟨h1, h2⟩ := rowP_ops l
    have hn : (UInt8.ofNat (1 + x.2.toNat % 4)).toNat = 1 + x.2.toNat % 4 := by rw [UInt8.toNat_ofNat']; omega
    have e : rowP (x :: l) = (if x.1.toNat = 2 then 3 else x.1) :: UInt8.ofNat (1 + x.2.toNat % 4) :: (List.replicate (8 * (1 + x.2.toNat % 4) - 2) 0 ++ rowP l) := by simp [rowP, oneP]
    rw [e, ops_step _ _ _ _ (by omega) (by rw [List.length_replicate, hn]; omega)]
    unfold consO
    rw [if_pos h1]
    refine ⟨rfl, fun o ho => ?_⟩
    rcases List.mem_cons.1 ho with h | h
    · rw [h]
      show (if x.1.toNat = 2 then (3 : UInt8) else x.1).toNat ≠ 2
      split
      · decide
      · assumption
    · exact h2 o h
end Go.Proofs.Ytnligeelbajnpaa
