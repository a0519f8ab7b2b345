/-
  Plain numbers and texts of layer 6: options, what a packet is laid as, taken as and handed on as.
-/
import Derived.Test.YtbhddodghbhjiaaEMac
import Derived.Test.YtbhddodghbhjiaaFold
namespace Go.Proofs.Ytbhddodghbhjiaa
open Go.RowKit
set_option linter.unusedVariables false

/-- The options that bytes are read as, each with the bytes that it stands in. -/
def opn (l : List UInt8) : Option (List (List UInt8)) :=
  match l with
  | [] => some []
  | c :: r =>
    if c = 0 then some []
    else if c = 1 then (opn r).map ([c] :: ·)
    else match r with
      | [] => none
      | n :: q => if n.toNat < 2 ∨ q.length + 2 < n.toNat then none else (opn (q.drop (n.toNat - 2))).map ((c :: n :: q.take (n.toNat - 2)) :: ·)
termination_by l.length
decreasing_by
  · simp
  · simp; omega
theorem opn_nil : opn [] = some [] := by rw [opn]
theorem opn_zero (r : List UInt8) : opn (0 :: r) = some [] := by rw [opn.eq_def]; simp
theorem opn_one (r : List UInt8) : opn (1 :: r) = (opn r).map ([1] :: ·) := by rw [opn.eq_def]; simp
theorem opn_lone (c : UInt8) (h0 : c ≠ 0) (h1 : c ≠ 1) : opn [c] = none := by rw [opn.eq_def]; simp [h0, h1]
theorem opn_two (c n : UInt8) (q : List UInt8) (h0 : c ≠ 0) (h1 : c ≠ 1) :
    opn (c :: n :: q) = if n.toNat < 2 ∨ q.length + 2 < n.toNat then none else (opn (q.drop (n.toNat - 2))).map ((c :: n :: q.take (n.toNat - 2)) :: ·) := by rw [opn.eq_def]; simp [h0, h1]

/-- Read on from a place. -/
theorem opn_at_end {l : List UInt8} {i : Nat} (h : l.length ≤ i) : opn (l.drop i) = some [] := by rw [List.drop_eq_nil_of_le h, opn_nil]
theorem opn_at_zero {l : List UInt8} {i : Nat} (h : l[i]? = some 0) : opn (l.drop i) = some [] := by
  obtain ⟨hi, e⟩ := List.getElem?_eq_some_iff.1 h
  rw [List.drop_eq_getElem_cons hi, e, opn_zero]
theorem opn_at_one {l : List UInt8} {i : Nat} (h : l[i]? = some 1) : opn (l.drop i) = (opn (l.drop (i + 1))).map ([1] :: ·) := by
  obtain ⟨hi, e⟩ := List.getElem?_eq_some_iff.1 h
  rw [List.drop_eq_getElem_cons hi, e, opn_one]
theorem opn_at_lone {l : List UInt8} {i : Nat} {c : UInt8} (h : l[i]? = some c) (h0 : c ≠ 0) (h1 : c ≠ 1) (hl : l.length = i + 1) : opn (l.drop i) = none := by
  obtain ⟨hi, e⟩ := List.getElem?_eq_some_iff.1 h
  rw [List.drop_eq_getElem_cons hi, e, List.drop_eq_nil_of_le (by omega), opn_lone c h0 h1]
theorem opn_at_two {l : List UInt8} {i : Nat} {c n : UInt8} (h : l[i]? = some c) (hn : l[i + 1]? = some n) (h0 : c ≠ 0) (h1 : c ≠ 1) :
    opn (l.drop i) = if n.toNat < 2 ∨ l.length < i + n.toNat then none else (opn (l.drop (i + n.toNat))).map ((l.drop i).take n.toNat :: ·) := by
  obtain ⟨hi, e⟩ := List.getElem?_eq_some_iff.1 h
  obtain ⟨hi1, e1⟩ := List.getElem?_eq_some_iff.1 hn
  have e2 : l.drop i = c :: n :: l.drop (i + 2) := by rw [List.drop_eq_getElem_cons hi, e, List.drop_eq_getElem_cons hi1, e1]
  rw [e2, opn_two c n _ h0 h1]
  by_cases hb : n.toNat < 2 ∨ l.length < i + n.toNat
  · rw [if_pos hb, if_pos (by rw [List.length_drop]; omega)]
  · rw [if_neg hb, if_neg (by rw [List.length_drop]; omega)]
    obtain ⟨m, hm⟩ : ∃ m, n.toNat = m + 2 := ⟨n.toNat - 2, by omega⟩
    rw [hm, List.drop_drop, show i + 2 + (m + 2 - 2) = i + (m + 2) by omega, show m + 2 - 2 = m by omega]
    rfl

/-- A row of options, each of which says its own length. -/
def Gd (x : List UInt8) : Prop := x = [1] ∨ ∃ c n q, x = c :: n :: q ∧ c ≠ 0 ∧ c ≠ 1 ∧ n.toNat = q.length + 2
theorem opn_gd (l : List UInt8) : ∀ {os}, opn l = some os → ∀ x ∈ os, Gd x := by
  induction hk : l.length using Nat.strongRecOn generalizing l with
  | _ k ih =>
    subst hk
    intro os h x hx
    match l, h, ih with
    | [], h, _ => rw [opn_nil] at h; cases h; cases hx
    | c :: r, h, ih =>
      by_cases h0 : c = 0
      · subst h0; rw [opn_zero] at h; cases h; cases hx
      by_cases h1 : c = 1
      · subst h1
        rw [opn_one] at h
        cases hr : opn r with
        | none => rw [hr] at h; cases h
        | some ps =>
          rw [hr] at h; cases h
          rcases List.mem_cons.1 hx with rfl | hx
          · exact .inl rfl
          · exact ih r.length (by simp) r rfl hr x hx
      match r, h, ih with
      | [], h, _ => rw [opn_lone c h0 h1] at h; cases h
      | n :: q, h, ih =>
        rw [opn_two c n q h0 h1] at h
        split at h
        · cases h
        · rename_i hb
          cases hr : opn (q.drop (n.toNat - 2)) with
          | none => rw [hr] at h; cases h
          | some ps =>
            rw [hr] at h; cases h
            rcases List.mem_cons.1 hx with rfl | hx
            · refine .inr ⟨c, n, _, rfl, h0, h1, ?_⟩
              rw [List.length_take]; omega
            · exact ih _ (by simp; omega) _ rfl hr x hx
theorem opn_flat : ∀ (os : List (List UInt8)) (z : List UInt8), (∀ x ∈ os, Gd x) → opn z = some [] → opn (os.flatten ++ z) = some os
  | [], z, _, hz => by simpa using hz
  | x :: r, z, h, hz => by
    have ih := opn_flat r z (fun y hy => h y (List.mem_cons_of_mem _ hy)) hz
    rcases h x (List.mem_cons_self ..) with rfl | ⟨c, n, q, rfl, h0, h1, hn⟩
    · simp only [List.flatten_cons, List.cons_append, List.nil_append]
      rw [opn_one, ih]; rfl
    · simp only [List.flatten_cons, List.cons_append, List.append_assoc]
      rw [opn_two c n _ h0 h1, if_neg (by rw [List.length_append]; omega), show n.toNat - 2 = q.length by omega, List.drop_left, List.take_left, ih]
      rfl
/-- Noughts up to a multiple of four. -/
def pad4 (l : List UInt8) : List UInt8 := l ++ List.replicate ((4 - l.length % 4) % 4) 0
theorem pad4_len (l : List UInt8) : (pad4 l).length % 4 = 0 := by unfold pad4; rw [List.length_append, List.length_replicate]; omega
def isKept (x : List UInt8) : Bool := match x with
  | [] => false
  | c :: _ => decide (128 ≤ c.toNat)
/-- What is kept of bytes that are options. -/
def keptOf (os : List (List UInt8)) : List UInt8 := (os.filter isKept).flatten
/-- What ip4.Kept answers. -/
def kpL (l : List UInt8) : List UInt8 := match opn l with
  | none => []
  | some os => pad4 (keptOf os)
theorem opn_noughts (n : Nat) : opn (List.replicate n 0) = some [] := by
  cases n with
  | zero => exact opn_nil
  | succ k => rw [List.replicate_succ, opn_zero]
theorem kp_opn (l : List UInt8) : opn (kpL l) = some (match opn l with | none => [] | some os => os.filter isKept) := by
  unfold kpL
  cases h : opn l with
  | none => exact opn_nil
  | some os => exact opn_flat _ _ (fun x hx => opn_gd l h x (List.mem_filter.1 hx).1) (opn_noughts _)
theorem kp_again (l : List UInt8) : kpL (kpL l) = kpL l := by
  have e : ∀ m os, opn m = some os → kpL m = pad4 (keptOf os) := fun m os h => by unfold kpL; rw [h]
  rw [e _ _ (kp_opn l)]
  unfold kpL
  cases h : opn l with
  | none => rfl
  | some os => simp [keptOf, List.filter_filter]
theorem kp_four (l : List UInt8) : (kpL l).length % 4 = 0 := by
  unfold kpL
  split
  · rfl
  · exact pad4_len _
theorem opn_total (l : List UInt8) : ∀ {os}, opn l = some os → os.flatten.length ≤ l.length := by
  induction hk : l.length using Nat.strongRecOn generalizing l with
  | _ k ih =>
    subst hk
    intro os h
    match l, h, ih with
    | [], h, _ => rw [opn_nil] at h; cases h; simp
    | c :: r, h, ih =>
      by_cases h0 : c = 0
      · subst h0; rw [opn_zero] at h; cases h; simp
      by_cases h1 : c = 1
      · subst h1
        rw [opn_one] at h
        cases hr : opn r with
        | none => rw [hr] at h; cases h
        | some ps =>
          rw [hr] at h; cases h
          have := ih r.length (by simp) r rfl hr
          simp only [List.flatten_cons, List.length_append, List.length_cons, List.length_nil]; omega
      match r, h, ih with
      | [], h, _ => rw [opn_lone c h0 h1] at h; cases h
      | n :: q, h, ih =>
        rw [opn_two c n q h0 h1] at h
        split at h
        · cases h
        · cases hr : opn (q.drop (n.toNat - 2)) with
          | none => rw [hr] at h; cases h
          | some ps =>
            rw [hr] at h; cases h
            have := ih (q.drop (n.toNat - 2)).length (by simp; omega) _ rfl hr
            simp only [List.flatten_cons, List.length_append, List.length_cons, List.length_take, List.length_drop] at this ⊢; omega

/-- A packet. -/
structure Pk where
  tos : Int
  id : Int
  df : Bool
  mf : Bool
  off : Int
  ttl : Int
  pro : Int
  s : Bool
  h : Int
  l : Int
  s' : Bool
  h' : Int
  l' : Int
  o : ByteArray
  d : ByteArray
abbrev Pk.val (p : Pk) : Value :=
  .agg #[.int .i64 p.tos, .int .i64 p.id, .bool p.df, .bool p.mf, .int .i64 p.off, .int .i64 p.ttl, .int .i64 p.pro, .bool p.s, .int .u64 p.h, .int .u64 p.l, .bool p.s', .int .u64 p.h', .int .u64 p.l', .string p.o, .string p.d]
abbrev noPk : Pk := ⟨0, 0, false, false, 0, 0, 0, false, 0, 0, false, 0, 0, ⟨#[]⟩, ⟨#[]⟩⟩
def btw (n m : Int) : Bool := decide (0 ≤ n) && decide (n ≤ m)
theorem btw_iff {n m : Int} : btw n m = true ↔ 0 ≤ n ∧ n ≤ m := by simp [btw]
def opB (o : ByteArray) : Bool := (opn o.data.toList).isSome
/-- May it be a packet? -/
def rgB (p : Pk) : Bool :=
  btw p.tos 255 && btw p.ttl 255 && btw p.pro 255 && btw p.id 65535 && btw p.off 8191 && foB p.s p.h p.l && foB p.s' p.h' p.l' && decide (p.o.size ≤ 40) && decide (p.o.size % 4 = 0) && opB p.o
structure Rg (p : Pk) : Prop where
  tos : 0 ≤ p.tos ∧ p.tos ≤ 255
  ttl : 0 ≤ p.ttl ∧ p.ttl ≤ 255
  pro : 0 ≤ p.pro ∧ p.pro ≤ 255
  id : 0 ≤ p.id ∧ p.id ≤ 65535
  off : 0 ≤ p.off ∧ p.off ≤ 8191
  fr : p.s = false ∧ p.h = 0 ∧ p.l ≤ 4294967295
  to : p.s' = false ∧ p.h' = 0 ∧ p.l' ≤ 4294967295
  ol : p.o.size ≤ 40 ∧ p.o.size % 4 = 0
  op : opB p.o = true
theorem foB_iff {s : Bool} {h l : Int} : foB s h l = true ↔ s = false ∧ h = 0 ∧ l ≤ 4294967295 := by simp [foB]
theorem rg_iff {p : Pk} : rgB p = true ↔ Rg p := by
  unfold rgB
  simp only [Bool.and_eq_true, btw_iff, foB_iff, decide_eq_true_eq]
  constructor
  · rintro ⟨⟨⟨⟨⟨⟨⟨⟨⟨a, b⟩, c⟩, d⟩, e⟩, f⟩, g⟩, h⟩, i⟩, j⟩
    exact ⟨a, b, c, d, e, f, g, ⟨h, i⟩, j⟩
  · rintro ⟨a, b, c, d, e, f, g, ⟨h, i⟩, j⟩
    exact ⟨⟨⟨⟨⟨⟨⟨⟨⟨a, b⟩, c⟩, d⟩, e⟩, f⟩, g⟩, h⟩, i⟩, j⟩
/-- The two bytes with Off. -/
def offN (p : Pk) : Int := p.off + (if p.df then 16384 else 0) + (if p.mf then 8192 else 0)
theorem offN_bd {p : Pk} (h : Rg p) : 0 ≤ offN p ∧ offN p ≤ 32767 := by
  have := h.off
  unfold offN; split <;> split <;> omega
def hdA (p : Pk) : List Int := putOf 1 (64 + ((20 + p.o.size : Nat) : Int) / 4) ++ putOf 1 p.tos ++ putOf 2 ((20 + p.o.size + p.d.size : Nat) : Int) ++ putOf 2 p.id ++ putOf 2 (offN p) ++ putOf 1 p.ttl ++ putOf 1 p.pro
def hdZ (p : Pk) : List Int := putOf 4 p.l ++ putOf 4 p.l' ++ byt p.o
/-- The header, with a check. -/
def hdN (p : Pk) (c : Int) : List Int := hdA p ++ (putOf 2 c ++ hdZ p)
theorem hdA_len (p : Pk) : (hdA p).length = 10 := by simp [hdA, putOf_len]
theorem hdA_by (p : Pk) : By (hdA p) := ((((((putOf_by 1 _).app (putOf_by 1 _)).app (putOf_by 2 _)).app (putOf_by 2 _)).app (putOf_by 2 _)).app (putOf_by 1 _)).app (putOf_by 1 _)
theorem hdZ_len (p : Pk) : (hdZ p).length = 8 + p.o.size := by simp [hdZ, putOf_len, byt_len]; omega
theorem hdZ_by (p : Pk) : By (hdZ p) := ((putOf_by 4 _).app (putOf_by 4 _)).app (byt_by _)
theorem hdN_len (p : Pk) (c : Int) : (hdN p c).length = 20 + p.o.size := by simp [hdN, hdA_len, hdZ_len, putOf_len]; omega
theorem hdN_by (p : Pk) (c : Int) : By (hdN p c) := (hdA_by p).app ((putOf_by 2 c).app (hdZ_by p))
/-- What is left of the sum. -/
def chk (p : Pk) : Int := 65535 - fo (tot 0 (hdN p 0))
theorem By.bys2 {l : List Int} (h : By l) : Bys l := fun z hz => h z hz
theorem chk_bd (p : Pk) : 0 ≤ chk p ∧ chk p ≤ 65535 := by
  have := fo_bd (tot_nonneg (hdN_by p 0).bys2 0)
  unfold chk; omega
theorem tot_put2 {c : Int} (h0 : 0 ≤ c) (h1 : c ≤ 65535) {k : Nat} (hk : k % 2 = 0) : tot k (putOf 2 c) = c := by
  show tot k (([] ++ [c / 256 % 256]) ++ [c % 256]) = c
  simp only [List.nil_append, List.cons_append, tot, wt]
  rw [if_pos hk, if_neg (by omega)]
  omega
theorem tot_hdN (p : Pk) {c : Int} (h0 : 0 ≤ c) (h1 : c ≤ 65535) : tot 0 (hdN p c) = tot 0 (hdN p 0) + c := by
  unfold hdN
  rw [tot_append, tot_append, tot_append, tot_append, hdA_len, putOf_len, putOf_len, tot_put2 h0 h1 (by decide), tot_put2 (by decide) (by decide) (by decide)]
  omega
theorem fo_hdN (p : Pk) : fo (tot 0 (hdN p (chk p))) = 65535 := by
  have hc := chk_bd p
  rw [tot_hdN p hc.1 hc.2]
  exact fo_full (tot_nonneg (hdN_by p 0).bys2 0)
/-- What ip4.Lay answers. -/
def lyR (p : Pk) : ByteArray × Int :=
  if rgB p = false then (⟨#[]⟩, 50) else if 65535 < 20 + p.o.size + p.d.size then (⟨#[]⟩, 53) else (strOfNums (hdN p (chk p)) ++ p.d, 0)
abbrev lyRV (p : Pk) : Value := .tuple #[.string (lyR p).1, .int .i64 (lyR p).2]

def f1N (s : ByteArray) : Int := nAt (byt s) 0 1
def hdL (s : ByteArray) : Nat := 4 * ((f1N s).toNat - 64)
def tlN (s : ByteArray) : Nat := (nAt (byt s) 2 2).toNat
def ptN (s : ByteArray) : Int := nAt (byt s) 6 2
/-- The packet that bytes say. -/
def pkS (s : ByteArray) : Pk where
  tos := nAt (byt s) 1 1
  id := nAt (byt s) 4 2
  df := decide (ptN s / 16384 % 2 = 1)
  mf := decide (ptN s / 8192 % 2 = 1)
  off := ptN s % 8192
  ttl := nAt (byt s) 8 1
  pro := nAt (byt s) 9 1
  s := false
  h := 0
  l := nAt (byt s) 12 4
  s' := false
  h' := 0
  l' := nAt (byt s) 16 4
  o := s.extract 20 (hdL s)
  d := s.extract (hdL s) (tlN s)
/-- What ip4.Take answers. -/
def tkR (s : ByteArray) : Pk × Int :=
  if s.size < 20 then (noPk, 51) else
  if f1N s < 69 ∨ 79 < f1N s then (noPk, 50) else
  if s.size < hdL s then (noPk, 51) else
  if fo (tot 0 ((byt s).take (hdL s))) ≠ 65535 then (noPk, 52) else
  if tlN s < hdL s ∨ 32768 ≤ ptN s then (noPk, 50) else
  if s.size < tlN s then (noPk, 51) else
  if opB (s.extract 20 (hdL s)) = false then (noPk, 50) else (pkS s, 0)
abbrev tkRV (s : ByteArray) : Value := .tuple #[(tkR s).1.val, .int .i64 (tkR s).2]
/-- What ip4.Hop answers. -/
def hpR (s : ByteArray) : ByteArray × Int :=
  if (tkR s).2 ≠ 0 then (⟨#[]⟩, (tkR s).2) else if (tkR s).1.ttl ≤ 1 then (⟨#[]⟩, 54) else lyR { (tkR s).1 with ttl := (tkR s).1.ttl - 1 }
/-- A packet whose addresses are numbers. -/
def Wf (p : Pk) : Prop := 0 ≤ p.l ∧ 0 ≤ p.l'

theorem byt_ext (s : ByteArray) (i j : Nat) : byt (s.extract i j) = ((byt s).take j).drop i := by
  unfold byt
  rw [ByteArray.data_extract, Array.toList_extract, List.extract_eq_take_drop, List.map_take, List.map_drop, List.drop_take]
theorem nAt_drop {l : List Int} {a k : Nat} (h : a + k ≤ l.length) (m : List Int) : nAt (l ++ m) a k = nAt l a k := by
  unfold nAt
  rw [List.drop_append_of_le_length (by omega), List.take_append_of_le_length (by simp; omega)]
theorem numOf_one (z : Int) : numOf [z] = z := by simp [numOf]
theorem numOf_two (y z : Int) : numOf [y, z] = y * 256 + z := by simp [numOf]
theorem laid_at (p : Pk) (c : Int) (h : Rg p) (w : Wf p) (h0 : 0 ≤ c) (h1 : c ≤ 65535) (ht : 20 + p.o.size + p.d.size ≤ 65535) (b : List Int) :
    nAt (hdN p c ++ b) 0 1 = 69 + ((p.o.size / 4 : Nat) : Int) ∧ nAt (hdN p c ++ b) 1 1 = p.tos ∧ nAt (hdN p c ++ b) 2 2 = ((20 + p.o.size + p.d.size : Nat) : Int) ∧ nAt (hdN p c ++ b) 4 2 = p.id ∧ nAt (hdN p c ++ b) 6 2 = offN p ∧
    nAt (hdN p c ++ b) 8 1 = p.ttl ∧ nAt (hdN p c ++ b) 9 1 = p.pro ∧ nAt (hdN p c ++ b) 12 4 = p.l ∧ nAt (hdN p c ++ b) 16 4 = p.l' := by
  have p4 : (256 : Int) ^ 4 = 4294967296 := by decide
  have p2 : (256 : Int) ^ 2 = 65536 := by decide
  have p1 : (256 : Int) ^ 1 = 256 := by decide
  have ho := h.ol
  have hoff := offN_bd h
  obtain ⟨w1, w2⟩ := w
  refine ⟨?_, ?_, ?_, ?_, ?_, ?_, ?_, ?_, ?_⟩
  · have := nAt_app [] (putOf 1 (64 + ((20 + p.o.size : Nat) : Int) / 4)) (putOf 1 p.tos ++ (putOf 2 ((20 + p.o.size + p.d.size : Nat) : Int) ++ (putOf 2 p.id ++ (putOf 2 (offN p) ++ (putOf 1 p.ttl ++ (putOf 1 p.pro ++ (putOf 2 c ++ (putOf 4 p.l ++ (putOf 4 p.l' ++ (byt p.o ++ b)))))))))) (a := 0) rfl (putOf_len 1 _)
    rw [numOf_put (by omega) (by omega)] at this
    simp only [hdN, hdA, hdZ, List.append_assoc, List.nil_append] at this ⊢
    rw [this]; omega
  · have := nAt_app (putOf 1 (64 + ((20 + p.o.size : Nat) : Int) / 4)) (putOf 1 p.tos) (putOf 2 ((20 + p.o.size + p.d.size : Nat) : Int) ++ (putOf 2 p.id ++ (putOf 2 (offN p) ++ (putOf 1 p.ttl ++ (putOf 1 p.pro ++ (putOf 2 c ++ (putOf 4 p.l ++ (putOf 4 p.l' ++ (byt p.o ++ b))))))))) (a := 1) (by simp [putOf_len]) (putOf_len 1 _)
    rw [numOf_put h.tos.1 (by have := h.tos; omega)] at this
    simp only [hdN, hdA, hdZ, List.append_assoc] at this ⊢
    exact this
  · have := nAt_app (putOf 1 (64 + ((20 + p.o.size : Nat) : Int) / 4) ++ putOf 1 p.tos) (putOf 2 ((20 + p.o.size + p.d.size : Nat) : Int)) (putOf 2 p.id ++ (putOf 2 (offN p) ++ (putOf 1 p.ttl ++ (putOf 1 p.pro ++ (putOf 2 c ++ (putOf 4 p.l ++ (putOf 4 p.l' ++ (byt p.o ++ b)))))))) (a := 2) (by simp [putOf_len]) (putOf_len 2 _)
    rw [numOf_put (by omega) (by omega)] at this
    simp only [hdN, hdA, hdZ, List.append_assoc] at this ⊢
    exact this
  · have := nAt_app (putOf 1 (64 + ((20 + p.o.size : Nat) : Int) / 4) ++ putOf 1 p.tos ++ putOf 2 ((20 + p.o.size + p.d.size : Nat) : Int)) (putOf 2 p.id) (putOf 2 (offN p) ++ (putOf 1 p.ttl ++ (putOf 1 p.pro ++ (putOf 2 c ++ (putOf 4 p.l ++ (putOf 4 p.l' ++ (byt p.o ++ b))))))) (a := 4) (by simp [putOf_len]) (putOf_len 2 _)
    rw [numOf_put h.id.1 (by have := h.id; omega)] at this
    simp only [hdN, hdA, hdZ, List.append_assoc] at this ⊢
    exact this
  · have := nAt_app (putOf 1 (64 + ((20 + p.o.size : Nat) : Int) / 4) ++ putOf 1 p.tos ++ putOf 2 ((20 + p.o.size + p.d.size : Nat) : Int) ++ putOf 2 p.id) (putOf 2 (offN p)) (putOf 1 p.ttl ++ (putOf 1 p.pro ++ (putOf 2 c ++ (putOf 4 p.l ++ (putOf 4 p.l' ++ (byt p.o ++ b)))))) (a := 6) (by simp [putOf_len]) (putOf_len 2 _)
    rw [numOf_put hoff.1 (by omega)] at this
    simp only [hdN, hdA, hdZ, List.append_assoc] at this ⊢
    exact this
  · have := nAt_app (putOf 1 (64 + ((20 + p.o.size : Nat) : Int) / 4) ++ putOf 1 p.tos ++ putOf 2 ((20 + p.o.size + p.d.size : Nat) : Int) ++ putOf 2 p.id ++ putOf 2 (offN p)) (putOf 1 p.ttl) (putOf 1 p.pro ++ (putOf 2 c ++ (putOf 4 p.l ++ (putOf 4 p.l' ++ (byt p.o ++ b))))) (a := 8) (by simp [putOf_len]) (putOf_len 1 _)
    rw [numOf_put h.ttl.1 (by have := h.ttl; omega)] at this
    simp only [hdN, hdA, hdZ, List.append_assoc] at this ⊢
    exact this
  · have := nAt_app (putOf 1 (64 + ((20 + p.o.size : Nat) : Int) / 4) ++ putOf 1 p.tos ++ putOf 2 ((20 + p.o.size + p.d.size : Nat) : Int) ++ putOf 2 p.id ++ putOf 2 (offN p) ++ putOf 1 p.ttl) (putOf 1 p.pro) (putOf 2 c ++ (putOf 4 p.l ++ (putOf 4 p.l' ++ (byt p.o ++ b)))) (a := 9) (by simp [putOf_len]) (putOf_len 1 _)
    rw [numOf_put h.pro.1 (by have := h.pro; omega)] at this
    simp only [hdN, hdA, hdZ, List.append_assoc] at this ⊢
    exact this
  · have := nAt_app (hdA p ++ putOf 2 c) (putOf 4 p.l) (putOf 4 p.l' ++ (byt p.o ++ b)) (a := 12) (by simp [putOf_len, hdA_len]) (putOf_len 4 _)
    rw [numOf_put w1 (by have := h.fr; omega)] at this
    simp only [hdN, hdZ, List.append_assoc] at this ⊢
    exact this
  · have := nAt_app (hdA p ++ putOf 2 c ++ putOf 4 p.l) (putOf 4 p.l') (byt p.o ++ b) (a := 16) (by simp [putOf_len, hdA_len]) (putOf_len 4 _)
    rw [numOf_put w2 (by have := h.to; omega)] at this
    simp only [hdN, hdZ, List.append_assoc] at this ⊢
    exact this
theorem off_back {p : Pk} (h : Rg p) : offN p % 8192 = p.off ∧ decide (offN p / 16384 % 2 = 1) = p.df ∧ decide (offN p / 8192 % 2 = 1) = p.mf := by
  have := h.off
  unfold offN
  cases p.df <;> cases p.mf <;> simp <;> omega
theorem extract_mid (a b c : ByteArray) : (a ++ b ++ c).extract a.size (a.size + b.size) = b := by
  apply byt_inj
  rw [byt_ext, byt_add, byt_add, ← byt_len, ← byt_len, List.append_assoc, List.take_append, List.take_of_length_le (by omega), show (byt a).length + (byt b).length - (byt a).length = (byt b).length by omega, List.take_left, List.drop_left]
/-- What is laid is taken up, whatever stands behind. -/
theorem tk_lyR (p : Pk) (h : Rg p) (w : Wf p) (ht : 20 + p.o.size + p.d.size ≤ 65535) (x : ByteArray) : tkR (strOfNums (hdN p (chk p)) ++ p.d ++ x) = (p, 0) := by
  obtain ⟨c0, c1⟩ := chk_bd p
  have ho := h.ol
  obtain ⟨S, hS⟩ : ∃ S, S = strOfNums (hdN p (chk p)) ++ p.d ++ x := ⟨_, rfl⟩
  have hb : byt S = hdN p (chk p) ++ (byt p.d ++ byt x) := by rw [hS, byt_add, byt_add, byt_str (hdN_by _ _), List.append_assoc]
  have hsz : S.size = 20 + p.o.size + p.d.size + x.size := by rw [hS, ByteArray.size_append, ByteArray.size_append, strOfNums_size, hdN_len]
  obtain ⟨a0, a1, a2, a3, a4, a5, a6, a7, a8⟩ := laid_at p (chk p) h w c0 c1 ht (byt p.d ++ byt x)
  rw [← hb] at a0 a1 a2 a3 a4 a5 a6 a7 a8
  have hf : f1N S = 69 + ((p.o.size / 4 : Nat) : Int) := a0
  have hH : hdL S = 20 + p.o.size := by unfold hdL; rw [hf]; omega
  have hT : tlN S = 20 + p.o.size + p.d.size := by unfold tlN; rw [a2]; omega
  have hP : ptN S = offN p := a4
  have hoff := offN_bd h
  obtain ⟨b0, b1, b2⟩ := off_back h
  have hsum : (byt S).take (hdL S) = hdN p (chk p) := by rw [hH, hb, ← hdN_len p (chk p), List.take_left]
  have hO : S.extract 20 (hdL S) = p.o := by
    have e : S = strOfNums (hdA p ++ (putOf 2 (chk p) ++ (putOf 4 p.l ++ putOf 4 p.l'))) ++ p.o ++ (p.d ++ x) := by
      rw [hS]
      have : hdN p (chk p) = (hdA p ++ (putOf 2 (chk p) ++ (putOf 4 p.l ++ putOf 4 p.l'))) ++ byt p.o := by simp [hdN, hdZ]
      rw [this, ← str_add, str_byt, ByteArray.append_assoc]
    have := extract_mid (strOfNums (hdA p ++ (putOf 2 (chk p) ++ (putOf 4 p.l ++ putOf 4 p.l')))) p.o (p.d ++ x)
    rw [← e, strOfNums_size] at this
    simp only [List.length_append, hdA_len, putOf_len] at this
    rw [hH]; exact this
  have hD : S.extract (hdL S) (tlN S) = p.d := by
    have := extract_mid (strOfNums (hdN p (chk p))) p.d x
    rw [← hS, strOfNums_size, hdN_len] at this
    rw [hH, hT]; exact this
  rw [← hS]
  unfold tkR
  rw [if_neg (by omega), if_neg (by omega), if_neg (by omega), if_neg (by rw [hsum, fo_hdN]; simp), if_neg (by omega), if_neg (by omega), hO, h.op, if_neg (by decide)]
  have hpk : pkS S = p := by
    unfold pkS
    rw [a1, a3, hP, a5, a6, a7, a8, hO, hD, b0, b1, b2]
    obtain ⟨f1, f2, -⟩ := h.fr
    obtain ⟨g1, g2, -⟩ := h.to
    cases p
    simp_all
  rw [hpk]
/-- What is cut short is none. -/
theorem tk_cutR (p : Pk) (h : Rg p) (w : Wf p) (ht : 20 + p.o.size + p.d.size ≤ 65535) (k : Nat) (hk : k < 20 + p.o.size + p.d.size) : (tkR ((strOfNums (hdN p (chk p)) ++ p.d).extract 0 k)).2 ≠ 0 := by
  obtain ⟨c0, c1⟩ := chk_bd p
  have ho := h.ol
  obtain ⟨S, hS⟩ : ∃ S, S = (strOfNums (hdN p (chk p)) ++ p.d).extract 0 k := ⟨_, rfl⟩
  have hb : byt S = (hdN p (chk p) ++ byt p.d).take k := by rw [hS, byt_ext, byt_add, byt_str (hdN_by _ _), List.drop_zero]
  have hsz : S.size = k := by rw [← byt_len, hb, List.length_take, List.length_append, hdN_len, byt_len]; omega
  rw [← hS]
  unfold tkR
  by_cases h20 : S.size < 20
  · rw [if_pos h20]; decide
  rw [if_neg h20]
  obtain ⟨a0, a1, a2, a3, a4, a5, a6, a7, a8⟩ := laid_at p (chk p) h w c0 c1 ht (byt p.d)
  have hf : f1N S = 69 + ((p.o.size / 4 : Nat) : Int) := by unfold f1N; rw [hb, nAt_take (by omega)]; exact a0
  have hH : hdL S = 20 + p.o.size := by unfold hdL; rw [hf]; omega
  have hT : tlN S = 20 + p.o.size + p.d.size := by unfold tlN; rw [hb, nAt_take (by omega), a2]; omega
  have hP : ptN S = offN p := by unfold ptN; rw [hb, nAt_take (by omega)]; exact a4
  have hoff := offN_bd h
  rw [if_neg (by omega)]
  by_cases hs : S.size < hdL S
  · rw [if_pos hs]; decide
  have hsum : (byt S).take (hdL S) = hdN p (chk p) := by rw [hH, hb, List.take_take, Nat.min_eq_left (by omega), ← hdN_len p (chk p), List.take_left]
  rw [if_neg hs, if_neg (by rw [hsum, fo_hdN]; simp), if_neg (by omega), if_pos (by omega)]
  decide
/-- Which packets come out. -/
theorem tk_okR {s : ByteArray} (h : (tkR s).2 = 0) : (tkR s).1 = pkS s ∧ Rg (pkS s) ∧ Wf (pkS s) ∧ 20 + (pkS s).o.size + (pkS s).d.size ≤ 65535 := by
  unfold tkR at h ⊢
  by_cases h1 : s.size < 20
  · rw [if_pos h1] at h; cases h
  rw [if_neg h1] at h ⊢
  by_cases h2 : f1N s < 69 ∨ 79 < f1N s
  · rw [if_pos h2] at h; cases h
  rw [if_neg h2] at h ⊢
  by_cases h3 : s.size < hdL s
  · rw [if_pos h3] at h; cases h
  rw [if_neg h3] at h ⊢
  by_cases h4 : fo (tot 0 ((byt s).take (hdL s))) ≠ 65535
  · rw [if_pos h4] at h; cases h
  rw [if_neg h4] at h ⊢
  by_cases h5 : tlN s < hdL s ∨ 32768 ≤ ptN s
  · rw [if_pos h5] at h; cases h
  rw [if_neg h5] at h ⊢
  by_cases h6 : s.size < tlN s
  · rw [if_pos h6] at h; cases h
  rw [if_neg h6] at h ⊢
  by_cases h7 : opB (s.extract 20 (hdL s)) = false
  · rw [if_pos h7] at h; cases h
  rw [if_neg h7]
  have hl := byt_len s
  have p4 : (256 : Int) ^ 4 = 4294967296 := by decide
  have p2 : (256 : Int) ^ 2 = 65536 := by decide
  have p1 : (256 : Int) ^ 1 = 256 := by decide
  have b1 := nAt_bd (l := byt s) (a := 1) (k := 1) (by omega) (byt_by s)
  have b2 := nAt_bd (l := byt s) (a := 2) (k := 2) (by omega) (byt_by s)
  have b3 := nAt_bd (l := byt s) (a := 4) (k := 2) (by omega) (byt_by s)
  have b4 := nAt_bd (l := byt s) (a := 6) (k := 2) (by omega) (byt_by s)
  have b5 := nAt_bd (l := byt s) (a := 8) (k := 1) (by omega) (byt_by s)
  have b6 := nAt_bd (l := byt s) (a := 9) (k := 1) (by omega) (byt_by s)
  have b7 := nAt_bd (l := byt s) (a := 12) (k := 4) (by omega) (byt_by s)
  have b8 := nAt_bd (l := byt s) (a := 16) (k := 4) (by omega) (byt_by s)
  have hH : hdL s ≤ 60 ∧ 20 ≤ hdL s ∧ hdL s % 4 = 0 := by unfold hdL; omega
  have hT : tlN s ≤ 65535 := by unfold tlN; omega
  have hP : 0 ≤ ptN s := b4.1
  have ho : (s.extract 20 (hdL s)).size = hdL s - 20 := by rw [ByteArray.size_extract]; omega
  have hd : (s.extract (hdL s) (tlN s)).size = tlN s - hdL s := by rw [ByteArray.size_extract]; omega
  refine ⟨rfl, ⟨?_, ?_, ?_, ?_, ?_, ?_, ?_, ?_, ?_⟩, ⟨b7.1, b8.1⟩, ?_⟩
  · exact ⟨b1.1, by have := b1.2; show nAt (byt s) 1 1 ≤ 255; omega⟩
  · exact ⟨b5.1, by have := b5.2; show nAt (byt s) 8 1 ≤ 255; omega⟩
  · exact ⟨b6.1, by have := b6.2; show nAt (byt s) 9 1 ≤ 255; omega⟩
  · exact ⟨b3.1, by have := b3.2; show nAt (byt s) 4 2 ≤ 65535; omega⟩
  · show 0 ≤ ptN s % 8192 ∧ ptN s % 8192 ≤ 8191; omega
  · exact ⟨rfl, rfl, by have := b7.2; show nAt (byt s) 12 4 ≤ 4294967295; omega⟩
  · exact ⟨rfl, rfl, by have := b8.2; show nAt (byt s) 16 4 ≤ 4294967295; omega⟩
  · show (s.extract 20 (hdL s)).size ≤ 40 ∧ (s.extract 20 (hdL s)).size % 4 = 0; omega
  · show opB (s.extract 20 (hdL s)) = true
    cases hq : opB (s.extract 20 (hdL s))
    · exact absurd hq h7
    · rfl
  · show 20 + (s.extract 20 (hdL s)).size + (s.extract (hdL s) (tlN s)).size ≤ 65535; omega
theorem ly_ok {p : Pk} (h : Rg p) (ht : 20 + p.o.size + p.d.size ≤ 65535) : lyR p = (strOfNums (hdN p (chk p)) ++ p.d, 0) := by
  unfold lyR; rw [rg_iff.2 h, if_neg (by decide), if_neg (by omega)]
theorem ly_size {p : Pk} (c : Int) : (strOfNums (hdN p c) ++ p.d).size = 20 + p.o.size + p.d.size := by rw [ByteArray.size_append, strOfNums_size, hdN_len]
theorem Rg.down {p : Pk} (h : Rg p) {t : Int} (h0 : 0 ≤ t) (h1 : t ≤ 255) : Rg { p with ttl := t } := ⟨h.tos, ⟨h0, h1⟩, h.pro, h.id, h.off, h.fr, h.to, h.ol, h.op⟩
/-- A hop of what was laid. -/
theorem hp_lyR (p : Pk) (h : Rg p) (w : Wf p) (ht : 20 + p.o.size + p.d.size ≤ 65535) (h1 : 1 < p.ttl) : hpR (strOfNums (hdN p (chk p)) ++ p.d) = (strOfNums (hdN { p with ttl := p.ttl - 1 } (chk { p with ttl := p.ttl - 1 })) ++ p.d, 0) := by
  have e := tk_lyR p h w ht ⟨#[]⟩
  rw [show strOfNums (hdN p (chk p)) ++ p.d ++ ⟨#[]⟩ = strOfNums (hdN p (chk p)) ++ p.d from ByteArray.append_empty] at e
  unfold hpR
  rw [e, if_neg (by simp), if_neg (by show ¬ p.ttl ≤ 1; omega)]
  have := h.ttl
  exact ly_ok (p := { p with ttl := p.ttl - 1 }) (h.down (t := p.ttl - 1) (by omega) (by omega)) ht
theorem hp_lastR (p : Pk) (h : Rg p) (w : Wf p) (ht : 20 + p.o.size + p.d.size ≤ 65535) (h1 : p.ttl ≤ 1) : hpR (strOfNums (hdN p (chk p)) ++ p.d) = (⟨#[]⟩, 54) := by
  have e := tk_lyR p h w ht ⟨#[]⟩
  rw [show strOfNums (hdN p (chk p)) ++ p.d ++ ⟨#[]⟩ = strOfNums (hdN p (chk p)) ++ p.d from ByteArray.append_empty] at e
  unfold hpR
  rw [e, if_neg (by simp), if_pos h1]
end Go.Proofs.Ytbhddodghbhjiaa
