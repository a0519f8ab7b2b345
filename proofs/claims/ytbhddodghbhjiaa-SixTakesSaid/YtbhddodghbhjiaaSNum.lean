/-
  Plain numbers of layer 7: a packet, what it is laid as, what bytes are taken up as; further headers.
-/
import Derived.Test.YtbhddodghbhjiaaENum
namespace Go.Proofs.Ytbhddodghbhjiaa
open Go.RowKit
set_option linter.unusedVariables false

/-- A packet. -/
structure Sx where
  c : Int
  f : Int
  n : Int
  h : Int
  s : Bool
  a : Int
  b : Int
  s' : Bool
  a' : Int
  b' : Int
  d : ByteArray
abbrev scs (p : Sx) : Array Value := #[.int .i64 p.c, .int .i64 p.f, .int .i64 p.n, .int .i64 p.h, .bool p.s, .int .u64 p.a, .int .u64 p.b, .bool p.s', .int .u64 p.a', .int .u64 p.b', .string p.d]
abbrev Sx.val (p : Sx) : Value := .agg (scs p)
def noS : Sx := ⟨0, 0, 0, 0, false, 0, 0, false, 0, 0, ⟨#[]⟩⟩
def bt (n m : Int) : Bool := decide (0 ≤ n) && decide (n ≤ m)
theorem bt_iff {n m : Int} : bt n m = true ↔ 0 ≤ n ∧ n ≤ m := by simp [bt]
def rgSB (p : Sx) : Bool := bt p.c 255 && bt p.f 1048575 && bt p.n 255 && bt p.h 255 && p.s && p.s'
/-- May it be a packet? -/
structure RgS (p : Sx) : Prop where
  c : 0 ≤ p.c ∧ p.c ≤ 255
  f : 0 ≤ p.f ∧ p.f ≤ 1048575
  n : 0 ≤ p.n ∧ p.n ≤ 255
  h : 0 ≤ p.h ∧ p.h ≤ 255
  s : p.s = true
  s' : p.s' = true
theorem rgS_iff {p : Sx} : rgSB p = true ↔ RgS p := by
  unfold rgSB
  simp only [Bool.and_eq_true, bt_iff]
  exact ⟨fun ⟨⟨⟨⟨⟨a, b⟩, c⟩, d⟩, e⟩, g⟩ => ⟨a, b, c, d, e, g⟩, fun h => ⟨⟨⟨⟨⟨h.c, h.f⟩, h.n⟩, h.h⟩, h.s⟩, h.s'⟩⟩
/-- Numbers of 64 bits. -/
structure WfS (p : Sx) : Prop where
  a : 0 ≤ p.a ∧ p.a ≤ 18446744073709551615
  b : 0 ≤ p.b ∧ p.b ≤ 18446744073709551615
  a' : 0 ≤ p.a' ∧ p.a' ≤ 18446744073709551615
  b' : 0 ≤ p.b' ∧ p.b' ≤ 18446744073709551615
/-- The first number of a header. -/
def fsN (p : Sx) : Int := 1610612736 + p.c * 1048576 + p.f
def hdS (p : Sx) : List Int := putOf 4 (fsN p) ++ putOf 2 (p.d.size : Int) ++ putOf 1 p.n ++ putOf 1 p.h ++ putOf 8 p.a ++ putOf 8 p.b ++ putOf 8 p.a' ++ putOf 8 p.b'
theorem hdS_len (p : Sx) : (hdS p).length = 40 := by simp [hdS, putOf_len]
theorem hdS_by (p : Sx) : By (hdS p) := (((((((putOf_by 4 _).app (putOf_by 2 _)).app (putOf_by 1 _)).app (putOf_by 1 _)).app (putOf_by 8 _)).app (putOf_by 8 _)).app (putOf_by 8 _)).app (putOf_by 8 _)
/-- The bytes of a packet. -/
def lyB (p : Sx) : ByteArray := strOfNums (hdS p) ++ p.d
theorem lyB_size (p : Sx) : (lyB p).size = 40 + p.d.size := by unfold lyB; rw [ByteArray.size_append, strOfNums_size, hdS_len]
/-- What Lay answers. -/
def lySR (p : Sx) : ByteArray × Int := if rgSB p = false then (⟨#[]⟩, 60) else if 65535 < p.d.size then (⟨#[]⟩, 62) else (lyB p, 0)
abbrev lySV (p : Sx) : Value := .tuple #[.string (lySR p).1, .int .i64 (lySR p).2]
theorem lyS_no {p : Sx} (h : rgSB p = false) : lySR p = (⟨#[]⟩, 60) := by unfold lySR; rw [if_pos h]
theorem lyS_long {p : Sx} (h : rgSB p = true) (hd : 65535 < p.d.size) : lySR p = (⟨#[]⟩, 62) := by unfold lySR; rw [h, if_neg (by decide), if_pos hd]
theorem lyS_ok {p : Sx} (h : rgSB p = true) (hd : p.d.size ≤ 65535) : lySR p = (lyB p, 0) := by unfold lySR; rw [h, if_neg (by decide), if_neg (by omega)]

/-- The number at a place. -/
def nA (l : List Int) (i k : Nat) : Int := numOf ((l.drop i).take k)
theorem nA_take {l : List Int} {i k m : Nat} (h : i + k ≤ m) : nA (l.take m) i k = nA l i k := by
  unfold nA
  rw [List.drop_take, List.take_take, Nat.min_eq_left (by omega)]
theorem nA_bd {l : List Int} (hb : By l) {i k : Nat} (h : i + k ≤ l.length) : 0 ≤ nA l i k ∧ nA l i k < 256 ^ k := numOf_bd k _ (by simp; omega) ((hb.drop _).take _)
theorem nA_app {l m : List Int} {i k : Nat} (h : i + k ≤ l.length) : nA (l ++ m) i k = nA l i k := by
  unfold nA
  rw [List.drop_append_of_le_length (by omega), List.take_append_of_le_length (by simp; omega)]
theorem nA_skip {l m : List Int} {i k : Nat} {n : Nat} (h : l.length = n) : nA (l ++ m) (n + i) k = nA m i k := by
  unfold nA
  rw [← List.drop_drop, List.drop_left' h]
theorem nA_put {k : Nat} {n : Int} {m : List Int} (h0 : 0 ≤ n) (h1 : n < 256 ^ k) : nA (putOf k n ++ m) 0 k = n := by
  unfold nA
  rw [List.drop_zero, List.take_left' (putOf_len k n), numOf_put h0 h1]
def fsS (s : ByteArray) : Int := nA (byt s) 0 4
def lnS (s : ByteArray) : Nat := (nA (byt s) 4 2).toNat
/-- The numbers of a header. -/
def nmS (l : List Int) : Sx := ⟨nA l 0 4 / 1048576 % 256, nA l 0 4 % 1048576, nA l 6 1, nA l 7 1, true, nA l 8 8, nA l 16 8, true, nA l 24 8, nA l 32 8, ⟨#[]⟩⟩
theorem nmS_take {l : List Int} {m : Nat} (h : 40 ≤ m) : nmS (l.take m) = nmS l := by
  unfold nmS
  rw [nA_take (by omega), nA_take (by omega), nA_take (by omega), nA_take (by omega), nA_take (by omega), nA_take (by omega), nA_take (by omega)]
def pkX (s : ByteArray) : Sx := { nmS (byt s) with d := s.extract 40 (40 + lnS s) }
/-- What Take answers. -/
def tkS (s : ByteArray) : Sx × Int :=
  if s.size < 40 then (noS, 61) else if fsS s / 268435456 ≠ 6 then (noS, 60) else if s.size < 40 + lnS s then (noS, 61) else (pkX s, 0)
abbrev tkSV (s : ByteArray) : Value := .tuple #[(tkS s).1.val, .int .i64 (tkS s).2]
/-- What Hop answers. -/
def hpS (s : ByteArray) : ByteArray × Int :=
  if (tkS s).2 ≠ 0 then (⟨#[]⟩, (tkS s).2) else if (tkS s).1.h ≤ 1 then (⟨#[]⟩, 63) else lySR { (tkS s).1 with h := (tkS s).1.h - 1 }
abbrev hpSV (s : ByteArray) : Value := .tuple #[.string (hpS s).1, .int .i64 (hpS s).2]

theorem byt_ext' (s : ByteArray) (i j : Nat) : byt (s.extract i j) = ((byt s).take j).drop i := by
  unfold byt
  rw [ByteArray.data_extract, Array.toList_extract, List.extract_eq_take_drop, List.map_take, List.map_drop, List.drop_take]
theorem p4 : (256 : Int) ^ 4 = 4294967296 := by decide
theorem p2 : (256 : Int) ^ 2 = 65536 := by decide
theorem p1 : (256 : Int) ^ 1 = 256 := by decide
theorem p8 : (256 : Int) ^ 8 = 18446744073709551616 := by decide
theorem fsN_bd {p : Sx} (h : RgS p) : 0 ≤ fsN p ∧ fsN p < 4294967296 := by
  have := h.c; have := h.f; unfold fsN; omega
theorem hd_nums {p : Sx} (h : RgS p) (w : WfS p) (hd : p.d.size ≤ 65535) (m : List Int) :
    nA (hdS p ++ m) 0 4 = fsN p ∧ nA (hdS p ++ m) 4 2 = p.d.size ∧ nA (hdS p ++ m) 6 1 = p.n ∧ nA (hdS p ++ m) 7 1 = p.h ∧ nA (hdS p ++ m) 8 8 = p.a ∧ nA (hdS p ++ m) 16 8 = p.b ∧ nA (hdS p ++ m) 24 8 = p.a' ∧ nA (hdS p ++ m) 32 8 = p.b' := by
  have hf := fsN_bd h
  have e : hdS p ++ m = putOf 4 (fsN p) ++ (putOf 2 (p.d.size : Int) ++ (putOf 1 p.n ++ (putOf 1 p.h ++ (putOf 8 p.a ++ (putOf 8 p.b ++ (putOf 8 p.a' ++ (putOf 8 p.b' ++ m))))))) := by simp [hdS]
  rw [e]
  have hn := h.n; have hh := h.h
  have ha := w.a; have hb := w.b; have ha' := w.a'; have hb' := w.b'
  refine ⟨nA_put hf.1 (by rw [p4]; omega), ?_, ?_, ?_, ?_, ?_, ?_, ?_⟩
  · rw [show 4 = 4 + 0 from rfl, nA_skip (putOf_len 4 _), nA_put (by omega) (by rw [p2]; omega)]
  · rw [show 6 = 4 + (2 + 0) from rfl, nA_skip (putOf_len 4 _), nA_skip (putOf_len 2 _), nA_put (by omega) (by rw [p1]; omega)]
  · rw [show 7 = 4 + (2 + (1 + 0)) from rfl, nA_skip (putOf_len 4 _), nA_skip (putOf_len 2 _), nA_skip (putOf_len 1 _), nA_put (by omega) (by rw [p1]; omega)]
  · rw [show 8 = 4 + (2 + (1 + (1 + 0))) from rfl, nA_skip (putOf_len 4 _), nA_skip (putOf_len 2 _), nA_skip (putOf_len 1 _), nA_skip (putOf_len 1 _), nA_put (by omega) (by rw [p8]; omega)]
  · rw [show 16 = 4 + (2 + (1 + (1 + (8 + 0)))) from rfl, nA_skip (putOf_len 4 _), nA_skip (putOf_len 2 _), nA_skip (putOf_len 1 _), nA_skip (putOf_len 1 _), nA_skip (putOf_len 8 _), nA_put (by omega) (by rw [p8]; omega)]
  · rw [show 24 = 4 + (2 + (1 + (1 + (8 + (8 + 0))))) from rfl, nA_skip (putOf_len 4 _), nA_skip (putOf_len 2 _), nA_skip (putOf_len 1 _), nA_skip (putOf_len 1 _), nA_skip (putOf_len 8 _), nA_skip (putOf_len 8 _), nA_put (by omega) (by rw [p8]; omega)]
  · rw [show 32 = 4 + (2 + (1 + (1 + (8 + (8 + (8 + 0)))))) from rfl, nA_skip (putOf_len 4 _), nA_skip (putOf_len 2 _), nA_skip (putOf_len 1 _), nA_skip (putOf_len 1 _), nA_skip (putOf_len 8 _), nA_skip (putOf_len 8 _), nA_skip (putOf_len 8 _), nA_put (by omega) (by rw [p8]; omega)]
theorem byt_ly (p : Sx) (x : ByteArray) : byt (lyB p ++ x) = hdS p ++ byt (p.d ++ x) := by
  unfold lyB
  rw [byt_add, byt_add, byt_str (hdS_by p), byt_add, List.append_assoc]
theorem ext_mid (a b c : ByteArray) (n m : Nat) (hn : a.size = n) (hm : n + b.size = m) : (a ++ b ++ c).extract n m = b := by
  subst hn hm
  apply byt_inj
  rw [byt_ext', byt_add, byt_add, List.append_assoc, show a.size + b.size = (byt a).length + b.size by rw [byt_len], List.take_append]
  rw [show (byt a).length + b.size - (byt a).length = b.size by omega, List.take_of_length_le (by omega), List.drop_left' (byt_len a), List.take_left' (byt_len b)]
/-- What is laid is taken up, whatever stands behind. -/
theorem tk_lyS (p : Sx) (h : RgS p) (w : WfS p) (hd : p.d.size ≤ 65535) (x : ByteArray) : tkS (lyB p ++ x) = (p, 0) := by
  have hs : (lyB p ++ x).size = 40 + p.d.size + x.size := by rw [ByteArray.size_append, lyB_size]
  obtain ⟨e1, e2, e3, e4, e5, e6, e7, e8⟩ := hd_nums h w hd (byt (p.d ++ x))
  have hln : lnS (lyB p ++ x) = p.d.size := by unfold lnS; rw [byt_ly, e2]; omega
  have hc := h.c; have hf := h.f
  have q1 : fsN p / 268435456 = 6 := by unfold fsN; omega
  have q2 : fsN p / 1048576 % 256 = p.c := by unfold fsN; omega
  have q3 : fsN p % 1048576 = p.f := by unfold fsN; omega
  have hfs : fsS (lyB p ++ x) = fsN p := by unfold fsS; rw [byt_ly, e1]
  unfold tkS
  rw [hs, if_neg (by omega), hfs, if_neg (by simpa using q1), hln, if_neg (by omega)]
  have hx : (lyB p ++ x).extract 40 (40 + p.d.size) = p.d := by
    unfold lyB
    exact ext_mid _ _ _ _ _ (by rw [strOfNums_size, hdS_len]) rfl
  have hp : pkX (lyB p ++ x) = p := by
    unfold pkX nmS
    rw [byt_ly, e1, e3, e4, e5, e6, e7, e8, q2, q3, hln, hx]
    obtain ⟨c, f, n, hh, s, a, b, s', a', b', d⟩ := p
    have hs1 := h.s; have hs2 := h.s'
    simp only at hs1 hs2
    subst hs1 hs2
    rfl
  rw [hp]
theorem tk_lyS0 (p : Sx) (h : RgS p) (w : WfS p) (hd : p.d.size ≤ 65535) : tkS (lyB p) = (p, 0) := by
  have := tk_lyS p h w hd ⟨#[]⟩
  rwa [show lyB p ++ (⟨#[]⟩ : ByteArray) = lyB p from ByteArray.append_empty] at this
/-- Nothing that is cut is taken up. -/
theorem tk_cutS (p : Sx) (h : RgS p) (w : WfS p) (hd : p.d.size ≤ 65535) (k : Nat) (hk : k < 40 + p.d.size) : tkS ((lyB p).extract 0 k) = (noS, 61) := by
  have hs : ((lyB p).extract 0 k).size = k := by rw [ByteArray.size_extract, lyB_size]; omega
  unfold tkS
  by_cases h40 : k < 40
  · rw [hs, if_pos h40]
  · have hb : byt ((lyB p).extract 0 k) = hdS p ++ (byt p.d).take (k - 40) := by
      have e0 : byt (lyB p) = hdS p ++ byt p.d := by unfold lyB; rw [byt_add, byt_str (hdS_by p)]
      rw [byt_ext', List.drop_zero, e0, List.take_append, hdS_len, List.take_of_length_le (by rw [hdS_len]; omega)]
    obtain ⟨e1, e2, -⟩ := hd_nums h w hd ((byt p.d).take (k - 40))
    have hln : lnS ((lyB p).extract 0 k) = p.d.size := by unfold lnS; rw [hb, e2]; omega
    have hfs : fsS ((lyB p).extract 0 k) = fsN p := by unfold fsS; rw [hb, e1]
    have hc := h.c; have hf := h.f
    have q1 : fsN p / 268435456 = 6 := by unfold fsN; omega
    rw [hs, if_neg h40, hfs, if_neg (by simpa using q1), hln, if_pos (by omega)]
theorem nA_one {l : List Int} {i : Nat} {z : Int} (h : l[i]? = some z) : nA l i 1 = z := by
  unfold nA
  have : (l.drop i).take 1 = [z] := by
    rw [List.take_one, List.head?_drop, h]; rfl
  rw [this]; simp [numOf]
theorem take_nA {l : List Int} (hb : By l) (i k : Nat) (h : i + k ≤ l.length) : l.take (i + k) = l.take i ++ putOf k (nA l i k) := by
  unfold nA
  rw [putOf_numOf k _ (by simp; omega) ((hb.drop _).take _), List.take_add]
/-- What is taken up is a packet that may be, and is laid as the same bytes. -/
theorem tk_okS {s : ByteArray} (h : (tkS s).2 = 0) : (tkS s).1 = pkX s ∧ RgS (pkX s) ∧ WfS (pkX s) ∧ (pkX s).d.size = lnS s ∧ lnS s ≤ 65535 ∧ 40 + lnS s ≤ s.size ∧ lyB (pkX s) = s.extract 0 (40 + lnS s) := by
  unfold tkS at h ⊢
  by_cases h1 : s.size < 40
  · rw [if_pos h1] at h; cases h
  rw [if_neg h1] at h ⊢
  by_cases h2 : fsS s / 268435456 ≠ 6
  · rw [if_pos h2] at h; cases h
  rw [if_neg h2] at h ⊢
  by_cases h3 : s.size < 40 + lnS s
  · rw [if_pos h3] at h; cases h
  rw [if_neg h3]
  have hl : (byt s).length = s.size := byt_len s
  have hb := byt_by s
  have b0 := nA_bd hb (i := 0) (k := 4) (by omega)
  have b4 := nA_bd hb (i := 4) (k := 2) (by omega)
  have b6 := nA_bd hb (i := 6) (k := 1) (by omega)
  have b7 := nA_bd hb (i := 7) (k := 1) (by omega)
  have b8 := nA_bd hb (i := 8) (k := 8) (by omega)
  have b16 := nA_bd hb (i := 16) (k := 8) (by omega)
  have b24 := nA_bd hb (i := 24) (k := 8) (by omega)
  have b32 := nA_bd hb (i := 32) (k := 8) (by omega)
  rw [p4] at b0
  rw [p2] at b4
  rw [p1] at b6 b7
  rw [p8] at b8 b16 b24 b32
  have hsz : (pkX s).d.size = lnS s := by
    show (s.extract 40 (40 + lnS s)).size = _
    rw [ByteArray.size_extract]; omega
  have hlm : lnS s ≤ 65535 := by unfold lnS; omega
  have hlI : ((lnS s : Nat) : Int) = nA (byt s) 4 2 := by unfold lnS; omega
  have hfs : fsN (pkX s) = nA (byt s) 0 4 := by
    show 1610612736 + nA (byt s) 0 4 / 1048576 % 256 * 1048576 + nA (byt s) 0 4 % 1048576 = _
    have : nA (byt s) 0 4 / 268435456 = 6 := by simpa [fsS] using h2
    omega
  refine ⟨rfl, ⟨?_, ?_, ?_, ?_, rfl, rfl⟩, ⟨?_, ?_, ?_, ?_⟩, hsz, hlm, by omega, ?_⟩
  · show 0 ≤ nA (byt s) 0 4 / 1048576 % 256 ∧ nA (byt s) 0 4 / 1048576 % 256 ≤ 255; omega
  · show 0 ≤ nA (byt s) 0 4 % 1048576 ∧ nA (byt s) 0 4 % 1048576 ≤ 1048575; omega
  · show 0 ≤ nA (byt s) 6 1 ∧ nA (byt s) 6 1 ≤ 255; omega
  · show 0 ≤ nA (byt s) 7 1 ∧ nA (byt s) 7 1 ≤ 255; omega
  · show 0 ≤ nA (byt s) 8 8 ∧ nA (byt s) 8 8 ≤ 18446744073709551615; omega
  · show 0 ≤ nA (byt s) 16 8 ∧ nA (byt s) 16 8 ≤ 18446744073709551615; omega
  · show 0 ≤ nA (byt s) 24 8 ∧ nA (byt s) 24 8 ≤ 18446744073709551615; omega
  · show 0 ≤ nA (byt s) 32 8 ∧ nA (byt s) 32 8 ≤ 18446744073709551615; omega
  · apply byt_inj
    have hh : hdS (pkX s) = (byt s).take 40 := by
      unfold hdS
      rw [hfs, hsz, hlI]
      show putOf 4 (nA (byt s) 0 4) ++ putOf 2 (nA (byt s) 4 2) ++ putOf 1 (nA (byt s) 6 1) ++ putOf 1 (nA (byt s) 7 1) ++ putOf 8 (nA (byt s) 8 8) ++ putOf 8 (nA (byt s) 16 8) ++ putOf 8 (nA (byt s) 24 8) ++ putOf 8 (nA (byt s) 32 8) = _
      rw [show (40 : Nat) = 32 + 8 from rfl, take_nA hb 32 8 (by omega), show (32 : Nat) = 24 + 8 from rfl, take_nA hb 24 8 (by omega), show (24 : Nat) = 16 + 8 from rfl, take_nA hb 16 8 (by omega), show (16 : Nat) = 8 + 8 from rfl, take_nA hb 8 8 (by omega)]
      rw [show (byt s).take 8 = (byt s).take (7 + 1) from rfl, take_nA hb 7 1 (by omega), show (byt s).take 7 = (byt s).take (6 + 1) from rfl, take_nA hb 6 1 (by omega), show (byt s).take 6 = (byt s).take (4 + 2) from rfl, take_nA hb 4 2 (by omega), show (byt s).take 4 = (byt s).take (0 + 4) from rfl, take_nA hb 0 4 (by omega)]
      simp
    have hd : byt (pkX s).d = ((byt s).take (40 + lnS s)).drop 40 := byt_ext' s 40 (40 + lnS s)
    unfold lyB
    rw [byt_add, byt_str (hdS_by _), hh, hd, byt_ext', List.drop_zero]
    have : (byt s).take 40 = ((byt s).take (40 + lnS s)).take 40 := by rw [List.take_take, Nat.min_eq_left (by omega)]
    rw [this, List.take_append_drop]
theorem tk_badS {s : ByteArray} (h : (tkS s).2 ≠ 0) : (tkS s).1 = noS := by
  unfold tkS at h ⊢
  by_cases h1 : s.size < 40
  · rw [if_pos h1]
  rw [if_neg h1] at h ⊢
  by_cases h2 : fsS s / 268435456 ≠ 6
  · rw [if_pos h2]
  rw [if_neg h2] at h ⊢
  by_cases h3 : s.size < 40 + lnS s
  · rw [if_pos h3]
  rw [if_neg h3] at h
  exact absurd rfl h
theorem RgS.down {p : Sx} (h : RgS p) {t : Int} (h0 : 0 ≤ t) (h1 : t ≤ 255) : RgS { p with h := t } := ⟨h.c, h.f, h.n, ⟨h0, h1⟩, h.s, h.s'⟩
theorem WfS.down {p : Sx} (w : WfS p) (t : Int) : WfS { p with h := t } := ⟨w.a, w.b, w.a', w.b'⟩
/-- A hop of what was laid. -/
theorem hp_lyS (p : Sx) (h : RgS p) (w : WfS p) (hd : p.d.size ≤ 65535) (h1 : 1 < p.h) : hpS (lyB p) = (lyB { p with h := p.h - 1 }, 0) := by
  unfold hpS
  rw [tk_lyS0 p h w hd, if_neg (by simp), if_neg (by show ¬ p.h ≤ 1; omega)]
  have := h.h
  show lySR { p with h := p.h - 1 } = _
  exact lyS_ok (rgS_iff.2 (h.down (by omega) (by omega))) hd
end Go.Proofs.Ytbhddodghbhjiaa
