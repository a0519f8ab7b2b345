/-
  Plain numbers and texts of layer 5: bytes of texts, what a frame and an ARP message are laid as and taken as, link's addresses as texts.
-/
import Derived.Test.YtlbkphnbpenbcaaWords
import Derived.Laws.BytesArg
namespace Go.Proofs.Ytlbkphnbpenbcaa
open Go.RowKit
set_option linter.unusedVariables false

/-- The bytes of a text, as numbers. -/
def byt (s : ByteArray) : List Int := s.data.toList.map fun b => (b.toNat : Int)
theorem byt_len (s : ByteArray) : (byt s).length = s.size := by unfold byt; rw [List.length_map, Array.length_toList]; rfl
theorem byt_by (s : ByteArray) : By (byt s) := by
  intro z hz
  obtain ⟨b, -, rfl⟩ := List.mem_map.1 hz
  have := UInt8.toNat_lt b
  show (0 : Int) ≤ (b.toNat : Int) ∧ (b.toNat : Int) ≤ 255
  omega
theorem By.wf {l : List Int} (h : By l) : ∀ z ∈ l, (Lit.int .u8 z).wf = true := fun z hz => wf_u8 (h z hz)
theorem By.app {l m : List Int} (h : By l) (k : By m) : By (l ++ m) := fun z hz => (List.mem_append.1 hz).elim (h z) (k z)
theorem By.zeros (n : Nat) : By (List.replicate n 0) := fun z hz => by rw [(List.mem_replicate.1 hz).2]; decide
theorem str_byt (s : ByteArray) : strOfNums (byt s) = s := by
  obtain ⟨⟨l⟩⟩ := s
  simp [strOfNums, byt, Function.comp_def]
theorem byt_str {l : List Int} (h : By l) : byt (strOfNums l) = l := by
  unfold byt
  rw [strOfNums_data, List.map_map]
  conv => rhs; rw [← List.map_id l]
  refine List.map_congr_left fun z hz => ?_
  have hb := h z hz
  show ((UInt8.ofNat z.toNat).toNat : Int) = z
  rw [UInt8.toNat_ofNat']
  omega
theorem str_add (a b : List Int) : strOfNums a ++ strOfNums b = strOfNums (a ++ b) := by
  apply ByteArray.ext
  simp [strOfNums]
theorem str_nil : strOfNums [] = ⟨#[]⟩ := rfl
theorem byt_nil : byt ⟨#[]⟩ = [] := rfl
theorem byt_add (a b : ByteArray) : byt (a ++ b) = byt a ++ byt b := by simp [byt]
theorem str_inj {a b : List Int} (ha : By a) (hb : By b) (h : strOfNums a = strOfNums b) : a = b := by rw [← byt_str ha, h, byt_str hb]
theorem byt_inj {a b : ByteArray} (h : byt a = byt b) : a = b := by rw [← str_byt a, h, str_byt]
theorem byt_mk (l : List UInt8) : byt ⟨l.toArray⟩ = l.map fun b => (b.toNat : Int) := by simp [byt]

/-- What a number that bytes are is laid as. -/
theorem putOf_numOf : ∀ (k : Nat) (l : List Int), l.length = k → By l → putOf k (numOf l) = l
  | 0, l, hl, _ => by rw [List.eq_nil_of_length_eq_zero hl]; rfl
  | k + 1, l, hl, hb => by
    have hne : l ≠ [] := by intro h; simp [h] at hl
    obtain ⟨m, z, rfl⟩ : ∃ m z, l = m ++ [z] := ⟨l.dropLast, l.getLast hne, (List.dropLast_concat_getLast hne).symm⟩
    have hz := hb z (by simp)
    rw [numOf_snoc, putOf, show (numOf m * 256 + z) / 256 = numOf m by omega, show (numOf m * 256 + z) % 256 = z by omega, putOf_numOf k m (by simpa using hl) (fun x hx => hb x (by simp [hx]))]
theorem numOf_put {k : Nat} {n : Int} (h0 : 0 ≤ n) (h1 : n < 256 ^ k) : numOf (putOf k n) = n := by rw [numOf_putOf]; exact Int.emod_eq_of_lt h0 h1
theorem numOf_bd6 {l : List Int} (hl : l.length = 6) (hb : By l) : 0 ≤ numOf l ∧ numOf l ≤ 281474976710655 := by
  have := numOf_bd 6 l hl hb
  have e : (256 : Int) ^ 6 = 281474976710656 := by decide
  rw [e] at this; omega
theorem numOf_bd2 {l : List Int} (hl : l.length = 2) (hb : By l) : 0 ≤ numOf l ∧ numOf l ≤ 65535 := by
  have := numOf_bd 2 l hl hb
  have e : (256 : Int) ^ 2 = 65536 := by decide
  rw [e] at this; omega
theorem numOf_bd4 {l : List Int} (hl : l.length = 4) (hb : By l) : 0 ≤ numOf l ∧ numOf l ≤ 4294967295 := by
  have := numOf_bd 4 l hl hb
  have e : (256 : Int) ^ 4 = 4294967296 := by decide
  rw [e] at this; omega
theorem numOf_bd1 {l : List Int} (hl : l.length = 1) (hb : By l) : 0 ≤ numOf l ∧ numOf l ≤ 255 := by
  have := numOf_bd 1 l hl hb
  have e : (256 : Int) ^ 1 = 256 := by decide
  rw [e] at this; omega

/-- May it be a link's address? -/
def mcB (m : Int) : Bool := decide (m ≤ 281474976710655)
/-- May it be a frame? -/
def frB (to fr k : Int) : Bool := mcB to && mcB fr && decide (1536 ≤ k) && decide (k ≤ 65535)
def hdr (to fr k : Int) : List Int := putOf 6 to ++ putOf 6 fr ++ putOf 2 k
theorem hdr_len (to fr k : Int) : (hdr to fr k).length = 14 := by simp [hdr, putOf_len]
theorem hdr_by (to fr k : Int) : By (hdr to fr k) := ((putOf_by 6 to).app (putOf_by 6 fr)).app (putOf_by 2 k)
def lyL (to fr k : Int) (d : List Int) : List Int := hdr to fr k ++ d ++ List.replicate (46 - d.length) 0
theorem lyL_len (to fr k : Int) (d : List Int) : (lyL to fr k d).length = 14 + d.length + (46 - d.length) := by simp [lyL, hdr_len]; omega
theorem lyL_by (to fr k : Int) {d : List Int} (h : By d) : By (lyL to fr k d) := ((hdr_by to fr k).app h).app (By.zeros _)
/-- What ether.Lay answers. -/
def lyV (to fr k : Int) (d : ByteArray) : Value :=
  if frB to fr k = false then .tuple #[.string ⟨#[]⟩, .int .i64 40] else if 1500 < d.size then .tuple #[.string ⟨#[]⟩, .int .i64 42] else .tuple #[.string (strOfNums (lyL to fr k (byt d))), .int .i64 0]

/-- A frame as a value. -/
abbrev frm (to fr k : Int) (d : ByteArray) : Value := .agg #[.int .u64 to, .int .u64 fr, .int .i64 k, .string d]
abbrev noFrm : Value := frm 0 0 0 ⟨#[]⟩
def nTo (l : List Int) : Int := numOf (l.take 6)
def nFr (l : List Int) : Int := numOf ((l.drop 6).take 6)
def nKd (l : List Int) : Int := numOf ((l.drop 12).take 2)
/-- What ether.Take answers. -/
def tkV (s : ByteArray) : Value :=
  if s.size < 14 then .tuple #[noFrm, .int .i64 41] else if 1514 < s.size then .tuple #[noFrm, .int .i64 42] else
  if nKd (byt s) < 1536 then .tuple #[noFrm, .int .i64 40] else .tuple #[frm (nTo (byt s)) (nFr (byt s)) (nKd (byt s)) (strOfNums ((byt s).drop 14)), .int .i64 0]
theorem nTo_bd {l : List Int} (hl : 14 ≤ l.length) (hb : By l) : 0 ≤ nTo l ∧ nTo l ≤ 281474976710655 := numOf_bd6 (by simp; omega) (hb.take _)
theorem nFr_bd {l : List Int} (hl : 14 ≤ l.length) (hb : By l) : 0 ≤ nFr l ∧ nFr l ≤ 281474976710655 := numOf_bd6 (by simp; omega) ((hb.drop _).take _)
theorem nKd_bd {l : List Int} (hl : 14 ≤ l.length) (hb : By l) : 0 ≤ nKd l ∧ nKd l ≤ 65535 := numOf_bd2 (by simp; omega) ((hb.drop _).take _)
theorem hdr_back {l : List Int} (hl : 14 ≤ l.length) (hb : By l) : hdr (nTo l) (nFr l) (nKd l) = l.take 14 := by
  unfold hdr nTo nFr nKd
  rw [putOf_numOf 6 _ (by simp; omega) (hb.take _), putOf_numOf 6 _ (by simp; omega) ((hb.drop _).take _), putOf_numOf 2 _ (by simp; omega) ((hb.drop _).take _)]
  rw [show (14 : Nat) = 12 + 2 from rfl, List.take_add, show (12 : Nat) = 6 + 6 from rfl, List.take_add]
theorem hdr_nTo {to fr k : Int} (r : List Int) (h0 : 0 ≤ to) (h1 : to ≤ 281474976710655) : nTo (hdr to fr k ++ r) = to := by
  unfold nTo hdr
  rw [List.append_assoc, List.append_assoc, List.take_left' (putOf_len 6 _)]
  exact numOf_put h0 (by have e : (256 : Int) ^ 6 = 281474976710656 := by decide
                         rw [e]; omega)
theorem hdr_nFr {to fr k : Int} (r : List Int) (h0 : 0 ≤ fr) (h1 : fr ≤ 281474976710655) : nFr (hdr to fr k ++ r) = fr := by
  unfold nFr hdr
  rw [List.append_assoc, List.append_assoc, List.drop_left' (putOf_len 6 _), List.take_left' (putOf_len 6 _)]
  exact numOf_put h0 (by have e : (256 : Int) ^ 6 = 281474976710656 := by decide
                         rw [e]; omega)
theorem hdr_nKd {to fr k : Int} (r : List Int) (h0 : 0 ≤ k) (h1 : k ≤ 65535) : nKd (hdr to fr k ++ r) = k := by
  unfold nKd hdr
  rw [List.append_assoc, List.drop_left' (by simp [putOf_len]), List.take_left' (putOf_len 2 _)]
  exact numOf_put h0 (by have e : (256 : Int) ^ 2 = 65536 := by decide
                         rw [e]; omega)
theorem frB_of {to fr k : Int} (h : frB to fr k = true) : to ≤ 281474976710655 ∧ fr ≤ 281474976710655 ∧ 1536 ≤ k ∧ k ≤ 65535 := by
  simp [frB, mcB] at h; omega
theorem frB_mk {to fr k : Int} (h : to ≤ 281474976710655 ∧ fr ≤ 281474976710655 ∧ 1536 ≤ k ∧ k ≤ 65535) : frB to fr k = true := by
  simp [frB, mcB]; omega
/-- What is laid is taken up. -/
theorem tk_ly (to fr k : Int) (d : ByteArray) (h : frB to fr k = true) (h0 : 0 ≤ to) (h1 : 0 ≤ fr) (hd : d.size ≤ 1500) :
    tkV (strOfNums (lyL to fr k (byt d))) = .tuple #[frm to fr k (strOfNums (byt d ++ List.replicate (46 - d.size) 0)), .int .i64 0] := by
  obtain ⟨a, b, c, e⟩ := frB_of h
  have hl : (strOfNums (lyL to fr k (byt d))).size = 14 + d.size + (46 - d.size) := by rw [strOfNums_size, lyL_len, byt_len]
  have hb := byt_str (lyL_by to fr k (byt_by d))
  unfold tkV
  rw [hl, if_neg (by omega), if_neg (by omega), hb]
  have e1 : lyL to fr k (byt d) = hdr to fr k ++ (byt d ++ List.replicate (46 - d.size) 0) := by unfold lyL; rw [byt_len, List.append_assoc]
  rw [e1, hdr_nKd _ (by omega) e, if_neg (by omega), hdr_nTo _ h0 a, hdr_nFr _ h1 b, List.drop_left' (hdr_len _ _ _)]
/-- What is taken up is laid. -/
theorem ly_tk (s : ByteArray) (h0 : 14 ≤ s.size) (h1 : s.size ≤ 1514) (hk : 1536 ≤ nKd (byt s)) :
    lyV (nTo (byt s)) (nFr (byt s)) (nKd (byt s)) (strOfNums ((byt s).drop 14)) = .tuple #[.string (s ++ strOfNums (List.replicate (60 - s.size) 0)), .int .i64 0] := by
  have hl : 14 ≤ (byt s).length := by rw [byt_len]; omega
  have a := nTo_bd hl (byt_by s)
  have b := nFr_bd hl (byt_by s)
  have c := nKd_bd hl (byt_by s)
  have hf := frB_mk (to := nTo (byt s)) (fr := nFr (byt s)) (k := nKd (byt s)) ⟨a.2, b.2, hk, c.2⟩
  have hz : (strOfNums ((byt s).drop 14)).size = s.size - 14 := by rw [strOfNums_size, List.length_drop, byt_len]
  unfold lyV
  rw [hf, if_neg (by decide), if_neg (by omega), byt_str ((byt_by s).drop 14)]
  unfold lyL
  rw [hdr_back hl (byt_by s), List.take_append_drop, List.length_drop, byt_len, ← str_add, str_byt, show 46 - (s.size - 14) = 60 - s.size by omega]
end Go.Proofs.Ytlbkphnbpenbcaa
