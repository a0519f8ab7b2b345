/-
  The ring of texts and the document's own, each call in one form (layer 12).
-/
import Derived.Test.YtogbchahfkphoaaRgX
import Derived.Test.YtogbchahfkphoaaRgD
namespace Go.Proofs.Ytogbchahfkphoaa
open Go.RowKit
set_option linter.unusedVariables false

def aftP (N : Nat) (all : List ByteArray) (out : Nat) (s : ByteArray) : List ByteArray := if all.length < out + N then all ++ [s] else all
def popV (all : List ByteArray) (out : Nat) : ByteArray := (all[out]?).getD ⟨#[]⟩
def popO (all : List ByteArray) (out : Nat) : Nat := if out < all.length then out + 1 else out
def peekB (all : List ByteArray) (out : Nat) (i : Int) : Bool := decide (0 ≤ i ∧ i < (all.length : Int) - (out : Int))
def peekV (all : List ByteArray) (out : Nat) (i : Int) : ByteArray := if peekB all out i = true then (all[out + i.toNat]?).getD ⟨#[]⟩ else ⟨#[]⟩
theorem ret_bl {P : Program} {f : Nat} {args : Array Value} {w : World} {v v' : Value} {R : World → Prop} (h : Calls P f args w fun e w' => e = .returned v ∧ R w') (hv : v = v') : Calls P f args w fun e w' => e = .returned v' ∧ R w' := by rw [hv] at h; exact h
theorem pushS_u (r b N : Nat) (all : List ByteArray) (out : Nat) (s : ByteArray) (hs : all.length ≤ 800000) (w : World) (h : RgS w r b N (elS all) out) :
    Calls Try.prog 12 #[.pointer (some ⟨r, 0, none⟩), .string s] w fun e w' => e = .returned (.bool (decide (all.length < out + N))) ∧ RgS w' r b N (elS (aftP N all out s)) out ∧ Tch w w' [r, b] := by
  have hle := h.le
  rw [elS_len] at hle
  unfold aftP
  by_cases hf : all.length < out + N
  · rw [if_pos hf, decide_eq_true hf, elS_app]
    exact pushS_ok r b N (elS all) out s (by rw [elS_len]; exact hf) (by rw [elS_len]; omega) w h
  · rw [if_neg hf, decide_eq_false hf]
    exact pushS_full r b N (elS all) out s (by rw [elS_len]; omega) (by rw [elS_len]; omega) w h
theorem rpush_u (rd g N : Nat) (all : List ByteArray) (out : Nat) (s : ByteArray) (hN : N ≤ 65536) (hs : all.length ≤ 800000) (w : World) (h : RgD w rd g N all out) :
    Calls Try.prog 13 #[.pointer (some ⟨rd, 0, none⟩), .string s] w fun e w' => e = .returned (.bool (decide (all.length < out + N))) ∧ ∃ g', RgD w' rd g' N (aftP N all out s) out ∧ Tch w w' [rd, g] ∧ (g' = g ∨ w.heap.size ≤ g') := by
  have hle := h.le
  unfold aftP
  by_cases hf : all.length < out + N
  · rw [if_pos hf, decide_eq_true hf]
    exact rpush_ok rd g N all out s hf hN (by omega) w h
  · rw [if_neg hf, decide_eq_false hf]
    refine (rpush_full rd g N all out s (by omega) (by omega) w h).mono ?_
    rintro e w' ⟨h1, h2⟩
    exact ⟨h1, g, h.tch h2 (by simp) (by simp), h2.mono (by simp), .inl rfl⟩
theorem popS_u (r b N : Nat) (all : List ByteArray) (out : Nat) (hs : all.length ≤ 800000) (w : World) (h : RgS w r b N (elS all) out) :
    Calls Try.prog 14 #[.pointer (some ⟨r, 0, none⟩)] w fun e w' => e = .returned (.tuple #[.string (popV all out), .bool (decide (out < all.length))]) ∧ RgS w' r b N (elS all) (popO all out) ∧ Tch w w' [r, b] := by
  have hle := h.le
  rw [elS_len] at hle
  unfold popO popV
  by_cases hf : out < all.length
  · rw [if_pos hf, decide_eq_true hf, List.getElem?_eq_getElem hf]
    exact popS_ok r b N (elS all) out _ (elS_at (List.getElem?_eq_getElem hf)) (by rw [elS_len]; omega) w h
  · rw [if_neg hf, decide_eq_false hf, List.getElem?_eq_none (by omega)]
    exact popS_none r b N (elS all) out (by rw [elS_len]; omega) (by rw [elS_len]; omega) w h
theorem rpop_u (rd g N : Nat) (all : List ByteArray) (out : Nat) (hs : all.length ≤ 800000) (w : World) (h : RgD w rd g N all out) :
    Calls Try.prog 15 #[.pointer (some ⟨rd, 0, none⟩)] w fun e w' => e = .returned (.tuple #[.string (popV all out), .bool (decide (out < all.length))]) ∧ RgD w' rd g N all (popO all out) ∧ Tch w w' [rd, g] := by
  have hle := h.le
  unfold popO popV
  by_cases hf : out < all.length
  · rw [if_pos hf, decide_eq_true hf, List.getElem?_eq_getElem hf]
    exact rpop_ok rd g N all out _ (List.getElem?_eq_getElem hf) (by omega) w h
  · rw [if_neg hf, decide_eq_false hf, List.getElem?_eq_none (by omega)]
    refine (rpop_none rd g N all out (by omega) (by omega) w h).mono ?_
    rintro e w' ⟨h1, h2⟩
    exact ⟨h1, h.tch h2 (by simp) (by simp), h2.mono (by simp)⟩
theorem peekS_u (r b N : Nat) (all : List ByteArray) (out : Nat) (i : Int) (hs : all.length ≤ 800000) (w : World) (h : RgS w r b N (elS all) out) :
    Calls Try.prog 16 #[.pointer (some ⟨r, 0, none⟩), .int .i64 i] w fun e w' => e = .returned (.tuple #[.string (peekV all out i), .bool (peekB all out i)]) ∧ Tch w w' [] := by
  unfold peekV
  by_cases hf : 0 ≤ i ∧ i < (all.length : Int) - (out : Int)
  · have hb : peekB all out i = true := decide_eq_true hf
    rw [if_pos hb, hb]
    obtain ⟨j, rfl⟩ : ∃ j : Nat, i = (j : Int) := ⟨i.toNat, by omega⟩
    have hl : out + j < all.length := by omega
    rw [Int.toNat_natCast, List.getElem?_eq_getElem hl]
    exact peekS_ok r b N (elS all) out j _ (elS_at (List.getElem?_eq_getElem hl)) (by rw [elS_len]; omega) w h
  · have hb : peekB all out i = false := decide_eq_false hf
    rw [hb, if_neg (by simp)]
    exact peekS_bad r b N (elS all) out i (by rw [elS_len]; omega) (by rw [elS_len]; omega) w h
theorem rpeek_u (rd g N : Nat) (all : List ByteArray) (out : Nat) (i : Int) (hs : all.length ≤ 800000) (w : World) (h : RgD w rd g N all out) :
    Calls Try.prog 17 #[.pointer (some ⟨rd, 0, none⟩), .int .i64 i] w fun e w' => e = .returned (.tuple #[.string (peekV all out i), .bool (peekB all out i)]) ∧ Tch w w' [] := by
  unfold peekV
  by_cases hf : 0 ≤ i ∧ i < (all.length : Int) - (out : Int)
  · have hb : peekB all out i = true := decide_eq_true hf
    rw [if_pos hb, hb]
    obtain ⟨j, rfl⟩ : ∃ j : Nat, i = (j : Int) := ⟨i.toNat, by omega⟩
    have hl : out + j < all.length := by omega
    rw [Int.toNat_natCast, List.getElem?_eq_getElem hl]
    exact rpeek_ok rd g N all out j _ (List.getElem?_eq_getElem hl) (by omega) w h
  · have hb : peekB all out i = false := decide_eq_false hf
    rw [hb, if_neg (by simp)]
    exact rpeek_bad rd g N all out i (by omega) (by omega) w h
theorem aftP_len (N : Nat) (all : List ByteArray) (out : Nat) (s : ByteArray) : (aftP N all out s).length ≤ all.length + 1 := by unfold aftP; split <;> simp
end Go.Proofs.Ytogbchahfkphoaa
