/-
  addr.hexadecimal of any word; and strconv.ParseUint beneath it.
-/
import Derived.Test.YtbpdnohcgojmbaaGreatDoorHexI
namespace Go.Proofs.YtbpdnohcgojmbaaGreatDoor
open Go.RowKit
set_option linter.unusedVariables false

theorem hexFrom_lt : ∀ (l : List UInt8) (acc k v : Nat), acc < 16 ^ k → hexFrom acc l = some v → v < 16 ^ (k + l.length)
  | [], acc, k, v, ha, h => by cases h; simpa using ha
  | c :: r, acc, k, v, ha, h => by
    unfold hexFrom at h
    cases hd : hexv c with
    | none => rw [hd] at h; cases h
    | some d =>
      rw [hd] at h
      have := hexFrom_lt r (acc * 16 + d) (k + 1) v (by have := hexv_lt hd; rw [Nat.pow_succ]; omega) h
      rwa [List.length_cons, show k + (r.length + 1) = k + 1 + r.length by omega]
theorem hexw_lt {l : List UInt8} {v : Nat} (h : hexw l = some v) : v < 65536 := by
  unfold hexw at h
  split at h
  · cases h
  · rename_i hn
    have h1 := hexFrom_lt l 0 0 v (by decide) h
    have h2 : 16 ^ (0 + l.length) ≤ 16 ^ 4 := Nat.pow_le_pow_right (by decide) (by omega)
    omega

/-- What a group's text is read as. -/
def HexOut (o : Option Nat) (w : World) (e : Ending) (w' : World) : Prop :=
  (match o with | some v => e = .returned (.tuple #[.int .u16 v, .bool true]) | none => e = .returned (.tuple #[.int .u16 0, .bool false])) ∧ Below w.heap.size w w'
theorem HexOut.some_ {v : Nat} {w w' : World} (hb : Below w.heap.size w w') : HexOut (some v) w (.returned (.tuple #[.int .u16 v, .bool true])) w' := ⟨rfl, hb⟩
theorem HexOut.none_ {w w' : World} (hb : Below w.heap.size w w') : HexOut none w (.returned (.tuple #[.int .u16 0, .bool false])) w' := ⟨rfl, hb⟩

theorem hemp_of {t : ByteArray} (h : t.size ≠ 0) : t.toList.isEmpty = false := by
  rw [Lib.toList_data]; exact List.isEmpty_eq_false_iff.2 fun e => h (by rw [Lib.size_eq, e]; rfl)

/-- strconv.ParseUint(t, 16, 16) of a text that is none. -/
def PuNo (w : World) (e : Ending) (w' : World) : Prop := (∃ N, e = .returned (.tuple #[.int .u64 0, .iface 109 (.pointer (some ⟨N, 0, none⟩))])) ∧ Below w.heap.size w w'
set_option maxHeartbeats 1000000 in
theorem pu16_ok (t : ByteArray) (h0 : t.size ≠ 0) (h4 : t.size ≤ 4) (v : Nat) (hv : hexFrom 0 t.data.toList = some v) (w : World) :
    Calls Tryz.prog 37 #[.string t, .int .i64 16, .int .i64 16] w fun e w' => e = .returned (.tuple #[.int .u64 v, .nilIface]) ∧ Below w.heap.size w w' := by
  have H : Calls Tryz.prog 60 #[.string t, .int .i64 16, .int .i64 16] w fun e w' => e = .returned (.tuple #[.int .u64 v, .nilIface]) ∧ Lib.bytesWorld w 5 t = w' := by
    have H := pu16i t h0 h4 w
    rw [hv] at H
    exact H
  have HH := Lib.hid H
  have HB := Lib.bytesWorld_below w 5 t
  clear H
  obtain ⟨W, hW⟩ : ∃ W, W = Lib.bytesWorld w 5 t := ⟨_, rfl⟩
  rw [← hW] at HH HB
  clear hW
  go_enter Tryz.func37, Tryz.ntmps37
  go_wp2_with fail
  refine Calls.mono HH.out ?_
  rintro e w' ⟨rfl, rfl⟩
  go_wp2
  go_ret2
  exact ⟨rfl, HB⟩
set_option maxHeartbeats 1000000 in
theorem pu16_no (t : ByteArray) (h4 : t.size ≤ 4) (hv : t.size = 0 ∨ hexFrom 0 t.data.toList = none) (w : World) (hE : Env w) :
    Calls Tryz.prog 37 #[.string t, .int .i64 16, .int .i64 16] w (PuNo w) := by
  have H : Calls Tryz.prog 60 #[.string t, .int .i64 16, .int .i64 16] w fun e w' => e = .returned (.tuple #[.int .u64 0, .iface 106 (.int .i64 2)]) ∧ Below w.heap.size w w' := by
    by_cases h0 : t.size = 0
    · have ht : t = ⟨#[]⟩ := by
        obtain ⟨⟨l⟩⟩ := t
        cases l with
        | nil => rfl
        | cons _ _ => simp [ByteArray.size] at h0
      subst ht
      refine (Tryz.internal_strconv_ParseUint_empty 16 16 w).mono ?_
      rintro e w' ⟨rfl, rfl⟩
      exact ⟨rfl, Below.refl _ _⟩
    · have H := pu16i t h0 h4 w
      rw [hv.resolve_left h0] at H
      refine H.mono ?_
      rintro e w' ⟨rfl, rfl⟩
      exact ⟨rfl, Lib.bytesWorld_below w 5 t⟩
  have HH := Lib.hid H
  clear H
  go_enter Tryz.func37, Tryz.ntmps37
  go_wp2_with fail
  refine Calls.mono HH.out ?_
  rintro e w1 ⟨rfl, hb⟩
  obtain ⟨te, pe, hs⟩ := (hE.below hb).2.1
  have HT := Lib.hid (Tryz.strconv_toError_syntax ⟨#[80, 97, 114, 115, 101, 85, 105, 110, 116]⟩ t 16 16 _ w1 (by omega) hs (.inr ⟨te, pe, rfl⟩))
  clear hs
  go_wp2_with fail
  refine Calls.mono HT.out ?_
  rintro e w2 ⟨N, rfl, -, -, hb2⟩
  have HB := hb.trans (hb2.mono hb.size)
  go_wp2
  go_ret2
  exact ⟨⟨N, rfl⟩, HB⟩

set_option maxHeartbeats 1000000 in
theorem hexa_any (t : ByteArray) (hs : t.size ≤ 281474976710656) (w : World) (hE : Env w) :
    Calls Tryz.prog 74 #[.string t] w (HexOut (hexw t.data.toList) w) := by
  have hl : t.size = t.data.toList.length := Lib.size_eq t
  by_cases h4 : 4 < t.size
  · have e : hexw t.data.toList = none := by unfold hexw; rw [if_pos (.inr (by omega))]
    rw [e]
    have h4' : (4 : Int) < t.size := by omega
    clear hs hl e h4
    go_enter Tryz.func74, Tryz.ntmps74
    go_wp2
    go_ret2
    exact HexOut.none_ (Below.refl _ _)
  · by_cases h0 : t.size = 0 ∨ hexFrom 0 t.data.toList = none
    · have e : hexw t.data.toList = none := by
        unfold hexw
        rcases h0 with h0 | h0
        · rw [if_pos (.inl (List.eq_nil_of_length_eq_zero (by omega)))]
        · split
          · rfl
          · exact h0
      rw [e]
      have HP := Lib.hid (pu16_no t (by omega) h0 w hE)
      have h4n : ¬ 4 < (t.size : Int) := by omega
      clear h0 hl e hs h4
      go_enter Tryz.func74, Tryz.ntmps74
      go_wp2_with fail
      refine Calls.mono HP.out ?_
      rintro e w1 ⟨⟨N, rfl⟩, hb⟩
      go_wp2
      go_quiet (fail)
      go_wp2
      go_ret2
      exact HexOut.none_ (below_drewN hb _)
    · obtain ⟨hz, hn⟩ : t.size ≠ 0 ∧ hexFrom 0 t.data.toList ≠ none := ⟨fun e => h0 (.inl e), fun e => h0 (.inr e)⟩
      obtain ⟨v, hv⟩ := Option.ne_none_iff_exists'.1 hn
      have e : hexw t.data.toList = some v := by
        unfold hexw
        rw [if_neg (by rintro (e | e); exact hz (by rw [hl, e]; rfl); omega)]
        exact hv
      have hv2 := hexw_lt e
      rw [e]
      have HP := Lib.hid (pu16_ok t hz (by omega) v hv w)
      have h4n : ¬ 4 < (t.size : Int) := by omega
      have hw : IntKind.u16.wrap (v : Int) = v := by rw [IntKind.wrap_u16]; omega
      clear h0 hl e hn hv hz hs h4
      go_enter Tryz.func74, Tryz.ntmps74
      go_wp2_with fail
      refine Calls.mono HP.out ?_
      rintro e w1 ⟨rfl, hb⟩
      go_wp2
      go_quiet (fail)
      go_wp2
      go_ret2
      exact HexOut.some_ (below_drewN hb _)
end Go.Proofs.YtbpdnohcgojmbaaGreatDoor
