/-
  addr.decimal of any word.
-/
import Derived.Test.YtbpdnohcgojmbaaGreatDoorHex
namespace Go.Proofs.YtbpdnohcgojmbaaGreatDoor
open Go.RowKit
set_option linter.unusedVariables false

/-- What a number's text stands for: a number of 0 to 255 without leading noughts. -/
def decw (l : List UInt8) : Option Nat := if 1 < l.length ∧ l.head? = some 48 then none else match Lib.parseUintB 8 l with | .ok u => some u | _ => none
/-- What a number's text is read as. -/
def DecOut (o : Option Nat) (w : World) (e : Ending) (w' : World) : Prop :=
  (match o with | some v => e = .returned (.tuple #[.int .u8 v, .bool true]) | none => ∃ x, e = .returned (.tuple #[.int .u8 x, .bool false])) ∧ Below w.heap.size w w'
theorem DecOut.some_ {v : Nat} {w w' : World} (hb : Below w.heap.size w w') : DecOut (some v) w (.returned (.tuple #[.int .u8 v, .bool true])) w' := ⟨rfl, hb⟩
theorem DecOut.none_ {x : Int} {w w' : World} (hb : Below w.heap.size w w') : DecOut none w (.returned (.tuple #[.int .u8 x, .bool false])) w' := ⟨⟨x, rfl⟩, hb⟩

def DuNo (w : World) (e : Ending) (w' : World) : Prop := (∃ N x, 0 ≤ x ∧ x ≤ 255 ∧ e = .returned (.tuple #[.int .u64 x, .iface 109 (.pointer (some ⟨N, 0, none⟩))])) ∧ Below w.heap.size w w'
theorem du_no (t : ByteArray) (hs : t.size ≤ 281474976710656) (hv : ∀ u, Lib.parseUintB 8 t.data.toList ≠ .ok u) (w : World) (hE : Env w) :
    Calls Tryz.prog 37 #[.string t, .int .i64 10, .int .i64 8] w (DuNo w) := by
  obtain ⟨-, ⟨t1, p1, h1⟩, ⟨t2, p2, h2⟩, -⟩ := hE
  cases h : Lib.parseUintB 8 t.data.toList
  · exact absurd h (hv _)
  · refine (Any.strconv_ParseUint_10_at8_syntax Tryz.laysPu14 t hs h _ w h1 (.inr ⟨t1, p1, rfl⟩)).mono ?_
    rintro e w' ⟨N, rfl, -, -, hb⟩
    exact ⟨⟨N, 0, by decide, by decide, rfl⟩, hb⟩
  · refine (Any.strconv_ParseUint_10_at8_range Tryz.laysPu14 t hs h _ w h2 (.inr ⟨t2, p2, rfl⟩)).mono ?_
    rintro e w' ⟨N, rfl, -, -, hb⟩
    exact ⟨⟨N, 255, by decide, by decide, rfl⟩, hb⟩
theorem du_ok (t : ByteArray) (hs : t.size ≤ 281474976710656) (u : Nat) (hv : Lib.parseUintB 8 t.data.toList = .ok u) (w : World) :
    Calls Tryz.prog 37 #[.string t, .int .i64 10, .int .i64 8] w fun e w' => e = .returned (.tuple #[.int .u64 u, .nilIface]) ∧ Below w.heap.size w w' := by
  refine (Any.strconv_ParseUint_10_at8_ok Tryz.laysPu14 t (by omega) u hv w).mono ?_
  rintro e w' ⟨rfl, rfl | rfl⟩
  · exact ⟨rfl, Below.refl _ _⟩
  · exact ⟨rfl, Lib.bytesWorld_below w 5 t⟩

theorem head_at (t : ByteArray) (h : 0 < t.size) : t.data.toList.head? = some t[0] := by
  have hl : 0 < t.data.toList.length := by rw [← Lib.size_eq]; exact h
  rw [List.head?_eq_getElem?, List.getElem?_eq_getElem hl]
  rfl
theorem byte48 (c : UInt8) (h : c ≠ 48) : ¬ c.toNat = 48 := fun e => h (by rw [← UInt8.ofNat_toNat (x := c), e]; rfl)

set_option maxHeartbeats 1000000 in
theorem dec_any (t : ByteArray) (hs : t.size ≤ 281474976710656) (w : World) (hE : Env w) :
    Calls Tryz.prog 58 #[.string t] w (DecOut (decw t.data.toList) w) := by
  have hl : t.size = t.data.toList.length := Lib.size_eq t
  by_cases hz : 1 < t.size ∧ t.data.toList.head? = some 48
  · obtain ⟨h1, h2⟩ := hz
    have e : decw t.data.toList = none := by unfold decw; rw [if_pos ⟨by omega, h2⟩]
    rw [e]
    have h0 : 0 < t.size := by omega
    rw [head_at t h0] at h2
    have h3 : t[0] = 48 := by injection h2
    have hq : ((t[0].toNat : Int) == 48) = true := by rw [h3]; rfl
    have h1' : (1 : Int) < t.size := by omega
    clear hs hl e h2 h3
    go_enter Tryz.func58, Tryz.ntmps58
    go_wp2
    go_ret2
    exact DecOut.none_ (Below.refl _ _)
  · have hd : ∀ {o}, (match Lib.parseUintB 8 t.data.toList with | .ok u => some u | _ => (none : Option Nat)) = o → decw t.data.toList = o := by
      intro o h
      unfold decw
      rw [if_neg (by rintro ⟨a, b⟩; exact hz ⟨by omega, b⟩)]
      exact h
    have hq : Hid (¬ 1 < t.size ∨ ∃ h : 0 < t.size, ((t[0].toNat : Int) == 48) = false) := Lib.hid (by
      by_cases h1 : 1 < t.size
      · refine .inr ⟨by omega, ?_⟩
        have h2 : t[0]'(by omega) ≠ 48 := fun c => hz ⟨h1, by rw [head_at t (by omega), c]⟩
        have := byte48 _ h2
        simp
        omega
      · exact .inl h1)
    by_cases hok : ∃ u, Lib.parseUintB 8 t.data.toList = .ok u
    · obtain ⟨u, hu⟩ := hok
      have hu8 := Lib.parseUintB_le hu
      rw [hd (o := some u) (by rw [hu])]
      have HP := Lib.hid (du_ok t hs u hu w)
      have hw : IntKind.u8.wrap (u : Int) = u := by rw [IntKind.wrap_u8]; omega
      clear hs hl hd hz hu
      rcases hq.out with h1 | ⟨h0, hq⟩
      · have h1' : ¬ (1 : Int) < t.size := by omega
        clear h1 hu8
        go_enter Tryz.func58, Tryz.ntmps58
        go_wp2_with fail
        refine Calls.mono HP.out ?_
        rintro e w1 ⟨rfl, hb⟩
        go_wp2
        go_quiet (fail)
        go_wp2
        go_ret2
        exact DecOut.some_ (below_drewN hb _)
      · clear hu8
        go_enter Tryz.func58, Tryz.ntmps58
        go_wp2_with fail
        all_goals
          refine Calls.mono HP.out ?_
          rintro e w1 ⟨rfl, hb⟩
          go_wp2
          go_quiet (fail)
          go_wp2
          go_ret2
          exact DecOut.some_ (below_drewN hb _)
    · rw [hd (o := none) (by
        cases h : Lib.parseUintB 8 t.data.toList
        · exact absurd ⟨_, h⟩ hok
        · rfl
        · rfl)]
      have HP := Lib.hid (du_no t hs (fun u h => hok ⟨u, h⟩) w hE)
      clear hs hl hd hz hok
      rcases hq.out with h1 | ⟨h0, hq⟩
      · have h1' : ¬ (1 : Int) < t.size := by omega
        clear h1
        go_enter Tryz.func58, Tryz.ntmps58
        go_wp2_with fail
        refine Calls.mono HP.out ?_
        rintro e w1 ⟨⟨N, x, x0, x1, rfl⟩, hb⟩
        go_wp2
        go_quiet (fail)
        go_wp2
        go_ret2
        exact DecOut.none_ (below_drewN hb _)
      · go_enter Tryz.func58, Tryz.ntmps58
        go_wp2_with fail
        all_goals
          refine Calls.mono HP.out ?_
          rintro e w1 ⟨⟨N, x, x0, x1, rfl⟩, hb⟩
          go_wp2
          go_quiet (fail)
          go_wp2
          go_ret2
          exact DecOut.none_ (below_drewN hb _)
end Go.Proofs.YtbpdnohcgojmbaaGreatDoor
