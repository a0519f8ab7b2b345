/-
  prefix.number of any word.
-/
import Derived.Test.YtbpdnohcgojmbaaGreatDoorDec
namespace Go.Proofs.YtbpdnohcgojmbaaGreatDoor
open Go.RowKit
set_option linter.unusedVariables false

/-- The number of bits that a word stands for: at most three digits without leading noughts. -/
def numw (l : List UInt8) : Option Nat := if 3 < l.length then none else if 1 < l.length ∧ l.head? = some 48 then none else match Lib.parseUintB 64 l with | .ok u => some u | _ => none
/-- What it is read as. -/
def NumOut (o : Option Nat) (w : World) (e : Ending) (w' : World) : Prop :=
  (match o with | some v => e = .returned (.tuple #[.int .i64 v, .bool true]) | none => ∃ x, e = .returned (.tuple #[.int .i64 x, .bool false])) ∧ Below w.heap.size w w'
theorem NumOut.some_ {v : Nat} {w w' : World} (hb : Below w.heap.size w w') : NumOut (some v) w (.returned (.tuple #[.int .i64 v, .bool true])) w' := ⟨rfl, hb⟩
theorem NumOut.none_ {x : Int} {w w' : World} (hb : Below w.heap.size w w') : NumOut none w (.returned (.tuple #[.int .i64 x, .bool false])) w' := ⟨⟨x, rfl⟩, hb⟩
theorem numM_lt (M : Nat) : ∀ (l : List UInt8) (acc k v : Nat), acc < 10 ^ k → Lib.parseUintM M acc l = .ok v → v < 10 ^ (k + l.length)
  | [], acc, k, v, ha, h => by
    unfold Lib.parseUintM at h
    cases h; simpa using ha
  | c :: r, acc, k, v, ha, h => by
    unfold Lib.parseUintM at h
    split at h
    · split at h
      · cases h
      · split at h
        · cases h
        · have h1 := numM_lt M r _ (k + 1) v (by rw [Nat.pow_succ]; omega) h
          rw [List.length_cons, show k + (r.length + 1) = k + 1 + r.length by omega]
          exact h1
    · cases h
theorem numB_lt {l : List UInt8} {u : Nat} (hl : l.length ≤ 3) (h : Lib.parseUintB 64 l = .ok u) : u < 1000 := by
  unfold Lib.parseUintB at h
  split at h
  · cases h
  · have h1 := numM_lt _ l 0 0 u (by decide) h
    have h2 : (10 : Nat) ^ (0 + l.length) ≤ 10 ^ 3 := Nat.pow_le_pow_right (by decide) (by omega)
    omega
theorem numw_lt {l : List UInt8} {u : Nat} (h : numw l = some u) : u < 1000 := by
  unfold numw at h
  split at h
  · cases h
  · split at h
    · cases h
    · split at h
      · rename_i v hv
        injection h with h
        subst h
        exact numB_lt (by omega) hv
      · cases h

def NuNo (w : World) (e : Ending) (w' : World) : Prop := (∃ N x, e = .returned (.tuple #[.int .u64 x, .iface 109 (.pointer (some ⟨N, 0, none⟩))])) ∧ Below w.heap.size w w'
theorem nu_no (t : ByteArray) (hs : t.size ≤ 281474976710656) (hv : ∀ u, Lib.parseUintB 64 t.data.toList ≠ .ok u) (w : World) (hE : Env w) :
    Calls Tryz.prog 37 #[.string t, .int .i64 10, .int .i64 0] w (NuNo w) := by
  obtain ⟨-, ⟨t1, p1, h1⟩, ⟨t2, p2, h2⟩, -⟩ := hE
  cases h : Lib.parseUintB 64 t.data.toList
  · exact absurd h (hv _)
  · refine (Any.strconv_ParseUint_10_at0_syntax Tryz.laysPu14 t hs h _ w h1 (.inr ⟨t1, p1, rfl⟩)).mono ?_
    rintro e w' ⟨N, rfl, -, -, hb⟩
    exact ⟨⟨N, 0, rfl⟩, hb⟩
  · refine (Any.strconv_ParseUint_10_at0_range Tryz.laysPu14 t hs h _ w h2 (.inr ⟨t2, p2, rfl⟩)).mono ?_
    rintro e w' ⟨N, rfl, -, -, hb⟩
    exact ⟨⟨N, _, rfl⟩, hb⟩
theorem nu_ok (t : ByteArray) (hs : t.size ≤ 281474976710656) (u : Nat) (hv : Lib.parseUintB 64 t.data.toList = .ok u) (w : World) :
    Calls Tryz.prog 37 #[.string t, .int .i64 10, .int .i64 0] w fun e w' => e = .returned (.tuple #[.int .u64 u, .nilIface]) ∧ Below w.heap.size w w' := by
  refine (Any.strconv_ParseUint_10_at0_ok Tryz.laysPu14 t (by omega) u hv w).mono ?_
  rintro e w' ⟨rfl, rfl | rfl⟩
  · exact ⟨rfl, Below.refl _ _⟩
  · exact ⟨rfl, Lib.bytesWorld_below w 5 t⟩

set_option maxRecDepth 100000 in
set_option maxHeartbeats 1000000 in
theorem num_any (t : ByteArray) (hs : t.size ≤ 281474976710656) (w : World) (hE : Env w) :
    Calls Tryz.prog 20 #[.string t] w (NumOut (numw t.data.toList) w) := by
  have hl : t.size = t.data.toList.length := Lib.size_eq t
  by_cases hlong : 3 < t.size
  · have e : numw t.data.toList = none := by unfold numw; rw [if_pos (by omega)]
    rw [e]
    have h3 : (3 : Int) < t.size := by omega
    clear hs hl e hlong
    go_enter Tryz.func20, Tryz.ntmps20
    go_wp2
    go_ret2
    exact NumOut.none_ (Below.refl _ _)
  have hnl : ¬ (3 : Int) < t.size := by omega
  by_cases hz : 1 < t.size ∧ t.data.toList.head? = some 48
  · obtain ⟨h1, h2⟩ := hz
    have e : numw t.data.toList = none := by unfold numw; rw [if_neg (by omega), if_pos ⟨by omega, h2⟩]
    rw [e]
    have h0 : 0 < t.size := by omega
    rw [head_at t h0] at h2
    have h3 : t[0] = 48 := by injection h2
    have hq : ((t[0].toNat : Int) == 48) = true := by rw [h3]; rfl
    have h1' : (1 : Int) < t.size := by omega
    clear hs hl e h2 h3
    go_enter Tryz.func20, Tryz.ntmps20
    go_wp2
    go_ret2
    exact NumOut.none_ (Below.refl _ _)
  · have hd : ∀ {o}, (match Lib.parseUintB 64 t.data.toList with | .ok u => some u | _ => (none : Option Nat)) = o → numw t.data.toList = o := by
      intro o h
      unfold numw
      rw [if_neg (by omega), if_neg (by rintro ⟨a, b⟩; exact hz ⟨by omega, b⟩)]
      exact h
    have hq : Hid (¬ 1 < t.size ∨ ∃ h : 0 < t.size, ((t[0].toNat : Int) == 48) = false) := Lib.hid (by
      by_cases h1 : 1 < t.size
      · refine .inr ⟨by omega, ?_⟩
        have h2 : t[0]'(by omega) ≠ 48 := fun c => hz ⟨h1, by rw [head_at t (by omega), c]⟩
        have := byte48 _ h2
        simp
        omega
      · exact .inl h1)
    by_cases hok : ∃ u, Lib.parseUintB 64 t.data.toList = .ok u
    · obtain ⟨u, hu⟩ := hok
      have hu8 := numB_lt (by omega) hu
      rw [hd (o := some u) (by rw [hu])]
      have HP := Lib.hid (nu_ok t hs u hu w)
      have hu9 : (u : Int) < 1000 := by omega
      have hw : wrap64 (u : Int) = u := by unfold wrap64; omega
      clear hs hl hd hz hu
      rcases hq.out with h1 | ⟨h0, hq⟩
      · have h1' : ¬ (1 : Int) < t.size := by omega
        clear h1 hu8
        go_enter Tryz.func20, Tryz.ntmps20
        go_wp2_with fail
        refine Calls.mono HP.out ?_
        rintro e w1 ⟨rfl, hb⟩
        go_wp2
        go_quiet (fail)
        go_wp2
        go_ret2
        exact NumOut.some_ (below_drewN hb _)
      · clear hu8
        go_enter Tryz.func20, Tryz.ntmps20
        go_wp2_with fail
        all_goals
          refine Calls.mono HP.out ?_
          rintro e w1 ⟨rfl, hb⟩
          go_wp2
          go_quiet (fail)
          go_wp2
          go_ret2
          exact NumOut.some_ (below_drewN hb _)
    · rw [hd (o := none) (by
        cases h : Lib.parseUintB 64 t.data.toList
        · exact absurd ⟨_, h⟩ hok
        · rfl
        · rfl)]
      have HP := Lib.hid (nu_no t hs (fun u h => hok ⟨u, h⟩) w hE)
      clear hs hl hd hz hok
      rcases hq.out with h1 | ⟨h0, hq⟩
      · have h1' : ¬ (1 : Int) < t.size := by omega
        clear h1
        go_enter Tryz.func20, Tryz.ntmps20
        go_wp2_with fail
        refine Calls.mono HP.out ?_
        rintro e w1 ⟨⟨N, x, rfl⟩, hb⟩
        go_wp2
        go_quiet (fail)
        go_wp2
        go_ret2
        exact NumOut.none_ (below_drewN hb _)
      · go_enter Tryz.func20, Tryz.ntmps20
        go_wp2_with fail
        all_goals
          refine Calls.mono HP.out ?_
          rintro e w1 ⟨⟨N, x, rfl⟩, hb⟩
          go_wp2
          go_quiet (fail)
          go_wp2
          go_ret2
          exact NumOut.none_ (below_drewN hb _)
end Go.Proofs.YtbpdnohcgojmbaaGreatDoor
