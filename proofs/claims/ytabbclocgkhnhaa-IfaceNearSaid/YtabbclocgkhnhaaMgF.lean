/-
  Several texts in one: IfT, IfDo, IfSa, IfTe.
-/
import Derived.Test.YtabbclocgkhnhaaMgE

namespace Go.Proofs.Ytabbclocgkhnhaa
open Go.RowKit
set_option linter.unusedVariables false

/-- A step: What, Name, Mac, N, Port, Up, Addr. -/
structure StpI where
  what : Int
  name : ByteArray
  mac : Int
  num : Int
  port : Int
  up : Bool
  ad : AdI
def StpI.ok (x : StpI) : Prop := I64 x.what ∧ x.name.size ≤ 9223372036854775807 ∧ (0 ≤ x.mac ∧ x.mac ≤ 18446744073709551615) ∧ I64 x.num ∧ I64 x.port ∧ (N64 x.ad.2.1 ∧ N64 x.ad.2.2)
def stC (x : StpI) : List Value := [.int .i64 x.what, .string x.name, .int .u64 x.mac, .int .i64 x.num, .int .i64 x.port, .bool x.up, .bool x.ad.1, .int .u64 (x.ad.2.1 : Int), .int .u64 (x.ad.2.2 : Int)]
abbrev stV (x : StpI) : Value := .agg #[.int .i64 x.what, .string x.name, .int .u64 x.mac, .int .i64 x.num, .int .i64 x.port, .bool x.up, .bool x.ad.1, .int .u64 (x.ad.2.1 : Int), .int .u64 (x.ad.2.2 : Int)]
/-- What a step leaves; what it answers. -/
def doI (st : StI) (x : StpI) : StI × Int × Int :=
  if x.what % 8 = 0 then addI st x.name x.mac x.num
  else if x.what % 8 = 1 then ((turnI st x.port x.up).1, 0, (turnI st x.port x.up).2)
  else if x.what % 8 = 5 then ((dropI st x.port x.ad).1, 0, (dropI st x.port x.ad).2)
  else ((putI st x.port x.ad x.num).1, 0, (putI st x.port x.ad x.num).2)
theorem InvI.do_ {st : StI} (h : InvI st) {x : StpI} (hx : x.ok) : InvI (doI st x).1 := by
  unfold doI
  split
  · exact h.add _ _ _
  · split
    · exact h.turn _ _
    · split
      · exact h.drop _ _
      · exact h.put _ _ _ hx.2.2.2.2.2
theorem and_lowI (n : Int) (k : Nat) (hk : k ≤ 16) : bits .and .i64 n ((2 ^ k - 1 : Nat) : Int) = n % ((2 ^ k : Nat) : Int) := by
  have h0 : 2 ^ k ≤ 2 ^ 16 := Nat.pow_le_pow_right (by decide) hk
  have h00 : 0 < 2 ^ k := Nat.pow_pos (by decide)
  have h7 : (BitVec.ofInt 64 ((2 ^ k - 1 : Nat) : Int)).toNat = 2 ^ k - 1 := by
    rw [BitVec.toNat_ofInt]
    omega
  have key : (BitVec.ofInt 64 n &&& BitVec.ofInt 64 ((2 ^ k - 1 : Nat) : Int)).toNat = (n % ((2 ^ 64 : Nat) : Int)).toNat % 2 ^ k := by
    rw [BitVec.toNat_and, BitVec.toNat_ofInt, h7, Nat.and_two_pow_sub_one_eq_mod]
  show IntKind.i64.wrap ((BitVec.ofInt 64 n &&& BitVec.ofInt 64 ((2 ^ k - 1 : Nat) : Int)).toNat : Nat) = n % ((2 ^ k : Nat) : Int)
  rw [key, IntKind.wrap_i64]
  have hd : ((2 ^ k : Nat) : Int) ∣ ((2 ^ 64 : Nat) : Int) := Int.natCast_dvd_natCast.2 (Nat.pow_dvd_pow 2 (by omega))
  have h1 : (((n % ((2 ^ 64 : Nat) : Int)).toNat % 2 ^ k : Nat) : Int) = n % ((2 ^ k : Nat) : Int) := by
    rw [Int.natCast_emod, Int.toNat_of_nonneg (by omega), Int.emod_emod_of_dvd n hd]
  have h2 := Int.emod_lt_of_pos n (show (0 : Int) < ((2 ^ k : Nat) : Int) by omega)
  have h3 := Int.emod_nonneg n (show ((2 ^ k : Nat) : Int) ≠ 0 by omega)
  rw [h1]
  omega
theorem and7I (n : Int) : bits .and .i64 n 7 = n % 8 := by have := and_lowI n 3 (by decide); simpa using this
/-- '==' of two ports, of two locals. -/
theorem eq_port (n : ByteArray) (m u : Int) (b : Bool) (W : World) : (Op.equalIn 10000 46 (.agg #[.string n, .int .u64 m, .int .i64 u, .bool b]) (.agg #[.string n, .int .u64 m, .int .i64 u, .bool b])).run Try.prog W = .ok true W := by
  have h1 := str_eq n
  go_simp
theorem eq_lc (s s' : Bool) (h l h' l' b b' : Int) (W : World) : (Op.equalIn 10000 42 (.agg #[.bool s, .int .u64 h, .int .u64 l, .int .i64 b]) (.agg #[.bool s', .int .u64 h', .int .u64 l', .int .i64 b'])).run Try.prog W = .ok (decide (s = s' ∧ h = h' ∧ l = l' ∧ b = b')) W := by
  by_cases h1 : s = s'
  · subst h1
    by_cases h2 : h = h'
    · subst h2
      by_cases h3 : l = l'
      · subst h3
        by_cases h4 : b = b'
        · subst h4
          go_simp
        · have h5 : (b == b') = false := by simpa using h4
          rw [show decide (s = s ∧ h = h ∧ l = l ∧ b = b') = false by simp [h4]]
          go_simp
      · have h4 : (l == l') = false := by simpa using h3
        rw [show decide (s = s ∧ h = h ∧ l = l' ∧ b = b') = false by simp [h3]]
        go_simp
    · have h4 : (h == h') = false := by simpa using h2
      rw [show decide (s = s ∧ h = h' ∧ l = l' ∧ b = b') = false by simp [h2]]
      go_simp
  · have h4 : (s == s') = false := by simpa using h1
    rw [show decide (s = s' ∧ h = h' ∧ l = l' ∧ b = b') = false by simp [h1]]
    go_simp
end Go.Proofs.Ytabbclocgkhnhaa

namespace Go.Proofs.Ytabbclocgkhnhaa
open Go.RowKit
set_option linter.unusedVariables false

set_option maxRecDepth 100000 in
set_option maxHeartbeats 4000000 in
theorem do_any (p : Nat) (S : List Nat) (st : StI) (x : StpI) (hx : x.ok) (w : World) (h : IfP w p S st) :
    Calls Try.prog 11 #[.pointer (some ⟨p, 0, none⟩), stV x] w fun e w' => e = .returned (.tuple #[.int .i64 (doI st x).2.1, .int .i64 (doI st x).2.2]) ∧ ∃ S', IfP w' p S' (doI st x).1 ∧ Goes w w' S S' := by
  obtain ⟨wh, nm, mac, nu, po, up, s, ah, al⟩ := x
  obtain ⟨o1, o2, o3, o4, o5, o6⟩ := hx
  have o6 : N64 ah ∧ N64 al := o6
  obtain ⟨xb, hxb⟩ : ∃ xb, w.heap.size = xb := ⟨_, rfl⟩
  obtain ⟨W0, hW0⟩ : ∃ W, w.alloc (.cells #[.int .i64 wh, .string nm, .int .u64 mac, .int .i64 nu, .int .i64 po, .bool up, .bool s, .int .u64 (ah : Int), .int .u64 (al : Int)] 36) = W := ⟨_, rfl⟩
  have hX : Blk W0 xb 36 #[.int .i64 wh, .string nm, .int .u64 mac, .int .i64 nu, .int .i64 po, .bool up, .bool s, .int .u64 (ah : Int), .int .u64 (al : Int)] := hW0 ▸ hxb ▸ Blk.new _ _ _
  have x0 := (hX.cell 0).trans (show _ = some (Value.int .i64 wh) by rfl)
  have x1 := (hX.cell 1).trans (show _ = some (Value.string nm) by rfl)
  have x2 := (hX.cell 2).trans (show _ = some (Value.int .u64 mac) by rfl)
  have x3 := (hX.cell 3).trans (show _ = some (Value.int .i64 nu) by rfl)
  have x4 := (hX.cell 4).trans (show _ = some (Value.int .i64 po) by rfl)
  have x5 := (hX.cell 5).trans (show _ = some (Value.bool up) by rfl)
  have x6 := (hX.cell 6).trans (show _ = some (Value.bool s) by rfl)
  have x7 := (hX.cell 7).trans (show _ = some (Value.int .u64 (ah : Int)) by rfl)
  have x8 := (hX.cell 8).trans (show _ = some (Value.int .u64 (al : Int)) by rfl)
  have hT0 : Tch w W0 [] := hW0 ▸ (Tch.refl w []).alloc _
  have HT0 : Hid (Tch w W0 S) := Lib.hid (hT0.mono (by simp))
  have hP0 := h.tch hT0 (by simp)
  have HW0 := Lib.hid (And.intro hW0 hxb)
  obtain ⟨k, hk⟩ : ∃ k, wh % 8 = k := ⟨_, rfl⟩
  have ha : bits .and .i64 wh 7 = k := by rw [and7I]; exact hk
  have HGo : Hid (∀ W S', Goes W0 W S S' → Goes w W S S') := Lib.hid (fun W S' hg => (Goes.of_tch HT0.out).trans hg)
  by_cases k0 : k = 0
  · subst k0
    have HE : Hid (doI st ⟨wh, nm, mac, nu, po, up, s, ah, al⟩ = addI st nm mac nu) := Lib.hid (by unfold doI; rw [if_pos (show wh % 8 = 0 from hk)])
    have HC := Lib.hid (addP p S st nm mac nu o2 o3 o4 W0 hP0)
    clear hk hP0 h hT0 hX hW0 hxb o1 o2 o3 o4 o5 o6
    go_enter Try.func11, Try.ntmps11
    go_wp2_with fail
    rw [HW0.out.1, HW0.out.2]
    refine Calls.mono HC.out ?_
    rintro e w1 ⟨rfl, S', hI, hg⟩
    have HI := Lib.hid hI
    have HG := Lib.hid (HGo.out _ _ hg)
    clear hI hg x0 x1 x2 x3 x4 x5 x6 x7 x8
    go_wp2
    refine bodyPost_ret (v := .tuple #[.int .i64 (addI st nm mac nu).2.1, .int .i64 (addI st nm mac nu).2.2]) (by simp [results, Try.results11, go_sem]) rfl ⟨by rw [HE.out], S', by rw [HE.out]; exact HI.out, HG.out⟩
  by_cases k1 : k = 1
  · subst k1
    have HE : Hid (doI st ⟨wh, nm, mac, nu, po, up, s, ah, al⟩ = ((turnI st po up).1, 0, (turnI st po up).2)) := Lib.hid (by unfold doI; rw [if_neg (show ¬ wh % 8 = 0 by omega), if_pos (show wh % 8 = 1 from hk)])
    have HC := Lib.hid (turnP p S st po up o5 W0 hP0)
    clear hk hP0 h hT0 hX hW0 hxb o1 o2 o3 o4 o5 o6
    go_enter Try.func11, Try.ntmps11
    go_wp2_with fail
    rw [HW0.out.1, HW0.out.2]
    refine Calls.mono HC.out ?_
    rintro e w1 ⟨rfl, S', hI, hg⟩
    have HI := Lib.hid hI
    have HG := Lib.hid (HGo.out _ _ hg)
    clear hI hg x0 x1 x2 x3 x4 x5 x6 x7 x8
    go_wp2
    refine bodyPost_ret (v := .tuple #[.int .i64 (((turnI st po up).1, 0, (turnI st po up).2)).2.1, .int .i64 (((turnI st po up).1, 0, (turnI st po up).2)).2.2]) (by simp [results, Try.results11, go_sem]) rfl ⟨by rw [HE.out], S', by rw [HE.out]; exact HI.out, HG.out⟩
  by_cases k5 : k = 5
  · subst k5
    have HE : Hid (doI st ⟨wh, nm, mac, nu, po, up, s, ah, al⟩ = ((dropI st po (s, ah, al)).1, 0, (dropI st po (s, ah, al)).2)) := Lib.hid (by unfold doI; rw [if_neg (show ¬ wh % 8 = 0 by omega), if_neg (show ¬ wh % 8 = 1 by omega), if_pos (show wh % 8 = 5 from hk)])
    have HC := Lib.hid (dropP p S st po (s, ah, al) o6 o5 W0 hP0)
    clear hk hP0 h hT0 hX hW0 hxb o1 o2 o3 o4 o5 o6
    go_enter Try.func11, Try.ntmps11
    go_wp2_with fail
    rw [HW0.out.1, HW0.out.2]
    refine Calls.mono HC.out ?_
    rintro e w1 ⟨rfl, S', hI, hg⟩
    have HI := Lib.hid hI
    have HG := Lib.hid (HGo.out _ _ hg)
    clear hI hg x0 x1 x2 x3 x4 x5 x6 x7 x8
    go_wp2
    refine bodyPost_ret (v := .tuple #[.int .i64 (((dropI st po (s, ah, al)).1, 0, (dropI st po (s, ah, al)).2)).2.1, .int .i64 (((dropI st po (s, ah, al)).1, 0, (dropI st po (s, ah, al)).2)).2.2]) (by simp [results, Try.results11, go_sem]) rfl ⟨by rw [HE.out], S', by rw [HE.out]; exact HI.out, HG.out⟩
  · have b0 : (k == (0 : Int)) = false := by simpa using k0
    have b1 : (k == (1 : Int)) = false := by simpa using k1
    have b5 : (k == (5 : Int)) = false := by simpa using k5
    have HE : Hid (doI st ⟨wh, nm, mac, nu, po, up, s, ah, al⟩ = ((putI st po (s, ah, al) nu).1, 0, (putI st po (s, ah, al) nu).2)) := Lib.hid (by unfold doI; rw [if_neg (show ¬ wh % 8 = 0 by omega), if_neg (show ¬ wh % 8 = 1 by omega), if_neg (show ¬ wh % 8 = 5 by omega)])
    have HC := Lib.hid (putP p S st po (s, ah, al) o6 nu o5 o4 W0 hP0)
    clear hk k0 k1 k5 hP0 h hT0 hX hW0 hxb o1 o2 o3 o4 o5 o6
    go_enter Try.func11, Try.ntmps11
    go_wp2_with fail
    rw [HW0.out.1, HW0.out.2]
    refine Calls.mono HC.out ?_
    rintro e w1 ⟨rfl, S', hI, hg⟩
    have HI := Lib.hid hI
    have HG := Lib.hid (HGo.out _ _ hg)
    clear hI hg x0 x1 x2 x3 x4 x5 x6 x7 x8
    go_wp2
    refine bodyPost_ret (v := .tuple #[.int .i64 (((putI st po (s, ah, al) nu).1, 0, (putI st po (s, ah, al) nu).2)).2.1, .int .i64 (((putI st po (s, ah, al) nu).1, 0, (putI st po (s, ah, al) nu).2)).2.2]) (by simp [results, Try.results11, go_sem]) rfl ⟨by rw [HE.out], S', by rw [HE.out]; exact HI.out, HG.out⟩
theorem turnD' (t : Nat) (S : List Nat) (st : StI) (port : Int) (up : Bool) (w : World) (h : IfD w t S st) :
    Calls Try.prog 28 #[.pointer (some ⟨t, 0, none⟩), .int .i64 port, .bool up] w fun e w' => e = .returned (.int .i64 (turnI st port up).2) ∧ ∃ S', IfD w' t S' (turnI st port up).1 ∧ Goes w w' S S' :=
  (turnD t S st port up w h).mono fun e w' ⟨h1, h2, h3⟩ => ⟨h1, S, h2, Goes.of_tch h3⟩
set_option maxRecDepth 100000 in
set_option maxHeartbeats 4000000 in
theorem does_any (p : Nat) (S : List Nat) (st : StI) (x : StpI) (hx : x.ok) (w : World) (h : IfD w p S st) :
    Calls Try.prog 12 #[.pointer (some ⟨p, 0, none⟩), stV x] w fun e w' => e = .returned (.tuple #[.int .i64 (doI st x).2.1, .int .i64 (doI st x).2.2]) ∧ ∃ S', IfD w' p S' (doI st x).1 ∧ Goes w w' S S' := by
  obtain ⟨wh, nm, mac, nu, po, up, s, ah, al⟩ := x
  obtain ⟨o1, o2, o3, o4, o5, o6⟩ := hx
  have o6 : N64 ah ∧ N64 al := o6
  obtain ⟨xb, hxb⟩ : ∃ xb, w.heap.size = xb := ⟨_, rfl⟩
  obtain ⟨W0, hW0⟩ : ∃ W, w.alloc (.cells #[.int .i64 wh, .string nm, .int .u64 mac, .int .i64 nu, .int .i64 po, .bool up, .bool s, .int .u64 (ah : Int), .int .u64 (al : Int)] 36) = W := ⟨_, rfl⟩
  have hX : Blk W0 xb 36 #[.int .i64 wh, .string nm, .int .u64 mac, .int .i64 nu, .int .i64 po, .bool up, .bool s, .int .u64 (ah : Int), .int .u64 (al : Int)] := hW0 ▸ hxb ▸ Blk.new _ _ _
  have x0 := (hX.cell 0).trans (show _ = some (Value.int .i64 wh) by rfl)
  have x1 := (hX.cell 1).trans (show _ = some (Value.string nm) by rfl)
  have x2 := (hX.cell 2).trans (show _ = some (Value.int .u64 mac) by rfl)
  have x3 := (hX.cell 3).trans (show _ = some (Value.int .i64 nu) by rfl)
  have x4 := (hX.cell 4).trans (show _ = some (Value.int .i64 po) by rfl)
  have x5 := (hX.cell 5).trans (show _ = some (Value.bool up) by rfl)
  have x6 := (hX.cell 6).trans (show _ = some (Value.bool s) by rfl)
  have x7 := (hX.cell 7).trans (show _ = some (Value.int .u64 (ah : Int)) by rfl)
  have x8 := (hX.cell 8).trans (show _ = some (Value.int .u64 (al : Int)) by rfl)
  have hT0 : Tch w W0 [] := hW0 ▸ (Tch.refl w []).alloc _
  have HT0 : Hid (Tch w W0 S) := Lib.hid (hT0.mono (by simp))
  have hP0 := h.tch hT0 (by simp)
  have HW0 := Lib.hid (And.intro hW0 hxb)
  obtain ⟨k, hk⟩ : ∃ k, wh % 8 = k := ⟨_, rfl⟩
  have ha : bits .and .i64 wh 7 = k := by rw [and7I]; exact hk
  have HGo : Hid (∀ W S', Goes W0 W S S' → Goes w W S S') := Lib.hid (fun W S' hg => (Goes.of_tch HT0.out).trans hg)
  by_cases k0 : k = 0
  · subst k0
    have HE : Hid (doI st ⟨wh, nm, mac, nu, po, up, s, ah, al⟩ = addI st nm mac nu) := Lib.hid (by unfold doI; rw [if_pos (show wh % 8 = 0 from hk)])
    have HC := Lib.hid (addD p S st nm mac nu o3 W0 hP0)
    clear hk hP0 h hT0 hX hW0 hxb o1 o2 o3 o4 o5 o6
    go_enter Try.func12, Try.ntmps12
    go_wp2_with fail
    rw [HW0.out.1, HW0.out.2]
    refine Calls.mono HC.out ?_
    rintro e w1 ⟨rfl, S', hI, hg⟩
    have HI := Lib.hid hI
    have HG := Lib.hid (HGo.out _ _ hg)
    clear hI hg x0 x1 x2 x3 x4 x5 x6 x7 x8
    go_wp2
    refine bodyPost_ret (v := .tuple #[.int .i64 (addI st nm mac nu).2.1, .int .i64 (addI st nm mac nu).2.2]) (by simp [results, Try.results12, go_sem]) rfl ⟨by rw [HE.out], S', by rw [HE.out]; exact HI.out, HG.out⟩
  by_cases k1 : k = 1
  · subst k1
    have HE : Hid (doI st ⟨wh, nm, mac, nu, po, up, s, ah, al⟩ = ((turnI st po up).1, 0, (turnI st po up).2)) := Lib.hid (by unfold doI; rw [if_neg (show ¬ wh % 8 = 0 by omega), if_pos (show wh % 8 = 1 from hk)])
    have HC := Lib.hid (turnD' p S st po up W0 hP0)
    clear hk hP0 h hT0 hX hW0 hxb o1 o2 o3 o4 o5 o6
    go_enter Try.func12, Try.ntmps12
    go_wp2_with fail
    rw [HW0.out.1, HW0.out.2]
    refine Calls.mono HC.out ?_
    rintro e w1 ⟨rfl, S', hI, hg⟩
    have HI := Lib.hid hI
    have HG := Lib.hid (HGo.out _ _ hg)
    clear hI hg x0 x1 x2 x3 x4 x5 x6 x7 x8
    go_wp2
    refine bodyPost_ret (v := .tuple #[.int .i64 (((turnI st po up).1, 0, (turnI st po up).2)).2.1, .int .i64 (((turnI st po up).1, 0, (turnI st po up).2)).2.2]) (by simp [results, Try.results12, go_sem]) rfl ⟨by rw [HE.out], S', by rw [HE.out]; exact HI.out, HG.out⟩
  by_cases k5 : k = 5
  · subst k5
    have HE : Hid (doI st ⟨wh, nm, mac, nu, po, up, s, ah, al⟩ = ((dropI st po (s, ah, al)).1, 0, (dropI st po (s, ah, al)).2)) := Lib.hid (by unfold doI; rw [if_neg (show ¬ wh % 8 = 0 by omega), if_neg (show ¬ wh % 8 = 1 by omega), if_pos (show wh % 8 = 5 from hk)])
    have HC := Lib.hid (dropD p S st po (s, ah, al) W0 hP0)
    clear hk hP0 h hT0 hX hW0 hxb o1 o2 o3 o4 o5 o6
    go_enter Try.func12, Try.ntmps12
    go_wp2_with fail
    rw [HW0.out.1, HW0.out.2]
    refine Calls.mono HC.out ?_
    rintro e w1 ⟨rfl, S', hI, hg⟩
    have HI := Lib.hid hI
    have HG := Lib.hid (HGo.out _ _ hg)
    clear hI hg x0 x1 x2 x3 x4 x5 x6 x7 x8
    go_wp2
    refine bodyPost_ret (v := .tuple #[.int .i64 (((dropI st po (s, ah, al)).1, 0, (dropI st po (s, ah, al)).2)).2.1, .int .i64 (((dropI st po (s, ah, al)).1, 0, (dropI st po (s, ah, al)).2)).2.2]) (by simp [results, Try.results12, go_sem]) rfl ⟨by rw [HE.out], S', by rw [HE.out]; exact HI.out, HG.out⟩
  · have b0 : (k == (0 : Int)) = false := by simpa using k0
    have b1 : (k == (1 : Int)) = false := by simpa using k1
    have b5 : (k == (5 : Int)) = false := by simpa using k5
    have HE : Hid (doI st ⟨wh, nm, mac, nu, po, up, s, ah, al⟩ = ((putI st po (s, ah, al) nu).1, 0, (putI st po (s, ah, al) nu).2)) := Lib.hid (by unfold doI; rw [if_neg (show ¬ wh % 8 = 0 by omega), if_neg (show ¬ wh % 8 = 1 by omega), if_neg (show ¬ wh % 8 = 5 by omega)])
    have HC := Lib.hid (putD p S st po (s, ah, al) o6 nu W0 hP0)
    clear hk k0 k1 k5 hP0 h hT0 hX hW0 hxb o1 o2 o3 o4 o5 o6
    go_enter Try.func12, Try.ntmps12
    go_wp2_with fail
    rw [HW0.out.1, HW0.out.2]
    refine Calls.mono HC.out ?_
    rintro e w1 ⟨rfl, S', hI, hg⟩
    have HI := Lib.hid hI
    have HG := Lib.hid (HGo.out _ _ hg)
    clear hI hg x0 x1 x2 x3 x4 x5 x6 x7 x8
    go_wp2
    refine bodyPost_ret (v := .tuple #[.int .i64 (((putI st po (s, ah, al) nu).1, 0, (putI st po (s, ah, al) nu).2)).2.1, .int .i64 (((putI st po (s, ah, al) nu).1, 0, (putI st po (s, ah, al) nu).2)).2.2]) (by simp [results, Try.results12, go_sem]) rfl ⟨by rw [HE.out], S', by rw [HE.out]; exact HI.out, HG.out⟩
end Go.Proofs.Ytabbclocgkhnhaa

namespace Go.Proofs.Ytabbclocgkhnhaa
open Go.RowKit
set_option linter.unusedVariables false

theorem same_loc (A B : Option Addr) (xs : List Loc) (n c c' b1 b2 : Nat) (hn : xs.length = n) (h8 : n ≤ 8) (w : World) (hx : w.ownsRow b1 42 4 (.slice A n c) n (xs.flatMap lcC)) (hy : w.ownsRow b2 42 4 (.slice B n c') n (xs.flatMap lcC)) :
    Calls Try.prog 33 #[.slice A n c, .slice B n c'] w fun e w' => e = .returned (.bool true) ∧ Tch w w' [] := by
  have HX := Lib.hid hx
  have HY := Lib.hid hy
  have HN := Lib.hid hn
  have b0 : ((n : Int) != (n : Int)) = false := by simp
  clear hx hy hn
  go_enter Try.func33, Try.ntmps33
  go_wp2
  go_loopw [4, 5] (fun rv iv wr => ∃ (i k : Nat), rv = .bool false ∧ iv = .int .i64 (i : Int) ∧ i ≤ n ∧ wr = w.drewN k) (fun _ iv _ => n - (intOf iv).toNat)
  case atStart => exact ⟨0, 0, rfl, rfl, Nat.zero_le _, rfl⟩
  case round =>
    obtain ⟨i, k, rfl, rfl, hi, rfl⟩ := hrel
    have j1 : IntKind.i64.wrap ((i : Int) + 1) = (i : Int) + 1 := by rw [IntKind.wrap_i64]; omega
    by_cases hlt : i < n
    · have i1 : (i : Int) < (n : Int) := by omega
      have i0 : (0 : Int) ≤ (i : Int) := by omega
      obtain ⟨x, hx⟩ : ∃ x, xs[i]? = some x := ⟨_, List.getElem?_eq_getElem (by have := HN.out; omega)⟩
      obtain ⟨gx, rfl⟩ := slice_some HX.out (by omega)
      obtain ⟨gy, rfl⟩ := slice_some HY.out (by omega)
      obtain ⟨⟨xs', xh, xl⟩, xb⟩ := x
      have e0 : w.cell? ⟨gx, i * 4, none⟩ = some (.bool xs') := own_cellN HX.out ((flat4_at (f := lcC) (fun _ => rfl) hx (k := 0) (by decide)).trans rfl)
      have e1 : w.cell? ⟨gx, i * 4 + 1, none⟩ = some (.int .u64 (xh : Int)) := own_cellN HX.out ((flat4_at (f := lcC) (fun _ => rfl) hx (k := 1) (by decide)).trans rfl)
      have e2 : w.cell? ⟨gx, i * 4 + 2, none⟩ = some (.int .u64 (xl : Int)) := own_cellN HX.out ((flat4_at (f := lcC) (fun _ => rfl) hx (k := 2) (by decide)).trans rfl)
      have e3 : w.cell? ⟨gx, i * 4 + 3, none⟩ = some (.int .i64 xb) := own_cellN HX.out ((flat4_at (f := lcC) (fun _ => rfl) hx (k := 3) (by decide)).trans rfl)
      have g0 : w.cell? ⟨gy, i * 4, none⟩ = some (.bool xs') := own_cellN HY.out ((flat4_at (f := lcC) (fun _ => rfl) hx (k := 0) (by decide)).trans rfl)
      have g1 : w.cell? ⟨gy, i * 4 + 1, none⟩ = some (.int .u64 (xh : Int)) := own_cellN HY.out ((flat4_at (f := lcC) (fun _ => rfl) hx (k := 1) (by decide)).trans rfl)
      have g2 : w.cell? ⟨gy, i * 4 + 2, none⟩ = some (.int .u64 (xl : Int)) := own_cellN HY.out ((flat4_at (f := lcC) (fun _ => rfl) hx (k := 2) (by decide)).trans rfl)
      have g3 : w.cell? ⟨gy, i * 4 + 3, none⟩ = some (.int .i64 xb) := own_cellN HY.out ((flat4_at (f := lcC) (fun _ => rfl) hx (k := 3) (by decide)).trans rfl)
      have HC := Lib.hid (And.intro e0 (And.intro e1 (And.intro e2 (And.intro e3 (And.intro g0 (And.intro g1 (And.intro g2 g3)))))))
      have HQ : ∀ W, (binOp .neq 42 (.agg #[.bool xs', .int .u64 (xh : Int), .int .u64 (xl : Int), .int .i64 xb]) (.agg #[.bool xs', .int .u64 (xh : Int), .int .u64 (xl : Int), .int .i64 xb])).run Try.prog W = .ok (.bool (!true)) W := eq_neq 42 _ _ (fun W => by rw [eq_lc]; simp)
      clear hx e0 e1 e2 e3 g0 g1 g2 g3
      obtain ⟨wk, hwk⟩ : ∃ wk, w.drewN k = wk := ⟨_, rfl⟩
      have HWk := Lib.hid hwk
      have HC : Hid _ := Lib.hid (show wk.cell? ⟨gx, i * 4, none⟩ = some (.bool xs') ∧ wk.cell? ⟨gx, i * 4 + 1, none⟩ = some (.int .u64 (xh : Int)) ∧ wk.cell? ⟨gx, i * 4 + 2, none⟩ = some (.int .u64 (xl : Int)) ∧ wk.cell? ⟨gx, i * 4 + 3, none⟩ = some (.int .i64 xb) ∧ wk.cell? ⟨gy, i * 4, none⟩ = some (.bool xs') ∧ wk.cell? ⟨gy, i * 4 + 1, none⟩ = some (.int .u64 (xh : Int)) ∧ wk.cell? ⟨gy, i * 4 + 2, none⟩ = some (.int .u64 (xl : Int)) ∧ wk.cell? ⟨gy, i * 4 + 3, none⟩ = some (.int .i64 xb) from by rw [← hwk]; exact HC.out)
      rw [hwk]
      clear hwk
      go_wp2
      refine wp_region_held_drew (S := (fun W => W.cell? ⟨gx, i * 4, none⟩ = some (.bool xs') ∧ W.cell? ⟨gx, i * 4 + 1, none⟩ = some (.int .u64 (xh : Int)) ∧ W.cell? ⟨gx, i * 4 + 2, none⟩ = some (.int .u64 (xl : Int)) ∧ W.cell? ⟨gx, i * 4 + 3, none⟩ = some (.int .i64 xb) ∧ W.cell? ⟨gy, i * 4, none⟩ = some (.bool xs') ∧ W.cell? ⟨gy, i * 4 + 1, none⟩ = some (.int .u64 (xh : Int)) ∧ W.cell? ⟨gy, i * 4 + 2, none⟩ = some (.int .u64 (xl : Int)) ∧ W.cell? ⟨gy, i * 4 + 3, none⟩ = some (.int .i64 xb))) (by kernel_rfl) ?_ (fun hHeld => ?_)
      · (exact HC.out)
      refine wpAnyH_take (i := 0) (oi := { dst := some 17, op := Go.Op.move (Go.Operand.tmp 0), type := 39, pos := "law.go:47", after := #[], guard := none }) (v := ?_) rfl (by kernel_rfl) (by kernel_rfl) (by kernel_rfl) (fun _ _ _ h => h) (Or.inl ⟨by rfl, ?_⟩) (by assumption) ?_
      rotate_left
      · intro w hSw
        (try dsimp only at hSw)
        go_simp
        try (with_reducible rfl)
      try simp only [Act.put, List.setIfInBounds_toArray, List.set_cons_zero, List.set_cons_succ]
      refine wpAnyH_take (i := 1) (oi := { dst := some 18, op := Go.Op.move (Go.Operand.tmp 5), type := 3, pos := "law.go:47", after := #[], guard := none }) (v := ?_) rfl (by kernel_rfl) (by kernel_rfl) (by kernel_rfl) (fun _ _ _ h => h) (Or.inl ⟨by rfl, ?_⟩) (by assumption) ?_
      rotate_left
      · intro w hSw
        (try dsimp only at hSw)
        go_simp
        try (with_reducible rfl)
      try simp only [Act.put, List.setIfInBounds_toArray, List.set_cons_zero, List.set_cons_succ]
      refine wpAnyH_take (i := 2) (oi := { dst := some 19, op := Go.Op.indexAddr 39 (Go.Operand.tmp 17) (Go.Operand.tmp 18), type := 0, pos := "law.go:47", after := #[{ on := 0, ground := Go.Ground.data }, { on := 1, ground := Go.Ground.data }], guard := none }) (v := ?_) rfl (by kernel_rfl) (by kernel_rfl) (by kernel_rfl) (fun _ _ _ h => h) (Or.inl ⟨by rfl, ?_⟩) (by assumption) ?_
      rotate_left
      · intro w hSw
        (try dsimp only at hSw)
        go_simp
        try (with_reducible rfl)
      try simp only [Act.put, List.setIfInBounds_toArray, List.set_cons_zero, List.set_cons_succ]
      refine wpAnyH_take (i := 3) (oi := { dst := some 20, op := Go.Op.load 42 (Go.Operand.tmp 19), type := 42, pos := "law.go:47", after := #[{ on := 2, ground := Go.Ground.data }], guard := none }) (v := ?_) rfl (by kernel_rfl) (by kernel_rfl) (by kernel_rfl) (fun _ _ _ h => h) (Or.inl ⟨by rfl, ?_⟩) (by assumption) ?_
      rotate_left
      · intro w hSw
        (try dsimp only at hSw)
        go_simp
        try (with_reducible rfl)
      try simp only [Act.put, List.setIfInBounds_toArray, List.set_cons_zero, List.set_cons_succ]
      refine wpAnyH_take (i := 4) (oi := { dst := some 21, op := Go.Op.move (Go.Operand.tmp 1), type := 39, pos := "law.go:47", after := #[], guard := none }) (v := ?_) rfl (by kernel_rfl) (by kernel_rfl) (by kernel_rfl) (fun _ _ _ h => h) (Or.inl ⟨by rfl, ?_⟩) (by assumption) ?_
      rotate_left
      · intro w hSw
        (try dsimp only at hSw)
        go_simp
        try (with_reducible rfl)
      try simp only [Act.put, List.setIfInBounds_toArray, List.set_cons_zero, List.set_cons_succ]
      refine wpAnyH_take (i := 5) (oi := { dst := some 22, op := Go.Op.move (Go.Operand.tmp 5), type := 3, pos := "law.go:47", after := #[], guard := none }) (v := ?_) rfl (by kernel_rfl) (by kernel_rfl) (by kernel_rfl) (fun _ _ _ h => h) (Or.inl ⟨by rfl, ?_⟩) (by assumption) ?_
      rotate_left
      · intro w hSw
        (try dsimp only at hSw)
        go_simp
        try (with_reducible rfl)
      try simp only [Act.put, List.setIfInBounds_toArray, List.set_cons_zero, List.set_cons_succ]
      refine wpAnyH_take (i := 6) (oi := { dst := some 23, op := Go.Op.indexAddr 39 (Go.Operand.tmp 21) (Go.Operand.tmp 22), type := 0, pos := "law.go:47", after := #[{ on := 4, ground := Go.Ground.data }, { on := 5, ground := Go.Ground.data }], guard := none }) (v := ?_) rfl (by kernel_rfl) (by kernel_rfl) (by kernel_rfl) (fun _ _ _ h => h) (Or.inl ⟨by rfl, ?_⟩) (by assumption) ?_
      rotate_left
      · intro w hSw
        (try dsimp only at hSw)
        go_simp
        try (with_reducible rfl)
      try simp only [Act.put, List.setIfInBounds_toArray, List.set_cons_zero, List.set_cons_succ]
      refine wpAnyH_take (i := 7) (oi := { dst := some 24, op := Go.Op.load 42 (Go.Operand.tmp 23), type := 42, pos := "law.go:47", after := #[{ on := 6, ground := Go.Ground.data }], guard := none }) (v := ?_) rfl (by kernel_rfl) (by kernel_rfl) (by kernel_rfl) (fun _ _ _ h => h) (Or.inl ⟨by rfl, ?_⟩) (by assumption) ?_
      rotate_left
      · intro w hSw
        (try dsimp only at hSw)
        go_simp
        try (with_reducible rfl)
      try simp only [Act.put, List.setIfInBounds_toArray, List.set_cons_zero, List.set_cons_succ]
      refine wpAnyH_take (i := 8) (oi := { dst := some 25, op := Go.Op.binOp Go.BinOp.neq 42 (Go.Operand.tmp 20) (Go.Operand.tmp 24) 42, type := 4, pos := "law.go:47", after := #[{ on := 3, ground := Go.Ground.data }, { on := 7, ground := Go.Ground.data }], guard := none }) (v := ?_) rfl (by kernel_rfl) (by kernel_rfl) (by kernel_rfl) (fun _ _ _ h => h) (Or.inl ⟨by rfl, ?_⟩) (by assumption) ?_
      rotate_left
      · intro w hSw
        (try dsimp only at hSw)
        go_simp
        try (with_reducible rfl)
      try simp only [Act.put, List.setIfInBounds_toArray, List.set_cons_zero, List.set_cons_succ]
      refine wpAnyH_done (by kernel_rfl) ?_ _
      go_wp2
      go_roundw
      case rel => exact ⟨i + 1, k + 1, rfl, by go_num, hlt, by rw [← HWk.out]; rfl⟩
      case measure => simp [intOf]; omega
    · obtain rfl : i = n := by omega
      have i1 : ¬ (i : Int) < (i : Int) := by omega
      clear hlt hi
      go_wp2
      go_ret
      exact ⟨rfl, (Tch.refl w []).drewN k⟩
end Go.Proofs.Ytabbclocgkhnhaa

namespace Go.Proofs.Ytabbclocgkhnhaa
open Go.RowKit
set_option linter.unusedVariables false

/-- The program's set and the document's, side by side: of the same ports, no block of both. -/
structure TwoI (w : World) (p : Nat) (Sp : List Nat) (t : Nat) (St : List Nat) (st : StI) : Prop where
  P : IfP w p Sp st
  D : IfD w t St st
  dis : ∀ s ∈ Sp, s ∉ St
section
variable {w w' : World} {p t : Nat} {Sp St Sp' St' T : List Nat} {st st' : StI}
theorem TwoI.tch0 (h : TwoI w p Sp t St st) (ht : Tch w w' []) : TwoI w' p Sp t St st := ⟨h.P.tch ht (by simp), h.D.tch ht (by simp), h.dis⟩
theorem TwoI.alloc (h : TwoI w p Sp t St st) (o : Obj) : TwoI (w.alloc o) p Sp t St st := h.tch0 ((Tch.refl w []).alloc o)
theorem TwoI.readP (h : TwoI w p Sp t St st) (hP : IfP w' p Sp st) (ht : Tch w w' Sp) : TwoI w' p Sp t St st := ⟨hP, h.D.tch ht (fun s hs hm => h.dis s hm hs), h.dis⟩
theorem TwoI.goP (h : TwoI w p Sp t St st) (hP : IfP w' p Sp' st') (hg : Goes w w' Sp Sp') : IfP w' p Sp' st' ∧ IfD w' t St st ∧ ∀ s ∈ Sp', s ∉ St :=
  ⟨hP, h.D.tch hg.tch (fun s hs hm => h.dis s hm hs), fun s hs hm => by
    rcases hg.fre s hs with h1 | h1
    · exact h.dis s h1 hm
    · have := h.D.lt s hm; omega⟩
theorem TwoI.mk' (hP : IfP w p Sp st') (hD : IfD w t St st) (hd : ∀ s ∈ Sp, s ∉ St) (hD' : IfD w' t St' st') (hg : Goes w w' St St') : TwoI w' p Sp t St' st' :=
  ⟨hP.tch hg.tch (fun s hs => hd s hs), hD', fun s hs hm => by
    rcases hg.fre s hm with h1 | h1
    · exact hd s hs h1
    · have := hP.lt s hs; omega⟩
end
theorem i64_small (i : Nat) (h : i ≤ 1000) : I64 (i : Int) := by
  unfold I64
  simp [Lit.wf, IntKind.min, IntKind.max, IntKind.bits, IntKind.signed]
  omega
/-- A block that no call of the program's set touches. -/
theorem keep_blk {w w' : World} {S : List Nat} {g B : Nat} {t : TypeId} {cs : Array Value} (h : Blk w g t cs) (ht : Tch w w' S) (hS : ∀ s ∈ S, s < B) (hg : B ≤ g) : Blk w' g t cs :=
  ht.blk h (fun hm => by have := hS g hm; omega)
set_option maxRecDepth 100000 in
set_option maxHeartbeats 8000000 in
theorem tells_any (p : Nat) (Sp : List Nat) (t : Nat) (St : List Nat) (st : StI) (x : StpI) (hx : x.ok) (w : World) (h : TwoI w p Sp t St st) :
    Calls Try.prog 13 #[.pointer (some ⟨p, 0, none⟩), .pointer (some ⟨t, 0, none⟩), stV x] w fun e w' => e = .returned (.bool true) ∧ TwoI w' p Sp t St st ∧ Tch w w' Sp := by
  obtain ⟨wh, nm, mac, nu, po, up, s, ah, al⟩ := x
  obtain ⟨o1, o2, o3, o4, o5, o6⟩ := hx
  have o6 : N64 ah ∧ N64 al := o6
  have HSp := Lib.hid h.P.lt
  have hinv := h.D.inv
  obtain ⟨xb, hxb⟩ : ∃ xb, w.heap.size = xb := ⟨_, rfl⟩
  obtain ⟨W0, hW0⟩ : ∃ W, w.alloc (.cells #[.int .i64 wh, .string nm, .int .u64 mac, .int .i64 nu, .int .i64 po, .bool up, .bool s, .int .u64 (ah : Int), .int .u64 (al : Int)] 36) = W := ⟨_, rfl⟩
  have hX : Blk W0 xb 36 #[.int .i64 wh, .string nm, .int .u64 mac, .int .i64 nu, .int .i64 po, .bool up, .bool s, .int .u64 (ah : Int), .int .u64 (al : Int)] := hW0 ▸ hxb ▸ Blk.new _ _ _
  have HX := Lib.hid hX
  have HT0 : Hid (Tch w W0 []) := Lib.hid (hW0 ▸ (Tch.refl w []).alloc _)
  have H0 := Lib.hid (h.tch0 HT0.out)
  have HW0 := Lib.hid (And.intro hW0 hxb)
  have HXc : Hid (∀ W, Tch W0 W Sp → Blk W xb 36 #[.int .i64 wh, .string nm, .int .u64 mac, .int .i64 nu, .int .i64 po, .bool up, .bool s, .int .u64 (ah : Int), .int .u64 (al : Int)]) := Lib.hid (fun W hT => keep_blk HX.out hT (by rw [← hxb]; exact HSp.out) (Nat.le_refl _))
  have HO := Lib.hid o6
  have HI := Lib.hid hinv
  have HNm := Lib.hid o2
  have HXl : Hid (∀ s ∈ Sp, s < xb) := Lib.hid (by rw [← hxb]; exact HSp.out)
  clear h hX hW0 hxb o1 o2 o3 o4 o5 o6 hinv
  go_enter Try.func13, Try.ntmps13
  go_wp2
  rw [HW0.out.1, HW0.out.2]
  go_loopw [6, 7] (fun rv iv wr => ∃ (i : Nat), rv = .bool false ∧ iv = .int .i64 (i : Int) ∧ i ≤ 10 ∧ Hid (TwoI wr p Sp t St st) ∧ Hid (Tch W0 wr Sp)) (fun _ iv _ => 10 - (intOf iv).toNat)
  case atStart => exact ⟨0, rfl, rfl, Nat.zero_le _, H0, Lib.hid (Tch.refl _ _)⟩
  case round =>
    obtain ⟨i, rfl, rfl, hi, hW, hT⟩ := hrel
    have j1 : IntKind.i64.wrap ((i : Int) + 1) = (i : Int) + 1 := by rw [IntKind.wrap_i64]; omega
    by_cases hlt : i < 10
    · have i1 : (i : Int) < 10 := by omega
      have HI64 : Hid (I64 (i : Int)) := Lib.hid (i64_small i (by omega))
      obtain ⟨th, hth⟩ : ∃ th, thereI st (i : Int) = th := ⟨_, rfl⟩
      obtain ⟨pp, hpp⟩ : ∃ pp, portI st (i : Int) = pp := ⟨_, rfl⟩
      obtain ⟨pn, pm, pu, pb⟩ := pp
      have HP1 := Lib.hid (portP p Sp st (i : Int) HI64.out wr hW.out.P)
      rw [hth, hpp] at HP1
      have HP1' : Hid (Calls Try.prog 16 #[.pointer (some ⟨p, 0, none⟩), .int .i64 (i : Int)] wr fun e w' => e = .returned (.tuple #[.agg #[.string pn, .int .u64 pm, .int .i64 pu, .bool pb], .bool th]) ∧ IfP w' p Sp st ∧ Tch wr w' Sp) := HP1
      have HPD : Hid (∀ W, IfD W t St st → Calls Try.prog 31 #[.pointer (some ⟨t, 0, none⟩), .int .i64 (i : Int)] W fun e w' => e = .returned (.tuple #[.agg #[.string pn, .int .u64 pm, .int .i64 pu, .bool pb], .bool th]) ∧ Tch W w' []) := Lib.hid (fun W hD => by have h1 := portD t St st (i : Int) W hD; rw [hth, hpp] at h1; exact h1)
      obtain ⟨rr, hrr⟩ : ∃ r, srcI st (i : Int) (s, ah, al) = r := ⟨_, rfl⟩
      obtain ⟨ra, hra⟩ : ∃ ra, rr.getD (false, 0, 0) = ra := ⟨_, rfl⟩
      obtain ⟨rb, hrb⟩ : ∃ rb, rr.isSome = rb := ⟨_, rfl⟩
      obtain ⟨rs, rh, rl⟩ := ra
      have hsv : srV rr = .tuple #[.agg #[.bool rs, .int .u64 (rh : Int), .int .u64 (rl : Int)], .bool rb] := by unfold srV; rw [hra, hrb]
      have HS1 : Hid (∀ W, IfP W p Sp st → Calls Try.prog 19 #[.pointer (some ⟨p, 0, none⟩), .int .i64 (i : Int), .agg #[.bool s, .int .u64 (ah : Int), .int .u64 (al : Int)]] W fun e w' => e = .returned (.tuple #[.agg #[.bool rs, .int .u64 (rh : Int), .int .u64 (rl : Int)], .bool rb]) ∧ IfP w' p Sp st ∧ Tch W w' Sp) := Lib.hid (fun W hP => by have h1 := srcP p Sp st (i : Int) (s, ah, al) HO.out HI64.out W hP; rw [hrr, hsv] at h1; exact h1)
      have HSD : Hid (∀ W, IfD W t St st → Calls Try.prog 32 #[.pointer (some ⟨t, 0, none⟩), .int .i64 (i : Int), .agg #[.bool s, .int .u64 (ah : Int), .int .u64 (al : Int)]] W fun e w' => e = .returned (.tuple #[.agg #[.bool rs, .int .u64 (rh : Int), .int .u64 (rl : Int)], .bool rb]) ∧ Tch W w' []) := Lib.hid (fun W hD => by have h1 := srcD t St st (i : Int) (s, ah, al) HO.out W hD; rw [hrr, hsv] at h1; exact h1)
      have HLP := Lib.hid (fun W hP => localsP p Sp st (i : Int) HI64.out W hP)
      have HLD := Lib.hid (fun W hD => localsD t St st (i : Int) W hD)
      obtain ⟨ll, hll⟩ : ∃ ll, localsI st (i : Int) = ll := ⟨_, rfl⟩
      rw [hll] at HLP HLD
      have hl8 : ll.length ≤ 8 := by
        rw [← hll]
        unfold localsI
        split
        · simp
        · rename_i h9
          obtain ⟨_, l, -, hl, he, -⟩ := locI_at HI.out (by simpa using h9)
          rw [he]; exact HI.out.loc l (List.mem_of_getElem? hl)
      obtain ⟨m, hm⟩ : ∃ m, ll.length = m := ⟨_, rfl⟩
      rw [hm] at HLP HLD hl8
      have HM := Lib.hid hm
      have HL8 := Lib.hid hl8
      have E1 : ∀ W, (binOp .neq 46 (.agg #[.string pn, .int .u64 pm, .int .i64 pu, .bool pb]) (.agg #[.string pn, .int .u64 pm, .int .i64 pu, .bool pb])).run Try.prog W = .ok (.bool (!true)) W := eq_neq _ _ _ (fun W => eq_port pn pm pu pb W)
      have E2 : ∀ W, (binOp .neq 34 (.agg #[.bool rs, .int .u64 (rh : Int), .int .u64 (rl : Int)]) (.agg #[.bool rs, .int .u64 (rh : Int), .int .u64 (rl : Int)])).run Try.prog W = .ok (.bool (!true)) W := eq_neq _ _ _ (fun W => by rw [eq_ad]; simp)
      have bth : (th != th) = false := by simp
      have brb : (rb != rb) = false := by simp
      clear HP1 hth hpp hrr hra hrb hsv hll hm hl8 hi
      go_wp2_with fail
      refine Calls.mono HP1'.out ?_
      rintro e w1 ⟨rfl, hP, hTa⟩
      have Y1 := Lib.hid (hW.out.readP hP hTa)
      have T1 := Lib.hid (hT.out.trans hTa)
      clear hP hTa
      -- p's variable
      obtain ⟨W1, hW1⟩ : ∃ W, w1.alloc (.cells #[.string pn, .int .u64 pm, .int .i64 pu, .bool pb] 46) = W := ⟨_, rfl⟩
      obtain ⟨g1, hg1⟩ : ∃ g, w1.heap.size = g := ⟨_, rfl⟩
      have V1 : Hid (Blk W1 g1 46 #[.string pn, .int .u64 pm, .int .i64 pu, .bool pb]) := Lib.hid (hW1 ▸ hg1 ▸ Blk.new _ _ _)
      have Y2 : Hid (TwoI W1 p Sp t St st) := Lib.hid (hW1 ▸ Y1.out.alloc _)
      have T2 : Hid (Tch W0 W1 Sp) := Lib.hid (hW1 ▸ T1.out.alloc _)
      have G1 : Hid (xb ≤ g1) := Lib.hid (by have h1 := T1.out.size; have h2 := HX.out.lt; omega)
      have Hw1 := Lib.hid (And.intro hW1 hg1)
      clear hW1 hg1
      go_wp2_with fail
      rw [Hw1.out.1, Hw1.out.2]
      refine Calls.mono (HPD.out W1 Y2.out.D) ?_
      rintro e w2 ⟨rfl, hTb⟩
      obtain ⟨W2, hW2⟩ : ∃ W, w2.alloc (.cells #[.string pn, .int .u64 pm, .int .i64 pu, .bool pb] 46) = W := ⟨_, rfl⟩
      obtain ⟨g2, hg2⟩ : ∃ g, w2.heap.size = g := ⟨_, rfl⟩
      have V2 : Hid (Blk W2 g2 46 #[.string pn, .int .u64 pm, .int .i64 pu, .bool pb]) := Lib.hid (hW2 ▸ hg2 ▸ Blk.new _ _ _)
      have D2 : Hid (Tch W1 W2 []) := Lib.hid (hW2 ▸ hTb.alloc _)
      have Y3 := Lib.hid (Y2.out.tch0 D2.out)
      have T3 : Hid (Tch W0 W2 Sp) := Lib.hid (T2.out.trans (D2.out.mono (by simp)))
      have G2 : Hid (xb ≤ g2) := Lib.hid (by have h1 := G1.out; have h2 := V1.out.lt; have h3 := hTb.size; omega)
      have Hw2 := Lib.hid (And.intro hW2 hg2)
      have hx2 := HXc.out W2 T3.out
      have x6 := (hx2.cell 6).trans (show _ = some (Value.bool s) by rfl)
      have x7 := (hx2.cell 7).trans (show _ = some (Value.int .u64 (ah : Int)) by rfl)
      have x8 := (hx2.cell 8).trans (show _ = some (Value.int .u64 (al : Int)) by rfl)
      rw [← hW2] at x6 x7 x8
      clear hW2 hg2 hTb hx2
      go_wp2_with fail
      rw [Hw2.out.1, Hw2.out.2]
      refine Calls.mono (HS1.out W2 Y3.out.P) ?_
      rintro e w3 ⟨rfl, hP, hTc⟩
      obtain ⟨W3, hW3⟩ : ∃ W, w3.alloc (.cells #[.bool rs, .int .u64 (rh : Int), .int .u64 (rl : Int)] 34) = W := ⟨_, rfl⟩
      obtain ⟨g3, hg3⟩ : ∃ g, w3.heap.size = g := ⟨_, rfl⟩
      have V3 : Hid (Blk W3 g3 34 #[.bool rs, .int .u64 (rh : Int), .int .u64 (rl : Int)]) := Lib.hid (hW3 ▸ hg3 ▸ Blk.new _ _ _)
      have D3 : Hid (Tch W2 W3 Sp) := Lib.hid (hW3 ▸ hTc.alloc _)
      have Y4 : Hid (TwoI W3 p Sp t St st) := Lib.hid (hW3 ▸ (Y3.out.readP hP hTc).alloc _)
      have T4 : Hid (Tch W0 W3 Sp) := Lib.hid (T3.out.trans D3.out)
      have G3 : Hid (xb ≤ g3) := Lib.hid (by have h1 := G2.out; have h2 := V2.out.lt; have h3 := hTc.size; omega)
      have Hw3 := Lib.hid (And.intro hW3 hg3)
      have hx3 := HXc.out W3 T4.out
      have y6 := (hx3.cell 6).trans (show _ = some (Value.bool s) by rfl)
      have y7 := (hx3.cell 7).trans (show _ = some (Value.int .u64 (ah : Int)) by rfl)
      have y8 := (hx3.cell 8).trans (show _ = some (Value.int .u64 (al : Int)) by rfl)
      rw [← hW3] at y6 y7 y8
      clear hW3 hg3 hP hTc hx3 x6 x7 x8
      go_wp2_with fail
      rw [Hw3.out.1, Hw3.out.2]
      refine Calls.mono (HSD.out W3 Y4.out.D) ?_
      rintro e w4 ⟨rfl, hTd⟩
      obtain ⟨W4, hW4⟩ : ∃ W, w4.alloc (.cells #[.bool rs, .int .u64 (rh : Int), .int .u64 (rl : Int)] 34) = W := ⟨_, rfl⟩
      obtain ⟨g4, hg4⟩ : ∃ g, w4.heap.size = g := ⟨_, rfl⟩
      have V4 : Hid (Blk W4 g4 34 #[.bool rs, .int .u64 (rh : Int), .int .u64 (rl : Int)]) := Lib.hid (hW4 ▸ hg4 ▸ Blk.new _ _ _)
      have D4 : Hid (Tch W3 W4 []) := Lib.hid (hW4 ▸ hTd.alloc _)
      have Y5 := Lib.hid (Y4.out.tch0 D4.out)
      have T5 : Hid (Tch W0 W4 Sp) := Lib.hid (T4.out.trans (D4.out.mono (by simp)))
      have Hw4 := Lib.hid (And.intro hW4 hg4)
      have a1 := (((keep_blk (V1.out) (((D2.out.mono (by simp)).trans D3.out).trans (D4.out.mono (by simp))) HXl.out G1.out)))
      have a2 := (((keep_blk (V2.out) (D3.out.trans (D4.out.mono (by simp))) HXl.out G2.out)))
      have a3 := (((keep_blk (V3.out) (D4.out.mono (T := Sp) (by simp)) HXl.out G3.out)))
      have a4 := V4.out
      have p0 := (a1.cell 0).trans (show _ = some (Value.string pn) by rfl)
      have p1 := (a1.cell 1).trans (show _ = some (Value.int .u64 pm) by rfl)
      have p2 := (a1.cell 2).trans (show _ = some (Value.int .i64 pu) by rfl)
      have p3 := (a1.cell 3).trans (show _ = some (Value.bool pb) by rfl)
      have q0 := (a2.cell 0).trans (show _ = some (Value.string pn) by rfl)
      have q1 := (a2.cell 1).trans (show _ = some (Value.int .u64 pm) by rfl)
      have q2 := (a2.cell 2).trans (show _ = some (Value.int .i64 pu) by rfl)
      have q3 := (a2.cell 3).trans (show _ = some (Value.bool pb) by rfl)
      have r0 := (a3.cell 0).trans (show _ = some (Value.bool rs) by rfl)
      have r1 := (a3.cell 1).trans (show _ = some (Value.int .u64 (rh : Int)) by rfl)
      have r2 := (a3.cell 2).trans (show _ = some (Value.int .u64 (rl : Int)) by rfl)
      have t0 := (a4.cell 0).trans (show _ = some (Value.bool rs) by rfl)
      have t1 := (a4.cell 1).trans (show _ = some (Value.int .u64 (rh : Int)) by rfl)
      have t2 := (a4.cell 2).trans (show _ = some (Value.int .u64 (rl : Int)) by rfl)
      rw [← hW4] at p0 p1 p2 p3 q0 q1 q2 q3 r0 r1 r2 t0 t1 t2
      rw [← hg4] at t0 t1 t2
      clear hW4 hg4 hTd a1 a2 a3 a4 y6 y7 y8
      go_wp2_with fail
      rw [Hw4.out.1]
      refine Calls.mono (HLP.out W4 Y5.out.P) ?_
      rintro e w5 ⟨Ap, cp, rfl, ho5, hP5, hT5⟩
      have Y6 := Lib.hid (Y5.out.readP hP5 hT5)
      have T6 : Hid (Tch W0 w5 Sp) := Lib.hid (T5.out.trans hT5)
      have HO5 := Lib.hid ho5
      clear ho5 hP5 hT5 p0 p1 p2 p3 q0 q1 q2 q3 r0 r1 r2 t0 t1 t2
      go_wp2_with fail
      refine Calls.mono (HLD.out w5 Y6.out.D) ?_
      rintro e w6 ⟨Ad, cd, rfl, rfl, ho6, -⟩
      have HSm := Lib.hid (same_loc Ap Ad ll m cp cd _ _ HM.out HL8.out w5 HO5.out ho6)
      clear ho6
      go_wp2_with fail
      refine Calls.mono HSm.out ?_
      rintro e w7 ⟨rfl, hT7⟩
      have Y7 := Lib.hid (Y6.out.tch0 hT7)
      have T7 : Hid (Tch W0 w7 Sp) := Lib.hid (T6.out.trans (hT7.mono (by simp)))
      clear hT7
      go_wp2
      go_roundw
      case rel => exact ⟨i + 1, rfl, by go_num, hlt, Y7, T7⟩
      case measure => simp [intOf]; omega
    · obtain rfl : i = 10 := by omega
      have i1 : ¬ ((10 : Nat) : Int) < 10 := by omega
      have HN1 := Lib.hid (nearP p Sp st (s, ah, al) HO.out wr hW.out.P)
      have HND := Lib.hid (fun W hD => nearD t St st (s, ah, al) HO.out W hD)
      have HM1 := Lib.hid (fun W hP => mineP p Sp st (s, ah, al) HO.out W hP)
      have HMD := Lib.hid (fun W hD => mineD t St st (s, ah, al) W hD)
      have HA1 := Lib.hid (fun W hP => namedP p Sp st nm HNm.out W hP)
      have HAD := Lib.hid (fun W hD => namedD t St st nm W hD)
      obtain ⟨nr, hnr⟩ : ∃ nr, (nearI st (s, ah, al) : Int) = nr := ⟨_, rfl⟩
      obtain ⟨nb, hnb⟩ : ∃ nb, decide (0 < nearI st (s, ah, al)) = nb := ⟨_, rfl⟩
      obtain ⟨mi, hmi⟩ : ∃ mi, (mineI st.2 (s, ah, al) : Int) = mi := ⟨_, rfl⟩
      obtain ⟨na, hna⟩ : ∃ na, (namedI st.1 nm : Int) = na := ⟨_, rfl⟩
      rw [hnr, hnb] at HN1 HND
      rw [hmi] at HM1 HMD
      rw [hna] at HA1 HAD
      have hx0 := HXc.out wr hT.out
      have x6 := (hx0.cell 6).trans (show _ = some (Value.bool s) by rfl)
      have x7 := (hx0.cell 7).trans (show _ = some (Value.int .u64 (ah : Int)) by rfl)
      have x8 := (hx0.cell 8).trans (show _ = some (Value.int .u64 (al : Int)) by rfl)
      have bnr : (nr == nr) = true := by simp
      have bnb : (nb == nb) = true := by simp
      have bmi : (mi == mi) = true := by simp
      have bna : (na == na) = true := by simp
      clear hx0 hnr hnb hmi hna hlt hi
      go_wp2_with fail
      refine Calls.mono HN1.out ?_
      rintro e w1 ⟨rfl, hP1, hT1⟩
      have Y1 := Lib.hid (hW.out.readP hP1 hT1)
      have T1 : Hid (Tch W0 w1 Sp) := Lib.hid (hT.out.trans hT1)
      have hx1 := HXc.out w1 T1.out
      have y6 := (hx1.cell 6).trans (show _ = some (Value.bool s) by rfl)
      have y7 := (hx1.cell 7).trans (show _ = some (Value.int .u64 (ah : Int)) by rfl)
      have y8 := (hx1.cell 8).trans (show _ = some (Value.int .u64 (al : Int)) by rfl)
      clear hP1 hT1 hx1 x6 x7 x8
      go_wp2_with fail
      refine Calls.mono (HND.out w1 Y1.out.D) ?_
      rintro e w2 ⟨rfl, hT2⟩
      have hYT := Lib.hid (And.intro (Y1.out.tch0 hT2) (T1.out.trans (hT2.mono (T := Sp) (by simp))))
      clear hT2 y6 y7 y8
      go_wp2_with fail
      replace hYT := Lib.hid (And.intro (hYT.out.1.tch0 (Tch.refl _ []).drew) hYT.out.2.drew)
      refine wp_region_held_drew (S := (fun W => W.cell? ⟨xb, 1, none⟩ = some (.string nm) ∧ W.cell? ⟨xb, 6, none⟩ = some (.bool s) ∧ W.cell? ⟨xb, 7, none⟩ = some (.int .u64 (ah : Int)) ∧ W.cell? ⟨xb, 8, none⟩ = some (.int .u64 (al : Int)))) (by kernel_rfl) ?_ (fun hHeld => ?_)
      · (exact ⟨((HXc.out _ hYT.out.2).cell 1).trans rfl, ((HXc.out _ hYT.out.2).cell 6).trans rfl, ((HXc.out _ hYT.out.2).cell 7).trans rfl, ((HXc.out _ hYT.out.2).cell 8).trans rfl⟩)
      refine wpAnyH_take (i := 0) (oi := { dst := some 94, op := Go.Op.move (Go.Operand.tmp 16), type := 3, pos := "law.go:93", after := #[], guard := none }) (v := ?_) rfl (by kernel_rfl) (by kernel_rfl) (by kernel_rfl) (fun _ _ _ h => h) (Or.inl ⟨by rfl, ?_⟩) (by assumption) ?_
      rotate_left
      · intro w hSw
        (try dsimp only at hSw)
        go_simp
        try (with_reducible rfl)
      try simp only [Act.put, List.setIfInBounds_toArray, List.set_cons_zero, List.set_cons_succ]
      refine wpAnyH_take (i := 1) (oi := { dst := some 95, op := Go.Op.move (Go.Operand.tmp 18), type := 3, pos := "law.go:93", after := #[], guard := none }) (v := ?_) rfl (by kernel_rfl) (by kernel_rfl) (by kernel_rfl) (fun _ _ _ h => h) (Or.inl ⟨by rfl, ?_⟩) (by assumption) ?_
      rotate_left
      · intro w hSw
        (try dsimp only at hSw)
        go_simp
        try (with_reducible rfl)
      try simp only [Act.put, List.setIfInBounds_toArray, List.set_cons_zero, List.set_cons_succ]
      refine wpAnyH_take (i := 2) (oi := { dst := some 96, op := Go.Op.binOp Go.BinOp.eql 3 (Go.Operand.tmp 94) (Go.Operand.tmp 95) 3, type := 4, pos := "law.go:93", after := #[{ on := 0, ground := Go.Ground.data }, { on := 1, ground := Go.Ground.data }], guard := none }) (v := ?_) rfl (by kernel_rfl) (by kernel_rfl) (by kernel_rfl) (fun _ _ _ h => h) (Or.inl ⟨by rfl, ?_⟩) (by assumption) ?_
      rotate_left
      · intro w hSw
        (try dsimp only at hSw)
        go_simp
        try (with_reducible rfl)
      try simp only [Act.put, List.setIfInBounds_toArray, List.set_cons_zero, List.set_cons_succ]
      refine wpAnyH_take (i := 3) (oi := { dst := some 97, op := Go.Op.move (Go.Operand.tmp 96), type := 4, pos := "law.go:93", after := #[{ on := 2, ground := Go.Ground.data }], guard := none }) (v := ?_) rfl (by kernel_rfl) (by kernel_rfl) (by kernel_rfl) (fun _ _ _ h => h) (Or.inl ⟨by rfl, ?_⟩) (by assumption) ?_
      rotate_left
      · intro w hSw
        (try dsimp only at hSw)
        go_simp
        try (with_reducible rfl)
      try simp only [Act.put, List.setIfInBounds_toArray, List.set_cons_zero, List.set_cons_succ]
      refine wpAnyH_take (i := 4) (oi := { dst := some 98, op := Go.Op.move (Go.Operand.tmp 17), type := 4, pos := "law.go:93", after := #[{ on := 3, ground := Go.Ground.guard }], guard := some (3, true) }) (v := ?_) rfl (by kernel_rfl) (by kernel_rfl) (by kernel_rfl) (fun _ _ _ h => h) (Or.inl ⟨by rfl, ?_⟩) (by assumption) ?_
      rotate_left
      · intro w hSw
        (try dsimp only at hSw)
        go_simp
        try (with_reducible rfl)
      try simp only [Act.put, List.setIfInBounds_toArray, List.set_cons_zero, List.set_cons_succ]
      refine wpAnyH_take (i := 5) (oi := { dst := some 99, op := Go.Op.move (Go.Operand.tmp 19), type := 4, pos := "law.go:93", after := #[{ on := 3, ground := Go.Ground.guard }], guard := some (3, true) }) (v := ?_) rfl (by kernel_rfl) (by kernel_rfl) (by kernel_rfl) (fun _ _ _ h => h) (Or.inl ⟨by rfl, ?_⟩) (by assumption) ?_
      rotate_left
      · intro w hSw
        (try dsimp only at hSw)
        go_simp
        try (with_reducible rfl)
      try simp only [Act.put, List.setIfInBounds_toArray, List.set_cons_zero, List.set_cons_succ]
      refine wpAnyH_take (i := 6) (oi := { dst := some 100, op := Go.Op.binOp Go.BinOp.eql 4 (Go.Operand.tmp 98) (Go.Operand.tmp 99) 4, type := 4, pos := "law.go:93", after := #[{ on := 4, ground := Go.Ground.data }, { on := 5, ground := Go.Ground.data }, { on := 3, ground := Go.Ground.guard }], guard := some (3, true) }) (v := ?_) rfl (by kernel_rfl) (by kernel_rfl) (by kernel_rfl) (fun _ _ _ h => h) (Or.inl ⟨by rfl, ?_⟩) (by assumption) ?_
      rotate_left
      · intro w hSw
        (try dsimp only at hSw)
        go_simp
        try (with_reducible rfl)
      try simp only [Act.put, List.setIfInBounds_toArray, List.set_cons_zero, List.set_cons_succ]
      refine wpAnyH_take (i := 7) (oi := { dst := some 101, op := Go.Op.pick (Go.Operand.tmp 97) (Go.Operand.tmp 100) (Go.Operand.const (Go.Value.bool false)), type := 4, pos := "law.go:93", after := #[{ on := 3, ground := Go.Ground.data }, { on := 6, ground := Go.Ground.data }], guard := none }) (v := ?_) rfl (by kernel_rfl) (by kernel_rfl) (by kernel_rfl) (fun _ _ _ h => h) (Or.inl ⟨by rfl, ?_⟩) (by assumption) ?_
      rotate_left
      · intro w hSw
        (try dsimp only at hSw)
        go_simp
        try (with_reducible rfl)
      try simp only [Act.put, List.setIfInBounds_toArray, List.set_cons_zero, List.set_cons_succ]
      refine wpAnyH_take (i := 8) (oi := { dst := some 102, op := Go.Op.move (Go.Operand.tmp 101), type := 4, pos := "law.go:93", after := #[{ on := 7, ground := Go.Ground.data }, { on := 3, ground := Go.Ground.chain }], guard := none }) (v := ?_) rfl (by kernel_rfl) (by kernel_rfl) (by kernel_rfl) (fun _ _ _ h => h) (Or.inl ⟨by rfl, ?_⟩) (by assumption) ?_
      rotate_left
      · intro w hSw
        (try dsimp only at hSw)
        go_simp
        try (with_reducible rfl)
      try simp only [Act.put, List.setIfInBounds_toArray, List.set_cons_zero, List.set_cons_succ]
      refine wpAnyH_take (i := 9) (oi := { dst := some 103, op := Go.Op.move (Go.Operand.tmp 0), type := 24, pos := "law.go:93", after := #[{ on := 8, ground := Go.Ground.guard }], guard := some (8, true) }) (v := ?_) rfl (by kernel_rfl) (by kernel_rfl) (by kernel_rfl) (fun _ _ _ h => h) (Or.inl ⟨by rfl, ?_⟩) (by assumption) ?_
      rotate_left
      · intro w hSw
        (try dsimp only at hSw)
        go_simp
        try (with_reducible rfl)
      try simp only [Act.put, List.setIfInBounds_toArray, List.set_cons_zero, List.set_cons_succ]
      refine wpAnyH_take (i := 10) (oi := { dst := some 104, op := Go.Op.fieldAddr 36 (Go.Operand.tmp 5) 6, type := 0, pos := "law.go:93", after := #[{ on := 8, ground := Go.Ground.guard }], guard := some (8, true) }) (v := ?_) rfl (by kernel_rfl) (by kernel_rfl) (by kernel_rfl) (fun _ _ _ h => h) (Or.inl ⟨by rfl, ?_⟩) (by assumption) ?_
      rotate_left
      · intro w hSw
        (try dsimp only at hSw)
        go_simp
        try (with_reducible rfl)
      try simp only [Act.put, List.setIfInBounds_toArray, List.set_cons_zero, List.set_cons_succ]
      refine wpAnyH_take (i := 11) (oi := { dst := some 105, op := Go.Op.load 34 (Go.Operand.tmp 104), type := 34, pos := "law.go:93", after := #[{ on := 10, ground := Go.Ground.data }, { on := 8, ground := Go.Ground.guard }], guard := some (8, true) }) (v := ?_) rfl (by kernel_rfl) (by kernel_rfl) (by kernel_rfl) (fun _ _ _ h => h) (Or.inl ⟨by rfl, ?_⟩) (by assumption) ?_
      rotate_left
      · intro w hSw
        (try dsimp only at hSw)
        go_simp
        try (with_reducible rfl)
      try simp only [Act.put, List.setIfInBounds_toArray, List.set_cons_zero, List.set_cons_succ]
      refine wpAnyH_take (i := 13) (oi := { dst := some 107, op := Go.Op.move (Go.Operand.tmp 1), type := 26, pos := "law.go:93", after := #[{ on := 8, ground := Go.Ground.guard }], guard := some (8, true) }) (v := ?_) rfl (by kernel_rfl) (by kernel_rfl) (by kernel_rfl) (fun _ _ _ h => h) (Or.inl ⟨by rfl, ?_⟩) (by assumption) ?_
      rotate_left
      · intro w hSw
        (try dsimp only at hSw)
        go_simp
        try (with_reducible rfl)
      try simp only [Act.put, List.setIfInBounds_toArray, List.set_cons_zero, List.set_cons_succ]
      refine wpAnyH_take (i := 14) (oi := { dst := some 108, op := Go.Op.fieldAddr 36 (Go.Operand.tmp 5) 6, type := 0, pos := "law.go:93", after := #[{ on := 8, ground := Go.Ground.guard }], guard := some (8, true) }) (v := ?_) rfl (by kernel_rfl) (by kernel_rfl) (by kernel_rfl) (fun _ _ _ h => h) (Or.inl ⟨by rfl, ?_⟩) (by assumption) ?_
      rotate_left
      · intro w hSw
        (try dsimp only at hSw)
        go_simp
        try (with_reducible rfl)
      try simp only [Act.put, List.setIfInBounds_toArray, List.set_cons_zero, List.set_cons_succ]
      refine wpAnyH_take (i := 15) (oi := { dst := some 109, op := Go.Op.load 34 (Go.Operand.tmp 108), type := 34, pos := "law.go:93", after := #[{ on := 14, ground := Go.Ground.data }, { on := 8, ground := Go.Ground.guard }], guard := some (8, true) }) (v := ?_) rfl (by kernel_rfl) (by kernel_rfl) (by kernel_rfl) (fun _ _ _ h => h) (Or.inl ⟨by rfl, ?_⟩) (by assumption) ?_
      rotate_left
      · intro w hSw
        (try dsimp only at hSw)
        go_simp
        try (with_reducible rfl)
      try simp only [Act.put, List.setIfInBounds_toArray, List.set_cons_zero, List.set_cons_succ]
      refine wpAnyH_ready (rs := [12]) (by kernel_rfl) (by simp) ?_
      refine AllReadyH.cons (o := { dst := some 106, op := Go.Op.call { callee := Go.Callee.value (Go.Operand.func 18), args := #[Go.Operand.tmp 103, Go.Operand.tmp 105], argTypes := #[24, 34] }, type := 3, pos := "law.go:93", after := #[{ on := 9, ground := Go.Ground.data }, { on := 11, ground := Go.Ground.data }, { on := 8, ground := Go.Ground.chain }, { on := 8, ground := Go.Ground.guard }], guard := some (8, true) }) rfl (fun K hK => ?_) AllReadyH.nil
      go_simp
      (go_at_call 18; (with_reducible refine Calls.mono (HM1.out _ hYT.out.1.P) ?_); rintro e W' ⟨rfl, hP', hT'⟩; replace hYT := Lib.hid (And.intro (hYT.out.1.readP hP' hT') (hYT.out.2.trans hT')); clear hP' hT')
      go_wp2_with fail
      refine hK.out _ _ ?_ (fun hHeld => ?_)
      · (exact ⟨((HXc.out _ hYT.out.2).cell 1).trans rfl, ((HXc.out _ hYT.out.2).cell 6).trans rfl, ((HXc.out _ hYT.out.2).cell 7).trans rfl, ((HXc.out _ hYT.out.2).cell 8).trans rfl⟩)
      clear hK K
      try simp only [Act.put, List.setIfInBounds_toArray, List.set_cons_zero, List.set_cons_succ]
      refine wpAnyH_ready (rs := [16]) (by kernel_rfl) (by simp) ?_
      refine AllReadyH.cons (o := { dst := some 110, op := Go.Op.call { callee := Go.Callee.value (Go.Operand.func 36), args := #[Go.Operand.tmp 107, Go.Operand.tmp 109], argTypes := #[26, 34] }, type := 3, pos := "law.go:93", after := #[{ on := 13, ground := Go.Ground.data }, { on := 15, ground := Go.Ground.data }, { on := 12, ground := Go.Ground.chain }, { on := 8, ground := Go.Ground.guard }], guard := some (8, true) }) rfl (fun K hK => ?_) AllReadyH.nil
      go_simp
      (go_at_call 36; (with_reducible refine Calls.mono (HMD.out _ hYT.out.1.D) ?_); rintro e W' ⟨rfl, hT'⟩; replace hYT := Lib.hid (And.intro (hYT.out.1.tch0 hT') (hYT.out.2.trans (hT'.mono (T := Sp) (by simp)))); clear hT')
      go_wp2_with fail
      refine hK.out _ _ ?_ (fun hHeld => ?_)
      · (exact ⟨((HXc.out _ hYT.out.2).cell 1).trans rfl, ((HXc.out _ hYT.out.2).cell 6).trans rfl, ((HXc.out _ hYT.out.2).cell 7).trans rfl, ((HXc.out _ hYT.out.2).cell 8).trans rfl⟩)
      clear hK K
      try simp only [Act.put, List.setIfInBounds_toArray, List.set_cons_zero, List.set_cons_succ]
      refine wpAnyH_take (i := 17) (oi := { dst := some 111, op := Go.Op.binOp Go.BinOp.eql 3 (Go.Operand.tmp 106) (Go.Operand.tmp 110) 3, type := 4, pos := "law.go:93", after := #[{ on := 12, ground := Go.Ground.data }, { on := 16, ground := Go.Ground.data }, { on := 8, ground := Go.Ground.guard }], guard := some (8, true) }) (v := ?_) rfl (by kernel_rfl) (by kernel_rfl) (by kernel_rfl) (fun _ _ _ h => h) (Or.inl ⟨by rfl, ?_⟩) (by assumption) ?_
      rotate_left
      · intro w hSw
        (try dsimp only at hSw)
        go_simp
        try (with_reducible rfl)
      try simp only [Act.put, List.setIfInBounds_toArray, List.set_cons_zero, List.set_cons_succ]
      refine wpAnyH_take (i := 18) (oi := { dst := some 112, op := Go.Op.pick (Go.Operand.tmp 102) (Go.Operand.tmp 111) (Go.Operand.const (Go.Value.bool false)), type := 4, pos := "law.go:93", after := #[{ on := 8, ground := Go.Ground.data }, { on := 17, ground := Go.Ground.data }], guard := none }) (v := ?_) rfl (by kernel_rfl) (by kernel_rfl) (by kernel_rfl) (fun _ _ _ h => h) (Or.inl ⟨by rfl, ?_⟩) (by assumption) ?_
      rotate_left
      · intro w hSw
        (try dsimp only at hSw)
        go_simp
        try (with_reducible rfl)
      try simp only [Act.put, List.setIfInBounds_toArray, List.set_cons_zero, List.set_cons_succ]
      refine wpAnyH_take (i := 19) (oi := { dst := some 113, op := Go.Op.move (Go.Operand.tmp 112), type := 4, pos := "law.go:93", after := #[{ on := 18, ground := Go.Ground.data }, { on := 16, ground := Go.Ground.chain }], guard := none }) (v := ?_) rfl (by kernel_rfl) (by kernel_rfl) (by kernel_rfl) (fun _ _ _ h => h) (Or.inl ⟨by rfl, ?_⟩) (by assumption) ?_
      rotate_left
      · intro w hSw
        (try dsimp only at hSw)
        go_simp
        try (with_reducible rfl)
      try simp only [Act.put, List.setIfInBounds_toArray, List.set_cons_zero, List.set_cons_succ]
      refine wpAnyH_take (i := 20) (oi := { dst := some 114, op := Go.Op.move (Go.Operand.tmp 0), type := 24, pos := "law.go:93", after := #[{ on := 19, ground := Go.Ground.guard }], guard := some (19, true) }) (v := ?_) rfl (by kernel_rfl) (by kernel_rfl) (by kernel_rfl) (fun _ _ _ h => h) (Or.inl ⟨by rfl, ?_⟩) (by assumption) ?_
      rotate_left
      · intro w hSw
        (try dsimp only at hSw)
        go_simp
        try (with_reducible rfl)
      try simp only [Act.put, List.setIfInBounds_toArray, List.set_cons_zero, List.set_cons_succ]
      refine wpAnyH_take (i := 21) (oi := { dst := some 115, op := Go.Op.fieldAddr 36 (Go.Operand.tmp 5) 1, type := 0, pos := "law.go:93", after := #[{ on := 19, ground := Go.Ground.guard }], guard := some (19, true) }) (v := ?_) rfl (by kernel_rfl) (by kernel_rfl) (by kernel_rfl) (fun _ _ _ h => h) (Or.inl ⟨by rfl, ?_⟩) (by assumption) ?_
      rotate_left
      · intro w hSw
        (try dsimp only at hSw)
        go_simp
        try (with_reducible rfl)
      try simp only [Act.put, List.setIfInBounds_toArray, List.set_cons_zero, List.set_cons_succ]
      refine wpAnyH_take (i := 22) (oi := { dst := some 116, op := Go.Op.load 9 (Go.Operand.tmp 115), type := 9, pos := "law.go:93", after := #[{ on := 21, ground := Go.Ground.data }, { on := 19, ground := Go.Ground.guard }], guard := some (19, true) }) (v := ?_) rfl (by kernel_rfl) (by kernel_rfl) (by kernel_rfl) (fun _ _ _ h => h) (Or.inl ⟨by rfl, ?_⟩) (by assumption) ?_
      rotate_left
      · intro w hSw
        (try dsimp only at hSw)
        go_simp
        try (with_reducible rfl)
      try simp only [Act.put, List.setIfInBounds_toArray, List.set_cons_zero, List.set_cons_succ]
      refine wpAnyH_take (i := 24) (oi := { dst := some 118, op := Go.Op.move (Go.Operand.tmp 1), type := 26, pos := "law.go:93", after := #[{ on := 19, ground := Go.Ground.guard }], guard := some (19, true) }) (v := ?_) rfl (by kernel_rfl) (by kernel_rfl) (by kernel_rfl) (fun _ _ _ h => h) (Or.inl ⟨by rfl, ?_⟩) (by assumption) ?_
      rotate_left
      · intro w hSw
        (try dsimp only at hSw)
        go_simp
        try (with_reducible rfl)
      try simp only [Act.put, List.setIfInBounds_toArray, List.set_cons_zero, List.set_cons_succ]
      refine wpAnyH_take (i := 25) (oi := { dst := some 119, op := Go.Op.fieldAddr 36 (Go.Operand.tmp 5) 1, type := 0, pos := "law.go:93", after := #[{ on := 19, ground := Go.Ground.guard }], guard := some (19, true) }) (v := ?_) rfl (by kernel_rfl) (by kernel_rfl) (by kernel_rfl) (fun _ _ _ h => h) (Or.inl ⟨by rfl, ?_⟩) (by assumption) ?_
      rotate_left
      · intro w hSw
        (try dsimp only at hSw)
        go_simp
        try (with_reducible rfl)
      try simp only [Act.put, List.setIfInBounds_toArray, List.set_cons_zero, List.set_cons_succ]
      refine wpAnyH_take (i := 26) (oi := { dst := some 120, op := Go.Op.load 9 (Go.Operand.tmp 119), type := 9, pos := "law.go:93", after := #[{ on := 25, ground := Go.Ground.data }, { on := 19, ground := Go.Ground.guard }], guard := some (19, true) }) (v := ?_) rfl (by kernel_rfl) (by kernel_rfl) (by kernel_rfl) (fun _ _ _ h => h) (Or.inl ⟨by rfl, ?_⟩) (by assumption) ?_
      rotate_left
      · intro w hSw
        (try dsimp only at hSw)
        go_simp
        try (with_reducible rfl)
      try simp only [Act.put, List.setIfInBounds_toArray, List.set_cons_zero, List.set_cons_succ]
      refine wpAnyH_ready (rs := [23]) (by kernel_rfl) (by simp) ?_
      refine AllReadyH.cons (o := { dst := some 117, op := Go.Op.call { callee := Go.Callee.value (Go.Operand.func 17), args := #[Go.Operand.tmp 114, Go.Operand.tmp 116], argTypes := #[24, 9] }, type := 3, pos := "law.go:93", after := #[{ on := 20, ground := Go.Ground.data }, { on := 22, ground := Go.Ground.data }, { on := 19, ground := Go.Ground.chain }, { on := 19, ground := Go.Ground.guard }], guard := some (19, true) }) rfl (fun K hK => ?_) AllReadyH.nil
      go_simp
      (go_at_call 17; (with_reducible refine Calls.mono (HA1.out _ hYT.out.1.P) ?_); rintro e W' ⟨rfl, hP', hT'⟩; replace hYT := Lib.hid (And.intro (hYT.out.1.readP hP' hT') (hYT.out.2.trans hT')); clear hP' hT')
      go_wp2_with fail
      refine hK.out _ _ ?_ (fun hHeld => ?_)
      · (exact ⟨((HXc.out _ hYT.out.2).cell 1).trans rfl, ((HXc.out _ hYT.out.2).cell 6).trans rfl, ((HXc.out _ hYT.out.2).cell 7).trans rfl, ((HXc.out _ hYT.out.2).cell 8).trans rfl⟩)
      clear hK K
      try simp only [Act.put, List.setIfInBounds_toArray, List.set_cons_zero, List.set_cons_succ]
      refine wpAnyH_ready (rs := [27]) (by kernel_rfl) (by simp) ?_
      refine AllReadyH.cons (o := { dst := some 121, op := Go.Op.call { callee := Go.Callee.value (Go.Operand.func 37), args := #[Go.Operand.tmp 118, Go.Operand.tmp 120], argTypes := #[26, 9] }, type := 3, pos := "law.go:93", after := #[{ on := 24, ground := Go.Ground.data }, { on := 26, ground := Go.Ground.data }, { on := 23, ground := Go.Ground.chain }, { on := 19, ground := Go.Ground.guard }], guard := some (19, true) }) rfl (fun K hK => ?_) AllReadyH.nil
      go_simp
      (go_at_call 37; (with_reducible refine Calls.mono (HAD.out _ hYT.out.1.D) ?_); rintro e W' ⟨rfl, rfl⟩)
      go_wp2_with fail
      refine hK.out _ _ ?_ (fun hHeld => ?_)
      · (exact ⟨((HXc.out _ hYT.out.2).cell 1).trans rfl, ((HXc.out _ hYT.out.2).cell 6).trans rfl, ((HXc.out _ hYT.out.2).cell 7).trans rfl, ((HXc.out _ hYT.out.2).cell 8).trans rfl⟩)
      clear hK K
      try simp only [Act.put, List.setIfInBounds_toArray, List.set_cons_zero, List.set_cons_succ]
      refine wpAnyH_take (i := 28) (oi := { dst := some 122, op := Go.Op.binOp Go.BinOp.eql 3 (Go.Operand.tmp 117) (Go.Operand.tmp 121) 3, type := 4, pos := "law.go:93", after := #[{ on := 23, ground := Go.Ground.data }, { on := 27, ground := Go.Ground.data }, { on := 19, ground := Go.Ground.guard }], guard := some (19, true) }) (v := ?_) rfl (by kernel_rfl) (by kernel_rfl) (by kernel_rfl) (fun _ _ _ h => h) (Or.inl ⟨by rfl, ?_⟩) (by assumption) ?_
      rotate_left
      · intro w hSw
        (try dsimp only at hSw)
        go_simp
        try (with_reducible rfl)
      try simp only [Act.put, List.setIfInBounds_toArray, List.set_cons_zero, List.set_cons_succ]
      refine wpAnyH_take (i := 29) (oi := { dst := some 123, op := Go.Op.pick (Go.Operand.tmp 113) (Go.Operand.tmp 122) (Go.Operand.const (Go.Value.bool false)), type := 4, pos := "law.go:93", after := #[{ on := 19, ground := Go.Ground.data }, { on := 28, ground := Go.Ground.data }], guard := none }) (v := ?_) rfl (by kernel_rfl) (by kernel_rfl) (by kernel_rfl) (fun _ _ _ h => h) (Or.inl ⟨by rfl, ?_⟩) (by assumption) ?_
      rotate_left
      · intro w hSw
        (try dsimp only at hSw)
        go_simp
        try (with_reducible rfl)
      try simp only [Act.put, List.setIfInBounds_toArray, List.set_cons_zero, List.set_cons_succ]
      refine wpAnyH_take (i := 30) (oi := { dst := some 6, op := Go.Op.assign (Go.Operand.tmp 123), type := 4, pos := "law.go:93", after := #[{ on := 29, ground := Go.Ground.data }, { on := 27, ground := Go.Ground.chain }, { on := 0, ground := Go.Ground.phase }, { on := 1, ground := Go.Ground.phase }, { on := 2, ground := Go.Ground.phase }, { on := 3, ground := Go.Ground.phase }, { on := 4, ground := Go.Ground.phase }, { on := 5, ground := Go.Ground.phase }, { on := 6, ground := Go.Ground.phase }, { on := 7, ground := Go.Ground.phase }, { on := 8, ground := Go.Ground.phase }, { on := 9, ground := Go.Ground.phase }, { on := 10, ground := Go.Ground.phase }, { on := 11, ground := Go.Ground.phase }, { on := 12, ground := Go.Ground.phase }, { on := 13, ground := Go.Ground.phase }, { on := 14, ground := Go.Ground.phase }, { on := 15, ground := Go.Ground.phase }, { on := 16, ground := Go.Ground.phase }, { on := 17, ground := Go.Ground.phase }, { on := 18, ground := Go.Ground.phase }, { on := 19, ground := Go.Ground.phase }, { on := 20, ground := Go.Ground.phase }, { on := 21, ground := Go.Ground.phase }, { on := 22, ground := Go.Ground.phase }, { on := 23, ground := Go.Ground.phase }, { on := 24, ground := Go.Ground.phase }, { on := 25, ground := Go.Ground.phase }, { on := 26, ground := Go.Ground.phase }, { on := 27, ground := Go.Ground.phase }, { on := 28, ground := Go.Ground.phase }, { on := 29, ground := Go.Ground.phase }], guard := none }) (v := ?_) rfl (by kernel_rfl) (by kernel_rfl) (by kernel_rfl) (fun _ _ _ h => h) (Or.inl ⟨by rfl, ?_⟩) (by assumption) ?_
      rotate_left
      · intro w hSw
        (try dsimp only at hSw)
        go_simp
        try (with_reducible rfl)
      try simp only [Act.put, List.setIfInBounds_toArray, List.set_cons_zero, List.set_cons_succ]
      refine wpAnyH_done (by kernel_rfl) ?_ _
      go_wp2
      go_ret
      exact ⟨rfl, hYT.out.1, (HT0.out.mono (by simp)).trans hYT.out.2⟩
end Go.Proofs.Ytabbclocgkhnhaa
