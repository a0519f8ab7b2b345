/-
  Several texts in one: TrAd.
-/
import Derived.Test.YtgfkmgbcajdcdaaGreatDoorKbj
namespace Go.Proofs.YtgfkmgbcajdcdaaGreatDoor
open Go.RowKit Ifs
set_option linter.unusedVariables false

theorem or_u64 {a b : Nat} (ha : a < 2 ^ 64) (hb : b < 2 ^ 64) : bits .or .u64 (a : Int) (b : Int) = ((a ||| b : Nat) : Int) := by
  have e1 : (BitVec.ofInt 64 (a : Int)).toNat = a := by rw [BitVec.toNat_ofInt]; omega
  have e2 : (BitVec.ofInt 64 (b : Int)).toNat = b := by rw [BitVec.toNat_ofInt]; omega
  have key : (BitVec.ofInt 64 (a : Int) ||| BitVec.ofInt 64 (b : Int)).toNat = a ||| b := by rw [BitVec.toNat_or, e1, e2]
  have hlt : a ||| b < 2 ^ 64 := Nat.or_lt_two_pow ha hb
  show IntKind.u64.wrap ((BitVec.ofInt 64 (a : Int) ||| BitVec.ofInt 64 (b : Int)).toNat : Nat) = _
  rw [key, IntKind.wrap_u64]
  omega
theorem pow_u64 {i : Nat} (h : i < 64) : IntKind.u64.wrap ((2 : Int) ^ i) = ((2 ^ i : Nat) : Int) := by
  have h1 : 2 ^ i < 2 ^ 64 := Nat.pow_lt_pow_right (by decide) h
  rw [show ((2 : Int) ^ i) = ((2 ^ i : Nat) : Int) by simp]
  generalize 2 ^ i = b at h1 ⊢
  rw [IntKind.wrap_u64]
  omega
/-- The bit of a slot, set. -/
theorem or_slot {m i : Nat} (hm : m < 2 ^ 64) (hi : i < 64) : bits .or .u64 (m : Int) (IntKind.u64.wrap (2 ^ i)) = ((m ||| 2 ^ i : Nat) : Int) := by
  rw [pow_u64 hi]
  exact or_u64 hm (Nat.pow_lt_pow_right (by decide) hi)
theorem PtsI.tch {w w' : World} {g d : Nat} {nx : Int} {rs : List RtI} {cs : Array Value} {T : List Nat} (h : PtsI w g d nx rs cs) (ht : Tch w w' T) (hg : g < w.heap.size) (hn : g ∉ T) : PtsI w' g d nx rs cs :=
  ⟨h.size, h.one, fun v hv => by
    obtain ⟨A, n, c, e0, e1, e2, e3⟩ := h.at_ v hv
    exact ⟨A, n, c, e0, e1, e2, e3.tch ht hg hn⟩⟩
section
variable {w w' : World} {base g pb tb nP cP nN cN nL cL : Nat} {AP AN AL : Option Addr} {N : List NdN} {P : List PrI} {LV : List Int} {T : List Nat} {A9 : Option Addr} {c9 x : Nat}
theorem BuI.blks (h : BuI w base g pb tb AP AN AL nP cP nN cN nL cL N P LV) : (∀ s ∈ obI (.slice AP nP cP), s < w.heap.size) ∧ (∀ s ∈ obI (.slice AN nN cN), s < w.heap.size) ∧ (∀ s ∈ obI (.slice AL nL cL), s < w.heap.size) ∧ pb < w.heap.size ∧ tb < w.heap.size :=
  ⟨own_lts h.pr, own_lts h.nr, own_lts h.lr, h.pc.lt, h.tc.lt⟩
/-- One part more. -/
theorem BuI.part (h : BuI w base g pb tb AP AN AL nP cP nN cN nL cL N P LV) (p : PrI) (hr : w'.ownsRow base 218 3 (.slice A9 (nP + 1) c9) (nP + 1) (P.flatMap prC ++ prC p)) (ht : Tch w w' T)
    (hT : ∀ s ∈ T, s ∈ obI (.slice AP nP cP) ∨ s = x) (hx : x ≠ pb ∧ x ≠ tb ∧ x ≠ g ∧ x ∉ obI (.slice AN nN cN) ∧ x ∉ obI (.slice AL nL cL)) (hv : ∀ s ∈ obI (.slice A9 (nP + 1) c9), s ∈ obI (.slice AP nP cP) ∨ w.heap.size ≤ s)
    (hp : PrOk w' g p) : BuI (w'.setCell ⟨pb, 0, none⟩ (.slice A9 (nP + 1) c9)) base g pb tb A9 AN AL (nP + 1) c9 nN cN nL cL N (P ++ [p]) LV ∧ Tch w (w'.setCell ⟨pb, 0, none⟩ (.slice A9 (nP + 1) c9)) (pb :: T) := by
  obtain ⟨b1, b2, b3, b4, b5⟩ := h.blks
  have t2 : Tch w' (w'.setCell ⟨pb, 0, none⟩ (.slice A9 (nP + 1) c9)) [pb] := (Tch.refl w' [pb]).set_ (by simp) _
  have t3 : Tch w (w'.setCell ⟨pb, 0, none⟩ (.slice A9 (nP + 1) c9)) (pb :: T) := (ht.mono (fun s hs => List.mem_cons_of_mem _ hs)).trans (t2.mono (fun s hs => by rw [List.mem_singleton.1 hs]; exact List.mem_cons_self ..))
  have npT : pb ∉ T := fun k => by
    rcases hT pb k with h1 | h1
    · exact h.fp.2.1 h1
    · exact hx.1 h1.symm
  have ntT : tb ∉ pb :: T := fun k => by
    rcases List.mem_cons.1 k with h1 | h1
    · exact h.pt h1.symm
    · rcases hT tb h1 with h2 | h2
      · exact h.ft.2.1 h2
      · exact hx.2.1 h2.symm
  have ngT : g ∉ pb :: T := fun k => by
    rcases List.mem_cons.1 k with h1 | h1
    · exact h.fp.1 h1.symm
    · rcases hT g h1 with h2 | h2
      · exact h.fg.1 h2
      · exact hx.2.2.1 h2.symm
  have nn : ∀ s ∈ obI (.slice AN nN cN), s ∉ pb :: T := fun s hs k => by
    rcases List.mem_cons.1 k with h1 | h1
    · exact h.fp.2.2.1 (h1 ▸ hs)
    · rcases hT s h1 with h2 | h2
      · exact (h.d1 s h2).1 hs
      · exact hx.2.2.2.1 (h2 ▸ hs)
  have nl : ∀ s ∈ obI (.slice AL nL cL), s ∉ pb :: T := fun s hs k => by
    rcases List.mem_cons.1 k with h1 | h1
    · exact h.fp.2.2.2 (h1 ▸ hs)
    · rcases hT s h1 with h2 | h2
      · exact (h.d1 s h2).2 hs
      · exact hx.2.2.2.2 (h2 ▸ hs)
  have new : ∀ (s y : Nat), s ∈ obI (.slice A9 (nP + 1) c9) → y < w.heap.size → y ∉ obI (.slice AP nP cP) → s ≠ y := fun s y hs hy hn e => by
    rcases hv s hs with h1 | h1
    · exact hn (e ▸ h1)
    · omega
  refine ⟨⟨(ht.blk h.pc npT).set_ 0 _, t3.blk h.tc ntT, ?_, own_tch h.nr t3 nn, own_tch h.lr t3 nl, by rw [List.length_append, h.pl]; rfl, h.nl, h.ll, fun q hq => ?_, Nat.lt_of_lt_of_le h.gl t3.size, h.pt, ⟨h.fp.1, fun k => new pb pb k b4 h.fp.2.1 rfl, h.fp.2.2⟩, ⟨h.ft.1, fun k => new tb tb k b5 h.ft.2.1 rfl, h.ft.2.2⟩, ⟨fun k => new g g k h.gl h.fg.1 rfl, h.fg.2⟩, fun s hs => ?_, h.d2⟩, t3⟩
  · rw [List.flatMap_append, List.flatMap_cons, List.flatMap_nil, List.append_nil]
    exact own_tch hr t2 (fun s hs k => new s pb hs b4 h.fp.2.1 (List.mem_singleton.1 k))
  · rcases List.mem_append.1 hq with h1 | h1
    · exact (h.ok q h1).tch t3 h.gl ngT
    · rw [List.mem_singleton.1 h1]
      exact hp.tch t2 (Nat.lt_of_lt_of_le h.gl ht.size) (fun k => h.fp.1 (List.mem_singleton.1 k).symm)
  · exact ⟨fun k => new s s hs (b2 s k) (fun k2 => (h.d1 s k2).1 k) rfl, fun k => new s s hs (b3 s k) (fun k2 => (h.d1 s k2).2 k) rfl⟩
/-- One leaf more. -/
theorem BuI.leaf (h : BuI w base g pb tb AP AN AL nP cP nN cN nL cL N P LV) (z : Int) (hr : w'.ownsRow base 3 1 (.slice A9 (nL + 1) c9) (nL + 1) (LV.flatMap lvC ++ lvC z)) (ht : Tch w w' T)
    (hT : ∀ s ∈ T, s ∈ obI (.slice AL nL cL) ∨ s = x) (hx : x ≠ pb ∧ x ≠ tb ∧ x ≠ g ∧ x ∉ obI (.slice AP nP cP) ∧ x ∉ obI (.slice AN nN cN)) (hv : ∀ s ∈ obI (.slice A9 (nL + 1) c9), s ∈ obI (.slice AL nL cL) ∨ w.heap.size ≤ s) :
    BuI (w'.setCell ⟨tb, 1, none⟩ (.slice A9 (nL + 1) c9)) base g pb tb AP AN A9 nP cP nN cN (nL + 1) c9 N P (LV ++ [z]) ∧ Tch w (w'.setCell ⟨tb, 1, none⟩ (.slice A9 (nL + 1) c9)) (tb :: T) := by
  obtain ⟨b1, b2, b3, b4, b5⟩ := h.blks
  have t2 : Tch w' (w'.setCell ⟨tb, 1, none⟩ (.slice A9 (nL + 1) c9)) [tb] := (Tch.refl w' [tb]).set_ (by simp) _
  have t3 : Tch w (w'.setCell ⟨tb, 1, none⟩ (.slice A9 (nL + 1) c9)) (tb :: T) := (ht.mono (fun s hs => List.mem_cons_of_mem _ hs)).trans (t2.mono (fun s hs => by rw [List.mem_singleton.1 hs]; exact List.mem_cons_self ..))
  have ntT : tb ∉ T := fun k => by
    rcases hT tb k with h1 | h1
    · exact h.ft.2.2.2 h1
    · exact hx.2.1 h1.symm
  have npT : pb ∉ tb :: T := fun k => by
    rcases List.mem_cons.1 k with h1 | h1
    · exact h.pt h1
    · rcases hT pb h1 with h2 | h2
      · exact h.fp.2.2.2 h2
      · exact hx.1 h2.symm
  have ngT : g ∉ tb :: T := fun k => by
    rcases List.mem_cons.1 k with h1 | h1
    · exact h.ft.1 h1.symm
    · rcases hT g h1 with h2 | h2
      · exact h.fg.2.2 h2
      · exact hx.2.2.1 h2.symm
  have np : ∀ s ∈ obI (.slice AP nP cP), s ∉ tb :: T := fun s hs k => by
    rcases List.mem_cons.1 k with h1 | h1
    · exact h.ft.2.1 (h1 ▸ hs)
    · rcases hT s h1 with h2 | h2
      · exact (h.d1 s hs).2 h2
      · exact hx.2.2.2.1 (h2 ▸ hs)
  have nn : ∀ s ∈ obI (.slice AN nN cN), s ∉ tb :: T := fun s hs k => by
    rcases List.mem_cons.1 k with h1 | h1
    · exact h.ft.2.2.1 (h1 ▸ hs)
    · rcases hT s h1 with h2 | h2
      · exact h.d2 s hs h2
      · exact hx.2.2.2.2 (h2 ▸ hs)
  have new : ∀ (s y : Nat), s ∈ obI (.slice A9 (nL + 1) c9) → y < w.heap.size → y ∉ obI (.slice AL nL cL) → s ≠ y := fun s y hs hy hn e => by
    rcases hv s hs with h1 | h1
    · exact hn (e ▸ h1)
    · omega
  refine ⟨⟨t3.blk h.pc npT, (ht.blk h.tc ntT).set_ 1 _, own_tch h.pr t3 np, own_tch h.nr t3 nn, ?_, h.pl, h.nl, by rw [List.length_append, h.ll]; rfl, fun q hq => (h.ok q hq).tch t3 h.gl ngT, Nat.lt_of_lt_of_le h.gl t3.size, h.pt, ⟨h.fp.1, h.fp.2.1, h.fp.2.2.1, fun k => new pb pb k b4 h.fp.2.2.2 rfl⟩, ⟨h.ft.1, h.ft.2.1, h.ft.2.2.1, fun k => new tb tb k b5 h.ft.2.2.2 rfl⟩, ⟨h.fg.1, h.fg.2.1, fun k => new g g k h.gl h.fg.2.2 rfl⟩, fun s hs => ⟨(h.d1 s hs).1, fun k => new s s k (b1 s hs) (h.d1 s hs).2 rfl⟩, fun s hs k => new s s k (b2 s hs) (h.d2 s hs) rfl⟩, t3⟩
  rw [List.flatMap_append, List.flatMap_cons, List.flatMap_nil, List.append_nil]
  exact own_tch hr t2 (fun s hs k => new s tb hs b5 h.ft.2.2.2 (List.mem_singleton.1 k))
/-- One node more. -/
theorem BuI.node (h : BuI w base g pb tb AP AN AL nP cP nN cN nL cL N P LV) (z : NdN) (hr : w'.ownsRow base 192 4 (.slice A9 (nN + 1) c9) (nN + 1) (N.flatMap ndC ++ ndC z)) (ht : Tch w w' T)
    (hT : ∀ s ∈ T, s ∈ obI (.slice AN nN cN) ∨ s = x) (hx : x ≠ pb ∧ x ≠ tb ∧ x ≠ g ∧ x ∉ obI (.slice AP nP cP) ∧ x ∉ obI (.slice AL nL cL)) (hv : ∀ s ∈ obI (.slice A9 (nN + 1) c9), s ∈ obI (.slice AN nN cN) ∨ w.heap.size ≤ s) :
    BuI (w'.setCell ⟨tb, 0, none⟩ (.slice A9 (nN + 1) c9)) base g pb tb AP A9 AL nP cP (nN + 1) c9 nL cL (N ++ [z]) P LV ∧ Tch w (w'.setCell ⟨tb, 0, none⟩ (.slice A9 (nN + 1) c9)) (tb :: T) := by
  obtain ⟨b1, b2, b3, b4, b5⟩ := h.blks
  have t2 : Tch w' (w'.setCell ⟨tb, 0, none⟩ (.slice A9 (nN + 1) c9)) [tb] := (Tch.refl w' [tb]).set_ (by simp) _
  have t3 : Tch w (w'.setCell ⟨tb, 0, none⟩ (.slice A9 (nN + 1) c9)) (tb :: T) := (ht.mono (fun s hs => List.mem_cons_of_mem _ hs)).trans (t2.mono (fun s hs => by rw [List.mem_singleton.1 hs]; exact List.mem_cons_self ..))
  have ntT : tb ∉ T := fun k => by
    rcases hT tb k with h1 | h1
    · exact h.ft.2.2.1 h1
    · exact hx.2.1 h1.symm
  have npT : pb ∉ tb :: T := fun k => by
    rcases List.mem_cons.1 k with h1 | h1
    · exact h.pt h1
    · rcases hT pb h1 with h2 | h2
      · exact h.fp.2.2.1 h2
      · exact hx.1 h2.symm
  have ngT : g ∉ tb :: T := fun k => by
    rcases List.mem_cons.1 k with h1 | h1
    · exact h.ft.1 h1.symm
    · rcases hT g h1 with h2 | h2
      · exact h.fg.2.1 h2
      · exact hx.2.2.1 h2.symm
  have np : ∀ s ∈ obI (.slice AP nP cP), s ∉ tb :: T := fun s hs k => by
    rcases List.mem_cons.1 k with h1 | h1
    · exact h.ft.2.1 (h1 ▸ hs)
    · rcases hT s h1 with h2 | h2
      · exact (h.d1 s hs).1 h2
      · exact hx.2.2.2.1 (h2 ▸ hs)
  have nl : ∀ s ∈ obI (.slice AL nL cL), s ∉ tb :: T := fun s hs k => by
    rcases List.mem_cons.1 k with h1 | h1
    · exact h.ft.2.2.2 (h1 ▸ hs)
    · rcases hT s h1 with h2 | h2
      · exact h.d2 s h2 hs
      · exact hx.2.2.2.2 (h2 ▸ hs)
  have new : ∀ (s y : Nat), s ∈ obI (.slice A9 (nN + 1) c9) → y < w.heap.size → y ∉ obI (.slice AN nN cN) → s ≠ y := fun s y hs hy hn e => by
    rcases hv s hs with h1 | h1
    · exact hn (e ▸ h1)
    · omega
  refine ⟨⟨t3.blk h.pc npT, (ht.blk h.tc ntT).set_ 0 _, own_tch h.pr t3 np, ?_, own_tch h.lr t3 nl, h.pl, by rw [List.length_append, h.nl]; rfl, h.ll, fun q hq => (h.ok q hq).tch t3 h.gl ngT, Nat.lt_of_lt_of_le h.gl t3.size, h.pt, ⟨h.fp.1, h.fp.2.1, fun k => new pb pb k b4 h.fp.2.2.1 rfl, h.fp.2.2.2⟩, ⟨h.ft.1, h.ft.2.1, fun k => new tb tb k b5 h.ft.2.2.1 rfl, h.ft.2.2.2⟩, ⟨h.fg.1, fun k => new g g k h.gl h.fg.2.1 rfl, h.fg.2.2⟩, fun s hs => ⟨fun k => new s s k (b1 s hs) (h.d1 s hs).1 rfl, (h.d1 s hs).2⟩, fun s hs k => new s s hs (b3 s k) (fun k2 => h.d2 s k2 k) rfl⟩, t3⟩
  rw [List.flatMap_append, List.flatMap_cons, List.flatMap_nil, List.append_nil]
  exact own_tch hr t2 (fun s hs k => new s tb hs b5 h.ft.2.2.1 (List.mem_singleton.1 k))
end
end Go.Proofs.YtgfkmgbcajdcdaaGreatDoor
