/-
  The program's own arena (layer 10): Order, Free, Greatest; what Take and Give answer.
-/
import Derived.Test.YtiocdojdncomhaaDoorArY
namespace Go.Proofs.YtiocdojdncomhaaDoor
open Go.RowKit Go.Maps
set_option linter.unusedVariables false

theorem lawK : Keyed Tryd.prog 3 := int_keyed Tryd.underlying3
theorem zeroK (w : World) : (zeroValue 3).run Tryd.prog w = .ok (.int .i64 0) w := by kernel_rfl
theorem MapIs.look {D : DataW Unit} {L : List Bl} (h : MapIs D L) (p : Int) : (∃ b ∈ L, (b.1 : Int) = p ∧ ordS L p = (b.2 : Int) ∧ Maps.has D (.int .i64 p) = true ∧ D.atKey (.int .i64 p) (.lit (.int .i64 0)) = .lit (.int .i64 (b.2 : Int))) ∨
    (ordS L p = -1 ∧ (∀ b ∈ L, (b.1 : Int) ≠ p) ∧ Maps.has D (.int .i64 p) = false) := by
  unfold ordS
  cases hf : L.find? (fun b => decide ((b.1 : Int) = p)) with
  | some b =>
    left
    have hb := List.mem_of_find?_eq_some hf
    have he : (b.1 : Int) = p := by simpa using List.find?_some hf
    obtain ⟨h1, h2⟩ := h.yes b hb
    rw [he] at h1 h2
    exact ⟨b, hb, he, rfl, h1, h2⟩
  | none =>
    right
    have hn : ∀ b ∈ L, (b.1 : Int) ≠ p := fun b hb => by have := List.find?_eq_none.1 hf b hb; simpa using this
    exact ⟨rfl, hn, h.no p hn⟩
theorem wfI {p : Int} (h1 : -9223372036854775808 ≤ p) (h2 : p ≤ 9223372036854775807) : (Lit.int .i64 p).wf = true := by
  simp [Lit.wf, IntKind.min, IntKind.max, IntKind.bits, IntKind.signed]; omega
set_option maxRecDepth 100000 in
set_option maxHeartbeats 4000000 in
theorem porder_any (r bm bn N : Nat) (L : List Bl) (p : Int) (hp1 : -9223372036854775808 ≤ p) (hp2 : p ≤ 9223372036854775807) (w : World) (h : ArP w r bm bn N L) :
    Calls Tryd.prog 17 #[.pointer (some ⟨r, 0, none⟩), .int .i64 p] w fun e w' => e = .returned (.int .i64 (ordS L p)) ∧ w = w' := by
  obtain ⟨f, D, h1, h2, hown, h4, h5, hI⟩ := h
  have c1 := (h1.cell 1).trans (show _ = some (Value.map (some bm)) by rfl)
  have hkey := keyOf_int_mk Tryd.underlying3 (wfI hp1 hp2)
  have hl := h5.look p
  rcases hl with ⟨b, hb, e1, e2, e3, e4⟩ | ⟨e1, -, e3⟩
  · have HE := Lib.hid e2
    have HD := Lib.hid (And.intro e3 e4)
    have HO := Lib.hid hown
    clear h1 h2 h4 h5 hI hb e1 e2 e3 e4 hp1 hp2 hown
    go_enter Tryd.func17, Tryd.ntmps17
    go_wp2_with (at_lookup; refine wpList_lookup_own_ok_int _ rfl _ _ 48 rfl 3 3 .i64 lawK Tryd.underlying48 Tryd.underlying3 (zeroK _) bm _ D rfl HO.out _ _ rfl hkey ?_; rw [HD.out.1]; intro c hat hwc; have HC := Lib.hid hat; clear hat hwc)
    go_ret
    have e5 := HC.out
    rw [HD.out.2] at e5
    injection e5 with e5
    injection e5 with e6 e7
    exact ⟨ar_i64 (by rw [HE.out, e7]), rfl⟩
  · have HE := Lib.hid e1
    have HD := Lib.hid e3
    have HO := Lib.hid hown
    clear h1 h2 h4 h5 hI e1 e3 hp1 hp2 hown
    go_enter Tryd.func17, Tryd.ntmps17
    go_wp2_with (at_lookup; refine wpList_lookup_own_ok_int _ rfl _ _ 48 rfl 3 3 .i64 lawK Tryd.underlying48 Tryd.underlying3 (zeroK _) bm _ D rfl HO.out _ _ rfl hkey ?_; rw [HD.out]; intro c hat hwc; clear hat hwc)
    go_ret
    exact ⟨ar_i64 HE.out.symm, rfl⟩
set_option maxRecDepth 100000 in
set_option maxHeartbeats 4000000 in
theorem pfree_any (r bm bn N : Nat) (L : List Bl) (w : World) (h : ArP w r bm bn N L) :
    Calls Tryd.prog 21 #[.pointer (some ⟨r, 0, none⟩)] w fun e w' => e = .returned (.int .i64 ((2 ^ N - sumB L : Nat) : Int)) ∧ w = w' := by
  obtain ⟨f, D, h1, h2, hown, h4, h5, hI⟩ := h
  have c1 := (h1.cell 4).trans (show _ = some (Value.int .i64 ((2 ^ N - sumB L : Nat) : Int)) by rfl)
  obtain ⟨F, hF⟩ : ∃ F : Int, ((2 ^ N - sumB L : Nat) : Int) = F := ⟨_, rfl⟩
  rw [hF] at c1 ⊢
  clear h1 h2 hown h4 h5 hI hF
  go_enter Tryd.func21, Tryd.ntmps21
  go_wp2
  go_ret
  exact ⟨rfl, rfl⟩
set_option maxRecDepth 100000 in
set_option maxHeartbeats 4000000 in
theorem pgreatest_any (r bm bn N : Nat) (hN : N ≤ 16) (L : List Bl) (w : World) (h : ArP w r bm bn N L) :
    Calls Tryd.prog 23 #[.pointer (some ⟨r, 0, none⟩)] w fun e w' => e = .returned (.int .i64 (grS (fre L N 0))) ∧ Below w.heap.size w w' := by
  obtain ⟨f, D, h1, h2, hown, h4, h5, hI⟩ := h
  have HG := Lib.hid (tgreatest_any N hN L bn f h4 w h2)
  unfold treV at HG
  obtain ⟨S, hS⟩ : ∃ S : Nat, 2 ^ (N + 1) = S := ⟨_, rfl⟩
  rw [hS] at h1 HG
  have c2 := (h1.cell 2).trans (show _ = some (Value.int .i64 (N : Int)) by rfl)
  have c3 := (h1.cell 3).trans (show _ = some (Value.slice (some ⟨bn, 0, none⟩) S S) by rfl)
  obtain ⟨G, hG⟩ : ∃ G : Int, grS (fre L N 0) = G := ⟨_, rfl⟩
  rw [hG] at HG ⊢
  clear h1 h2 hown h4 h5 hI hG hS
  go_enter Tryd.func23, Tryd.ntmps23
  go_wp2_with (go_at_call 37; (with_reducible refine Calls.mono HG.out ?_); rintro e w' ⟨rfl, hb⟩)
  go_ret
  exact ⟨rfl, hb⟩
/-- What Take answers, and what is taken then. -/
def tkF (N : Nat) (L : List Bl) (o : Int) : Int × Int × List Bl := if 0 ≤ o ∧ o ≤ (N : Int) then (match tkS N L o.toNat with | some (p, M) => ((p : Int), 0, M) | none => (0, 90, L)) else (0, 1, L)
/-- What Give answers, and what is taken then. -/
def gvF (L : List Bl) (p : Int) : Int × List Bl := match (if 0 ≤ p then gvS L p.toNat else none) with | some M => (0, M) | none => (91, L)
end Go.Proofs.YtiocdojdncomhaaDoor
