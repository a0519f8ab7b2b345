/-
  What the document's own Pseudo answers of any ends and numbers.
-/
import Derived.Test.YtljdebpemdjliaaPseudo
import Derived.Test.YtljdebpemdjliaaRefSum
import Derived.Test.YtljdebpemdjliaaRefPut
namespace Go.Proofs.Ytljdebpemdjliaa
open Go.RowKit
set_option linter.unusedVariables false

/-- A slice of bytes that reads as zs, in a world in which all that was ahead of W stands. -/
def RP (w W : World) (A : Option Addr) (n c : Nat) (zs : List Int) : Prop := RI .u8 w w.heap.size A n zs ∧ (A = none → c = 0) ∧ Below W.heap.size W w

/-- The contract of one call of the document's Put onto such a slice. -/
def RefStep (W : World) (n n' k : Nat) (width v : Int) : Prop := ∀ (w : World) (A : Option Addr) (c : Nat) (zs : List Int), RP w W A n c zs →
    Calls Try.prog 29 #[.slice A n c, .int .i64 width, .int .u64 v] w fun e w' => ∃ A' c', e = .returned (.slice A' n' c') ∧ RP w' W A' n' c' (zs ++ putOf k v)
theorem refStep (W : World) (n n' k : Nat) (width v : Int) (hk : k ≤ 8) (hw : width = (k : Int)) (hn : n + k = n') (h0 : 0 < n') (hn2 : n ≤ 1000) (hv0 : 0 ≤ v) (hv1 : v ≤ 18446744073709551615) : RefStep W n n' k width v := by
  intro w A c zs h
  have e : wide width = k := by
    subst hw
    unfold wide; split <;> split <;> omega
  have hp := refPut_any w w.heap.size A n c v width zs h.1 h.2.1 (Nat.le_refl _) (by omega) hv0 hv1
  rw [e, hn] at hp
  refine Calls.mono hp ?_
  rintro e w' ⟨A', c', rfl, h1, h2, h3⟩
  obtain ⟨b, o, e, _⟩ := h1.2.1 h0
  exact ⟨A', c', rfl, h1, (fun h => by rw [e] at h; cases h), h.2.2.trans (h3.mono h.2.2.size)⟩

theorem conv_u64' (v : Int) : IntKind.u64.wrap v ≤ 18446744073709551615 := by rw [IntKind.wrap_u64]; omega

theorem RP.start (w : World) : RP w.drew w none 0 0 [] := ⟨RI.nil_, fun _ => rfl, (Below.refl _ _).drew⟩
theorem RP.drew {w W : World} {A : Option Addr} {n c : Nat} {zs : List Int} (h : RP w W A n c zs) : RP w.drew W A n c zs := ⟨h.1, h.2.1, h.2.2.drew⟩

set_option maxHeartbeats 1000000 in
theorem refPseudo_four (w : World) (fh fl th tl len proto : Int) (s : Bool) (hfl : 0 ≤ fl) (htl : 0 ≤ tl) (hfl1 : fl ≤ 18446744073709551615) (htl1 : tl ≤ 18446744073709551615) :
    Calls Try.prog 19 #[.agg #[.bool false, .int .u64 fh, .int .u64 fl], .agg #[.bool s, .int .u64 th, .int .u64 tl], .int .i64 len, .int .i64 proto] w fun e w' => e = .returned (.int .u16 (fo (tot 0 (psd4 fl tl len proto)))) ∧ Below w.heap.size w w' := by
  have hU := conv_u64 len
  have hV := conv_u64 proto
  have hU1 := conv_u64' len
  have hV1 := conv_u64' proto
  go_enter Try.func19, Try.ntmps19
  go_wp2_with fail
  obtain ⟨W, hW⟩ : ∃ W, W = (w.alloc (Obj.cells #[Value.bool false, Value.int IntKind.u64 fh, Value.int IntKind.u64 fl] 26)).alloc (Obj.cells #[Value.bool s, Value.int IntKind.u64 th, Value.int IntKind.u64 tl] 26) := ⟨_, rfl⟩
  rw [← hW]
  have b1 : Blk W w.heap.size 26 #[Value.bool false, Value.int IntKind.u64 fh, Value.int IntKind.u64 fl] := by rw [hW]; exact (Blk.new _ _ _).alloc _
  have b2 : Blk W (w.heap.size + 1) 26 #[Value.bool s, Value.int IntKind.u64 th, Value.int IntKind.u64 tl] := by
    have := Blk.new (w.alloc (Obj.cells #[Value.bool false, Value.int IntKind.u64 fh, Value.int IntKind.u64 fl] 26)) 26 #[Value.bool s, Value.int IntKind.u64 th, Value.int IntKind.u64 tl]
    rw [hW]; simpa using this
  have hB0 : Below w.heap.size w W := by rw [hW]; exact ((Below.refl _ _).alloc (Nat.le_refl _) _).alloc (by simp) _
  have HC : Hid (∀ W', Below W.heap.size W W' → W'.cell? ⟨w.heap.size, 2, none⟩ = some (.int .u64 fl) ∧ W'.cell? ⟨w.heap.size + 1, 2, none⟩ = some (.int .u64 tl)) := by
    show ∀ W', _ → _
    intro W' h
    exact ⟨by rw [(b1.below h b1.lt).cell]; rfl, by rw [(b2.below h b2.lt).cell]; rfl⟩
  have hR := RP.start W
  have HB0 := Lib.hid hB0
  have H1 := Lib.hid (refStep W 0 4 4 4 fl (by decide) rfl rfl (by decide) (by decide) hfl hfl1)
  have H2 := Lib.hid (refStep W 4 8 4 4 tl (by decide) rfl rfl (by decide) (by decide) htl htl1)
  have H3 := Lib.hid (refStep W 8 9 1 1 0 (by decide) rfl rfl (by decide) (by decide) (Int.le_refl _) (by decide))
  have H4 := Lib.hid (refStep W 9 10 1 1 (IntKind.u64.wrap proto) (by decide) rfl rfl (by decide) (by decide) hV hV1)
  have H5 := Lib.hid (refStep W 10 12 2 2 (IntKind.u64.wrap len) (by decide) rfl rfl (by decide) (by decide) hU hU1)
  clear hW b1 b2 hB0
  go_region_held3 (fun w' => w'.cell? ⟨w.heap.size, 2, none⟩ = some (.int .u64 fl) ∧ w'.cell? ⟨w.heap.size + 1, 2, none⟩ = some (.int .u64 tl))
    (first | exact HC.out _ hR.2.2 | go_keep)
    ((go_at_call 29; (first
        | (have hc := H1.out _ _ _ _ hR; (with_reducible refine Calls.mono hc ?_); clear hc)
        | (have hc := H2.out _ _ _ _ hR; (with_reducible refine Calls.mono hc ?_); clear hc)); rintro e W' ⟨A', c', rfl, hR⟩))
  have HR := Lib.hid hR
  clear hR
  go_wp2_with fail
  refine Calls.mono (H3.out _ _ _ _ HR.out) ?_
  rintro e W3 ⟨A3, c3, rfl, hR3⟩
  have HR3 := Lib.hid hR3
  clear hR3
  go_wp2_with fail
  refine Calls.mono (H4.out _ _ _ _ HR3.out) ?_
  rintro e W4 ⟨A4, c4, rfl, hR4⟩
  have HR4 := Lib.hid hR4
  clear hR4
  go_wp2_with fail
  refine Calls.mono (H5.out _ _ _ _ HR4.out) ?_
  rintro e W5 ⟨A5, c5, rfl, hR5⟩
  have HS := Lib.hid (refSum_any W5 W5.heap.size A5 12 c5 _ hR5.1 (Nat.le_refl _) (by decide))
  have HB5 := Lib.hid hR5.2.2
  clear hR5
  go_wp2_with fail
  refine Calls.mono HS.out ?_
  rintro e W6 ⟨rfl, hB6⟩
  go_wp2
  go_ret
  exact ⟨ret_k (by simp [psd4]), HB0.out.trans ((HB5.out.trans (hB6.mono HB5.out.size)).mono HB0.out.size)⟩

set_option maxHeartbeats 1000000 in
theorem refPseudo_six (w : World) (fh fl th tl len proto : Int) (s : Bool) (hfh : 0 ≤ fh) (hfl : 0 ≤ fl) (hth : 0 ≤ th) (htl : 0 ≤ tl) (hfh1 : fh ≤ 18446744073709551615) (hfl1 : fl ≤ 18446744073709551615) (hth1 : th ≤ 18446744073709551615) (htl1 : tl ≤ 18446744073709551615) :
    Calls Try.prog 19 #[.agg #[.bool true, .int .u64 fh, .int .u64 fl], .agg #[.bool s, .int .u64 th, .int .u64 tl], .int .i64 len, .int .i64 proto] w fun e w' => e = .returned (.int .u16 (fo (tot 0 (psd6 fh fl th tl len proto)))) ∧ Below w.heap.size w w' := by
  have hU := conv_u64 len
  have hV := conv_u64 proto
  have hU1 := conv_u64' len
  have hV1 := conv_u64' proto
  go_enter Try.func19, Try.ntmps19
  go_wp2_with fail
  obtain ⟨W, hW⟩ : ∃ W, W = (w.alloc (Obj.cells #[Value.bool true, Value.int IntKind.u64 fh, Value.int IntKind.u64 fl] 26)).alloc (Obj.cells #[Value.bool s, Value.int IntKind.u64 th, Value.int IntKind.u64 tl] 26) := ⟨_, rfl⟩
  rw [← hW]
  have b1 : Blk W w.heap.size 26 #[Value.bool true, Value.int IntKind.u64 fh, Value.int IntKind.u64 fl] := by rw [hW]; exact (Blk.new _ _ _).alloc _
  have b2 : Blk W (w.heap.size + 1) 26 #[Value.bool s, Value.int IntKind.u64 th, Value.int IntKind.u64 tl] := by
    have := Blk.new (w.alloc (Obj.cells #[Value.bool true, Value.int IntKind.u64 fh, Value.int IntKind.u64 fl] 26)) 26 #[Value.bool s, Value.int IntKind.u64 th, Value.int IntKind.u64 tl]
    rw [hW]; simpa using this
  have hB0 : Below w.heap.size w W := by rw [hW]; exact ((Below.refl _ _).alloc (Nat.le_refl _) _).alloc (by simp) _
  have HC1 : Hid (∀ W', Below W.heap.size W W' → W'.cell? ⟨w.heap.size, 1, none⟩ = some (.int .u64 fh) ∧ W'.cell? ⟨w.heap.size, 2, none⟩ = some (.int .u64 fl)) := by
    show ∀ W', _ → _
    intro W' h
    exact ⟨by rw [(b1.below h b1.lt).cell]; rfl, by rw [(b1.below h b1.lt).cell]; rfl⟩
  have HC2 : Hid (∀ W', Below W.heap.size W W' → W'.cell? ⟨w.heap.size + 1, 1, none⟩ = some (.int .u64 th) ∧ W'.cell? ⟨w.heap.size + 1, 2, none⟩ = some (.int .u64 tl)) := by
    show ∀ W', _ → _
    intro W' h
    exact ⟨by rw [(b2.below h b2.lt).cell]; rfl, by rw [(b2.below h b2.lt).cell]; rfl⟩
  have hR := RP.start W
  have HB0 := Lib.hid hB0
  have H1 := Lib.hid (refStep W 0 8 8 8 fh (by decide) rfl rfl (by decide) (by decide) hfh hfh1)
  have H2 := Lib.hid (refStep W 8 16 8 8 fl (by decide) rfl rfl (by decide) (by decide) hfl hfl1)
  have H3 := Lib.hid (refStep W 16 24 8 8 th (by decide) rfl rfl (by decide) (by decide) hth hth1)
  have H4 := Lib.hid (refStep W 24 32 8 8 tl (by decide) rfl rfl (by decide) (by decide) htl htl1)
  have H5 := Lib.hid (refStep W 32 36 4 4 (IntKind.u64.wrap len) (by decide) rfl rfl (by decide) (by decide) hU hU1)
  have H6 := Lib.hid (refStep W 36 39 3 3 0 (by decide) rfl rfl (by decide) (by decide) (Int.le_refl _) (by decide))
  have H7 := Lib.hid (refStep W 39 40 1 1 (IntKind.u64.wrap proto) (by decide) rfl rfl (by decide) (by decide) hV hV1)
  clear hW b1 b2 hB0
  go_region_held3 (fun w' => w'.cell? ⟨w.heap.size, 1, none⟩ = some (.int .u64 fh) ∧ w'.cell? ⟨w.heap.size, 2, none⟩ = some (.int .u64 fl))
    (first | exact HC1.out _ hR.2.2 | go_keep)
    ((go_at_call 29; (first
        | (have hc := H1.out _ _ _ _ hR; (with_reducible refine Calls.mono hc ?_); clear hc)
        | (have hc := H2.out _ _ _ _ hR; (with_reducible refine Calls.mono hc ?_); clear hc)); rintro e W' ⟨A', c', rfl, hR⟩))
  have hR := hR.drew
  go_wp2_with fail
  go_region_held3 (fun w' => w'.cell? ⟨w.heap.size + 1, 1, none⟩ = some (.int .u64 th) ∧ w'.cell? ⟨w.heap.size + 1, 2, none⟩ = some (.int .u64 tl))
    (first | exact HC2.out _ hR.2.2 | go_keep)
    ((go_at_call 29; (first
        | (have hc := H3.out _ _ _ _ hR; (with_reducible refine Calls.mono hc ?_); clear hc)
        | (have hc := H4.out _ _ _ _ hR; (with_reducible refine Calls.mono hc ?_); clear hc)); rintro e W' ⟨A', c', rfl, hR⟩))
  have HR := Lib.hid hR
  clear hR
  go_wp2_with fail
  refine Calls.mono (H5.out _ _ _ _ HR.out) ?_
  rintro e W3 ⟨A3, c3, rfl, hR3⟩
  have HR3 := Lib.hid hR3
  clear hR3
  go_wp2_with fail
  refine Calls.mono (H6.out _ _ _ _ HR3.out) ?_
  rintro e W4 ⟨A4, c4, rfl, hR4⟩
  have HR4 := Lib.hid hR4
  clear hR4
  go_wp2_with fail
  refine Calls.mono (H7.out _ _ _ _ HR4.out) ?_
  rintro e W5 ⟨A5, c5, rfl, hR5⟩
  have HS := Lib.hid (refSum_any W5 W5.heap.size A5 40 c5 _ hR5.1 (Nat.le_refl _) (by decide))
  have HB5 := Lib.hid hR5.2.2
  clear hR5
  go_wp2_with fail
  refine Calls.mono HS.out ?_
  rintro e W6 ⟨rfl, hB6⟩
  go_wp2
  go_ret
  exact ⟨ret_k (by simp [psd6]), HB0.out.trans ((HB5.out.trans (hB6.mono HB5.out.size)).mono HB0.out.size)⟩
end Go.Proofs.Ytljdebpemdjliaa
