/-
  The document's own set of ports (layer 14): Port, holds.
-/
import Derived.Test.YtabbclocgkhnhaaIfE
namespace Go.Proofs.Ytabbclocgkhnhaa
open Go.RowKit
set_option linter.unusedVariables false

theorem sizePt : (Try.prog.info? 46).map (·.size) = some 4 := by kernel_rfl
set_option maxRecDepth 100000 in
set_option maxHeartbeats 2000000 in
theorem portD (t : Nat) (S : List Nat) (st : StI) (port : Int) (w : World) (h : IfD w t S st) :
    Calls Try.prog 31 #[.pointer (some ⟨t, 0, none⟩), .int .i64 port] w fun e w' => e = .returned (.tuple #[.agg (prC (portI st port)).toArray, .bool (thereI st port)]) ∧ Tch w w' [] := by
  obtain ⟨xb, hxb⟩ : ∃ xb, w.heap.size = xb := ⟨_, rfl⟩
  obtain ⟨W0, hW0⟩ : ∃ W, w.alloc (.cells #[.string ⟨#[]⟩, .int .u64 0, .int .i64 0, .bool false] 46) = W := ⟨_, rfl⟩
  have HX : Hid (Blk W0 xb 46 #[.string ⟨#[]⟩, .int .u64 0, .int .i64 0, .bool false]) := Lib.hid (hW0 ▸ hxb ▸ Blk.new _ _ _)
  have HT0 : Hid (Tch w W0 []) := Lib.hid (hW0 ▸ (Tch.refl w []).alloc _)
  have hD0 := h.tch HT0.out (by simp)
  have HW0 := Lib.hid (And.intro hW0 hxb)
  have HTh := Lib.hid (there_any t S st port W0 hD0)
  have HXb : Hid (w.heap.size ≤ xb) := Lib.hid (by omega)
  cases hth : thereI st port with
  | false =>
    rw [hth] at HTh
    have HE : Hid (portI st port = (⟨#[]⟩, 0, 0, false)) := Lib.hid (by unfold portI; rw [hth]; rfl)
    clear hW0 hxb h hD0 hth
    go_enter Try.func31, Try.ntmps31
    go_wp2_with fail
    rw [HW0.out.1, HW0.out.2]
    refine Calls.mono HTh.out ?_
    rintro e w' ⟨rfl, rfl⟩
    go_wp2_with (refine wpList_sta rfl 46 (.tmp 4) (.tmp 10) rfl xb 0 #[.string ⟨#[]⟩, .int .u64 0, .int .i64 0, .bool false] rfl rfl 46 #[.string ⟨#[]⟩, .int .u64 0, .int .i64 0, .bool false] HX.out 4 sizePt rfl (by decide) (by simp [Value.oneCell']) ?_; intro w4 hs4; have HS4 := Lib.hid hs4; clear hs4)
    obtain ⟨⟨cur', k1, k2, k3, k4⟩, hT4⟩ := HS4.out
    have z0 := (k1.cell 0).trans ((k4 0 (by decide)).trans rfl)
    have z1 := (k1.cell 1).trans ((k4 1 (by decide)).trans rfl)
    have z2 := (k1.cell 2).trans ((k4 2 (by decide)).trans rfl)
    have z3 := (k1.cell 3).trans ((k4 3 (by decide)).trans rfl)
    exact bodyPost_ret (v := .tuple #[.agg #[.string ⟨#[]⟩, .int .u64 0, .int .i64 0, .bool false], .bool false]) (by simp [results, Try.results31, go_sem, z0, z1, z2, z3]) rfl ⟨by rw [HE.out]; rfl, HT0.out.trans_fre hT4 (by simp; exact HXb.out)⟩
  | true =>
    rw [hth] at HTh
    obtain ⟨p, l, hp, hl, hle, -, hlt, hpe⟩ := locI_at h.inv hth
    have hf := h.few
    have HE : Hid (portI st port = p) := Lib.hid (by unfold portI; rw [hth, hp]; rfl)
    obtain ⟨AP, AL, cP, cL, lv, rfl, h2, h3, h4, h5, h6, h7, h8⟩ := hD0
    obtain ⟨gP, rfl⟩ := slice_some h4 (by omega)
    obtain ⟨i, hi⟩ : ∃ i, idxI port = i := ⟨_, rfl⟩
    rw [hi] at hp hlt hpe
    obtain ⟨pn, pm, pt, pu⟩ := p
    have c0 := (h3.cell 0).trans (show _ = some (Value.slice (some ⟨gP, 0, none⟩) st.1.length cP) by rfl)
    have x0 := own_cellN h4 ((flat4_at (f := prC) (fun _ => rfl) hp (k := 0) (by decide)).trans (show _ = some (Value.string pn) by rfl))
    have x1 := own_cellN h4 ((flat4_at (f := prC) (fun _ => rfl) hp (k := 1) (by decide)).trans (show _ = some (Value.int .u64 pm) by rfl))
    have x2 := own_cellN h4 ((flat4_at (f := prC) (fun _ => rfl) hp (k := 2) (by decide)).trans (show _ = some (Value.int .i64 pt) by rfl))
    have x3 := own_cellN h4 ((flat4_at (f := prC) (fun _ => rfl) hp (k := 3) (by decide)).trans (show _ = some (Value.bool pu) by rfl))
    have x0 : W0.cell? ⟨gP, i * 4, none⟩ = some (.string pn) := x0
    obtain ⟨n, hn⟩ : ∃ n, st.1.length = n := ⟨_, rfl⟩
    rw [hn] at c0 hlt hf
    have j1 : IntKind.i64.wrap (port - 1) = (i : Int) := by rw [IntKind.wrap_i64]; omega
    have i0 : (0 : Int) ≤ (i : Int) := by omega
    have i1 : (i : Int) < (n : Int) := by omega
    clear h2 h3 h4 h5 h6 h7 h8 hn hp hl hle hi hth hpe h hW0 hxb
    go_enter Try.func31, Try.ntmps31
    go_wp2_with fail
    rw [HW0.out.1, HW0.out.2]
    refine Calls.mono HTh.out ?_
    rintro e w' ⟨rfl, rfl⟩
    go_wp2_with (refine wpList_sta rfl 46 (.tmp 4) (.tmp 18) rfl xb 0 #[.string pn, .int .u64 pm, .int .i64 pt, .bool pu] rfl rfl 46 #[.string ⟨#[]⟩, .int .u64 0, .int .i64 0, .bool false] HX.out 4 sizePt rfl (by decide) (by simp [Value.oneCell']) ?_; intro w4 hs4; have HS4 := Lib.hid hs4; clear hs4)
    obtain ⟨⟨cur', k1, k2, k3, k4⟩, hT4⟩ := HS4.out
    have z0 := (k1.cell 0).trans ((k4 0 (by simp)).trans rfl)
    have z1 := (k1.cell 1).trans ((k4 1 (by simp)).trans rfl)
    have z2 := (k1.cell 2).trans ((k4 2 (by simp)).trans rfl)
    have z3 := (k1.cell 3).trans ((k4 3 (by simp)).trans rfl)
    exact bodyPost_ret (v := .tuple #[.agg #[.string pn, .int .u64 pm, .int .i64 pt, .bool pu], .bool true]) (by simp [results, Try.results31, go_sem, z0, z1, z2, z3]) rfl ⟨by rw [HE.out]; rfl, HT0.out.trans_fre hT4 (by simp; exact HXb.out)⟩
end Go.Proofs.Ytabbclocgkhnhaa
