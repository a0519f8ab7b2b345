/-
  The document's own arena (layer 10): Greatest, Taken.
-/
import Derived.Test.YtiocdojdncomhaaDoorArG
namespace Go.Proofs.YtiocdojdncomhaaDoor
open Go.RowKit
set_option linter.unusedVariables false

/-- The greatest so far, and those to come. -/
def grF (k : Int) (l : List Bl) : Int := l.foldl (fun k f => if k < (f.2 : Int) then (f.2 : Int) else k) k
theorem grF_cons (k : Int) (x : Bl) (l : List Bl) : grF k (x :: l) = grF (if k < (x.2 : Int) then (x.2 : Int) else k) l := rfl
theorem own_formT {w : World} {R n : Nat} {t : TypeId} {v : Value} {xs : List Value} (h : w.ownsRow R t 1 v n xs) : ∃ a c, v = .slice a n c := by
  rcases h.2 with ⟨hv, h0⟩ | ⟨g, cap, cur, hv, _⟩
  · exact ⟨none, 0, by rw [hv, h0]⟩
  · exact ⟨_, _, hv⟩
set_option maxRecDepth 100000 in
set_option maxHeartbeats 4000000 in
theorem greatest_any (r O : Nat) (hO : O ≤ 16) (L : List Bl) (hL : Sml L) (w : World) (h : ArD w r O L) :
    Calls Tryd.prog 24 #[.pointer (some ⟨r, 0, none⟩)] w fun e w' => e = .returned (.int .i64 (grS (fre L O 0))) ∧ Below w.heap.size w w' := by
  have HF := Lib.hid (free_any r O L hL O 0 hO (by have := pow16 hO; omega) w h)
  have HN : Hid ((fre L O 0).length ≤ 65536) := Lib.hid (Nat.le_trans (fre_count L O 0) (pow16 hO).2)
  obtain ⟨A, n, c, hb, hrb, hc⟩ := h
  have f0 := (hb.cell 0).trans (show _ = some (Value.int .i64 (O : Int)) by rfl)
  obtain ⟨l, hl⟩ : ∃ l, fre L O 0 = l := ⟨_, rfl⟩
  rw [hl] at HF HN ⊢
  obtain ⟨Y, hY⟩ : ∃ Y, grS l = Y := ⟨_, rfl⟩
  have HY : Hid (grF (-1) (l.drop 0) = Y) := Lib.hid hY
  rw [hY]
  clear hb hrb hL hl hY
  go_enter Tryd.func24, Tryd.ntmps24
  go_wp2_with fail
  refine Calls.mono HF.out ?_
  rintro e w1 ⟨v, rfl, hown, hb⟩
  obtain ⟨m, hm⟩ : ∃ m, l.length = m := ⟨_, rfl⟩
  rw [hm] at hown HN
  obtain ⟨A2, c2, rfl, hrb, -, -, -⟩ := own_rbk hm hown
  have HR := Lib.hid hrb
  have HB := Lib.hid hb
  have hmb := HN.out
  clear hown hrb hb f0 hm
  go_wp2
  go_loop [4, 5] (fun k i => ∃ (j : Nat) (q : Int), i = .int .i64 (j : Int) ∧ k = .int .i64 q ∧ j ≤ m ∧ Hid (grF q (l.drop j) = Y)) (fun _ i => m - (intOf i).toNat)
  case atStart => exact ⟨0, -1, rfl, rfl, Nat.zero_le _, HY⟩
  case round =>
    obtain ⟨j, q, rfl, rfl, hj, hH⟩ := hrel
    by_cases hlt : j < m
    · obtain ⟨b1, o1, e1, hb1, hc1⟩ := HR.out.2 (by omega)
      subst e1
      obtain ⟨x, hx⟩ : ∃ x, l[j]? = some x := ⟨_, List.getElem?_eq_getElem (by rw [HR.out.1]; exact hlt)⟩
      obtain ⟨p1, p2⟩ := hc1 j x hx
      have hdr : l.drop j = x :: l.drop (j + 1) := by
        obtain ⟨h1, h2⟩ := List.getElem?_eq_some_iff.1 hx
        rw [List.drop_eq_getElem_cons h1, h2]
      have HM : Hid (grF (if q < (x.2 : Int) then (x.2 : Int) else q) (l.drop (j + 1)) = Y) := Lib.hid (by rw [← hH.out, hdr, grF_cons])
      obtain ⟨o, ho⟩ : ∃ o : Int, (x.2 : Int) = o := ⟨_, rfl⟩
      rw [ho] at p2 HM
      have hjI : (j : Int) < m := by omega
      have j3 : IntKind.i64.wrap ((j : Int) + 1) = (j : Int) + 1 := by rw [IntKind.wrap_i64]; omega
      clear hc1 hx hdr ho
      go_wp2
      go_round
      case rel => exact ⟨j + 1, if q < o then o else q, by go_num, rfl, hlt, HM⟩
      case measure => simp [intOf]; omega
    · have HQ : Hid (q = Y) := Lib.hid (by
        rw [← hH.out, List.drop_eq_nil_of_le (by rw [HR.out.1]; omega)]; rfl)
      have hjI : ¬ (j : Int) < m := by omega
      go_wp2
      go_ret
      exact ⟨ret_k HQ.out, HB.out⟩
/-- Where the taken blocks begin. -/
def ats (L : List Bl) : List Int := L.map fun b => (b.1 : Int)
set_option maxRecDepth 100000 in
set_option maxHeartbeats 4000000 in
theorem taken_any (r O : Nat) (L : List Bl) (hL : Sml L) (w : World) (h : ArD w r O L) :
    Calls Tryd.prog 12 #[.pointer (some ⟨r, 0, none⟩)] w fun e w' => ∃ v, e = .returned v ∧ w'.ownsRow w.heap.size 3 1 v L.length ((ats L).map (Value.int .i64)) ∧ Below w.heap.size w w' := by
  have HSm := Lib.hid hL
  obtain ⟨A, n, c, hb, hrb, hc⟩ := h
  have HB := Lib.hid hb
  have HR := Lib.hid hrb
  have hn : n ≤ 70000 := by rw [← hrb.1]; exact hL.1
  have f1 := (hb.cell 1).trans (show _ = some (Value.slice A n c) by rfl)
  clear hb hrb hL
  go_enter Tryd.func12, Tryd.ntmps12
  go_wp2
  clear f1
  go_loopw [3, 4] (fun v i wr => ∃ j : Nat, i = .int .i64 (j : Int) ∧ j ≤ n ∧ Hid (wr.ownsRow w.heap.size 3 1 v j ((ats (L.take j)).map (Value.int .i64)) ∧ Below w.heap.size w wr)) (fun _ i _ => n - (intOf i).toNat)
  case atStart => exact ⟨0, rfl, Nat.zero_le _, Lib.hid ⟨⟨rfl, .inl ⟨rfl, rfl⟩⟩, Below.refl _ _⟩⟩
  case round =>
    obtain ⟨j, rfl, hj, hH⟩ := hrel
    have kb := HB.out.below hH.out.2 HB.out.lt
    have f1 := (kb.cell 1).trans (show _ = some (Value.slice A n c) by rfl)
    obtain ⟨Av, cv, rfl⟩ := own_formT hH.out.1
    by_cases hlt : j < n
    · obtain ⟨b1, o1, e1, hb1, hc1⟩ := (HR.out.below hH.out.2).2 (by omega)
      subst e1
      obtain ⟨x, hx⟩ : ∃ x, L[j]? = some x := ⟨_, List.getElem?_eq_getElem (by rw [HR.out.1]; exact hlt)⟩
      obtain ⟨p1, p2⟩ := hc1 j x hx
      have hxb := (HSm.out.2 x (List.mem_of_getElem? hx)).1
      have HT : Hid (ats (L.take (j + 1)) = ats (L.take j) ++ [(x.1 : Int)]) := Lib.hid (by rw [List.take_add_one, hx]; simp [ats])
      obtain ⟨a, ha⟩ : ∃ a : Int, (x.1 : Int) = a := ⟨_, rfl⟩
      rw [ha] at p1 HT
      have HWZ : Hid ((Lit.int .i64 a).wf = true) := Lib.hid (by rw [← ha]; simp [Lit.wf, IntKind.min, IntKind.max, IntKind.bits, IntKind.signed]; omega)
      have hjI : (j : Int) < n := by omega
      have j3 : IntKind.i64.wrap ((j : Int) + 1) = (j : Int) + 1 := by rw [IntKind.wrap_i64]; omega
      clear hc1 hx ha kb hxb
      go_wp2_with (at_builtin; refine wpList_appk .i64 34 3 8 Tryd.underlying34 (by kernel_rfl) _ rfl (.tmp 14) (.tmp 23) rfl w.heap.size (.slice Av j cv) j (ats (L.take j)) rfl (hH.out.1.alloc _) (wr.heap.size + 1) (some ⟨wr.heap.size, 0, none⟩) 1 1 [a] rfl (fun h => by cases h) (Blk.readsk (zs := [a]) (Blk.new _ _ _) (fun q hq => by rw [List.mem_singleton.1 hq]; exact HWZ.out) (Nat.lt_succ_self _)) (by omega) (by omega) (by have := hH.out.2.size; simp; omega) ?_; intro v7 w7 hown7 hg7 hat7; have HO7 := Lib.hid hown7; have HB7 : Hid (Below w.heap.size w w7) := Lib.hid ((hH.out.2.alloc hH.out.2.size _).grown hg7 (by have := hH.out.2.size; simp; omega) (fun k hk => own_basek hH.out.1 k hk)); clear hown7 hg7 hat7)
      go_roundw
      case rel => exact ⟨j + 1, by go_num, hlt, Lib.hid ⟨by rw [HT.out]; exact HO7.out, HB7.out⟩⟩
      case measure => simp [intOf]; omega
    · have hje : j = n := by omega
      have hjI : ¬ (j : Int) < n := by omega
      have HO : Hid (wr.ownsRow w.heap.size 3 1 (.slice Av j cv) L.length ((ats L).map (Value.int .i64))) := Lib.hid (by
        have h1 := hH.out.1
        rw [List.take_of_length_le (by rw [HR.out.1]; omega)] at h1
        rw [HR.out.1, ← hje]; exact h1)
      have HBl := Lib.hid hH.out.2
      clear kb hH hje hlt
      go_wp2
      go_ret
      exact ⟨_, rfl, HO.out, HBl.out⟩
end Go.Proofs.YtiocdojdncomhaaDoor
