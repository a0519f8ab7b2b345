/-
  The document's own arena (layer 10): Give.
-/
import Derived.Test.YtiocdojdncomhaaDoorArC
namespace Go.Proofs.YtiocdojdncomhaaDoor
open Go.RowKit Go.Maps
set_option linter.unusedVariables false

theorem row_done {w wa w8 : World} {D rd O n9 c9 : Nat} {M : List Bl} {A9 A : Option Addr} {n c : Nat} (hD : D ≤ w.heap.size) (hr : D ≤ rd) (hb : Below w.heap.size w wa) (hB : Blk wa rd 57 #[.int .i64 (O : Int), .slice A n c]) (h8 : Below wa.heap.size wa w8)
    (hr9 : RBk w8 A9 n9 M) (hc9 : n9 ≤ c9) (hs9 : (A9 = none ∧ n9 = 0 ∧ c9 = 0) ∨ ∃ g, A9 = some ⟨g, 0, none⟩ ∧ wa.heap.size ≤ g ∧ g < w8.heap.size) : ArE (w8.setCell ⟨rd, 1, none⟩ (.slice A9 n9 c9)) D rd O M := by
  have hlt := hB.lt
  have hsz := hb.size
  refine ⟨A9, n9, c9, (hB.below h8 hlt).set_ 1 _, ⟨hr9.1, fun h0 => ?_⟩, hc9, hr, ?_⟩
  · obtain ⟨b, o', e, hl, hc⟩ := hr9.2 h0
    rcases hs9 with ⟨e2, -, -⟩ | ⟨g, e2, hg, hgl⟩
    · rw [e2] at e; cases e
    · rw [e2] at e
      injection e with e
      injection e with e3 e4 e5
      subst e3 e4
      refine ⟨g, 0, e2, by simpa [World.size_setCell] using hl, fun j x hx => ?_⟩
      obtain ⟨k1, k2⟩ := hc j x hx
      have hne : (⟨rd, 1, none⟩ : Addr).block ≠ g := by show rd ≠ g; omega
      exact ⟨(World.cell?_setCell_far w8 ⟨rd, 1, none⟩ ⟨g, 0 + j * 2, none⟩ _ hne).trans k1, (World.cell?_setCell_far w8 ⟨rd, 1, none⟩ ⟨g, 0 + j * 2 + 1, none⟩ _ hne).trans k2⟩
  · rcases hs9 with h | ⟨g, e2, hg, hgl⟩
    · exact .inl h
    · exact .inr ⟨g, e2, by omega, by simpa [World.size_setCell] using hgl, by omega⟩
theorem erase_at {L : List Bl} {k : Nat} {x : Bl} (hx : L[k]? = some x) (hn : ∀ b ∈ L.take k, b.1 ≠ x.1) : gvF L (x.1 : Int) = (0, L.take k ++ L.drop (k + 1)) := by
  have hd : L.drop k = x :: L.drop (k + 1) := by
    obtain ⟨h1, h2⟩ := List.getElem?_eq_some_iff.1 hx
    rw [List.drop_eq_getElem_cons h1, h2]
  apply gvF_yes
  unfold gvS
  rw [if_pos (List.any_eq_true.2 ⟨x, List.mem_of_getElem? hx, by simp⟩)]
  congr 1
  conv => lhs; rw [← List.take_append_drop k L]
  rw [List.eraseP_append_right _ (fun b hb => by simpa using hn b hb), hd, List.eraseP_cons_of_pos (by simp)]
set_option maxRecDepth 100000 in
set_option maxHeartbeats 4000000 in
theorem rgive_any (D rd O : Nat) (hO : O ≤ 16) (L : List Bl) (hI : InvA O L) (p : Int) (w : World) (hD : D ≤ w.heap.size) (h : ArE w D rd O L) :
    Calls Tryd.prog 14 #[.pointer (some ⟨rd, 0, none⟩), .int .i64 p] w fun e w' => e = .returned (.int .i64 (gvF L p).1) ∧ ArE w' D rd O (gvF L p).2 ∧ w.grownBy w' (some rd) := by
  have hsm := inv_sml hO hI
  have HAr := Lib.hid h
  obtain ⟨A, n, c, hb, hrb, hc, hDr, hcase⟩ := h
  have f1 := (hb.cell 1).trans (show _ = some (Value.slice A n c) by rfl)
  have HB := Lib.hid hb
  have HRB := Lib.hid hrb
  have HCS := Lib.hid (And.intro hc (And.intro hDr hcase))
  have hRl := hrb.1
  have hn7 : n ≤ 70000 := by rw [← hRl]; exact hsm.1
  have HD := Lib.hid hD
  clear hb hrb hDr hcase hsm hI hD
  go_enter Tryd.func14, Tryd.ntmps14
  go_wp2
  go_loop [5] (fun kv => ∃ k : Nat, kv = .int .i64 (k : Int) ∧ k ≤ n ∧ Hid (∀ b ∈ L.take k, (b.1 : Int) ≠ p)) (fun kv => n - (intOf kv).toNat)
  case atStart => exact ⟨0, rfl, Nat.zero_le _, Lib.hid (by simp)⟩
  case round =>
    obtain ⟨k, rfl, hk, hT⟩ := hrel
    have j3 : IntKind.i64.wrap ((k : Int) + 1) = (k : Int) + 1 := by rw [IntKind.wrap_i64]; omega
    by_cases hlt : k < n
    · obtain ⟨g, o', e1, hg', hcg⟩ := HRB.out.2 (by omega)
      subst e1
      have hs := HCS.out.2.2
      rcases hs with ⟨e2, -, -⟩ | ⟨g2, e2, hgD, hgl, hgr⟩
      · cases e2
      · injection e2 with e2
        injection e2 with e3 e4 e5
        subst e3 e4
        obtain ⟨x, hx⟩ : ∃ x, L[k]? = some x := ⟨_, List.getElem?_eq_getElem (by rw [hRl]; exact hlt)⟩
        obtain ⟨c1, -⟩ := hcg k x hx
        rw [Nat.zero_add] at c1
        have htk : L.take (k + 1) = L.take k ++ [x] := by rw [List.take_add_one, hx]; rfl
        have hkI : (k : Int) < (n : Int) := by omega
        have hk0 : (0 : Int) ≤ (k : Int) := by omega
        by_cases hxp : (x.1 : Int) = p
        · subst hxp
          have HE := Lib.hid (erase_at hx (fun b hb e => hT.out b hb (by omega)))
          have hd : ((x.1 : Int) == (x.1 : Int)) = true := by simp
          clear hcg hx htk hg' e5 hT hgD hgl hgr
          by_cases hcc : c = k + 1
          · subst hcc
            have hn1 : n = k + 1 := by omega
            subst hn1
            have HW0 : Hid (w.ownsRow w.heap.size 59 2 (.slice none 0 0) 0 (bcells [])) := Lib.hid ⟨rfl, .inl ⟨rfl, rfl⟩⟩
            have tok1 : True := trivial
            have tok3 : True := trivial
            have HF1 := Lib.hid f1
            have HLN : Hid (([] ++ L.take k ++ L.drop (k + 1) : List Bl).length = 0 + k + 0) := Lib.hid (by simp only [List.nil_append, List.length_append, List.length_take, List.length_drop]; omega)
            have hkc : (k : Int) ≤ ((k + 1 : Nat) : Int) := by omega
            have hkn : (k : Int) + 1 ≤ ((k + 1 : Nat) : Int) := by omega
            have hk10 : (0 : Int) ≤ (k : Int) + 1 := by omega
            go_wp2_with (first
              | (at_builtin; have _t := tok1; refine wpList_appb _ rfl (.tmp 26) (.tmp 32) rfl w.heap.size (.slice none 0 0) [] 0 rfl HW0.out (some ⟨g, 0, none⟩) k (k + 1) (L.take k) rfl (fun h => by cases h) (HRB.out.take hk) (by omega) (Nat.le_refl _) ?_; intro v6 w6 hown6 hg6; have O6 := Lib.hid hown6; have B6 := Lib.hid ((Below.refl w.heap.size w).grown hg6 (Nat.le_refl _) (fun j hj => by cases hj)); have g1 := (B6.out.cell (p := ⟨rd, 1, none⟩) HB.out.lt).trans f1; have HR7 := Lib.hid (HRB.out.below B6.out); clear hown6 hg6 tok1)
              | (at_builtin; have _t := tok3; refine wpList_appb _ rfl (.tmp 35) (.tmp 42) rfl w.heap.size v6 ([] ++ L.take k) (0 + k) rfl O6.out (some ⟨g, 0, none⟩) 0 0 (L.drop (k + 1)) rfl (fun h => by cases h) ⟨by simp; omega, fun h => absurd h (by omega)⟩ (by omega) B6.out.size ?_; intro v8 w8 hown8 hg8; have B8 := Lib.hid (B6.out.grown hg8 B6.out.size (fun j hj => own_basek O6.out j hj)); have m1 := (B8.out.cell (p := ⟨rd, 1, none⟩) HB.out.lt).trans f1; have mf := (HB.out.below B8.out HB.out.lt).frozen 1; obtain ⟨A9, c9, e9, hr9, hc9, hs9⟩ := own_rbk2 HLN.out hown8; subst e9; have HR9 := Lib.hid (And.intro hr9 (And.intro hc9 hs9)); clear hown8 hg8 hr9 hc9 hs9 tok3))
            go_ret
            rw [HE.out]
            have h9 := HR9.out
            simp only [Nat.zero_add, Nat.add_zero, List.nil_append] at h9
            exact ⟨rfl, row_done HD.out HCS.out.2.1 (Below.refl _ _) HB.out B8.out h9.1 h9.2.1 h9.2.2, (gb_below B8.out _).trans (gb_set _ _ _ _)⟩
          · skip
            have HW0 : Hid (w.ownsRow w.heap.size 59 2 (.slice none 0 0) 0 (bcells [])) := Lib.hid ⟨rfl, .inl ⟨rfl, rfl⟩⟩
            have tok1 : True := trivial
            have tok3 : True := trivial
            have HF1 := Lib.hid f1
            have HLN : Hid (([] ++ L.take k ++ L.drop (k + 1) : List Bl).length = 0 + k + (n - (k + 1))) := Lib.hid (by simp only [List.nil_append, List.length_append, List.length_take, List.length_drop]; omega)
            have hkc : (k : Int) ≤ (c : Int) := by omega
            have hkn : (k : Int) + 1 ≤ (n : Int) := by omega
            have hkc2 : (k : Int) + 1 ≤ (c : Int) := by omega
            have hk10 : (0 : Int) ≤ (k : Int) + 1 := by omega
            have hcc2 : ¬ k + 1 = c := fun e => hcc e.symm
            go_wp2_with (first
              | (at_builtin; have _t := tok1; refine wpList_appb _ rfl (.tmp 26) (.tmp 32) rfl w.heap.size (.slice none 0 0) [] 0 rfl HW0.out (some ⟨g, 0, none⟩) k c (L.take k) rfl (fun h => by cases h) (HRB.out.take hk) (by omega) (Nat.le_refl _) ?_; intro v6 w6 hown6 hg6; have O6 := Lib.hid hown6; have B6 := Lib.hid ((Below.refl w.heap.size w).grown hg6 (Nat.le_refl _) (fun j hj => by cases hj)); have g1 := (B6.out.cell (p := ⟨rd, 1, none⟩) HB.out.lt).trans f1; have HR7 := Lib.hid (HRB.out.below B6.out); clear hown6 hg6 tok1)
              | (at_builtin; have _t := tok3; refine wpList_appb _ rfl (.tmp 35) (.tmp 42) rfl w.heap.size v6 ([] ++ L.take k) (0 + k) rfl O6.out (some ⟨g, (k + 1) * 2, none⟩) (n - (k + 1)) (c - (k + 1)) (L.drop (k + 1)) rfl (fun h => by cases h) (HR7.out.drop (by omega)) (by omega) B6.out.size ?_; intro v8 w8 hown8 hg8; have B8 := Lib.hid (B6.out.grown hg8 B6.out.size (fun j hj => own_basek O6.out j hj)); have m1 := (B8.out.cell (p := ⟨rd, 1, none⟩) HB.out.lt).trans f1; have mf := (HB.out.below B8.out HB.out.lt).frozen 1; obtain ⟨A9, c9, e9, hr9, hc9, hs9⟩ := own_rbk2 HLN.out hown8; subst e9; have HR9 := Lib.hid (And.intro hr9 (And.intro hc9 hs9)); clear hown8 hg8 hr9 hc9 hs9 tok3))
            go_ret
            rw [HE.out]
            have h9 := HR9.out
            simp only [Nat.zero_add, List.nil_append] at h9
            exact ⟨rfl, row_done HD.out HCS.out.2.1 (Below.refl _ _) HB.out B8.out h9.1 h9.2.1 h9.2.2, (gb_below B8.out _).trans (gb_set _ _ _ _)⟩
        · have HT2 : Hid (∀ b ∈ L.take (k + 1), (b.1 : Int) ≠ p) := Lib.hid (fun b hb => by
            rw [htk] at hb
            rcases List.mem_append.1 hb with h1 | h1
            · exact hT.out b h1
            · rw [List.mem_singleton.1 h1]; exact hxp)
          have hd : ((x.1 : Int) == p) = false := by simpa using hxp
          clear hcg hx htk hxp hg' e5
          go_wp2
          go_round
          case rel => exact ⟨k + 1, by go_num, hlt, HT2⟩
          case measure => simp [intOf]; omega
    · obtain rfl : k = n := by omega
      have HN : Hid (gvF L p = (91, L)) := Lib.hid (gvF_no (by
        have := hT.out
        rw [List.take_of_length_le (by omega)] at this
        exact this))
      have hkI : ¬ (k : Int) < (k : Int) := by omega
      clear hT
      go_wp2
      go_ret
      rw [HN.out]
      exact ⟨rfl, HAr.out, World.grownBy.refl _ _⟩
end Go.Proofs.YtiocdojdncomhaaDoor
