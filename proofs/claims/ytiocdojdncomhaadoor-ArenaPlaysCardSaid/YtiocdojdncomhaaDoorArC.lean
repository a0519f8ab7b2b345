/-
  The document's own arena (layer 10): Take.
-/
import Derived.Test.YtiocdojdncomhaaDoorArB
namespace Go.Proofs.YtiocdojdncomhaaDoor
open Go.RowKit Go.Maps
set_option linter.unusedVariables false

/-- Where the best one so far stands. -/
def BstAt (l : List Bl) (o : Nat) (bi : Int) (g : Option Bl) : Prop := (bi = -1 ∧ g = none) ∨ ∃ (b : Nat) (q : Bl), bi = (b : Int) ∧ l[b]? = some q ∧ g = some q ∧ o ≤ q.2
theorem rbk_new (w : World) (p o : Nat) : RBk (w.alloc (.cells #[.int .i64 (p : Int), .int .i64 (o : Int)] 59)) (some ⟨w.heap.size, 0, none⟩) 1 [(p, o)] := by
  have hb := Blk.new w 59 #[.int .i64 (p : Int), .int .i64 (o : Int)]
  refine ⟨rfl, fun _ => ⟨w.heap.size, 0, rfl, by simp, fun j x hx => ?_⟩⟩
  match j, hx with
  | 0, h => cases h; exact ⟨(hb.cell 0).trans rfl, (hb.cell 1).trans rfl⟩
theorem take_done {w wa w8 : World} {D rd O n9 c9 q1 o : Nat} {L M : List Bl} {A9 A : Option Addr} {n c : Nat} (hD : D ≤ w.heap.size) (hr : D ≤ rd) (hb : Below w.heap.size w wa) (hB : Blk wa rd 57 #[.int .i64 (O : Int), .slice A n c]) (h8 : Below wa.heap.size wa w8)
    (hi : ins q1 o L = M) (hr9 : RBk w8 A9 n9 M) (hc9 : n9 ≤ c9) (hs9 : (A9 = none ∧ n9 = 0 ∧ c9 = 0) ∨ ∃ g, A9 = some ⟨g, 0, none⟩ ∧ wa.heap.size ≤ g ∧ g < w8.heap.size) : ArE (w8.setCell ⟨rd, 1, none⟩ (.slice A9 n9 c9)) D rd O (ins q1 o L) := by
  have hlt := hB.lt
  have hsz := hb.size
  rw [hi]
  refine ⟨A9, n9, c9, (hB.below h8 hlt).set_ 1 _, ⟨hr9.1, fun h0 => ?_⟩, hc9, hr, ?_⟩
  · obtain ⟨b, o', e, hl, hc⟩ := hr9.2 h0
    rcases hs9 with ⟨e2, -, -⟩ | ⟨g, e2, hg, hgl⟩
    · rw [e2] at e; cases e
    · rw [e2] at e
      injection e with e
      injection e with e3 e4 e5
      subst e3 e4
      refine ⟨g, 0, e2, by simpa [World.size_setCell] using hl, fun j x hx => ?_⟩
      obtain ⟨k1, k2⟩ := hc j x hx
      have hne : (⟨rd, 1, none⟩ : Addr).block ≠ g := by show rd ≠ g; omega
      exact ⟨(World.cell?_setCell_far w8 ⟨rd, 1, none⟩ ⟨g, 0 + j * 2, none⟩ _ hne).trans k1, (World.cell?_setCell_far w8 ⟨rd, 1, none⟩ ⟨g, 0 + j * 2 + 1, none⟩ _ hne).trans k2⟩
  · rcases hs9 with h | ⟨g, e2, hg, hgl⟩
    · exact .inl h
    · exact .inr ⟨g, e2, by omega, by simpa [World.size_setCell] using hgl, by omega⟩
set_option maxRecDepth 100000 in
set_option maxHeartbeats 4000000 in
theorem rtake_any (D rd O : Nat) (hO : O ≤ 16) (L : List Bl) (hI : InvA O L) (o : Nat) (ho : o ≤ O) (w : World) (hD : D ≤ w.heap.size) (h : ArE w D rd O L) :
    Calls Tryd.prog 16 #[.pointer (some ⟨rd, 0, none⟩), .int .i64 (o : Int)] w fun e w' => e = .returned (.tuple #[.int .i64 (tkF O L (o : Int)).1, .int .i64 (tkF O L (o : Int)).2.1]) ∧ ArE w' D rd O (tkF O L (o : Int)).2.2 ∧ w.grownBy w' (some rd) := by
  have hsm := inv_sml hO hI
  have HF := Lib.hid (free_any rd O L hsm O 0 hO (by have := pow16 hO; omega) w h.ard)
  have HN : Hid ((fre L O 0).length ≤ 65536) := Lib.hid (Nat.le_trans (fre_count L O 0) (pow16 hO).2)
  have HAr := Lib.hid h
  obtain ⟨A, n, c, hb, hrb, hc, hDr, hcase⟩ := h
  have f0 := (hb.cell 0).trans (show _ = some (Value.int .i64 (O : Int)) by rfl)
  have HB := Lib.hid hb
  have HRB := Lib.hid hrb
  have HCS := Lib.hid (And.intro hc (And.intro hDr hcase))
  have HSm := Lib.hid hsm
  have HI := Lib.hid hI
  obtain ⟨l, hl⟩ : ∃ l, fre L O 0 = l := ⟨_, rfl⟩
  rw [hl] at HF HN
  have HTS : Hid (tkS O L o = (bst o none l).map fun f => (f.1, ins f.1 o L)) := Lib.hid (by unfold tkS; rw [hl])
  have HP : Hid (∀ f ∈ l, f.1 ≤ 65536 ∧ f.2 ≤ 16) := Lib.hid (fun f hf => by
    rw [← hl] at hf
    have h1 := fre_mem L O 0 (Nat.dvd_zero _) f hf
    have h2 := (pow16 hO).2
    have h3 := two_pos f.2
    omega)
  have o1 : ¬ (o : Int) < 0 := by omega
  have o2 : ¬ (O : Int) < (o : Int) := by omega
  have HD := Lib.hid hD
  clear hb hrb hc hDr hcase hsm hI hl hD
  go_enter Tryd.func16, Tryd.ntmps16
  go_wp2_with fail
  refine Calls.mono HF.out ?_
  rintro e w1 ⟨v, rfl, hown, hbl⟩
  obtain ⟨m, hm⟩ : ∃ m, l.length = m := ⟨_, rfl⟩
  rw [hm] at hown HN
  obtain ⟨A2, c2, rfl, hrb2, -, -, -⟩ := own_rbk hm hown
  have HR := Lib.hid hrb2
  have HBl := Lib.hid hbl
  have hmb := HN.out
  have HLm := Lib.hid hm
  clear hown hrb2 hbl f0 hm
  go_wp2
  go_loopw [7, 8] (fun bv iv wr => ∃ (j : Nat) (bi : Int) (g : Option Bl), iv = .int .i64 (j : Int) ∧ bv = .int .i64 bi ∧ j ≤ m ∧ Hid (bst o g (l.drop j) = bst o none l) ∧ Hid (BstAt l o bi g) ∧ Hid (Below w1.heap.size w1 wr)) (fun _ iv _ => m - (intOf iv).toNat)
  case atStart => exact ⟨0, -1, none, rfl, rfl, Nat.zero_le _, Lib.hid (by simp), Lib.hid (.inl ⟨rfl, rfl⟩), Lib.hid (Below.refl _ _)⟩
  case round =>
    obtain ⟨j, bi, g, rfl, rfl, hj, hH, hG, hW⟩ := hrel
    by_cases hlt : j < m
    · obtain ⟨b1, o1', e1, hb1, hc1⟩ := (HR.out.below hW.out).2 (by omega)
      subst e1
      obtain ⟨x, hx⟩ : ∃ x, l[j]? = some x := ⟨_, List.getElem?_eq_getElem (by rw [HLm.out]; exact hlt)⟩
      obtain ⟨p1, p2⟩ := hc1 j x hx
      have HX := Lib.hid hx
      have hdr : l.drop j = x :: l.drop (j + 1) := by
        obtain ⟨h1, h2⟩ := List.getElem?_eq_some_iff.1 hx
        rw [List.drop_eq_getElem_cons h1, h2]
      have HDr := Lib.hid hdr
      have HCc := Lib.hid hc1
      obtain ⟨xo, hxo⟩ : ∃ xo : Int, (x.2 : Int) = xo := ⟨_, rfl⟩
      rw [hxo] at p2
      have hjI : (j : Int) < (m : Int) := by omega
      have hj0 : (0 : Int) ≤ (j : Int) := by omega
      have j3 : IntKind.i64.wrap ((j : Int) + 1) = (j : Int) + 1 := by rw [IntKind.wrap_i64]; omega
      have HXO := Lib.hid hxo
      clear hc1 hx hdr hxo p1
      by_cases hle : o ≤ x.2
      · have d1 : decide ((o : Int) ≤ xo) = true := by have := HXO.out; simp; omega
        rcases hG.out with ⟨rfl, rfl⟩ | ⟨b, q, rfl, hq1, rfl, hq2⟩
        · have HN2 : Hid (bst o (some x) (l.drop (j + 1)) = bst o none l) := Lib.hid (by rw [← hH.out, HDr.out, bst_cons_none, if_pos hle])
          have HC := Lib.hid p2
          clear hle
          go_wp2
          refine wp_region_held_drew (S := (fun W => W.cell? ⟨b1, o1' + j * 2 + 1, none⟩ = some (.int .i64 xo))) (by kernel_rfl) ?_ (fun hHeld => ?_)
          · (exact HC.out)
          refine wpAnyH_take (i := 0) (oi := { dst := some 34, op := Go.Op.move (Go.Operand.tmp 6), type := 55, pos := "ref.go:75", after := #[], guard := none }) (v := ?_) rfl (by kernel_rfl) (by kernel_rfl) (by kernel_rfl) (fun _ _ _ h => h) (Or.inl ⟨by rfl, ?_⟩) (by assumption) ?_
          rotate_left
          · intro w hSw
            (try dsimp only at hSw)
            go_simp
            try (with_reducible rfl)
          try simp only [Act.put, List.setIfInBounds_toArray, List.set_cons_zero, List.set_cons_succ]
          refine wpAnyH_take (i := 1) (oi := { dst := some 35, op := Go.Op.move (Go.Operand.tmp 8), type := 3, pos := "ref.go:75", after := #[], guard := none }) (v := ?_) rfl (by kernel_rfl) (by kernel_rfl) (by kernel_rfl) (fun _ _ _ h => h) (Or.inl ⟨by rfl, ?_⟩) (by assumption) ?_
          rotate_left
          · intro w hSw
            (try dsimp only at hSw)
            go_simp
            try (with_reducible rfl)
          try simp only [Act.put, List.setIfInBounds_toArray, List.set_cons_zero, List.set_cons_succ]
          refine wpAnyH_take (i := 2) (oi := { dst := some 36, op := Go.Op.indexAddr 55 (Go.Operand.tmp 34) (Go.Operand.tmp 35), type := 0, pos := "ref.go:75", after := #[{ on := 0, ground := Go.Ground.data }, { on := 1, ground := Go.Ground.data }], guard := none }) (v := ?_) rfl (by kernel_rfl) (by kernel_rfl) (by kernel_rfl) (fun _ _ _ h => h) (Or.inl ⟨by rfl, ?_⟩) (by assumption) ?_
          rotate_left
          · intro w hSw
            (try dsimp only at hSw)
            go_simp
            try (with_reducible rfl)
          try simp only [Act.put, List.setIfInBounds_toArray, List.set_cons_zero, List.set_cons_succ]
          refine wpAnyH_take (i := 3) (oi := { dst := some 37, op := Go.Op.fieldAddr 59 (Go.Operand.tmp 36) 1, type := 0, pos := "ref.go:75", after := #[{ on := 2, ground := Go.Ground.data }], guard := none }) (v := ?_) rfl (by kernel_rfl) (by kernel_rfl) (by kernel_rfl) (fun _ _ _ h => h) (Or.inl ⟨by rfl, ?_⟩) (by assumption) ?_
          rotate_left
          · intro w hSw
            (try dsimp only at hSw)
            go_simp
            try (with_reducible rfl)
          try simp only [Act.put, List.setIfInBounds_toArray, List.set_cons_zero, List.set_cons_succ]
          refine wpAnyH_take (i := 4) (oi := { dst := some 38, op := Go.Op.load 3 (Go.Operand.tmp 37), type := 3, pos := "ref.go:75", after := #[{ on := 3, ground := Go.Ground.data }], guard := none }) (v := ?_) rfl (by kernel_rfl) (by kernel_rfl) (by kernel_rfl) (fun _ _ _ h => h) (Or.inl ⟨by rfl, ?_⟩) (by assumption) ?_
          rotate_left
          · intro w hSw
            (try dsimp only at hSw)
            go_simp
            try (with_reducible rfl)
          try simp only [Act.put, List.setIfInBounds_toArray, List.set_cons_zero, List.set_cons_succ]
          refine wpAnyH_take (i := 5) (oi := { dst := some 39, op := Go.Op.move (Go.Operand.tmp 1), type := 3, pos := "ref.go:75", after := #[], guard := none }) (v := ?_) rfl (by kernel_rfl) (by kernel_rfl) (by kernel_rfl) (fun _ _ _ h => h) (Or.inl ⟨by rfl, ?_⟩) (by assumption) ?_
          rotate_left
          · intro w hSw
            (try dsimp only at hSw)
            go_simp
            try (with_reducible rfl)
          try simp only [Act.put, List.setIfInBounds_toArray, List.set_cons_zero, List.set_cons_succ]
          refine wpAnyH_take (i := 6) (oi := { dst := some 40, op := Go.Op.binOp Go.BinOp.geq 3 (Go.Operand.tmp 38) (Go.Operand.tmp 39) 3, type := 4, pos := "ref.go:75", after := #[{ on := 4, ground := Go.Ground.data }, { on := 5, ground := Go.Ground.data }], guard := none }) (v := ?_) rfl (by kernel_rfl) (by kernel_rfl) (by kernel_rfl) (fun _ _ _ h => h) (Or.inl ⟨by rfl, ?_⟩) (by assumption) ?_
          rotate_left
          · intro w hSw
            (try dsimp only at hSw)
            go_simp
            try (with_reducible rfl)
          try simp only [Act.put, List.setIfInBounds_toArray, List.set_cons_zero, List.set_cons_succ]
          refine wpAnyH_take (i := 7) (oi := { dst := some 41, op := Go.Op.move (Go.Operand.tmp 40), type := 4, pos := "ref.go:75", after := #[{ on := 6, ground := Go.Ground.data }], guard := none }) (v := ?_) rfl (by kernel_rfl) (by kernel_rfl) (by kernel_rfl) (fun _ _ _ h => h) (Or.inl ⟨by rfl, ?_⟩) (by assumption) ?_
          rotate_left
          · intro w hSw
            (try dsimp only at hSw)
            go_simp
            try (with_reducible rfl)
          try simp only [Act.put, List.setIfInBounds_toArray, List.set_cons_zero, List.set_cons_succ]
          refine wpAnyH_take (i := 8) (oi := { dst := some 42, op := Go.Op.move (Go.Operand.tmp 7), type := 3, pos := "ref.go:75", after := #[{ on := 7, ground := Go.Ground.guard }], guard := some (7, true) }) (v := ?_) rfl (by kernel_rfl) (by kernel_rfl) (by kernel_rfl) (fun _ _ _ h => h) (Or.inl ⟨by rfl, ?_⟩) (by assumption) ?_
          rotate_left
          · intro w hSw
            (try dsimp only at hSw)
            go_simp
            try (with_reducible rfl)
          try simp only [Act.put, List.setIfInBounds_toArray, List.set_cons_zero, List.set_cons_succ]
          refine wpAnyH_take (i := 9) (oi := { dst := some 43, op := Go.Op.binOp Go.BinOp.lss 3 (Go.Operand.tmp 42) (Go.Operand.const (Go.Value.int Go.IntKind.i64 0)) 3, type := 4, pos := "ref.go:75", after := #[{ on := 8, ground := Go.Ground.data }, { on := 7, ground := Go.Ground.guard }], guard := some (7, true) }) (v := ?_) rfl (by kernel_rfl) (by kernel_rfl) (by kernel_rfl) (fun _ _ _ h => h) (Or.inl ⟨by rfl, ?_⟩) (by assumption) ?_
          rotate_left
          · intro w hSw
            (try dsimp only at hSw)
            go_simp
            try (with_reducible rfl)
          try simp only [Act.put, List.setIfInBounds_toArray, List.set_cons_zero, List.set_cons_succ]
          refine wpAnyH_take (i := 10) (oi := { dst := some 44, op := Go.Op.move (Go.Operand.tmp 43), type := 4, pos := "ref.go:75", after := #[{ on := 9, ground := Go.Ground.data }, { on := 7, ground := Go.Ground.chain }, { on := 7, ground := Go.Ground.guard }], guard := some (7, true) }) (v := ?_) rfl (by kernel_rfl) (by kernel_rfl) (by kernel_rfl) (fun _ _ _ h => h) (Or.inl ⟨by rfl, ?_⟩) (by assumption) ?_
          rotate_left
          · intro w hSw
            (try dsimp only at hSw)
            go_simp
            try (with_reducible rfl)
          try simp only [Act.put, List.setIfInBounds_toArray, List.set_cons_zero, List.set_cons_succ]
          refine wpAnyH_take (i := 11) (oi := { dst := some 45, op := Go.Op.move (Go.Operand.tmp 6), type := 55, pos := "ref.go:75", after := #[{ on := 10, ground := Go.Ground.guard }], guard := some (10, false) }) (v := undef) rfl (by kernel_rfl) (by kernel_rfl) (by kernel_rfl) (fun _ _ _ h => h) (Or.inr ⟨by rfl, rfl⟩) (by assumption) ?_
          try simp only [Act.put, List.setIfInBounds_toArray, List.set_cons_zero, List.set_cons_succ]
          refine wpAnyH_take (i := 12) (oi := { dst := some 46, op := Go.Op.move (Go.Operand.tmp 8), type := 3, pos := "ref.go:75", after := #[{ on := 10, ground := Go.Ground.guard }], guard := some (10, false) }) (v := undef) rfl (by kernel_rfl) (by kernel_rfl) (by kernel_rfl) (fun _ _ _ h => h) (Or.inr ⟨by rfl, rfl⟩) (by assumption) ?_
          try simp only [Act.put, List.setIfInBounds_toArray, List.set_cons_zero, List.set_cons_succ]
          refine wpAnyH_take (i := 13) (oi := { dst := some 47, op := Go.Op.indexAddr 55 (Go.Operand.tmp 45) (Go.Operand.tmp 46), type := 0, pos := "ref.go:75", after := #[{ on := 11, ground := Go.Ground.data }, { on := 12, ground := Go.Ground.data }, { on := 10, ground := Go.Ground.guard }], guard := some (10, false) }) (v := undef) rfl (by kernel_rfl) (by kernel_rfl) (by kernel_rfl) (fun _ _ _ h => h) (Or.inr ⟨by rfl, rfl⟩) (by assumption) ?_
          try simp only [Act.put, List.setIfInBounds_toArray, List.set_cons_zero, List.set_cons_succ]
          refine wpAnyH_take (i := 14) (oi := { dst := some 48, op := Go.Op.fieldAddr 59 (Go.Operand.tmp 47) 1, type := 0, pos := "ref.go:75", after := #[{ on := 13, ground := Go.Ground.data }, { on := 10, ground := Go.Ground.guard }], guard := some (10, false) }) (v := undef) rfl (by kernel_rfl) (by kernel_rfl) (by kernel_rfl) (fun _ _ _ h => h) (Or.inr ⟨by rfl, rfl⟩) (by assumption) ?_
          try simp only [Act.put, List.setIfInBounds_toArray, List.set_cons_zero, List.set_cons_succ]
          refine wpAnyH_take (i := 15) (oi := { dst := some 49, op := Go.Op.load 3 (Go.Operand.tmp 48), type := 3, pos := "ref.go:75", after := #[{ on := 14, ground := Go.Ground.data }, { on := 10, ground := Go.Ground.guard }], guard := some (10, false) }) (v := undef) rfl (by kernel_rfl) (by kernel_rfl) (by kernel_rfl) (fun _ _ _ h => h) (Or.inr ⟨by rfl, rfl⟩) (by assumption) ?_
          try simp only [Act.put, List.setIfInBounds_toArray, List.set_cons_zero, List.set_cons_succ]
          refine wpAnyH_take (i := 16) (oi := { dst := some 50, op := Go.Op.move (Go.Operand.tmp 6), type := 55, pos := "ref.go:75", after := #[{ on := 10, ground := Go.Ground.guard }], guard := some (10, false) }) (v := undef) rfl (by kernel_rfl) (by kernel_rfl) (by kernel_rfl) (fun _ _ _ h => h) (Or.inr ⟨by rfl, rfl⟩) (by assumption) ?_
          try simp only [Act.put, List.setIfInBounds_toArray, List.set_cons_zero, List.set_cons_succ]
          refine wpAnyH_take (i := 17) (oi := { dst := some 51, op := Go.Op.move (Go.Operand.tmp 7), type := 3, pos := "ref.go:75", after := #[{ on := 10, ground := Go.Ground.guard }], guard := some (10, false) }) (v := undef) rfl (by kernel_rfl) (by kernel_rfl) (by kernel_rfl) (fun _ _ _ h => h) (Or.inr ⟨by rfl, rfl⟩) (by assumption) ?_
          try simp only [Act.put, List.setIfInBounds_toArray, List.set_cons_zero, List.set_cons_succ]
          refine wpAnyH_take (i := 18) (oi := { dst := some 52, op := Go.Op.indexAddr 55 (Go.Operand.tmp 50) (Go.Operand.tmp 51), type := 0, pos := "ref.go:75", after := #[{ on := 16, ground := Go.Ground.data }, { on := 17, ground := Go.Ground.data }, { on := 10, ground := Go.Ground.guard }], guard := some (10, false) }) (v := undef) rfl (by kernel_rfl) (by kernel_rfl) (by kernel_rfl) (fun _ _ _ h => h) (Or.inr ⟨by rfl, rfl⟩) (by assumption) ?_
          try simp only [Act.put, List.setIfInBounds_toArray, List.set_cons_zero, List.set_cons_succ]
          refine wpAnyH_take (i := 19) (oi := { dst := some 53, op := Go.Op.fieldAddr 59 (Go.Operand.tmp 52) 1, type := 0, pos := "ref.go:75", after := #[{ on := 18, ground := Go.Ground.data }, { on := 10, ground := Go.Ground.guard }], guard := some (10, false) }) (v := undef) rfl (by kernel_rfl) (by kernel_rfl) (by kernel_rfl) (fun _ _ _ h => h) (Or.inr ⟨by rfl, rfl⟩) (by assumption) ?_
          try simp only [Act.put, List.setIfInBounds_toArray, List.set_cons_zero, List.set_cons_succ]
          refine wpAnyH_take (i := 20) (oi := { dst := some 54, op := Go.Op.load 3 (Go.Operand.tmp 53), type := 3, pos := "ref.go:75", after := #[{ on := 19, ground := Go.Ground.data }, { on := 10, ground := Go.Ground.guard }], guard := some (10, false) }) (v := undef) rfl (by kernel_rfl) (by kernel_rfl) (by kernel_rfl) (fun _ _ _ h => h) (Or.inr ⟨by rfl, rfl⟩) (by assumption) ?_
          try simp only [Act.put, List.setIfInBounds_toArray, List.set_cons_zero, List.set_cons_succ]
          refine wpAnyH_take (i := 21) (oi := { dst := some 55, op := Go.Op.binOp Go.BinOp.lss 3 (Go.Operand.tmp 49) (Go.Operand.tmp 54) 3, type := 4, pos := "ref.go:75", after := #[{ on := 15, ground := Go.Ground.data }, { on := 20, ground := Go.Ground.data }, { on := 10, ground := Go.Ground.guard }], guard := some (10, false) }) (v := undef) rfl (by kernel_rfl) (by kernel_rfl) (by kernel_rfl) (fun _ _ _ h => h) (Or.inr ⟨by rfl, rfl⟩) (by assumption) ?_
          try simp only [Act.put, List.setIfInBounds_toArray, List.set_cons_zero, List.set_cons_succ]
          refine wpAnyH_take (i := 22) (oi := { dst := some 56, op := Go.Op.pick (Go.Operand.tmp 44) (Go.Operand.const (Go.Value.bool true)) (Go.Operand.tmp 55), type := 4, pos := "ref.go:75", after := #[{ on := 10, ground := Go.Ground.data }, { on := 21, ground := Go.Ground.data }, { on := 7, ground := Go.Ground.guard }], guard := some (7, true) }) (v := ?_) rfl (by kernel_rfl) (by kernel_rfl) (by kernel_rfl) (fun _ _ _ h => h) (Or.inl ⟨by rfl, ?_⟩) (by assumption) ?_
          rotate_left
          · intro w hSw
            (try dsimp only at hSw)
            go_simp
            try (with_reducible rfl)
          try simp only [Act.put, List.setIfInBounds_toArray, List.set_cons_zero, List.set_cons_succ]
          refine wpAnyH_take (i := 23) (oi := { dst := some 57, op := Go.Op.pick (Go.Operand.tmp 41) (Go.Operand.tmp 56) (Go.Operand.const (Go.Value.bool false)), type := 4, pos := "ref.go:75", after := #[{ on := 7, ground := Go.Ground.data }, { on := 22, ground := Go.Ground.data }], guard := none }) (v := ?_) rfl (by kernel_rfl) (by kernel_rfl) (by kernel_rfl) (fun _ _ _ h => h) (Or.inl ⟨by rfl, ?_⟩) (by assumption) ?_
          rotate_left
          · intro w hSw
            (try dsimp only at hSw)
            go_simp
            try (with_reducible rfl)
          try simp only [Act.put, List.setIfInBounds_toArray, List.set_cons_zero, List.set_cons_succ]
          refine wpAnyH_done (by kernel_rfl) ?_ _
          go_wp2
          go_roundw
          case rel => exact ⟨j + 1, (j : Int), some x, by go_num, rfl, hlt, HN2, Lib.hid (.inr ⟨j, x, rfl, HX.out, rfl, by have := HXO.out; simp at d1; omega⟩), Lib.hid hW.out.drew⟩
          case measure => simp [intOf]; omega
        · obtain ⟨p3, p4⟩ := HCc.out b q hq1
          obtain ⟨qo, hqo⟩ : ∃ qo : Int, (q.2 : Int) = qo := ⟨_, rfl⟩
          rw [hqo] at p4
          have hbm : b < m := by rw [← HLm.out]; exact (List.getElem?_eq_some_iff.1 hq1).1
          have hbI : (b : Int) < (m : Int) := by omega
          have hb0 : ¬ (b : Int) < 0 := by omega
          have hb00 : (0 : Int) ≤ (b : Int) := by omega
          have db : decide ((b : Int) < 0) = false := by simp
          have HC := Lib.hid (And.intro p2 p4)
          by_cases hxq : x.2 < q.2
          · have d2 : decide (xo < qo) = true := by have := HXO.out; simp; omega
            have HN2 : Hid (bst o (some x) (l.drop (j + 1)) = bst o none l) := Lib.hid (by rw [← hH.out, HDr.out, bst_cons_some, if_pos ⟨hle, hxq⟩])
            have HOX : Hid (o ≤ x.2) := Lib.hid hle
            clear hle hxq hqo p3 hq1
            go_wp2
            refine wp_region_held_drew (S := (fun W => W.cell? ⟨b1, o1' + j * 2 + 1, none⟩ = some (.int .i64 xo) ∧ W.cell? ⟨b1, o1' + b * 2 + 1, none⟩ = some (.int .i64 qo))) (by kernel_rfl) ?_ (fun hHeld => ?_)
            · (exact HC.out)
            refine wpAnyH_take (i := 0) (oi := { dst := some 34, op := Go.Op.move (Go.Operand.tmp 6), type := 55, pos := "ref.go:75", after := #[], guard := none }) (v := ?_) rfl (by kernel_rfl) (by kernel_rfl) (by kernel_rfl) (fun _ _ _ h => h) (Or.inl ⟨by rfl, ?_⟩) (by assumption) ?_
            rotate_left
            · intro w hSw
              (try dsimp only at hSw)
              go_simp
              try (with_reducible rfl)
            try simp only [Act.put, List.setIfInBounds_toArray, List.set_cons_zero, List.set_cons_succ]
            refine wpAnyH_take (i := 1) (oi := { dst := some 35, op := Go.Op.move (Go.Operand.tmp 8), type := 3, pos := "ref.go:75", after := #[], guard := none }) (v := ?_) rfl (by kernel_rfl) (by kernel_rfl) (by kernel_rfl) (fun _ _ _ h => h) (Or.inl ⟨by rfl, ?_⟩) (by assumption) ?_
            rotate_left
            · intro w hSw
              (try dsimp only at hSw)
              go_simp
              try (with_reducible rfl)
            try simp only [Act.put, List.setIfInBounds_toArray, List.set_cons_zero, List.set_cons_succ]
            refine wpAnyH_take (i := 2) (oi := { dst := some 36, op := Go.Op.indexAddr 55 (Go.Operand.tmp 34) (Go.Operand.tmp 35), type := 0, pos := "ref.go:75", after := #[{ on := 0, ground := Go.Ground.data }, { on := 1, ground := Go.Ground.data }], guard := none }) (v := ?_) rfl (by kernel_rfl) (by kernel_rfl) (by kernel_rfl) (fun _ _ _ h => h) (Or.inl ⟨by rfl, ?_⟩) (by assumption) ?_
            rotate_left
            · intro w hSw
              (try dsimp only at hSw)
              go_simp
              try (with_reducible rfl)
            try simp only [Act.put, List.setIfInBounds_toArray, List.set_cons_zero, List.set_cons_succ]
            refine wpAnyH_take (i := 3) (oi := { dst := some 37, op := Go.Op.fieldAddr 59 (Go.Operand.tmp 36) 1, type := 0, pos := "ref.go:75", after := #[{ on := 2, ground := Go.Ground.data }], guard := none }) (v := ?_) rfl (by kernel_rfl) (by kernel_rfl) (by kernel_rfl) (fun _ _ _ h => h) (Or.inl ⟨by rfl, ?_⟩) (by assumption) ?_
            rotate_left
            · intro w hSw
              (try dsimp only at hSw)
              go_simp
              try (with_reducible rfl)
            try simp only [Act.put, List.setIfInBounds_toArray, List.set_cons_zero, List.set_cons_succ]
            refine wpAnyH_take (i := 4) (oi := { dst := some 38, op := Go.Op.load 3 (Go.Operand.tmp 37), type := 3, pos := "ref.go:75", after := #[{ on := 3, ground := Go.Ground.data }], guard := none }) (v := ?_) rfl (by kernel_rfl) (by kernel_rfl) (by kernel_rfl) (fun _ _ _ h => h) (Or.inl ⟨by rfl, ?_⟩) (by assumption) ?_
            rotate_left
            · intro w hSw
              (try dsimp only at hSw)
              go_simp
              try (with_reducible rfl)
            try simp only [Act.put, List.setIfInBounds_toArray, List.set_cons_zero, List.set_cons_succ]
            refine wpAnyH_take (i := 5) (oi := { dst := some 39, op := Go.Op.move (Go.Operand.tmp 1), type := 3, pos := "ref.go:75", after := #[], guard := none }) (v := ?_) rfl (by kernel_rfl) (by kernel_rfl) (by kernel_rfl) (fun _ _ _ h => h) (Or.inl ⟨by rfl, ?_⟩) (by assumption) ?_
            rotate_left
            · intro w hSw
              (try dsimp only at hSw)
              go_simp
              try (with_reducible rfl)
            try simp only [Act.put, List.setIfInBounds_toArray, List.set_cons_zero, List.set_cons_succ]
            refine wpAnyH_take (i := 6) (oi := { dst := some 40, op := Go.Op.binOp Go.BinOp.geq 3 (Go.Operand.tmp 38) (Go.Operand.tmp 39) 3, type := 4, pos := "ref.go:75", after := #[{ on := 4, ground := Go.Ground.data }, { on := 5, ground := Go.Ground.data }], guard := none }) (v := ?_) rfl (by kernel_rfl) (by kernel_rfl) (by kernel_rfl) (fun _ _ _ h => h) (Or.inl ⟨by rfl, ?_⟩) (by assumption) ?_
            rotate_left
            · intro w hSw
              (try dsimp only at hSw)
              go_simp
              try (with_reducible rfl)
            try simp only [Act.put, List.setIfInBounds_toArray, List.set_cons_zero, List.set_cons_succ]
            refine wpAnyH_take (i := 7) (oi := { dst := some 41, op := Go.Op.move (Go.Operand.tmp 40), type := 4, pos := "ref.go:75", after := #[{ on := 6, ground := Go.Ground.data }], guard := none }) (v := ?_) rfl (by kernel_rfl) (by kernel_rfl) (by kernel_rfl) (fun _ _ _ h => h) (Or.inl ⟨by rfl, ?_⟩) (by assumption) ?_
            rotate_left
            · intro w hSw
              (try dsimp only at hSw)
              go_simp
              try (with_reducible rfl)
            try simp only [Act.put, List.setIfInBounds_toArray, List.set_cons_zero, List.set_cons_succ]
            refine wpAnyH_take (i := 8) (oi := { dst := some 42, op := Go.Op.move (Go.Operand.tmp 7), type := 3, pos := "ref.go:75", after := #[{ on := 7, ground := Go.Ground.guard }], guard := some (7, true) }) (v := ?_) rfl (by kernel_rfl) (by kernel_rfl) (by kernel_rfl) (fun _ _ _ h => h) (Or.inl ⟨by rfl, ?_⟩) (by assumption) ?_
            rotate_left
            · intro w hSw
              (try dsimp only at hSw)
              go_simp
              try (with_reducible rfl)
            try simp only [Act.put, List.setIfInBounds_toArray, List.set_cons_zero, List.set_cons_succ]
            refine wpAnyH_take (i := 9) (oi := { dst := some 43, op := Go.Op.binOp Go.BinOp.lss 3 (Go.Operand.tmp 42) (Go.Operand.const (Go.Value.int Go.IntKind.i64 0)) 3, type := 4, pos := "ref.go:75", after := #[{ on := 8, ground := Go.Ground.data }, { on := 7, ground := Go.Ground.guard }], guard := some (7, true) }) (v := ?_) rfl (by kernel_rfl) (by kernel_rfl) (by kernel_rfl) (fun _ _ _ h => h) (Or.inl ⟨by rfl, ?_⟩) (by assumption) ?_
            rotate_left
            · intro w hSw
              (try dsimp only at hSw)
              go_simp
              try (with_reducible rfl)
            try simp only [Act.put, List.setIfInBounds_toArray, List.set_cons_zero, List.set_cons_succ]
            refine wpAnyH_take (i := 10) (oi := { dst := some 44, op := Go.Op.move (Go.Operand.tmp 43), type := 4, pos := "ref.go:75", after := #[{ on := 9, ground := Go.Ground.data }, { on := 7, ground := Go.Ground.chain }, { on := 7, ground := Go.Ground.guard }], guard := some (7, true) }) (v := ?_) rfl (by kernel_rfl) (by kernel_rfl) (by kernel_rfl) (fun _ _ _ h => h) (Or.inl ⟨by rfl, ?_⟩) (by assumption) ?_
            rotate_left
            · intro w hSw
              (try dsimp only at hSw)
              go_simp
              try (with_reducible rfl)
            try simp only [Act.put, List.setIfInBounds_toArray, List.set_cons_zero, List.set_cons_succ]
            refine wpAnyH_take (i := 11) (oi := { dst := some 45, op := Go.Op.move (Go.Operand.tmp 6), type := 55, pos := "ref.go:75", after := #[{ on := 10, ground := Go.Ground.guard }], guard := some (10, false) }) (v := ?_) rfl (by kernel_rfl) (by kernel_rfl) (by kernel_rfl) (fun _ _ _ h => h) (Or.inl ⟨by rfl, ?_⟩) (by assumption) ?_
            rotate_left
            · intro w hSw
              (try dsimp only at hSw)
              go_simp
              try (with_reducible rfl)
            try simp only [Act.put, List.setIfInBounds_toArray, List.set_cons_zero, List.set_cons_succ]
            refine wpAnyH_take (i := 12) (oi := { dst := some 46, op := Go.Op.move (Go.Operand.tmp 8), type := 3, pos := "ref.go:75", after := #[{ on := 10, ground := Go.Ground.guard }], guard := some (10, false) }) (v := ?_) rfl (by kernel_rfl) (by kernel_rfl) (by kernel_rfl) (fun _ _ _ h => h) (Or.inl ⟨by rfl, ?_⟩) (by assumption) ?_
            rotate_left
            · intro w hSw
              (try dsimp only at hSw)
              go_simp
              try (with_reducible rfl)
            try simp only [Act.put, List.setIfInBounds_toArray, List.set_cons_zero, List.set_cons_succ]
            refine wpAnyH_take (i := 13) (oi := { dst := some 47, op := Go.Op.indexAddr 55 (Go.Operand.tmp 45) (Go.Operand.tmp 46), type := 0, pos := "ref.go:75", after := #[{ on := 11, ground := Go.Ground.data }, { on := 12, ground := Go.Ground.data }, { on := 10, ground := Go.Ground.guard }], guard := some (10, false) }) (v := ?_) rfl (by kernel_rfl) (by kernel_rfl) (by kernel_rfl) (fun _ _ _ h => h) (Or.inl ⟨by rfl, ?_⟩) (by assumption) ?_
            rotate_left
            · intro w hSw
              (try dsimp only at hSw)
              go_simp
              try (with_reducible rfl)
            try simp only [Act.put, List.setIfInBounds_toArray, List.set_cons_zero, List.set_cons_succ]
            refine wpAnyH_take (i := 14) (oi := { dst := some 48, op := Go.Op.fieldAddr 59 (Go.Operand.tmp 47) 1, type := 0, pos := "ref.go:75", after := #[{ on := 13, ground := Go.Ground.data }, { on := 10, ground := Go.Ground.guard }], guard := some (10, false) }) (v := ?_) rfl (by kernel_rfl) (by kernel_rfl) (by kernel_rfl) (fun _ _ _ h => h) (Or.inl ⟨by rfl, ?_⟩) (by assumption) ?_
            rotate_left
            · intro w hSw
              (try dsimp only at hSw)
              go_simp
              try (with_reducible rfl)
            try simp only [Act.put, List.setIfInBounds_toArray, List.set_cons_zero, List.set_cons_succ]
            refine wpAnyH_take (i := 15) (oi := { dst := some 49, op := Go.Op.load 3 (Go.Operand.tmp 48), type := 3, pos := "ref.go:75", after := #[{ on := 14, ground := Go.Ground.data }, { on := 10, ground := Go.Ground.guard }], guard := some (10, false) }) (v := ?_) rfl (by kernel_rfl) (by kernel_rfl) (by kernel_rfl) (fun _ _ _ h => h) (Or.inl ⟨by rfl, ?_⟩) (by assumption) ?_
            rotate_left
            · intro w hSw
              (try dsimp only at hSw)
              go_simp
              try (with_reducible rfl)
            try simp only [Act.put, List.setIfInBounds_toArray, List.set_cons_zero, List.set_cons_succ]
            refine wpAnyH_take (i := 16) (oi := { dst := some 50, op := Go.Op.move (Go.Operand.tmp 6), type := 55, pos := "ref.go:75", after := #[{ on := 10, ground := Go.Ground.guard }], guard := some (10, false) }) (v := ?_) rfl (by kernel_rfl) (by kernel_rfl) (by kernel_rfl) (fun _ _ _ h => h) (Or.inl ⟨by rfl, ?_⟩) (by assumption) ?_
            rotate_left
            · intro w hSw
              (try dsimp only at hSw)
              go_simp
              try (with_reducible rfl)
            try simp only [Act.put, List.setIfInBounds_toArray, List.set_cons_zero, List.set_cons_succ]
            refine wpAnyH_take (i := 17) (oi := { dst := some 51, op := Go.Op.move (Go.Operand.tmp 7), type := 3, pos := "ref.go:75", after := #[{ on := 10, ground := Go.Ground.guard }], guard := some (10, false) }) (v := ?_) rfl (by kernel_rfl) (by kernel_rfl) (by kernel_rfl) (fun _ _ _ h => h) (Or.inl ⟨by rfl, ?_⟩) (by assumption) ?_
            rotate_left
            · intro w hSw
              (try dsimp only at hSw)
              go_simp
              try (with_reducible rfl)
            try simp only [Act.put, List.setIfInBounds_toArray, List.set_cons_zero, List.set_cons_succ]
            refine wpAnyH_take (i := 18) (oi := { dst := some 52, op := Go.Op.indexAddr 55 (Go.Operand.tmp 50) (Go.Operand.tmp 51), type := 0, pos := "ref.go:75", after := #[{ on := 16, ground := Go.Ground.data }, { on := 17, ground := Go.Ground.data }, { on := 10, ground := Go.Ground.guard }], guard := some (10, false) }) (v := ?_) rfl (by kernel_rfl) (by kernel_rfl) (by kernel_rfl) (fun _ _ _ h => h) (Or.inl ⟨by rfl, ?_⟩) (by assumption) ?_
            rotate_left
            · intro w hSw
              (try dsimp only at hSw)
              go_simp
              try (with_reducible rfl)
            try simp only [Act.put, List.setIfInBounds_toArray, List.set_cons_zero, List.set_cons_succ]
            refine wpAnyH_take (i := 19) (oi := { dst := some 53, op := Go.Op.fieldAddr 59 (Go.Operand.tmp 52) 1, type := 0, pos := "ref.go:75", after := #[{ on := 18, ground := Go.Ground.data }, { on := 10, ground := Go.Ground.guard }], guard := some (10, false) }) (v := ?_) rfl (by kernel_rfl) (by kernel_rfl) (by kernel_rfl) (fun _ _ _ h => h) (Or.inl ⟨by rfl, ?_⟩) (by assumption) ?_
            rotate_left
            · intro w hSw
              (try dsimp only at hSw)
              go_simp
              try (with_reducible rfl)
            try simp only [Act.put, List.setIfInBounds_toArray, List.set_cons_zero, List.set_cons_succ]
            refine wpAnyH_take (i := 20) (oi := { dst := some 54, op := Go.Op.load 3 (Go.Operand.tmp 53), type := 3, pos := "ref.go:75", after := #[{ on := 19, ground := Go.Ground.data }, { on := 10, ground := Go.Ground.guard }], guard := some (10, false) }) (v := ?_) rfl (by kernel_rfl) (by kernel_rfl) (by kernel_rfl) (fun _ _ _ h => h) (Or.inl ⟨by rfl, ?_⟩) (by assumption) ?_
            rotate_left
            · intro w hSw
              (try dsimp only at hSw)
              go_simp
              try (with_reducible rfl)
            try simp only [Act.put, List.setIfInBounds_toArray, List.set_cons_zero, List.set_cons_succ]
            refine wpAnyH_take (i := 21) (oi := { dst := some 55, op := Go.Op.binOp Go.BinOp.lss 3 (Go.Operand.tmp 49) (Go.Operand.tmp 54) 3, type := 4, pos := "ref.go:75", after := #[{ on := 15, ground := Go.Ground.data }, { on := 20, ground := Go.Ground.data }, { on := 10, ground := Go.Ground.guard }], guard := some (10, false) }) (v := ?_) rfl (by kernel_rfl) (by kernel_rfl) (by kernel_rfl) (fun _ _ _ h => h) (Or.inl ⟨by rfl, ?_⟩) (by assumption) ?_
            rotate_left
            · intro w hSw
              (try dsimp only at hSw)
              go_simp
              try (with_reducible rfl)
            try simp only [Act.put, List.setIfInBounds_toArray, List.set_cons_zero, List.set_cons_succ]
            refine wpAnyH_take (i := 22) (oi := { dst := some 56, op := Go.Op.pick (Go.Operand.tmp 44) (Go.Operand.const (Go.Value.bool true)) (Go.Operand.tmp 55), type := 4, pos := "ref.go:75", after := #[{ on := 10, ground := Go.Ground.data }, { on := 21, ground := Go.Ground.data }, { on := 7, ground := Go.Ground.guard }], guard := some (7, true) }) (v := ?_) rfl (by kernel_rfl) (by kernel_rfl) (by kernel_rfl) (fun _ _ _ h => h) (Or.inl ⟨by rfl, ?_⟩) (by assumption) ?_
            rotate_left
            · intro w hSw
              (try dsimp only at hSw)
              go_simp
              try (with_reducible rfl)
            try simp only [Act.put, List.setIfInBounds_toArray, List.set_cons_zero, List.set_cons_succ]
            refine wpAnyH_take (i := 23) (oi := { dst := some 57, op := Go.Op.pick (Go.Operand.tmp 41) (Go.Operand.tmp 56) (Go.Operand.const (Go.Value.bool false)), type := 4, pos := "ref.go:75", after := #[{ on := 7, ground := Go.Ground.data }, { on := 22, ground := Go.Ground.data }], guard := none }) (v := ?_) rfl (by kernel_rfl) (by kernel_rfl) (by kernel_rfl) (fun _ _ _ h => h) (Or.inl ⟨by rfl, ?_⟩) (by assumption) ?_
            rotate_left
            · intro w hSw
              (try dsimp only at hSw)
              go_simp
              try (with_reducible rfl)
            try simp only [Act.put, List.setIfInBounds_toArray, List.set_cons_zero, List.set_cons_succ]
            refine wpAnyH_done (by kernel_rfl) ?_ _
            go_wp2
            go_roundw
            case rel => exact ⟨j + 1, (j : Int), some x, by go_num, rfl, hlt, HN2, Lib.hid (.inr ⟨j, x, rfl, HX.out, rfl, HOX.out⟩), Lib.hid hW.out.drew⟩
            case measure => simp [intOf]; omega
          · have d2 : decide (xo < qo) = false := by have := HXO.out; simp; omega
            have HN2 : Hid (bst o (some q) (l.drop (j + 1)) = bst o none l) := Lib.hid (by rw [← hH.out, HDr.out, bst_cons_some, if_neg (fun h => hxq h.2)])
            have HQ1 := Lib.hid hq1
            have HQ2 : Hid (o ≤ q.2) := Lib.hid hq2
            clear hle hxq hqo p3 hq1 hq2
            go_wp2
            refine wp_region_held_drew (S := (fun W => W.cell? ⟨b1, o1' + j * 2 + 1, none⟩ = some (.int .i64 xo) ∧ W.cell? ⟨b1, o1' + b * 2 + 1, none⟩ = some (.int .i64 qo))) (by kernel_rfl) ?_ (fun hHeld => ?_)
            · (exact HC.out)
            refine wpAnyH_take (i := 0) (oi := { dst := some 34, op := Go.Op.move (Go.Operand.tmp 6), type := 55, pos := "ref.go:75", after := #[], guard := none }) (v := ?_) rfl (by kernel_rfl) (by kernel_rfl) (by kernel_rfl) (fun _ _ _ h => h) (Or.inl ⟨by rfl, ?_⟩) (by assumption) ?_
            rotate_left
            · intro w hSw
              (try dsimp only at hSw)
              go_simp
              try (with_reducible rfl)
            try simp only [Act.put, List.setIfInBounds_toArray, List.set_cons_zero, List.set_cons_succ]
            refine wpAnyH_take (i := 1) (oi := { dst := some 35, op := Go.Op.move (Go.Operand.tmp 8), type := 3, pos := "ref.go:75", after := #[], guard := none }) (v := ?_) rfl (by kernel_rfl) (by kernel_rfl) (by kernel_rfl) (fun _ _ _ h => h) (Or.inl ⟨by rfl, ?_⟩) (by assumption) ?_
            rotate_left
            · intro w hSw
              (try dsimp only at hSw)
              go_simp
              try (with_reducible rfl)
            try simp only [Act.put, List.setIfInBounds_toArray, List.set_cons_zero, List.set_cons_succ]
            refine wpAnyH_take (i := 2) (oi := { dst := some 36, op := Go.Op.indexAddr 55 (Go.Operand.tmp 34) (Go.Operand.tmp 35), type := 0, pos := "ref.go:75", after := #[{ on := 0, ground := Go.Ground.data }, { on := 1, ground := Go.Ground.data }], guard := none }) (v := ?_) rfl (by kernel_rfl) (by kernel_rfl) (by kernel_rfl) (fun _ _ _ h => h) (Or.inl ⟨by rfl, ?_⟩) (by assumption) ?_
            rotate_left
            · intro w hSw
              (try dsimp only at hSw)
              go_simp
              try (with_reducible rfl)
            try simp only [Act.put, List.setIfInBounds_toArray, List.set_cons_zero, List.set_cons_succ]
            refine wpAnyH_take (i := 3) (oi := { dst := some 37, op := Go.Op.fieldAddr 59 (Go.Operand.tmp 36) 1, type := 0, pos := "ref.go:75", after := #[{ on := 2, ground := Go.Ground.data }], guard := none }) (v := ?_) rfl (by kernel_rfl) (by kernel_rfl) (by kernel_rfl) (fun _ _ _ h => h) (Or.inl ⟨by rfl, ?_⟩) (by assumption) ?_
            rotate_left
            · intro w hSw
              (try dsimp only at hSw)
              go_simp
              try (with_reducible rfl)
            try simp only [Act.put, List.setIfInBounds_toArray, List.set_cons_zero, List.set_cons_succ]
            refine wpAnyH_take (i := 4) (oi := { dst := some 38, op := Go.Op.load 3 (Go.Operand.tmp 37), type := 3, pos := "ref.go:75", after := #[{ on := 3, ground := Go.Ground.data }], guard := none }) (v := ?_) rfl (by kernel_rfl) (by kernel_rfl) (by kernel_rfl) (fun _ _ _ h => h) (Or.inl ⟨by rfl, ?_⟩) (by assumption) ?_
            rotate_left
            · intro w hSw
              (try dsimp only at hSw)
              go_simp
              try (with_reducible rfl)
            try simp only [Act.put, List.setIfInBounds_toArray, List.set_cons_zero, List.set_cons_succ]
            refine wpAnyH_take (i := 5) (oi := { dst := some 39, op := Go.Op.move (Go.Operand.tmp 1), type := 3, pos := "ref.go:75", after := #[], guard := none }) (v := ?_) rfl (by kernel_rfl) (by kernel_rfl) (by kernel_rfl) (fun _ _ _ h => h) (Or.inl ⟨by rfl, ?_⟩) (by assumption) ?_
            rotate_left
            · intro w hSw
              (try dsimp only at hSw)
              go_simp
              try (with_reducible rfl)
            try simp only [Act.put, List.setIfInBounds_toArray, List.set_cons_zero, List.set_cons_succ]
            refine wpAnyH_take (i := 6) (oi := { dst := some 40, op := Go.Op.binOp Go.BinOp.geq 3 (Go.Operand.tmp 38) (Go.Operand.tmp 39) 3, type := 4, pos := "ref.go:75", after := #[{ on := 4, ground := Go.Ground.data }, { on := 5, ground := Go.Ground.data }], guard := none }) (v := ?_) rfl (by kernel_rfl) (by kernel_rfl) (by kernel_rfl) (fun _ _ _ h => h) (Or.inl ⟨by rfl, ?_⟩) (by assumption) ?_
            rotate_left
            · intro w hSw
              (try dsimp only at hSw)
              go_simp
              try (with_reducible rfl)
            try simp only [Act.put, List.setIfInBounds_toArray, List.set_cons_zero, List.set_cons_succ]
            refine wpAnyH_take (i := 7) (oi := { dst := some 41, op := Go.Op.move (Go.Operand.tmp 40), type := 4, pos := "ref.go:75", after := #[{ on := 6, ground := Go.Ground.data }], guard := none }) (v := ?_) rfl (by kernel_rfl) (by kernel_rfl) (by kernel_rfl) (fun _ _ _ h => h) (Or.inl ⟨by rfl, ?_⟩) (by assumption) ?_
            rotate_left
            · intro w hSw
              (try dsimp only at hSw)
              go_simp
              try (with_reducible rfl)
            try simp only [Act.put, List.setIfInBounds_toArray, List.set_cons_zero, List.set_cons_succ]
            refine wpAnyH_take (i := 8) (oi := { dst := some 42, op := Go.Op.move (Go.Operand.tmp 7), type := 3, pos := "ref.go:75", after := #[{ on := 7, ground := Go.Ground.guard }], guard := some (7, true) }) (v := ?_) rfl (by kernel_rfl) (by kernel_rfl) (by kernel_rfl) (fun _ _ _ h => h) (Or.inl ⟨by rfl, ?_⟩) (by assumption) ?_
            rotate_left
            · intro w hSw
              (try dsimp only at hSw)
              go_simp
              try (with_reducible rfl)
            try simp only [Act.put, List.setIfInBounds_toArray, List.set_cons_zero, List.set_cons_succ]
            refine wpAnyH_take (i := 9) (oi := { dst := some 43, op := Go.Op.binOp Go.BinOp.lss 3 (Go.Operand.tmp 42) (Go.Operand.const (Go.Value.int Go.IntKind.i64 0)) 3, type := 4, pos := "ref.go:75", after := #[{ on := 8, ground := Go.Ground.data }, { on := 7, ground := Go.Ground.guard }], guard := some (7, true) }) (v := ?_) rfl (by kernel_rfl) (by kernel_rfl) (by kernel_rfl) (fun _ _ _ h => h) (Or.inl ⟨by rfl, ?_⟩) (by assumption) ?_
            rotate_left
            · intro w hSw
              (try dsimp only at hSw)
              go_simp
              try (with_reducible rfl)
            try simp only [Act.put, List.setIfInBounds_toArray, List.set_cons_zero, List.set_cons_succ]
            refine wpAnyH_take (i := 10) (oi := { dst := some 44, op := Go.Op.move (Go.Operand.tmp 43), type := 4, pos := "ref.go:75", after := #[{ on := 9, ground := Go.Ground.data }, { on := 7, ground := Go.Ground.chain }, { on := 7, ground := Go.Ground.guard }], guard := some (7, true) }) (v := ?_) rfl (by kernel_rfl) (by kernel_rfl) (by kernel_rfl) (fun _ _ _ h => h) (Or.inl ⟨by rfl, ?_⟩) (by assumption) ?_
            rotate_left
            · intro w hSw
              (try dsimp only at hSw)
              go_simp
              try (with_reducible rfl)
            try simp only [Act.put, List.setIfInBounds_toArray, List.set_cons_zero, List.set_cons_succ]
            refine wpAnyH_take (i := 11) (oi := { dst := some 45, op := Go.Op.move (Go.Operand.tmp 6), type := 55, pos := "ref.go:75", after := #[{ on := 10, ground := Go.Ground.guard }], guard := some (10, false) }) (v := ?_) rfl (by kernel_rfl) (by kernel_rfl) (by kernel_rfl) (fun _ _ _ h => h) (Or.inl ⟨by rfl, ?_⟩) (by assumption) ?_
            rotate_left
            · intro w hSw
              (try dsimp only at hSw)
              go_simp
              try (with_reducible rfl)
            try simp only [Act.put, List.setIfInBounds_toArray, List.set_cons_zero, List.set_cons_succ]
            refine wpAnyH_take (i := 12) (oi := { dst := some 46, op := Go.Op.move (Go.Operand.tmp 8), type := 3, pos := "ref.go:75", after := #[{ on := 10, ground := Go.Ground.guard }], guard := some (10, false) }) (v := ?_) rfl (by kernel_rfl) (by kernel_rfl) (by kernel_rfl) (fun _ _ _ h => h) (Or.inl ⟨by rfl, ?_⟩) (by assumption) ?_
            rotate_left
            · intro w hSw
              (try dsimp only at hSw)
              go_simp
              try (with_reducible rfl)
            try simp only [Act.put, List.setIfInBounds_toArray, List.set_cons_zero, List.set_cons_succ]
            refine wpAnyH_take (i := 13) (oi := { dst := some 47, op := Go.Op.indexAddr 55 (Go.Operand.tmp 45) (Go.Operand.tmp 46), type := 0, pos := "ref.go:75", after := #[{ on := 11, ground := Go.Ground.data }, { on := 12, ground := Go.Ground.data }, { on := 10, ground := Go.Ground.guard }], guard := some (10, false) }) (v := ?_) rfl (by kernel_rfl) (by kernel_rfl) (by kernel_rfl) (fun _ _ _ h => h) (Or.inl ⟨by rfl, ?_⟩) (by assumption) ?_
            rotate_left
            · intro w hSw
              (try dsimp only at hSw)
              go_simp
              try (with_reducible rfl)
            try simp only [Act.put, List.setIfInBounds_toArray, List.set_cons_zero, List.set_cons_succ]
            refine wpAnyH_take (i := 14) (oi := { dst := some 48, op := Go.Op.fieldAddr 59 (Go.Operand.tmp 47) 1, type := 0, pos := "ref.go:75", after := #[{ on := 13, ground := Go.Ground.data }, { on := 10, ground := Go.Ground.guard }], guard := some (10, false) }) (v := ?_) rfl (by kernel_rfl) (by kernel_rfl) (by kernel_rfl) (fun _ _ _ h => h) (Or.inl ⟨by rfl, ?_⟩) (by assumption) ?_
            rotate_left
            · intro w hSw
              (try dsimp only at hSw)
              go_simp
              try (with_reducible rfl)
            try simp only [Act.put, List.setIfInBounds_toArray, List.set_cons_zero, List.set_cons_succ]
            refine wpAnyH_take (i := 15) (oi := { dst := some 49, op := Go.Op.load 3 (Go.Operand.tmp 48), type := 3, pos := "ref.go:75", after := #[{ on := 14, ground := Go.Ground.data }, { on := 10, ground := Go.Ground.guard }], guard := some (10, false) }) (v := ?_) rfl (by kernel_rfl) (by kernel_rfl) (by kernel_rfl) (fun _ _ _ h => h) (Or.inl ⟨by rfl, ?_⟩) (by assumption) ?_
            rotate_left
            · intro w hSw
              (try dsimp only at hSw)
              go_simp
              try (with_reducible rfl)
            try simp only [Act.put, List.setIfInBounds_toArray, List.set_cons_zero, List.set_cons_succ]
            refine wpAnyH_take (i := 16) (oi := { dst := some 50, op := Go.Op.move (Go.Operand.tmp 6), type := 55, pos := "ref.go:75", after := #[{ on := 10, ground := Go.Ground.guard }], guard := some (10, false) }) (v := ?_) rfl (by kernel_rfl) (by kernel_rfl) (by kernel_rfl) (fun _ _ _ h => h) (Or.inl ⟨by rfl, ?_⟩) (by assumption) ?_
            rotate_left
            · intro w hSw
              (try dsimp only at hSw)
              go_simp
              try (with_reducible rfl)
            try simp only [Act.put, List.setIfInBounds_toArray, List.set_cons_zero, List.set_cons_succ]
            refine wpAnyH_take (i := 17) (oi := { dst := some 51, op := Go.Op.move (Go.Operand.tmp 7), type := 3, pos := "ref.go:75", after := #[{ on := 10, ground := Go.Ground.guard }], guard := some (10, false) }) (v := ?_) rfl (by kernel_rfl) (by kernel_rfl) (by kernel_rfl) (fun _ _ _ h => h) (Or.inl ⟨by rfl, ?_⟩) (by assumption) ?_
            rotate_left
            · intro w hSw
              (try dsimp only at hSw)
              go_simp
              try (with_reducible rfl)
            try simp only [Act.put, List.setIfInBounds_toArray, List.set_cons_zero, List.set_cons_succ]
            refine wpAnyH_take (i := 18) (oi := { dst := some 52, op := Go.Op.indexAddr 55 (Go.Operand.tmp 50) (Go.Operand.tmp 51), type := 0, pos := "ref.go:75", after := #[{ on := 16, ground := Go.Ground.data }, { on := 17, ground := Go.Ground.data }, { on := 10, ground := Go.Ground.guard }], guard := some (10, false) }) (v := ?_) rfl (by kernel_rfl) (by kernel_rfl) (by kernel_rfl) (fun _ _ _ h => h) (Or.inl ⟨by rfl, ?_⟩) (by assumption) ?_
            rotate_left
            · intro w hSw
              (try dsimp only at hSw)
              go_simp
              try (with_reducible rfl)
            try simp only [Act.put, List.setIfInBounds_toArray, List.set_cons_zero, List.set_cons_succ]
            refine wpAnyH_take (i := 19) (oi := { dst := some 53, op := Go.Op.fieldAddr 59 (Go.Operand.tmp 52) 1, type := 0, pos := "ref.go:75", after := #[{ on := 18, ground := Go.Ground.data }, { on := 10, ground := Go.Ground.guard }], guard := some (10, false) }) (v := ?_) rfl (by kernel_rfl) (by kernel_rfl) (by kernel_rfl) (fun _ _ _ h => h) (Or.inl ⟨by rfl, ?_⟩) (by assumption) ?_
            rotate_left
            · intro w hSw
              (try dsimp only at hSw)
              go_simp
              try (with_reducible rfl)
            try simp only [Act.put, List.setIfInBounds_toArray, List.set_cons_zero, List.set_cons_succ]
            refine wpAnyH_take (i := 20) (oi := { dst := some 54, op := Go.Op.load 3 (Go.Operand.tmp 53), type := 3, pos := "ref.go:75", after := #[{ on := 19, ground := Go.Ground.data }, { on := 10, ground := Go.Ground.guard }], guard := some (10, false) }) (v := ?_) rfl (by kernel_rfl) (by kernel_rfl) (by kernel_rfl) (fun _ _ _ h => h) (Or.inl ⟨by rfl, ?_⟩) (by assumption) ?_
            rotate_left
            · intro w hSw
              (try dsimp only at hSw)
              go_simp
              try (with_reducible rfl)
            try simp only [Act.put, List.setIfInBounds_toArray, List.set_cons_zero, List.set_cons_succ]
            refine wpAnyH_take (i := 21) (oi := { dst := some 55, op := Go.Op.binOp Go.BinOp.lss 3 (Go.Operand.tmp 49) (Go.Operand.tmp 54) 3, type := 4, pos := "ref.go:75", after := #[{ on := 15, ground := Go.Ground.data }, { on := 20, ground := Go.Ground.data }, { on := 10, ground := Go.Ground.guard }], guard := some (10, false) }) (v := ?_) rfl (by kernel_rfl) (by kernel_rfl) (by kernel_rfl) (fun _ _ _ h => h) (Or.inl ⟨by rfl, ?_⟩) (by assumption) ?_
            rotate_left
            · intro w hSw
              (try dsimp only at hSw)
              go_simp
              try (with_reducible rfl)
            try simp only [Act.put, List.setIfInBounds_toArray, List.set_cons_zero, List.set_cons_succ]
            refine wpAnyH_take (i := 22) (oi := { dst := some 56, op := Go.Op.pick (Go.Operand.tmp 44) (Go.Operand.const (Go.Value.bool true)) (Go.Operand.tmp 55), type := 4, pos := "ref.go:75", after := #[{ on := 10, ground := Go.Ground.data }, { on := 21, ground := Go.Ground.data }, { on := 7, ground := Go.Ground.guard }], guard := some (7, true) }) (v := ?_) rfl (by kernel_rfl) (by kernel_rfl) (by kernel_rfl) (fun _ _ _ h => h) (Or.inl ⟨by rfl, ?_⟩) (by assumption) ?_
            rotate_left
            · intro w hSw
              (try dsimp only at hSw)
              go_simp
              try (with_reducible rfl)
            try simp only [Act.put, List.setIfInBounds_toArray, List.set_cons_zero, List.set_cons_succ]
            refine wpAnyH_take (i := 23) (oi := { dst := some 57, op := Go.Op.pick (Go.Operand.tmp 41) (Go.Operand.tmp 56) (Go.Operand.const (Go.Value.bool false)), type := 4, pos := "ref.go:75", after := #[{ on := 7, ground := Go.Ground.data }, { on := 22, ground := Go.Ground.data }], guard := none }) (v := ?_) rfl (by kernel_rfl) (by kernel_rfl) (by kernel_rfl) (fun _ _ _ h => h) (Or.inl ⟨by rfl, ?_⟩) (by assumption) ?_
            rotate_left
            · intro w hSw
              (try dsimp only at hSw)
              go_simp
              try (with_reducible rfl)
            try simp only [Act.put, List.setIfInBounds_toArray, List.set_cons_zero, List.set_cons_succ]
            refine wpAnyH_done (by kernel_rfl) ?_ _
            go_wp2
            go_roundw
            case rel => exact ⟨j + 1, (b : Int), some q, by go_num, rfl, hlt, HN2, Lib.hid (.inr ⟨b, q, rfl, HQ1.out, rfl, HQ2.out⟩), Lib.hid hW.out.drew⟩
            case measure => simp [intOf]; omega
      · have d1 : decide ((o : Int) ≤ xo) = false := by have := HXO.out; simp; omega
        have HN2 : Hid (bst o g (l.drop (j + 1)) = bst o none l) := Lib.hid (by
          rw [← hH.out, HDr.out]
          cases g with
          | none => rw [bst_cons_none, if_neg hle]
          | some q => rw [bst_cons_some, if_neg (fun h => hle h.1)])
        have HC := Lib.hid p2
        clear hle
        go_wp2
        refine wp_region_held_drew (S := (fun W => W.cell? ⟨b1, o1' + j * 2 + 1, none⟩ = some (.int .i64 xo))) (by kernel_rfl) ?_ (fun hHeld => ?_)
        · (exact HC.out)
        refine wpAnyH_take (i := 0) (oi := { dst := some 34, op := Go.Op.move (Go.Operand.tmp 6), type := 55, pos := "ref.go:75", after := #[], guard := none }) (v := ?_) rfl (by kernel_rfl) (by kernel_rfl) (by kernel_rfl) (fun _ _ _ h => h) (Or.inl ⟨by rfl, ?_⟩) (by assumption) ?_
        rotate_left
        · intro w hSw
          (try dsimp only at hSw)
          go_simp
          try (with_reducible rfl)
        try simp only [Act.put, List.setIfInBounds_toArray, List.set_cons_zero, List.set_cons_succ]
        refine wpAnyH_take (i := 1) (oi := { dst := some 35, op := Go.Op.move (Go.Operand.tmp 8), type := 3, pos := "ref.go:75", after := #[], guard := none }) (v := ?_) rfl (by kernel_rfl) (by kernel_rfl) (by kernel_rfl) (fun _ _ _ h => h) (Or.inl ⟨by rfl, ?_⟩) (by assumption) ?_
        rotate_left
        · intro w hSw
          (try dsimp only at hSw)
          go_simp
          try (with_reducible rfl)
        try simp only [Act.put, List.setIfInBounds_toArray, List.set_cons_zero, List.set_cons_succ]
        refine wpAnyH_take (i := 2) (oi := { dst := some 36, op := Go.Op.indexAddr 55 (Go.Operand.tmp 34) (Go.Operand.tmp 35), type := 0, pos := "ref.go:75", after := #[{ on := 0, ground := Go.Ground.data }, { on := 1, ground := Go.Ground.data }], guard := none }) (v := ?_) rfl (by kernel_rfl) (by kernel_rfl) (by kernel_rfl) (fun _ _ _ h => h) (Or.inl ⟨by rfl, ?_⟩) (by assumption) ?_
        rotate_left
        · intro w hSw
          (try dsimp only at hSw)
          go_simp
          try (with_reducible rfl)
        try simp only [Act.put, List.setIfInBounds_toArray, List.set_cons_zero, List.set_cons_succ]
        refine wpAnyH_take (i := 3) (oi := { dst := some 37, op := Go.Op.fieldAddr 59 (Go.Operand.tmp 36) 1, type := 0, pos := "ref.go:75", after := #[{ on := 2, ground := Go.Ground.data }], guard := none }) (v := ?_) rfl (by kernel_rfl) (by kernel_rfl) (by kernel_rfl) (fun _ _ _ h => h) (Or.inl ⟨by rfl, ?_⟩) (by assumption) ?_
        rotate_left
        · intro w hSw
          (try dsimp only at hSw)
          go_simp
          try (with_reducible rfl)
        try simp only [Act.put, List.setIfInBounds_toArray, List.set_cons_zero, List.set_cons_succ]
        refine wpAnyH_take (i := 4) (oi := { dst := some 38, op := Go.Op.load 3 (Go.Operand.tmp 37), type := 3, pos := "ref.go:75", after := #[{ on := 3, ground := Go.Ground.data }], guard := none }) (v := ?_) rfl (by kernel_rfl) (by kernel_rfl) (by kernel_rfl) (fun _ _ _ h => h) (Or.inl ⟨by rfl, ?_⟩) (by assumption) ?_
        rotate_left
        · intro w hSw
          (try dsimp only at hSw)
          go_simp
          try (with_reducible rfl)
        try simp only [Act.put, List.setIfInBounds_toArray, List.set_cons_zero, List.set_cons_succ]
        refine wpAnyH_take (i := 5) (oi := { dst := some 39, op := Go.Op.move (Go.Operand.tmp 1), type := 3, pos := "ref.go:75", after := #[], guard := none }) (v := ?_) rfl (by kernel_rfl) (by kernel_rfl) (by kernel_rfl) (fun _ _ _ h => h) (Or.inl ⟨by rfl, ?_⟩) (by assumption) ?_
        rotate_left
        · intro w hSw
          (try dsimp only at hSw)
          go_simp
          try (with_reducible rfl)
        try simp only [Act.put, List.setIfInBounds_toArray, List.set_cons_zero, List.set_cons_succ]
        refine wpAnyH_take (i := 6) (oi := { dst := some 40, op := Go.Op.binOp Go.BinOp.geq 3 (Go.Operand.tmp 38) (Go.Operand.tmp 39) 3, type := 4, pos := "ref.go:75", after := #[{ on := 4, ground := Go.Ground.data }, { on := 5, ground := Go.Ground.data }], guard := none }) (v := ?_) rfl (by kernel_rfl) (by kernel_rfl) (by kernel_rfl) (fun _ _ _ h => h) (Or.inl ⟨by rfl, ?_⟩) (by assumption) ?_
        rotate_left
        · intro w hSw
          (try dsimp only at hSw)
          go_simp
          try (with_reducible rfl)
        try simp only [Act.put, List.setIfInBounds_toArray, List.set_cons_zero, List.set_cons_succ]
        refine wpAnyH_take (i := 7) (oi := { dst := some 41, op := Go.Op.move (Go.Operand.tmp 40), type := 4, pos := "ref.go:75", after := #[{ on := 6, ground := Go.Ground.data }], guard := none }) (v := ?_) rfl (by kernel_rfl) (by kernel_rfl) (by kernel_rfl) (fun _ _ _ h => h) (Or.inl ⟨by rfl, ?_⟩) (by assumption) ?_
        rotate_left
        · intro w hSw
          (try dsimp only at hSw)
          go_simp
          try (with_reducible rfl)
        try simp only [Act.put, List.setIfInBounds_toArray, List.set_cons_zero, List.set_cons_succ]
        refine wpAnyH_take (i := 8) (oi := { dst := some 42, op := Go.Op.move (Go.Operand.tmp 7), type := 3, pos := "ref.go:75", after := #[{ on := 7, ground := Go.Ground.guard }], guard := some (7, true) }) (v := undef) rfl (by kernel_rfl) (by kernel_rfl) (by kernel_rfl) (fun _ _ _ h => h) (Or.inr ⟨by rfl, rfl⟩) (by assumption) ?_
        try simp only [Act.put, List.setIfInBounds_toArray, List.set_cons_zero, List.set_cons_succ]
        refine wpAnyH_take (i := 9) (oi := { dst := some 43, op := Go.Op.binOp Go.BinOp.lss 3 (Go.Operand.tmp 42) (Go.Operand.const (Go.Value.int Go.IntKind.i64 0)) 3, type := 4, pos := "ref.go:75", after := #[{ on := 8, ground := Go.Ground.data }, { on := 7, ground := Go.Ground.guard }], guard := some (7, true) }) (v := undef) rfl (by kernel_rfl) (by kernel_rfl) (by kernel_rfl) (fun _ _ _ h => h) (Or.inr ⟨by rfl, rfl⟩) (by assumption) ?_
        try simp only [Act.put, List.setIfInBounds_toArray, List.set_cons_zero, List.set_cons_succ]
        refine wpAnyH_take (i := 10) (oi := { dst := some 44, op := Go.Op.move (Go.Operand.tmp 43), type := 4, pos := "ref.go:75", after := #[{ on := 9, ground := Go.Ground.data }, { on := 7, ground := Go.Ground.chain }, { on := 7, ground := Go.Ground.guard }], guard := some (7, true) }) (v := undef) rfl (by kernel_rfl) (by kernel_rfl) (by kernel_rfl) (fun _ _ _ h => h) (Or.inr ⟨by rfl, rfl⟩) (by assumption) ?_
        try simp only [Act.put, List.setIfInBounds_toArray, List.set_cons_zero, List.set_cons_succ]
        refine wpAnyH_take (i := 11) (oi := { dst := some 45, op := Go.Op.move (Go.Operand.tmp 6), type := 55, pos := "ref.go:75", after := #[{ on := 10, ground := Go.Ground.guard }], guard := some (10, false) }) (v := undef) rfl (by kernel_rfl) (by kernel_rfl) (by kernel_rfl) (fun _ _ _ h => h) (Or.inr ⟨by rfl, rfl⟩) (by assumption) ?_
        try simp only [Act.put, List.setIfInBounds_toArray, List.set_cons_zero, List.set_cons_succ]
        refine wpAnyH_take (i := 12) (oi := { dst := some 46, op := Go.Op.move (Go.Operand.tmp 8), type := 3, pos := "ref.go:75", after := #[{ on := 10, ground := Go.Ground.guard }], guard := some (10, false) }) (v := undef) rfl (by kernel_rfl) (by kernel_rfl) (by kernel_rfl) (fun _ _ _ h => h) (Or.inr ⟨by rfl, rfl⟩) (by assumption) ?_
        try simp only [Act.put, List.setIfInBounds_toArray, List.set_cons_zero, List.set_cons_succ]
        refine wpAnyH_take (i := 13) (oi := { dst := some 47, op := Go.Op.indexAddr 55 (Go.Operand.tmp 45) (Go.Operand.tmp 46), type := 0, pos := "ref.go:75", after := #[{ on := 11, ground := Go.Ground.data }, { on := 12, ground := Go.Ground.data }, { on := 10, ground := Go.Ground.guard }], guard := some (10, false) }) (v := undef) rfl (by kernel_rfl) (by kernel_rfl) (by kernel_rfl) (fun _ _ _ h => h) (Or.inr ⟨by rfl, rfl⟩) (by assumption) ?_
        try simp only [Act.put, List.setIfInBounds_toArray, List.set_cons_zero, List.set_cons_succ]
        refine wpAnyH_take (i := 14) (oi := { dst := some 48, op := Go.Op.fieldAddr 59 (Go.Operand.tmp 47) 1, type := 0, pos := "ref.go:75", after := #[{ on := 13, ground := Go.Ground.data }, { on := 10, ground := Go.Ground.guard }], guard := some (10, false) }) (v := undef) rfl (by kernel_rfl) (by kernel_rfl) (by kernel_rfl) (fun _ _ _ h => h) (Or.inr ⟨by rfl, rfl⟩) (by assumption) ?_
        try simp only [Act.put, List.setIfInBounds_toArray, List.set_cons_zero, List.set_cons_succ]
        refine wpAnyH_take (i := 15) (oi := { dst := some 49, op := Go.Op.load 3 (Go.Operand.tmp 48), type := 3, pos := "ref.go:75", after := #[{ on := 14, ground := Go.Ground.data }, { on := 10, ground := Go.Ground.guard }], guard := some (10, false) }) (v := undef) rfl (by kernel_rfl) (by kernel_rfl) (by kernel_rfl) (fun _ _ _ h => h) (Or.inr ⟨by rfl, rfl⟩) (by assumption) ?_
        try simp only [Act.put, List.setIfInBounds_toArray, List.set_cons_zero, List.set_cons_succ]
        refine wpAnyH_take (i := 16) (oi := { dst := some 50, op := Go.Op.move (Go.Operand.tmp 6), type := 55, pos := "ref.go:75", after := #[{ on := 10, ground := Go.Ground.guard }], guard := some (10, false) }) (v := undef) rfl (by kernel_rfl) (by kernel_rfl) (by kernel_rfl) (fun _ _ _ h => h) (Or.inr ⟨by rfl, rfl⟩) (by assumption) ?_
        try simp only [Act.put, List.setIfInBounds_toArray, List.set_cons_zero, List.set_cons_succ]
        refine wpAnyH_take (i := 17) (oi := { dst := some 51, op := Go.Op.move (Go.Operand.tmp 7), type := 3, pos := "ref.go:75", after := #[{ on := 10, ground := Go.Ground.guard }], guard := some (10, false) }) (v := undef) rfl (by kernel_rfl) (by kernel_rfl) (by kernel_rfl) (fun _ _ _ h => h) (Or.inr ⟨by rfl, rfl⟩) (by assumption) ?_
        try simp only [Act.put, List.setIfInBounds_toArray, List.set_cons_zero, List.set_cons_succ]
        refine wpAnyH_take (i := 18) (oi := { dst := some 52, op := Go.Op.indexAddr 55 (Go.Operand.tmp 50) (Go.Operand.tmp 51), type := 0, pos := "ref.go:75", after := #[{ on := 16, ground := Go.Ground.data }, { on := 17, ground := Go.Ground.data }, { on := 10, ground := Go.Ground.guard }], guard := some (10, false) }) (v := undef) rfl (by kernel_rfl) (by kernel_rfl) (by kernel_rfl) (fun _ _ _ h => h) (Or.inr ⟨by rfl, rfl⟩) (by assumption) ?_
        try simp only [Act.put, List.setIfInBounds_toArray, List.set_cons_zero, List.set_cons_succ]
        refine wpAnyH_take (i := 19) (oi := { dst := some 53, op := Go.Op.fieldAddr 59 (Go.Operand.tmp 52) 1, type := 0, pos := "ref.go:75", after := #[{ on := 18, ground := Go.Ground.data }, { on := 10, ground := Go.Ground.guard }], guard := some (10, false) }) (v := undef) rfl (by kernel_rfl) (by kernel_rfl) (by kernel_rfl) (fun _ _ _ h => h) (Or.inr ⟨by rfl, rfl⟩) (by assumption) ?_
        try simp only [Act.put, List.setIfInBounds_toArray, List.set_cons_zero, List.set_cons_succ]
        refine wpAnyH_take (i := 20) (oi := { dst := some 54, op := Go.Op.load 3 (Go.Operand.tmp 53), type := 3, pos := "ref.go:75", after := #[{ on := 19, ground := Go.Ground.data }, { on := 10, ground := Go.Ground.guard }], guard := some (10, false) }) (v := undef) rfl (by kernel_rfl) (by kernel_rfl) (by kernel_rfl) (fun _ _ _ h => h) (Or.inr ⟨by rfl, rfl⟩) (by assumption) ?_
        try simp only [Act.put, List.setIfInBounds_toArray, List.set_cons_zero, List.set_cons_succ]
        refine wpAnyH_take (i := 21) (oi := { dst := some 55, op := Go.Op.binOp Go.BinOp.lss 3 (Go.Operand.tmp 49) (Go.Operand.tmp 54) 3, type := 4, pos := "ref.go:75", after := #[{ on := 15, ground := Go.Ground.data }, { on := 20, ground := Go.Ground.data }, { on := 10, ground := Go.Ground.guard }], guard := some (10, false) }) (v := undef) rfl (by kernel_rfl) (by kernel_rfl) (by kernel_rfl) (fun _ _ _ h => h) (Or.inr ⟨by rfl, rfl⟩) (by assumption) ?_
        try simp only [Act.put, List.setIfInBounds_toArray, List.set_cons_zero, List.set_cons_succ]
        refine wpAnyH_take (i := 22) (oi := { dst := some 56, op := Go.Op.pick (Go.Operand.tmp 44) (Go.Operand.const (Go.Value.bool true)) (Go.Operand.tmp 55), type := 4, pos := "ref.go:75", after := #[{ on := 10, ground := Go.Ground.data }, { on := 21, ground := Go.Ground.data }, { on := 7, ground := Go.Ground.guard }], guard := some (7, true) }) (v := undef) rfl (by kernel_rfl) (by kernel_rfl) (by kernel_rfl) (fun _ _ _ h => h) (Or.inr ⟨by rfl, rfl⟩) (by assumption) ?_
        try simp only [Act.put, List.setIfInBounds_toArray, List.set_cons_zero, List.set_cons_succ]
        refine wpAnyH_take (i := 23) (oi := { dst := some 57, op := Go.Op.pick (Go.Operand.tmp 41) (Go.Operand.tmp 56) (Go.Operand.const (Go.Value.bool false)), type := 4, pos := "ref.go:75", after := #[{ on := 7, ground := Go.Ground.data }, { on := 22, ground := Go.Ground.data }], guard := none }) (v := ?_) rfl (by kernel_rfl) (by kernel_rfl) (by kernel_rfl) (fun _ _ _ h => h) (Or.inl ⟨by rfl, ?_⟩) (by assumption) ?_
        rotate_left
        · intro w hSw
          (try dsimp only at hSw)
          go_simp
          try (with_reducible rfl)
        try simp only [Act.put, List.setIfInBounds_toArray, List.set_cons_zero, List.set_cons_succ]
        refine wpAnyH_done (by kernel_rfl) ?_ _
        go_wp2
        go_roundw
        case rel => exact ⟨j + 1, bi, g, by go_num, rfl, hlt, HN2, hG, Lib.hid hW.out.drew⟩
        case measure => simp [intOf]; omega
    · have hR : bst o none l = g := by
        rw [← hH.out, List.drop_eq_nil_of_le (by rw [HLm.out]; omega)]
        cases g <;> rfl
      have hjI : ¬ (j : Int) < (m : Int) := by omega
      have B0 := HBl.out.trans (hW.out.mono HBl.out.size)
      rcases hG.out with ⟨rfl, rfl⟩ | ⟨b, q, rfl, hq1, rfl, hq2⟩
      · have hts : tkS O L o = none := by rw [HTS.out, hR]; rfl
        have HE := Lib.hid (tkF_full ho hts)
        clear hR hts B0
        go_wp2
        exact bodyPost_ret (v := .tuple #[.int .i64 0, .int .i64 90]) (by simp [results, Tryd.results16, go_sem]) rfl (by
          rw [HE.out]
          exact ⟨rfl, HAr.out.below (HBl.out.trans (hW.out.mono HBl.out.size)), gb_below (HBl.out.trans (hW.out.mono HBl.out.size)) _⟩)
      · have hts : tkS O L o = some (q.1, ins q.1 o L) := by rw [HTS.out, hR]; rfl
        have HE := Lib.hid (tkF_ok ho hts)
        have HB2 := Lib.hid (HB.out.below B0 HB.out.lt)
        have HR2 := Lib.hid (HRB.out.below B0)
        have HB0 := Lib.hid B0
        have hbm : b < m := by rw [← HLm.out]; exact (List.getElem?_eq_some_iff.1 hq1).1
        obtain ⟨gb, ob, e1, hgb, hcb⟩ := (HR.out.below hW.out).2 (by omega)
        subst e1
        have p3 := (hcb b q hq1).1
        have hqb := HP.out q (List.mem_of_getElem? hq1)
        obtain ⟨q1, q2⟩ := q
        simp only at hqb p3
        have hbI : (b : Int) < (m : Int) := by omega
        have hb0 : ¬ (b : Int) < 0 := by omega
        have hb00 : (0 : Int) ≤ (b : Int) := by omega
        obtain ⟨wa, hwa⟩ : ∃ x, x = wr := ⟨_, rfl⟩
        subst hwa
        have hDa : D ≤ wa.heap.size := by have := HB0.out.size; have := HD.out; omega
        have HDA := Lib.hid hDa
        clear hcb hq1 hR hts B0 hgb hDa hbm hq2
        rcases HCS.out.2.2 with ⟨rfl, rfl, rfl⟩ | ⟨g, rfl, hgD, hgl, hgr⟩
        · obtain rfl : L = [] := List.eq_nil_of_length_eq_zero HRB.out.1
          have HIns : Hid (ins q1 o [] = [] ++ [(q1, o)] ++ []) := Lib.hid (by simp [ins])
          have f1 := (HB2.out.cell 1).trans (show _ = some (Value.slice none 0 0) by rfl)
          have hn0 : ¬ (0 : Int) < ((0 : Nat) : Int) := by omega
          go_wp2
          go_loop [10] (fun kv => kv = .int .i64 0) (fun kv => 1 - (intOf kv).toNat)
          case atStart => rfl
          case round =>
            subst hrel
            have HW0 : Hid (wa.ownsRow wa.heap.size 59 2 (.slice none 0 0) 0 (bcells [])) := Lib.hid ⟨rfl, .inl ⟨rfl, rfl⟩⟩
            have tok1 : True := trivial
            have tok2 : True := trivial
            have tok3 : True := trivial
            have HLN : Hid (([] ++ [] ++ [(q1, o)] ++ [] : List Bl).length = 0 + 0 + 1 + 0) := Lib.hid (by rfl)
            go_wp2_with (first
              | (at_builtin; have _t := tok1; refine wpList_appb _ rfl (.tmp 87) (.tmp 93) rfl wa.heap.size (.slice none 0 0) [] 0 rfl HW0.out none 0 0 ([]) rfl (fun _ => rfl) ⟨rfl, fun h => absurd h (by omega)⟩ (by omega) (Nat.le_refl _) ?_; intro v6 w6 hown6 hg6; have O6 := Lib.hid hown6; have B6 := Lib.hid ((Below.refl wa.heap.size wa).grown hg6 (Nat.le_refl _) (fun j hj => by cases hj)); have g1 := (B6.out.cell (p := ⟨rd, 1, none⟩) HB2.out.lt).trans f1; clear hown6 hg6 tok1)
              | (at_builtin; have _t := tok2; refine wpList_appb _ rfl (.tmp 95) (.tmp 99) rfl wa.heap.size v6 ([] ++ []) (0 + 0) rfl (O6.out.alloc _) (some ⟨w6.heap.size, 0, none⟩) 1 1 [(q1, o)] rfl (fun h => by cases h) (rbk_new w6 q1 o) (by omega) (by have := B6.out.size; simp; omega) ?_; intro v7 w7 hown7 hg7; have O7 := Lib.hid hown7; have B7 := Lib.hid ((B6.out.alloc B6.out.size _).grown hg7 (by have := B6.out.size; simp; omega) (fun j hj => own_basek O6.out j hj)); have k1 := (B7.out.cell (p := ⟨rd, 1, none⟩) HB2.out.lt).trans f1; have HR7 := Lib.hid (HR2.out.below B7.out); clear hown7 hg7 tok2)
              | (at_builtin; have _t := tok3; refine wpList_appb _ rfl (.tmp 101) (.tmp 107) rfl wa.heap.size v7 ([] ++ [] ++ [(q1, o)]) (0 + 0 + 1) rfl O7.out none 0 0 ([]) rfl (fun _ => rfl) ⟨rfl, fun h => absurd h (by omega)⟩ (by omega) B7.out.size ?_; intro v8 w8 hown8 hg8; have O8 := Lib.hid hown8; have B8 := Lib.hid (B7.out.grown hg8 B7.out.size (fun j hj => own_basek O7.out j hj)); have m1 := (B8.out.cell (p := ⟨rd, 1, none⟩) HB2.out.lt).trans f1; have mf := (HB2.out.below B8.out HB2.out.lt).frozen 1; obtain ⟨A9, c9, e9, hr9, hc9, hs9⟩ := own_rbk2 HLN.out hown8; subst e9; have HR9 := Lib.hid (And.intro hr9 (And.intro hc9 hs9)); clear hown8 hg8 hr9 hc9 hs9 tok3))
            exact bodyPost_ret (v := .tuple #[.int .i64 (q1 : Int), .int .i64 0]) (by simp [results, Tryd.results16, go_sem]) rfl (by
              rw [HE.out]
              have h9 := HR9.out
              simp only [Nat.zero_add, Nat.add_zero, List.nil_append, List.append_nil] at h9
              exact ⟨rfl, take_done HD.out HCS.out.2.1 HB0.out HB2.out B8.out (by rw [HIns.out] <;> simp) h9.1 h9.2.1 h9.2.2, ((gb_below HB0.out _).trans (gb_below B8.out _)).trans (gb_set _ _ _ _)⟩)
        · have hRl := HRB.out.1
          have HGD := Lib.hid (And.intro hgD (And.intro hgl hgr))
          have f1 := (HB2.out.cell 1).trans (show _ = some (Value.slice (some ⟨g, 0, none⟩) n c) by rfl)
          have hnc := HCS.out.1
          have hn7 : n ≤ 70000 := by rw [← hRl]; exact HSm.out.1
          have HF1 := Lib.hid f1
          clear hgD hgl hgr
          go_wp2
          go_loop [10] (fun kv => ∃ k : Nat, kv = .int .i64 (k : Int) ∧ k ≤ n ∧ Hid (L.takeWhile (fun b => decide (b.1 < q1)) = L.take k ++ (L.drop k).takeWhile (fun b => decide (b.1 < q1)) ∧ L.dropWhile (fun b => decide (b.1 < q1)) = (L.drop k).dropWhile (fun b => decide (b.1 < q1)))) (fun kv => n - (intOf kv).toNat)
          case atStart => exact ⟨0, rfl, Nat.zero_le _, Lib.hid (by simp)⟩
          case round =>
            obtain ⟨k, rfl, hk, hT⟩ := hrel
            have j3 : IntKind.i64.wrap ((k : Int) + 1) = (k : Int) + 1 := by rw [IntKind.wrap_i64]; omega
            by_cases hlt : k < n
            · obtain ⟨g', o', e1, hg', hcg⟩ := HR2.out.2 (by omega)
              injection e1 with e1
              injection e1 with e2 e3 e4
              subst e2 e3
              obtain ⟨x, hx⟩ : ∃ x, L[k]? = some x := ⟨_, List.getElem?_eq_getElem (by rw [hRl]; exact hlt)⟩
              obtain ⟨c1, -⟩ := hcg k x hx
              rw [Nat.zero_add] at c1
              have hdr : L.drop k = x :: L.drop (k + 1) := by
                obtain ⟨h1, h2⟩ := List.getElem?_eq_some_iff.1 hx
                rw [List.drop_eq_getElem_cons h1, h2]
              have htk : L.take (k + 1) = L.take k ++ [x] := by rw [List.take_add_one, hx]; rfl
              have hkI : (k : Int) < (n : Int) := by omega
              have hk0 : (0 : Int) ≤ (k : Int) := by omega
              by_cases hxp : x.1 < q1
              · have HT2 : Hid (L.takeWhile (fun b => decide (b.1 < q1)) = L.take (k + 1) ++ (L.drop (k + 1)).takeWhile (fun b => decide (b.1 < q1)) ∧ L.dropWhile (fun b => decide (b.1 < q1)) = (L.drop (k + 1)).dropWhile (fun b => decide (b.1 < q1))) := Lib.hid (by
                  refine ⟨?_, ?_⟩
                  · rw [hT.out.1, hdr, List.takeWhile_cons_of_pos (by simpa using hxp), htk]; simp
                  · rw [hT.out.2, hdr, List.dropWhile_cons_of_pos (by simpa using hxp)])
                have hxI : (x.1 : Int) < (q1 : Int) := by omega
                clear hcg hx hdr htk hxp hg' e4
                go_wp2
                go_round
                case rel => exact ⟨k + 1, by go_num, hlt, HT2⟩
                case measure => simp [intOf]; omega
              · have HIns : Hid (ins q1 o L = L.take k ++ [(q1, o)] ++ L.drop k) := Lib.hid (by
                  unfold ins
                  rw [hT.out.1, hT.out.2, hdr, List.takeWhile_cons_of_neg (by simpa using hxp), List.dropWhile_cons_of_neg (by simpa using hxp)]
                  simp)
                have hxI : ¬ (x.1 : Int) < (q1 : Int) := by omega
                clear hcg hx hdr htk hxp hg' e4 hT
                have HW0 : Hid (wa.ownsRow wa.heap.size 59 2 (.slice none 0 0) 0 (bcells [])) := Lib.hid ⟨rfl, .inl ⟨rfl, rfl⟩⟩
                have tok1 : True := trivial
                have tok2 : True := trivial
                have tok3 : True := trivial
                have hkI0 : (0 : Int) ≤ (k : Int) := by omega
                have hkc : (k : Int) ≤ (c : Int) := by omega
                have HLN : Hid (([] ++ L.take k ++ [(q1, o)] ++ L.drop k : List Bl).length = 0 + k + 1 + (n - k)) := Lib.hid (by simp only [List.nil_append, List.length_append, List.length_take, List.length_drop, List.length_singleton]; omega)
                have hkn : (k : Int) ≤ (n : Int) := by omega
                have hck : ¬ c = k := by omega
                have hkc2 : ¬ k = c := by omega
                go_wp2_with (first
                  | (at_builtin; have _t := tok1; refine wpList_appb _ rfl (.tmp 87) (.tmp 93) rfl wa.heap.size (.slice none 0 0) [] 0 rfl HW0.out (some ⟨g, 0, none⟩) k c (L.take k) rfl (fun h => by cases h) (HR2.out.take hk) (by omega) (Nat.le_refl _) ?_; intro v6 w6 hown6 hg6; have O6 := Lib.hid hown6; have B6 := Lib.hid ((Below.refl wa.heap.size wa).grown hg6 (Nat.le_refl _) (fun j hj => by cases hj)); have g1 := (B6.out.cell (p := ⟨rd, 1, none⟩) HB2.out.lt).trans f1; clear hown6 hg6 tok1)
                  | (at_builtin; have _t := tok2; refine wpList_appb _ rfl (.tmp 95) (.tmp 99) rfl wa.heap.size v6 ([] ++ L.take k) (0 + k) rfl (O6.out.alloc _) (some ⟨w6.heap.size, 0, none⟩) 1 1 [(q1, o)] rfl (fun h => by cases h) (rbk_new w6 q1 o) (by omega) (by have := B6.out.size; simp; omega) ?_; intro v7 w7 hown7 hg7; have O7 := Lib.hid hown7; have B7 := Lib.hid ((B6.out.alloc B6.out.size _).grown hg7 (by have := B6.out.size; simp; omega) (fun j hj => own_basek O6.out j hj)); have k1 := (B7.out.cell (p := ⟨rd, 1, none⟩) HB2.out.lt).trans f1; have HR7 := Lib.hid (HR2.out.below B7.out); clear hown7 hg7 tok2)
                  | (at_builtin; have _t := tok3; refine wpList_appb _ rfl (.tmp 101) (.tmp 107) rfl wa.heap.size v7 ([] ++ L.take k ++ [(q1, o)]) (0 + k + 1) rfl O7.out (some ⟨g, k * 2, none⟩) (n - k) (c - k) (L.drop k) rfl (fun h => by cases h) (HR7.out.drop hk) (by omega) B7.out.size ?_; intro v8 w8 hown8 hg8; have O8 := Lib.hid hown8; have B8 := Lib.hid (B7.out.grown hg8 B7.out.size (fun j hj => own_basek O7.out j hj)); have m1 := (B8.out.cell (p := ⟨rd, 1, none⟩) HB2.out.lt).trans f1; have mf := (HB2.out.below B8.out HB2.out.lt).frozen 1; obtain ⟨A9, c9, e9, hr9, hc9, hs9⟩ := own_rbk2 HLN.out hown8; subst e9; have HR9 := Lib.hid (And.intro hr9 (And.intro hc9 hs9)); clear hown8 hg8 hr9 hc9 hs9 tok3))
                exact bodyPost_ret (v := .tuple #[.int .i64 (q1 : Int), .int .i64 0]) (by simp [results, Tryd.results16, go_sem]) rfl (by
                  rw [HE.out]
                  have h9 := HR9.out
                  simp only [Nat.zero_add, List.nil_append] at h9
                  exact ⟨rfl, take_done HD.out HCS.out.2.1 HB0.out HB2.out B8.out (by rw [HIns.out] <;> simp) h9.1 h9.2.1 h9.2.2, ((gb_below HB0.out _).trans (gb_below B8.out _)).trans (gb_set _ _ _ _)⟩)
            · obtain rfl : k = n := by omega
              have HIns : Hid (ins q1 o L = L.take k ++ [(q1, o)] ++ L.drop k) := Lib.hid (by
                unfold ins
                rw [hT.out.1, hT.out.2, List.drop_eq_nil_of_le (by omega)]
                simp)
              have hkI : ¬ (k : Int) < (k : Int) := by omega
              clear hT
              by_cases hcc : c = k
              · subst hcc
                have HW0 : Hid (wa.ownsRow wa.heap.size 59 2 (.slice none 0 0) 0 (bcells [])) := Lib.hid ⟨rfl, .inl ⟨rfl, rfl⟩⟩
                have tok1 : True := trivial
                have tok2 : True := trivial
                have tok3 : True := trivial
                have hkI0 : (0 : Int) ≤ (c : Int) := by omega
                have hkc : (c : Int) ≤ (c : Int) := by omega
                have HLN : Hid (([] ++ L.take c ++ [(q1, o)] ++ L.drop c : List Bl).length = 0 + c + 1 + 0) := Lib.hid (by simp only [List.nil_append, List.length_append, List.length_take, List.length_drop, List.length_singleton]; omega)
                go_wp2_with (first
                  | (at_builtin; have _t := tok1; refine wpList_appb _ rfl (.tmp 87) (.tmp 93) rfl wa.heap.size (.slice none 0 0) [] 0 rfl HW0.out (some ⟨g, 0, none⟩) c c (L.take c) rfl (fun h => by cases h) (HR2.out.take hk) (by omega) (Nat.le_refl _) ?_; intro v6 w6 hown6 hg6; have O6 := Lib.hid hown6; have B6 := Lib.hid ((Below.refl wa.heap.size wa).grown hg6 (Nat.le_refl _) (fun j hj => by cases hj)); have g1 := (B6.out.cell (p := ⟨rd, 1, none⟩) HB2.out.lt).trans f1; clear hown6 hg6 tok1)
                  | (at_builtin; have _t := tok2; refine wpList_appb _ rfl (.tmp 95) (.tmp 99) rfl wa.heap.size v6 ([] ++ L.take c) (0 + c) rfl (O6.out.alloc _) (some ⟨w6.heap.size, 0, none⟩) 1 1 [(q1, o)] rfl (fun h => by cases h) (rbk_new w6 q1 o) (by omega) (by have := B6.out.size; simp; omega) ?_; intro v7 w7 hown7 hg7; have O7 := Lib.hid hown7; have B7 := Lib.hid ((B6.out.alloc B6.out.size _).grown hg7 (by have := B6.out.size; simp; omega) (fun j hj => own_basek O6.out j hj)); have k1 := (B7.out.cell (p := ⟨rd, 1, none⟩) HB2.out.lt).trans f1; have HR7 := Lib.hid (HR2.out.below B7.out); clear hown7 hg7 tok2)
                  | (at_builtin; have _t := tok3; refine wpList_appb _ rfl (.tmp 101) (.tmp 107) rfl wa.heap.size v7 ([] ++ L.take c ++ [(q1, o)]) (0 + c + 1) rfl O7.out (some ⟨g, 0, none⟩) 0 0 (L.drop c) rfl (fun h => by cases h) ⟨by simp; omega, fun h => absurd h (by omega)⟩ (by omega) B7.out.size ?_; intro v8 w8 hown8 hg8; have O8 := Lib.hid hown8; have B8 := Lib.hid (B7.out.grown hg8 B7.out.size (fun j hj => own_basek O7.out j hj)); have m1 := (B8.out.cell (p := ⟨rd, 1, none⟩) HB2.out.lt).trans f1; have mf := (HB2.out.below B8.out HB2.out.lt).frozen 1; obtain ⟨A9, c9, e9, hr9, hc9, hs9⟩ := own_rbk2 HLN.out hown8; subst e9; have HR9 := Lib.hid (And.intro hr9 (And.intro hc9 hs9)); clear hown8 hg8 hr9 hc9 hs9 tok3))
                exact bodyPost_ret (v := .tuple #[.int .i64 (q1 : Int), .int .i64 0]) (by simp [results, Tryd.results16, go_sem]) rfl (by
                  rw [HE.out]
                  have h9 := HR9.out
                  simp only [Nat.zero_add, Nat.add_zero, List.nil_append] at h9
                  exact ⟨rfl, take_done HD.out HCS.out.2.1 HB0.out HB2.out B8.out (by rw [HIns.out] <;> simp) h9.1 h9.2.1 h9.2.2, ((gb_below HB0.out _).trans (gb_below B8.out _)).trans (gb_set _ _ _ _)⟩)
              · skip
                have HW0 : Hid (wa.ownsRow wa.heap.size 59 2 (.slice none 0 0) 0 (bcells [])) := Lib.hid ⟨rfl, .inl ⟨rfl, rfl⟩⟩
                have tok1 : True := trivial
                have tok2 : True := trivial
                have tok3 : True := trivial
                have hkI0 : (0 : Int) ≤ (k : Int) := by omega
                have hkc : (k : Int) ≤ (c : Int) := by omega
                have HLN : Hid (([] ++ L.take k ++ [(q1, o)] ++ L.drop k : List Bl).length = 0 + k + 1 + 0) := Lib.hid (by simp only [List.nil_append, List.length_append, List.length_take, List.length_drop, List.length_singleton]; omega)
                have hck : ¬ c = k := hcc
                have hkc2 : ¬ k = c := fun e => hcc e.symm
                go_wp2_with (first
                  | (at_builtin; have _t := tok1; refine wpList_appb _ rfl (.tmp 87) (.tmp 93) rfl wa.heap.size (.slice none 0 0) [] 0 rfl HW0.out (some ⟨g, 0, none⟩) k c (L.take k) rfl (fun h => by cases h) (HR2.out.take hk) (by omega) (Nat.le_refl _) ?_; intro v6 w6 hown6 hg6; have O6 := Lib.hid hown6; have B6 := Lib.hid ((Below.refl wa.heap.size wa).grown hg6 (Nat.le_refl _) (fun j hj => by cases hj)); have g1 := (B6.out.cell (p := ⟨rd, 1, none⟩) HB2.out.lt).trans f1; clear hown6 hg6 tok1)
                  | (at_builtin; have _t := tok2; refine wpList_appb _ rfl (.tmp 95) (.tmp 99) rfl wa.heap.size v6 ([] ++ L.take k) (0 + k) rfl (O6.out.alloc _) (some ⟨w6.heap.size, 0, none⟩) 1 1 [(q1, o)] rfl (fun h => by cases h) (rbk_new w6 q1 o) (by omega) (by have := B6.out.size; simp; omega) ?_; intro v7 w7 hown7 hg7; have O7 := Lib.hid hown7; have B7 := Lib.hid ((B6.out.alloc B6.out.size _).grown hg7 (by have := B6.out.size; simp; omega) (fun j hj => own_basek O6.out j hj)); have k1 := (B7.out.cell (p := ⟨rd, 1, none⟩) HB2.out.lt).trans f1; have HR7 := Lib.hid (HR2.out.below B7.out); clear hown7 hg7 tok2)
                  | (at_builtin; have _t := tok3; refine wpList_appb _ rfl (.tmp 101) (.tmp 107) rfl wa.heap.size v7 ([] ++ L.take k ++ [(q1, o)]) (0 + k + 1) rfl O7.out (some ⟨g, k * 2, none⟩) 0 (c - k) (L.drop k) rfl (fun h => by cases h) ⟨by simp; omega, fun h => absurd h (by omega)⟩ (by omega) B7.out.size ?_; intro v8 w8 hown8 hg8; have O8 := Lib.hid hown8; have B8 := Lib.hid (B7.out.grown hg8 B7.out.size (fun j hj => own_basek O7.out j hj)); have m1 := (B8.out.cell (p := ⟨rd, 1, none⟩) HB2.out.lt).trans f1; have mf := (HB2.out.below B8.out HB2.out.lt).frozen 1; obtain ⟨A9, c9, e9, hr9, hc9, hs9⟩ := own_rbk2 HLN.out hown8; subst e9; have HR9 := Lib.hid (And.intro hr9 (And.intro hc9 hs9)); clear hown8 hg8 hr9 hc9 hs9 tok3))
                exact bodyPost_ret (v := .tuple #[.int .i64 (q1 : Int), .int .i64 0]) (by simp [results, Tryd.results16, go_sem]) rfl (by
                  rw [HE.out]
                  have h9 := HR9.out
                  simp only [Nat.zero_add, Nat.add_zero, List.nil_append] at h9
                  exact ⟨rfl, take_done HD.out HCS.out.2.1 HB0.out HB2.out B8.out (by rw [HIns.out] <;> simp) h9.1 h9.2.1 h9.2.2, ((gb_below HB0.out _).trans (gb_below B8.out _)).trans (gb_set _ _ _ _)⟩)
end Go.Proofs.YtiocdojdncomhaaDoor
