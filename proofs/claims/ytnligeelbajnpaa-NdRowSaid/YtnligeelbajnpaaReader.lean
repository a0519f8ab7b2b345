/-
  What octet's Reader answers: what it reads as behind New, Num, Bytes, and what Left and Short tell.
-/
import Derived.Test.YtnligeelbajnpaaGet
import Derived.Test.YtnligeelbajnpaaPut
namespace Go.Proofs.Ytnligeelbajnpaa
open Go.RowKit
set_option linter.unusedVariables false

theorem RI.cut {k : IntKind} {w : World} {B n c j : Nat} {A : Option Addr} {zs : List Int} (h : RI k w B A n zs) (hj : j ≤ n) (hc : n ≤ c) :
    RI k w B (if c = j then A else A.map (·.add j)) (n - j) (zs.drop j) := by
  refine ⟨by rw [List.length_drop, h.1], fun hn => ?_, fun z hz => h.2.2 z (List.mem_of_mem_drop hz)⟩
  obtain ⟨b, o, rfl, hb, hcell⟩ := h.2.1 (by omega)
  rw [if_neg (by omega)]
  refine ⟨b, o + j, ?_, hb, fun i z hz => ?_⟩
  · simp only [Option.map_some, Addr.add]
    split
    · rename_i h0; simp [h0]
    · rfl
  · rw [Nat.add_assoc]; exact hcell _ z (by rw [← hz, List.getElem?_drop])

/-- The reader in block r has zs before it; 'sh': it is short. It and its bytes lie in the blocks from L on, below B. -/
def Rd (w : World) (L B r : Nat) (zs : List Int) (sh : Bool) : Prop :=
  ∃ A n c, Blk w r 77 #[.slice A n c, .bool sh] ∧ RI .u8 w B A n zs ∧ (∀ x, A = some x → L ≤ x.block) ∧ n ≤ c ∧ c ≤ 281474976710656 ∧ L ≤ r ∧ r < B

theorem RI.keep' {k : IntKind} {w w' : World} {L B n : Nat} {A : Option Addr} {zs : List Int} (h : RI k w B A n zs) (hL : ∀ x, A = some x → L ≤ x.block) (hk : ∀ b, L ≤ b → b < B → w'.heap[b]? = w.heap[b]?) : RI k w' B A n zs :=
  ⟨h.1, fun hn => by
    obtain ⟨b, o, e, hb, hc⟩ := h.2.1 hn
    exact ⟨b, o, e, hb, fun j z hz => (World.cell?_of_block (hk b (hL _ e) hb)).trans (hc j z hz)⟩, h.2.2⟩

theorem Rd.keep {w w' : World} {L B r : Nat} {zs : List Int} {sh : Bool} (h : Rd w L B r zs sh) (hk : ∀ b, L ≤ b → b < B → w'.heap[b]? = w.heap[b]?) : Rd w' L B r zs sh := by
  obtain ⟨A, n, c, hb, hr, hL, h1, h2, h3, h4⟩ := h
  exact ⟨A, n, c, (hk r h3 h4).trans hb, hr.keep' hL hk, hL, h1, h2, h3, h4⟩
theorem Rd.more {w : World} {L B B' r : Nat} {zs : List Int} {sh : Bool} (h : Rd w L B r zs sh) (hB : B ≤ B') : Rd w L B' r zs sh := by
  obtain ⟨A, n, c, hb, hr, hL, h1, h2, h3, h4⟩ := h
  exact ⟨A, n, c, hb, hr.more hB, hL, h1, h2, h3, by omega⟩
theorem Rd.wf {w : World} {L B r : Nat} {zs : List Int} {sh : Bool} (h : Rd w L B r zs sh) : ∀ z ∈ zs, (Lit.int .u8 z).wf = true := by
  obtain ⟨A, n, c, hb, hr, _⟩ := h
  exact hr.2.2

/-- The bytes of a reader do not lie in its own block. -/
theorem other_block {w : World} {B r n : Nat} {A : Option Addr} {zs : List Int} {v : Value} {sh : Bool} {b o : Nat} (hb : Blk w r 77 #[v, .bool sh]) (hv : ∀ k z, v ≠ .int k z) (hr : RI .u8 w B A n zs) (hn : 0 < n) (e : A = some ⟨b, o, none⟩) : b ≠ r := by
  rintro rfl
  obtain ⟨b', o', z, e', _, _, _, hc⟩ := hr.at_ hn
  rw [e] at e'
  injection e' with e'
  injection e' with e1 e2
  subst e1
  rw [hb.cell] at hc
  rcases (show o' + 0 = 0 ∨ o' + 0 = 1 ∨ 2 ≤ o' + 0 by omega) with h | h | h
  · rw [h] at hc; simp at hc; exact hv _ _ hc
  · rw [h] at hc; simp at hc
  · rw [Array.getElem?_eq_none (by simpa using h)] at hc; cases hc

/-- Behind a store into the reader's own block its bytes read as before. -/
theorem RI.own_store {w : World} {B r n i : Nat} {A : Option Addr} {zs : List Int} {v u : Value} {sh : Bool} (hb : Blk w r 77 #[v, .bool sh]) (hv : ∀ k z, v ≠ .int k z) (hr : RI .u8 w B A n zs) : RI .u8 (w.setCell ⟨r, i, none⟩ u) B A n zs :=
  ⟨hr.1, fun hn => by
    obtain ⟨b, o, e, hbB, hc⟩ := hr.2.1 hn
    have hne := other_block hb hv hr hn e
    exact ⟨b, o, e, hbB, fun j z hz => (World.cell?_setCell_other w _ _ u (by intro h; injection h with h1; exact hne h1.symm)).trans (hc j z hz)⟩, hr.2.2⟩

/-- The world in which the reader in block r was cut. -/
def cutW (w : World) (r : Nat) : World := (w.setCell ⟨r, 0, none⟩ (.slice none 0 0)).setCell ⟨r, 1, none⟩ (.bool true)

set_option maxHeartbeats 400000 in
theorem cut_any {w : World} {L B r : Nat} {zs : List Int} {sh : Bool} (h : Rd w L B r zs sh) :
    Calls Try.prog 36 #[.pointer (some ⟨r, 0, none⟩)] w fun e w' => e = .returned (.tuple #[]) ∧ w' = cutW w r := by
  obtain ⟨A, n, c, hb, hr, hL, h1, h2, h3, h4⟩ := h
  have c0 : w.cell? ⟨r, 0, none⟩ = some (.slice A n c) := (hb.cell 0).trans (by simp)
  have c1 : w.cell? ⟨r, 1, none⟩ = some (.bool sh) := (hb.cell 1).trans (by simp)
  have f0 := hb.frozen 0
  have f1 := hb.frozen 1
  clear hb hr hL
  go_enter Try.func36, Try.ntmps36
  go_wp2
  go_end0
  exact ⟨rfl, rfl⟩

theorem cutW_size (w : World) (r : Nat) : (cutW w r).heap.size = w.heap.size := by simp [cutW, World.setCell]
theorem cutW_other (w : World) (r k : Nat) (hk : k ≠ r) : (cutW w r).heap[k]? = w.heap[k]? := by
  unfold cutW; rw [Below.heap_setCell _ _ _ _ hk, Below.heap_setCell _ _ _ _ hk]
theorem Rd.cut {w : World} {L B r : Nat} {zs : List Int} {sh : Bool} (h : Rd w L B r zs sh) : Rd (cutW w r) L B r [] true := by
  obtain ⟨A, n, c, hb, hr, hL, h1, h2, h3, h4⟩ := h
  have h5 := (hb.set_ 0 (.slice none 0 0)).set_ 1 (.bool true)
  exact ⟨none, 0, 0, by simpa [cutW] using h5, RI.nil_, (fun _ h => by cases h), Nat.le_refl _, by omega, h3, h4⟩

set_option maxRecDepth 100000 in
theorem slice_from (w : World) (A : Option Addr) (n c j : Nat) (hj : j ≤ n) (hn : n ≤ c) :
    (Instr.slice 49 (.slice A n c) (some (.int .i64 (j : Int))) none none).run Try.prog w = .ok (.slice (if c = j then A else A.map (·.add j)) (n - j) (c - j)) w := by
  have h := run_slice_l (P := Try.prog) (w := w) 49 A n c Try.underlying49 .i64 (j : Int) (by omega) (by omega)
  rw [h]
  simp [sliced, go_sem]

/-- What only the reader's own block r has turned in. -/
def Only (w w' : World) (r : Nat) : Prop := w'.os = w.os ∧ w'.tape = w.tape ∧ w'.output = w.output ∧ w'.heap.size = w.heap.size ∧ ∀ k, k ≠ r → w'.heap[k]? = w.heap[k]?

theorem Only.below {w w' : World} {r B : Nat} (h : Only w w' r) (hB : B ≤ r) : Below B w w' := ⟨h.1, h.2.1, h.2.2.1, by rw [h.2.2.2.1]; exact Nat.le_refl _, fun k hk => h.2.2.2.2 k (by omega)⟩
theorem Only.set_ (w : World) (r i : Nat) (u : Value) : Only w (w.setCell ⟨r, i, none⟩ u) r := ⟨rfl, rfl, rfl, by simp [World.setCell], fun _ hk => Below.heap_setCell _ _ _ _ hk⟩
theorem Only.trans {a b c : World} {r : Nat} (h : Only a b r) (k : Only b c r) : Only a c r :=
  ⟨k.1.trans h.1, k.2.1.trans h.2.1, k.2.2.1.trans h.2.2.1, k.2.2.2.1.trans h.2.2.2.1, fun i hi => (k.2.2.2.2 i hi).trans (h.2.2.2.2 i hi)⟩
theorem Only.cut (w : World) (r : Nat) : Only w (cutW w r) r := (Only.set_ w r 0 _).trans (Only.set_ _ r 1 _)

set_option maxHeartbeats 400000 in
theorem num_yes {w : World} {L B r k : Nat} {zs : List Int} {sh : Bool} (h : Rd w L B r zs sh) (hk8 : k ≤ 8) (hk : k ≤ zs.length) :
    Calls Try.prog 24 #[.pointer (some ⟨r, 0, none⟩), .int .i64 k] w fun e w' => e = .returned (.int .u64 (numOf (zs.take k))) ∧ Rd w' L B r (zs.drop k) sh ∧ Only w w' r := by
  obtain ⟨A, n, c, hb, hr, hL, h1, h2, h3, h4⟩ := h
  have c0 : w.cell? ⟨r, 0, none⟩ = some (.slice A n c) := (hb.cell 0).trans (by simp)
  have f0 := hb.frozen 0
  have hn := hr.1
  obtain ⟨A', hA'⟩ : ∃ A', A' = (if c = k then A else A.map (·.add k)) := ⟨_, rfl⟩
  have hsl := fun w => slice_from w A n c k (by omega) h1
  simp only [← hA'] at hsl
  have R := Lib.hid (show Rd (w.setCell ⟨r, 0, none⟩ (.slice A' (n - k) (c - k))) L B r (zs.drop k) sh from
    ⟨A', n - k, c - k, by simpa using hb.set_ 0 (.slice A' (n - k) (c - k)), by rw [hA']; exact (hr.own_store hb (fun _ _ h => by cases h)).cut (by omega) h1,
      (fun x hx => by
        rw [hA'] at hx
        split at hx
        · exact hL x hx
        · obtain ⟨y, hy, rfl⟩ := Option.map_eq_some_iff.1 hx
          rw [block_of_add]; exact hL y hy), by omega, by omega, h3, h4⟩)
  have hk' : k ≤ n := by omega
  have hG := Lib.hid (get_yes w B A n c 0 k zs hr hk8 (by omega) (by omega))
  clear hA' hb hr hL hn hk
  go_enter Try.func24, Try.ntmps24
  go_wp2_with (first | (go_at_call 35; refine (Calls.mono hG.out ?_); rintro e w' ⟨rfl, rfl⟩))
  go_ret
  exact ⟨rfl, R.out, Only.set_ _ _ _ _⟩

set_option maxHeartbeats 400000 in
theorem num_no {w : World} {L B r : Nat} {k : Int} {zs : List Int} {sh : Bool} (h : Rd w L B r zs sh) (hk : NoNum zs.length 0 k) :
    Calls Try.prog 24 #[.pointer (some ⟨r, 0, none⟩), .int .i64 k] w fun e w' => e = .returned (.int .u64 0) ∧ Rd w' L B r [] true ∧ Only w w' r := by
  have hcut := cut_any h
  have R := Lib.hid h.cut
  obtain ⟨A, n, c, hb, hr, hL, h1, h2, h3, h4⟩ := h
  have c0 : w.cell? ⟨r, 0, none⟩ = some (.slice A n c) := (hb.cell 0).trans (by simp)
  rw [hr.1] at hk
  have hG := Lib.hid (get_no w A n c 0 k hk (by omega) (by omega))
  have hC := Lib.hid hcut
  clear hb hr hL hk hcut
  go_enter Try.func24, Try.ntmps24
  go_wp2_with (first | (go_at_call 35; refine (Calls.mono hG.out ?_); rintro e w' ⟨rfl, rfl⟩) | (go_at_call 36; refine (Calls.mono hC.out ?_); rintro e w' ⟨rfl, rfl⟩))
  go_ret
  exact ⟨rfl, R.out, Only.cut _ _⟩

theorem Only.grown {w w' : World} {r : Nat} (h : Only w w' r) : w.grownBy w' (some r) := ⟨h.1, h.2.1, h.2.2.1, by rw [h.2.2.2.1]; exact Nat.le_refl _, fun k _ hne => h.2.2.2.2 k (fun e => hne (by rw [e]))⟩
theorem grown_below {w w' : World} {r B : Nat} (h : w.grownBy w' (some r)) (hB : B ≤ r) (hs : B ≤ w.heap.size) : Below B w w' :=
  ⟨h.os, h.tape, h.output, h.size, fun k hk => h.block k (by omega) (fun e => by injection e with e; omega)⟩
theorem below_grown {w w' : World} (h : Below w.heap.size w w') (row : Option Nat) : w.grownBy w' row := ⟨h.os, h.tape, h.output, h.size, fun i hi _ => h.block i hi⟩
theorem grown_set {a w : World} {r : Nat} (h : a.grownBy w (some r)) (i : Nat) (u : Value) : a.grownBy (w.setCell ⟨r, i, none⟩ u) (some r) :=
  ⟨h.os, h.tape, h.output, by simpa [World.setCell] using h.size, fun k hk hne => (Below.heap_setCell w ⟨r, i, none⟩ u k (fun e => hne (by rw [e]))).trans (h.block k hk hne)⟩

theorem make_nat (k : Nat) (h : k ≤ 281474976710656) (w : World) :
    (Instr.makeSlice 49 (.int .i64 (k : Int)) (.int .i64 (k : Int))).run Try.prog w = .ok (.slice (some ⟨w.heap.size, 0, none⟩) k k) (w.alloc (.cells (madeCells #[.int .u8 0] k) 5)) :=
  run_make_row' (P := Try.prog) 49 5 (.int .u8 0) 1 Try.underlying49 Try.info5 rfl .i64 .i64 k (by omega) (by omega) w

theorem splice_all (k : Nat) (zs : List Int) (h : zs.length = k) : splice (List.replicate k (Value.int .u8 0)) 0 (zs.map (Value.int .u8)) = zs.map (Value.int .u8) := by
  simp [splice, h]

/-- What New hands back: a new reader of these bytes. -/
def NewRd (w : World) (zs : List Int) (e : Ending) (w' : World) : Prop := ∃ r, e = .returned (.pointer (some ⟨r, 0, none⟩)) ∧ Rd w' w.heap.size w'.heap.size r zs false ∧ Below w.heap.size w w'
theorem newRd_of {w w2 : World} {n : Nat} {zs : List Int} {cs : List Value} (hl : zs.length = n) (hw : ∀ z ∈ zs, (Lit.int .u8 z).wf = true) (hn : n ≤ 281474976710656) (hb : Below w.heap.size w w2)
    (hg : w2.heap[w.heap.size]? = some (.cells cs.toArray 5 (0, 0))) (hcs : cs = zs.map (Value.int .u8)) :
    NewRd w zs (.returned (.pointer (some ⟨w2.heap.size, 0, none⟩))) (w2.alloc (.cells #[.slice (some ⟨w.heap.size, 0, none⟩) n n, .bool false] 77)) := by
  subst hcs
  have hlt : w.heap.size < w2.heap.size := Blk.lt (show Blk w2 w.heap.size 5 _ from hg)
  have h1 : Blk w2 w.heap.size 5 ((zs.map (Value.int .u8)).toArray) := hg
  refine ⟨_, rfl, ⟨some ⟨w.heap.size, 0, none⟩, n, n, Blk.new _ _ _, ?_, ?_, Nat.le_refl _, hn, by omega, by simp⟩, hb.alloc (by omega) _⟩
  · have := (h1.alloc (.cells #[.slice (some ⟨w.heap.size, 0, none⟩) n n, .bool false] 77)).reads hw (B := w2.heap.size + 1) (by omega)
    rw [hl] at this
    simpa using this
  · intro x hx
    injection hx with hx
    rw [← hx]; exact Nat.le_refl _

set_option maxHeartbeats 400000 in
theorem new_any (w : World) (B : Nat) (A : Option Addr) (n c : Nat) (zs : List Int) (hz : RI .u8 w B A n zs) (hB : B ≤ w.heap.size) (hn : n ≤ 281474976710656) :
    Calls Try.prog 22 #[.slice A n c] w (NewRd w zs) := by
  have hmk := make_nat n hn w
  have hl := hz.1
  obtain ⟨w1, hw1⟩ : ∃ w1, w1 = w.alloc (.cells (madeCells #[.int .u8 0] n) 5) := ⟨_, rfl⟩
  have HG : Hid (w1.heap[w.heap.size]? = some (.cells (List.replicate n (Value.int .u8 0)).toArray 5 (0, 0))) := by
    show _ = _
    rw [hw1, heap_alloc_new, made_list]
  have HB : Below w.heap.size w w1 := by rw [hw1]; exact (Below.refl _ _).alloc (Nat.le_refl _) _
  have C1 : Hid ((zs.map (Value.int .u8)).length = Nat.min n n) := by
    show _ = _
    simp [hl]
  have C2 := Lib.hid (cs_at (hz.below (HB.mono hB)) w.heap.size)
  have C3 : Hid (0 + (zs.map (Value.int .u8)).length ≤ (List.replicate n (Value.int .u8 0)).length) := by
    show _ ≤ _
    simp [hl]
  have HS := Lib.hid (splice_all n zs hl)
  have HW := Lib.hid hz.2.2
  have HL := Lib.hid hl
  rw [← hw1] at hmk
  clear hw1 hz hl
  go_enter Try.func22, Try.ntmps22
  go_wp2_with (with_reducible refine wpList_copy_splice rfl (.tmp 7) (.tmp 8) 49 49 rfl 5 Try.underlying49 (by kernel_rfl) _ _ _ _ _ _ rfl rfl w.heap.size 0 (List.replicate n (Value.int .u8 0)) 5 HG.out (zs.map (Value.int .u8)) C1.out C2.out C3.out bytes_oneCell w.heap.size w HB (Nat.le_refl _) ?_; intro w2 HG2 HB2)
  go_ret
  exact newRd_of HL.out HW.out hn HB2 HG2.out HS.out

end Go.Proofs.Ytnligeelbajnpaa
