/-
  The program's own wheel (layer 17): what lies in memory; New, Now, Len, width, slotOf, levelOf.
-/
import Derived.Test.YthkjfgegmbdebaaWhO
import Derived.BigQuiet
namespace Go.Proofs.Ythkjfgegmbdebaa
open Go.RowKit
set_option linter.unusedVariables false

abbrev ptrV (b : Nat) : Value := .pointer (some ⟨b, 0, none⟩)
abbrev intK : Int → Value := fun x => .int .i64 x
def tmC (x : TmI) : List Value := [.int .i64 x.1, .int .i64 (x.2.1 : Int), .int .i64 (x.2.2 : Int)]
abbrev tmV (x : TmI) : Value := .agg #[.int .i64 x.1, .int .i64 (x.2.1 : Int), .int .i64 (x.2.2 : Int)]
theorem tm_three (x : TmI) : (tmC x).length = 3 := rfl
theorem tm_one (x : TmI) : ∀ u ∈ tmC x, u.oneCell' = true := by
  intro u hu; simp [tmC] at hu; rcases hu with rfl | rfl | rfl <;> rfl
/-- A wheel in memory: block p; its map's block m; the slots' values lv, what lies in each of them ll. -/
structure WhM (w : World) (p m t a : Nat) (lv : List Value) (ll : List (List TmI)) (M : List (Int × Value)) : Prop where
  cells : ∃ cs, Blk w p 51 cs ∧ cs.size = 51 ∧ cs[0]? = some (.int .i64 (t : Int)) ∧ cs[1]? = some (.int .i64 (a : Int)) ∧ cs[50]? = some (.map (some m)) ∧ ∀ (k : Nat) (v : Value), lv[k]? = some v → cs[k + 2]? = some v
  n48 : lv.length = 48
  l48 : ll.length = 48
  map : MpIs intK w m M
  rows : ∀ (k : Nat) (v : Value) (l : List TmI), lv[k]? = some v → ll[k]? = some l → w.ownsRow 0 57 3 v l.length (l.flatMap tmC)
  dis : (p :: m :: lv.flatMap obI).Nodup
section
variable {w w' : World} {p m t a : Nat} {lv : List Value} {ll : List (List TmI)} {M : List (Int × Value)}
theorem WhM.now (h : WhM w p m t a lv ll M) : w.cell? ⟨p, 0, none⟩ = some (.int .i64 (t : Int)) := by
  obtain ⟨cs, hb, -, h0, -⟩ := h.cells
  rw [hb.cell]; exact h0
theorem WhM.added (h : WhM w p m t a lv ll M) : w.cell? ⟨p, 1, none⟩ = some (.int .i64 (a : Int)) := by
  obtain ⟨cs, hb, -, -, h1, -⟩ := h.cells
  rw [hb.cell]; exact h1
theorem WhM.places (h : WhM w p m t a lv ll M) : w.cell? ⟨p, 50, none⟩ = some (.map (some m)) := by
  obtain ⟨cs, hb, -, -, -, h1, -⟩ := h.cells
  rw [hb.cell]; exact h1
theorem WhM.slot (h : WhM w p m t a lv ll M) {k : Nat} {v : Value} (hv : lv[k]? = some v) : w.cell? ⟨p, k + 2, none⟩ = some v := by
  obtain ⟨cs, hb, -, -, -, -, h1⟩ := h.cells
  rw [hb.cell]; exact h1 k v hv
theorem WhM.lt (h : WhM w p m t a lv ll M) : ∀ s ∈ p :: m :: lv.flatMap obI, s < w.heap.size := by
  intro s hs
  rcases List.mem_cons.1 hs with rfl | hs
  · obtain ⟨cs, hb, -⟩ := h.cells; exact hb.lt
  · rcases List.mem_cons.1 hs with rfl | hs
    · exact h.map.lt
    · obtain ⟨v, hv, hs⟩ := List.mem_flatMap.1 hs
      obtain ⟨k, hk⟩ := List.mem_iff_getElem?.1 hv
      have hk2 := (List.getElem?_eq_some_iff.1 hk).1
      exact own_lts (h.rows k v _ hk (List.getElem?_eq_getElem (by rw [h.l48, ← h.n48]; exact hk2))) s hs
theorem WhM.tch {T : List Nat} (h : WhM w p m t a lv ll M) (ht : Tch w w' T) (hn : ∀ s ∈ p :: m :: lv.flatMap obI, s ∉ T) : WhM w' p m t a lv ll M := by
  obtain ⟨cs, hb, h1⟩ := h.cells
  refine ⟨⟨cs, ht.blk hb (hn p (by simp)), h1⟩, h.n48, h.l48, h.map.tch ht (hn m (by simp)), fun k v l hv hl => own_tch (h.rows k v l hv hl) ht (fun s hs => hn s ?_), h.dis⟩
  exact List.mem_cons_of_mem _ (List.mem_cons_of_mem _ (List.mem_flatMap.2 ⟨v, List.mem_of_getElem? hv, hs⟩))
theorem WhM.frozen (h : WhM w p m t a lv ll M) (i : Nat) : w.frozen? ⟨p, i, none⟩ = false := by
  obtain ⟨cs, hb, -⟩ := h.cells
  exact hb.frozen i
/-- A cell of the wheel's own set anew. -/
theorem WhM.setNow (h : WhM w p m t a lv ll M) (t' : Nat) : WhM (w.setCell ⟨p, 0, none⟩ (.int .i64 (t' : Int))) p m t' a lv ll M ∧ Tch w (w.setCell ⟨p, 0, none⟩ (.int .i64 (t' : Int))) [p] := by
  obtain ⟨cs, hb, hs, h0, h1, h2, h3⟩ := h.cells
  have hT : Tch w (w.setCell ⟨p, 0, none⟩ (.int .i64 (t' : Int))) [p] := (Tch.refl w [p]).set_ (by simp) _
  have hd := h.dis
  rw [List.nodup_cons] at hd
  refine ⟨⟨⟨_, hb.set_ 0 _, by simpa using hs, by simp [hs], by simpa using h1, by simpa using h2, fun k v hv => by simpa using h3 k v hv⟩, h.n48, h.l48, h.map.tch hT (fun e => hd.1 (by simp at e; simp [e])), fun k v l hv hl => own_tch (h.rows k v l hv hl) hT (fun s hs e => hd.1 ?_), h.dis⟩, hT⟩
  simp at e; subst e
  exact List.mem_cons_of_mem _ (List.mem_flatMap.2 ⟨v, List.mem_of_getElem? hv, hs⟩)
theorem WhM.setAdded (h : WhM w p m t a lv ll M) (a' : Nat) : WhM (w.setCell ⟨p, 1, none⟩ (.int .i64 (a' : Int))) p m t a' lv ll M ∧ Tch w (w.setCell ⟨p, 1, none⟩ (.int .i64 (a' : Int))) [p] := by
  obtain ⟨cs, hb, hs, h0, h1, h2, h3⟩ := h.cells
  have hT : Tch w (w.setCell ⟨p, 1, none⟩ (.int .i64 (a' : Int))) [p] := (Tch.refl w [p]).set_ (by simp) _
  have hd := h.dis
  rw [List.nodup_cons] at hd
  refine ⟨⟨⟨_, hb.set_ 1 _, by simpa using hs, by simpa using h0, by simp [hs], by simpa using h2, fun k v hv => by simpa using h3 k v hv⟩, h.n48, h.l48, h.map.tch hT (fun e => hd.1 (by simp at e; simp [e])), fun k v l hv hl => own_tch (h.rows k v l hv hl) hT (fun s hs e => hd.1 ?_), h.dis⟩, hT⟩
  simp at e; subst e
  exact List.mem_cons_of_mem _ (List.mem_flatMap.2 ⟨v, List.mem_of_getElem? hv, hs⟩)
/-- A slot set anew: its row lies in memory already. -/
theorem WhM.setSlot (h : WhM w p m t a lv ll M) {k : Nat} (hk : k < 48) (v : Value) (l : List TmI) (hr : w.ownsRow 0 57 3 v l.length (l.flatMap tmC)) (hd : (p :: m :: (lv.set k v).flatMap obI).Nodup) :
    WhM (w.setCell ⟨p, k + 2, none⟩ v) p m t a (lv.set k v) (ll.set k l) M ∧ Tch w (w.setCell ⟨p, k + 2, none⟩ v) [p] := by
  obtain ⟨cs, hb, hs, h0, h1, h2, h3⟩ := h.cells
  have hT : Tch w (w.setCell ⟨p, k + 2, none⟩ v) [p] := (Tch.refl w [p]).set_ (by simp) _
  have hd1 := hd
  rw [List.nodup_cons] at hd1
  have hn := h.n48
  have hl48 := h.l48
  have hgs : ∀ (k' : Nat) (v' : Value), (lv.set k v)[k']? = some v' → (k' = k ∧ v' = v) ∨ (k' ≠ k ∧ lv[k']? = some v') := by
    intro k' v' hk'
    rw [List.getElem?_set] at hk'
    by_cases e : k = k'
    · rw [if_pos e, if_pos (by omega)] at hk'
      injection hk' with hk'
      exact .inl ⟨e.symm, hk'.symm⟩
    · rw [if_neg e] at hk'
      exact .inr ⟨fun e2 => e e2.symm, hk'⟩
  refine ⟨⟨⟨_, hb.set_ (k + 2) v, by simpa using hs, ?_, ?_, ?_, fun k' v' hv => ?_⟩, by rw [List.length_set]; exact hn, by rw [List.length_set]; exact hl48, h.map.tch hT (fun e => hd1.1 (by simp at e; simp [e])), fun k' v' l' hv hl => ?_, hd⟩, hT⟩
  · rw [Array.getElem?_setIfInBounds_ne (by omega)]; exact h0
  · rw [Array.getElem?_setIfInBounds_ne (by omega)]; exact h1
  · rw [Array.getElem?_setIfInBounds_ne (by omega)]; exact h2
  · rcases hgs k' v' hv with ⟨rfl, rfl⟩ | ⟨hne, hv⟩
    · rw [Array.getElem?_setIfInBounds_self_of_lt (by omega)]
    · rw [Array.getElem?_setIfInBounds_ne (by omega)]; exact h3 k' v' hv
  · have hnt : ∀ s ∈ obI v', s ∉ [p] := fun s hs e => hd1.1 (by
      simp at e; subst e
      exact List.mem_cons_of_mem _ (List.mem_flatMap.2 ⟨v', List.mem_of_getElem? hv, hs⟩))
    rcases hgs k' v' hv with ⟨rfl, rfl⟩ | ⟨hne, hv2⟩
    · rw [List.getElem?_set, if_pos rfl, if_pos (by omega)] at hl
      injection hl with hl; subst hl
      exact own_tch hr hT hnt
    · rw [List.getElem?_set, if_neg (fun e => hne e.symm)] at hl
      exact own_tch (h.rows k' v' l' hv2 hl) hT hnt
/-- The map set anew. -/
theorem WhM.setMap (h : WhM w p m t a lv ll M) {M' : List (Int × Value)} (hM : MpIs intK w' m M') (hT : Tch w w' [m]) : WhM w' p m t a lv ll M' := by
  obtain ⟨cs, hb, h1⟩ := h.cells
  have hd := h.dis
  rw [List.nodup_cons, List.nodup_cons] at hd
  refine ⟨⟨cs, hT.blk hb (fun e => hd.1 (by simp at e; simp [e])), h1⟩, h.n48, h.l48, hM, fun k v l hv hl => own_tch (h.rows k v l hv hl) hT (fun s hs e => hd.2.1 ?_), h.dis⟩
  simp at e; subst e
  exact List.mem_flatMap.2 ⟨v, List.mem_of_getElem? hv, hs⟩
end
set_option maxRecDepth 100000 in
theorem width_any (l : Nat) (hl : l < 3) (w : World) : Calls Try.prog 27 #[.int .i64 (l : Int)] w fun e w' => e = .returned (.int .i64 (widI l : Int)) ∧ w' = w := by
  have : l = 0 ∨ l = 1 ∨ l = 2 := by omega
  rcases this with rfl | rfl | rfl
  · go_enter Try.func27, Try.ntmps27
    go_wp2
    go_ret
    exact ⟨rfl, rfl⟩
  · go_enter Try.func27, Try.ntmps27
    go_wp2
    go_ret
    exact ⟨rfl, rfl⟩
  · go_enter Try.func27, Try.ntmps27
    go_wp2
    go_ret
    exact ⟨rfl, rfl⟩
theorem div_nat {x W : Nat} : Int.tdiv (x : Int) (W : Int) = ((x / W : Nat) : Int) := by
  rw [Int.tdiv_eq_ediv_of_nonneg (by omega)]; rfl
theorem rem_nat {x W : Nat} : Int.tmod (x : Int) (W : Int) = ((x % W : Nat) : Int) := by
  rw [Int.tmod_eq_emod_of_nonneg (by omega)]; rfl
set_option maxRecDepth 100000 in
theorem slotOf_any (l d : Nat) (hl : l < 3) (hd : d ≤ 1000000000) (w : World) : Calls Try.prog 34 #[.int .i64 (l : Int), .int .i64 (d : Int)] w fun e w' => e = .returned (.int .i64 (slotI l d : Int)) ∧ w' = w := by
  have HW := Lib.hid (width_any l hl w)
  have hW := wid_pos l
  obtain ⟨W, hWW⟩ : ∃ W, widI l = W := ⟨_, rfl⟩
  have HE : Hid (slotI l d = d / W % 16) := Lib.hid (by unfold slotI; rw [hWW])
  rw [hWW] at HW hW
  obtain ⟨q, hq⟩ : ∃ q, d / W = q := ⟨_, rfl⟩
  have hq9 : q ≤ 1000000000 := by rw [← hq]; exact Nat.le_trans (Nat.div_le_self _ _) hd
  have t1 : Int.tdiv (d : Int) (W : Int) = (q : Int) := by rw [div_nat, hq]
  have t2 : Int.tmod (q : Int) 16 = ((q % 16 : Nat) : Int) := rem_nat (W := 16)
  have w1 : IntKind.i64.wrap (q : Int) = (q : Int) := by rw [IntKind.wrap_i64]; omega
  have w2 : IntKind.i64.wrap ((q % 16 : Nat) : Int) = ((q % 16 : Nat) : Int) := by rw [IntKind.wrap_i64]; omega
  have n0 : ¬ (W : Int) = 0 := by omega
  have HE := Lib.hid (HE.out.trans (by rw [hq]))
  obtain ⟨s, hs⟩ : ∃ s, q % 16 = s := ⟨_, rfl⟩
  rw [hs] at t2 w2 HE
  clear hs hq hWW hW hl hd hq9
  go_enter Try.func34, Try.ntmps34
  go_wp2_with fail
  refine Calls.mono HW.out ?_
  rintro e w1 ⟨rfl, rfl⟩
  go_wp2
  go_ret
  exact ⟨by rw [HE.out]; rfl, rfl⟩
set_option maxRecDepth 100000 in
set_option maxHeartbeats 1000000 in
theorem levelOf_any (n : Nat) (hn : n ≤ 4095) (w : World) : Calls Try.prog 33 #[.int .i64 (n : Int)] w fun e w' => e = .returned (.int .i64 (lvlI n : Int)) ∧ w' = w := by
  have HL := Lib.hid (show lvlI n = if n < 16 then 0 else if n < 256 then 1 else 2 from rfl)
  have HW := Lib.hid (fun l (h : l < 3) => width_any l h w)
  go_enter Try.func33, Try.ntmps33
  go_wp2_with fail
  go_loopw [3] (fun lv wr => ∃ l : Nat, lv = .int .i64 (l : Int) ∧ l ≤ lvlI n ∧ wr = w) (fun lv _ => 3 - (intOf lv).toNat)
  case atStart => exact ⟨0, rfl, Nat.zero_le _, rfl⟩
  case round =>
    obtain ⟨l, rfl, hl, rfl⟩ := hrel
    have hl3 : l < 3 := by rw [HL.out] at hl; split at hl; omega; split at hl <;> omega
    have HV := Lib.hid (And.intro hl hl3)
    have HC := Lib.hid (HW.out l hl3)
    have hl8 : lvlI n = l ↔ ¬ 16 * widI l ≤ n := by
      rw [HL.out] at hl ⊢
      unfold widI
      have : l = 0 ∨ l = 1 ∨ l = 2 := by omega
      rcases this with rfl | rfl | rfl
      · by_cases h1 : n < 16
        · simp [h1]
        · by_cases h2 : n < 256 <;> simp [h1, h2] <;> omega
      · by_cases h1 : n < 16
        · simp [h1] at hl
        · by_cases h2 : n < 256 <;> simp [h1, h2] <;> omega
      · by_cases h1 : n < 16
        · simp [h1] at hl
        · by_cases h2 : n < 256 <;> simp [h1, h2] at hl ⊢ <;> omega
    have hW9 : widI l ≤ 256 := by unfold widI; split; decide; split <;> decide
    obtain ⟨W, hWW⟩ : ∃ W, widI l = W := ⟨_, rfl⟩
    rw [hWW] at HC hl8 hW9
    have w1 : IntKind.i64.wrap (16 * (W : Int)) = 16 * (W : Int) := by rw [IntKind.wrap_i64]; omega
    have w2 : IntKind.i64.wrap ((l : Int) + 1) = (l : Int) + 1 := by rw [IntKind.wrap_i64]; omega
    clear hl hl3 hWW
    by_cases hc : 16 * W ≤ n
    · have g1 : (16 * (W : Int) ≤ (n : Int)) := by omega
      have HX := Lib.hid (And.intro hc (fun e => (hl8.1 e) hc))
      clear hl8 hc hW9
      go_wp2_with fail
      refine Calls.mono HC.out ?_
      rintro e w1 ⟨rfl, rfl⟩
      go_wp2
      go_roundw
      case rel =>
        refine ⟨l + 1, by go_num, ?_, trivial⟩
        have h1 := HV.out
        have h2 := HX.out.2
        have h3 : lvlI n ≠ l := h2
        omega
      case measure =>
        have h1 := HV.out
        simp [intOf]; omega
    · have g1 : ¬ (16 * (W : Int) ≤ (n : Int)) := by omega
      have HX := Lib.hid (hl8.2 hc)
      clear hl8 hc hW9
      go_wp2_with fail
      refine Calls.mono HC.out ?_
      rintro e w1 ⟨rfl, rfl⟩
      go_wp2
      go_ret
      exact ⟨by rw [HX.out]; rfl, rfl⟩
end Go.Proofs.Ythkjfgegmbdebaa
