/-
  What the document's own Words, Sum and Check answer of any bytes.
-/
import Derived.Test.YtljdebpemdjliaaSum
import Derived.Test.YtljdebpemdjliaaAppk
namespace Go.Proofs.Ytljdebpemdjliaa
open Go.RowKit
set_option linter.unusedVariables false

theorem Try.info41 : (Try.prog.info? 41).map (fun i => (i.zero, i.size, i.bytes)) = some (some (.int .u16 0), 1, 2) := by kernel_rfl

theorem wf_u16 {z : Int} (h : 0 ≤ z ∧ z ≤ 65535) : (Lit.int .u16 z).wf = true := by
  simp [Lit.wf, IntKind.min, IntKind.max, IntKind.bits, IntKind.signed]; omega
theorem u16_bd {z : Int} (h : (Lit.int .u16 z).wf = true) : 0 ≤ z ∧ z ≤ 65535 := by
  simp [Lit.wf, IntKind.min, IntKind.max, IntKind.bits, IntKind.signed] at h; omega

/-- What the document's Words hands back. -/
def WordsOut (w : World) (n : Nat) (zs : List Int) (e : Ending) (w' : World) : Prop :=
  ∃ A N c, e = .returned (.slice A N c) ∧ N = (n + 1) / 2 ∧ RI .u16 w' w'.heap.size A N (wds zs) ∧ Below w.heap.size w w'

theorem words_of {w w' : World} {n q : Nat} {zs : List Int} {v : Value} (hq : n ≤ q) (hq1 : q ≤ n + 1) (hq2 : q % 2 = 0) (hl : zs.length = n) (hb : Bys zs)
    (hown : w'.ownsRow w.heap.size 41 1 v (q / 2) ((wds (zs.take q)).map (Value.int .u16))) (hB : Below w.heap.size w w') : WordsOut w n zs (.returned v) w' := by
  rw [List.take_of_length_le (by omega)] at hown
  obtain ⟨A, c, rfl, h1, _⟩ := own_ri (fun z hz => wf_u16 (wds_bd hb z hz)) hown
  exact ⟨A, _, c, rfl, by omega, h1, hB⟩

theorem words2 {l : List Int} {q : Nat} {x y : Int} (hq : q % 2 = 0) (hx : l[q]? = some x) (hy : l[q + 1]? = some y) : wds (l.take (q + 2)) = wds (l.take q) ++ [x * 256 + y] := by
  have h := wds_step2 (l := l) (j := q / 2) (x := x) (y := y) (by rw [show 2 * (q / 2) = q by omega]; exact hx) (by rw [show 2 * (q / 2) = q by omega]; exact hy)
  rw [show 2 * (q / 2 + 1) = q + 2 by omega, show 2 * (q / 2) = q by omega] at h
  exact h
theorem words1 {l : List Int} {q : Nat} {x : Int} (hq : q % 2 = 0) (hx : l[q]? = some x) (hy : l.length = q + 1) : wds (l.take (q + 2)) = wds (l.take q) ++ [x * 256] := by
  have h := wds_step1 (l := l) (j := q / 2) (x := x) (by rw [show 2 * (q / 2) = q by omega]; exact hx) (by omega)
  rw [show 2 * (q / 2 + 1) = q + 2 by omega, show 2 * (q / 2) = q by omega] at h
  exact h

set_option maxHeartbeats 1000000 in
theorem refWords_any (w : World) (B : Nat) (A : Option Addr) (n c : Nat) (zs : List Int) (hz : RI .u8 w B A n zs) (hB : B ≤ w.heap.size) (hn : n + 9 ≤ 140737488355328) :
    Calls Try.prog 34 #[.slice A n c] w (WordsOut w n zs) := by
  have HZ := Lib.hid hz
  clear hz
  go_enter Try.func34, Try.ntmps34
  go_wp2_with fail
  go_loopw [3, 4, 5] (fun v i _ wr => ∃ q : Nat, q ≤ n + 1 ∧ q % 2 = 0 ∧ i = .int .i64 q ∧ wr.ownsRow w.heap.size 41 1 v (q / 2) ((wds (zs.take q)).map (Value.int .u16)) ∧ Below w.heap.size w wr) (fun _ i _ _ => n + 1 - (intOf i).toNat)
  case atStart => exact ⟨0, Nat.zero_le _, rfl, rfl, ⟨by simp [wds], .inl ⟨rfl, rfl⟩⟩, Below.refl _ _⟩
  case round =>
    obtain ⟨q, hq, hqe, rfl, hown, hbel⟩ := hrel
    have HE := Lib.hid hqe
    clear hqe
    by_cases hlt : q < n
    · obtain ⟨b, o, x, rfl, hb, hx, hxw, hcell⟩ := (HZ.out.below (hbel.mono hB)).at_ hlt
      have hxb := u8_bd hxw
      have hqi : (q : Int) < n := by omega
      have HO := Lib.hid hown
      by_cases hlt2 : q + 1 < n
      · obtain ⟨b', o', y, e', _, hy, hyw, hcell'⟩ := (HZ.out.below (hbel.mono hB)).at_ hlt2
        injection e' with e'
        injection e' with e1 e2
        subst e1 e2
        have hyb := u8_bd hyw
        have HW := Lib.hid (words2 HE.out hx hy)
        have HF : Hid (∀ z ∈ [x * 256 + y], (Lit.int .u16 z).wf = true) := by
          show ∀ z ∈ [x * 256 + y], (Lit.int .u16 z).wf = true
          intro z hz
          rw [List.mem_singleton] at hz
          subst hz
          exact wf_u16 (by omega)
        have hq2 : (q : Int) + 1 < n := by omega
        clear hown hx hy
        go_wp2_with (at_builtin; refine wpList_appk .u16 70 41 2 Try.underlying70 Try.info41 _ rfl (.tmp 31) (.tmp 33) rfl w.heap.size u3 (q / 2) (wds (zs.take q)) rfl (HO.out.alloc _) (wr.heap.size + 1) (some ⟨wr.heap.size, 0, none⟩) 1 1 [x * 256 + y] rfl (fun h => by cases h) (Blk.readsk (zs := [x * 256 + y]) (Blk.new _ _ _) HF.out (Nat.lt_succ_self _)) (by omega) (by omega) (by have := hbel.size; simp; omega) ?_; intro v2 w2 hown2 hg2 hat2; have HO2 := Lib.hid hown2; have HB2 : Below w.heap.size w w2 := (hbel.alloc hbel.size _).grown hg2 (by have := hbel.size; simp; omega) (own_basek HO.out); clear hown2 hg2 hat2)
        go_roundw
        case rel => exact ⟨q + 2, by omega, by have := HE.out; omega, by go_num, by have := HO2.out; rw [HW.out, show (q + 2) / 2 = q / 2 + 1 by omega]; exact this, HB2⟩
        case measure => simp [intOf]; omega
      · have HW := Lib.hid (words1 HE.out hx (by rw [HZ.out.1]; omega))
        have HF : Hid (∀ z ∈ [x * 256], (Lit.int .u16 z).wf = true) := by
          show ∀ z ∈ [x * 256], (Lit.int .u16 z).wf = true
          intro z hz
          rw [List.mem_singleton] at hz
          subst hz
          exact wf_u16 (by omega)
        have hq2 : ¬ (q : Int) + 1 < n := by omega
        clear hown hx
        go_wp2_with (at_builtin; refine wpList_appk .u16 70 41 2 Try.underlying70 Try.info41 _ rfl (.tmp 31) (.tmp 33) rfl w.heap.size u3 (q / 2) (wds (zs.take q)) rfl (HO.out.alloc _) (wr.heap.size + 1) (some ⟨wr.heap.size, 0, none⟩) 1 1 [x * 256] rfl (fun h => by cases h) (Blk.readsk (zs := [x * 256]) (Blk.new _ _ _) HF.out (Nat.lt_succ_self _)) (by omega) (by omega) (by have := hbel.size; simp; omega) ?_; intro v2 w2 hown2 hg2 hat2; have HO2 := Lib.hid hown2; have HB2 : Below w.heap.size w w2 := (hbel.alloc hbel.size _).grown hg2 (by have := hbel.size; simp; omega) (own_basek HO.out); clear hown2 hg2 hat2)
        go_roundw
        case rel => exact ⟨q + 2, by omega, by have := HE.out; omega, by go_num, by have := HO2.out; rw [HW.out, show (q + 2) / 2 = q / 2 + 1 by omega]; exact this, HB2⟩
        case measure => simp [intOf]; omega
    · have HO := Lib.hid hown
      have hqi : ¬ (q : Int) < n := by omega
      clear hown
      go_wp2
      go_ret
      exact words_of (by omega) hq HE.out HZ.out.1 HZ.out.by_.bys HO.out hbel

theorem refsum_round {ws : List Int} {i : Nat} {x : Int} (hb : ∀ w ∈ ws, 0 ≤ w ∧ w ≤ 65535) (h : ws[i]? = some x) : ad (fo (sumOf (ws.take i))) x = fo (sumOf (ws.take (i + 1))) := by
  have hx := hb x (List.mem_of_getElem? h)
  rw [ad_fo (sumOf_nonneg fun w hw => hb w (List.mem_of_mem_take hw)) hx, List.take_add_one, h]
  simp only [Option.toList]
  rw [sumOf_snoc]

set_option maxHeartbeats 1000000 in
theorem refSum_any (w : World) (B : Nat) (A : Option Addr) (n c : Nat) (zs : List Int) (hz : RI .u8 w B A n zs) (hB : B ≤ w.heap.size) (hn : n + 9 ≤ 140737488355328) :
    Calls Try.prog 30 #[.slice A n c] w fun e w' => e = .returned (.int .u16 (fo (tot 0 zs))) ∧ Below w.heap.size w w' := by
  have HW := Lib.hid (refWords_any w B A n c zs hz hB hn)
  have HB := Lib.hid (wds_bd hz.by_.bys)
  have HT := Lib.hid (sumOf_wds zs)
  clear hz
  go_enter Try.func30, Try.ntmps30
  go_wp2_with fail
  refine Calls.mono HW.out ?_
  rintro e w1 ⟨A1, N, c1, rfl, hN, hri, hbel⟩
  obtain ⟨ws, hws⟩ : ∃ ws, ws = wds zs := ⟨_, rfl⟩
  have HBW : Hid (∀ w ∈ ws, 0 ≤ w ∧ w ≤ 65535) := by show ∀ w ∈ ws, 0 ≤ w ∧ w ≤ 65535; rw [hws]; exact HB.out
  have HTW : Hid (sumOf ws = tot 0 zs) := by show _ = _; rw [hws]; exact HT.out
  rw [← hws] at hri
  have HRI := Lib.hid hri
  have hNb : N ≤ 140737488355328 := by omega
  clear hws hN hri HW HB HT
  go_wp2_with fail
  go_loop [4, 5] (fun s i => ∃ j : Nat, j ≤ N ∧ i = .int .i64 j ∧ s = .int .u16 (fo (sumOf (ws.take j)))) (fun _ i => N - (intOf i).toNat)
  case atStart => exact ⟨0, Nat.zero_le _, rfl, rfl⟩
  case round =>
    obtain ⟨j, hj, rfl, rfl⟩ := hrel
    by_cases hlt : j < N
    · obtain ⟨b, o, x, rfl, hb, hx, hxw, hcell⟩ := HRI.out.at_ hlt
      have hji : (j : Int) < N := by omega
      have HR := Lib.hid (refsum_round HBW.out hx)
      have HA := Lib.hid (refAdd_any (fo (sumOf (ws.take j))) x (W16.fo (sumOf_nonneg fun w hw => HBW.out w (List.mem_of_mem_take hw))) (u16_bd hxw) w1)
      clear hx
      go_wp2_with fail
      refine Calls.mono HA.out ?_
      rintro e w' ⟨rfl, rfl⟩
      go_wp2
      go_round
      case rel => exact ⟨j + 1, by omega, by go_num, u16_eq HR.out⟩
      case measure => simp [intOf]; omega
    · obtain rfl : j = N := by omega
      have HE : Hid (ws.take j = ws) := by show _ = _; exact List.take_of_length_le (by rw [HRI.out.1]; exact Nat.le_refl _)
      go_wp2
      go_ret
      exact ⟨ret_k (by rw [HE.out, HTW.out]), hbel⟩

end Go.Proofs.Ytljdebpemdjliaa
