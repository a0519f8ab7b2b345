/-
  What the laws' own words 'word', 'copied' and 'nought' answer.
-/
import Derived.Test.YtelkjcgfielbpaaTAwake
namespace Go.Proofs.Ytelkjcgfielbpaa
open Go.RowKit
set_option linter.unusedVariables false

set_option maxHeartbeats 400000 in
theorem word_no (w : World) (A : Option Addr) (n c : Nat) (at_ : Int) (h : n < 2) :
    Calls Try.prog 21 #[.slice A n c, .int .i64 at_] w fun e w' => e = .returned (.tuple #[.int .i64 0, .bool false]) ∧ w = w' := by
  have e : ((n : Int) / 2 == 0) = true := by simp; omega
  go_enter Try.func21, Try.ntmps21
  go_wp2
  go_ret2
  exact ⟨rfl, rfl⟩

/-- An even place, and the one behind it. -/
def WordOut (n : Nat) (w : World) (e : Ending) (w' : World) : Prop := ∃ k : Nat, k % 2 = 0 ∧ k + 1 < n ∧ e = .returned (.tuple #[.int .i64 k, .bool true]) ∧ w = w'
theorem word_of {n : Nat} {w : World} {r : Int} (h0 : 0 ≤ r) (h1 : r < (n : Int) / 2) : WordOut n w (.returned (.tuple #[.int .i64 (r * 2), .bool true])) w :=
  ⟨(r * 2).toNat, by omega, by omega, by rw [Int.toNat_of_nonneg (by omega)], rfl⟩

set_option maxHeartbeats 400000 in
theorem word_yes (w : World) (A : Option Addr) (n c : Nat) (at_ : Int) (h : 2 ≤ n) (hn : n ≤ 140737488355328) (ha : -9223372036854775808 ≤ at_) (hb : at_ ≤ 9223372036854775807) :
    Calls Try.prog 21 #[.slice A n c, .int .i64 at_] w (WordOut n w) := by
  have e : ((n : Int) / 2 == 0) = false := by simp; omega
  by_cases hs : at_ < 0
  · have r0 : 0 ≤ (-(at_ + 1)) % ((n : Int) / 2) := Int.emod_nonneg _ (by omega)
    have r1 : (-(at_ + 1)) % ((n : Int) / 2) < (n : Int) / 2 := Int.emod_lt_of_pos _ (by omega)
    have E : (at_ + 1).tmod ((n : Int) / 2) = -((-(at_ + 1)) % ((n : Int) / 2)) := by
      rw [← Int.tmod_eq_emod_of_nonneg (by omega), Int.neg_tmod, Int.neg_neg]
    obtain ⟨r, hr⟩ : ∃ r, r = (-(at_ + 1)) % ((n : Int) / 2) := ⟨_, rfl⟩
    rw [← hr] at r0 r1 E
    have R1 := Lib.hid r1
    have r2 : r ≤ 70368744177664 := by omega
    clear r1 hr
    go_enter Try.func21, Try.ntmps21
    go_wp2
    go_ret2
    exact word_of r0 R1.out
  · have r0 : 0 ≤ at_ % ((n : Int) / 2) := Int.emod_nonneg _ (by omega)
    have r1 : at_ % ((n : Int) / 2) < (n : Int) / 2 := Int.emod_lt_of_pos _ (by omega)
    have R0 := Lib.hid r0
    have R1 := Lib.hid r1
    have s0 : 0 ≤ at_ := by omega
    have s1 : 0 < (n : Int) / 2 := by omega
    have r2 : at_ % ((n : Int) / 2) ≤ 70368744177664 := by omega
    clear r1
    go_enter Try.func21, Try.ntmps21
    go_wp2
    go_ret2
    exact word_of R0.out R1.out

/-- A block that begins with these bytes. -/
def Starts (w : World) (g n cap : Nat) (zs : List Int) : Prop := ∃ cur : Array Value, Blk w g 5 cur ∧ cur.size = cap ∧ n ≤ cap ∧ cap ≤ 9223372036854775807 ∧ zs.length = n ∧ Bys zs ∧ cur.toList.take n = zs.map (Value.int .u8)
theorem Starts.of_own {w : World} {base g n cap : Nat} {zs : List Int} (hb : Bys zs) (h : w.ownsRow base 5 1 (.slice (some ⟨g, 0, none⟩) n cap) n (zs.map (Value.int .u8))) : Starts w g n cap zs := by
  rcases h.2 with ⟨h0, _⟩ | ⟨g', cap', cur, hv', h1, h2, h3, h4, h5, h6⟩
  · cases h0
  · injection hv' with e1 e2 e3
    injection e1 with e1
    injection e1 with e1
    subst e1 e3
    exact ⟨cur, h2, by omega, by omega, h4, by simpa using h.1, hb, by simpa using h6⟩
theorem Starts.cell {w : World} {g n cap j : Nat} {zs : List Int} {z : Int} (h : Starts w g n cap zs) (hz : zs[j]? = some z) : w.cell? ⟨g, j, none⟩ = some (.int .u8 z) := by
  obtain ⟨cur, h1, h2, h3, h4, h5, h6, h7⟩ := h
  rw [h1.cell]
  have hj : j < n := by have := (List.getElem?_eq_some_iff.1 hz).1; omega
  have e : (cur.toList.take n)[j]? = some (.int .u8 z) := by rw [h7, List.getElem?_map, hz]; rfl
  rw [List.getElem?_take, if_pos hj] at e
  simpa using e
theorem Starts.frozen {w : World} {g n cap j : Nat} {zs : List Int} (h : Starts w g n cap zs) : w.frozen? ⟨g, j, none⟩ = false := by
  obtain ⟨cur, h1, _⟩ := h
  exact h1.frozen j
theorem Starts.set {w : World} {g n cap j : Nat} {zs : List Int} {u : Int} (h : Starts w g n cap zs) (hu : 0 ≤ u ∧ u ≤ 255) : Starts (w.setCell ⟨g, j, none⟩ (.int .u8 u)) g n cap (zs.set j u) := by
  obtain ⟨cur, h1, h2, h3, h4, h5, h6, h7⟩ := h
  refine ⟨_, h1.set_ j _, by simpa using h2, h3, h4, by simpa using h5, bys_set h6 j hu, ?_⟩
  rw [Array.toList_setIfInBounds, List.take_set, h7, List.map_set]
theorem Starts.ri {w : World} {g n cap : Nat} {zs : List Int} (h : Starts w g n cap zs) {B : Nat} (hB : g < B) : RI .u8 w B (some ⟨g, 0, none⟩) n zs := by
  have h0 := h
  obtain ⟨cur, h1, h2, h3, h4, h5, h6, h7⟩ := h0
  refine ⟨h5, fun _ => ⟨g, 0, rfl, hB, fun j z hz => ?_⟩, fun z hz => wf_u8 (h6 z hz)⟩
  rw [Nat.zero_add]
  exact h.cell hz
theorem Starts.lt {w : World} {g n cap : Nat} {zs : List Int} (h : Starts w g n cap zs) : g < w.heap.size := by
  obtain ⟨cur, h1, h2⟩ := h
  exact h1.lt

/-- What 'copied' hands back. -/
def CopyOut (w : World) (n : Nat) (zs : List Int) (e : Ending) (w' : World) : Prop :=
  ∃ g c, e = .returned (.slice (some ⟨g, 0, none⟩) n c) ∧ w.heap.size ≤ g ∧ Starts w' g n c zs ∧ Below w.heap.size w w'

theorem copy_facts {w w1 : World} {g cap n k : Nat} {v : Int} {zs : List Int} (hb : Bys zs) (hl : zs.length = n) (hk : k + 1 < n) (hv : W16 v)
    (hown : w1.ownsRow w.heap.size 5 1 (.slice (some ⟨g, 0, none⟩) (0 + n) cap) (0 + n) (([] ++ zs).map (Value.int .u8))) (hg : w.grownBy w1 (Value.ownBlock (.slice none 0 0))) (hat : some g = Value.ownBlock (.slice none 0 0) ∨ g = w.heap.size) :
    ∃ x y, w1.cell? ⟨g, k, none⟩ = some (.int .u8 x) ∧ w1.frozen? ⟨g, k, none⟩ = false ∧ (w1.setCell ⟨g, k, none⟩ (.int .u8 (v / 256))).cell? ⟨g, k + 1, none⟩ = some (.int .u8 y) ∧ (w1.setCell ⟨g, k, none⟩ (.int .u8 (v / 256))).frozen? ⟨g, k + 1, none⟩ = false ∧
      Hid (CopyOut w n (lay2 zs k v) (.returned (.slice (some ⟨g, 0, none⟩) n cap)) ((w1.setCell ⟨g, k, none⟩ (.int .u8 (v / 256))).setCell ⟨g, k + 1, none⟩ (.int .u8 (v % 256)))) := by
  obtain ⟨v0, v1⟩ := hv
  have HB1 : Below w.heap.size w w1 := (Below.refl _ _).grown hg (Nat.le_refl _) (fun k hk => by simp [Value.ownBlock] at hk)
  have hgw : w.heap.size ≤ g := by
    rcases hat with h | h
    · simp [Value.ownBlock] at h
    · omega
  have hst : Starts w1 g n cap zs := Starts.of_own hb (by simpa using hown)
  obtain ⟨x, hx⟩ : ∃ x, zs[k]? = some x := ⟨_, List.getElem?_eq_getElem (by omega)⟩
  obtain ⟨y, hy⟩ : ∃ y, (zs.set k (v / 256))[k + 1]? = some y := ⟨_, List.getElem?_eq_getElem (by simp; omega)⟩
  have hst2 := hst.set (j := k) (u := v / 256) (by omega)
  exact ⟨x, y, hst.cell hx, hst.frozen, hst2.cell hy, hst2.frozen, Lib.hid ⟨g, cap, rfl, hgw, hst2.set (j := k + 1) (u := v % 256) (by omega), (HB1.setCell (p := ⟨g, k, none⟩) hgw (.int .u8 (v / 256))).setCell (p := ⟨g, k + 1, none⟩) hgw (.int .u8 (v % 256))⟩⟩

set_option maxHeartbeats 1000000 in
theorem copied_any (w : World) (B : Nat) (A : Option Addr) (n c k : Nat) (v : Int) (zs : List Int) (hz : RI .u8 w B A n zs) (hA : A = none → c = 0) (hB : B ≤ w.heap.size) (hk : k + 1 < n) (hv : W16 v) (hn : n ≤ 140737488355328) :
    Calls Try.prog 22 #[.slice A n c, .int .i64 k, .int .u16 v] w (CopyOut w n (lay2 zs k v)) := by
  have HZ := Lib.hid hz
  have HA := Lib.hid hA
  obtain ⟨v0, v1⟩ := hv
  have hk0 : (k : Int) < n := by omega
  have hk1 : (k : Int) + 1 < n := by omega
  have e1 : IntKind.u16.wrap (v.tdiv 256) % 256 = v / 256 := by
    rw [Int.tdiv_eq_ediv_of_nonneg v0, IntKind.wrap_u16]; omega
  clear hz hA
  go_enter Try.func22, Try.ntmps22
  go_wp2_with (at_builtin; refine wpList_app1 _ rfl (.tmp 8) (.tmp 9) rfl w.heap.size (.slice none 0 0) 0 [] rfl ⟨by simp, .inl ⟨rfl, rfl⟩⟩ B A n c zs rfl HA.out HZ.out (by omega) (Nat.le_refl _) (by omega) ?_; intro g cap w1 hown1 hg1 hat1; obtain ⟨x, y, c1, f1, c2, f2, HS⟩ := copy_facts HZ.out.by_.bys HZ.out.1 hk ⟨v0, v1⟩ hown1 hg1 hat1; clear hown1 hg1 hat1; rw [Nat.zero_add])
  go_ret
  exact HS.out

/-- Is each 0? -/
def nil0 (l : List Int) : Bool := l.all (· == 0)
def AllZ (l : List Int) : Prop := ∀ x ∈ l, x = 0
theorem nil0_yes {l : List Int} (h : AllZ l) : nil0 l = true := by simpa [nil0, AllZ] using h
theorem nil0_no {l : List Int} {j : Nat} {z : Int} (h : l[j]? = some z) (hz : z ≠ 0) : nil0 l = false := by
  cases e : nil0 l with
  | false => rfl
  | true => exact absurd (by simpa using List.all_eq_true.1 e z (List.mem_of_getElem? h)) hz
theorem nil0_tot {l : List Int} (hb : Bys l) (h : nil0 l = false) : 0 < tot 0 l := by
  have h0 := tot_nonneg hb 0
  rcases Int.lt_or_eq_of_le h0 with h1 | h1
  · exact h1
  · have := nil0_yes (fun x hx => tot_zero hb 0 h1.symm x hx)
    rw [h] at this; cases this
theorem ret_b {a b : Bool} (h : a = b) : Ending.returned (.bool a) = .returned (.bool b) := by rw [h]

set_option maxHeartbeats 400000 in
theorem nought_any (w : World) (B : Nat) (A : Option Addr) (n c : Nat) (zs : List Int) (hz : RI .u8 w B A n zs) (hn : n ≤ 4611686018427387904) :
    Calls Try.prog 23 #[.slice A n c] w fun e w' => e = .returned (.bool (nil0 zs)) ∧ w = w' := by
  have HZ := Lib.hid hz
  clear hz
  go_enter Try.func23, Try.ntmps23
  go_wp2
  go_loop [3] (fun i => ∃ j : Nat, j ≤ n ∧ i = .int .i64 j ∧ AllZ (zs.take j)) (fun i => n - (intOf i).toNat)
  case atStart => exact ⟨0, Nat.zero_le _, rfl, fun x hx => by simp at hx⟩
  case round =>
    obtain ⟨j, hj, rfl, hall⟩ := hrel
    by_cases hlt : j < n
    · obtain ⟨b, o, z, rfl, hb, hz1, hzw, hcell⟩ := HZ.out.at_ hlt
      have hji : (j : Int) < n := by omega
      by_cases h0 : z = 0
      · subst h0
        have HAl : Hid (AllZ (zs.take (j + 1))) := by
          show AllZ _
          intro x hx
          rw [List.take_add_one, hz1] at hx
          rcases List.mem_append.1 hx with h | h
          · exact hall x h
          · simpa using h
        clear hz1 hall
        go_wp2
        go_round
        case rel => exact ⟨j + 1, by omega, by go_num, HAl.out⟩
        case measure => simp [intOf]; omega
      · have hne : (z != 0) = true := by simpa using h0
        have HN := Lib.hid (nil0_no hz1 h0)
        clear hz1 hall h0
        go_wp2
        go_ret
        exact ⟨ret_b HN.out.symm, rfl⟩
    · obtain rfl : j = n := by omega
      have HN := Lib.hid (nil0_yes (l := zs) (by rwa [List.take_of_length_le (by rw [HZ.out.1]; exact Nat.le_refl _)] at hall))
      clear hall
      go_wp2
      go_ret
      exact ⟨ret_b HN.out.symm, rfl⟩
end Go.Proofs.Ytelkjcgfielbpaa
