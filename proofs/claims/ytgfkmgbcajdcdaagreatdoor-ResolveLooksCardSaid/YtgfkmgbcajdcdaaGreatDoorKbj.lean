/-
  Several texts in one: TrC, TrF, TrAa.
-/
import Derived.Test.YtgfkmgbcajdcdaaGreatDoorKbi
import Derived.Test.YtgfkmgbcajdcdaaGreatDoorKbg
import Derived.Test.YtgfkmgbcajdcdaaGreatDoorKay
import Derived.Test.YtgfkmgbcajdcdaaGreatDoorKbh
namespace Go.Proofs.YtgfkmgbcajdcdaaGreatDoor
open Go.RowKit Ifs
set_option linter.unusedVariables false
theorem g1_lt {x : Nat} (h : x < 2 ^ 64) : g1O 8 x < 2 ^ 64 := by
  unfold g1O
  rw [masks.1]
  have h1 : x / 2 &&& 6148914691236517205 ≤ 6148914691236517205 := Nat.and_le_right
  have h2 : x &&& 6148914691236517205 ≤ 6148914691236517205 := Nat.and_le_right
  omega
theorem g2_lt (x : Nat) : g2O 8 x < 2 ^ 63 := by
  unfold g2O
  rw [masks.2.1]
  have h1 : x / 4 &&& 3689348814741910323 ≤ 3689348814741910323 := Nat.and_le_right
  have h2 : x &&& 3689348814741910323 ≤ 3689348814741910323 := Nat.and_le_right
  omega
set_option maxRecDepth 100000 in
set_option maxHeartbeats 4000000 in
theorem ones_at (x : Nat) (hx : x < 2 ^ 64) (w : World) :
    Calls Tryz.prog 158 #[.int .u64 (x : Int)] w fun e w' => e = .returned (.int .i64 ((cntN x 64 : Nat) : Int)) ∧ w' = w := by
  have hA : bits .and .u64 ((x : Int) / 2) 6148914691236517205 = ((x / 2 &&& mkO 85 8 : Nat) : Int) := by
    rw [masks.1]; exact u64_and_nat (x / 2) 6148914691236517205 (by omega) (by decide)
  have hB : bits .and .u64 (x : Int) 6148914691236517205 = ((x &&& mkO 85 8 : Nat) : Int) := by
    rw [masks.1]; exact u64_and_nat x 6148914691236517205 (by omega) (by decide)
  have hg := g1_lt hx
  have h1 : IntKind.u64.wrap (((x / 2 &&& mkO 85 8 : Nat) : Int) + ((x &&& mkO 85 8 : Nat) : Int)) = ((g1O 8 x : Nat) : Int) := by
    unfold g1O at hg ⊢
    rw [IntKind.wrap_u64]; omega
  obtain ⟨y, hy⟩ : ∃ y, g1O 8 x = y := ⟨_, rfl⟩
  rw [hy] at h1 hg
  have hC : bits .and .u64 ((y : Int) / 4) 3689348814741910323 = ((y / 4 &&& mkO 51 8 : Nat) : Int) := by
    rw [masks.2.1]; exact u64_and_nat (y / 4) 3689348814741910323 (by omega) (by decide)
  have hD : bits .and .u64 (y : Int) 3689348814741910323 = ((y &&& mkO 51 8 : Nat) : Int) := by
    rw [masks.2.1]; exact u64_and_nat y 3689348814741910323 (by omega) (by decide)
  have hg2 := g2_lt y
  have h2 : IntKind.u64.wrap (((y / 4 &&& mkO 51 8 : Nat) : Int) + ((y &&& mkO 51 8 : Nat) : Int)) = ((g2O 8 y : Nat) : Int) := by
    unfold g2O at hg2 ⊢
    rw [IntKind.wrap_u64]; omega
  obtain ⟨z, hz⟩ : ∃ z, g2O 8 y = z := ⟨_, rfl⟩
  rw [hz] at h2 hg2
  obtain ⟨q, hq⟩ : ∃ q, z / 16 + z = q := ⟨_, rfl⟩
  have hE : IntKind.u64.wrap ((z : Int) / 16 + (z : Int)) = (q : Int) := by rw [IntKind.wrap_u64]; omega
  have hF : bits .and .u64 (q : Int) 1085102592571150095 = ((g3O 8 z : Nat) : Int) := by
    unfold g3O
    rw [masks.2.2, hq]; exact u64_and_nat q 1085102592571150095 (by omega) (by decide)
  obtain ⟨v, hv, hv0, hv1, hv2⟩ := fin_O x
  have hvz : g3O 8 z = v := by rw [← hz, ← hy, allO]; exact hv
  rw [hvz] at hF
  obtain ⟨r, hr⟩ : ∃ r, v + v / 256 = r := ⟨_, rfl⟩
  obtain ⟨s, hs⟩ : ∃ s, r + r / 65536 = s := ⟨_, rfl⟩
  obtain ⟨t, ht⟩ : ∃ t, s + s / 4294967296 = t := ⟨_, rfl⟩
  rw [hr, hs, ht] at hv1 hv2
  have i1 : IntKind.u64.wrap ((v : Int) + (v : Int) / 256) = (r : Int) := by rw [IntKind.wrap_u64]; omega
  have i2 : IntKind.u64.wrap ((r : Int) + (r : Int) / 65536) = (s : Int) := by rw [IntKind.wrap_u64]; omega
  have i3 : IntKind.u64.wrap ((s : Int) + (s : Int) / 4294967296) = (t : Int) := by rw [IntKind.wrap_u64]; omega
  have i4 : IntKind.i64.wrap (t : Int) = (t : Int) := by rw [IntKind.wrap_i64]; omega
  have HV := Lib.hid hv2
  have HTt := Lib.hid hv1
  clear hx hq hg hy hg2 hz hv hv0 hv1 hv2 hvz hr hs ht
  go_enter Tryz.func158, Tryz.ntmps158
  go_wp2
  go_ret
  refine ⟨?_, rfl⟩
  have h127 : bits .and .i64 (t : Int) 127 = ((cntN x 64 : Nat) : Int) := by
    have := and_lowI (t : Int) 7 (by decide)
    have h9 := HV.out
    have h8 : bits .and .i64 (t : Int) 127 = (t : Int) % 128 := by simpa using this
    rw [h8]; omega
  show Ending.returned (.int .i64 (bits .and .i64 (t : Int) 127)) = _
  rw [h127]
theorem cnt_mod (x : Nat) {b : Nat} (hb : b ≤ 64) : cntN (x % 2 ^ b) 64 = cntN x b := by
  obtain ⟨j, hj⟩ : ∃ j, 64 = b + j := ⟨64 - b, by omega⟩
  rw [hj]
  clear hj hb
  induction j with
  | zero => exact cntN_congr b fun i hi => by rw [Nat.testBit_mod_two_pow, decide_eq_true hi, Bool.true_and]
  | succ j ih =>
    show cntN (x % 2 ^ b) (b + j + 1) = _
    rw [cntN_succ, ih, Nat.testBit_mod_two_pow, decide_eq_false (show ¬ b + j < b by omega)]
    simp
theorem mask_low (b : Nat) (hb : b ≤ 64) : IntKind.u64.wrap (IntKind.u64.wrap (2 ^ b) - 1) = ((2 ^ b - 1 : Nat) : Int) := by
  have h1 : (2 : Nat) ^ b ≤ 2 ^ 64 := Nat.pow_le_pow_right (by decide) hb
  have h2 := pw b
  rw [show (2 : Int) ^ b = ((2 ^ b : Nat) : Int) by simp, IntKind.wrap_u64, IntKind.wrap_u64]
  generalize (2 : Nat) ^ b = p at *
  omega
set_option maxRecDepth 100000 in
set_option maxHeartbeats 4000000 in
theorem count_any (x b : Nat) (hx : x < 2 ^ 64) (hb : b ≤ 64) (w : World) :
    Calls Tryz.prog 115 #[.int .u64 (x : Int), .int .i64 (b : Int)] w fun e w' => e = .returned (.int .i64 ((cntN x b : Nat) : Int)) ∧ w' = w := by
  have hm := mask_low b hb
  have h1 : (2 : Nat) ^ b ≤ 2 ^ 64 := Nat.pow_le_pow_right (by decide) hb
  have h2 := pw b
  have hA : bits .and .u64 (x : Int) ((2 ^ b - 1 : Nat) : Int) = ((x % 2 ^ b : Nat) : Int) := by
    rw [u64_and_nat x _ hx (by omega), Nat.and_two_pow_sub_one_eq_mod]
  have HO := Lib.hid (ones_at (x % 2 ^ b) (Nat.lt_of_le_of_lt (Nat.mod_le _ _) hx))
  rw [cnt_mod x hb] at HO
  obtain ⟨k, hk⟩ : ∃ k, 2 ^ b - 1 = k := ⟨_, rfl⟩
  obtain ⟨y, hy⟩ : ∃ y, x % 2 ^ b = y := ⟨_, rfl⟩
  rw [hk] at hm hA
  rw [hy] at hA HO
  have hmin : min b 64 = b := Nat.min_eq_left hb
  clear hx h1 h2 hk hy
  go_enter Tryz.func115, Tryz.ntmps115
  go_wp2_with fail
  refine Calls.mono (HO.out _) ?_
  rintro e w' ⟨rfl, rfl⟩
  go_wp2
  go_ret
  exact ⟨rfl, rfl⟩
end Go.Proofs.YtgfkmgbcajdcdaaGreatDoor

namespace Go.Proofs.YtgfkmgbcajdcdaaGreatDoor
open Go.RowKit Ifs
set_option linter.unusedVariables false
def ndC (n : NdN) : List Value := [.int .u64 (n.nm : Int), .int .u64 (n.lm : Int), .int .i64 (n.fn : Int), .int .i64 (n.fl : Int)]
def lvC (x : Int) : List Value := [.int .i64 x]
theorem ndSz : (Tryz.prog.info? 192).map (·.size) = some 4 := by kernel_rfl
theorem nd_cells {w : World} {base g n c k : Nat} {l : List NdN} (h : w.ownsRow base 192 4 (.slice (some ⟨g, 0, none⟩) n c) n (l.flatMap ndC)) {e : NdN} (he : l[k]? = some e) :
    w.cell? ⟨g, k * 4, none⟩ = some (.int .u64 (e.nm : Int)) ∧ w.cell? ⟨g, k * 4 + 1, none⟩ = some (.int .u64 (e.lm : Int)) ∧ w.cell? ⟨g, k * 4 + 2, none⟩ = some (.int .i64 (e.fn : Int)) ∧ w.cell? ⟨g, k * 4 + 3, none⟩ = some (.int .i64 (e.fl : Int)) := by
  have hat := fun q hq => flatk_at (n := 4) (f := ndC) (fun _ => rfl) he (k := q) hq
  exact ⟨own_cellN h (hat 0 (by decide)), own_cellN h (hat 1 (by decide)), own_cellN h (hat 2 (by decide)), own_cellN h (hat 3 (by decide))⟩
theorem lv_cell {w : World} {base g n c k : Nat} {l : List Int} (h : w.ownsRow base 3 1 (.slice (some ⟨g, 0, none⟩) n c) n (l.flatMap lvC)) {e : Int} (he : l[k]? = some e) : w.cell? ⟨g, k, none⟩ = some (.int .i64 e) := by
  have hat := flatk_at (n := 1) (f := lvC) (fun _ => rfl) he (k := 0) (by decide)
  have := own_cellN h hat
  simpa using this
theorem bit_and (m g : Nat) (hm : m < 2 ^ 64) : bits .and .u64 ((m : Int) / 2 ^ g) 1 = if m.testBit g = true then 1 else 0 := by
  have e2 : (m : Int) / 2 ^ g = ((m / 2 ^ g : Nat) : Int) := by simp
  rw [e2, show (1 : Int) = ((1 : Nat) : Int) from rfl, u64_and_nat _ 1 (Nat.lt_of_le_of_lt (Nat.div_le_self _ _) hm) (by decide), Nat.and_one_is_mod, ← Nat.shiftRight_eq_div_pow]
  rw [Nat.testBit, Nat.one_and_eq_mod_two]
  have := Nat.mod_two_eq_zero_or_one (m >>> g)
  rcases this with h | h <;> rw [h] <;> rfl
set_option maxRecDepth 100000 in
set_option maxHeartbeats 8000000 in
theorem tfind_any (NA LA : Option Addr) (nn nc ln lc : Nat) (N : List NdN) (P : List PtN) (LV : List Int) (root : PtN) (hB : BlN root N P LV) (hl : N.length = P.length) (h0 : root.d = 0) (hnn : N.length = nn) (hln : LV.length = ln) (hn9 : nn ≤ 100000) (hl9 : ln ≤ 10000000)
    (hw : ∀ n ∈ N, n.nm < 2 ^ 64 ∧ n.lm < 2 ^ 64 ∧ n.fn ≤ 100000 ∧ n.fl ≤ 10000000) (s : Bool) (h l : Nat) (ha : okAd (s, h, l)) (hm : ∀ r ∈ root.rs, r.m < 2 ^ 132) (w : World)
    (hN : w.ownsRow 0 192 4 (.slice NA nn nc) nn (N.flatMap ndC)) (hL : w.ownsRow 0 3 1 (.slice LA ln lc) ln (LV.flatMap lvC)) :
    Calls Tryz.prog 73 #[.agg #[.slice NA nn nc, .slice LA ln lc], adr s (h : Int) (l : Int)] w fun e w' => e = .returned (.int .i64 (valN root.rs root.nx (numA (s, h, l)))) ∧ Tch w w' [] := by
  obtain ⟨n0, hk0⟩ := WkN.start hB hl h0 (numA_lt ha) hm
  obtain ⟨t, ht⟩ : ∃ t, valN root.rs root.nx (numA (s, h, l)) = t := ⟨_, rfl⟩
  obtain ⟨M, hM⟩ : ∃ M, numA (s, h, l) = M := ⟨_, rfl⟩
  rw [ht] at hk0 ⊢
  have HGr := Lib.hid (fun d (hd : d ≤ 21) W => group_any s h l d ha hd W)
  rw [hM] at hk0 HGr
  have HB := Lib.hid hB
  have HL := Lib.hid hl
  have HW := Lib.hid hw
  have HRn := Lib.hid (fun W (hW : Tch w W []) => own_tch hN hW (by simp))
  have HRl := Lib.hid (fun W (hW : Tch w W []) => own_tch hL hW (by simp))
  have HNn := Lib.hid hnn
  have HLn := Lib.hid hln
  obtain ⟨gN, rfl⟩ := slice_some hN (by have := (List.getElem?_eq_some_iff.1 hk0.nd).1; omega)
  obtain ⟨c0, c1, c2, c3⟩ := nd_cells (HRn.out _ (((Tch.refl w []).alloc (.cells #[.slice (some ⟨gN, 0, none⟩) nn nc, .slice LA ln lc] 149)).alloc (.cells #[.bool s, .int .u64 (h : Int), .int .u64 (l : Int)] 28))) hk0.nd
  have hpos : (0 : Int) < (nn : Int) := by have := (List.getElem?_eq_some_iff.1 hk0.nd).1; omega
  have HK0 := Lib.hid hk0
  clear hk0 ht hM hB hl h0 hw hN hL hnn hln hm ha
  obtain ⟨tb, htb⟩ : ∃ tb, w.heap.size = tb := ⟨_, rfl⟩
  obtain ⟨W1, hW1⟩ : ∃ W, (((w.alloc (.cells #[.slice (some ⟨gN, 0, none⟩) nn nc, .slice LA ln lc] 149)).alloc (.cells #[.bool s, .int .u64 (h : Int), .int .u64 (l : Int)] 28)).alloc (.cells #[.int .u64 (n0.nm : Int), .int .u64 (n0.lm : Int), .int .i64 (n0.fn : Int), .int .i64 (n0.fl : Int)] 192)) = W := ⟨_, rfl⟩
  have HT1 : Hid (Tch w W1 []) := Lib.hid (hW1 ▸ ((((Tch.refl w []).alloc _).alloc _).alloc _))
  have HXt : Hid (Blk W1 tb 149 #[.slice (some ⟨gN, 0, none⟩) nn nc, .slice LA ln lc]) := Lib.hid (hW1 ▸ htb ▸ ((Blk.new w _ _).alloc _).alloc _)
  have HXa : Hid (Blk W1 (tb + 1) 28 #[.bool s, .int .u64 (h : Int), .int .u64 (l : Int)]) := Lib.hid (by
    have h9 := (Blk.new (w.alloc (.cells #[.slice (some ⟨gN, 0, none⟩) nn nc, .slice LA ln lc] 149)) 28 #[.bool s, .int .u64 (h : Int), .int .u64 (l : Int)]).alloc (.cells #[.int .u64 (n0.nm : Int), .int .u64 (n0.lm : Int), .int .i64 (n0.fn : Int), .int .i64 (n0.fl : Int)] 192)
    rw [World.size_alloc, hW1, htb] at h9; exact h9)
  have HXn : Hid (Blk W1 (tb + 1 + 1) 192 #[.int .u64 (n0.nm : Int), .int .u64 (n0.lm : Int), .int .i64 (n0.fn : Int), .int .i64 (n0.fl : Int)]) := Lib.hid (by
    have h9 := Blk.new ((w.alloc (.cells #[.slice (some ⟨gN, 0, none⟩) nn nc, .slice LA ln lc] 149)).alloc (.cells #[.bool s, .int .u64 (h : Int), .int .u64 (l : Int)] 28)) 192 #[.int .u64 (n0.nm : Int), .int .u64 (n0.lm : Int), .int .i64 (n0.fn : Int), .int .i64 (n0.fl : Int)]
    rw [World.size_alloc, World.size_alloc, hW1, htb] at h9; exact h9)
  have HW1 := Lib.hid (And.intro hW1 htb)
  clear hW1 htb
  go_enter Tryz.func73, Tryz.ntmps73
  go_wp2_with fail
  rw [HW1.out.1, HW1.out.2]
  obtain ⟨nb, hnb⟩ : ∃ nb, tb + 1 + 1 = nb := ⟨_, rfl⟩
  rw [hnb] at HXn ⊢
  have HNb := Lib.hid (And.intro hnb HW1.out.2)
  have HAb := Lib.hid (fun W (hW : Tch W1 W [nb]) => hW.blk HXa.out (by simp; omega))
  have HTb := Lib.hid (fun W (hW : Tch W1 W [nb]) => hW.blk HXt.out (by simp; omega))
  have HTw := Lib.hid (fun W (hW : Tch W1 W [nb]) => show Tch w W [] from HT1.out.trans_fre hW (fun s hs => .inr (by have h1 := List.mem_singleton.1 hs; have h2 := HW1.out.2; omega)))
  clear hnb c0 c1 c2 c3
  go_loopw [6] (fun dv wr => ∃ (i d : Nat) (n : NdN), dv = .int .i64 (d : Int) ∧ d ≤ 21 ∧ Hid (WkN N P M t i d n) ∧ Hid (Blk wr nb 192 #[.int .u64 (n.nm : Int), .int .u64 (n.lm : Int), .int .i64 (n.fn : Int), .int .i64 (n.fl : Int)]) ∧ Hid (Tch W1 wr [nb])) (fun dv _ => 22 - (intOf dv).toNat)
  case atStart => exact ⟨0, 0, n0, rfl, by decide, HK0, HXn, Lib.hid (Tch.refl _ _)⟩
  case round =>
    obtain ⟨i, d, n, rfl, hd, hk, hbk, hT⟩ := hrel
    have d1 : IntKind.i64.wrap ((d : Int) + 1) = (d : Int) + 1 := by rw [IntKind.wrap_i64]; omega
    have hnm := HW.out n (List.mem_of_getElem? hk.out.nd)
    have HG := Lib.hid (HGr.out d hd)
    have hg := grpN_lt M d
    have HLf := Lib.hid (hk.out.leaf HB.out)
    have HNd := Lib.hid (hk.out.node HB.out HL.out)
    obtain ⟨g, hgd⟩ : ∃ g, grpN M d = g := ⟨_, rfl⟩
    rw [hgd] at HG hg HLf HNd
    have hba := bit_and n.nm g hnm.1
    have HC1 := Lib.hid (fun W => count_any n.lm (g + 1) hnm.2.1 (by omega) W)
    have HC2 := Lib.hid (fun W => count_any n.nm g hnm.1 (by omega) W)
    have hmin : min g 64 = g := by omega
    have g1 : IntKind.i64.wrap ((g : Int) + 1) = (g : Int) + 1 := by rw [IntKind.wrap_i64]; omega
    have HF := Lib.hid hnm
    obtain ⟨nm, fn, fl, lm, hnn⟩ : ∃ a b c d, n = ⟨b, a, c, d⟩ := ⟨n.nm, n.fn, n.fl, n.lm, rfl⟩
    subst hnn
    simp only at hbk hba HC1 HC2 HF HLf HNd
    obtain ⟨a0, a1, a2⟩ := (HAb.out wr hT.out).c3
    clear hgd hnm
    go_wp2_with fail
    refine Calls.mono (HG.out wr) ?_
    rintro e w5 ⟨rfl, hT5⟩
    have HT5 : Hid (Tch W1 w5 [nb]) := Lib.hid (hT.out.trans_fre hT5 (fun s hs => by cases hs))
    obtain ⟨b0, b1, b2, b3⟩ := (hT5.blk hbk.out (by simp)).c4
    have b4 := ((HTb.out w5 HT5.out).cell 0).trans (show _ = some (Value.slice (some ⟨gN, 0, none⟩) nn nc) by rfl)
    have b5 := ((HTb.out w5 HT5.out).cell 1).trans (show _ = some (Value.slice LA ln lc) by rfl)
    have HBk5 := Lib.hid (hT5.blk hbk.out (by simp))
    clear hT5 a0 a1 a2
    cases hbit : nm.testBit g with
    | false =>
      rw [hbit, if_neg (by decide)] at hba
      obtain ⟨hj0, hlv⟩ := HLf.out hbit
      obtain ⟨j, hj⟩ : ∃ j, cntN lm (g + 1) = j := ⟨_, rfl⟩
      rw [hj] at hj0 hlv HC1
      have hq := (List.getElem?_eq_some_iff.1 hlv).1
      obtain ⟨q, hqq⟩ : ∃ q, fl + j - 1 = q := ⟨_, rfl⟩
      rw [hqq] at hlv hq
      have hql : q < ln := by have := HLn.out; omega
      have q0 : (0 : Int) ≤ (q : Int) := by omega
      have qI : (q : Int) < (ln : Int) := by omega
      have q1 : IntKind.i64.wrap ((fl : Int) + (j : Int)) = ((fl + j : Nat) : Int) := by rw [IntKind.wrap_i64]; omega
      have q2 : IntKind.i64.wrap (((fl + j : Nat) : Int) - 1) = (q : Int) := by rw [IntKind.wrap_i64]; omega
      have q3 : IntKind.i64.wrap ((fl : Int) + (j : Int) - 1) = (q : Int) := by rw [IntKind.wrap_i64]; omega
      obtain ⟨gL, rfl⟩ := slice_some (HRl.out w (Tch.refl w [])) (by omega)
      have b6 := lv_cell (HRl.out w5 (HTw.out w5 HT5.out)) hlv
      have HC1' : Hid (∀ W, Calls Tryz.prog 115 #[.int .u64 (lm : Int), .int .i64 ((g : Int) + 1)] W fun e w' => e = .returned (.int .i64 (j : Int)) ∧ w' = W) := Lib.hid (fun W => by have h9 := HC1.out W; rw [show ((g + 1 : Nat) : Int) = (g : Int) + 1 by omega] at h9; exact h9)
      clear hlv hq hj hqq hbit
      go_wp2
      go_quiet ((go_at_call 115; exact Calls.quiet_of_same (HC1'.out _)))
      have HT9 : Hid (Tch W1 (w5.drewN nq) [nb]) := Lib.hid (HT5.out.drewN nq)
      clear b0 b1 b2 b3 b4 b5 b6
      go_wp2
      go_ret
      exact ⟨rfl, HTw.out _ HT9.out⟩
    | true =>
      rw [hbit, if_pos rfl] at hba
      obtain ⟨n', hk'⟩ := HNd.out hbit
      obtain ⟨j, hj⟩ : ∃ j, cntN nm g = j := ⟨_, rfl⟩
      rw [hj] at hk' HC2
      obtain ⟨q, hqq⟩ : ∃ q, fn + j = q := ⟨_, rfl⟩
      rw [hqq] at hk'
      have hq := (List.getElem?_eq_some_iff.1 hk'.nd).1
      have hql : q < nn := by have := HNn.out; omega
      have q0 : (0 : Int) ≤ (q : Int) := by omega
      have qI : (q : Int) < (nn : Int) := by omega
      have q1 : IntKind.i64.wrap ((fn : Int) + (j : Int)) = (q : Int) := by rw [IntKind.wrap_i64]; omega
      have HNx := Lib.hid (fun W (hW : Tch W1 W [nb]) => nd_cells (HRn.out W (HTw.out W hW)) hk'.nd)
      obtain ⟨b6, b7, b8, b9⟩ := HNx.out w5 HT5.out
      have HK' := Lib.hid hk'
      have hd' : d + 1 ≤ 21 := hk'.le
      clear hq hqq hj hbit hk'
      go_wp2
      have HT9 : Hid (Tch W1 w5.drew [nb]) := Lib.hid HT5.out.drew
      have HSk : Hid (∀ W, Tch W1 W [nb] → (W.cell? ⟨tb, 0, none⟩ = some (Value.slice (some ⟨gN, 0, none⟩) nn nc) ∧ (W.cell? ⟨gN, q * 4, none⟩ = some (.int .u64 (n'.nm : Int)) ∧ W.cell? ⟨gN, q * 4 + 1, none⟩ = some (.int .u64 (n'.lm : Int)) ∧ W.cell? ⟨gN, q * 4 + 2, none⟩ = some (.int .i64 (n'.fn : Int)) ∧ W.cell? ⟨gN, q * 4 + 3, none⟩ = some (.int .i64 (n'.fl : Int))))) := Lib.hid (fun W hW => ⟨((HTb.out W hW).cell 0).trans rfl, HNx.out W hW⟩)
      have HS0 := Lib.hid (HSk.out _ HT9.out)
      have HBd : Hid (Blk w5.drew nb 192 _) := Lib.hid ((Tch.refl w5 []).drew.blk HBk5.out (by simp))
      clear b0 b1 b2 b3 b4 b5 b6 b7 b8 b9
      obtain ⟨b0, b1, b2, b3⟩ := HBd.out.c4
      refine wp_region_held_drew (S := (fun W => W.cell? ⟨tb, 0, none⟩ = some (Value.slice (some ⟨gN, 0, none⟩) nn nc) ∧ (W.cell? ⟨gN, q * 4, none⟩ = some (.int .u64 (n'.nm : Int)) ∧ W.cell? ⟨gN, q * 4 + 1, none⟩ = some (.int .u64 (n'.lm : Int)) ∧ W.cell? ⟨gN, q * 4 + 2, none⟩ = some (.int .i64 (n'.fn : Int)) ∧ W.cell? ⟨gN, q * 4 + 3, none⟩ = some (.int .i64 (n'.fl : Int))))) (by kernel_rfl) ?_ (fun hHeld => ?_)
      · exact HS0.out
      refine wpAnyH_take (i := 0) (oi := { dst := some 36, op := Go.Op.fieldAddr 149 (Go.Operand.tmp 2) 0, type := 0, pos := "trie.go:115", after := #[], guard := none }) (v := ?_) rfl (by kernel_rfl) (by kernel_rfl) (by kernel_rfl) (fun _ _ _ h => h) (Or.inl ⟨by rfl, ?_⟩) (by assumption) ?_
      rotate_left
      · intro w hSw
        (try dsimp only at hSw)
        go_simp
        try (with_reducible rfl)
      try simp only [Act.put, List.setIfInBounds_toArray, List.set_cons_zero, List.set_cons_succ]
      refine wpAnyH_take (i := 1) (oi := { dst := some 37, op := Go.Op.load 146 (Go.Operand.tmp 36), type := 146, pos := "trie.go:115", after := #[{ on := 0, ground := Go.Ground.data }], guard := none }) (v := ?_) rfl (by kernel_rfl) (by kernel_rfl) (by kernel_rfl) (fun _ _ _ h => h) (Or.inl ⟨by rfl, ?_⟩) (by assumption) ?_
      rotate_left
      · intro w hSw
        (try dsimp only at hSw)
        go_simp
        try (with_reducible rfl)
      try simp only [Act.put, List.setIfInBounds_toArray, List.set_cons_zero, List.set_cons_succ]
      refine wpAnyH_take (i := 2) (oi := { dst := some 38, op := Go.Op.fieldAddr 192 (Go.Operand.tmp 5) 2, type := 0, pos := "trie.go:115", after := #[], guard := none }) (v := ?_) rfl (by kernel_rfl) (by kernel_rfl) (by kernel_rfl) (fun _ _ _ h => h) (Or.inl ⟨by rfl, ?_⟩) (by assumption) ?_
      rotate_left
      · intro w hSw
        (try dsimp only at hSw)
        go_simp
        try (with_reducible rfl)
      try simp only [Act.put, List.setIfInBounds_toArray, List.set_cons_zero, List.set_cons_succ]
      refine wpAnyH_take (i := 4) (oi := { dst := some 40, op := Go.Op.fieldAddr 192 (Go.Operand.tmp 5) 0, type := 0, pos := "trie.go:115", after := #[], guard := none }) (v := ?_) rfl (by kernel_rfl) (by kernel_rfl) (by kernel_rfl) (fun _ _ _ h => h) (Or.inl ⟨by rfl, ?_⟩) (by assumption) ?_
      rotate_left
      · intro w hSw
        (try dsimp only at hSw)
        go_simp
        try (with_reducible rfl)
      try simp only [Act.put, List.setIfInBounds_toArray, List.set_cons_zero, List.set_cons_succ]
      refine wpAnyH_take (i := 6) (oi := { dst := some 42, op := Go.Op.move (Go.Operand.tmp 7), type := 3, pos := "trie.go:115", after := #[], guard := none }) (v := ?_) rfl (by kernel_rfl) (by kernel_rfl) (by kernel_rfl) (fun _ _ _ h => h) (Or.inl ⟨by rfl, ?_⟩) (by assumption) ?_
      rotate_left
      · intro w hSw
        (try dsimp only at hSw)
        go_simp
        try (with_reducible rfl)
      try simp only [Act.put, List.setIfInBounds_toArray, List.set_cons_zero, List.set_cons_succ]
      refine wpAnyH_ready (rs := [3, 5]) (by kernel_rfl) (by simp) ?_
      refine AllReadyH.cons (o := { dst := some 39, op := Go.Op.load 3 (Go.Operand.tmp 38), type := 3, pos := "trie.go:115", after := #[{ on := 2, ground := Go.Ground.data }], guard := none }) rfl (fun K hK => ?_) (AllReadyH.cons (o := { dst := some 41, op := Go.Op.load 26 (Go.Operand.tmp 40), type := 26, pos := "trie.go:115", after := #[{ on := 4, ground := Go.Ground.data }], guard := none }) rfl (fun K hK => ?_) (AllReadyH.nil))
      · go_simp
        refine hK.out _ _ ?_ (fun hHeld => ?_)
        · exact HS0.out
        clear hK K
        try simp only [Act.put, List.setIfInBounds_toArray, List.set_cons_zero, List.set_cons_succ]
        refine wpAnyH_ready (rs := [5]) (by kernel_rfl) (by simp) ?_
        refine AllReadyH.cons (o := { dst := some 41, op := Go.Op.load 26 (Go.Operand.tmp 40), type := 26, pos := "trie.go:115", after := #[{ on := 4, ground := Go.Ground.data }], guard := none }) rfl (fun K hK => ?_) (AllReadyH.nil)
        go_simp
        refine hK.out _ _ ?_ (fun hHeld => ?_)
        · exact HS0.out
        clear hK K
        try simp only [Act.put, List.setIfInBounds_toArray, List.set_cons_zero, List.set_cons_succ]
        refine wpAnyH_ready (rs := [7]) (by kernel_rfl) (by simp) ?_
        refine AllReadyH.cons (o := { dst := some 43, op := Go.Op.call { callee := Go.Callee.value (Go.Operand.func 115), args := #[Go.Operand.tmp 41, Go.Operand.tmp 42], argTypes := #[26, 3] }, type := 3, pos := "trie.go:115", after := #[{ on := 5, ground := Go.Ground.data }, { on := 6, ground := Go.Ground.data }], guard := none }) rfl (fun K hK => ?_) (AllReadyH.nil)
        go_simp
        go_at_call 115
        (with_reducible refine Calls.mono (HC2.out _) ?_)
        rintro e w6 ⟨rfl, rfl⟩
        go_wp2_with fail
        refine hK.out _ _ ?_ (fun hHeld => ?_)
        · exact HS0.out
        clear hK K
        try simp only [Act.put, List.setIfInBounds_toArray, List.set_cons_zero, List.set_cons_succ]
        refine wpAnyH_take (i := 8) (oi := { dst := some 44, op := Go.Op.binOp Go.BinOp.add 3 (Go.Operand.tmp 39) (Go.Operand.tmp 43) 3, type := 3, pos := "trie.go:115", after := #[{ on := 3, ground := Go.Ground.data }, { on := 7, ground := Go.Ground.data }], guard := none }) (v := ?_) rfl (by kernel_rfl) (by kernel_rfl) (by kernel_rfl) (fun _ _ _ h => h) (Or.inl ⟨by rfl, ?_⟩) (by assumption) ?_
        rotate_left
        · intro w hSw
          (try dsimp only at hSw)
          go_simp
          try (with_reducible rfl)
        try simp only [Act.put, List.setIfInBounds_toArray, List.set_cons_zero, List.set_cons_succ]
        refine wpAnyH_take (i := 9) (oi := { dst := some 45, op := Go.Op.indexAddr 146 (Go.Operand.tmp 37) (Go.Operand.tmp 44), type := 0, pos := "trie.go:115", after := #[{ on := 1, ground := Go.Ground.data }, { on := 8, ground := Go.Ground.data }], guard := none }) (v := ?_) rfl (by kernel_rfl) (by kernel_rfl) (by kernel_rfl) (fun _ _ _ h => h) (Or.inl ⟨by rfl, ?_⟩) (by assumption) ?_
        rotate_left
        · intro w hSw
          (try dsimp only at hSw)
          go_simp
          try (with_reducible rfl)
        try simp only [Act.put, List.setIfInBounds_toArray, List.set_cons_zero, List.set_cons_succ]
        refine wpAnyH_take (i := 10) (oi := { dst := some 46, op := Go.Op.load 192 (Go.Operand.tmp 45), type := 192, pos := "trie.go:115", after := #[{ on := 9, ground := Go.Ground.data }], guard := none }) (v := ?_) rfl (by kernel_rfl) (by kernel_rfl) (by kernel_rfl) (fun _ _ _ h => h) (Or.inl ⟨by rfl, ?_⟩) (by assumption) ?_
        rotate_left
        · intro w hSw
          (try dsimp only at hSw)
          go_simp
          try (with_reducible rfl)
        try simp only [Act.put, List.setIfInBounds_toArray, List.set_cons_zero, List.set_cons_succ]
        refine wpAnyH_ready (rs := [11]) (by kernel_rfl) (by simp) ?_
        refine AllReadyH.cons (o := { dst := none, op := Go.Op.store 192 (Go.Operand.tmp 5) (Go.Operand.tmp 46), type := 0, pos := "trie.go:115", after := #[{ on := 10, ground := Go.Ground.data }, { on := 7, ground := Go.Ground.chain }, { on := 0, ground := Go.Ground.phase }, { on := 1, ground := Go.Ground.phase }, { on := 2, ground := Go.Ground.phase }, { on := 3, ground := Go.Ground.phase }, { on := 4, ground := Go.Ground.phase }, { on := 5, ground := Go.Ground.phase }, { on := 6, ground := Go.Ground.phase }, { on := 7, ground := Go.Ground.phase }, { on := 8, ground := Go.Ground.phase }, { on := 9, ground := Go.Ground.phase }, { on := 10, ground := Go.Ground.phase }], guard := none }) rfl (fun K hK => ?_) AllReadyH.nil
        refine wpo_sta 192 (.tmp 5) (.tmp 46) rfl nb 0 #[.int .u64 (n'.nm : Int), .int .u64 (n'.lm : Int), .int .i64 (n'.fn : Int), .int .i64 (n'.fl : Int)] (by simp [Act.eval]) (by simp [Act.eval]) 192 _ HBd.out 4 ndSz rfl (show 0 + 4 ≤ 4 from by decide) (by simp [Value.oneCell']) ?_
        intro w8 hs8
        have HS8 := Lib.hid hs8
        have HT8 : Hid (Tch W1 w8 [nb]) := Lib.hid (HT9.out.trans hs8.tch)
        refine hK.out _ _ (HSk.out w8 HT8.out) (fun hHeld => ?_)
        clear hK K hs8
        try simp only [Act.put]
        refine wpAnyH_done (by kernel_rfl) ?_ _
        go_wp2
        go_roundw
        case rel => exact ⟨q, d + 1, n', by go_num, hd', HK', Lib.hid (sta_whole HS8.out rfl), HT8⟩
        case measure => simp [intOf]; omega
      · go_simp
        refine hK.out _ _ ?_ (fun hHeld => ?_)
        · exact HS0.out
        clear hK K
        try simp only [Act.put, List.setIfInBounds_toArray, List.set_cons_zero, List.set_cons_succ]
        refine wpAnyH_ready (rs := [3, 7]) (by kernel_rfl) (by simp) ?_
        refine AllReadyH.cons (o := { dst := some 39, op := Go.Op.load 3 (Go.Operand.tmp 38), type := 3, pos := "trie.go:115", after := #[{ on := 2, ground := Go.Ground.data }], guard := none }) rfl (fun K hK => ?_) (AllReadyH.cons (o := { dst := some 43, op := Go.Op.call { callee := Go.Callee.value (Go.Operand.func 115), args := #[Go.Operand.tmp 41, Go.Operand.tmp 42], argTypes := #[26, 3] }, type := 3, pos := "trie.go:115", after := #[{ on := 5, ground := Go.Ground.data }, { on := 6, ground := Go.Ground.data }], guard := none }) rfl (fun K hK => ?_) (AllReadyH.nil))
        · go_simp
          refine hK.out _ _ ?_ (fun hHeld => ?_)
          · exact HS0.out
          clear hK K
          try simp only [Act.put, List.setIfInBounds_toArray, List.set_cons_zero, List.set_cons_succ]
          refine wpAnyH_ready (rs := [7]) (by kernel_rfl) (by simp) ?_
          refine AllReadyH.cons (o := { dst := some 43, op := Go.Op.call { callee := Go.Callee.value (Go.Operand.func 115), args := #[Go.Operand.tmp 41, Go.Operand.tmp 42], argTypes := #[26, 3] }, type := 3, pos := "trie.go:115", after := #[{ on := 5, ground := Go.Ground.data }, { on := 6, ground := Go.Ground.data }], guard := none }) rfl (fun K hK => ?_) (AllReadyH.nil)
          go_simp
          go_at_call 115
          (with_reducible refine Calls.mono (HC2.out _) ?_)
          rintro e w6 ⟨rfl, rfl⟩
          go_wp2_with fail
          refine hK.out _ _ ?_ (fun hHeld => ?_)
          · exact HS0.out
          clear hK K
          try simp only [Act.put, List.setIfInBounds_toArray, List.set_cons_zero, List.set_cons_succ]
          refine wpAnyH_take (i := 8) (oi := { dst := some 44, op := Go.Op.binOp Go.BinOp.add 3 (Go.Operand.tmp 39) (Go.Operand.tmp 43) 3, type := 3, pos := "trie.go:115", after := #[{ on := 3, ground := Go.Ground.data }, { on := 7, ground := Go.Ground.data }], guard := none }) (v := ?_) rfl (by kernel_rfl) (by kernel_rfl) (by kernel_rfl) (fun _ _ _ h => h) (Or.inl ⟨by rfl, ?_⟩) (by assumption) ?_
          rotate_left
          · intro w hSw
            (try dsimp only at hSw)
            go_simp
            try (with_reducible rfl)
          try simp only [Act.put, List.setIfInBounds_toArray, List.set_cons_zero, List.set_cons_succ]
          refine wpAnyH_take (i := 9) (oi := { dst := some 45, op := Go.Op.indexAddr 146 (Go.Operand.tmp 37) (Go.Operand.tmp 44), type := 0, pos := "trie.go:115", after := #[{ on := 1, ground := Go.Ground.data }, { on := 8, ground := Go.Ground.data }], guard := none }) (v := ?_) rfl (by kernel_rfl) (by kernel_rfl) (by kernel_rfl) (fun _ _ _ h => h) (Or.inl ⟨by rfl, ?_⟩) (by assumption) ?_
          rotate_left
          · intro w hSw
            (try dsimp only at hSw)
            go_simp
            try (with_reducible rfl)
          try simp only [Act.put, List.setIfInBounds_toArray, List.set_cons_zero, List.set_cons_succ]
          refine wpAnyH_take (i := 10) (oi := { dst := some 46, op := Go.Op.load 192 (Go.Operand.tmp 45), type := 192, pos := "trie.go:115", after := #[{ on := 9, ground := Go.Ground.data }], guard := none }) (v := ?_) rfl (by kernel_rfl) (by kernel_rfl) (by kernel_rfl) (fun _ _ _ h => h) (Or.inl ⟨by rfl, ?_⟩) (by assumption) ?_
          rotate_left
          · intro w hSw
            (try dsimp only at hSw)
            go_simp
            try (with_reducible rfl)
          try simp only [Act.put, List.setIfInBounds_toArray, List.set_cons_zero, List.set_cons_succ]
          refine wpAnyH_ready (rs := [11]) (by kernel_rfl) (by simp) ?_
          refine AllReadyH.cons (o := { dst := none, op := Go.Op.store 192 (Go.Operand.tmp 5) (Go.Operand.tmp 46), type := 0, pos := "trie.go:115", after := #[{ on := 10, ground := Go.Ground.data }, { on := 7, ground := Go.Ground.chain }, { on := 0, ground := Go.Ground.phase }, { on := 1, ground := Go.Ground.phase }, { on := 2, ground := Go.Ground.phase }, { on := 3, ground := Go.Ground.phase }, { on := 4, ground := Go.Ground.phase }, { on := 5, ground := Go.Ground.phase }, { on := 6, ground := Go.Ground.phase }, { on := 7, ground := Go.Ground.phase }, { on := 8, ground := Go.Ground.phase }, { on := 9, ground := Go.Ground.phase }, { on := 10, ground := Go.Ground.phase }], guard := none }) rfl (fun K hK => ?_) AllReadyH.nil
          refine wpo_sta 192 (.tmp 5) (.tmp 46) rfl nb 0 #[.int .u64 (n'.nm : Int), .int .u64 (n'.lm : Int), .int .i64 (n'.fn : Int), .int .i64 (n'.fl : Int)] (by simp [Act.eval]) (by simp [Act.eval]) 192 _ HBd.out 4 ndSz rfl (show 0 + 4 ≤ 4 from by decide) (by simp [Value.oneCell']) ?_
          intro w8 hs8
          have HS8 := Lib.hid hs8
          have HT8 : Hid (Tch W1 w8 [nb]) := Lib.hid (HT9.out.trans hs8.tch)
          refine hK.out _ _ (HSk.out w8 HT8.out) (fun hHeld => ?_)
          clear hK K hs8
          try simp only [Act.put]
          refine wpAnyH_done (by kernel_rfl) ?_ _
          go_wp2
          go_roundw
          case rel => exact ⟨q, d + 1, n', by go_num, hd', HK', Lib.hid (sta_whole HS8.out rfl), HT8⟩
          case measure => simp [intOf]; omega
        · go_simp
          go_at_call 115
          (with_reducible refine Calls.mono (HC2.out _) ?_)
          rintro e w6 ⟨rfl, rfl⟩
          go_wp2_with fail
          refine hK.out _ _ ?_ (fun hHeld => ?_)
          · exact HS0.out
          clear hK K
          try simp only [Act.put, List.setIfInBounds_toArray, List.set_cons_zero, List.set_cons_succ]
          refine wpAnyH_ready (rs := [3]) (by kernel_rfl) (by simp) ?_
          refine AllReadyH.cons (o := { dst := some 39, op := Go.Op.load 3 (Go.Operand.tmp 38), type := 3, pos := "trie.go:115", after := #[{ on := 2, ground := Go.Ground.data }], guard := none }) rfl (fun K hK => ?_) (AllReadyH.nil)
          go_simp
          refine hK.out _ _ ?_ (fun hHeld => ?_)
          · exact HS0.out
          clear hK K
          try simp only [Act.put, List.setIfInBounds_toArray, List.set_cons_zero, List.set_cons_succ]
          refine wpAnyH_take (i := 8) (oi := { dst := some 44, op := Go.Op.binOp Go.BinOp.add 3 (Go.Operand.tmp 39) (Go.Operand.tmp 43) 3, type := 3, pos := "trie.go:115", after := #[{ on := 3, ground := Go.Ground.data }, { on := 7, ground := Go.Ground.data }], guard := none }) (v := ?_) rfl (by kernel_rfl) (by kernel_rfl) (by kernel_rfl) (fun _ _ _ h => h) (Or.inl ⟨by rfl, ?_⟩) (by assumption) ?_
          rotate_left
          · intro w hSw
            (try dsimp only at hSw)
            go_simp
            try (with_reducible rfl)
          try simp only [Act.put, List.setIfInBounds_toArray, List.set_cons_zero, List.set_cons_succ]
          refine wpAnyH_take (i := 9) (oi := { dst := some 45, op := Go.Op.indexAddr 146 (Go.Operand.tmp 37) (Go.Operand.tmp 44), type := 0, pos := "trie.go:115", after := #[{ on := 1, ground := Go.Ground.data }, { on := 8, ground := Go.Ground.data }], guard := none }) (v := ?_) rfl (by kernel_rfl) (by kernel_rfl) (by kernel_rfl) (fun _ _ _ h => h) (Or.inl ⟨by rfl, ?_⟩) (by assumption) ?_
          rotate_left
          · intro w hSw
            (try dsimp only at hSw)
            go_simp
            try (with_reducible rfl)
          try simp only [Act.put, List.setIfInBounds_toArray, List.set_cons_zero, List.set_cons_succ]
          refine wpAnyH_take (i := 10) (oi := { dst := some 46, op := Go.Op.load 192 (Go.Operand.tmp 45), type := 192, pos := "trie.go:115", after := #[{ on := 9, ground := Go.Ground.data }], guard := none }) (v := ?_) rfl (by kernel_rfl) (by kernel_rfl) (by kernel_rfl) (fun _ _ _ h => h) (Or.inl ⟨by rfl, ?_⟩) (by assumption) ?_
          rotate_left
          · intro w hSw
            (try dsimp only at hSw)
            go_simp
            try (with_reducible rfl)
          try simp only [Act.put, List.setIfInBounds_toArray, List.set_cons_zero, List.set_cons_succ]
          refine wpAnyH_ready (rs := [11]) (by kernel_rfl) (by simp) ?_
          refine AllReadyH.cons (o := { dst := none, op := Go.Op.store 192 (Go.Operand.tmp 5) (Go.Operand.tmp 46), type := 0, pos := "trie.go:115", after := #[{ on := 10, ground := Go.Ground.data }, { on := 7, ground := Go.Ground.chain }, { on := 0, ground := Go.Ground.phase }, { on := 1, ground := Go.Ground.phase }, { on := 2, ground := Go.Ground.phase }, { on := 3, ground := Go.Ground.phase }, { on := 4, ground := Go.Ground.phase }, { on := 5, ground := Go.Ground.phase }, { on := 6, ground := Go.Ground.phase }, { on := 7, ground := Go.Ground.phase }, { on := 8, ground := Go.Ground.phase }, { on := 9, ground := Go.Ground.phase }, { on := 10, ground := Go.Ground.phase }], guard := none }) rfl (fun K hK => ?_) AllReadyH.nil
          refine wpo_sta 192 (.tmp 5) (.tmp 46) rfl nb 0 #[.int .u64 (n'.nm : Int), .int .u64 (n'.lm : Int), .int .i64 (n'.fn : Int), .int .i64 (n'.fl : Int)] (by simp [Act.eval]) (by simp [Act.eval]) 192 _ HBd.out 4 ndSz rfl (show 0 + 4 ≤ 4 from by decide) (by simp [Value.oneCell']) ?_
          intro w8 hs8
          have HS8 := Lib.hid hs8
          have HT8 : Hid (Tch W1 w8 [nb]) := Lib.hid (HT9.out.trans hs8.tch)
          refine hK.out _ _ (HSk.out w8 HT8.out) (fun hHeld => ?_)
          clear hK K hs8
          try simp only [Act.put]
          refine wpAnyH_done (by kernel_rfl) ?_ _
          go_wp2
          go_roundw
          case rel => exact ⟨q, d + 1, n', by go_num, hd', HK', Lib.hid (sta_whole HS8.out rfl), HT8⟩
          case measure => simp [intOf]; omega
end Go.Proofs.YtgfkmgbcajdcdaaGreatDoor

namespace Go.Proofs.YtgfkmgbcajdcdaaGreatDoor
open Go.RowKit Ifs
set_option linter.unusedVariables false

/-- A part that has a number: how deep, its Next, its routes' value, its routes. -/
abbrev PrI := Nat × Int × Value × List RtI
def prC (p : PrI) : List Value := [.int .i64 (p.1 : Int), .int .i64 p.2.1, p.2.2.1]
def ptP (p : PrI) : PtN := ⟨p.1, p.2.1, p.2.2.2.map rtN⟩
theorem prC_len (p : PrI) : (prC p).length = 3 := rfl
/-- A part's routes lie in block g. -/
structure PrOk (w : World) (g : Nat) (p : PrI) : Prop where
  rd : ∃ A n c, p.2.2.1 = .slice A n c ∧ n ≤ 1000 ∧ RdR w g A n c p.2.2.2
  ok : ∀ r ∈ p.2.2.2, PvOk r.1
theorem PrOk.tch {w w' : World} {g : Nat} {p : PrI} {T : List Nat} (h : PrOk w g p) (ht : Tch w w' T) (hg : g < w.heap.size) (hn : g ∉ T) : PrOk w' g p := by
  obtain ⟨⟨A, n, c, e, hn9, hr⟩, ho⟩ := h
  exact ⟨⟨A, n, c, e, hn9, hr.tch ht hg hn⟩, ho⟩
/-- A trie that is being built: the parts that have a number, the nodes, the leaves. -/
structure BuI (w : World) (base g pb tb : Nat) (AP AN AL : Option Addr) (nP cP nN cN nL cL : Nat) (N : List NdN) (P : List PrI) (LV : List Int) : Prop where
  pc : Blk w pb 219 #[.slice AP nP cP]
  tc : Blk w tb 149 #[.slice AN nN cN, .slice AL nL cL]
  pr : w.ownsRow base 218 3 (.slice AP nP cP) nP (P.flatMap prC)
  nr : w.ownsRow base 192 4 (.slice AN nN cN) nN (N.flatMap ndC)
  lr : w.ownsRow base 3 1 (.slice AL nL cL) nL (LV.flatMap lvC)
  pl : P.length = nP
  nl : N.length = nN
  ll : LV.length = nL
  ok : ∀ p ∈ P, PrOk w g p
  gl : g < w.heap.size
  pt : pb ≠ tb
  fp : pb ≠ g ∧ pb ∉ obI (.slice AP nP cP) ∧ pb ∉ obI (.slice AN nN cN) ∧ pb ∉ obI (.slice AL nL cL)
  ft : tb ≠ g ∧ tb ∉ obI (.slice AP nP cP) ∧ tb ∉ obI (.slice AN nN cN) ∧ tb ∉ obI (.slice AL nL cL)
  fg : g ∉ obI (.slice AP nP cP) ∧ g ∉ obI (.slice AN nN cN) ∧ g ∉ obI (.slice AL nL cL)
  d1 : ∀ s ∈ obI (.slice AP nP cP), s ∉ obI (.slice AN nN cN) ∧ s ∉ obI (.slice AL nL cL)
  d2 : ∀ s ∈ obI (.slice AN nN cN), s ∉ obI (.slice AL nL cL)
/-- What else turns, a trie that is being built stays. -/
theorem BuI.tch {w w' : World} {base g pb tb nP cP nN cN nL cL : Nat} {AP AN AL : Option Addr} {N : List NdN} {P : List PrI} {LV : List Int} {T : List Nat} (h : BuI w base g pb tb AP AN AL nP cP nN cN nL cL N P LV) (ht : Tch w w' T)
    (hp : pb ∉ T) (hb : tb ∉ T) (hg : g ∉ T) (h1 : ∀ s ∈ obI (.slice AP nP cP), s ∉ T) (h2 : ∀ s ∈ obI (.slice AN nN cN), s ∉ T) (h3 : ∀ s ∈ obI (.slice AL nL cL), s ∉ T) : BuI w' base g pb tb AP AN AL nP cP nN cN nL cL N P LV :=
  { h with pc := ht.blk h.pc hp, tc := ht.blk h.tc hb, pr := own_tch h.pr ht h1, nr := own_tch h.nr ht h2, lr := own_tch h.lr ht h3, ok := fun p k => (h.ok p k).tch ht h.gl hg, gl := Nat.lt_of_lt_of_le h.gl ht.size }
theorem BuI.tch0 {w w' : World} {base g pb tb nP cP nN cN nL cL : Nat} {AP AN AL : Option Addr} {N : List NdN} {P : List PrI} {LV : List Int} (h : BuI w base g pb tb AP AN AL nP cP nN cN nL cL N P LV) (ht : Tch w w' []) : BuI w' base g pb tb AP AN AL nP cP nN cN nL cL N P LV :=
  h.tch ht (by simp) (by simp) (by simp) (fun s _ => by simp) (fun s _ => by simp) (fun s _ => by simp)
/-- One slot more: what one step does, as parts with values. -/
theorem ptP_slot (p : PrI) (v : Nat) (x : Value) : ptP (p.1 + 1, slotN p.1 (p.2.2.2.map rtN) p.2.1 v, x, slotI p.1 p.2.2.2 v) = slotP (ptP p) v := by
  unfold ptP slotP
  simp only [slotI_map]
end Go.Proofs.YtgfkmgbcajdcdaaGreatDoor
