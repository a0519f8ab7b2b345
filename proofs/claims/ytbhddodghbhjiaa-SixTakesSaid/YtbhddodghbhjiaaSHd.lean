/-
  ip6.header of any packet that may be.
-/
import Derived.Test.YtbhddodghbhjiaaSPk
import Derived.Test.YtbhddodghbhjiaaSBy
import Derived.Test.YtbhddodghbhjiaaPut
import Derived.Test.YtbhddodghbhjiaaApp
import Derived.Test.YtbhddodghbhjiaaAppk
namespace Go.Proofs.Ytbhddodghbhjiaa
open Go.RowKit
set_option linter.unusedVariables false

theorem own_new {w : World} {R g n : Nat} {zs : List Int} (h : Blk w g 5 ((zs.map (Value.int .u8)).toArray)) (hR : R ≤ g) (hl : zs.length = n) (hn : n ≤ 9223372036854775807) : w.ownsRow R 5 1 (.slice (some ⟨g, 0, none⟩) n n) n (zs.map (Value.int .u8)) :=
  ⟨by simp [hl], .inr ⟨g, n, _, rfl, hR, h, Nat.le_refl _, hn, by simp [hl], by rw [Nat.mul_one, List.toList_toArray, List.take_of_length_le (by simp [hl])]⟩⟩
theorem own_keep {w w' : World} {R n : Nat} {t : TypeId} {v : Value} {xs : List Value} (h : w.ownsRow R t 1 v n xs) (hb : Below w.heap.size w w') : w'.ownsRow R t 1 v n xs := by
  refine ⟨h.1, h.2.imp id ?_⟩
  rintro ⟨g, cap, cur, a, b, c, d⟩
  refine ⟨g, cap, cur, a, b, ?_, d⟩
  rw [hb.block g ?_]
  · exact c
  · exact (show Blk w g t cur from c).lt
theorem grown_bel {w w' : World} {row : Option Nat} {B : Nat} (h : w.grownBy w' row) (hr : ∀ k, row = some k → B ≤ k) (hs : B ≤ w.heap.size) : Below B w w' :=
  ⟨h.os, h.tape, h.output, h.size, fun k hk => h.block k (by omega) (fun e => by have := hr k e.symm; omega)⟩

/-- The bytes of the packet's numbers, and of its addresses. -/
def hd4 (p : Sx) : List Int := putOf 4 (fsN p) ++ putOf 2 (p.d.size : Int) ++ putOf 1 p.n ++ putOf 1 p.h
theorem hd4_len (p : Sx) : (hd4 p).length = 8 := by simp [hd4, putOf_len]
theorem hd4_hd (p : Sx) : hdS p = hd4 p ++ (putOf 8 p.a ++ putOf 8 p.b) ++ (putOf 8 p.a' ++ putOf 8 p.b') := by simp [hdS, hd4]

theorem ri_blk {w : World} {g n : Nat} {t : TypeId} {zs : List Int} (h : Blk w g t ((zs.map (Value.int .u8)).toArray)) (hb : By zs) (hl : zs.length = n) : RI .u8 w w.heap.size (some ⟨g, 0, none⟩) n zs := by
  subst hl
  exact h.reads hb.wf h.lt

set_option maxRecDepth 100000 in
set_option maxHeartbeats 4000000 in
theorem sheader_at (p : Sx) (h : RgS p) (hw : WfS p) (hd : p.d.size ≤ 65535) (w : World) :
    Calls Try.prog 43 #[p.val] w fun e w' => ∃ v, e = .returned v ∧ w'.ownsRow w.heap.size 5 1 v 40 ((hdS p).map (Value.int .u8)) ∧ Below w.heap.size w w' := by
  have hc := h.c
  have hf := h.f
  have hn := h.n
  have hh := h.h
  have o1 := sor_28 (p.c * 1048576) (by omega) (by omega)
  have o2 := sor_20 p.c p.f (by omega) (by omega) (by omega) (by omega)
  have hB1 : byts p.s p.a p.b = putOf 8 p.a ++ putOf 8 p.b := by rw [h.s]; rfl
  have hB2 : byts p.s' p.a' p.b' = putOf 8 p.a' ++ putOf 8 p.b' := by rw [h.s']; rfl
  have HA1 := Lib.hid (fun W => bytes_any p.s p.a p.b hw.a hw.b W)
  have HA2 := Lib.hid (fun W => bytes_any p.s' p.a' p.b' hw.a' hw.b' W)
  rw [hB1] at HA1
  rw [hB2] at HA2
  have HP1 := Lib.hid (fun W => put_nil 4 (by decide) (fsN p) (fsN_bd h).1 W)
  have HP2 := Lib.hid (fun (W : World) (A : Option Addr) (c : Nat) (zs : List Int) (hz : RI .u8 W W.heap.size A 4 zs) => put_k 2 4 (by decide) (p.d.size : Int) (by omega) (by omega) (c := c) hz)
  have HP3 := Lib.hid (fun (W : World) (A : Option Addr) (c : Nat) (zs : List Int) (hz : RI .u8 W W.heap.size A 6 zs) => put_k 1 6 (by decide) p.n hn.1 (by omega) (c := c) hz)
  have HP4 := Lib.hid (fun (W : World) (A : Option Addr) (c : Nat) (zs : List Int) (hz : RI .u8 W W.heap.size A 7 zs) => put_k 1 7 (by decide) p.h hh.1 (by omega) (c := c) hz)
  have HF : Hid (1610612736 + p.c * 1048576 + p.f = fsN p) := Lib.hid rfl
  have hfb := fsN_bd h
  obtain ⟨F, hF⟩ : ∃ F, fsN p = F := ⟨_, rfl⟩
  have HFF := Lib.hid hF
  have hF' : 1610612736 + p.c * 1048576 + p.f = F := hF
  rw [hF] at HP1 HF hfb
  have K0 := Blk.new w 35 (scs p)
  have L0 := Lib.hid ((Below.refl _ w).alloc (Nat.le_refl _) (.cells (scs p) 35))
  obtain ⟨f0, f1, f2, f3, f4, f5, f6, f7, f8, f9, f10⟩ := K0.s11
  have HK0 := Lib.hid K0
  have hdI : (p.d.size : Int) ≤ 65535 := by omega
  clear K0 h hw hd hB1 hB2 hF
  go_enter Try.func43, Try.ntmps43
  go_wp2_with fail
  refine Calls.mono (HP1.out _) ?_
  rintro e w1 ⟨rfl, hb1, hbel⟩
  have hs0 : w.heap.size < (w.alloc (.cells (scs p) 35)).heap.size := by simp only [World.size_alloc]; omega
  simp only [World.size_alloc] at hb1 hs0
  have R1 := Lib.hid (ri_blk hb1 (putOf_by 4 F) (putOf_len 4 F))
  have L1 := Lib.hid (L0.out.trans (hbel.mono L0.out.size))
  have K1 := Lib.hid (HK0.out.below hbel HK0.out.lt)
  have hs1 := hbel.size
  simp only [World.size_alloc] at hs1
  clear hb1 hbel f0 f1 f2 f3 f4 f5 f6 f7 f8 f9 f10
  obtain ⟨f0, f1, f2, f3, f4, f5, f6, f7, f8, f9, f10⟩ := K1.out.s11
  go_wp2_with fail
  refine Calls.mono (HP2.out _ _ _ _ R1.out) ?_
  rintro e w2 ⟨rfl, hb1, hbel⟩
  have R2 := Lib.hid (ri_blk (n := 6) hb1 ((putOf_by 4 F).app (putOf_by 2 _)) (by rw [List.length_append, putOf_len, putOf_len]))
  have L2 := Lib.hid (L1.out.trans (hbel.mono L1.out.size))
  have K2 := Lib.hid (K1.out.below hbel K1.out.lt)
  have hs2 := hbel.size
  clear hb1 hbel f0 f1 f2 f3 f4 f5 f6 f7 f8 f9 f10
  obtain ⟨f0, f1, f2, f3, f4, f5, f6, f7, f8, f9, f10⟩ := K2.out.s11
  go_wp2_with fail
  refine Calls.mono (HP3.out _ _ _ _ R2.out) ?_
  rintro e w3 ⟨rfl, hb1, hbel⟩
  have R3 := Lib.hid (ri_blk (n := 7) hb1 (((putOf_by 4 F).app (putOf_by 2 _)).app (putOf_by 1 _)) (by rw [List.length_append, List.length_append, putOf_len, putOf_len, putOf_len]))
  have L3 := Lib.hid (L2.out.trans (hbel.mono L2.out.size))
  have K3 := Lib.hid (K2.out.below hbel K2.out.lt)
  have hs3 := hbel.size
  clear hb1 hbel f0 f1 f2 f3 f4 f5 f6 f7 f8 f9 f10
  obtain ⟨f0, f1, f2, f3, f4, f5, f6, f7, f8, f9, f10⟩ := K3.out.s11
  go_wp2_with fail
  refine Calls.mono (HP4.out _ _ _ _ R3.out) ?_
  rintro e w4 ⟨rfl, hb1, hbel⟩
  have hhd4 : putOf 4 F ++ putOf 2 (p.d.size : Int) ++ putOf 1 p.n ++ putOf 1 p.h = hd4 p := by rw [← HFF.out]; rfl
  rw [hhd4] at hb1
  have O4 := Lib.hid (own_new (R := w.heap.size + 1) hb1 (by omega) (hd4_len p) (by decide))
  have L4 := Lib.hid (L3.out.trans (hbel.mono L3.out.size))
  have K4 := Lib.hid (K3.out.below hbel K3.out.lt)
  have hs4 := hbel.size
  clear hb1 hbel hhd4 f0 f1 f2 f3 f4 f5 f6 f7 f8 f9 f10
  obtain ⟨f0, f1, f2, f3, f4, f5, f6, f7, f8, f9, f10⟩ := K4.out.s11
  go_wp2_with fail
  refine Calls.mono (HA1.out _) ?_
  rintro e w5 ⟨A5, c5, rfl, -, hc5, hri5, hA5, -, hbel, -⟩
  have hl5 : (putOf 8 p.a ++ putOf 8 p.b).length = 16 := by rw [List.length_append, putOf_len, putOf_len]
  rw [hl5] at hri5 ⊢
  have O5 := Lib.hid (own_keep O4.out hbel)
  have R5 := Lib.hid hri5
  have A5' := Lib.hid hA5
  have L5 := Lib.hid (L4.out.trans (hbel.mono L4.out.size))
  have K5 := Lib.hid (K4.out.below hbel K4.out.lt)
  have hs5 := hbel.size
  clear hri5 hA5 hbel hl5 f0 f1 f2 f3 f4 f5 f6 f7 f8 f9 f10
  go_wp2_with (at_builtin; refine wpList_app1 _ rfl (.tmp 29) (.tmp 32) rfl (w.heap.size + 1) (.slice (some ⟨w3.heap.size, 0, none⟩) 8 8) 8 (hd4 p) rfl O5.out _ A5 16 c5 _ rfl A5'.out R5.out (by omega) (by omega) (by omega) ?_; intro g6 cap6 w6 ho6 hg6 he6; have O6 := Lib.hid ho6; have G6 := Lib.hid hg6; have hg6b : w.heap.size + 1 ≤ g6 := own_basek ho6 g6 rfl; have K6 := Lib.hid (K5.out.grown hg6 (by simp [Value.ownBlock]; omega)); have hs6 := hg6.size; clear ho6 hg6 he6; obtain ⟨f0, f1, f2, f3, f4, f5, f6, f7, f8, f9, f10⟩ := K6.out.s11)
  have hhs6 : w5.heap.size ≤ w6.heap.size := hs6
  have L6 := Lib.hid (L5.out.trans (grown_bel G6.out (fun k hk => by simp [Value.ownBlock] at hk; omega) (by omega)))
  refine Calls.mono (HA2.out _) ?_
  rintro e w7 ⟨A7, c7, rfl, -, hc7, hri7, hA7, -, hbel, -⟩
  have hl7 : (putOf 8 p.a' ++ putOf 8 p.b').length = 16 := by rw [List.length_append, putOf_len, putOf_len]
  rw [hl7] at hri7 ⊢
  have O7 := Lib.hid (own_keep O6.out hbel)
  have R7 := Lib.hid hri7
  have A7' := Lib.hid hA7
  have L7 := Lib.hid (L6.out.trans (hbel.mono L6.out.size))
  have hs7 := hbel.size
  clear hri7 hA7 hbel hl7 f0 f1 f2 f3 f4 f5 f6 f7 f8 f9 f10
  go_wp2_with (at_builtin; refine wpList_app1 _ rfl (.tmp 34) (.tmp 37) rfl (w.heap.size + 1) (.slice (some ⟨g6, 0, none⟩) (8 + 16) cap6) (8 + 16) (hd4 p ++ (putOf 8 p.a ++ putOf 8 p.b)) rfl O7.out _ A7 16 c7 _ rfl A7'.out R7.out (by omega) (by omega) (by omega) ?_; intro g8 cap8 w8 ho8 hg8 he8; have O8 := Lib.hid ho8; have G8 := Lib.hid hg8; clear ho8 hg8 he8)
  go_ret
  refine ⟨_, rfl, ?_, L7.out.trans (grown_bel G8.out (fun k hk => by simp [Value.ownBlock] at hk; omega) (by omega))⟩
  rw [hd4_hd]
  exact ⟨O8.out.1, O8.out.2.imp id fun ⟨g, cap, cur, a, b, c⟩ => ⟨g, cap, cur, a, by omega, c⟩⟩
end Go.Proofs.Ytbhddodghbhjiaa
