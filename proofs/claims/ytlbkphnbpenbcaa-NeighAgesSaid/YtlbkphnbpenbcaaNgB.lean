/-
  The program's own cache of neighbours (layer 19): isValid, isMac, act, stale, reach, New, isFull.
-/
import Derived.Test.YtlbkphnbpenbcaaNgA
import Derived.BigQuiet
namespace Go.Proofs.Ytlbkphnbpenbcaa
open Go.RowKit
set_option linter.unusedVariables false

theorem Blk.k4 {w : World} {g : Nat} {t : TypeId} {a b c d : Value} (h : Blk w g t #[a, b, c, d]) : w.cell? ⟨g, 0, none⟩ = some a ∧ w.cell? ⟨g, 1, none⟩ = some b ∧ w.cell? ⟨g, 2, none⟩ = some c ∧ w.cell? ⟨g, 3, none⟩ = some d :=
  ⟨(h.cell 0).trans rfl, (h.cell 1).trans rfl, (h.cell 2).trans rfl, (h.cell 3).trans rfl⟩
theorem Blk.k5 {w : World} {g : Nat} {t : TypeId} {a b c d e : Value} (h : Blk w g t #[a, b, c, d, e]) : w.cell? ⟨g, 0, none⟩ = some a ∧ w.cell? ⟨g, 1, none⟩ = some b ∧ w.cell? ⟨g, 2, none⟩ = some c ∧ w.cell? ⟨g, 3, none⟩ = some d ∧ w.cell? ⟨g, 4, none⟩ = some e :=
  ⟨(h.cell 0).trans rfl, (h.cell 1).trans rfl, (h.cell 2).trans rfl, (h.cell 3).trans rfl, (h.cell 4).trans rfl⟩
theorem Blk.k7 {w : World} {g : Nat} {t : TypeId} {a b c d e f i : Value} (h : Blk w g t #[a, b, c, d, e, f, i]) : w.cell? ⟨g, 0, none⟩ = some a ∧ w.cell? ⟨g, 1, none⟩ = some b ∧ w.cell? ⟨g, 2, none⟩ = some c ∧ w.cell? ⟨g, 3, none⟩ = some d ∧ w.cell? ⟨g, 4, none⟩ = some e ∧ w.cell? ⟨g, 5, none⟩ = some f ∧ w.cell? ⟨g, 6, none⟩ = some i :=
  ⟨(h.cell 0).trans rfl, (h.cell 1).trans rfl, (h.cell 2).trans rfl, (h.cell 3).trans rfl, (h.cell 4).trans rfl, (h.cell 5).trans rfl, (h.cell 6).trans rfl⟩
theorem u6_of {n : Nat} (h : N64 n) : U6 (n : Int) := by unfold N64 at h; unfold U6; omega
set_option maxRecDepth 100000 in
set_option maxHeartbeats 1000000 in
theorem isValid_any (k : KyI) (hn : KyN k) (w : World) : Calls Try.prog 32 #[kyV k] w fun e w' => e = .returned (.bool (rgtK k)) ∧ Tch w w' [] := by
  obtain ⟨b, hb⟩ : ∃ b, rgtK k = b := ⟨_, rfl⟩
  rw [hb]
  obtain ⟨p, s, h, l⟩ := k
  obtain ⟨V, hV⟩ : ∃ V, clsV s (h : Int) (l : Int) = V := ⟨_, rfl⟩
  have HC := Lib.hid (fun W => class_at s (h : Int) (l : Int) (u6_of hn.1) (u6_of hn.2) hV W)
  have hb2 : (decide (1 ≤ p) && (decide (p ≤ 8) && (decide (V = 2) || decide (V = 5)))) = b := by rw [← hb]; unfold rgtK clsR; rw [hV]
  have HB := Lib.hid hb2
  obtain ⟨W0, hW0⟩ : ∃ W, w.alloc (.cells #[.int .i64 p, .bool s, .int .u64 (h : Int), .int .u64 (l : Int)] 70) = W := ⟨_, rfl⟩
  obtain ⟨kb, hkb⟩ : ∃ kb, w.heap.size = kb := ⟨_, rfl⟩
  have hB : Blk W0 kb 70 #[.int .i64 p, .bool s, .int .u64 (h : Int), .int .u64 (l : Int)] := hW0 ▸ hkb ▸ Blk.new w _ _
  have HT : Hid (Tch w W0 []) := Lib.hid (hW0 ▸ (Tch.refl w []).alloc _)
  have HW := Lib.hid (And.intro hW0 hkb)
  obtain ⟨c0, c1, c2, c3⟩ := hB.k4
  clear hW0 hkb hB hb hb2 hV hn
  by_cases h1 : 1 ≤ p
  · by_cases h2 : p ≤ 8
    · go_enter Try.func32, Try.ntmps32
      go_wp2_with (first | (rw [HW.out.1, HW.out.2]))
      refine Calls.mono (HC.out W0) ?_
      rintro e w1 ⟨rfl, hb1⟩
      have HT1 : Hid (Tch w w1 []) := Lib.hid (HT.out.trans (Tch.of_below [] hb1))
      clear hb1 c0 c1 c2 c3
      go_wp2
      all_goals
        go_ret
        refine ⟨ret_bool ?_, HT1.out⟩
        rw [← HB.out]
        by_cases v2 : V = 2 <;> by_cases v5 : V = 5 <;> simp [h1, h2, v2, v5] <;> (try contradiction)
    · have e : b = false := by rw [← HB.out]; simp [h2]
      subst e
      go_enter Try.func32, Try.ntmps32
      go_wp2_with (first | (rw [HW.out.1, HW.out.2]))
      all_goals (go_ret; exact ⟨rfl, HT.out⟩)
  · have e : b = false := by rw [← HB.out]; simp [h1]
    subst e
    go_enter Try.func32, Try.ntmps32
    go_wp2_with (first | (rw [HW.out.1, HW.out.2]))
    all_goals (go_ret; exact ⟨rfl, HT.out⟩)
theorem isMac_any (m : Int) (w : World) : Calls Try.prog 39 #[.int .u64 m] w fun e w' => e = .returned (.bool (macV m)) ∧ Tch w w' [] := by
  by_cases h1 : 1 ≤ m
  · have h1' : decide ((0 : Int) < m) = true := by simp; omega
    go_enter Try.func39, Try.ntmps39
    go_wp2
    go_ret
    refine ⟨ret_bool ?_, Tch.refl _ _⟩
    unfold macV; simp [h1]; omega
  · have h1' : decide ((0 : Int) < m) = false := by simp; omega
    have e : macV m = false := by unfold macV; simp; omega
    rw [e]
    go_enter Try.func39, Try.ntmps39
    go_wp2
    go_ret
    exact ⟨rfl, Tch.refl _ _⟩
set_option maxRecDepth 100000 in
set_option maxHeartbeats 1000000 in
theorem act_any (k : KyI) (kind m : Int) (q : ByteArray) (w : World) : Calls Try.prog 34 #[kyV k, .int .i64 kind, .int .u64 m, .string q] w fun e w' => e = .returned (acV (acI k kind m q)) ∧ Tch w w' [] := by
  obtain ⟨p, s, h, l⟩ := k
  obtain ⟨W0, hW0⟩ : ∃ W, w.alloc (.cells #[.int .i64 p, .bool s, .int .u64 (h : Int), .int .u64 (l : Int)] 70) = W := ⟨_, rfl⟩
  obtain ⟨kb, hkb⟩ : ∃ kb, w.heap.size = kb := ⟨_, rfl⟩
  have hB : Blk W0 kb 70 #[.int .i64 p, .bool s, .int .u64 (h : Int), .int .u64 (l : Int)] := hW0 ▸ hkb ▸ Blk.new w _ _
  have hT : Tch w W0 [] := hW0 ▸ (Tch.refl w []).alloc _
  obtain ⟨W1, hW1⟩ : ∃ W, W0.alloc (.cells #[.int .i64 0, .int .i64 0, .bool false, .int .u64 0, .int .u64 0, .int .u64 0, .string ⟨#[]⟩] 41) = W := ⟨_, rfl⟩
  obtain ⟨ab, hab⟩ : ∃ ab, W0.heap.size = ab := ⟨_, rfl⟩
  have hA : Blk W1 ab 41 #[.int .i64 0, .int .i64 0, .bool false, .int .u64 0, .int .u64 0, .int .u64 0, .string ⟨#[]⟩] := hW1 ▸ hab ▸ Blk.new W0 _ _
  have hT1 : Tch W0 W1 [] := hW1 ▸ (Tch.refl W0 []).alloc _
  have hwl : w.heap.size ≤ ab := hab ▸ hT.size
  have HW := Lib.hid (And.intro (And.intro hW0 hkb) (And.intro hW1 hab))
  obtain ⟨c0, c1, c2, c3⟩ := (hT1.blk hB (by simp)).k4
  have HT : Hid (Tch w W1 []) := Lib.hid (hT.trans hT1)
  have HA := Lib.hid hA
  have HL := Lib.hid hwl
  clear hW0 hkb hW1 hab hB hT hT1 hA hwl
  go_enter Try.func34, Try.ntmps34
  go_wp2_with (first | (rw [HW.out.1.1, HW.out.1.2]) | (rw [HW.out.2.1, HW.out.2.2]) | (refine wpList_sta rfl 41 (.tmp 8) (.tmp 16) rfl ab 0 _ rfl rfl 41 _ HA.out 7 (by kernel_rfl) rfl (by decide) (by intro v hv; simp at hv; rcases hv with rfl | rfl | rfl | rfl | rfl | rfl | rfl <;> rfl) ?_; intro w2 hS2))
  have HT2 : Hid (Tch w w2 []) := Lib.hid (HT.out.trans_fre hS2.tch (by have := HL.out; simp; omega))
  obtain ⟨z0, z1, z2, z3, z4, z5, z6⟩ := (sta_whole hS2 rfl).k7
  clear hS2 c0 c1 c2 c3
  exact bodyPost_ret (v := acV (acI (p, s, h, l) kind m q)) (by simp [results, Try.results34, go_sem, z0, z1, z2, z3, z4, z5, z6, acI]) rfl ⟨rfl, HT2.out⟩
set_option maxRecDepth 100000 in
set_option maxHeartbeats 1000000 in
theorem stale_any (m : Int) (w : World) : Calls Try.prog 40 #[.int .u64 m] w fun e w' => e = .returned (enV (stlE m) none 0 0) ∧ Tch w w' [] := by
  obtain ⟨W1, hW1⟩ : ∃ W, w.alloc (.cells #[.int .i64 0, .int .u64 0, .int .i64 0, .int .i64 0, .slice none 0 0] 68) = W := ⟨_, rfl⟩
  obtain ⟨ab, hab⟩ : ∃ ab, w.heap.size = ab := ⟨_, rfl⟩
  have hA : Blk W1 ab 68 #[.int .i64 0, .int .u64 0, .int .i64 0, .int .i64 0, .slice none 0 0] := hW1 ▸ hab ▸ Blk.new w _ _
  have HT : Hid (Tch w W1 []) := Lib.hid (hW1 ▸ (Tch.refl w []).alloc _)
  have HW := Lib.hid (And.intro hW1 hab)
  have HA := Lib.hid hA
  have HL : Hid (w.heap.size ≤ ab) := Lib.hid (by omega)
  clear hW1 hab hA
  go_enter Try.func40, Try.ntmps40
  go_wp2_with (first | (rw [HW.out.1, HW.out.2]) | (refine wpList_sta rfl 68 (.tmp 2) (.tmp 4) rfl ab 0 _ rfl rfl 68 _ HA.out 5 (by kernel_rfl) rfl (by decide) (by intro v hv; simp at hv; rcases hv with rfl | rfl | rfl | rfl | rfl <;> rfl) ?_; intro w2 hS2))
  have HT2 : Hid (Tch w w2 []) := Lib.hid (HT.out.trans_fre hS2.tch (by have := HL.out; simp; omega))
  obtain ⟨z0, z1, z2, z3, z4⟩ := (sta_whole hS2 rfl).k5
  clear hS2
  exact bodyPost_ret (v := enV (stlE m) none 0 0) (by simp [results, Try.results40, go_sem, z0, z1, z2, z3, z4, stlE]) rfl ⟨rfl, HT2.out⟩
set_option maxRecDepth 100000 in
set_option maxHeartbeats 1000000 in
theorem reach_any (m : Int) (w : World) : Calls Try.prog 42 #[.int .u64 m] w fun e w' => e = .returned (enV (rchE m) none 0 0) ∧ Tch w w' [] := by
  obtain ⟨W1, hW1⟩ : ∃ W, w.alloc (.cells #[.int .i64 0, .int .u64 0, .int .i64 0, .int .i64 0, .slice none 0 0] 68) = W := ⟨_, rfl⟩
  obtain ⟨ab, hab⟩ : ∃ ab, w.heap.size = ab := ⟨_, rfl⟩
  have hA : Blk W1 ab 68 #[.int .i64 0, .int .u64 0, .int .i64 0, .int .i64 0, .slice none 0 0] := hW1 ▸ hab ▸ Blk.new w _ _
  have HT : Hid (Tch w W1 []) := Lib.hid (hW1 ▸ (Tch.refl w []).alloc _)
  have HW := Lib.hid (And.intro hW1 hab)
  have HA := Lib.hid hA
  have HL : Hid (w.heap.size ≤ ab) := Lib.hid (by omega)
  clear hW1 hab hA
  go_enter Try.func42, Try.ntmps42
  go_wp2_with (first | (rw [HW.out.1, HW.out.2]) | (refine wpList_sta rfl 68 (.tmp 2) (.tmp 4) rfl ab 0 _ rfl rfl 68 _ HA.out 5 (by kernel_rfl) rfl (by decide) (by intro v hv; simp at hv; rcases hv with rfl | rfl | rfl | rfl | rfl <;> rfl) ?_; intro w2 hS2))
  have HT2 : Hid (Tch w w2 []) := Lib.hid (HT.out.trans_fre hS2.tch (by have := HL.out; simp; omega))
  obtain ⟨z0, z1, z2, z3, z4⟩ := (sta_whole hS2 rfl).k5
  clear hS2
  exact bodyPost_ret (v := enV (rchE m) none 0 0) (by simp [results, Try.results42, go_sem, z0, z1, z2, z3, z4, rchE]) rfl ⟨rfl, HT2.out⟩
theorem isFull_any {w : World} {t m : Nat} {M : List (KyI × Value)} {S : List Nat} {L : TbI} (h : NgM w t m M S L) : Calls Try.prog 33 #[.pointer (some ⟨t, 0, none⟩)] w fun e w' => e = .returned (.bool (decide (64 ≤ L.length))) ∧ Tch w w' [] := by
  have ht := (h.bt.cell 0).trans (show _ = some (Value.map (some m)) by rfl)
  have hl := h.mp.len (k := 70) Try.underlying61
  rw [h.len] at hl
  obtain ⟨n, hn⟩ : ∃ n, L.length = n := ⟨_, rfl⟩
  have hn64 : n ≤ 64 := hn ▸ h.inv.len
  rw [hn] at hl ⊢
  have hg : goInt n = .int .i64 (n : Int) := by unfold goInt; congr 1
  rw [hg] at hl
  clear h
  go_enter Try.func33, Try.ntmps33
  go_wp2
  go_ret
  refine ⟨ret_bool ?_, Tch.refl _ _⟩
  simp
  omega
set_option maxRecDepth 100000 in
set_option maxHeartbeats 2000000 in
theorem newN (w : World) : Calls Try.prog 8 #[] w fun e w' => ∃ t S, e = .returned (.pointer (some ⟨t, 0, none⟩)) ∧ NgP w' t S [] ∧ Tch w w' [] ∧ ∀ s ∈ S, w.heap.size ≤ s := by
  have HF : Hid (NgP ((w.alloc (.map #[] 0)).alloc (.cells #[.map (some w.heap.size)] 63)) (w.heap.size + 1) [w.heap.size + 1, w.heap.size] []) := Lib.hid (by
    have hb := Blk.new (w.alloc (.map #[] 0)) 63 #[.map (some w.heap.size)]
    rw [World.size_alloc] at hb
    refine ⟨w.heap.size, [], rfl, by simp, hb, ⟨#[], 0, ?_, rfl, by simp, by simp, by simp⟩, by simp, fun k e hk => by simp [fnd] at hk, InvT.nil⟩
    exact (MapKept.heap_alloc _ _).2 _ (by simp) |>.trans (MapKept.heap_alloc w _).1)
  have HB : Hid (Tch w ((w.alloc (.map #[] 0)).alloc (.cells #[.map (some w.heap.size)] 63)) []) := Lib.hid (((Tch.refl w []).alloc _).alloc _)
  have hmm := @run_makeMap Try.prog
  go_enter Try.func8, Try.ntmps8
  go_wp2
  go_ret
  exact ⟨_, _, rfl, HF.out, HB.out, by simp⟩
end Go.Proofs.Ytlbkphnbpenbcaa
