/-
  Several texts in one: RvH.
-/
import Derived.Test.YtgfkmgbcajdcdaaGreatDoorZao
import Derived.Test.YtgfkmgbcajdcdaaGreatDoorZad
import Derived.Test.YtgfkmgbcajdcdaaGreatDoorZap
import Derived.Deep.RegionHeld
import Derived.Test.YtgfkmgbcajdcdaaGreatDoorZaa
set_option linter.unusedVariables false
set_option maxRecDepth 100000
set_option maxHeartbeats 16000000
namespace Go.Proofs.YtgfkmgbcajdcdaaGreatDoor
open Go.RowKit Ifs

structure RE (w : World) (A : Option Addr) (n c : Nat) (l : List EnI) : Prop where
 len : l.length = n
 cap : n ≤ c
 at_ : 0 < n → ∃ g o, A = some ⟨g, o, none⟩ ∧ g < w.heap.size ∧ ∀ j x, l[j]? = some x → ∀ k v, (enC x)[k]? = some v → w.cell? ⟨g, o + j * 9 + k, none⟩ = some v
theorem RE.of {w : World} {base n c : Nat} {A : Option Addr} {l : List EnI} (hl : l.length = n) (h : RowE w base A n c l) : RE w A n c l := by
 obtain ⟨A', c', e, hc, h1⟩ := own_sl h
 injection e with e1 e2 e3
 subst e1 e3
 refine ⟨hl, hc, fun h0 => ?_⟩
 obtain ⟨g, rfl, -, hlt, hh⟩ := h1 h0
 refine ⟨g, 0, rfl, hlt, fun j x hx k v hv => ?_⟩
 rw [Nat.zero_add]
 exact hh _ _ ((flatk_at (n := 9) en_nine hx (k := k) (List.getElem?_eq_some_iff.1 hv).1).trans hv)
theorem RE.tch {w w' : World} {n c : Nat} {A : Option Addr} {l : List EnI} (h : RE w A n c l) (ht : Tch w w' []) : RE w' A n c l := by
 refine ⟨h.len, h.cap, fun h0 => ?_⟩
 obtain ⟨g, o, e, hlt, hh⟩ := h.at_ h0
 exact ⟨g, o, e, by have := ht.size; omega, fun j x hx k v hv => (ht.cell (p := ⟨g, _, none⟩) hlt (by simp)).trans (hh j x hx k v hv)⟩
theorem RE.head {w : World} {n c g o : Nat} {x : EnI} {l : List EnI} (h : RE w (some ⟨g, o, none⟩) n c (x :: l)) : (w.cell? ⟨g, o, none⟩ = some (.bool x.1.1.1) ∧ w.cell? ⟨g, o + 1, none⟩ = some (.int .u64 (x.1.1.2.1 : Int)) ∧ w.cell? ⟨g, o + 2, none⟩ = some (.int .u64 (x.1.1.2.2 : Int)) ∧ w.cell? ⟨g, o + 3, none⟩ = some (.int .i64 x.1.2) ∧
  w.cell? ⟨g, o + 4, none⟩ = some (.int .i64 x.2.1) ∧ w.cell? ⟨g, o + 5, none⟩ = some (.bool x.2.2.1.1) ∧ w.cell? ⟨g, o + 6, none⟩ = some (.int .u64 (x.2.2.1.2.1 : Int)) ∧ w.cell? ⟨g, o + 7, none⟩ = some (.int .u64 (x.2.2.1.2.2 : Int)) ∧ w.cell? ⟨g, o + 8, none⟩ = some (.bool x.2.2.2)) := by
 obtain ⟨g', o', e, -, hh⟩ := h.at_ (by rw [← h.len]; simp)
 injection e with e
 injection e with e1 e2
 subst e1 e2
 have k := fun k v hv => hh 0 x rfl k v hv
 simp only [Nat.zero_mul, Nat.add_zero] at k
 exact ⟨k 0 _ rfl, k 1 _ rfl, k 2 _ rfl, k 3 _ rfl, k 4 _ rfl, k 5 _ rfl, k 6 _ rfl, k 7 _ rfl, k 8 _ rfl⟩
theorem RE.some_ {w : World} {n c : Nat} {A : Option Addr} {x : EnI} {l : List EnI} (h : RE w A n c (x :: l)) : ∃ g o m, A = some ⟨g, o, none⟩ ∧ n = m + 1 := by
 obtain ⟨g, o, e, -⟩ := h.at_ (by rw [← h.len]; simp)
 exact ⟨g, o, l.length, e, by rw [← h.len]; rfl⟩
theorem RE.tail {w : World} {n c g o : Nat} {x : EnI} {l : List EnI} (h : RE w (some ⟨g, o, none⟩) (n + 1) c (x :: l)) : RE w (some ⟨g, o + 9, none⟩) n (c - 1) l := by
 have hl : l.length = n := by have := h.len; simp at this; exact this
 refine ⟨hl, by have := h.cap; omega, fun h0 => ?_⟩
 obtain ⟨g', o', e, hlt, hh⟩ := h.at_ (by omega)
 injection e with e
 injection e with e1 e2
 subst e1 e2
 refine ⟨g, o + 9, rfl, hlt, fun j y hy k v hv => ?_⟩
 have := hh (j + 1) y (by simpa using hy) k v hv
 rw [show o + 9 + j * 9 + k = o + (j + 1) * 9 + k by omega]
 exact this
theorem RE.tail_ {w : World} {M c g o : Nat} {x : EnI} {l : List EnI} (h : RE w (some ⟨g, o, none⟩) M c (x :: l)) : RE w (if c = 1 then some ⟨g, o, none⟩ else some ⟨g, o + 9, none⟩) (M - 1) (c - 1) l := by
 obtain ⟨m, rfl⟩ : ∃ m, M = m + 1 := ⟨l.length, by rw [← h.len]; rfl⟩
 by_cases hc : c = 1
 ·rw [if_pos hc]
  have h1 := h.cap
  have h2 := h.len
  have h3 : m = 0 := by omega
  subst h3
  have h4 : l = [] := by simpa using h2
  subst h4
  exact ⟨rfl, Nat.zero_le _, fun h => absurd h (by omega)⟩
 ·rw [if_neg hc]
  exact h.tail
theorem RE.cells {w : World} {n c j : Nat} {A : Option Addr} {l : List EnI} (h : RE w A n c l) {x : EnI} (hx : l[j]? = some x) : ∃ g o, A = some ⟨g, o, none⟩ ∧ (w.cell? ⟨g, o + j * 9, none⟩ = some (.bool x.1.1.1) ∧ w.cell? ⟨g, o + j * 9 + 1, none⟩ = some (.int .u64 (x.1.1.2.1 : Int)) ∧ w.cell? ⟨g, o + j * 9 + 2, none⟩ = some (.int .u64 (x.1.1.2.2 : Int)) ∧ w.cell? ⟨g, o + j * 9 + 3, none⟩ = some (.int .i64 x.1.2) ∧
  w.cell? ⟨g, o + j * 9 + 4, none⟩ = some (.int .i64 x.2.1) ∧ w.cell? ⟨g, o + j * 9 + 5, none⟩ = some (.bool x.2.2.1.1) ∧ w.cell? ⟨g, o + j * 9 + 6, none⟩ = some (.int .u64 (x.2.2.1.2.1 : Int)) ∧ w.cell? ⟨g, o + j * 9 + 7, none⟩ = some (.int .u64 (x.2.2.1.2.2 : Int)) ∧ w.cell? ⟨g, o + j * 9 + 8, none⟩ = some (.bool x.2.2.2)) := by
 obtain ⟨g, o, e, -, hh⟩ := h.at_ (by rw [← h.len]; have := (List.getElem?_eq_some_iff.1 hx).1; omega)
 have k := fun k v hv => hh j x hx k v hv
 exact ⟨g, o, e, k 0 _ rfl, k 1 _ rfl, k 2 _ rfl, k 3 _ rfl, k 4 _ rfl, k 5 _ rfl, k 6 _ rfl, k 7 _ rfl, k 8 _ rfl⟩
theorem chI_out {os es : List EnI} (h : os = [] ∨ es = []) : chI os es = os.map (fun e => (true, e)) ++ es.map (fun e => (false, e)) := by
 rcases h with rfl | rfl
 ·rw [chI_nil]; rfl
 ·rw [chI_end]; simp
theorem RE.nil {w : World} {A : Option Addr} {c : Nat} : RE w A 0 c [] := ⟨rfl, Nat.zero_le _, fun h => absurd h (by omega)⟩
theorem RE.len0 {w : World} {A : Option Addr} {n c : Nat} (h : RE w A n c []) : n = 0 := h.len.symm
def cgC (c : CgI) : List Value := .bool c.1 :: enC c.2
theorem cg_one (c : CgI) : ∀ u ∈ cgC c, u.oneCell' = true := by
 intro u hu
 rcases List.mem_cons.1 hu with rfl | h
 ·rfl
 ·exact en_one _ u h
theorem infoCg : (Tryz.prog.info? 90).map (fun i => (i.zero, i.size, i.bytes)) = some (some (.agg #[.bool false, .bool false, .int .u64 0, .int .u64 0, .int .i64 0, .int .i64 0, .bool false, .int .u64 0, .int .u64 0, .bool false]), 10, 80) := by kernel_rfl
theorem enSz : (Tryz.prog.info? 70).map (·.size) = some 9 := by kernel_rfl
theorem defer3 {R : Prop} {G : Nat → Nat → World → Prop} (P : Nat → Nat → World → Prop) (h : (∀ a b W, P a b W → G a b W) → R) (k : ∀ a b W, P a b W → G a b W) : R := h k
abbrev RowC (w : World) (base : Nat) (A : Option Addr) (n c : Nat) (l : List CgI) : Prop := w.ownsRow base 90 10 (.slice A n c) n (l.flatMap cgC)
theorem rchanges_any (A B : Option Addr) (n k c d : Nat) (old now : List EnI) (hn : n ≤ 1000) (hk : k ≤ 1000) (w : World) (h : RE w A n c old) (h2 : RE w B k d now) (ho : SrtE old) (hnw : SrtE now) :
  Calls Tryz.prog 32 #[.slice A n c, .slice B k d] w fun e w' => ∃ A1 c1, e = .returned (.slice A1 (chI old now).length c1) ∧ RowC w' w.heap.size A1 (chI old now).length c1 (chI old now) ∧ Tch w w' [] := by
 have HLn := lH (chI_len old now)
 have HO := lH ho
 have HNw := lH hnw
 obtain ⟨D, hD⟩ : ∃ D, chI old now = D := ⟨_, rfl⟩
 have HD := lH hD
 rw [hD] at HLn ⊢
 have H1 := lH h
 have H2 := lH h2
 have HNk : Hid (old.length = n ∧ now.length = k) := lH ⟨h.len, h2.len⟩
 clear hD h h2 ho hnw
 go_enter Tryz.func32, Tryz.ntmps32
 go_wp2
 go_loopw [0, 1, 5] (fun ov nv lv wr => ∃ (A' B' A1 : Option Addr) (p q f c' d' c1 : Nat) (os es : List EnI) (acc : List CgI), ov = .slice A' p c' ∧ nv = .slice B' q d' ∧ lv = .slice A1 f c1 ∧ p ≤ 1000 ∧ q ≤ 1000 ∧ f ≤ 2000 ∧ Hid (RE w A' p c' os) ∧ Hid (RE w B' q d' es) ∧ Hid (SrtE os) ∧ Hid (SrtE es) ∧ Hid (acc.length = f) ∧ Hid (acc ++ chI os es = D) ∧ Hid (RowC wr w.heap.size A1 f c1 acc) ∧ Hid (Tch w wr [])) (fun ov nv lv wr => (match ov with | .slice _ p _ => p | _ => 0) + (match nv with | .slice _ p _ => p | _ => 0))
 case atStart => exact ⟨A, B, none, n, k, 0, c, d, 0, old, now, [], rfl, rfl, rfl, hn, hk, by omega, H1, H2, HO, HNw, lH rfl, lH HD.out, lH ⟨rfl, .inl ⟨rfl, rfl⟩⟩, lH (Tch.refl _ _)⟩
 case round =>
  obtain ⟨A', B', A1, p, q, f, c', d', c1, os, es, acc, rfl, rfl, rfl, hp, hq, hf9, ho, he, hso, hse, hf, hacc, hR, hT⟩ := hrel
  have hsplit : (p = 0 ∨ (¬ p = 0 ∧ q = 0)) ∨ ((∃ o os', os = o :: os') ∧ ∃ x es', es = x :: es') := by
   cases os with
   | nil => exact .inl (.inl ho.out.len0)
   | cons o os' =>
    cases es with
    | nil => exact .inl (.inr ⟨fun h => by have := ho.out.len; rw [h] at this; simp at this, he.out.len0⟩)
    | cons x es' => exact .inr ⟨⟨o, os', rfl⟩, x, es', rfl⟩
  rcases hsplit with hx | ⟨⟨o, os', rfl⟩, x, es', rfl⟩
  ·have hoe : os = [] ∨ es = [] := by
    rcases hx with h | ⟨-, h⟩
    ·exact .inl (by have := ho.out.len; rw [h] at this; simpa using this)
    ·exact .inr (by have := he.out.len; rw [h] at this; simpa using this)
   have HDx : Hid (acc ++ (os.map (fun e => (true, e)) ++ es.map (fun e => (false, e))) = D) := lH (by rw [← hacc.out, chI_out hoe])
   have HOl := lH ho.out.len
   have HEl := lH he.out.len
   have HF9 : Hid (f + p + q = D.length) := lH (by rw [← HDx.out]; simp only [List.length_append, List.length_map, hf.out, HOl.out, HEl.out]; omega)
   have HD2 : Hid (D.length ≤ 2000) := lH (by have := HLn.out; have := HNk.out; omega)
   clear hoe hacc
   have e1 : (decide ((0 : Int) < (p : Int)) = false ∧ decide (0 < p) = false) ∨ ((0 : Int) < (p : Int) ∧ decide (0 < q) = false) := by
    rcases hx with h | ⟨h, k⟩
    ·exact .inl ⟨decide_eq_false (by omega), decide_eq_false (by omega)⟩
    ·exact .inr ⟨by omega, decide_eq_false (by omega)⟩
   clear hx
   rcases e1 with ⟨p0, q0⟩ | ⟨p0, q0⟩
   all_goals
    go_wp2
    clear p0 q0
    go_loopw [5, 68] (fun lv jv wr2 => ∃ (j f2 : Nat) (A2 : Option Addr) (c2 : Nat), lv = .slice A2 f2 c2 ∧ jv = .int .i64 (j : Int) ∧ j ≤ p ∧ Hid (f2 = f + j) ∧ Hid (RowC wr2 w.heap.size A2 f2 c2 (acc ++ (os.take j).map (fun e => (true, e)))) ∧ Hid (Tch w wr2 [])) (fun _ jv _ => p - (intOf jv).toNat)
    case atStart => exact ⟨0, f, A1, c1, rfl, rfl, Nat.zero_le _, lH rfl, lH (by simp; exact hR.out), hT⟩
    case round =>
     obtain ⟨j, f2, A2, c2, rfl, rfl, hj, hf2, hR2, hT2⟩ := hrel
     have HS9 : Hid (w.heap.size ≤ wr.heap.size) := lH hT2.out.size
     by_cases hjp : j < p
     ·have jI : (j : Int) < (p : Int) := by omega
      have j0 : (0 : Int) ≤ (j : Int) := by omega
      have j1 : IntKind.i64.wrap ((j : Int) + 1) = (j : Int) + 1 := by rw [IntKind.wrap_i64]; omega
      obtain ⟨z, hz⟩ : ∃ z, os[j]? = some z := ⟨_, List.getElem?_eq_getElem (by rw [HOl.out]; exact hjp)⟩
      have HTk : Hid ((os.take (j + 1)).map (fun e => (true, e)) = (os.take j).map (fun e => ((true, e) : CgI)) ++ [(true, z)]) := lH (by rw [List.take_add_one, hz, List.map_append]; rfl)
      obtain ⟨g, oo, rfl, y0, y1, y2, y3, y4, y5, y6, y7, y8⟩ := (ho.out.tch hT2.out).cells hz
      obtain ⟨⟨⟨zs, zh, zl⟩, zn⟩, ⟨zp, ⟨zs1, zh1, zl1⟩, zw⟩⟩ := z
      clear hz
      obtain ⟨W5, hW5⟩ : ∃ W, wr.alloc (.cells #[.bool zs, .int .u64 (zh : Int), .int .u64 (zl : Int), .int .i64 zn, .int .i64 zp, .bool zs1, .int .u64 (zh1 : Int), .int .u64 (zl1 : Int), .bool zw] 70) = W := ⟨_, rfl⟩
      have HT5 : Hid (Tch w W5 []) := lH (hW5 ▸ hT2.out.alloc _)
      have HR5 : Hid (RowC W5 w.heap.size A2 f2 c2 _) := lH (own_tch hR2.out (hW5 ▸ (Tch.refl wr []).alloc (.cells #[.bool zs, .int .u64 (zh : Int), .int .u64 (zl : Int), .int .i64 zn, .int .i64 zp, .bool zs1, .int .u64 (zh1 : Int), .int .u64 (zl1 : Int), .bool zw] 70)) (by simp))
      have HB5 := lH (Blk.new wr 70 #[.bool zs, .int .u64 (zh : Int), .int .u64 (zl : Int), .int .i64 zn, .int .i64 zp, .bool zs1, .int .u64 (zh1 : Int), .int .u64 (zl1 : Int), .bool zw])
      rw [hW5] at HB5
      obtain ⟨z0, z1, z2, z3, z4, z5, z6, z7, z8⟩ := HB5.out.e9
      have HSr := lH (src_new W5 90 (cgC (true, (((zs, zh, zl), zn), (zp, (zs1, zh1, zl1), zw)))))
      have HTa : Hid (Tch W5 (W5.alloc (.cells (cgC (true, (((zs, zh, zl), zn), (zp, (zs1, zh1, zl1), zw)))).toArray 90)) []) := lH ((Tch.refl W5 []).alloc _)
      have HRa := lH (own_tch HR5.out HTa.out (by simp))
      have HSza : Hid (w.heap.size ≤ (W5.alloc (.cells (cgC (true, (((zs, zh, zl), zn), (zp, (zs1, zh1, zl1), zw)))).toArray 90)).heap.size) := lH (Nat.le_trans HT5.out.size HTa.out.size)
      have HSf : Hid (f2 ≤ 1000000) := lH (by have := hf2.out; have := HF9.out; have := HD2.out; omega)
      go_wp2_with (at_builtin; (refine wpList_apc 86 90 (.agg #[.bool false, .bool false, .int .u64 0, .int .u64 0, .int .i64 0, .int .i64 0, .bool false, .int .u64 0, .int .u64 0, .bool false]) 10 80 Tryz.underlying86 infoCg rfl (by decide) (by decide) _ rfl (.tmp 72) (.tmp 75) rfl w.heap.size (.slice A2 f2 c2) f2 ((acc ++ (os.take j).map (fun e => (true, e))).flatMap cgC) rfl HRa.out ⟨W5.heap.size, 0, none⟩ 1 (cgC (true, (((zs, zh, zl), zn), (zp, (zs1, zh1, zl1), zw)))) rfl rfl (fun j u hj => HSr.out j u hj) (cg_one _) HSf.out HSza.out ?_; intro v7 w7 hown hg hv; obtain ⟨A7, c7, e7, -, -⟩ := own_sl hown; subst e7; have HRz := lH hown; have HTz : Hid (Tch w w7 []) := lH ((HT5.out.trans HTa.out).trans_fre (Tch.of_grown' (S := obI (.slice A2 f2 c2)) hg (fun k e => by rw [obI_some e]; simp)) (fun s hs => .inr (own_geI HR5.out s hs).1)); clear hown hg hv hW5 z0 z1 z2 z3 z4 z5 z6 z7 z8 y0 y1 y2 y3 y4 y5 y6 y7 y8))
      go_roundw
      case rel => exact ⟨j + 1, f2 + 1, A7, c7, rfl, by go_num, hjp, lH (by have := hf2.out; omega), lH (by rw [HTk.out]; unfold RowC; rw [← List.append_assoc, List.flatMap_append]; exact HRz.out), HTz⟩
      case measure => simp [intOf]; omega
     ·obtain rfl : j = p := by omega
      have jI : ¬ (j : Int) < (j : Int) := by omega
      have HR3 : Hid (RowC wr w.heap.size A2 f2 c2 (acc ++ os.map (fun e => (true, e)))) := lH (by have := hR2.out; rwa [List.take_of_length_le (by rw [HOl.out]; exact Nat.le_refl _)] at this)
      have HT3 := lH hT2.out
      clear hR2 hT2 hjp
      go_wp2
      go_loopw [5, 80] (fun lv jv wr2 => ∃ (i f3 : Nat) (A3 : Option Addr) (c3 : Nat), lv = .slice A3 f3 c3 ∧ jv = .int .i64 (i : Int) ∧ i ≤ q ∧ Hid (f3 = f2 + i) ∧ Hid (RowC wr2 w.heap.size A3 f3 c3 (acc ++ os.map (fun e => (true, e)) ++ (es.take i).map (fun e => (false, e)))) ∧ Hid (Tch w wr2 [])) (fun _ jv _ => q - (intOf jv).toNat)
      case atStart => exact ⟨0, f2, A2, c2, rfl, rfl, Nat.zero_le _, lH rfl, lH (by simp; simpa using HR3.out), HT3⟩
      case round =>
       obtain ⟨i, f3, A3, c3, rfl, rfl, hi, hf3, hR4, hT4⟩ := hrel
       by_cases hiq : i < q
       ·have iI : (i : Int) < (q : Int) := by omega
        have i0 : (0 : Int) ≤ (i : Int) := by omega
        have i1 : IntKind.i64.wrap ((i : Int) + 1) = (i : Int) + 1 := by rw [IntKind.wrap_i64]; omega
        obtain ⟨z, hz⟩ : ∃ z, es[i]? = some z := ⟨_, List.getElem?_eq_getElem (by rw [HEl.out]; exact hiq)⟩
        have HTk : Hid ((es.take (i + 1)).map (fun e => (false, e)) = (es.take i).map (fun e => ((false, e) : CgI)) ++ [(false, z)]) := lH (by rw [List.take_add_one, hz, List.map_append]; rfl)
        obtain ⟨g, oo, rfl, y0, y1, y2, y3, y4, y5, y6, y7, y8⟩ := (he.out.tch hT4.out).cells hz
        obtain ⟨⟨⟨zs, zh, zl⟩, zn⟩, ⟨zp, ⟨zs1, zh1, zl1⟩, zw⟩⟩ := z
        clear hz
        obtain ⟨W5, hW5⟩ : ∃ W, wr.alloc (.cells #[.bool zs, .int .u64 (zh : Int), .int .u64 (zl : Int), .int .i64 zn, .int .i64 zp, .bool zs1, .int .u64 (zh1 : Int), .int .u64 (zl1 : Int), .bool zw] 70) = W := ⟨_, rfl⟩
        have HT5 : Hid (Tch w W5 []) := lH (hW5 ▸ hT4.out.alloc _)
        have HR5 : Hid (RowC W5 w.heap.size A3 f3 c3 _) := lH (own_tch hR4.out (hW5 ▸ (Tch.refl wr []).alloc (.cells #[.bool zs, .int .u64 (zh : Int), .int .u64 (zl : Int), .int .i64 zn, .int .i64 zp, .bool zs1, .int .u64 (zh1 : Int), .int .u64 (zl1 : Int), .bool zw] 70)) (by simp))
        have HB5 := lH (Blk.new wr 70 #[.bool zs, .int .u64 (zh : Int), .int .u64 (zl : Int), .int .i64 zn, .int .i64 zp, .bool zs1, .int .u64 (zh1 : Int), .int .u64 (zl1 : Int), .bool zw])
        rw [hW5] at HB5
        obtain ⟨z0, z1, z2, z3, z4, z5, z6, z7, z8⟩ := HB5.out.e9
        have HSr := lH (src_new W5 90 (cgC (false, (((zs, zh, zl), zn), (zp, (zs1, zh1, zl1), zw)))))
        have HTa : Hid (Tch W5 (W5.alloc (.cells (cgC (false, (((zs, zh, zl), zn), (zp, (zs1, zh1, zl1), zw)))).toArray 90)) []) := lH ((Tch.refl W5 []).alloc _)
        have HRa := lH (own_tch HR5.out HTa.out (by simp))
        have HSza : Hid (w.heap.size ≤ (W5.alloc (.cells (cgC (false, (((zs, zh, zl), zn), (zp, (zs1, zh1, zl1), zw)))).toArray 90)).heap.size) := lH (Nat.le_trans HT5.out.size HTa.out.size)
        have HSf : Hid (f3 ≤ 1000000) := lH (by have := hf2.out; have := hf3.out; have := HF9.out; have := HD2.out; omega)
        go_wp2_with (at_builtin; (refine wpList_apc 86 90 (.agg #[.bool false, .bool false, .int .u64 0, .int .u64 0, .int .i64 0, .int .i64 0, .bool false, .int .u64 0, .int .u64 0, .bool false]) 10 80 Tryz.underlying86 infoCg rfl (by decide) (by decide) _ rfl (.tmp 84) (.tmp 87) rfl w.heap.size (.slice A3 f3 c3) f3 ((acc ++ os.map (fun e => (true, e)) ++ (es.take i).map (fun e => (false, e))).flatMap cgC) rfl HRa.out ⟨W5.heap.size, 0, none⟩ 1 (cgC (false, (((zs, zh, zl), zn), (zp, (zs1, zh1, zl1), zw)))) rfl rfl (fun j u hj => HSr.out j u hj) (cg_one _) HSf.out HSza.out ?_; intro v7 w7 hown hg hv; obtain ⟨A7, c7, e7, -, -⟩ := own_sl hown; subst e7; have HRz := lH hown; have HTz : Hid (Tch w w7 []) := lH ((HT5.out.trans HTa.out).trans_fre (Tch.of_grown' (S := obI (.slice A3 f3 c3)) hg (fun k e => by rw [obI_some e]; simp)) (fun s hs => .inr (own_geI HR5.out s hs).1)); clear hown hg hv hW5 z0 z1 z2 z3 z4 z5 z6 z7 z8 y0 y1 y2 y3 y4 y5 y6 y7 y8))
        go_roundw
        case rel => exact ⟨i + 1, f3 + 1, A7, c7, rfl, by go_num, hiq, lH (by have := hf3.out; omega), lH (by rw [HTk.out]; unfold RowC; rw [← List.append_assoc, List.flatMap_append]; exact HRz.out), HTz⟩
        case measure => simp [intOf]; omega
       ·obtain rfl : i = q := by omega
        have iI : ¬ (i : Int) < (i : Int) := by omega
        obtain rfl : f3 = D.length := by have := hf2.out; have := hf3.out; have := HF9.out; omega
        have HRe : Hid (RowC wr w.heap.size A3 D.length c3 D) := lH (by
         have := hR4.out
         rw [List.take_of_length_le (by rw [HEl.out]; exact Nat.le_refl _), List.append_assoc, HDx.out] at this
         exact this)
        have HTe := lH hT4.out
        clear hR4 hf3
        go_wp2
        go_ret
        exact ⟨A3, c3, rfl, HRe.out, HTe.out⟩
  ·obtain ⟨g, oo, m, rfl, rfl⟩ := ho.out.some_
   obtain ⟨g', o', m', rfl, rfl⟩ := he.out.some_
   obtain ⟨M, hM⟩ : ∃ M, m + 1 = M := ⟨_, rfl⟩
   obtain ⟨M', hM'⟩ : ∃ M, m' + 1 = M := ⟨_, rfl⟩
   rw [hM] at ho hp ⊢
   rw [hM'] at he hq ⊢
   have p0 : (0 : Int) < (M : Int) := by omega
   have q0 : (0 : Int) < (M' : Int) := by omega
   obtain ⟨⟨⟨os0, oh, ol⟩, on⟩, ⟨op, ⟨os1, oh1, ol1⟩, ow⟩⟩ := o
   obtain ⟨⟨⟨xs0, xh, xl⟩, xn⟩, ⟨xp, ⟨xs1, xh1, xl1⟩, xw⟩⟩ := x
   have HMM := lH (And.intro hM hM')
   have HCl : Hid (∀ W, Tch wr W [] → (fun W => (W.cell? ⟨g, oo, none⟩ = some (Value.bool os0) ∧ W.cell? ⟨g, oo + 1, none⟩ = some (Value.int .u64 (oh : Int)) ∧ W.cell? ⟨g, oo + 2, none⟩ = some (Value.int .u64 (ol : Int)) ∧ W.cell? ⟨g, oo + 3, none⟩ = some (Value.int .i64 on) ∧ W.cell? ⟨g, oo + 4, none⟩ = some (Value.int .i64 op) ∧ W.cell? ⟨g, oo + 5, none⟩ = some (Value.bool os1) ∧ W.cell? ⟨g, oo + 6, none⟩ = some (Value.int .u64 (oh1 : Int)) ∧ W.cell? ⟨g, oo + 7, none⟩ = some (Value.int .u64 (ol1 : Int)) ∧ W.cell? ⟨g, oo + 8, none⟩ = some (Value.bool ow)) ∧ (W.cell? ⟨g', o', none⟩ = some (Value.bool xs0) ∧ W.cell? ⟨g', o' + 1, none⟩ = some (Value.int .u64 (xh : Int)) ∧ W.cell? ⟨g', o' + 2, none⟩ = some (Value.int .u64 (xl : Int)) ∧ W.cell? ⟨g', o' + 3, none⟩ = some (Value.int .i64 xn) ∧ W.cell? ⟨g', o' + 4, none⟩ = some (Value.int .i64 xp) ∧ W.cell? ⟨g', o' + 5, none⟩ = some (Value.bool xs1) ∧ W.cell? ⟨g', o' + 6, none⟩ = some (Value.int .u64 (xh1 : Int)) ∧ W.cell? ⟨g', o' + 7, none⟩ = some (Value.int .u64 (xl1 : Int)) ∧ W.cell? ⟨g', o' + 8, none⟩ = some (Value.bool xw))) W) := lH (fun W hW => ⟨(ho.out.tch (hT.out.trans hW)).head, (he.out.tch (hT.out.trans hW)).head⟩)
   clear hM hM'
   go_wp2
   apply defer3 (fun b6 b7 W => Hid (Blk W b6 70 #[.bool os0, .int .u64 (oh : Int), .int .u64 (ol : Int), .int .i64 on, .int .i64 op, .bool os1, .int .u64 (oh1 : Int), .int .u64 (ol1 : Int), .bool ow] ∧ Blk W b7 70 #[.bool xs0, .int .u64 (xh : Int), .int .u64 (xl : Int), .int .i64 xn, .int .i64 xp, .bool xs1, .int .u64 (xh1 : Int), .int .u64 (xl1 : Int), .bool xw] ∧ Tch wr W []))
   ·intro hFIN
    obtain ⟨L, hL⟩ : ∃ L, wr.heap.size = L := ⟨_, rfl⟩
    have HL := lH hL
    obtain ⟨L1, hL1⟩ : ∃ L1, L + 1 = L1 := ⟨_, rfl⟩
    have HZ0 : Hid (Blk ((wr.drew.alloc (.cells #[.bool false, .int .u64 0, .int .u64 0, .int .i64 0, .int .i64 0, .bool false, .int .u64 0, .int .u64 0, .bool false] 70)).alloc (.cells #[.bool false, .int .u64 0, .int .u64 0, .int .i64 0, .int .i64 0, .bool false, .int .u64 0, .int .u64 0, .bool false] 70)) L 70 #[.bool false, .int .u64 0, .int .u64 0, .int .i64 0, .int .i64 0, .bool false, .int .u64 0, .int .u64 0, .bool false]) := lH (by rw [← hL]; exact (Blk.new wr.drew _ _).alloc _)
    have HZ1 : Hid (Blk ((wr.drew.alloc (.cells #[.bool false, .int .u64 0, .int .u64 0, .int .i64 0, .int .i64 0, .bool false, .int .u64 0, .int .u64 0, .bool false] 70)).alloc (.cells #[.bool false, .int .u64 0, .int .u64 0, .int .i64 0, .int .i64 0, .bool false, .int .u64 0, .int .u64 0, .bool false] 70)) L1 70 #[.bool false, .int .u64 0, .int .u64 0, .int .i64 0, .int .i64 0, .bool false, .int .u64 0, .int .u64 0, .bool false]) := lH (by
     have := Blk.new (wr.drew.alloc (.cells #[.bool false, .int .u64 0, .int .u64 0, .int .i64 0, .int .i64 0, .bool false, .int .u64 0, .int .u64 0, .bool false] 70)) 70 #[.bool false, .int .u64 0, .int .u64 0, .int .i64 0, .int .i64 0, .bool false, .int .u64 0, .int .u64 0, .bool false]
     rw [zA, show wr.drew.heap.size = L from hL, hL1] at this
     exact this)
    have HT2 : Hid (Tch wr ((wr.drew.alloc (.cells #[.bool false, .int .u64 0, .int .u64 0, .int .i64 0, .int .i64 0, .bool false, .int .u64 0, .int .u64 0, .bool false] 70)).alloc (.cells #[.bool false, .int .u64 0, .int .u64 0, .int .i64 0, .int .i64 0, .bool false, .int .u64 0, .int .u64 0, .bool false] 70)) []) := lH (((Tch.refl wr []).drew.alloc _).alloc _)
    refine wp_region_held_drew (S := (fun W => (W.cell? ⟨g, oo, none⟩ = some (Value.bool os0) ∧ W.cell? ⟨g, oo + 1, none⟩ = some (Value.int .u64 (oh : Int)) ∧ W.cell? ⟨g, oo + 2, none⟩ = some (Value.int .u64 (ol : Int)) ∧ W.cell? ⟨g, oo + 3, none⟩ = some (Value.int .i64 on) ∧ W.cell? ⟨g, oo + 4, none⟩ = some (Value.int .i64 op) ∧ W.cell? ⟨g, oo + 5, none⟩ = some (Value.bool os1) ∧ W.cell? ⟨g, oo + 6, none⟩ = some (Value.int .u64 (oh1 : Int)) ∧ W.cell? ⟨g, oo + 7, none⟩ = some (Value.int .u64 (ol1 : Int)) ∧ W.cell? ⟨g, oo + 8, none⟩ = some (Value.bool ow)) ∧ (W.cell? ⟨g', o', none⟩ = some (Value.bool xs0) ∧ W.cell? ⟨g', o' + 1, none⟩ = some (Value.int .u64 (xh : Int)) ∧ W.cell? ⟨g', o' + 2, none⟩ = some (Value.int .u64 (xl : Int)) ∧ W.cell? ⟨g', o' + 3, none⟩ = some (Value.int .i64 xn) ∧ W.cell? ⟨g', o' + 4, none⟩ = some (Value.int .i64 xp) ∧ W.cell? ⟨g', o' + 5, none⟩ = some (Value.bool xs1) ∧ W.cell? ⟨g', o' + 6, none⟩ = some (Value.int .u64 (xh1 : Int)) ∧ W.cell? ⟨g', o' + 7, none⟩ = some (Value.int .u64 (xl1 : Int)) ∧ W.cell? ⟨g', o' + 8, none⟩ = some (Value.bool xw)))) (by kernel_rfl) ?_ (fun hHeld => ?_)
    ·(first | exact HCl.out _ (Tch.refl wr []).drew | exact HCl.out _ ((Tch.refl wr []).drew.alloc _) | exact HCl.out _ (((Tch.refl wr []).drew.alloc _).alloc _) | exact HCl.out _ HT8.out | exact HCl.out _ HT9.out)
    refine tkH 0 ?_
    refine tkH 1 ?_
    refine tkH 2 ?_
    refine tkH 3 ?_
    refine tkH 4 ?_
    refine tkH 5 ?_
    refine wpAnyH_ready (rs := [6, 7]) (by kernel_rfl) (by simp) ?_
    refine (AllReadyH.cons (o := { dst := some 6, op := Go.Op.alloc 70, type := 0, pos := "entries.go:27", after := #[], guard := none }) rfl (fun K hK => ?_) (AllReadyH.cons (o := { dst := some 7, op := Go.Op.alloc 70, type := 0, pos := "entries.go:27", after := #[], guard := none }) rfl (fun K hK => ?_) AllReadyH.nil))
    ·go_simp
     refine hK.out _ _ ?_ (fun hHeld => ?_)
     ·(first | exact HCl.out _ (Tch.refl wr []).drew | exact HCl.out _ ((Tch.refl wr []).drew.alloc _) | exact HCl.out _ (((Tch.refl wr []).drew.alloc _).alloc _) | exact HCl.out _ HT8.out | exact HCl.out _ HT9.out)
     clear hK K
     try simp only [Act.put, List.setIfInBounds_toArray, List.set_cons_zero, List.set_cons_succ]
     refine wpAnyH_ready (rs := [7]) (by kernel_rfl) (by simp) ?_
     refine (AllReadyH.cons (o := { dst := some 7, op := Go.Op.alloc 70, type := 0, pos := "entries.go:27", after := #[], guard := none }) rfl (fun K hK => ?_) AllReadyH.nil)
     ·go_simp
      refine hK.out _ _ ?_ (fun hHeld => ?_)
      ·(first | exact HCl.out _ (Tch.refl wr []).drew | exact HCl.out _ ((Tch.refl wr []).drew.alloc _) | exact HCl.out _ (((Tch.refl wr []).drew.alloc _).alloc _) | exact HCl.out _ HT8.out | exact HCl.out _ HT9.out)
      clear hK K
      try simp only [Act.put, List.setIfInBounds_toArray, List.set_cons_zero, List.set_cons_succ]
      refine wpAnyH_ready (rs := [8]) (by kernel_rfl) (by simp) ?_
      refine (AllReadyH.cons (o := { dst := none, op := Go.Op.store 70 (Go.Operand.tmp 6) (Go.Operand.tmp 22), type := 0, pos := "entries.go:27", after := #[{ on := 6, ground := Go.Ground.data }, { on := 2, ground := Go.Ground.data }, { on := 0, ground := Go.Ground.phase }, { on := 1, ground := Go.Ground.phase }, { on := 2, ground := Go.Ground.phase }, { on := 3, ground := Go.Ground.textOnly Go.Departure.lateStores }, { on := 4, ground := Go.Ground.textOnly Go.Departure.lateStores }, { on := 5, ground := Go.Ground.textOnly Go.Departure.lateStores }, { on := 6, ground := Go.Ground.phase }, { on := 7, ground := Go.Ground.phase }], guard := none }) rfl (fun K hK => ?_) AllReadyH.nil)
      ·rw [if_pos (by rfl)]
       refine wpo_sta 70 (.tmp 6) (.tmp 22) rfl (L) 0 #[.bool os0, .int .u64 (oh : Int), .int .u64 (ol : Int), .int .i64 on, .int .i64 op, .bool os1, .int .u64 (oh1 : Int), .int .u64 (ol1 : Int), .bool ow] rfl rfl 70 #[.bool false, .int .u64 0, .int .u64 0, .int .i64 0, .int .i64 0, .bool false, .int .u64 0, .int .u64 0, .bool false] HZ0.out 9 enSz rfl (show 0 + 9 ≤ 9 from by decide) (by simp [Value.oneCell']) (fun w8 hs8 => ?_)
       have HS8 := lH hs8
       have HT8 : Hid (Tch wr w8 []) := lH (HT2.out.trans_fre HS8.out.tch (by simp [HL.out]; try omega))
       clear hs8
       refine hK.out _ _ ?_ (fun hHeld => ?_)
       ·(first | exact HCl.out _ (Tch.refl wr []).drew | exact HCl.out _ ((Tch.refl wr []).drew.alloc _) | exact HCl.out _ (((Tch.refl wr []).drew.alloc _).alloc _) | exact HCl.out _ HT8.out | exact HCl.out _ HT9.out)
       clear hK K
       try simp only [Act.put]
       refine wpAnyH_ready (rs := [9]) (by kernel_rfl) (by simp) ?_
       refine (AllReadyH.cons (o := { dst := none, op := Go.Op.store 70 (Go.Operand.tmp 7) (Go.Operand.tmp 25), type := 0, pos := "entries.go:27", after := #[{ on := 7, ground := Go.Ground.data }, { on := 5, ground := Go.Ground.data }, { on := 8, ground := Go.Ground.chain }, { on := 0, ground := Go.Ground.phase }, { on := 1, ground := Go.Ground.phase }, { on := 2, ground := Go.Ground.phase }, { on := 3, ground := Go.Ground.phase }, { on := 4, ground := Go.Ground.phase }, { on := 5, ground := Go.Ground.phase }, { on := 6, ground := Go.Ground.phase }, { on := 7, ground := Go.Ground.phase }, { on := 8, ground := Go.Ground.phase }], guard := none }) rfl (fun K hK => ?_) AllReadyH.nil)
       ·rw [if_pos (by rfl)]
        refine wpo_sta 70 (.tmp 7) (.tmp 25) rfl (L1) 0 #[.bool xs0, .int .u64 (xh : Int), .int .u64 (xl : Int), .int .i64 xn, .int .i64 xp, .bool xs1, .int .u64 (xh1 : Int), .int .u64 (xl1 : Int), .bool xw] rfl rfl 70 #[.bool false, .int .u64 0, .int .u64 0, .int .i64 0, .int .i64 0, .bool false, .int .u64 0, .int .u64 0, .bool false] (HS8.out.tch.blk HZ1.out (by simp; omega)) 9 enSz rfl (show 0 + 9 ≤ 9 from by decide) (by simp [Value.oneCell']) (fun w9 hs9 => ?_)
        have HS9 := lH hs9
        have HT9 : Hid (Tch wr w9 []) := lH (HT8.out.trans_fre HS9.out.tch (by simp [HL.out]; try omega))
        clear hs9
        refine hK.out _ _ ?_ (fun hHeld => ?_)
        ·(first | exact HCl.out _ (Tch.refl wr []).drew | exact HCl.out _ ((Tch.refl wr []).drew.alloc _) | exact HCl.out _ (((Tch.refl wr []).drew.alloc _).alloc _) | exact HCl.out _ HT8.out | exact HCl.out _ HT9.out)
        clear hK K
        try simp only [Act.put]
        refine wpAnyH_done (by kernel_rfl) ?_ _
        exact hFIN L L1 w9 (lH ⟨HS9.out.tch.blk (sta_whole HS8.out rfl) (by simp; omega), sta_whole HS9.out rfl, HT9.out⟩)
    ·go_simp
     refine hK.out _ _ ?_ (fun hHeld => ?_)
     ·(first | exact HCl.out _ (Tch.refl wr []).drew | exact HCl.out _ ((Tch.refl wr []).drew.alloc _) | exact HCl.out _ (((Tch.refl wr []).drew.alloc _).alloc _) | exact HCl.out _ HT8.out | exact HCl.out _ HT9.out)
     clear hK K
     try simp only [Act.put, List.setIfInBounds_toArray, List.set_cons_zero, List.set_cons_succ]
     refine wpAnyH_ready (rs := [6]) (by kernel_rfl) (by simp) ?_
     refine (AllReadyH.cons (o := { dst := some 6, op := Go.Op.alloc 70, type := 0, pos := "entries.go:27", after := #[], guard := none }) rfl (fun K hK => ?_) AllReadyH.nil)
     ·go_simp
      refine hK.out _ _ ?_ (fun hHeld => ?_)
      ·(first | exact HCl.out _ (Tch.refl wr []).drew | exact HCl.out _ ((Tch.refl wr []).drew.alloc _) | exact HCl.out _ (((Tch.refl wr []).drew.alloc _).alloc _) | exact HCl.out _ HT8.out | exact HCl.out _ HT9.out)
      clear hK K
      try simp only [Act.put, List.setIfInBounds_toArray, List.set_cons_zero, List.set_cons_succ]
      refine wpAnyH_ready (rs := [8]) (by kernel_rfl) (by simp) ?_
      refine (AllReadyH.cons (o := { dst := none, op := Go.Op.store 70 (Go.Operand.tmp 6) (Go.Operand.tmp 22), type := 0, pos := "entries.go:27", after := #[{ on := 6, ground := Go.Ground.data }, { on := 2, ground := Go.Ground.data }, { on := 0, ground := Go.Ground.phase }, { on := 1, ground := Go.Ground.phase }, { on := 2, ground := Go.Ground.phase }, { on := 3, ground := Go.Ground.textOnly Go.Departure.lateStores }, { on := 4, ground := Go.Ground.textOnly Go.Departure.lateStores }, { on := 5, ground := Go.Ground.textOnly Go.Departure.lateStores }, { on := 6, ground := Go.Ground.phase }, { on := 7, ground := Go.Ground.phase }], guard := none }) rfl (fun K hK => ?_) AllReadyH.nil)
      ·rw [if_pos (by rfl)]
       refine wpo_sta 70 (.tmp 6) (.tmp 22) rfl (L1) 0 #[.bool os0, .int .u64 (oh : Int), .int .u64 (ol : Int), .int .i64 on, .int .i64 op, .bool os1, .int .u64 (oh1 : Int), .int .u64 (ol1 : Int), .bool ow] rfl rfl 70 #[.bool false, .int .u64 0, .int .u64 0, .int .i64 0, .int .i64 0, .bool false, .int .u64 0, .int .u64 0, .bool false] HZ1.out 9 enSz rfl (show 0 + 9 ≤ 9 from by decide) (by simp [Value.oneCell']) (fun w8 hs8 => ?_)
       have HS8 := lH hs8
       have HT8 : Hid (Tch wr w8 []) := lH (HT2.out.trans_fre HS8.out.tch (by simp [HL.out]; try omega))
       clear hs8
       refine hK.out _ _ ?_ (fun hHeld => ?_)
       ·(first | exact HCl.out _ (Tch.refl wr []).drew | exact HCl.out _ ((Tch.refl wr []).drew.alloc _) | exact HCl.out _ (((Tch.refl wr []).drew.alloc _).alloc _) | exact HCl.out _ HT8.out | exact HCl.out _ HT9.out)
       clear hK K
       try simp only [Act.put]
       refine wpAnyH_ready (rs := [9]) (by kernel_rfl) (by simp) ?_
       refine (AllReadyH.cons (o := { dst := none, op := Go.Op.store 70 (Go.Operand.tmp 7) (Go.Operand.tmp 25), type := 0, pos := "entries.go:27", after := #[{ on := 7, ground := Go.Ground.data }, { on := 5, ground := Go.Ground.data }, { on := 8, ground := Go.Ground.chain }, { on := 0, ground := Go.Ground.phase }, { on := 1, ground := Go.Ground.phase }, { on := 2, ground := Go.Ground.phase }, { on := 3, ground := Go.Ground.phase }, { on := 4, ground := Go.Ground.phase }, { on := 5, ground := Go.Ground.phase }, { on := 6, ground := Go.Ground.phase }, { on := 7, ground := Go.Ground.phase }, { on := 8, ground := Go.Ground.phase }], guard := none }) rfl (fun K hK => ?_) AllReadyH.nil)
       ·rw [if_pos (by rfl)]
        refine wpo_sta 70 (.tmp 7) (.tmp 25) rfl (L) 0 #[.bool xs0, .int .u64 (xh : Int), .int .u64 (xl : Int), .int .i64 xn, .int .i64 xp, .bool xs1, .int .u64 (xh1 : Int), .int .u64 (xl1 : Int), .bool xw] rfl rfl 70 #[.bool false, .int .u64 0, .int .u64 0, .int .i64 0, .int .i64 0, .bool false, .int .u64 0, .int .u64 0, .bool false] (HS8.out.tch.blk HZ0.out (by simp; omega)) 9 enSz rfl (show 0 + 9 ≤ 9 from by decide) (by simp [Value.oneCell']) (fun w9 hs9 => ?_)
        have HS9 := lH hs9
        have HT9 : Hid (Tch wr w9 []) := lH (HT8.out.trans_fre HS9.out.tch (by simp [HL.out]; try omega))
        clear hs9
        refine hK.out _ _ ?_ (fun hHeld => ?_)
        ·(first | exact HCl.out _ (Tch.refl wr []).drew | exact HCl.out _ ((Tch.refl wr []).drew.alloc _) | exact HCl.out _ (((Tch.refl wr []).drew.alloc _).alloc _) | exact HCl.out _ HT8.out | exact HCl.out _ HT9.out)
        clear hK K
        try simp only [Act.put]
        refine wpAnyH_done (by kernel_rfl) ?_ _
        exact hFIN L1 L w9 (lH ⟨HS9.out.tch.blk (sta_whole HS8.out rfl) (by simp; omega), sta_whole HS9.out rfl, HT9.out⟩)
   ·intro b6 b7 W9 hF
    have HB6 := lH hF.out.1
    have HB7 := lH hF.out.2.1
    have HT9 : Hid (Tch w W9 []) := lH (hT.out.trans hF.out.2.2)
    have HR9 := lH (own_tch hR.out hF.out.2.2 (by simp))
    have HS9 : Hid (w.heap.size ≤ W9.heap.size) := lH HT9.out.size
    clear hF
    obtain ⟨x0, x1, x2, x3, x4, x5, x6, x7, x8⟩ := HB7.out.e9
    obtain ⟨o0, o1, o2, o3, o4, o5, o6, o7, o8⟩ := HB6.out.e9
    obtain ⟨bp, hbp⟩ : ∃ b, decide (((os0, oh, ol), on) = ((xs0, xh, xl), xn)) = b := ⟨_, rfl⟩
    obtain ⟨bh, hbh⟩ : ∃ b, decide ((op, (os1, oh1, ol1), ow) = (xp, (xs1, xh1, xl1), xw)) = b := ⟨_, rfl⟩
    have Q1 := eqA_eql 30 _ _ (eq_pfR ((os0, oh, ol), on) ((xs0, xh, xl), xn) hbp)
    have Q2 := eq_neq 43 _ _ (eq_hpR (op, (os1, oh1, ol1), ow) (xp, (xs1, xh1, xl1), xw) hbh)
    have HBP := lH hbp
    have HBH := lH hbh
    clear hbp hbh
    have HF9 := lH (show f + (chI ((((os0, oh, ol), on), (op, (os1, oh1, ol1), ow)) :: os') ((((xs0, xh, xl), xn), (xp, (xs1, xh1, xl1), xw)) :: es')).length = D.length by rw [← hacc.out, List.length_append, hf.out])
    have HCc := lH (chI_cons (((os0, oh, ol), on), (op, (os1, oh1, ol1), ow)) (((xs0, xh, xl), xn), (xp, (xs1, xh1, xl1), xw)) os' es')
    have p1 : (1 : Int) ≤ (M : Int) := by omega
    have q1 : (1 : Int) ≤ (M' : Int) := by omega
    have HP1 := lH (And.intro p1 q1)
    clear p1 q1
    cases bp with
    | true =>
     have hE1 : ((os0, oh, ol), on) = ((xs0, xh, xl), xn) := of_decide_eq_true HBP.out
     cases bh with
     | true =>
      have HDn : Hid (acc ++ chI os' es' = D) := lH (by rw [← hacc.out, HCc.out, if_pos hE1, if_pos (of_decide_eq_true HBH.out)])
      clear hE1
      simp only [Bool.not_true] at Q2
      go_wp2
      clear o0 o1 o2 o3 o4 o5 o6 o7 o8 x0 x1 x2 x3 x4 x5 x6 x7 x8 Q1 Q2
      obtain ⟨p1, q1⟩ := HP1.out
      go_quiet (fail)
      have HRd : Hid (RowC (W9.drewN nq) w.heap.size A1 f c1 acc) := lH (own_tch HR9.out ((Tch.refl W9 []).drewN nq) (by simp))
      have HTd : Hid (Tch w (W9.drewN nq) []) := lH (HT9.out.drewN nq)
      go_wp2
      go_roundw
      case rel => exact ⟨_, _, A1, M - 1, M' - 1, f, _, _, c1, os', es', acc, rfl, rfl, rfl, by omega, by omega, hf9, lH ho.out.tail_, lH he.out.tail_, lH hso.out.tail, lH hse.out.tail, hf, HDn, HRd, HTd⟩
      case measure => simp; omega
     | false =>
      have HDn : Hid ((acc ++ [(false, (((xs0, xh, xl), xn), (xp, (xs1, xh1, xl1), xw)))]) ++ chI os' es' = D) := lH (by rw [← hacc.out, HCc.out, if_pos hE1, if_neg (of_decide_eq_false HBH.out), List.append_assoc]; rfl)
      have hfl : f + 1 ≤ 2000 := by have h1 := congrArg List.length HDn.out; simp only [List.length_append, List.length_cons, List.length_nil, hf.out] at h1; have := HLn.out; have := HNk.out; omega
      have HFl := lH hfl
      clear hE1 hfl
      simp only [Bool.not_false] at Q2
      have HSr := lH (src_new W9 90 (cgC (false, (((xs0, xh, xl), xn), (xp, (xs1, xh1, xl1), xw)))))
      have HTa : Hid (Tch W9 (W9.alloc (.cells (cgC (false, (((xs0, xh, xl), xn), (xp, (xs1, xh1, xl1), xw)))).toArray 90)) []) := lH ((Tch.refl W9 []).alloc _)
      have HRa := lH (own_tch HR9.out HTa.out (by simp))
      have HSza : Hid (w.heap.size ≤ (W9.alloc (.cells (cgC (false, (((xs0, xh, xl), xn), (xp, (xs1, xh1, xl1), xw)))).toArray 90)).heap.size) := lH (Nat.le_trans HS9.out HTa.out.size)
      have HSf : Hid (f ≤ 1000000) := lH (by omega)
      go_wp2_with (at_builtin; (refine wpList_apc 86 90 (.agg #[.bool false, .bool false, .int .u64 0, .int .u64 0, .int .i64 0, .int .i64 0, .bool false, .int .u64 0, .int .u64 0, .bool false]) 10 80 Tryz.underlying86 infoCg rfl (by decide) (by decide) _ rfl (.tmp 44) (.tmp 47) rfl w.heap.size (.slice A1 f c1) f ((acc).flatMap cgC) rfl HRa.out ⟨W9.heap.size, 0, none⟩ 1 (cgC (false, (((xs0, xh, xl), xn), (xp, (xs1, xh1, xl1), xw)))) rfl rfl (fun j u hj => HSr.out j u hj) (cg_one _) HSf.out HSza.out ?_; intro v7 w7 hown hg hv; obtain ⟨A7, c7, e7, -, -⟩ := own_sl hown; subst e7; have HRz := lH hown; have HTz : Hid (Tch w w7 []) := lH ((HT9.out.trans HTa.out).trans_fre (Tch.of_grown' (S := obI (.slice A1 f c1)) hg (fun k e => by rw [obI_some e]; simp)) (fun s hs => .inr (own_geI HR9.out s hs).1)); clear hown hg hv))
      clear o0 o1 o2 o3 o4 o5 o6 o7 o8 x0 x1 x2 x3 x4 x5 x6 x7 x8 Q1 Q2
      obtain ⟨p1, q1⟩ := HP1.out
      go_quiet (fail)
      have HRd : Hid (RowC (w7.drewN nq) w.heap.size A7 (f + 1) c7 (acc ++ [(false, (((xs0, xh, xl), xn), (xp, (xs1, xh1, xl1), xw)))])) := lH (by unfold RowC; rw [List.flatMap_append]; exact own_tch HRz.out ((Tch.refl w7 []).drewN nq) (by simp))
      have HTd : Hid (Tch w (w7.drewN nq) []) := lH (HTz.out.drewN nq)
      go_wp2
      go_roundw
      case rel => exact ⟨_, _, A7, M - 1, M' - 1, f + 1, _, _, c7, os', es', acc ++ [(false, (((xs0, xh, xl), xn), (xp, (xs1, xh1, xl1), xw)))], rfl, rfl, rfl, by omega, by omega, HFl.out, lH ho.out.tail_, lH he.out.tail_, lH hso.out.tail, lH hse.out.tail, lH (by rw [List.length_append, hf.out]; rfl), HDn, HRd, HTd⟩
      case measure => simp; omega
    | false =>
     have hE1 : ¬ ((os0, oh, ol), on) = ((xs0, xh, xl), xn) := of_decide_eq_false HBP.out
     obtain ⟨bl, hbl⟩ : ∃ b, lessI ((xs0, xh, xl), xn) ((os0, oh, ol), on) = b := ⟨_, rfl⟩
     have hox := hso.out.ok _ (List.mem_cons_self)
     have hxx := hse.out.ok _ (List.mem_cons_self)
     have HLe := lH (fun W => pless_at xs0 xh xl xn os0 oh ol on hxx.2.2.1 hxx.2.2.2 hox.2.2.1 hox.2.2.2 hbl W)
     have HBL := lH hbl
     have HE1 := lH hE1
     clear hE1 hbl hox hxx Q2
     go_wp2_with fail
     refine cZm (HLe.out W9) ?_
     rintro e w10 ⟨rfl, hb10⟩
     have hT10 := Tch.of_below [] hb10
     have HT10 := lH (HT9.out.trans hT10)
     have HR10 := lH (own_tch HR9.out hT10 (by simp))
     have HB6' := lH (hT10.blk HB6.out (by simp))
     have HB7' := lH (hT10.blk HB7.out (by simp))
     have HS9 : Hid (w.heap.size ≤ w10.heap.size) := lH HT10.out.size
     clear o0 o1 o2 o3 o4 o5 o6 o7 o8 x0 x1 x2 x3 x4 x5 x6 x7 x8 Q1 hb10 hT10
     obtain ⟨p1, q1⟩ := HP1.out
     cases bl with
     | true =>
      obtain ⟨x0, x1, x2, x3, x4, x5, x6, x7, x8⟩ := HB7'.out.e9
      have HDn : Hid ((acc ++ [(false, (((xs0, xh, xl), xn), (xp, (xs1, xh1, xl1), xw)))]) ++ chI ((((os0, oh, ol), on), (op, (os1, oh1, ol1), ow)) :: os') es' = D) := lH (by rw [← hacc.out, HCc.out, if_neg HE1.out, if_pos HBL.out, List.append_assoc]; rfl)
      have hfl : f + 1 ≤ 2000 := by have h1 := congrArg List.length HDn.out; simp only [List.length_append, List.length_cons, List.length_nil, hf.out] at h1; have := HLn.out; have := HNk.out; omega
      have HFl := lH hfl
      clear hfl
      have HSr := lH (src_new w10 90 (cgC (false, (((xs0, xh, xl), xn), (xp, (xs1, xh1, xl1), xw)))))
      have HTa : Hid (Tch w10 (w10.alloc (.cells (cgC (false, (((xs0, xh, xl), xn), (xp, (xs1, xh1, xl1), xw)))).toArray 90)) []) := lH ((Tch.refl w10 []).alloc _)
      have HRa := lH (own_tch HR10.out HTa.out (by simp))
      have HSza : Hid (w.heap.size ≤ (w10.alloc (.cells (cgC (false, (((xs0, xh, xl), xn), (xp, (xs1, xh1, xl1), xw)))).toArray 90)).heap.size) := lH (Nat.le_trans HS9.out HTa.out.size)
      have HSf : Hid (f ≤ 1000000) := lH (by omega)
      go_wp2_with (at_builtin; (refine wpList_apc 86 90 (.agg #[.bool false, .bool false, .int .u64 0, .int .u64 0, .int .i64 0, .int .i64 0, .bool false, .int .u64 0, .int .u64 0, .bool false]) 10 80 Tryz.underlying86 infoCg rfl (by decide) (by decide) _ rfl (.tmp 59) (.tmp 62) rfl w.heap.size (.slice A1 f c1) f ((acc).flatMap cgC) rfl HRa.out ⟨w10.heap.size, 0, none⟩ 1 (cgC (false, (((xs0, xh, xl), xn), (xp, (xs1, xh1, xl1), xw)))) rfl rfl (fun j u hj => HSr.out j u hj) (cg_one _) HSf.out HSza.out ?_; intro v7 w7 hown hg hv; obtain ⟨A7, c7, e7, -, -⟩ := own_sl hown; subst e7; have HRz := lH hown; have HTz : Hid (Tch w w7 []) := lH ((HT10.out.trans HTa.out).trans_fre (Tch.of_grown' (S := obI (.slice A1 f c1)) hg (fun k e => by rw [obI_some e]; simp)) (fun s hs => .inr (own_geI HR10.out s hs).1)); clear hown hg hv))
      go_roundw
      case rel => exact ⟨_, _, A7, M, M' - 1, f + 1, _, _, c7, (((os0, oh, ol), on), (op, (os1, oh1, ol1), ow)) :: os', es', acc ++ [(false, (((xs0, xh, xl), xn), (xp, (xs1, xh1, xl1), xw)))], rfl, rfl, rfl, hp, by omega, HFl.out, ho, lH he.out.tail_, hso, lH hse.out.tail, lH (by rw [List.length_append, hf.out]; rfl), HDn, lH (by unfold RowC; rw [List.flatMap_append]; exact HRz.out), HTz⟩
      case measure => simp; omega
     | false =>
      obtain ⟨o0, o1, o2, o3, o4, o5, o6, o7, o8⟩ := HB6'.out.e9
      have HDn : Hid ((acc ++ [(true, (((os0, oh, ol), on), (op, (os1, oh1, ol1), ow)))]) ++ chI os' ((((xs0, xh, xl), xn), (xp, (xs1, xh1, xl1), xw)) :: es') = D) := lH (by rw [← hacc.out, HCc.out, if_neg HE1.out, if_neg (by rw [HBL.out]; decide), List.append_assoc]; rfl)
      have hfl : f + 1 ≤ 2000 := by have h1 := congrArg List.length HDn.out; simp only [List.length_append, List.length_cons, List.length_nil, hf.out] at h1; have := HLn.out; have := HNk.out; omega
      have HFl := lH hfl
      clear hfl
      have HSr := lH (src_new w10 90 (cgC (true, (((os0, oh, ol), on), (op, (os1, oh1, ol1), ow)))))
      have HTa : Hid (Tch w10 (w10.alloc (.cells (cgC (true, (((os0, oh, ol), on), (op, (os1, oh1, ol1), ow)))).toArray 90)) []) := lH ((Tch.refl w10 []).alloc _)
      have HRa := lH (own_tch HR10.out HTa.out (by simp))
      have HSza : Hid (w.heap.size ≤ (w10.alloc (.cells (cgC (true, (((os0, oh, ol), on), (op, (os1, oh1, ol1), ow)))).toArray 90)).heap.size) := lH (Nat.le_trans HS9.out HTa.out.size)
      have HSf : Hid (f ≤ 1000000) := lH (by omega)
      go_wp2_with (at_builtin; (refine wpList_apc 86 90 (.agg #[.bool false, .bool false, .int .u64 0, .int .u64 0, .int .i64 0, .int .i64 0, .bool false, .int .u64 0, .int .u64 0, .bool false]) 10 80 Tryz.underlying86 infoCg rfl (by decide) (by decide) _ rfl (.tmp 26) (.tmp 29) rfl w.heap.size (.slice A1 f c1) f ((acc).flatMap cgC) rfl HRa.out ⟨w10.heap.size, 0, none⟩ 1 (cgC (true, (((os0, oh, ol), on), (op, (os1, oh1, ol1), ow)))) rfl rfl (fun j u hj => HSr.out j u hj) (cg_one _) HSf.out HSza.out ?_; intro v7 w7 hown hg hv; obtain ⟨A7, c7, e7, -, -⟩ := own_sl hown; subst e7; have HRz := lH hown; have HTz : Hid (Tch w w7 []) := lH ((HT10.out.trans HTa.out).trans_fre (Tch.of_grown' (S := obI (.slice A1 f c1)) hg (fun k e => by rw [obI_some e]; simp)) (fun s hs => .inr (own_geI HR10.out s hs).1)); clear hown hg hv))
      go_roundw
      case rel => exact ⟨_, _, A7, M - 1, M', f + 1, _, _, c7, os', (((xs0, xh, xl), xn), (xp, (xs1, xh1, xl1), xw)) :: es', acc ++ [(true, (((os0, oh, ol), on), (op, (os1, oh1, ol1), ow)))], rfl, rfl, rfl, by omega, hq, HFl.out, lH ho.out.tail_, he, lH hso.out.tail, hse, lH (by rw [List.length_append, hf.out]; rfl), HDn, lH (by unfold RowC; rw [List.flatMap_append]; exact HRz.out), HTz⟩
      case measure => simp; omega
end Go.Proofs.YtgfkmgbcajdcdaaGreatDoor
