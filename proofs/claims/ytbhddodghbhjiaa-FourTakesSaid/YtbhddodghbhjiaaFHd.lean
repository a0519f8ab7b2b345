/-
  ip4.header of any packet that may be.
-/
import Derived.Test.YtbhddodghbhjiaaFPk
import Derived.Test.YtbhddodghbhjiaaFCopy
import Derived.Test.YtbhddodghbhjiaaFApps
import Derived.Test.YtbhddodghbhjiaaPut
import Derived.Test.YtbhddodghbhjiaaTOne
import Derived.Deep.RegionHeld3
namespace Go.Proofs.Ytbhddodghbhjiaa
open Go.RowKit
set_option linter.unusedVariables false

theorem own_form1 {w : World} {R n : Nat} {t : TypeId} {v : Value} {xs : List Value} (h : w.ownsRow R t 1 v n xs) : ∃ a c, v = .slice a n c := by
  rcases h.2 with ⟨hv, h0⟩ | ⟨g, cap, cur, hv, _⟩
  · exact ⟨none, 0, by rw [hv, h0]⟩
  · exact ⟨_, _, hv⟩
theorem own_far1 {w : World} {R n b : Nat} {t : TypeId} {v : Value} {xs : List Value} (h : w.ownsRow R t 1 v n xs) (hb : b < R) : v.ownBlock ≠ some b := by
  intro e
  have := own_basek h b e
  omega
theorem own_set1 {w : World} {R n b i : Nat} {t : TypeId} {v u : Value} {xs : List Value} (h : w.ownsRow R t 1 v n xs) (hb : b < R) : (w.setCell ⟨b, i, none⟩ u).ownsRow R t 1 v n xs :=
  h.kept (row := some b) ⟨rfl, rfl, rfl, by simp [World.setCell], fun k _ hk => Below.heap_setCell _ _ _ _ (fun e => hk (by simp [e]))⟩ (Or.inr (own_far1 h hb))
theorem own_below1 {w w' : World} {R n : Nat} {t : TypeId} {v : Value} {xs : List Value} (h : w.ownsRow R t 1 v n xs) (hb : Below w.heap.size w w') : w'.ownsRow R t 1 v n xs := by
  refine ⟨h.1, h.2.imp id ?_⟩
  rintro ⟨g, cap, cur, a, b, c, d⟩
  refine ⟨g, cap, cur, a, b, ?_, d⟩
  rw [hb.block g ?_]
  · exact c
  · exact (show Blk w g t cur from c).lt
theorem own_blk {w : World} {R g n : Nat} {zs : List Int} (h : Blk w g 5 ((zs.map (Value.int .u8)).toArray)) (hR : R ≤ g) (hl : zs.length = n) (hn : n ≤ 9223372036854775807) : w.ownsRow R 5 1 (.slice (some ⟨g, 0, none⟩) n n) n (zs.map (Value.int .u8)) :=
  ⟨by simp [hl], .inr ⟨g, n, _, rfl, hR, h, Nat.le_refl _, hn, by simp [hl], by rw [Nat.mul_one, List.toList_toArray, List.take_of_length_le (by simp [hl])]⟩⟩

set_option maxRecDepth 100000 in
theorem slice_ten (w : World) (g n c : Nat) (hn : 12 ≤ n) (hc : n ≤ c) :
    (Instr.slice 61 (.slice (some ⟨g, 0, none⟩) n c) (some (.int .i64 10)) none none).run Try.prog w = .ok (.slice (some ⟨g, 10, none⟩) (n - 10) (c - 10)) w := by
  have h := run_slice_l (P := Try.prog) (w := w) 61 (some ⟨g, 0, none⟩) n c Try.underlying61 .i64 (10 : Int) (by omega) (by omega)
  rw [h]
  have e : ¬ c = 10 := by omega
  simp [sliced, go_sem, e, Addr.add]

/-- What stands while a header is written: the packet's own variable, and that of the bytes so far. -/
def HS (w0 : World) (p : Pk) (zs : List Int) (W : World) : Prop :=
  Blk W w0.heap.size 27 (fcs p) ∧ (∃ v, Blk W (w0.heap.size + 1) 61 #[v] ∧ W.ownsRow (w0.heap.size + 2) 5 1 v zs.length (zs.map (Value.int .u8))) ∧ Below w0.heap.size w0 W ∧ By zs ∧ w0.heap.size + 2 ≤ W.heap.size
theorem HS.below {w0 : World} {p : Pk} {zs : List Int} {W W' : World} (h : HS w0 p zs W) (hb : Below W.heap.size W W') : HS w0 p zs W' := by
  obtain ⟨a, ⟨v, b, c⟩, d, e, f⟩ := h
  exact ⟨a.below hb a.lt, ⟨v, b.below hb b.lt, own_below1 c hb⟩, d.trans (hb.mono d.size), e, by have := hb.size; omega⟩
set_option maxRecDepth 100000 in
set_option maxHeartbeats 2000000 in
theorem hput (w0 : World) (p : Pk) (k : Nat) (hk : k ≤ 8) (n : Int) (hn0 : 0 ≤ n) (hn1 : n ≤ 9223372036854775807) (zs : List Int) (hl : zs.length ≤ 90) (W : World) (h : HS w0 p zs W) :
    Calls Try.prog 81 #[.int .i64 (k : Int), .int .i64 n, .pointer (some ⟨w0.heap.size + 1, 0, none⟩)] W fun e W' => e = .returned (.tuple #[]) ∧ HS w0 p (zs ++ putOf k n) W' := by
  obtain ⟨h1, ⟨v, h2, h3⟩, h4, h5, h6⟩ := h
  obtain ⟨A, c, rfl, r1, -, -, -, -⟩ := own_ri h5.wf h3
  have HP := Lib.hid (put_k k zs.length hk n hn0 (by omega) (c := c) r1)
  have c0 := (h2.cell 0).trans (show _ = some (Value.slice A zs.length c) by rfl)
  have H1 := Lib.hid h1
  have H2 := Lib.hid h2
  have H4 := Lib.hid h4
  have H5 := Lib.hid h5
  have hw : IntKind.u64.wrap n = n := by rw [IntKind.wrap_u64]; omega
  clear h1 h2 h3 h4 h5 r1
  go_enter Try.func81, Try.ntmps81
  go_wp2_with fail
  refine Calls.mono HP.out ?_
  rintro e w1 ⟨rfl, hr, hb⟩
  have b2 := H2.out.below hb H2.out.lt
  have HR := Lib.hid hr
  have HB := Lib.hid hb
  have HB2 := Lib.hid b2
  have d0 := (b2.cell 0).trans (show _ = some (Value.slice A zs.length c) by rfl)
  have z0 := b2.frozen 0
  have hs1 := hb.size
  clear hr hb b2 c0
  go_wp2
  go_end0
  have ho := own_blk (R := w0.heap.size + 2) HR.out (by omega) (by rw [List.length_append, putOf_len]) (by omega)
  refine ⟨rfl, (H1.out.below HB.out H1.out.lt).far (by simp) _, ⟨_, by simpa using HB2.out.set_ 0 _, ?_⟩, (H4.out.trans (HB.out.mono H4.out.size)).setCell (by simp) _, H5.out.app (putOf_by k n), by simp [World.setCell]; omega⟩
  rw [List.length_append, putOf_len]
  exact own_set1 ho (by omega)

set_option maxRecDepth 100000 in
set_option maxHeartbeats 8000000 in
theorem header_at (p : Pk) (h : Rg p) (hw : Wf p) (ht : 20 + p.o.size + p.d.size ≤ 65535) (w : World) :
    Calls Try.prog 52 #[p.val] w fun e w' => ∃ v, e = .returned v ∧ w'.ownsRow w.heap.size 5 1 v (20 + p.o.size) ((hdN p (chk p)).map (Value.int .u8)) ∧ Below w.heap.size w w' := by
  have hol := h.ol
  have hoff := offN_bd h
  have HHD : Hid (∀ p : Pk, hdN p 0 = [] ++ putOf 1 (64 + ((20 + p.o.size : Nat) : Int) / 4) ++ putOf 1 p.tos ++ putOf 2 ((20 + p.o.size + p.d.size : Nat) : Int) ++ putOf 2 p.id ++ putOf 2 (offN p) ++ putOf 1 p.ttl ++ putOf 1 p.pro ++ putOf 2 0 ++ putOf 4 p.l ++ putOf 4 p.l' ++ byt p.o) := Lib.hid fun p => by simp [hdN, hdA, hdZ]
  have HP0 := Lib.hid (fun W zs hl hz => hput w p 1 (by decide) (64 + ((20 + p.o.size : Nat) : Int) / 4) (by omega) (by omega) zs hl W hz)
  have HP1 := Lib.hid (fun W zs hl hz => hput w p 1 (by decide) p.tos h.tos.1 (by have := h.tos; omega) zs hl W hz)
  have HP2 := Lib.hid (fun W zs hl hz => hput w p 2 (by decide) ((20 + p.o.size + p.d.size : Nat) : Int) (by omega) (by omega) zs hl W hz)
  have HP3 := Lib.hid (fun W zs hl hz => hput w p 2 (by decide) p.id h.id.1 (by have := h.id; omega) zs hl W hz)
  have HP4 := Lib.hid (fun W zs hl hz => hput w p 2 (by decide) (offN p) hoff.1 (by omega) zs hl W hz)
  have HP5 := Lib.hid (fun W zs hl hz => hput w p 1 (by decide) p.ttl h.ttl.1 (by have := h.ttl; omega) zs hl W hz)
  have HP6 := Lib.hid (fun W zs hl hz => hput w p 1 (by decide) p.pro h.pro.1 (by have := h.pro; omega) zs hl W hz)
  have HP7 := Lib.hid (fun W zs hl hz => hput w p 2 (by decide) 0 (by decide) (by decide) zs hl W hz)
  have HP8 := Lib.hid (fun W zs hl hz => hput w p 4 (by decide) p.l hw.1 (by have := h.fr; omega) zs hl W hz)
  have HP9 := Lib.hid (fun W zs hl hz => hput w p 4 (by decide) p.l' hw.2 (by have := h.to; omega) zs hl W hz)
  have HPc := Lib.hid (fun W => piece_any p h.off.1 h.off.2 W)
  have e1 : ((20 : Int) + p.o.size) / 4 = ((20 + p.o.size : Nat) : Int) / 4 := by omega
  have q1 : 0 ≤ p.l := hw.1
  have q2 : p.l ≤ 4294967295 := h.fr.2.2
  have q3 : 0 ≤ p.l' := hw.2
  have q4 : p.l' ≤ 4294967295 := h.to.2.2
  have qo : (p.o.size : Int) ≤ 40 := by omega
  have qd : (p.d.size : Int) ≤ 65515 := by omega
  have HQ := Lib.hid (And.intro hol ht)
  obtain ⟨OFF, hOFF⟩ : ∃ x, offN p = x := ⟨_, rfl⟩
  rw [hOFF] at HP4 HPc hoff
  have HOFF := Lib.hid hOFF
  have K0 : HS w p [] ((w.alloc (.cells (fcs p) 27)).alloc (.cells #[.slice none 0 0] 61)) := by
    refine ⟨(Blk.new w 27 (fcs p)).alloc _, ⟨_, ?_, ⟨rfl, .inl ⟨rfl, rfl⟩⟩⟩, ((Below.refl _ w).alloc (Nat.le_refl _) _).alloc (by simp) _, (fun z hz => by cases hz), by simp⟩
    have := Blk.new (w.alloc (.cells (fcs p) 27)) 61 #[.slice none 0 0]
    rwa [World.size_alloc] at this
  have HK0 := Lib.hid K0
  obtain ⟨W0, hW0⟩ : ∃ W0, W0 = (w.alloc (.cells (fcs p) 27)).alloc (.cells #[.slice none 0 0] 61) := ⟨_, rfl⟩
  obtain ⟨f0, f1, f2, f3, f4, f5, f6, f7, f8, f9, f10, f11, f12, f13, f14⟩ := K0.1.f15
  rw [← hW0] at HK0
  have HW0 := Lib.hid hW0
  clear K0 hW0 hOFF h hw hol ht
  go_enter Try.func52, Try.ntmps52
  go_wp2_with fail
  rw [← HW0.out]
  have hl0 : ([] : List Int).length ≤ 90 := by simp
  refine Calls.mono (HP0.out _ _ hl0 HK0.out) ?_
  rintro e x ⟨rfl, hk⟩
  have HK0b := Lib.hid hk
  clear hk hl0 f0 f1 f2 f3 f4 f5 f6 f7 f8 f9 f10 f11 f12 f13 f14
  obtain ⟨f0, f1, f2, f3, f4, f5, f6, f7, f8, f9, f10, f11, f12, f13, f14⟩ := HK0b.out.1.f15
  go_wp2_with fail
  have hl1 : ([] ++ putOf 1 (64 + ((20 + p.o.size : Nat) : Int) / 4) : List Int).length ≤ 90 := by simp [putOf_len]
  refine Calls.mono (HP1.out _ _ hl1 HK0b.out) ?_
  rintro e x ⟨rfl, hk⟩
  have HK1b := Lib.hid hk
  clear hk hl1 f0 f1 f2 f3 f4 f5 f6 f7 f8 f9 f10 f11 f12 f13 f14
  obtain ⟨f0, f1, f2, f3, f4, f5, f6, f7, f8, f9, f10, f11, f12, f13, f14⟩ := HK1b.out.1.f15
  go_wp2_with fail
  have hl2 : ([] ++ putOf 1 (64 + ((20 + p.o.size : Nat) : Int) / 4) ++ putOf 1 p.tos : List Int).length ≤ 90 := by simp [putOf_len]
  refine Calls.mono (HP2.out _ _ hl2 HK1b.out) ?_
  rintro e x ⟨rfl, hk⟩
  have HK2b := Lib.hid hk
  clear hk hl2 f0 f1 f2 f3 f4 f5 f6 f7 f8 f9 f10 f11 f12 f13 f14
  obtain ⟨f0, f1, f2, f3, f4, f5, f6, f7, f8, f9, f10, f11, f12, f13, f14⟩ := HK2b.out.1.f15
  go_wp2_with fail
  have hl3 : ([] ++ putOf 1 (64 + ((20 + p.o.size : Nat) : Int) / 4) ++ putOf 1 p.tos ++ putOf 2 ((20 + p.o.size + p.d.size : Nat) : Int) : List Int).length ≤ 90 := by simp [putOf_len]
  refine Calls.mono (HP3.out _ _ hl3 HK2b.out) ?_
  rintro e x ⟨rfl, hk⟩
  have HK3b := Lib.hid hk
  clear hk hl3 f0 f1 f2 f3 f4 f5 f6 f7 f8 f9 f10 f11 f12 f13 f14
  obtain ⟨f0, f1, f2, f3, f4, f5, f6, f7, f8, f9, f10, f11, f12, f13, f14⟩ := HK3b.out.1.f15
  go_wp2_with fail
  refine Calls.mono (HPc.out _) ?_
  rintro e x4 ⟨rfl, hb⟩
  have HKp := Lib.hid (HK3b.out.below hb)
  clear hb f0 f1 f2 f3 f4 f5 f6 f7 f8 f9 f10 f11 f12 f13 f14
  obtain ⟨f0, f1, f2, f3, f4, f5, f6, f7, f8, f9, f10, f11, f12, f13, f14⟩ := HKp.out.1.f15
  go_wp2_with fail
  have hl4 : ([] ++ putOf 1 (64 + ((20 + p.o.size : Nat) : Int) / 4) ++ putOf 1 p.tos ++ putOf 2 ((20 + p.o.size + p.d.size : Nat) : Int) ++ putOf 2 p.id : List Int).length ≤ 90 := by simp [putOf_len]
  refine Calls.mono (HP4.out _ _ hl4 HKp.out) ?_
  rintro e x ⟨rfl, hk⟩
  have HK4b := Lib.hid hk
  clear hk hl4 f0 f1 f2 f3 f4 f5 f6 f7 f8 f9 f10 f11 f12 f13 f14
  obtain ⟨f0, f1, f2, f3, f4, f5, f6, f7, f8, f9, f10, f11, f12, f13, f14⟩ := HK4b.out.1.f15
  go_wp2_with fail
  have hl5 : ([] ++ putOf 1 (64 + ((20 + p.o.size : Nat) : Int) / 4) ++ putOf 1 p.tos ++ putOf 2 ((20 + p.o.size + p.d.size : Nat) : Int) ++ putOf 2 p.id ++ putOf 2 OFF : List Int).length ≤ 90 := by simp [putOf_len]
  refine Calls.mono (HP5.out _ _ hl5 HK4b.out) ?_
  rintro e x ⟨rfl, hk⟩
  have HK5b := Lib.hid hk
  clear hk hl5 f0 f1 f2 f3 f4 f5 f6 f7 f8 f9 f10 f11 f12 f13 f14
  obtain ⟨f0, f1, f2, f3, f4, f5, f6, f7, f8, f9, f10, f11, f12, f13, f14⟩ := HK5b.out.1.f15
  go_wp2_with fail
  have hl6 : ([] ++ putOf 1 (64 + ((20 + p.o.size : Nat) : Int) / 4) ++ putOf 1 p.tos ++ putOf 2 ((20 + p.o.size + p.d.size : Nat) : Int) ++ putOf 2 p.id ++ putOf 2 OFF ++ putOf 1 p.ttl : List Int).length ≤ 90 := by simp [putOf_len]
  refine Calls.mono (HP6.out _ _ hl6 HK5b.out) ?_
  rintro e x ⟨rfl, hk⟩
  have HK6b := Lib.hid hk
  clear hk hl6 f0 f1 f2 f3 f4 f5 f6 f7 f8 f9 f10 f11 f12 f13 f14
  obtain ⟨f0, f1, f2, f3, f4, f5, f6, f7, f8, f9, f10, f11, f12, f13, f14⟩ := HK6b.out.1.f15
  go_wp2_with fail
  have hl7 : ([] ++ putOf 1 (64 + ((20 + p.o.size : Nat) : Int) / 4) ++ putOf 1 p.tos ++ putOf 2 ((20 + p.o.size + p.d.size : Nat) : Int) ++ putOf 2 p.id ++ putOf 2 OFF ++ putOf 1 p.ttl ++ putOf 1 p.pro : List Int).length ≤ 90 := by simp [putOf_len]
  refine Calls.mono (HP7.out _ _ hl7 HK6b.out) ?_
  rintro e x ⟨rfl, hk⟩
  have HK7b := Lib.hid hk
  clear hk hl7 f0 f1 f2 f3 f4 f5 f6 f7 f8 f9 f10 f11 f12 f13 f14
  obtain ⟨f0, f1, f2, f3, f4, f5, f6, f7, f8, f9, f10, f11, f12, f13, f14⟩ := HK7b.out.1.f15
  go_wp2_with fail
  have hl8 : ([] ++ putOf 1 (64 + ((20 + p.o.size : Nat) : Int) / 4) ++ putOf 1 p.tos ++ putOf 2 ((20 + p.o.size + p.d.size : Nat) : Int) ++ putOf 2 p.id ++ putOf 2 OFF ++ putOf 1 p.ttl ++ putOf 1 p.pro ++ putOf 2 0 : List Int).length ≤ 90 := by simp [putOf_len]
  refine Calls.mono (HP8.out _ _ hl8 HK7b.out) ?_
  rintro e x ⟨rfl, hk⟩
  have HK8b := Lib.hid hk
  clear hk hl8 f0 f1 f2 f3 f4 f5 f6 f7 f8 f9 f10 f11 f12 f13 f14
  obtain ⟨f0, f1, f2, f3, f4, f5, f6, f7, f8, f9, f10, f11, f12, f13, f14⟩ := HK8b.out.1.f15
  go_wp2_with fail
  have hl9 : ([] ++ putOf 1 (64 + ((20 + p.o.size : Nat) : Int) / 4) ++ putOf 1 p.tos ++ putOf 2 ((20 + p.o.size + p.d.size : Nat) : Int) ++ putOf 2 p.id ++ putOf 2 OFF ++ putOf 1 p.ttl ++ putOf 1 p.pro ++ putOf 2 0 ++ putOf 4 p.l : List Int).length ≤ 90 := by simp [putOf_len]
  refine Calls.mono (HP9.out _ _ hl9 HK8b.out) ?_
  rintro e x ⟨rfl, hk⟩
  have HK9b := Lib.hid hk
  clear hk hl9 f0 f1 f2 f3 f4 f5 f6 f7 f8 f9 f10 f11 f12 f13 f14
  obtain ⟨f0, f1, f2, f3, f4, f5, f6, f7, f8, f9, f10, f11, f12, f13, f14⟩ := HK9b.out.1.f15
  obtain ⟨-, ⟨v, b2, o2⟩, L, hby, hsz⟩ := HK9b.out
  obtain ⟨A, c, rfl⟩ := own_form1 o2
  have HO := Lib.hid o2
  have c0 := b2.cell 0
  have HB2 := Lib.hid b2
  have HL := Lib.hid L
  have HSZ := Lib.hid hsz
  have hxl : ([] ++ putOf 1 (64 + ((20 + p.o.size : Nat) : Int) / 4) ++ putOf 1 p.tos ++ putOf 2 ((20 + p.o.size + p.d.size : Nat) : Int) ++ putOf 2 p.id ++ putOf 2 OFF ++ putOf 1 p.ttl ++ putOf 1 p.pro ++ putOf 2 0 ++ putOf 4 p.l ++ putOf 4 p.l').length = 20 := by simp [putOf_len]
  have c0' := c0.trans (show _ = some (Value.slice A ([] ++ putOf 1 (64 + ((20 + p.o.size : Nat) : Int) / 4) ++ putOf 1 p.tos ++ putOf 2 ((20 + p.o.size + p.d.size : Nat) : Int) ++ putOf 2 p.id ++ putOf 2 OFF ++ putOf 1 p.ttl ++ putOf 1 p.pro ++ putOf 2 0 ++ putOf 4 p.l ++ putOf 4 p.l').length c) by rfl)
  rw [hxl] at HO c0'
  obtain ⟨XS, hXS⟩ : ∃ XS : List Int, XS = [] ++ putOf 1 (64 + ((20 + p.o.size : Nat) : Int) / 4) ++ putOf 1 p.tos ++ putOf 2 ((20 + p.o.size + p.d.size : Nat) : Int) ++ putOf 2 p.id ++ putOf 2 OFF ++ putOf 1 p.ttl ++ putOf 1 p.pro ++ putOf 2 0 ++ putOf 4 p.l ++ putOf 4 p.l' := ⟨_, rfl⟩
  rw [← hXS] at HO
  have HX : Hid (XS ++ byt p.o = hdN p 0) := Lib.hid (by rw [HHD.out p, HOFF.out, hXS])
  clear hXS b2 o2 L hsz c0
  go_wp2_with (at_builtin; refine wpList_apps _ rfl (.tmp 57) (.tmp 59) rfl (w.heap.size + 2) _ 20 XS rfl HO.out p.o rfl (by omega) HSZ.out ?_; intro v2 w2 hown2 hg2; obtain ⟨a2, k2, rfl⟩ := own_form1 hown2; have HO2 := Lib.hid hown2; have HG2 := Lib.hid hg2; have hb2 := HB2.out.grown hg2 (fun e => own_far1 HO.out (by omega) e.symm); have HB3 := Lib.hid hb2; have y2 := hb2.frozen 0; have d2 := (hb2.cell 0).trans (show _ = some (Value.slice A _ c) by rfl); clear hb2 hg2 hown2)
  obtain ⟨V, hV⟩ : ∃ V, V = w2.setCell ⟨w.heap.size + 1, 0, none⟩ (.slice a2 (20 + p.o.size) k2) := ⟨_, rfl⟩
  have VB : Blk V (w.heap.size + 1) 61 #[.slice a2 (20 + p.o.size) k2] := by rw [hV]; simpa using HB3.out.set_ 0 (.slice a2 (20 + p.o.size) k2)
  have VO : V.ownsRow (w.heap.size + 2) 5 1 (.slice a2 (20 + p.o.size) k2) (20 + p.o.size) ((hdN p 0).map (Value.int .u8)) := by rw [hV, ← HX.out]; exact own_set1 HO2.out (by omega)
  have VL : Below w.heap.size w V := by
    rw [hV]
    exact (HL.out.grown HG2.out (HL.out.size) (fun k hk => by have := own_basek HO.out k hk; omega)).setCell (by simp) _
  obtain ⟨a, c2, he, VR, -, hA, hc2, -⟩ := own_ri (hdN_by p 0).wf VO
  injection he with he1 he2 he3
  subst he1 he3
  obtain ⟨g, o, rfl, hgB, -⟩ := VR.2.1 (by omega)
  have ho : o = 0 := by
    rcases VO.2 with ⟨h1, _⟩ | ⟨g', cap, cur, h1, _⟩
    · cases h1
    · injection h1 with h1 _ _; injection h1 with h1; injection h1
  subst ho
  have hg2 : w.heap.size + 2 ≤ g := hA _ rfl
  obtain ⟨N, hN⟩ : ∃ N, 20 + p.o.size = N := ⟨_, rfl⟩
  have hN20 : 20 ≤ N := by omega
  have hNi : (20 : Int) + p.o.size = N := by omega
  rw [hN] at VB VO VR hc2
  have hsl := fun W => slice_ten W g N k2 (by omega) hc2
  have v0 : V.cell? ⟨w.heap.size + 1, 0, none⟩ = some (.slice (some ⟨g, 0, none⟩) N k2) := by rw [VB.cell]; rfl
  have HKp : Hid (∀ W', Below V.heap.size V W' → W'.cell? ⟨w.heap.size + 1, 0, none⟩ = some (.slice (some ⟨g, 0, none⟩) N k2)) := Lib.hid fun W' hb => by
    rw [(VB.below hb VB.lt).cell]; rfl
  have HKo : Hid (∀ W', Below V.heap.size V W' → ∀ w3 : World, (∀ k, k ≠ g → w3.heap[k]? = W'.heap[k]?) → w3.cell? ⟨w.heap.size + 1, 0, none⟩ = some (.slice (some ⟨g, 0, none⟩) N k2)) := Lib.hid fun W' hb w3 ho => by
    rw [World.cell?_of_block (ho (w.heap.size + 1) (by omega)), (VB.below hb VB.lt).cell]; rfl
  have HCk : Hid (Calls Try.prog 83 #[.slice (some ⟨V.heap.size, 0, none⟩) 1 1] (V.alloc (.cells #[.slice (some ⟨g, 0, none⟩) N k2] 61)).drew fun e w' => e = .returned (.int .u16 (65535 - fo (tot 0 (hdN p 0)))) ∧ (V.alloc (.cells #[.slice (some ⟨g, 0, none⟩) N k2] 61)).drew = w') := Lib.hid (check_one V.drew V.heap.size (some ⟨g, 0, none⟩) N k2 (hdN p 0) VR (Nat.le_refl _) (by have := HQ.out.2; omega))
  obtain ⟨CK, hCK⟩ : ∃ x, 65535 - fo (tot 0 (hdN p 0)) = x := ⟨_, rfl⟩
  have hck := chk_bd p
  have hck2 : chk p = CK := hCK
  rw [hck2] at hck
  rw [hCK] at HCk
  have HPt := Lib.hid (fun W => put_nil 2 (by decide) CK hck.1 W)
  obtain ⟨hk0, hk1⟩ := hck
  have HVO := Lib.hid VO
  have HVL := Lib.hid VL
  have HVB := Lib.hid VB
  have HCK := Lib.hid hck2
  have HNN := Lib.hid hN
  have hwk : IntKind.u64.wrap CK = CK := by rw [IntKind.wrap_u64]; omega
  have hR : Below V.heap.size V V.drew := (Below.refl _ _).drew
  have hgV : w.heap.size + 1 < V.heap.size := VB.lt
  have hR1 : Below V.heap.size V (V.alloc (.cells #[.slice (some ⟨g, 0, none⟩) N k2] 61)).drew := ((Below.refl _ V).alloc (Nat.le_refl _) _).drew
  rw [← hV, hN]
  clear HOFF HHD HP0 HP1 HP2 HP3 HP4 HP5 HP6 HP7 HP8 HP9 HPc f0 f1 f2 f3 f4 f5 f6 f7 f8 f9 f10 f11 f12 f13 f14 hxl hV VB VO VL VR hA hc2 hCK hck2 hN d2 y2 HB3 HO2 HG2 HX HO HB2
  go_region_held3 (fun w' => w'.cell? ⟨w.heap.size + 1, 0, none⟩ = some (.slice (some ⟨g, 0, none⟩) N k2)) (first | exact HKp.out _ hR | exact HKp.out _ hR1 | exact HKp.out _ hR2 | exact HKo.out _ hR2 _ hoth) (first
    | (go_at_call 83; (with_reducible refine Calls.mono HCk.out ?_); rintro e W1 ⟨rfl, rfl⟩)
    | (go_at_call 73; (with_reducible refine Calls.mono (HPt.out _) ?_); rintro e W2 ⟨rfl, hr, hb⟩; have HRr := Lib.hid hr; have hR2 := hR1.trans (hb.mono hR1.size); clear hr hb)
    | (refine step_copy_own (o := ⟨some 68, _, _, _, _, _⟩) (by rfl) (.tmp 62) (.tmp 67) (by rfl) N (N - 10) (k2 - 10) 2 2 g 10 (V.heap.size + 1) (w.heap.size + 2) (.slice (some ⟨g, 0, none⟩) N k2) (hdN p 0) (putOf 2 CK) (by rfl) (by rfl) (putOf_len 2 CK) (by rfl) (own_below1 HVO.out hR2) (by simpa using HRr.out) (by omega) (by omega) ?_; intro w3 HO3 hb3 hoth))
  have HF : Hid (w3.ownsRow w.heap.size 5 1 (.slice (some ⟨g, 0, none⟩) N k2) N ((hdN p (chk p)).map (Value.int .u8)) ∧ Below w.heap.size w w3) := Lib.hid (by
    have h1 := HO3.out
    have e : splice (hdN p 0) 10 (putOf 2 CK) = hdN p (chk p) := by
      rw [HCK.out]
      unfold splice hdN
      rw [putOf_len, List.take_left' (hdA_len p), ← List.append_assoc (hdA p) (putOf 2 0), List.drop_left' (by rw [List.length_append, hdA_len, putOf_len])]
    rw [e] at h1
    exact ⟨⟨h1.1, h1.2.imp id fun ⟨g, cap, cur, a, b, c⟩ => ⟨g, cap, cur, a, by omega, c⟩⟩, (HVL.out.trans (hR2.mono HVL.out.size)).trans (hb3.mono (by omega))⟩)
  clear HO3 hb3 hoth hR hR1 hR2 HRr
  go_wp2
  go_ret
  exact ⟨_, rfl, by have := HNN.out; rw [this]; exact HF.out.1, HF.out.2⟩
end Go.Proofs.Ytbhddodghbhjiaa
