/-
  The program's own cache of neighbours (layer 19): Tick, Drop.
-/
import Derived.Test.YtlbkphnbpenbcaaNgS
import Derived.Test.YtlbkphnbpenbcaaNgK
namespace Go.Proofs.Ytlbkphnbpenbcaa
open Go.RowKit
set_option linter.unusedVariables false

theorem tikE_few {k : KyI} {e : EnI} (h : OkE e) : (tikE k e).1.length ≤ 3 := by
  have hw : e.wts.length ≤ 3 := by
    rcases h with ⟨-, -, -, -, -, h3⟩ | ⟨h3, -⟩
    · exact h3
    · simp [h3]
  unfold tikE askE
  split
  · split
    · simpa using hw
    · simp
  · split
    · simp
    · split
      · split <;> simp
      · simp
theorem tikA_few {L : TbI} (h : InvT L) : (tikA L).length ≤ 3 * L.length := by
  have h1 := h.ok
  clear h
  unfold tikA
  induction L with
  | nil => simp
  | cons x r ih =>
    rw [List.flatMap_cons, List.length_append, List.length_cons]
    have := ih (fun y hy => h1 y (List.mem_cons_of_mem _ hy))
    have := tikE_few (k := x.1) (h1 x (List.mem_cons_self ..))
    omega
theorem drpA_few {L : TbI} (h : InvT L) (p : Int) : (drpA L p).length ≤ 3 * L.length := by
  have h1 : ∀ x ∈ L, x.2.wts.length ≤ 3 := fun x hx => by
    rcases h.ok x hx with ⟨-, -, -, -, -, h3⟩ | ⟨h3, -⟩
    · exact h3
    · simp [h3]
  clear h
  unfold drpA
  induction L with
  | nil => simp
  | cons x r ih =>
    have h2 := ih (fun y hy => h1 y (List.mem_cons_of_mem _ hy))
    have h3 := h1 x (List.mem_cons_self ..)
    by_cases hp : x.1.1 = p
    · rw [List.filter_cons_of_pos (by simpa using hp), List.flatMap_cons, List.length_append, List.length_cons]
      unfold lstA
      rw [List.length_map]
      unfold lstA at h2
      omega
    · rw [List.filter_cons_of_neg (by simpa using hp), List.length_cons]
      omega
def tikM (L : TbI) (i : Nat) : TbI := tikL (L.take i) ++ L.drop i
def drpM (L : TbI) (p : Int) (i : Nat) : TbI := drpL (L.take i) p ++ L.drop i
theorem drop_at {α : Type} {l : List α} {i : Nat} {x : α} (h : l[i]? = some x) : l.drop i = x :: l.drop (i + 1) := by
  obtain ⟨hi, he⟩ := List.getElem?_eq_some_iff.1 h
  rw [← he]; exact List.drop_eq_getElem_cons hi
theorem take_at {α : Type} {l : List α} {i : Nat} {x : α} (h : l[i]? = some x) : l.take (i + 1) = l.take i ++ [x] := by rw [List.take_add_one, h]; rfl
theorem tik_mid {L : TbI} {i : Nat} {k : KyI} {e : EnI} (hx : L[i]? = some (k, e)) (h : InvT (tikM L i)) : fnd (tikM L i) k = some e ∧ optT (tikM L i) k (tikE k e).2 = tikM L (i + 1) ∧ tikA (L.take (i + 1)) = tikA (L.take i) ++ (tikE k e).1 := by
  have hd := drop_at hx
  have h0 : tikM L i = tikL (L.take i) ++ (k, e) :: L.drop (i + 1) := by unfold tikM; rw [hd]
  rw [h0] at h ⊢
  refine ⟨(put_mid (e := e) h).1, ?_, ?_⟩
  · unfold tikM
    rw [take_at hx]
    have h1 : tikL (L.take i ++ [(k, e)]) = tikL (L.take i) ++ ((tikE k e).2.map fun f => (k, f)).toList := by
      unfold tikL
      rw [List.filterMap_append]
      congr 1
    rw [h1]
    unfold optT
    cases hq : (tikE k e).2 with
    | none =>
      simp only
      rw [(put_mid (e := e) h).2.2]
      simp
    | some f =>
      simp only
      rw [(put_mid (e := f) h).2.1]
      simp
  · unfold tikA
    rw [take_at hx, List.flatMap_append]
    simp
theorem drp_mid {L : TbI} {p : Int} {i : Nat} {k : KyI} {e : EnI} (hx : L[i]? = some (k, e)) (h : InvT (drpM L p i)) : (k.1 = p → wtsK (drpM L p i) k = e.wts ∧ delT (drpM L p i) k = drpM L p (i + 1) ∧ drpA (L.take (i + 1)) p = drpA (L.take i) p ++ e.wts.map (acI k 4 0)) ∧ (¬ k.1 = p → drpM L p i = drpM L p (i + 1) ∧ drpA (L.take (i + 1)) p = drpA (L.take i) p) := by
  have hd := drop_at hx
  have h0 : drpM L p i = drpL (L.take i) p ++ (k, e) :: L.drop (i + 1) := by unfold drpM; rw [hd]
  have hu : drpM L p (i + 1) = drpL (L.take i ++ [(k, e)]) p ++ L.drop (i + 1) := by unfold drpM; rw [take_at hx]
  rw [hu, take_at hx, h0]
  rw [h0] at h
  constructor
  · intro hp
    refine ⟨?_, ?_, ?_⟩
    · unfold wtsK
      rw [(put_mid (e := e) h).1]
    · rw [(put_mid (e := e) h).2.2]
      unfold drpL
      rw [List.filter_append, List.filter_cons_of_neg (by simp [hp])]
      simp
    · unfold drpA
      rw [List.filter_append, List.filter_cons_of_pos (by simp [hp]), List.flatMap_append]
      simp [lstA]
  · intro hp
    refine ⟨?_, ?_⟩
    · unfold drpL
      rw [List.filter_append, List.filter_cons_of_pos (by simp [hp])]
      simp
    · unfold drpA
      rw [List.filter_append, List.filter_cons_of_neg (by simp [hp])]
      simp
set_option maxRecDepth 100000 in
set_option maxHeartbeats 4000000 in
theorem tickN {w : World} {t : Nat} {S : List Nat} {L : TbI} (h : NgP w t S L) :
    Calls Try.prog 20 #[.pointer (some ⟨t, 0, none⟩)] w fun e w' => ActS w w' t S (tikA L, tikL L) e := by
  have HP := Lib.hid h
  have HKs := Lib.hid (keysN h)
  have HInv := Lib.hid h.inv
  obtain ⟨n, hn⟩ : ∃ n, L.length = n := ⟨_, rfl⟩
  have HLn := Lib.hid hn
  have HN64 : Hid (n ≤ 64) := Lib.hid (hn ▸ h.inv.len)
  rw [hn] at HKs
  clear h hn
  go_enter Try.func20, Try.ntmps20
  go_wp2_with fail
  refine Calls.mono HKs.out ?_
  rintro e W1 ⟨Ak, ck, rfl, hok, hT1⟩
  have HKo := Lib.hid hok
  have HT1 := Lib.hid hT1
  have HP1 : Hid (NgP W1 t S L) := Lib.hid (HP.out.tch hT1 (by simp))
  have HKd : Hid (∀ s' ∈ obI (.slice Ak n ck), s' ∉ S ∧ s' < W1.heap.size) := Lib.hid (fun s' hs => ⟨fun e => by have := HP.out.lt s' e; have := (own_geI hok s' hs).1; omega, own_lts hok s' hs⟩)
  obtain ⟨B1, hB1⟩ : ∃ B, W1.heap.size = B := ⟨_, rfl⟩
  have HB1 := Lib.hid hB1
  have hnI : IntKind.i64.wrap (n : Int) = (n : Int) := by have := HN64.out; rw [IntKind.wrap_i64]; omega
  clear hok hT1 hB1
  go_wp2_with fail
  go_loopw [3, 9] (fun av iv wr => ∃ (i : Nat) (A5 : Option Addr) (c5 : Nat) (S5 : List Nat), av = .slice A5 (tikA (L.take i)).length c5 ∧ iv = .int .i64 (i : Int) ∧ i ≤ n ∧ Hid (wr.ownsRow B1 41 7 (.slice A5 (tikA (L.take i)).length c5) (tikA (L.take i)).length ((tikA (L.take i)).flatMap acC)) ∧ Hid (NgP wr t S5 (tikM L i)) ∧ Hid (Goes W1 wr S S5) ∧ Hid (∀ s' ∈ obI (.slice A5 (tikA (L.take i)).length c5), s' ∉ S5)) (fun _ iv _ => n - (intOf iv).toNat)
  case atStart => exact ⟨0, none, 0, S, rfl, rfl, Nat.zero_le _, Lib.hid ⟨rfl, .inl ⟨rfl, rfl⟩⟩, HP1, Lib.hid (Goes.of_tch (Tch.refl _ _)), Lib.hid (by simp [obI, Value.ownBlock])⟩
  case round =>
    obtain ⟨i, A5, c5, S5, rfl, rfl, hi5, hR5, hP5, hG5, hD5⟩ := hrel
    by_cases hin : i < n
    · have iI : (i : Int) < (n : Int) := by omega
      have i0 : (0 : Int) ≤ (i : Int) := by omega
      have i1 : IntKind.i64.wrap ((i : Int) + 1) = (i : Int) + 1 := by have := HN64.out; rw [IntKind.wrap_i64]; omega
      have HI := Lib.hid (And.intro i1 hin)
      obtain ⟨x, hx⟩ : ∃ x, L[i]? = some x := ⟨_, List.getElem?_eq_getElem (by rw [HLn.out]; exact hin)⟩
      obtain ⟨k, en⟩ := x
      have hl5 : (tikA (L.take i)).length ≤ 192 := by
        have h8 := tikA_few (HInv.out.sub (List.take_sublist i L))
        rw [List.length_take] at h8
        have := HN64.out
        omega
      obtain ⟨g, rfl⟩ := slice_some HKo.out (by omega)
      have HKr : Hid (wr.ownsRow w.heap.size 70 4 (.slice (some ⟨g, 0, none⟩) n ck) n ((L.map Prod.fst).flatMap kyC)) := Lib.hid (own_tch HKo.out hG5.out.tch (fun s' hs => (HKd.out s' hs).1))
      have hcell : ∀ j u, (kyC k)[j]? = some u → wr.cell? ⟨g, i * 4 + j, none⟩ = some u := fun j u hj => own_cellN HKr.out (by
        have hj4 : j < 4 := (List.getElem?_eq_some_iff.1 hj).1
        rw [flatk_at (n := 4) (f := kyC) (fun _ => rfl) (x := k) (by rw [List.getElem?_map, hx]; rfl) hj4, hj])
      have c0 := hcell 0 _ rfl
      have c1 := hcell 1 _ rfl
      have c2 := hcell 2 _ rfl
      have c3 := hcell 3 _ rfl
      rw [Nat.add_zero] at c0
      clear hcell
      have HX := Lib.hid hx
      obtain ⟨a5, ha5⟩ : ∃ a5, (tikA (L.take i)) = a5 := ⟨_, rfl⟩
      have HA5 := Lib.hid ha5
      rw [ha5] at hR5 hD5 hl5 ⊢
      obtain ⟨n5, hn5⟩ : ∃ n5, a5.length = n5 := ⟨_, rfl⟩
      rw [hn5] at hR5 hD5 hl5 ⊢
      have HN5 := Lib.hid (And.intro hn5 hl5)
      have HPm := Lib.hid hP5.out.inv
      obtain ⟨W2, hW2⟩ : ∃ W, wr.alloc (.cells #[.int .i64 0, .bool false, .int .u64 0, .int .u64 0] 70) = W := ⟨_, rfl⟩
      obtain ⟨kb, hkb⟩ : ∃ kb, wr.heap.size = kb := ⟨_, rfl⟩
      have HK2 : Hid (Blk W2 kb 70 #[.int .i64 0, .bool false, .int .u64 0, .int .u64 0]) := Lib.hid (hW2 ▸ hkb ▸ Blk.new wr _ _)
      have HT2 : Hid (Tch wr W2 []) := Lib.hid (hW2 ▸ (Tch.refl wr []).alloc _)
      have HW2 := Lib.hid (And.intro hW2 hkb)
      clear hx ha5 hn5 hl5 hW2 hkb
      obtain ⟨p, s, hi, lo⟩ := k
      go_wp2_with (first | (rw [HW2.out.1, HW2.out.2]) | (refine wpList_sta rfl 70 (.tmp 5) (.tmp 12) rfl kb 0 _ rfl rfl 70 _ HK2.out 4 (by kernel_rfl) rfl (by decide) (one4 rfl rfl rfl rfl) ?_; intro W3 hS3; have HK3 : Hid (Blk W3 kb 70 #[.int .i64 p, .bool s, .int .u64 (hi : Int), .int .u64 (lo : Int)]) := Lib.hid (sta_whole hS3 rfl); have HT3 : Hid (Tch wr W3 []) := Lib.hid (HT2.out.trans_fre hS3.tch (by have := HW2.out.2; simp; omega)); clear hS3; clear c0 c1 c2 c3; obtain ⟨k0, k1, k2, k3⟩ := HK3.out.k4))
      have hmd0 := tik_mid HX.out HPm.out
      have HMd := Lib.hid hmd0
      have HPs := Lib.hid (passN (hP5.out.tch HT3.out (by simp)) (p, s, hi, lo) en hmd0.1)
      clear hmd0
      refine Calls.mono HPs.out ?_
      rintro e W6 ⟨A6, c6, S6, rfl, hO6, hP6, hG6⟩
      simp only at hO6 hP6
      have HO6 := Lib.hid hO6
      have HP6 := Lib.hid hP6
      have HG6 : Hid (Goes wr W6 S5 S6) := Lib.hid ((Goes.of_nil HT3.out S5).trans_ hG6)
      have hR6 : W6.ownsRow B1 41 7 (.slice A5 n5 c5) n5 (a5.flatMap acC) := own_tch hR5.out HG6.out.tch hD5.out
      have HR6 := Lib.hid hR6
      have HG16 : Hid (Goes W1 W6 S S6) := Lib.hid (hG5.out.trans_ HG6.out)
      have HD6 : Hid (∀ s' ∈ obI (.slice A5 n5 c5), s' ∉ S6) := Lib.hid (fun s' hs e => by
        rcases HG6.out.fre s' e with h | h
        · exact hD5.out s' hs h
        · have := own_lts hR5.out s' hs; omega)
      have HB6 : Hid (B1 ≤ W6.heap.size) := Lib.hid (by have := HB1.out; have := HG16.out.tch.size; omega)
      clear hO6 hP6 hG6 hR6 k0 k1 k2 k3
      obtain ⟨a6, ha6⟩ : ∃ a6, (tikE (p, s, hi, lo) en).1 = a6 := ⟨_, rfl⟩
      have HA6 := Lib.hid ha6
      have hl6 : a6.length ≤ 3 := by rw [← ha6]; exact tikE_few (HInv.out.ok _ (List.mem_of_getElem? HX.out))
      simp only [ha6] at HO6 ⊢
      obtain ⟨n6, hn6⟩ : ∃ n6, a6.length = n6 := ⟨_, rfl⟩
      simp only [hn6] at HO6 hl6 ⊢
      have HN6 := Lib.hid (And.intro hn6 hl6)
      clear hn6 ha6 hl6
      go_wp2_with (first | (at_builtin; (refine wpList_apm 34 41 (.agg #[.int .i64 0, .int .i64 0, .bool false, .int .u64 0, .int .u64 0, .int .u64 0, .string ⟨#[]⟩]) 7 64 Try.underlying34 infoAc rfl (by decide) (by decide) _ rfl (.tmp 13) (.tmp 16) rfl B1 (.slice A5 n5 c5) n5 _ rfl HR6.out W3.heap.size (.slice A6 n6 c6) n6 (a6.flatMap acC) rfl HO6.out (flat_one acC_one _) (by have := HN6.out.2; have := HN5.out.2; omega) HB6.out ?_; intro v7 W7 hown hg hv; obtain ⟨A7, c7, rfl, -, -⟩ := own_sl hown; have HO7 := Lib.hid hown; have HT7 : Hid (Tch W6 W7 (obI (.slice A5 n5 c5))) := Lib.hid (Tch.of_grown' hg (fun g e => by rw [obI_some e]; simp)); have HV7 := Lib.hid (one_at hv (Nat.le_refl _)); clear hown hg hv)))
      go_roundw
      case rel =>
        have hP7 := HP6.out.tch HT7.out (fun s' hs e => HD6.out s' e hs)
        have hsn := HMd.out.2.2
        have hmd := HMd.out.2.1
        rw [HA5.out, HA6.out] at hsn
        refine ⟨i + 1, A7, c7, S6, by rw [hsn]; simp [HN5.out.1, HN6.out.1], by go_num, HI.out.2, Lib.hid ?_, Lib.hid ?_, Lib.hid ?_, Lib.hid ?_⟩
        · rw [hsn]
          simp only [List.length_append, List.flatMap_append, HN5.out.1, HN6.out.1]
          exact HO7.out
        · rw [← hmd]; exact hP7
        · exact ⟨HG16.out.tch.trans_fre HT7.out (fun s' hs => .inr (by have := (own_geI HR6.out s' hs).1; have := HB1.out; omega)), HG16.out.fre⟩
        · rw [hsn]
          simp only [List.length_append, HN5.out.1, HN6.out.1]
          intro s' hs e
          rcases HV7.out s' hs with h | h
          · exact HD6.out s' h e
          · have := HP6.out.lt s' e; omega
      case measure => have := HI.out.2; simp [intOf]; omega
    · have iI : ¬ (i : Int) < (n : Int) := by omega
      obtain rfl : i = n := by omega
      have hall : L.take i = L := List.take_of_length_le (by rw [HLn.out]; exact Nat.le_refl _)
      have hdr : L.drop i = [] := List.drop_of_length_le (by rw [HLn.out]; exact Nat.le_refl _)
      have hmid : tikM L i = tikL L := by unfold tikM; rw [hall, hdr, List.append_nil]
      rw [hall] at hR5 hD5 ⊢
      rw [hmid] at hP5
      clear hmid hall hdr
      go_wp2
      go_ret
      exact acts_of (acts := tikA L) rfl (own_mono hR5.out (by have := HB1.out; have := HT1.out.size; omega)) rfl hP5.out ((Goes.of_nil HT1.out S).trans_ hG5.out)
set_option maxRecDepth 100000 in
set_option maxHeartbeats 4000000 in
theorem dropN {w : World} {t : Nat} {S : List Nat} {L : TbI} (h : NgP w t S L) (port : Int) :
    Calls Try.prog 21 #[.pointer (some ⟨t, 0, none⟩), .int .i64 port] w fun e w' => ActS w w' t S (drpA L port, drpL L port) e := by
  have HP := Lib.hid h
  have HKs := Lib.hid (keysN h)
  have HInv := Lib.hid h.inv
  obtain ⟨n, hn⟩ : ∃ n, L.length = n := ⟨_, rfl⟩
  have HLn := Lib.hid hn
  have HN64 : Hid (n ≤ 64) := Lib.hid (hn ▸ h.inv.len)
  rw [hn] at HKs
  clear h hn
  go_enter Try.func21, Try.ntmps21
  go_wp2_with fail
  refine Calls.mono HKs.out ?_
  rintro e W1 ⟨Ak, ck, rfl, hok, hT1⟩
  have HKo := Lib.hid hok
  have HT1 := Lib.hid hT1
  have HP1 : Hid (NgP W1 t S L) := Lib.hid (HP.out.tch hT1 (by simp))
  have HKd : Hid (∀ s' ∈ obI (.slice Ak n ck), s' ∉ S ∧ s' < W1.heap.size) := Lib.hid (fun s' hs => ⟨fun e => by have := HP.out.lt s' e; have := (own_geI hok s' hs).1; omega, own_lts hok s' hs⟩)
  obtain ⟨B1, hB1⟩ : ∃ B, W1.heap.size = B := ⟨_, rfl⟩
  have HB1 := Lib.hid hB1
  have hnI : IntKind.i64.wrap (n : Int) = (n : Int) := by have := HN64.out; rw [IntKind.wrap_i64]; omega
  clear hok hT1 hB1
  go_wp2_with fail
  go_loopw [5, 11] (fun av iv wr => ∃ (i : Nat) (A5 : Option Addr) (c5 : Nat) (S5 : List Nat), av = .slice A5 (drpA (L.take i) port).length c5 ∧ iv = .int .i64 (i : Int) ∧ i ≤ n ∧ Hid (wr.ownsRow B1 41 7 (.slice A5 (drpA (L.take i) port).length c5) (drpA (L.take i) port).length ((drpA (L.take i) port).flatMap acC)) ∧ Hid (NgP wr t S5 (drpM L port i)) ∧ Hid (Goes W1 wr S S5) ∧ Hid (∀ s' ∈ obI (.slice A5 (drpA (L.take i) port).length c5), s' ∉ S5)) (fun _ iv _ => n - (intOf iv).toNat)
  case atStart => exact ⟨0, none, 0, S, rfl, rfl, Nat.zero_le _, Lib.hid ⟨rfl, .inl ⟨rfl, rfl⟩⟩, HP1, Lib.hid (Goes.of_tch (Tch.refl _ _)), Lib.hid (by simp [obI, Value.ownBlock])⟩
  case round =>
    obtain ⟨i, A5, c5, S5, rfl, rfl, hi5, hR5, hP5, hG5, hD5⟩ := hrel
    by_cases hin : i < n
    · have iI : (i : Int) < (n : Int) := by omega
      have i0 : (0 : Int) ≤ (i : Int) := by omega
      have i1 : IntKind.i64.wrap ((i : Int) + 1) = (i : Int) + 1 := by have := HN64.out; rw [IntKind.wrap_i64]; omega
      have HI := Lib.hid (And.intro i1 hin)
      obtain ⟨x, hx⟩ : ∃ x, L[i]? = some x := ⟨_, List.getElem?_eq_getElem (by rw [HLn.out]; exact hin)⟩
      obtain ⟨k, en⟩ := x
      have hl5 : (drpA (L.take i) port).length ≤ 192 := by
        have h8 := drpA_few (HInv.out.sub (List.take_sublist i L)) port
        rw [List.length_take] at h8
        have := HN64.out
        omega
      obtain ⟨g, rfl⟩ := slice_some HKo.out (by omega)
      have HKr : Hid (wr.ownsRow w.heap.size 70 4 (.slice (some ⟨g, 0, none⟩) n ck) n ((L.map Prod.fst).flatMap kyC)) := Lib.hid (own_tch HKo.out hG5.out.tch (fun s' hs => (HKd.out s' hs).1))
      have hcell : ∀ j u, (kyC k)[j]? = some u → wr.cell? ⟨g, i * 4 + j, none⟩ = some u := fun j u hj => own_cellN HKr.out (by
        have hj4 : j < 4 := (List.getElem?_eq_some_iff.1 hj).1
        rw [flatk_at (n := 4) (f := kyC) (fun _ => rfl) (x := k) (by rw [List.getElem?_map, hx]; rfl) hj4, hj])
      have c0 := hcell 0 _ rfl
      have c1 := hcell 1 _ rfl
      have c2 := hcell 2 _ rfl
      have c3 := hcell 3 _ rfl
      rw [Nat.add_zero] at c0
      clear hcell
      have HX := Lib.hid hx
      obtain ⟨a5, ha5⟩ : ∃ a5, (drpA (L.take i) port) = a5 := ⟨_, rfl⟩
      have HA5 := Lib.hid ha5
      rw [ha5] at hR5 hD5 hl5 ⊢
      obtain ⟨n5, hn5⟩ : ∃ n5, a5.length = n5 := ⟨_, rfl⟩
      rw [hn5] at hR5 hD5 hl5 ⊢
      have HN5 := Lib.hid (And.intro hn5 hl5)
      have HPm := Lib.hid hP5.out.inv
      obtain ⟨W2, hW2⟩ : ∃ W, wr.alloc (.cells #[.int .i64 0, .bool false, .int .u64 0, .int .u64 0] 70) = W := ⟨_, rfl⟩
      obtain ⟨kb, hkb⟩ : ∃ kb, wr.heap.size = kb := ⟨_, rfl⟩
      have HK2 : Hid (Blk W2 kb 70 #[.int .i64 0, .bool false, .int .u64 0, .int .u64 0]) := Lib.hid (hW2 ▸ hkb ▸ Blk.new wr _ _)
      have HT2 : Hid (Tch wr W2 []) := Lib.hid (hW2 ▸ (Tch.refl wr []).alloc _)
      have HW2 := Lib.hid (And.intro hW2 hkb)
      clear hx ha5 hn5 hl5 hW2 hkb
      obtain ⟨p, s, hi, lo⟩ := k
      by_cases hpp : p = port
      · subst hpp
        have hpb : (p == p) = true := by simp
        go_wp2_with (first | (rw [HW2.out.1, HW2.out.2]) | (refine wpList_sta rfl 70 (.tmp 7) (.tmp 14) rfl kb 0 _ rfl rfl 70 _ HK2.out 4 (by kernel_rfl) rfl (by decide) (one4 rfl rfl rfl rfl) ?_; intro W3 hS3; have HK3 : Hid (Blk W3 kb 70 #[.int .i64 p, .bool s, .int .u64 (hi : Int), .int .u64 (lo : Int)]) := Lib.hid (sta_whole hS3 rfl); have HT3 : Hid (Tch wr W3 []) := Lib.hid (HT2.out.trans_fre hS3.tch (by have := HW2.out.2; simp; omega)); clear hS3; clear c0 c1 c2 c3; obtain ⟨k0, k1, k2, k3⟩ := HK3.out.k4))
        have HMd := Lib.hid ((drp_mid HX.out HPm.out).1 rfl)
        have hRm := removeN (hP5.out.tch HT3.out (by simp)) (p, s, hi, lo) 4
        rw [HMd.out.1] at hRm
        have HPs := Lib.hid hRm
        clear hRm
        refine Calls.mono HPs.out ?_
        rintro e W6 ⟨A6, c6, S6, rfl, hO6, hP6, hG6⟩
        simp only at hO6 hP6
        have HO6 := Lib.hid hO6
        have HP6 := Lib.hid hP6
        have HG6 : Hid (Goes wr W6 S5 S6) := Lib.hid ((Goes.of_nil HT3.out S5).trans_ hG6)
        have hR6 : W6.ownsRow B1 41 7 (.slice A5 n5 c5) n5 (a5.flatMap acC) := own_tch hR5.out HG6.out.tch hD5.out
        have HR6 := Lib.hid hR6
        have HG16 : Hid (Goes W1 W6 S S6) := Lib.hid (hG5.out.trans_ HG6.out)
        have HD6 : Hid (∀ s' ∈ obI (.slice A5 n5 c5), s' ∉ S6) := Lib.hid (fun s' hs e => by
          rcases HG6.out.fre s' e with h | h
          · exact hD5.out s' hs h
          · have := own_lts hR5.out s' hs; omega)
        have HB6 : Hid (B1 ≤ W6.heap.size) := Lib.hid (by have := HB1.out; have := HG16.out.tch.size; omega)
        clear hO6 hP6 hG6 hR6 k0 k1 k2 k3
        obtain ⟨a6, ha6⟩ : ∃ a6, (en.wts.map (acI (p, s, hi, lo) 4 0)) = a6 := ⟨_, rfl⟩
        have HA6 := Lib.hid ha6
        have hl6 : a6.length ≤ 3 := by rw [← ha6]; rw [List.length_map]; rcases HInv.out.ok _ (List.mem_of_getElem? HX.out) with ⟨-, -, -, -, -, h3⟩ | ⟨h3, -⟩; exact h3; simp only at h3; simp [h3]
        simp only [ha6] at HO6 ⊢
        obtain ⟨n6, hn6⟩ : ∃ n6, a6.length = n6 := ⟨_, rfl⟩
        simp only [hn6] at HO6 hl6 ⊢
        have HN6 := Lib.hid (And.intro hn6 hl6)
        clear hn6 ha6 hl6
        go_wp2_with (first | (at_builtin; (refine wpList_apm 34 41 (.agg #[.int .i64 0, .int .i64 0, .bool false, .int .u64 0, .int .u64 0, .int .u64 0, .string ⟨#[]⟩]) 7 64 Try.underlying34 infoAc rfl (by decide) (by decide) _ rfl (.tmp 19) (.tmp 22) rfl B1 (.slice A5 n5 c5) n5 _ rfl HR6.out W3.heap.size (.slice A6 n6 c6) n6 (a6.flatMap acC) rfl HO6.out (flat_one acC_one _) (by have := HN6.out.2; have := HN5.out.2; omega) HB6.out ?_; intro v7 W7 hown hg hv; obtain ⟨A7, c7, rfl, -, -⟩ := own_sl hown; have HO7 := Lib.hid hown; have HT7 : Hid (Tch W6 W7 (obI (.slice A5 n5 c5))) := Lib.hid (Tch.of_grown' hg (fun g e => by rw [obI_some e]; simp)); have HV7 := Lib.hid (one_at hv (Nat.le_refl _)); clear hown hg hv)))
        go_roundw
        case rel =>
          have hP7 := HP6.out.tch HT7.out (fun s' hs e => HD6.out s' e hs)
          have hsn := HMd.out.2.2
          have hmd := HMd.out.2.1
          rw [HA5.out, HA6.out] at hsn
          refine ⟨i + 1, A7, c7, S6, by rw [hsn]; simp [HN5.out.1, HN6.out.1], by go_num, HI.out.2, Lib.hid ?_, Lib.hid ?_, Lib.hid ?_, Lib.hid ?_⟩
          · rw [hsn]
            simp only [List.length_append, List.flatMap_append, HN5.out.1, HN6.out.1]
            exact HO7.out
          · rw [← hmd]; exact hP7
          · exact ⟨HG16.out.tch.trans_fre HT7.out (fun s' hs => .inr (by have := (own_geI HR6.out s' hs).1; have := HB1.out; omega)), HG16.out.fre⟩
          · rw [hsn]
            simp only [List.length_append, HN5.out.1, HN6.out.1]
            intro s' hs e
            rcases HV7.out s' hs with h | h
            · exact HD6.out s' h e
            · have := HP6.out.lt s' e; omega
        case measure => have := HI.out.2; simp [intOf]; omega
      · have hpb : (p == port) = false := by simpa using hpp
        go_wp2_with (first | (rw [HW2.out.1, HW2.out.2]) | (refine wpList_sta rfl 70 (.tmp 7) (.tmp 14) rfl kb 0 _ rfl rfl 70 _ HK2.out 4 (by kernel_rfl) rfl (by decide) (one4 rfl rfl rfl rfl) ?_; intro W3 hS3; have HK3 : Hid (Blk W3 kb 70 #[.int .i64 p, .bool s, .int .u64 (hi : Int), .int .u64 (lo : Int)]) := Lib.hid (sta_whole hS3 rfl); have HT3 : Hid (Tch wr W3 []) := Lib.hid (HT2.out.trans_fre hS3.tch (by have := HW2.out.2; simp; omega)); clear hS3; clear c0 c1 c2 c3; obtain ⟨k0, k1, k2, k3⟩ := HK3.out.k4))
        have HMd := Lib.hid ((drp_mid HX.out HPm.out).2 hpp)
        clear hpp
        go_roundw
        case rel =>
          have hsn := HMd.out.2
          rw [HA5.out] at hsn
          refine ⟨i + 1, A5, c5, S5, by rw [hsn, HN5.out.1], by go_num, HI.out.2, Lib.hid ?_, Lib.hid ?_, Lib.hid ?_, Lib.hid ?_⟩
          · rw [hsn, HN5.out.1]
            exact own_tch hR5.out HT3.out (by simp)
          · rw [← HMd.out.1]; exact hP5.out.tch HT3.out (by simp)
          · exact hG5.out.trans_ (Goes.of_nil HT3.out S5)
          · rw [hsn, HN5.out.1]; exact hD5.out
        case measure => have := HI.out.2; simp [intOf]; omega
    · have iI : ¬ (i : Int) < (n : Int) := by omega
      obtain rfl : i = n := by omega
      have hall : L.take i = L := List.take_of_length_le (by rw [HLn.out]; exact Nat.le_refl _)
      have hdr : L.drop i = [] := List.drop_of_length_le (by rw [HLn.out]; exact Nat.le_refl _)
      have hmid : drpM L port i = drpL L port := by unfold drpM; rw [hall, hdr, List.append_nil]
      rw [hall] at hR5 hD5 ⊢
      rw [hmid] at hP5
      clear hmid hall hdr
      go_wp2
      go_ret
      exact acts_of (acts := drpA L port) rfl (own_mono hR5.out (by have := HB1.out; have := HT1.out.size; omega)) rfl hP5.out ((Goes.of_nil HT1.out S).trans_ hG5.out)
end Go.Proofs.Ytlbkphnbpenbcaa
