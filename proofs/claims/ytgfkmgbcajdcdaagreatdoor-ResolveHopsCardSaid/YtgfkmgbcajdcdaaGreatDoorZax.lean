/-
  Several texts in one: IfK, IfM, IfO, IfQ.
-/
import Derived.Test.YtgfkmgbcajdcdaaGreatDoorZaw
import Derived.Test.YtgfkmgbcajdcdaaGreatDoorZaa
set_option linter.unusedVariables false
set_option maxRecDepth 100000
set_option maxHeartbeats 16000000
namespace Go.Proofs.YtgfkmgbcajdcdaaGreatDoor.Ifs
open Go.RowKit

structure RepI (w : World) (t : Nat) (vP : Value) (nP : Nat) (pr : List Value) (vL : Value) (nL : Nat) (lv : List Value) (L : List (List Loc)) : Prop where
 nod : (t :: (obI vP ++ (obI vL ++ lv.flatMap obI))).Nodup
 blk : Blk w t 170 #[vP, vL]
 rowP : w.ownsRow 0 74 4 vP nP pr
 rowL : w.ownsRow 0 132 1 vL nL lv
 inn : ∀ (i : Nat) (l : List Loc), L[i]? = some l → ∃ A c, lv[i]? = some (.slice A l.length c) ∧ w.ownsRow 0 202 4 (.slice A l.length c) l.length (l.flatMap lcC)
section
variable {w w1 : World} {t nP nL : Nat} {vP vL v : Value} {pr lv : List Value} {L : List (List Loc)}
theorem RepI.lts (h : RepI w t vP nP pr vL nL lv L) (hl : lv.length = L.length) : ∀ s ∈ t :: (obI vP ++ (obI vL ++ lv.flatMap obI)), s < w.heap.size := by
 intro s hs
 rcases List.mem_cons.1 hs with h1 | h1
 ·subst h1; exact h.blk.lt
 rcases List.mem_append.1 h1 with h1 | h1
 ·exact own_lts h.rowP s h1
 rcases List.mem_append.1 h1 with h1 | h1
 ·exact own_lts h.rowL s h1
 obtain ⟨v, hv, hs⟩ := List.mem_flatMap.1 h1
 obtain ⟨i, hi⟩ := List.mem_iff_getElem?.1 hv
 have hil := (List.getElem?_eq_some_iff.1 hi).1
 obtain ⟨A, c, e, ho⟩ := h.inn i _ (List.getElem?_eq_getElem (by omega))
 rw [hi] at e
 injection e with e
 subst e
 exact own_lts ho s hs
theorem obI_new {B : Nat} (hv : v.ownBlock = vP.ownBlock ∨ v.ownBlock = some B) : obI v = obI vP ∨ obI v = [B] := by
 rcases hv with h | h
 ·exact .inl (by unfold obI; rw [h])
 ·exact .inr (obI_some h)
theorem grown_tch {o : Obj} (hg : (w.alloc o).grownBy w1 v.ownBlock) : Tch w w1 (obI v) := ((Tch.refl w _).alloc o).trans (Tch.of_grown' hg (fun g e => by rw [obI_some e]; simp))
theorem RepI.growP {o : Obj} {e : List Value} (h : RepI w t vP nP pr vL nL lv L) (hl : lv.length = L.length) (ho : w1.ownsRow 0 74 4 v (nP + 1) (pr ++ e)) (hg : (w.alloc o).grownBy w1 vP.ownBlock)
  (hv : v.ownBlock = vP.ownBlock ∨ v.ownBlock = some (w.alloc o).heap.size) :
  RepI (w1.setCell ⟨t, 0, none⟩ v) t v (nP + 1) (pr ++ e) vL nL lv L ∧ Goes w (w1.setCell ⟨t, 0, none⟩ v) (t :: (obI vP ++ (obI vL ++ lv.flatMap obI))) (t :: (obI v ++ (obI vL ++ lv.flatMap obI))) ∧ w1.frozen? ⟨t, 0, none⟩ = false ∧ ∃ u, w1.cell? ⟨t, 0, none⟩ = some u := by
 have hlt := h.lts hl
 have hT := grown_tch hg
 have hnd := h.nod
 rw [List.nodup_cons, List.nodup_append] at hnd
 obtain ⟨n1, n2, n3, n4⟩ := hnd
 have hob := obI_new hv
 rw [zA] at hob
 have ht : t ∉ obI vP := fun hm => n1 (List.mem_append_left _ hm)
 have hrest : ∀ s ∈ obI vL ++ lv.flatMap obI, s ∉ obI vP := fun s hs hm => n4 s hm s hs rfl
 have hB := hT.blk h.blk ht
 have htv : t ∉ obI v := by
  rcases hob with e1 | e1
  ·rw [e1]; exact ht
  ·rw [e1, List.mem_singleton]; have := h.blk.lt; omega
 have hrv : ∀ s ∈ obI vL ++ lv.flatMap obI, s ∉ obI v := fun s hs => by
  rcases hob with e1 | e1
  ·rw [e1]; exact hrest s hs
  ·rw [e1, List.mem_singleton]
   have := hlt s (List.mem_cons_of_mem _ (List.mem_append_right _ hs))
   omega
 have hTs : Tch w1 (w1.setCell ⟨t, 0, none⟩ v) [t] := (Tch.refl w1 [t]).set_ (p := ⟨t, 0, none⟩) (by simp) v
 have htr : ∀ s ∈ obI vL ++ lv.flatMap obI, s ∉ [t] := fun s hs hm => n1 (by rw [List.mem_singleton.1 hm] at hs; exact List.mem_append_right _ hs)
 refine ⟨⟨?_, hB.set_ 0 _, own_tch ho hTs (fun s hs hm => htv (by rw [List.mem_singleton.1 hm] at hs; exact hs)), own_tch (own_tch h.rowL hT (fun s hs => hrest s (List.mem_append_left _ hs))) hTs (fun s hs => htr s (List.mem_append_left _ hs)), fun i l hl2 => ?_⟩, ⟨?_, fun s hs => ?_⟩, hB.frozen 0, _, hB.cell 0⟩
 ·rw [List.nodup_cons, List.nodup_append]
  refine ⟨fun hm => ?_, ?_, n3, fun a ha b hb e => hrv b hb (e ▸ ha)⟩
  ·rcases List.mem_append.1 hm with h1 | h1
   ·exact htv h1
   ·exact n1 (List.mem_append_right _ h1)
  ·rcases hob with e1 | e1
   ·rw [e1]; exact n2
   ·rw [e1]; simp
 ·obtain ⟨A, c, e2, ho2⟩ := h.inn i l hl2
  have hm : ∀ s ∈ obI (.slice A l.length c), s ∈ obI vL ++ lv.flatMap obI := fun s hs => List.mem_append_right _ (List.mem_flatMap.2 ⟨_, List.mem_of_getElem? e2, hs⟩)
  exact ⟨A, c, e2, own_tch (own_tch ho2 hT (fun s hs => hrest s (hm s hs))) hTs (fun s hs => htr s (hm s hs))⟩
 ·exact (hT.mono (fun s hs => List.mem_cons_of_mem _ (List.mem_append_left _ hs))).set_ (p := ⟨t, 0, none⟩) (by simp) _
 ·rcases List.mem_cons.1 hs with h1 | h1
  ·exact .inl (by rw [h1]; simp)
  rcases List.mem_append.1 h1 with h1 | h1
  ·rcases hob with e1 | e1
   ·rw [e1] at h1; exact .inl (List.mem_cons_of_mem _ (List.mem_append_left _ h1))
   ·rw [e1, List.mem_singleton] at h1; exact .inr (by omega)
  ·exact .inl (List.mem_cons_of_mem _ (List.mem_append_right _ h1))
theorem RepI.growL {o : Obj} (h : RepI w t vP nP pr vL nL lv L) (hl : lv.length = L.length) (ho : w1.ownsRow 0 132 1 v (nL + 1) (lv ++ [Value.slice none 0 0])) (hg : (w.alloc o).grownBy w1 vL.ownBlock)
  (hv : v.ownBlock = vL.ownBlock ∨ v.ownBlock = some (w.alloc o).heap.size) :
  RepI (w1.setCell ⟨t, 1, none⟩ v) t vP nP pr v (nL + 1) (lv ++ [Value.slice none 0 0]) (L ++ [[]]) ∧ Goes w (w1.setCell ⟨t, 1, none⟩ v) (t :: (obI vP ++ (obI vL ++ lv.flatMap obI))) (t :: (obI vP ++ (obI v ++ (lv ++ [Value.slice none 0 0]).flatMap obI))) ∧
   w1.frozen? ⟨t, 1, none⟩ = false ∧ ∃ u, w1.cell? ⟨t, 1, none⟩ = some u := by
 have hlt := h.lts hl
 have hT := grown_tch hg
 have hnd := h.nod
 have efl : (lv ++ [Value.slice none 0 0]).flatMap obI = lv.flatMap obI := by rw [List.flatMap_append]; simp [obI, Value.ownBlock]
 rw [efl]
 rw [List.nodup_cons, List.nodup_append, List.nodup_append] at hnd
 obtain ⟨n1, n2, ⟨n3, n5, n6⟩, n4⟩ := hnd
 have hob := obI_new hv
 rw [zA] at hob
 have ht : t ∉ obI vL := fun hm => n1 (List.mem_append_right _ (List.mem_append_left _ hm))
 have hP : ∀ s ∈ obI vP, s ∉ obI vL := fun s hs hm => n4 s hs s (List.mem_append_left _ hm) rfl
 have hI : ∀ s ∈ lv.flatMap obI, s ∉ obI vL := fun s hs hm => n6 s hm s hs rfl
 have hB := hT.blk h.blk ht
 have hnew : ∀ s, s < w.heap.size → s ∉ obI vL → s ∉ obI v := fun s hs hn => by
  rcases hob with e1 | e1
  ·rw [e1]; exact hn
  ·rw [e1, List.mem_singleton]; omega
 have htv := hnew t h.blk.lt ht
 have hTs : Tch w1 (w1.setCell ⟨t, 1, none⟩ v) [t] := (Tch.refl w1 [t]).set_ (p := ⟨t, 1, none⟩) (by simp) v
 have hPt : ∀ s ∈ obI vP, s ∉ [t] := fun s hs hm => n1 (by rw [List.mem_singleton.1 hm] at hs; exact List.mem_append_left _ hs)
 have hIt : ∀ s ∈ lv.flatMap obI, s ∉ [t] := fun s hs hm => n1 (by rw [List.mem_singleton.1 hm] at hs; exact List.mem_append_right _ (List.mem_append_right _ hs))
 have hltP : ∀ s ∈ obI vP, s < w.heap.size := fun s hs => hlt s (List.mem_cons_of_mem _ (List.mem_append_left _ hs))
 have hltI : ∀ s ∈ lv.flatMap obI, s < w.heap.size := fun s hs => hlt s (List.mem_cons_of_mem _ (List.mem_append_right _ (List.mem_append_right _ hs)))
 refine ⟨⟨?_, hB.set_ 1 _, own_tch (own_tch h.rowP hT hP) hTs hPt, own_tch ho hTs (fun s hs hm => htv (by rw [List.mem_singleton.1 hm] at hs; exact hs)), fun i l hl2 => ?_⟩, ⟨?_, fun s hs => ?_⟩, hB.frozen 1, _, hB.cell 1⟩
 ·rw [efl, List.nodup_cons, List.nodup_append, List.nodup_append]
  refine ⟨fun hm => ?_, n2, ⟨?_, n5, fun a ha b hb e => hnew b (hltI b hb) (hI b hb) (e ▸ ha)⟩, fun a ha b hb e => ?_⟩
  ·rcases List.mem_append.1 hm with h1 | h1
   ·exact n1 (List.mem_append_left _ h1)
   rcases List.mem_append.1 h1 with h1 | h1
   ·exact htv h1
   ·exact n1 (List.mem_append_right _ (List.mem_append_right _ h1))
  ·rcases hob with e1 | e1
   ·rw [e1]; exact n3
   ·rw [e1]; simp
  ·subst e
   rcases List.mem_append.1 hb with h1 | h1
   ·exact hnew a (hltP a ha) (hP a ha) h1
   ·exact n4 a ha a (List.mem_append_right _ h1) rfl
 ·rcases Nat.lt_or_ge i L.length with h1 | h1
  ·rw [List.getElem?_append_left h1] at hl2
   obtain ⟨A, c, e2, ho2⟩ := h.inn i l hl2
   have hm : ∀ s ∈ obI (.slice A l.length c), s ∈ lv.flatMap obI := fun s hs => List.mem_flatMap.2 ⟨_, List.mem_of_getElem? e2, hs⟩
   exact ⟨A, c, by rw [List.getElem?_append_left (by omega)]; exact e2, own_tch (own_tch ho2 hT (fun s hs => hI s (hm s hs))) hTs (fun s hs => hIt s (hm s hs))⟩
  ·rw [List.getElem?_append_right h1] at hl2
   have hi : i = L.length := by have := (List.getElem?_eq_some_iff.1 hl2).1; simp at this; omega
   subst hi
   simp at hl2
   subst hl2
   exact ⟨none, 0, by rw [List.getElem?_append_right (by omega), hl]; simp, ⟨rfl, .inl ⟨rfl, rfl⟩⟩⟩
 ·exact (hT.mono (fun s hs => List.mem_cons_of_mem _ (List.mem_append_right _ (List.mem_append_left _ hs)))).set_ (p := ⟨t, 1, none⟩) (by simp) _
 ·rcases List.mem_cons.1 hs with h1 | h1
  ·exact .inl (by rw [h1]; simp)
  rcases List.mem_append.1 h1 with h1 | h1
  ·exact .inl (List.mem_cons_of_mem _ (List.mem_append_left _ h1))
  rcases List.mem_append.1 h1 with h1 | h1
  ·rcases hob with e1 | e1
   ·rw [e1] at h1; exact .inl (List.mem_cons_of_mem _ (List.mem_append_right _ (List.mem_append_left _ h1)))
   ·rw [e1, List.mem_singleton] at h1; exact .inr (by omega)
  ·exact .inl (List.mem_cons_of_mem _ (List.mem_append_right _ (List.mem_append_right _ h1)))
end
end Go.Proofs.YtgfkmgbcajdcdaaGreatDoor.Ifs

namespace Go.Proofs.YtgfkmgbcajdcdaaGreatDoor.Ifs
open Go.RowKit

theorem infoPt : (Tryz.prog.info? 74).map (fun i => (i.zero, i.size, i.bytes)) = some (some (.agg #[.string ⟨#[]⟩, .int .u64 0, .int .i64 0, .bool false]), 4, 40) := by kernel_rfl
theorem infoLs : (Tryz.prog.info? 132).map (fun i => (i.zero, i.size, i.bytes)) = some (some (.slice none 0 0), 1, 24) := by kernel_rfl
theorem IfD.rep {w : World} {t : Nat} {S : List Nat} {st : StI} (h : IfD w t S st) : ∃ (AP AL : Option Addr) (cP cL : Nat) (lv : List Value), S = t :: (obI (.slice AP st.1.length cP) ++ (obI (.slice AL st.1.length cL) ++ lv.flatMap obI)) ∧
  RepI w t (.slice AP st.1.length cP) st.1.length (st.1.flatMap prC) (.slice AL st.1.length cL) st.1.length lv st.2 ∧ lv.length = st.1.length := by
 obtain ⟨AP, AL, cP, cL, lv, h1, h2, h3, h4, h5, h6, h7, h8⟩ := h
 exact ⟨AP, AL, cP, cL, lv, h1, ⟨h1 ▸ h2, h3, h4, h5, h7⟩, h6⟩
theorem addD_bad (t : Nat) (S : List Nat) (st : StI) (nm : ByteArray) (mac mtu : Int) (hm : 0 ≤ mac ∧ mac ≤ 18446744073709551615) (hb : nameOk nm = false ∨ namedI st.1 nm ≠ 0 ∨ (macOk mac && mtuOk mtu) = false ∨ 8 ≤ st.1.length) (w : World) (h : IfD w t S st) :
  Calls Tryz.prog 89 #[.pointer (some ⟨t, 0, none⟩), .string nm, .int .u64 mac, .int .i64 mtu] w fun e w' => e = .returned (.tuple #[.int .i64 (addI st nm mac mtu).2.1, .int .i64 (addI st nm mac mtu).2.2]) ∧ (addI st nm mac mtu).1 = st ∧ w = w' := by
 have HNa := lH (nameD nm w)
 have HNd := lH (namedD t S st nm w h)
 have hf := h.few
 obtain ⟨AP, AL, cP, cL, lv, -, hR, hlv⟩ := h.rep
 have c0 := (hR.blk.cell 0).trans (show _ = some (Value.slice AP st.1.length cP) by rfl)
 have hAdd : addI st nm mac mtu = (if nameOk nm = false ∨ namedI st.1 nm ≠ 0 then (st, 0, 130) else if (macOk mac && mtuOk mtu) = false then (st, 0, 1) else (st, 0, 131)) := by
  unfold addI
  by_cases h1 : nameOk nm = false ∨ namedI st.1 nm ≠ 0
  ·rw [if_pos h1, if_pos h1]
  ·rw [if_neg h1, if_neg h1]
   by_cases h2 : (macOk mac && mtuOk mtu) = false
   ·rw [if_pos h2, if_pos h2]
   ·rw [if_neg h2, if_neg h2]
    have h3 : 8 ≤ st.1.length := by
     rcases hb with x | x | x | x
     ·exact absurd (.inl x) h1
     ·exact absurd (.inr x) h1
     ·exact absurd x h2
     ·exact x
    rw [if_pos h3]
 have tup := fun (v : Int) => (show (Ending.returned (Value.tuple #[.int .i64 0, .int .i64 v])) = Ending.returned (Value.tuple #[.int .i64 0, .int .i64 v]) from rfl)
 obtain ⟨n, hn⟩ : ∃ n, st.1.length = n := ⟨_, rfl⟩
 obtain ⟨k, hk⟩ : ∃ k, namedI st.1 nm = k := ⟨_, rfl⟩
 rw [hn] at c0 hf hb
 rw [hk] at HNd hAdd hb
 clear hR hlv h hn
 cases hno : nameOk nm with
 | false =>
  rw [hno] at HNa hAdd
  rw [if_pos (.inl rfl)] at hAdd
  have HE := lH hAdd
  clear hAdd hb hk hm hf tup
  go_enter Tryz.func89, Tryz.ntmps89
  go_wp2_with fail
  refine cZm HNa.out ?_
  rintro e w' ⟨rfl, rfl⟩
  go_wp2
  exact bodyPost_ret (v := .tuple #[.int .i64 0, .int .i64 130]) (by simp [results, Tryz.results89, go_sem]) rfl ⟨by rw [HE.out], by rw [HE.out], rfl⟩
 | true =>
  rw [hno] at HNa hAdd hb
  by_cases hk0 : k = 0
  ·subst hk0
   rw [if_neg (by simp)] at hAdd
   have hb2 : (macOk mac && mtuOk mtu) = false ∨ 8 ≤ n := by
    rcases hb with x | x | x | x
    ·cases x
    ·exact absurd rfl x
    ·exact .inl x
    ·exact .inr x
   cases hmm : (macOk mac && mtuOk mtu) with
   | false =>
    rw [hmm, if_pos rfl] at hAdd
    have HE := lH hAdd
    obtain ⟨q, hq⟩ : ∃ q, Int.tdiv mac 1099511627776 = q := ⟨_, rfl⟩
    have hq2 : mac / 1099511627776 = q := by rw [← hq, Int.tdiv_eq_ediv_of_nonneg hm.1]
    have hq0 : 0 ≤ q ∧ q ≤ 18446744073709551615 := by omega
    obtain ⟨r, hr⟩ : ∃ r, Int.tmod q 2 = r := ⟨_, rfl⟩
    have hr2 : q % 2 = r := by rw [← hr, Int.tmod_eq_emod_of_nonneg hq0.1]
    have jq : IntKind.u64.wrap q = q := by rw [IntKind.wrap_u64]; omega
    have jr : IntKind.u64.wrap r = r := by rw [IntKind.wrap_u64]; omega
    have hcs : mac = 0 ∨ (¬ mac = 0 ∧ 281474976710656 ≤ mac) ∨ (¬ mac = 0 ∧ ¬ 281474976710656 ≤ mac ∧ r = 1) ∨ (¬ mac = 0 ∧ ¬ 281474976710656 ≤ mac ∧ ¬ r = 1 ∧ mtu < 68) ∨ (¬ mac = 0 ∧ ¬ 281474976710656 ≤ mac ∧ ¬ r = 1 ∧ ¬ mtu < 68 ∧ 1500 < mtu) := by
     rw [Bool.and_eq_false_iff] at hmm
     unfold macOk mtuOk at hmm
     rw [decide_eq_false_iff_not, decide_eq_false_iff_not, hq2, hr2] at hmm
     omega
    clear hAdd hb hb2 hk hm hf tup hq2 hq0 hr2 hmm hno
    rcases hcs with m1 | ⟨m1, m2⟩ | ⟨m1, m2, m3⟩ | ⟨m1, m2, m3, m4⟩ | ⟨m1, m2, m3, m4, m5⟩
    ·subst m1
     go_enter Tryz.func89, Tryz.ntmps89
     go_wp2_with fail
     refine cZm HNa.out ?_
     rintro e w' ⟨rfl, rfl⟩
     go_wp2_with fail
     refine cZm HNd.out ?_
     rintro e w' ⟨rfl, rfl⟩
     go_wp2
     exact bodyPost_ret (v := .tuple #[.int .i64 0, .int .i64 1]) (by simp [results, Tryz.results89, go_sem]) rfl ⟨by rw [HE.out], by rw [HE.out], rfl⟩
    ·have bm : (mac == (0 : Int)) = false := by simpa using m1
     go_enter Tryz.func89, Tryz.ntmps89
     go_wp2_with fail
     refine cZm HNa.out ?_
     rintro e w' ⟨rfl, rfl⟩
     go_wp2_with fail
     refine cZm HNd.out ?_
     rintro e w' ⟨rfl, rfl⟩
     go_wp2
     exact bodyPost_ret (v := .tuple #[.int .i64 0, .int .i64 1]) (by simp [results, Tryz.results89, go_sem]) rfl ⟨by rw [HE.out], by rw [HE.out], rfl⟩
    ·have bm : (mac == (0 : Int)) = false := by simpa using m1
     have br : (r == (1 : Int)) = true := by simpa using m3
     go_enter Tryz.func89, Tryz.ntmps89
     go_wp2_with fail
     refine cZm HNa.out ?_
     rintro e w' ⟨rfl, rfl⟩
     go_wp2_with fail
     refine cZm HNd.out ?_
     rintro e w' ⟨rfl, rfl⟩
     go_wp2
     exact bodyPost_ret (v := .tuple #[.int .i64 0, .int .i64 1]) (by simp [results, Tryz.results89, go_sem]) rfl ⟨by rw [HE.out], by rw [HE.out], rfl⟩
    ·have bm : (mac == (0 : Int)) = false := by simpa using m1
     have br : (r == (1 : Int)) = false := by simpa using m3
     go_enter Tryz.func89, Tryz.ntmps89
     go_wp2_with fail
     refine cZm HNa.out ?_
     rintro e w' ⟨rfl, rfl⟩
     go_wp2_with fail
     refine cZm HNd.out ?_
     rintro e w' ⟨rfl, rfl⟩
     go_wp2
     exact bodyPost_ret (v := .tuple #[.int .i64 0, .int .i64 1]) (by simp [results, Tryz.results89, go_sem]) rfl ⟨by rw [HE.out], by rw [HE.out], rfl⟩
    ·have bm : (mac == (0 : Int)) = false := by simpa using m1
     have br : (r == (1 : Int)) = false := by simpa using m3
     go_enter Tryz.func89, Tryz.ntmps89
     go_wp2_with fail
     refine cZm HNa.out ?_
     rintro e w' ⟨rfl, rfl⟩
     go_wp2_with fail
     refine cZm HNd.out ?_
     rintro e w' ⟨rfl, rfl⟩
     go_wp2
     exact bodyPost_ret (v := .tuple #[.int .i64 0, .int .i64 1]) (by simp [results, Tryz.results89, go_sem]) rfl ⟨by rw [HE.out], by rw [HE.out], rfl⟩
   | true =>
    rw [hmm, if_neg (by decide)] at hAdd
    have hn8 : 8 ≤ n := by
     rcases hb2 with x | x
     ·rw [hmm] at x; cases x
     ·exact x
    have HE := lH hAdd
    obtain ⟨q, hq⟩ : ∃ q, Int.tdiv mac 1099511627776 = q := ⟨_, rfl⟩
    have hq2 : mac / 1099511627776 = q := by rw [← hq, Int.tdiv_eq_ediv_of_nonneg hm.1]
    have hq0 : 0 ≤ q ∧ q ≤ 18446744073709551615 := by omega
    obtain ⟨r, hr⟩ : ∃ r, Int.tmod q 2 = r := ⟨_, rfl⟩
    have hr2 : q % 2 = r := by rw [← hr, Int.tmod_eq_emod_of_nonneg hq0.1]
    have jq : IntKind.u64.wrap q = q := by rw [IntKind.wrap_u64]; omega
    have jr : IntKind.u64.wrap r = r := by rw [IntKind.wrap_u64]; omega
    have hcs : ¬ mac = 0 ∧ ¬ 281474976710656 ≤ mac ∧ ¬ r = 1 ∧ ¬ mtu < 68 ∧ ¬ 1500 < mtu := by
     rw [Bool.and_eq_true] at hmm
     unfold macOk mtuOk at hmm
     rw [decide_eq_true_eq, decide_eq_true_eq, hq2, hr2] at hmm
     omega
    obtain ⟨m1, m2, m3, m4, m5⟩ := hcs
    have bm : (mac == (0 : Int)) = false := by simpa using m1
    have br : (r == (1 : Int)) = false := by simpa using m3
    have n8 : (8 : Int) ≤ (n : Int) := by omega
    clear hAdd hb hb2 hk hm hf tup hq2 hq0 hr2 hmm hno hn8
    go_enter Tryz.func89, Tryz.ntmps89
    go_wp2_with fail
    refine cZm HNa.out ?_
    rintro e w' ⟨rfl, rfl⟩
    go_wp2_with fail
    refine cZm HNd.out ?_
    rintro e w' ⟨rfl, rfl⟩
    go_wp2
    exact bodyPost_ret (v := .tuple #[.int .i64 0, .int .i64 131]) (by simp [results, Tryz.results89, go_sem]) rfl ⟨by rw [HE.out], by rw [HE.out], rfl⟩
  ·rw [if_pos (.inr hk0)] at hAdd
   have HE := lH hAdd
   have k0 : (0 : Int) < (k : Int) := by omega
   clear hAdd hb hk hm hf tup
   go_enter Tryz.func89, Tryz.ntmps89
   go_wp2_with fail
   refine cZm HNa.out ?_
   rintro e w' ⟨rfl, rfl⟩
   go_wp2_with fail
   refine cZm HNd.out ?_
   rintro e w' ⟨rfl, rfl⟩
   go_wp2
   exact bodyPost_ret (v := .tuple #[.int .i64 0, .int .i64 130]) (by simp [results, Tryz.results89, go_sem]) rfl ⟨by rw [HE.out], by rw [HE.out], rfl⟩
end Go.Proofs.YtgfkmgbcajdcdaaGreatDoor.Ifs

namespace Go.Proofs.YtgfkmgbcajdcdaaGreatDoor.Ifs
open Go.RowKit

theorem RepI.back {w : World} {t : Nat} {vP vL : Value} {lv : List Value} {st : StI} {n : Nat} (hn : st.1.length = n) (h : RepI w t vP n (st.1.flatMap prC) vL n lv st.2) (hl : lv.length = n) (hi : InvI st) : IfD w t (t :: (obI vP ++ (obI vL ++ lv.flatMap obI))) st := by
 subst hn
 obtain ⟨AP, cP, e1, -⟩ := own_sl h.rowP
 obtain ⟨AL, cL, e2, -⟩ := own_sl h.rowL
 subst e1 e2
 exact ⟨AP, AL, cP, cL, lv, rfl, h.nod, h.blk, h.rowP, h.rowL, hl, h.inn, hi⟩
theorem addD_ok (t : Nat) (S : List Nat) (st : StI) (nm : ByteArray) (mac mtu : Int) (hm : 0 ≤ mac ∧ mac ≤ 18446744073709551615) (hb : nameOk nm = true ∧ namedI st.1 nm = 0 ∧ (macOk mac && mtuOk mtu) = true ∧ st.1.length < 8) (w : World) (h : IfD w t S st) :
  Calls Tryz.prog 89 #[.pointer (some ⟨t, 0, none⟩), .string nm, .int .u64 mac, .int .i64 mtu] w fun e w' => e = .returned (.tuple #[.int .i64 (addI st nm mac mtu).2.1, .int .i64 (addI st nm mac mtu).2.2]) ∧ ∃ S', IfD w' t S' (addI st nm mac mtu).1 ∧ Goes w w' S S' := by
 have HNa := lH (nameD nm w)
 have HNd := lH (namedD t S st nm w h)
 have hinv := h.inv.add nm mac mtu
 have hlen := h.inv.len
 obtain ⟨AP, AL, cP, cL, lv, hS, hR, hlv⟩ := h.rep
 have c0 := (hR.blk.cell 0).trans (show _ = some (Value.slice AP st.1.length cP) by rfl)
 have c1 := (hR.blk.cell 1).trans (show _ = some (Value.slice AL st.1.length cL) by rfl)
 have hAdd : addI st nm mac mtu = ((st.1 ++ [(nm, mac, mtu, false)], st.2 ++ [[]]), ((st.1.length + 1 : Nat) : Int), 0) := by
  unfold addI
  rw [if_neg (by rw [hb.1, hb.2.1]; simp), if_neg (by rw [hb.2.2.1]; simp), if_neg (by omega)]
 have hmm := hb.2.2.1
 have hn8 := hb.2.2.2
 rw [hb.1] at HNa
 rw [hb.2.1] at HNd
 rw [hAdd] at hinv
 obtain ⟨n, hn⟩ : ∃ n, st.1.length = n := ⟨_, rfl⟩
 rw [hn] at c0 c1 hn8 hR hlv hAdd hlen hS
 obtain ⟨q, hq⟩ : ∃ q, Int.tdiv mac 1099511627776 = q := ⟨_, rfl⟩
 have hq2 : mac / 1099511627776 = q := by rw [← hq, Int.tdiv_eq_ediv_of_nonneg hm.1]
 have hq0 : 0 ≤ q ∧ q ≤ 18446744073709551615 := by omega
 obtain ⟨r, hr⟩ : ∃ r, Int.tmod q 2 = r := ⟨_, rfl⟩
 have hr2 : q % 2 = r := by rw [← hr, Int.tmod_eq_emod_of_nonneg hq0.1]
 have jq : IntKind.u64.wrap q = q := by rw [IntKind.wrap_u64]; omega
 have jr : IntKind.u64.wrap r = r := by rw [IntKind.wrap_u64]; omega
 have hcs : ¬ mac = 0 ∧ ¬ 281474976710656 ≤ mac ∧ ¬ r = 1 ∧ ¬ mtu < 68 ∧ ¬ 1500 < mtu := by
  rw [Bool.and_eq_true] at hmm
  unfold macOk mtuOk at hmm
  rw [decide_eq_true_eq, decide_eq_true_eq, hq2, hr2] at hmm
  omega
 obtain ⟨m1, m2, m3, m4, m5⟩ := hcs
 have bm : (mac == (0 : Int)) = false := by simpa using m1
 have br : (r == (1 : Int)) = false := by simpa using m3
 have n8 : ¬ (8 : Int) ≤ (n : Int) := by omega
 have HR := lH hR
 have HLe := lH (show lv.length = st.2.length ∧ n ≤ 1000000 from ⟨by omega, by omega⟩)
 have HO1 : Hid ((w.alloc (.cells #[.string nm, .int .u64 mac, .int .i64 mtu, .bool false] 74)).ownsRow 0 74 4 (.slice AP n cP) n (st.1.flatMap prC)) := lH (hR.rowP.alloc _)
 have HS1 := lH (src_new w 74 [.string nm, .int .u64 mac, .int .i64 mtu, .bool false])
 have HE := lH (And.intro hAdd (And.intro hinv (And.intro hn (And.intro hlv hS))))
 clear hAdd hb hm hq2 hq0 hr2 hmm hn8 hR hlv hlen hinv hn hS h
 go_enter Tryz.func89, Tryz.ntmps89
 go_wp2_with fail
 refine cZm HNa.out ?_
 rintro e w' ⟨rfl, rfl⟩
 go_wp2_with fail
 refine cZm HNd.out ?_
 rintro e w' ⟨rfl, rfl⟩
 go_wp2_with (first
  | (at_builtin; (refine wpList_apc 167 74 (.agg #[.string ⟨#[]⟩, .int .u64 0, .int .i64 0, .bool false]) 4 40 Tryz.underlying167 infoPt rfl (by decide) (by decide) _ rfl (.tmp 51) (.tmp 56) rfl 0 (.slice AP n cP) n (st.1.flatMap prC) rfl HO1.out ⟨w.heap.size, 0, none⟩ 1 [.string nm, .int .u64 mac, .int .i64 mtu, .bool false] rfl rfl (fun j u hj => HS1.out j u hj) (by simp [Value.oneCell']) HLe.out.2 (Nat.zero_le _) ?_; intro v1 w1 hown1 hg1 hv1; obtain ⟨hR2, hG2, f0, u0, hu0⟩ := RepI.growP HR.out HLe.out.1 hown1 hg1 hv1; obtain ⟨A1, c1', e1, -, -⟩ := own_sl hown1; subst e1; have HR2 := lH hR2; have HG2 := lH hG2; have d1 := (hR2.blk.cell 1).trans (show _ = some (Value.slice AL n cL) by rfl); have HO2 : Hid (((w1.setCell ⟨t, 0, none⟩ (.slice A1 (n + 1) c1')).alloc (.cells #[Value.slice none 0 0] 132)).ownsRow 0 132 1 (.slice AL n cL) n lv) := lH (hR2.rowL.alloc _); have HS2 := lH (by have h0 := src_new (w1.setCell ⟨t, 0, none⟩ (.slice A1 (n + 1) c1')) 132 [Value.slice none 0 0]; rw [World.size_setCell] at h0; exact h0); have d0 := (hR2.blk.cell 0).trans (show _ = some (Value.slice A1 (n + 1) c1') by rfl); clear c0 c1 hown1 hg1 hv1 hR2 hG2))
  | (at_builtin; (refine wpList_apc 168 132 (.slice none 0 0) 1 24 Tryz.underlying168 infoLs rfl (by decide) (by decide) _ rfl (.tmp 64) (.tmp 65) rfl 0 (.slice AL n cL) n lv rfl HO2.out ⟨w1.heap.size, 0, none⟩ 1 [Value.slice none 0 0] rfl rfl (fun j u hj => HS2.out j u hj) (by simp [Value.oneCell']) HLe.out.2 (Nat.zero_le _) ?_; intro v3 w3 hown3 hg3 hv3; obtain ⟨hR4, hG4, f1, u1, hu1⟩ := RepI.growL HR2.out HLe.out.1 hown3 hg3 hv3; obtain ⟨A3, c3', e3, -, -⟩ := own_sl hown3; subst e3; have HR4 := lH hR4; have HG4 := lH hG4; have d3 := (hR4.blk.cell 0).trans (show _ = some (Value.slice A1 (n + 1) c1') by rfl); clear d0 d1 hown3 hg3 hv3 hR4 hG4)))
 refine bodyPost_ret (v := .tuple #[.int .i64 ((n + 1 : Nat) : Int), .int .i64 0]) (by simp [results, Tryz.results89, go_sem]) rfl ?_
 obtain ⟨q1, q2, q3, q4, q5⟩ := HE.out
 refine ⟨by rw [q1], t :: (obI (.slice A1 (n + 1) c1') ++ (obI (.slice A3 (n + 1) c3') ++ (lv ++ [Value.slice none 0 0]).flatMap obI)), ?_, ?_⟩
 ·rw [q1]
  refine RepI.back (n := n + 1) (by simp [q3]) ?_ (by simp [q4]) q2
  have h4 := HR4.out
  rw [show (st.1 ++ [(nm, mac, mtu, false)]).flatMap prC = st.1.flatMap prC ++ [.string nm, .int .u64 mac, .int .i64 mtu, .bool false] by rw [List.flatMap_append]; rfl]
  exact h4
 ·rw [q5]
  exact HG2.out.trans HG4.out
theorem addD (t : Nat) (S : List Nat) (st : StI) (nm : ByteArray) (mac mtu : Int) (hm : 0 ≤ mac ∧ mac ≤ 18446744073709551615) (w : World) (h : IfD w t S st) :
  Calls Tryz.prog 89 #[.pointer (some ⟨t, 0, none⟩), .string nm, .int .u64 mac, .int .i64 mtu] w fun e w' => e = .returned (.tuple #[.int .i64 (addI st nm mac mtu).2.1, .int .i64 (addI st nm mac mtu).2.2]) ∧ ∃ S', IfD w' t S' (addI st nm mac mtu).1 ∧ Goes w w' S S' := by
 by_cases hb : nameOk nm = true ∧ namedI st.1 nm = 0 ∧ (macOk mac && mtuOk mtu) = true ∧ st.1.length < 8
 ·exact addD_ok t S st nm mac mtu hm hb w h
 ·have hb2 : nameOk nm = false ∨ namedI st.1 nm ≠ 0 ∨ (macOk mac && mtuOk mtu) = false ∨ 8 ≤ st.1.length := by
   by_cases h1 : nameOk nm = true
   ·by_cases h2 : namedI st.1 nm = 0
    ·by_cases h3 : (macOk mac && mtuOk mtu) = true
     ·exact .inr (.inr (.inr (by rcases Nat.lt_or_ge st.1.length 8 with h4 | h4; exact absurd ⟨h1, h2, h3, h4⟩ hb; exact h4)))
     ·exact .inr (.inr (.inl (by simpa using h3)))
    ·exact .inr (.inl h2)
   ·exact .inl (by simpa using h1)
  refine cZm (addD_bad t S st nm mac mtu hm hb2 w h) ?_
  rintro e w' ⟨rfl, h1, rfl⟩
  exact ⟨rfl, S, by rw [h1]; exact h, Goes.of_tch (Tch.refl _ _)⟩
end Go.Proofs.YtgfkmgbcajdcdaaGreatDoor.Ifs

namespace Go.Proofs.YtgfkmgbcajdcdaaGreatDoor.Ifs
open Go.RowKit

theorem newD (w : World) : Calls Tryz.prog 46 #[] w fun e w' => ∃ t S, e = .returned (.pointer (some ⟨t, 0, none⟩)) ∧ IfD w' t S ([], []) ∧ Tch w w' [] ∧ ∀ s ∈ S, w.heap.size ≤ s := by
 go_enter Tryz.func46, Tryz.ntmps46
 go_wp2
 refine bodyPost_ret (v := .pointer (some ⟨w.heap.size, 0, none⟩)) (by simp [results, Tryz.results46, go_sem]) rfl ?_
 have hB := Blk.new w 170 #[.slice none 0 0, .slice none 0 0]
 refine ⟨w.heap.size, [w.heap.size], rfl, ⟨none, none, 0, 0, [], rfl, by simp, hB, ⟨rfl, .inl ⟨rfl, rfl⟩⟩, ⟨rfl, .inl ⟨rfl, rfl⟩⟩, rfl, by simp, InvI.nil⟩, (Tch.refl w _).alloc _, by simp⟩
end Go.Proofs.YtgfkmgbcajdcdaaGreatDoor.Ifs
