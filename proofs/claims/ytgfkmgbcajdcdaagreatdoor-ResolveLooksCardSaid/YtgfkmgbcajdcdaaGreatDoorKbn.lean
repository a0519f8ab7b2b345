/-
  Several texts in one: TrY, TrShelf, TrZ, TrJ, TrAg, REnv.
-/
import Derived.Test.YtgfkmgbcajdcdaaGreatDoorKbm
import Derived.Test.YtgfkmgbcajdcdaaGreatDoorKao
import Derived.Shelf.SlGeneric
import Derived.Shelf.SlSortCmp.NoneTotal
import Derived.Test.YtgfkmgbcajdcdaaGreatDoorProg
import Derived.Test.YtgfkmgbcajdcdaaGreatDoorKab
import Derived.Test.YtgfkmgbcajdcdaaGreatDoorKaf
import Derived.Test.YtgfkmgbcajdcdaaGreatDoorKas
import Derived.Test.YtgfkmgbcajdcdaaGreatDoorTie
import Derived.Test.YtgfkmgbcajdcdaaGreatDoorCards
import Derived.Lib.LaidTab
import Derived.Stop.LaidErr
import Derived.LaidLaws
import Derived.Deep.DeepHandedRow
import Derived.Lay
import Derived.SevenTiedAt
namespace Go.Proofs.YtgfkmgbcajdcdaaGreatDoor
open Go.RowKit Ifs Go.Sort
set_option linter.unusedVariables false

/-- A valid route of Go's numbers. -/
abbrev RtV : Type := { r : RtI // PvOk r.1 }
instance : Inhabited RtV := ⟨⟨(((false, 0, 0), 0), 0), ⟨by decide, by decide, by unfold N64; decide, by unfold N64; decide⟩⟩⟩
def rvC (x : RtV) : List Value := rtC x.1
theorem rvC_len (x : RtV) : (rvC x).length = 5 := rfl
theorem rvC_one (x : RtV) : ∀ v ∈ rvC x, v.oneCell' = true := rt_one x.1
/-- What inOrder answers. -/
def cmpR (x y : RtI) : Int := if x.1 = y.1 then 0 else if lessI x.1 y.1 = true then -1 else 1
theorem cmpR_swo : SWO (ltOf fun x y : RtV => cmpR x.1 y.1) := by
  refine lexP_swo (fun x : RtV => keyP x.1.1) (fun _ _ => rfl) _ fun x y => ?_
  have h1 := PvOk.less x.2 y.2
  show decide (cmpR x.1 y.1 < 0) = true ↔ ltP x.1.1 y.1.1
  rw [← h1]
  unfold cmpR
  by_cases e : x.1.1 = y.1.1
  · rw [if_pos e]
    have h2 : ¬ lessI x.1.1 y.1.1 = true := fun h => ltP_irr y.1.1 (by have := h1.1 h; rw [e] at this; exact this)
    simp [h2]
  · rw [if_neg e]
    by_cases h2 : lessI x.1.1 y.1.1 = true
    · simp [h2]
    · simp [h2]
set_option maxRecDepth 100000 in
set_option maxHeartbeats 4000000 in
theorem cmpRt_any (x y : RtI) (hx : N64 x.1.1.2.1 ∧ N64 x.1.1.2.2) (hy : N64 y.1.1.2.1 ∧ N64 y.1.1.2.2) (w : World) :
    Calls Tryz.prog 66 #[.agg (rtC x).toArray, .agg (rtC y).toArray] w fun e w' => e = .returned (.int .i64 (cmpR x y)) ∧ BelowD w.heap.size w w' := by
  obtain ⟨E, hE⟩ : ∃ E, decide (x.1 = y.1) = E := ⟨_, rfl⟩
  have HQ := eqA_eql 30 _ _ (eq_pfR x.1 y.1 hE)
  obtain ⟨⟨⟨s, h, l⟩, b⟩, nx⟩ := x
  obtain ⟨⟨⟨s', h', l'⟩, b'⟩, ny⟩ := y
  unfold cmpR
  obtain ⟨B, hB⟩ : ∃ B, lessI ((s, h, l), b) ((s', h', l'), b') = B := ⟨_, rfl⟩
  have H1 := Lib.hid (fun w => pless_atQ s h l b s' h' l' b' hx.1 hx.2 hy.1 hy.2 hB w)
  have HB : Hid (∀ (W : World), BelowD w.heap.size w ((w.alloc (.cells #[.bool s, .int .u64 h, .int .u64 l, .int .i64 b, .int .i64 nx] 101)).alloc (.cells #[.bool s', .int .u64 h', .int .u64 l', .int .i64 b', .int .i64 ny] 101))) := Lib.hid (fun _ => ((BelowD.refl _ w).alloc (Nat.le_refl _) _).alloc (by simp) _)
  have HE := Lib.hid hE
  simp only [hB]
  clear hB hx hy hE
  simp only [rtC]
  cases E with
  | true =>
    have he := of_decide_eq_true HE.out
    simp only [if_pos he]
    clear he
    go_enter Tryz.func66, Tryz.ntmps66
    go_wp2
    go_ret
    exact ⟨rfl, HB.out w⟩
  | false =>
    have he := of_decide_eq_false HE.out
    simp only [if_neg he]
    clear he
    cases B
    all_goals
      go_enter Tryz.func66, Tryz.ntmps66
      go_wp2_with (go_at_call 74; (with_reducible refine Calls.mono (H1.out _) ?_); rintro e w1 ⟨rfl, hb⟩; have HB1 := Lib.hid ((HB.out w).trans (hb.mono (HB.out w).size)); clear hb)
      go_ret
      exact ⟨rfl, HB1.out⟩
/-- The world that a sort of routes leaves. -/
theorem sortR_own {t : TypeId} {w : World} {g n c m : Nat} {os : Array Obj} {l : List RtV} {d : Array RtV} (hd : d.size = n) (hl : l.length = n) (h : w.ownsRow 0 t 5 (.slice (some ⟨g, 0, none⟩) n c) n (l.flatMap rvC)) :
    (sortWorldK rvC 5 w g 0 m d os).ownsRow 0 t 5 (.slice (some ⟨g, 0, none⟩) n c) n (d.toList.flatMap rvC) ∧ Tch w (sortWorldK rvC 5 w g 0 m d os) [g] := by
  obtain ⟨cur, hb, h1, h2, h3, h4⟩ := own_openN h
  have hlt := hb.lt
  have hb' : (sortWorldK rvC 5 w g 0 m d os).heap[g]? = some (.cells (putCells id 0 (flatK rvC 5 d) cur) t (0, 0)) := by
    show ((w.heap.modify g _) ++ os)[g]? = _
    rw [Array.getElem?_append_left (by simpa using hlt), Array.getElem?_modify, if_pos rfl, show w.heap[g]? = _ from hb]
    rfl
  have hsz : (flatK rvC 5 d).size = n * 5 := by rw [size_flatK, hd]
  have htk : (putCells id 0 (flatK rvC 5 d) cur).toList.take (n * 5) = d.toList.flatMap rvC := by
    rw [← flatK_flat rvC 5 rvC_len (by decide) d]
    refine List.ext_getElem? fun j => ?_
    by_cases hj : j < n * 5
    · rw [List.getElem?_take_of_lt hj, Array.getElem?_toList, Array.getElem?_toList]
      have hj2 : j < cur.size := by rw [h3]; exact Nat.lt_of_lt_of_le hj (Nat.mul_le_mul_right _ h1)
      rw [Array.getElem?_eq_getElem (xs := putCells id 0 (flatK rvC 5 d) cur) (by unfold putCells; simpa using hj2), Array.getElem?_eq_getElem (xs := flatK rvC 5 d) (by rw [hsz]; exact hj)]
      unfold putCells
      simp only [Array.getElem_mapIdx, hsz, Nat.zero_le, Nat.zero_add, hj, true_and, if_true, id, Nat.sub_zero]
      rw [getElem!_pos (flatK rvC 5 d) j (by rw [hsz]; exact hj)]
    · rw [List.getElem?_eq_none (by rw [List.length_take]; omega), List.getElem?_eq_none (by rw [Array.length_toList, hsz]; omega)]
  refine ⟨⟨by rw [flatk_len rvC_len, Array.length_toList, hd], .inr ⟨g, c, _, rfl, Nat.zero_le _, hb', h1, h2, by unfold putCells; simpa using h3, htk⟩⟩, rfl, rfl, rfl, ?_, fun k hk hn => ?_⟩
  · show _ ≤ ((w.heap.modify g _) ++ os).size
    simp
  · show ((w.heap.modify g _) ++ os)[k]? = _
    rw [Array.getElem?_append_left (by simpa using hk), Array.getElem?_modify, if_neg (by simpa [eq_comm] using hn)]
theorem aggRt (w : World) : (isAgg 101).run Tryz.prog w = .ok true w := by kernel_rfl
theorem sizRt (w : World) : (Go.sizeOf 101).run Tryz.prog w = .ok 5 w := by kernel_rfl
end Go.Proofs.YtgfkmgbcajdcdaaGreatDoor

namespace Go.Proofs
open Go.Shelf
def Tryz.sortT_ren : Go.Shelf.Ren := ⟨fun | 6 => 65 | 15 => 108 | 14 => 107 | 28 => 151 | 29 => 152 | 20 => 143 | 21 => 144 | 22 => 145 | 23 => 146 | 24 => 147 | 25 => 148 | 26 => 149 | 27 => 150 | 46 => 185 | 47 => 186 | 48 => 187 | 49 => 188 | 50 => 189 | 57 => 205 | n => n, fun | 22 => 63 | 24 => 101 | 25 => 141 | 3 => 3 | 39 => 182 | 0 => 0 | 53 => 215 | 55 => 26 | 4 => 4 | 46 => 208 | 45 => 207 | 50 => 212 | 5 => 5 | 9 => 9 | 66 => 243 | 70 => 247 | 76 => 264 | 77 => 265 | n => n, fun | n => n⟩
theorem Tryz.sortT : Go.Proofs.SlLaysF0.n6 Tryz.prog Tryz.sortT_ren := {
  mixed := by kernel_rfl
  f6 := ⟨Tryz.f65.name, by decide, Tryz.func65.trans (congrArg some (by kernel_rfl))⟩
  f14 := ⟨Tryz.f107.name, by decide, Tryz.func107.trans (congrArg some (by kernel_rfl))⟩
  f15 := Tryz.func108.trans (congrArg some (by kernel_rfl))
  f20 := ⟨Tryz.f143.name, by decide, Tryz.func143.trans (congrArg some (by kernel_rfl))⟩
  f21 := ⟨Tryz.f144.name, by decide, Tryz.func144.trans (congrArg some (by kernel_rfl))⟩
  f22 := ⟨Tryz.f145.name, by decide, Tryz.func145.trans (congrArg some (by kernel_rfl))⟩
  f23 := ⟨Tryz.f146.name, by decide, Tryz.func146.trans (congrArg some (by kernel_rfl))⟩
  f24 := ⟨Tryz.f147.name, by decide, Tryz.func147.trans (congrArg some (by kernel_rfl))⟩
  f25 := ⟨Tryz.f148.name, by decide, Tryz.func148.trans (congrArg some (by kernel_rfl))⟩
  f26 := ⟨Tryz.f149.name, by decide, Tryz.func149.trans (congrArg some (by kernel_rfl))⟩
  f27 := ⟨Tryz.f150.name, by decide, Tryz.func150.trans (congrArg some (by kernel_rfl))⟩
  f28 := Tryz.func151.trans (congrArg some (by kernel_rfl))
  f29 := Tryz.func152.trans (congrArg some (by kernel_rfl))
  f46 := ⟨Tryz.f185.name, by decide, Tryz.func185.trans (congrArg some (by kernel_rfl))⟩
  f47 := Tryz.func186.trans (congrArg some (by kernel_rfl))
  f48 := Tryz.func187.trans (congrArg some (by kernel_rfl))
  f49 := ⟨Tryz.f188.name, by decide, Tryz.func188.trans (congrArg some (by kernel_rfl))⟩
  f50 := ⟨Tryz.f189.name, by decide, Tryz.func189.trans (congrArg some (by kernel_rfl))⟩
  f57 := ⟨Tryz.f205.name, by decide, Tryz.func205.trans (congrArg some (by kernel_rfl))⟩
  t0 := Tryz.underlying0
  a0 := Tryz.isAgg0
  z0 := Tryz.sizeOf0
  v0 := Tryz.zeroValue0
  t3 := Tryz.underlying3
  a3 := Tryz.isAgg3
  z3 := Tryz.sizeOf3
  v3 := Tryz.zeroValue3
  t4 := Tryz.underlying4
  a4 := Tryz.isAgg4
  z4 := Tryz.sizeOf4
  v4 := Tryz.zeroValue4
  t5 := Tryz.underlying5
  a5 := Tryz.isAgg5
  z5 := Tryz.sizeOf5
  v5 := Tryz.zeroValue5
  t9 := Tryz.underlying9
  a9 := Tryz.isAgg9
  z9 := Tryz.sizeOf9
  v9 := Tryz.zeroValue9
  t22 := Tryz.underlying63
  a22 := Tryz.isAgg63
  z22 := Tryz.sizeOf63
  v22 := Tryz.zeroValue63
  t25 := Tryz.underlying141
  a25 := Tryz.isAgg141
  z25 := Tryz.sizeOf141
  v25 := Tryz.zeroValue141
  t39 := Tryz.underlying182
  a39 := Tryz.isAgg182
  z39 := Tryz.sizeOf182
  v39 := Tryz.zeroValue182
  t45 := Tryz.underlying207
  a45 := Tryz.isAgg207
  z45 := Tryz.sizeOf207
  v45 := Tryz.zeroValue207
  t46 := Tryz.underlying208
  a46 := Tryz.isAgg208
  z46 := Tryz.sizeOf208
  v46 := Tryz.zeroValue208
  t50 := Tryz.underlying212
  a50 := Tryz.isAgg212
  z50 := Tryz.sizeOf212
  v50 := Tryz.zeroValue212
  t53 := Tryz.underlying215
  a53 := Tryz.isAgg215
  z53 := Tryz.sizeOf215
  v53 := Tryz.zeroValue215
  t55 := Tryz.underlying26
  a55 := Tryz.isAgg26
  z55 := Tryz.sizeOf26
  v55 := Tryz.zeroValue26
  t66 := Tryz.underlying243
  a66 := Tryz.isAgg243
  z66 := Tryz.sizeOf243
  v66 := Tryz.zeroValue243
  t70 := Tryz.underlying247
  a70 := Tryz.isAgg247
  z70 := Tryz.sizeOf247
  v70 := Tryz.zeroValue247
  t76 := Tryz.underlying264
  a76 := Tryz.isAgg264
  z76 := Tryz.sizeOf264
  v76 := Tryz.zeroValue264
  t77 := Tryz.underlying265
  a77 := Tryz.isAgg265
  z77 := Tryz.sizeOf265
  v77 := Tryz.zeroValue265 }
end Go.Proofs

namespace Go.Proofs.YtgfkmgbcajdcdaaGreatDoor
open Go.RowKit Ifs Go.Shelf Go.Sort
set_option linter.unusedVariables false

/-- slices.SortFunc over valid routes. -/
theorem sortV_rt (A : Option Addr) (n c : Nat) (l : List RtV) (hl : l.length = n) (hn : n ≤ 100000) (w : World) (h : w.ownsRow 0 101 5 (.slice A n c) n (l.flatMap rvC)) :
    Calls Tryz.prog 65 #[.slice A n c, .func (.func 66) #[] #[]] w fun e w' => e = .returned (.tuple #[]) ∧
      ∃ l' : List RtV, l'.Perm l ∧ (l'.Pairwise fun x y => ltOf (fun x y : RtV => cmpR x.1 y.1) y x = false) ∧ w'.ownsRow 0 101 5 (.slice A n c) n (l'.flatMap rvC) ∧ Tch w w' (obI (.slice A n c)) := by
  have eg : ∀ args w, (callFunc 66 args).run Tryz.prog w = .ok (.enter 66 args) w := enters_of Tryz.func66 (by kernel_rfl) rfl
  rcases Nat.eq_zero_or_pos n with h0 | h0
  · subst h0
    have hl0 : l = [] := List.eq_nil_of_length_eq_zero hl
    subst hl0
    refine (show Calls _ 65 _ _ _ from AnyF.slices_SortFunc_none Tryz.sortT A c (.func (.func 66) #[] #[]) w).mono ?_
    rintro e w' ⟨rfl, rfl⟩
    exact ⟨rfl, [], .refl _, .nil, h, Tch.refl _ _⟩
  · obtain ⟨g, rfl⟩ := slice_some h h0
    subst hl
    have hH : HoldsK rvC 5 w g 0 l.toArray := by
      obtain ⟨cur, hb, h1, h2, h3, h4⟩ := own_openN h
      intro j hj
      rw [size_flatK, List.size_toArray] at hj
      have hf : (flatK rvC 5 l.toArray)[j]? = cur[j]? := by
        rw [← Array.getElem?_toList, flatK_flat rvC 5 rvC_len (by decide)]
        show (l.flatMap rvC)[j]? = _
        rw [← h4, List.getElem?_take_of_lt hj, Array.getElem?_toList]
      have hj2 : j < (flatK rvC 5 l.toArray).size := by rw [size_flatK, List.size_toArray]; exact hj
      rw [Array.getElem?_eq_getElem hj2] at hf
      refine ⟨?_, ?_⟩
      · rw [getElem!_pos _ j hj2]
        simp only [World.cell?, show w.heap[g]? = _ from hb, Nat.zero_add]
        exact hf.symm
      · simp [World.frozen?, show w.heap[g]? = _ from hb]
    have hlt := (own_openN h).choose_spec.1.lt
    have hcmp : CmpLays Tryz.prog 66 #[] rvC 5 (fun x y : RtV => cmpR x.1 y.1) g 0 l.toArray.size w := fun m os dk hs x y => (cmpRt_any x.1 y.1 x.2.2.2 y.2.2.2 _).mono fun e w' hw => ⟨hw.1, hw.2.grow⟩
    refine (show Calls _ 65 _ _ _ from AnyQ.slices_SortFunc Tryz.sortT 5 aggRt sizRt rvC rvC_len rvC_one (fun x y : RtV => cmpR x.1 y.1) cmpR_swo 66 #[] g 0 c l.toArray w eg hcmp hH hlt (by rw [List.size_toArray]; omega)).mono ?_
    rintro e w' ⟨rfl, d', m, os, ⟨hp1, -, hp2⟩, hs, rfl⟩
    have hsz : d'.size = l.length := by rw [hp1, List.size_toArray]
    have hs' : SortedIn (ltOf (fun x y : RtV => cmpR x.1 y.1)) 0 d'.size d' := by rw [hp1]; exact hs
    obtain ⟨r1, r2⟩ := sortR_own (m := m) (os := os) hsz rfl h
    refine ⟨rfl, d'.toList, ?_, pw_of_srt hs', r1, r2⟩
    rw [← hp1] at hp2
    have e1 : d'.extract 0 d'.size = d' := Array.extract_size
    have e2 : l.toArray.extract 0 d'.size = l.toArray := by rw [hp1]; exact Array.extract_size
    rw [e1, e2] at hp2
    simpa using hp2
/-- Two rows of one content, both in a strict order, are one row. -/
theorem perm_strict {α : Type} {r : α → α → Prop} (hirr : ∀ x, ¬ r x x) (htr : ∀ x y z, r x y → r y z → r x z) : ∀ {l m : List α}, l.Perm m → l.Pairwise r → m.Pairwise r → l = m := by
  intro l
  induction l with
  | nil => intro m hp _ _; exact (List.Perm.nil_eq hp)
  | cons a t ih =>
    intro m hp hl hm
    cases m with
    | nil => exact absurd hp.symm (by simp)
    | cons b u =>
      have hab : a = b := by
        have h1 : a ∈ b :: u := hp.subset (List.mem_cons_self ..)
        have h2 : b ∈ a :: t := hp.symm.subset (List.mem_cons_self ..)
        rcases List.mem_cons.1 h1 with h | h
        · exact h
        · rcases List.mem_cons.1 h2 with k | k
          · exact k.symm
          · exact absurd (htr _ _ _ ((List.pairwise_cons.1 hm).1 a h) ((List.pairwise_cons.1 hl).1 b k)) (hirr b)
      subst hab
      rw [ih (List.Perm.cons_inv hp) (List.pairwise_cons.1 hl).2 (List.pairwise_cons.1 hm).2]
/-- Routes that are in their order stay as they are. -/
theorem sort_rt (A : Option Addr) (n c : Nat) (l : List RtI) (hs : SrtR l) (hl : l.length = n) (hn : n ≤ 100000) (w : World) (h : RowT w 0 A n c l) :
    Calls Tryz.prog 65 #[.slice A n c, .func (.func 66) #[] #[]] w fun e w' => e = .returned (.tuple #[]) ∧ RowT w' 0 A n c l ∧ Tch w w' (obI (.slice A n c)) := by
  obtain ⟨lv, hlv⟩ : ∃ lv : List RtV, lv.map (·.1) = l := ⟨l.attach.map fun x => ⟨x.1, hs.ok _ x.2⟩, by rw [List.map_map]; exact List.attach_map_subtype_val l⟩
  have hfl : ∀ m : List RtV, m.flatMap rvC = (m.map (·.1)).flatMap rtC := fun m => by rw [List.flatMap_map]; rfl
  unfold RowT at h ⊢
  rw [← hlv, ← hfl] at h
  refine (sortV_rt A n c lv (by rw [← hl, ← hlv, List.length_map]) hn w h).mono ?_
  rintro e w' ⟨rfl, l', hp, hpw, ho, hT⟩
  have e1 : l'.map (·.1) = l := by
    rw [← hlv] at hs ⊢
    have hst : (lv.map (·.1)).Pairwise fun r s : RtI => ltP r.1 s.1 := hs.srt
    have hp2 : (l'.map (·.1)).Perm (lv.map (·.1)) := hp.map _
    refine perm_strict (r := fun r s : RtI => ltP r.1 s.1) (fun x => ltP_irr x.1) (fun x y z => ltP_trans) hp2 ?_ hst
    -- in order, and no two alike
    have hnd : (l'.map (·.1)).Pairwise fun r s : RtI => ¬ r.1 = s.1 := by
      have h1 : (lv.map (·.1)).Pairwise fun r s : RtI => ¬ r.1 = s.1 := hst.imp (fun {a b} (hab : ltP a.1 b.1) (e : a.1 = b.1) => ltP_irr b.1 (by rw [e] at hab; exact hab))
      exact (List.Perm.pairwise_iff (fun {a b} hab e => hab e.symm) hp2).2 h1
    rw [List.pairwise_map] at hnd ⊢
    refine (hpw.and hnd).imp fun {a b} hab => ?_
    rcases ltP_tri a.1.1 b.1.1 with h1 | h1 | h1
    · exact h1
    · exact absurd h1 hab.2
    · have h2 : lessI b.1.1 a.1.1 = true := (PvOk.less b.2 a.2).2 h1
      have h3 := hab.1
      have h4 : cmpR b.1 a.1 = -1 := by unfold cmpR; rw [if_neg (fun e : b.1.1 = a.1.1 => hab.2 e.symm), if_pos h2]
      have h5 : decide (cmpR b.1 a.1 < 0) = false := h3
      rw [h4] at h5
      exact absurd h5 (by decide)
  refine ⟨rfl, ?_, hT⟩
  rw [← e1, ← hfl]
  exact ho
end Go.Proofs.YtgfkmgbcajdcdaaGreatDoor

namespace Go.Proofs.YtgfkmgbcajdcdaaGreatDoor
open Go.RowKit Ifs
set_option linter.unusedVariables false
set_option maxRecDepth 100000 in
set_option maxHeartbeats 4000000 in
theorem tabFind_any (p : Nat) (A0 A1 A2 A3 A4 : Option Addr) (n0 c0 n1 c1 n2 c2 n3 c3 n4 c4 : Nat) (s : Bool) (h l : Nat) (hh : N64 h) (hl : N64 l) (t : Int) (w : World) (hT : Blk w p 187 #[.slice A0 n0 c0, .slice A1 n1 c1, .slice A2 n2 c2, .slice A3 n3 c3, .slice A4 n4 c4])
    (hF : vld s (h : Int) (l : Int) = true → ∀ W, Tch w W [] → Calls Tryz.prog 73 #[bif s then .agg #[.slice A3 n3 c3, .slice A4 n4 c4] else .agg #[.slice A1 n1 c1, .slice A2 n2 c2], adr s (h : Int) (l : Int)] W fun e w' => e = .returned (.int .i64 t) ∧ Tch W w' []) :
    Calls Tryz.prog 31 #[.pointer (some ⟨p, 0, none⟩), adr s (h : Int) (l : Int)] w fun e w' => e = .returned (.int .i64 (if vld s (h : Int) (l : Int) = true then t else 0)) ∧ Tch w w' [] := by
  obtain ⟨v, hv⟩ : ∃ v, vld s (h : Int) (l : Int) = v := ⟨_, rfl⟩
  rw [hv] at hF ⊢
  obtain ⟨ab, hab⟩ : ∃ ab, w.heap.size = ab := ⟨_, rfl⟩
  obtain ⟨W0, hW0⟩ : ∃ W, w.alloc (.cells #[.bool s, .int .u64 (h : Int), .int .u64 (l : Int)] 28) = W := ⟨_, rfl⟩
  have HT0 : Hid (Tch w W0 []) := Lib.hid (hW0 ▸ (Tch.refl w []).alloc _)
  have HX := Lib.hid (fun W (hW : Tch W0 W []) => (hW.blk (show Blk W0 ab 28 #[.bool s, .int .u64 (h : Int), .int .u64 (l : Int)] from hW0 ▸ hab ▸ Blk.new w _ _) (by simp)).c3)
  have HV : Hid (∀ W, Calls Tryz.prog 71 #[adr s (h : Int) (l : Int)] W fun e w' => e = .returned (.bool v) ∧ Below W.heap.size W w') := Lib.hid (fun W => by have h9 := valid_any s (h : Int) (l : Int) W; rw [hv] at h9; exact h9)
  have HTr := Lib.hid (fun W (hW : Tch w W []) => ttrie_any p s A0 A1 A2 A3 A4 n0 c0 n1 c1 n2 c2 n3 c3 n4 c4 W (hW.blk hT (by simp)))
  have HF := Lib.hid hF
  have HW0 := Lib.hid (And.intro hW0 hab)
  clear hT hF hW0 hab hv
  obtain ⟨a0, a1, a2⟩ := HX.out W0 (Tch.refl _ _)
  go_enter Tryz.func31, Tryz.ntmps31
  go_wp2_with fail
  rw [HW0.out.1, HW0.out.2]
  go_wp2_with fail
  refine Calls.mono (HV.out W0) ?_
  rintro e w1 ⟨rfl, hb1⟩
  have HT1 : Hid (Tch W0 w1 []) := Lib.hid (Tch.of_below [] hb1)
  clear hb1 a0 a1 a2
  cases v with
  | false =>
    go_wp2
    go_ret
    exact ⟨by simp, HT0.out.trans HT1.out⟩
  | true =>
    have HC := Lib.hid (fun W (hW : Tch W0 W []) => show W.cell? ⟨ab, 0, none⟩ = some (Value.bool s) ∧ W.cell? ⟨ab, 1, none⟩ = some (Value.int .u64 (h : Int)) ∧ W.cell? ⟨ab, 2, none⟩ = some (Value.int .u64 (l : Int)) from HX.out W hW)
    have HT1d : Hid (Tch W0 w1.drew []) := Lib.hid HT1.out.drew
    have HC0 := Lib.hid (HC.out _ HT1d.out)
    go_wp2
    refine wp_region_held_drew (S := (fun W => W.cell? ⟨ab, 0, none⟩ = some (Value.bool s) ∧ W.cell? ⟨ab, 1, none⟩ = some (Value.int .u64 (h : Int)) ∧ W.cell? ⟨ab, 2, none⟩ = some (Value.int .u64 (l : Int)))) (by kernel_rfl) ?_ (fun hHeld => ?_)
    · (first | exact HC0.out | exact HC5.out | exact HC6.out)
    refine wpAnyH_take (i := 0) (oi := { dst := some 8, op := Go.Op.move (Go.Operand.tmp 0), type := 79, pos := "poptrie.go:87", after := #[], guard := none }) (v := ?_) rfl (by kernel_rfl) (by kernel_rfl) (by kernel_rfl) (fun _ _ _ h => h) (Or.inl ⟨by rfl, ?_⟩) (by assumption) ?_
    rotate_left
    · intro w hSw
      (try dsimp only at hSw)
      go_simp
      try (with_reducible rfl)
    try simp only [Act.put, List.setIfInBounds_toArray, List.set_cons_zero, List.set_cons_succ]
    refine wpAnyH_take (i := 1) (oi := { dst := some 9, op := Go.Op.fieldAddr 28 (Go.Operand.tmp 3) 0, type := 0, pos := "poptrie.go:87", after := #[], guard := none }) (v := ?_) rfl (by kernel_rfl) (by kernel_rfl) (by kernel_rfl) (fun _ _ _ h => h) (Or.inl ⟨by rfl, ?_⟩) (by assumption) ?_
    rotate_left
    · intro w hSw
      (try dsimp only at hSw)
      go_simp
      try (with_reducible rfl)
    try simp only [Act.put, List.setIfInBounds_toArray, List.set_cons_zero, List.set_cons_succ]
    refine wpAnyH_take (i := 2) (oi := { dst := some 10, op := Go.Op.load 4 (Go.Operand.tmp 9), type := 4, pos := "poptrie.go:87", after := #[{ on := 1, ground := Go.Ground.data }], guard := none }) (v := ?_) rfl (by kernel_rfl) (by kernel_rfl) (by kernel_rfl) (fun _ _ _ h => h) (Or.inl ⟨by rfl, ?_⟩) (by assumption) ?_
    rotate_left
    · intro w hSw
      (try dsimp only at hSw)
      go_simp
      try (with_reducible rfl)
    try simp only [Act.put, List.setIfInBounds_toArray, List.set_cons_zero, List.set_cons_succ]
    refine wpAnyH_take (i := 4) (oi := { dst := some 12, op := Go.Op.load 28 (Go.Operand.tmp 3), type := 28, pos := "poptrie.go:87", after := #[], guard := none }) (v := ?_) rfl (by kernel_rfl) (by kernel_rfl) (by kernel_rfl) (fun _ _ _ h => h) (Or.inl ⟨by rfl, ?_⟩) (by assumption) ?_
    rotate_left
    · intro w hSw
      (try dsimp only at hSw)
      go_simp
      try (with_reducible rfl)
    try simp only [Act.put, List.setIfInBounds_toArray, List.set_cons_zero, List.set_cons_succ]
    refine wpAnyH_ready (rs := [3]) (by kernel_rfl) (by simp) ?_
    refine AllReadyH.cons (o := { dst := some 11, op := Go.Op.call { callee := Go.Callee.value (Go.Operand.func 72), args := #[Go.Operand.tmp 8, Go.Operand.tmp 10], argTypes := #[79, 4] }, type := 149, pos := "poptrie.go:87", after := #[{ on := 0, ground := Go.Ground.data }, { on := 2, ground := Go.Ground.data }], guard := none }) rfl (fun K hK => ?_) AllReadyH.nil
    go_simp
    (go_at_call 72; (with_reducible refine Calls.mono (HTr.out _ (HT0.out.trans HT1d.out)) ?_); rintro e w5 ⟨rfl, hT5⟩; have HT5 : Hid (Tch W0 w5 []) := Lib.hid (HT1d.out.trans hT5); have HC5 := Lib.hid (HC.out w5 HT5.out); clear hT5)
    go_wp2_with fail
    refine hK.out _ _ ?_ (fun hHeld => ?_)
    · (first | exact HC0.out | exact HC5.out | exact HC6.out)
    clear hK K
    try simp only [Act.put, List.setIfInBounds_toArray, List.set_cons_zero, List.set_cons_succ]
    refine wpAnyH_ready (rs := [5]) (by kernel_rfl) (by simp) ?_
    refine AllReadyH.cons (o := { dst := some 13, op := Go.Op.call { callee := Go.Callee.value (Go.Operand.func 73), args := #[Go.Operand.tmp 11, Go.Operand.tmp 12], argTypes := #[149, 28] }, type := 3, pos := "poptrie.go:87", after := #[{ on := 3, ground := Go.Ground.data }, { on := 4, ground := Go.Ground.data }, { on := 3, ground := Go.Ground.chain }], guard := none }) rfl (fun K hK => ?_) AllReadyH.nil
    go_simp
    (go_at_call 73; (with_reducible refine Calls.mono (HF.out (by trivial) _ (HT0.out.trans HT5.out)) ?_); rintro e w6 ⟨rfl, hT6⟩; have HT6 : Hid (Tch W0 w6 []) := Lib.hid (HT5.out.trans hT6); have HC6 := Lib.hid (HC.out w6 HT6.out); clear hT6)
    go_wp2_with fail
    refine hK.out _ _ ?_ (fun hHeld => ?_)
    · (first | exact HC0.out | exact HC5.out | exact HC6.out)
    clear hK K
    try simp only [Act.put, List.setIfInBounds_toArray, List.set_cons_zero, List.set_cons_succ]
    refine wpAnyH_take (i := 6) (oi := { dst := some 4, op := Go.Op.assign (Go.Operand.tmp 13), type := 3, pos := "poptrie.go:87", after := #[{ on := 5, ground := Go.Ground.data }, { on := 5, ground := Go.Ground.chain }, { on := 0, ground := Go.Ground.phase }, { on := 1, ground := Go.Ground.phase }, { on := 2, ground := Go.Ground.phase }, { on := 3, ground := Go.Ground.phase }, { on := 4, ground := Go.Ground.phase }, { on := 5, ground := Go.Ground.phase }], guard := none }) (v := ?_) rfl (by kernel_rfl) (by kernel_rfl) (by kernel_rfl) (fun _ _ _ h => h) (Or.inl ⟨by rfl, ?_⟩) (by assumption) ?_
    rotate_left
    · intro w hSw
      (try dsimp only at hSw)
      go_simp
      try (with_reducible rfl)
    try simp only [Act.put, List.setIfInBounds_toArray, List.set_cons_zero, List.set_cons_succ]
    refine wpAnyH_done (by kernel_rfl) ?_ _
    go_wp2
    go_ret
    exact ⟨by simp, HT0.out.trans HT6.out⟩
end Go.Proofs.YtgfkmgbcajdcdaaGreatDoor

namespace Go.Proofs.YtgfkmgbcajdcdaaGreatDoor
open Go.RowKit Ifs
set_option linter.unusedVariables false
/-- A table in memory. -/
def TabI (w : World) (p : Nat) (l : List RtI) : Prop :=
  ∃ A n c A1 n1 c1 A2 n2 c2 A3 n3 c3 A4 n4 c4, Blk w p 187 #[.slice A n c, .slice A1 n1 c1, .slice A2 n2 c2, .slice A3 n3 c3, .slice A4 n4 c4] ∧ TriI w (famN l false) A1 n1 c1 A2 n2 c2 ∧ TriI w (famN l true) A3 n3 c3 A4 n4 c4
theorem TabI.tch {w w' : World} {p : Nat} {l : List RtI} (h : TabI w p l) (ht : Tch w w' []) : TabI w' p l := by
  obtain ⟨A, n, c, A1, n1, c1, A2, n2, c2, A3, n3, c3, A4, n4, c4, h1, h2, h3⟩ := h
  exact ⟨A, n, c, A1, n1, c1, A2, n2, c2, A3, n3, c3, A4, n4, c4, ht.blk h1 (by simp), h2.tch ht (fun s _ => by simp) (fun s _ => by simp), h3.tch ht (fun s _ => by simp) (fun s _ => by simp)⟩
set_option maxRecDepth 100000 in
set_option maxHeartbeats 4000000 in
theorem newPop_any (A : Option Addr) (n c : Nat) (l : List RtI) (hs : SrtR l) (hl : l.length = n) (hn : n ≤ 90) (hok : ∀ r ∈ l, 1 ≤ r.2 ∧ r.2 ≤ 65535) (w : World) (h : RowT w 0 A n c l) :
    Calls Tryz.prog 28 #[.slice A n c] w fun e w' => ∃ p, e = .returned (.tuple #[.pointer (some ⟨p, 0, none⟩), .int .i64 0]) ∧ TabI w' p l ∧ Tch w w' [] := by
  have H1 := Lib.hid (cont_wrong A n c l hl (by omega) (fun r hr => ⟨hs.ok r hr, hok r hr⟩) w h)
  have HR := Lib.hid (fun W (hW : Tch w W []) => own_tch h hW (by simp))
  have HS := Lib.hid hs
  have HL := Lib.hid (And.intro hl hn)
  clear h hs hl hn hok
  go_enter Tryz.func28, Tryz.ntmps28
  go_wp2_with fail
  refine Calls.mono H1.out ?_
  rintro e w1 ⟨rfl, hT1⟩
  have HT1 := Lib.hid hT1
  have H2 := Lib.hid (clone_rt A n c l (by have := HL.out; omega) w1 (HR.out w1 hT1))
  clear hT1 H1
  go_wp2_with fail
  refine Calls.mono H2.out ?_
  rintro e w2 ⟨A', c', rfl, hR2, hT2⟩
  have HR2 := Lib.hid hR2
  have HT2 := Lib.hid (HT1.out.trans hT2)
  have H3 := Lib.hid (sort_rt A' n c' l HS.out HL.out.1 (by have := HL.out; omega) w2 (own_zero hR2))
  have HGe : Hid (∀ s ∈ obI (.slice A' n c'), w.heap.size ≤ s) := Lib.hid (fun s hs => Nat.le_trans HT1.out.size (own_geI hR2 s hs).1)
  clear hR2 hT2 H2
  go_wp2_with fail
  refine Calls.mono H3.out ?_
  rintro e w3 ⟨rfl, hR3, hT3⟩
  have HR3 := Lib.hid hR3
  have HT3 := Lib.hid (HT2.out.trans_fre hT3 (fun s hs => .inr (HGe.out s hs)))
  have H4 := Lib.hid (twice_no A' n c' l HL.out.1 (by have := HL.out; omega) HS.out w3 hR3)
  clear hR3 hT3 H3
  go_wp2_with fail
  refine Calls.mono H4.out ?_
  rintro e w4 ⟨rfl, hT4⟩
  have HT4 := Lib.hid (HT3.out.trans hT4)
  have H5 := Lib.hid (newTable_any A' n c' l HS.out HL.out.1 HL.out.2 w4 (own_tch HR3.out hT4 (by simp)))
  clear hT4 H4
  go_wp2_with fail
  refine Calls.mono H5.out ?_
  rintro e w5 ⟨p, A1, n1, c1, A2, n2, c2, A3, n3, c3, A4, n4, c4, rfl, hB, hI1, hI2, hT5⟩
  have HE := Lib.hid (And.intro hB (And.intro hI1 (And.intro hI2 hT5)))
  clear hB hI1 hI2 hT5 H5
  go_wp2
  go_ret2
  exact ⟨p, rfl, ⟨A', n, c', A1, n1, c1, A2, n2, c2, A3, n3, c3, A4, n4, c4, HE.out.1, HE.out.2.1, HE.out.2.2.1⟩, HT4.out.trans HE.out.2.2.2⟩
/-- What Find finds in a table of numbered entries. -/
theorem tabFind_tab {p : Nat} {l : List RtI} (hs : SrtR l) {w : World} (h : TabI w p l) (s : Bool) (ah al : Nat) (hh : N64 ah) (hl : N64 al) :
    Calls Tryz.prog 31 #[.pointer (some ⟨p, 0, none⟩), adr s (ah : Int) (al : Int)] w fun e w' => e = .returned (.int .i64 (if vld s (ah : Int) (al : Int) = true then valN (famN l s) 0 (numA (s, ah, al)) else 0)) ∧ Tch w w' [] := by
  obtain ⟨A, n, c, A1, n1, c1, A2, n2, c2, A3, n3, c3, A4, n4, c4, h1, h2, h3⟩ := h
  refine tabFind_any p A A1 A2 A3 A4 n c n1 c1 n2 c2 n3 c3 n4 c4 s ah al hh hl _ w h1 (fun hv W hW => ?_)
  have hm : ∀ r ∈ famN l s, r.m < 2 ^ 132 := fun r hr => by
    obtain ⟨x, hx, rfl⟩ := List.mem_map.1 hr
    exact numA_lt (hs.ok x (List.mem_filter.1 hx).1).ad
  cases s with
  | true =>
    obtain ⟨N, P, LV, q1, q2, q3, q4, q5, q6, q7, q8, q9⟩ := h3
    exact tfind_any A3 A4 n3 c3 n4 c4 N P LV ⟨0, 0, famN l true⟩ q1 q2 rfl q3 q4 q5 q6 q7 true ah al ⟨hv, hh, hl⟩ hm W (own_tch q8 hW (by simp)) (own_tch q9 hW (by simp))
  | false =>
    obtain ⟨N, P, LV, q1, q2, q3, q4, q5, q6, q7, q8, q9⟩ := h2
    exact tfind_any A1 A2 n1 c1 n2 c2 N P LV ⟨0, 0, famN l false⟩ q1 q2 rfl q3 q4 q5 q6 q7 false ah al ⟨hv, hh, hl⟩ hm W (own_tch q8 hW (by simp)) (own_tch q9 hW (by simp))
end Go.Proofs.YtgfkmgbcajdcdaaGreatDoor

namespace Go.Proofs.YtgfkmgbcajdcdaaGreatDoor
open Go.RowKit Go.ChangeShapes Go.WideShapes
set_option linter.unusedVariables false

theorem gDist : Tryz.prog.globalNamed "crossway/rib.distances" = some 0 := by kernel_rfl
theorem tDist : (Tryz.prog.globals[0]?).map (·.type) = some 255 := by kernel_rfl
def distA : List Int := [0, 1, 20, 110, 120]
theorem distA_at (j : Nat) (hj : j < 5) : (distA.map fun z => Value.int .i64 z)[j]? = some (.int .i64 (distT.getD j 0)) := by
  rcases (show j = 0 ∨ j = 1 ∨ j = 2 ∨ j = 3 ∨ j = 4 by omega) with rfl | rfl | rfl | rfl | rfl
  all_goals rfl
theorem envR_of {W : World} (hL : laidMet Tryz.prog [("crossway/rib.distances", Rows.laid_crossway_rib_distances)] W) : EnvR W := by
  have h : Lib.TabIs Tryz.prog W "crossway/rib.distances" .i64 distA := Lib.tabIs_of_head gDist tDist Tryz.underlying255 Tryz.underlying3 (by kernel_rfl) (by kernel_rfl) (rest := []) hL
  intro j hj
  have hc := World.var?_cell gDist h j
  rw [show (⟨0, j, none⟩ : Addr) = ⟨0, j, none⟩ from rfl, hc]
  have := distA_at j hj
  simpa using this
end Go.Proofs.YtgfkmgbcajdcdaaGreatDoor
