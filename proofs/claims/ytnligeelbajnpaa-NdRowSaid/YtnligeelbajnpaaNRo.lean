/-
  The document's own Options of layer 9: any text.
-/
import Derived.Test.YtnligeelbajnpaaNNum
import Derived.Test.YtnligeelbajnpaaENum
import Derived.Test.YtnligeelbajnpaaAppk
import Derived.Test.YtnligeelbajnpaaMake
import Derived.Deep.RegionLaw
import Derived.Deep.RegionHeld3
import Derived.Lib.Strings
namespace Go.Proofs.Ytnligeelbajnpaa
open Go.RowKit
set_option linter.unusedVariables false

/-- An option's cells. -/
def ncell (x : Opt9) : List Value := [.int .i64 (x.1.toNat : Int), .string ⟨x.2.toArray⟩]
def ncells (l : List Opt9) : List Value := l.flatMap ncell
theorem ncells_snoc (l : List Opt9) (x : Opt9) : ncells (l ++ [x]) = ncells l ++ ncell x := by simp [ncells]
theorem infoOpt9 : (Try.prog.info? 43).map (fun i => (i.zero, i.size, i.bytes)) = some (some (.agg #[.int .i64 0, .string ⟨#[]⟩]), 2, 24) := by kernel_rfl
/-- 'append' of one option onto a row of the call's own, as a step of a region in an open order. -/
theorem step_appn {ops : Array Oper} {o : Oper} {a : Act} {w : World} {K : Act → World → Prop} {Q : Exit → Act → World → Prop} {E : Prop}
    (hg : o.guard = none) (s x : Operand) (hop : o.op = Op.call { callee := Callee.builtin Builtin.append, args := #[s, x], argTypes := #[38, 38] })
    (base : Nat) (v : Value) (l : List Opt9) (n : Nat) (hn : l.length = n) (hs : a.eval s = v) (hown : w.ownsRow base 43 2 v n (ncells l))
    (g : Nat) (k : Int) (d : ByteArray) (y : Opt9) (hy : ncell y = [.int .i64 k, .string d]) (hx : a.eval x = .slice (some ⟨g, 0, none⟩) 1 1)
    (hc0 : w.cell? ⟨g, 0, none⟩ = some (.int .i64 k)) (hc1 : w.cell? ⟨g, 1, none⟩ = some (.string d)) (hsz : n + 1 ≤ 5000000000000) (hbase : base ≤ w.heap.size)
    (hK : ∀ v' w', w'.ownsRow base 43 2 v' (n + 1) (ncells (l ++ [y])) → w.grownBy w' v.ownBlock → K (a.put o.dst v') w') :
    if Region.wanted o (yielded ops a.tmps) = true then Oper.wp Try.prog o a w K Q else E := by
  have hw : Region.wanted o (yielded ops a.tmps) = true := by simp [Region.wanted, hg]
  rw [if_pos hw]
  obtain ⟨i0, hi, hz0, hz1, hz2⟩ := info_parts infoOpt9
  obtain ⟨v', w', hrun, r1, r2, -, -⟩ := run_append_own_at (P := Try.prog) w base 38 o.type 43 i0 (.agg #[.int .i64 0, .string ⟨#[]⟩]) 2 24 Try.underlying38 hi hz0 hz1 hz2 rfl (by decide) v n _ hown ⟨g, 0, none⟩ 1 1 (ncell y) rfl (fun j u hj => by
    rw [hy] at hj
    rcases j with _ | _ | j
    · simp at hj; subst hj; simpa [Addr.add] using hc0
    · simp at hj; subst hj; simpa [Addr.add] using hc1
    · simp at hj) (fun u hu => by
      rw [hy] at hu
      simp at hu
      rcases hu with rfl | rfl <;> rfl) (by unfold maxLen; omega) (by omega) hbase
  unfold Oper.wp
  simp [execOp, hop, resolve, invoke, builtin, hs, hx, hrun, Result.andThen]
  exact hK v' w' (by rw [ncells_snoc]; exact r1) r2
/-- So many were read ahead of what is read on. -/
def glueO (l : List Opt9) (r : List Opt9 × Int) : List Opt9 × Int := if r.2 = 0 then (l ++ r.1, 0) else ([], r.2)
theorem glueO_cons (l : List Opt9) (x : Opt9) (r : List Opt9 × Int) : glueO l (consO x r) = glueO (l ++ [x]) r := by
  unfold glueO
  rw [consO_two]
  split
  · rename_i h; unfold consO; rw [if_pos h]; simp
  · rfl
theorem glueO_nil (r : List Opt9 × Int) (h : r.2 ≠ 0 → r.1 = []) : glueO [] r = r := by
  unfold glueO
  split
  · rename_i h0; exact Prod.ext rfl h0.symm
  · rename_i h0; exact Prod.ext (h h0).symm rfl
/-- What Options answers: a row of the call's own, and a number. -/
def OpOut (w : World) (r : List Opt9 × Int) (e : Ending) (w' : World) : Prop :=
  ∃ v, e = .returned (.tuple #[v, .int .i64 r.2]) ∧ w'.ownsRow w.heap.size 43 2 v r.1.length (ncells r.1) ∧ Below w.heap.size w w'
theorem nown_form {w : World} {R n : Nat} {t : TypeId} {v : Value} {xs : List Value} (h : w.ownsRow R t 2 v n xs) : ∃ a c, v = .slice a n c := by
  rcases h.2 with ⟨hv, h0⟩ | ⟨g, cap, cur, hv, _⟩
  · exact ⟨none, 0, by rw [hv, h0]⟩
  · exact ⟨_, _, hv⟩

set_option maxRecDepth 100000 in
set_option maxHeartbeats 16000000 in
theorem roptions_any (s : ByteArray) (hs : s.size ≤ 4000000000000) (w : World) :
    Calls Try.prog 14 #[.string s] w (OpOut w (ops s.data.toList)) := by
  obtain ⟨L, hL⟩ : ∃ L, s.data.toList = L := ⟨_, rfl⟩
  have HLn : Hid (L.length = s.size) := Lib.hid (by rw [← hL]; exact (Lib.size_eq s).symm)
  have HEx : Hid (∀ i k, s.extract i k = ⟨((L.take k).drop i).toArray⟩) := Lib.hid fun i k => by
    apply ByteArray.ext
    rw [← hL]
    apply Array.toList_inj.1
    rw [ByteArray.data_extract, Array.toList_extract, List.extract_eq_take_drop, List.drop_take]
  have HAt : Hid (∀ i (h : i < s.size), L[i]? = some (s[i]'h)) := Lib.hid fun i h => by
    rw [← hL, List.getElem?_eq_getElem (by rw [Array.length_toList]; exact h)]; rfl
  have HS := Lib.hid hs
  rw [hL]
  obtain ⟨R, hR⟩ : ∃ R, ops L = R := ⟨_, rfl⟩
  rw [hR]
  have HG0 : Hid (glueO [] (ops (L.drop 0)) = R) := Lib.hid (by rw [List.drop_zero, hR, glueO_nil]; intro h; rw [← hR] at h ⊢; exact ops_bad _ h)
  have HBad : Hid (∀ W : World, Below w.heap.size w W → ∀ e : Int, R = ([], e) → OpOut w R (.returned (.tuple #[.slice none 0 0, .int .i64 e])) W) := Lib.hid fun W hb e he => by
    rw [he]; exact ⟨_, rfl, ⟨rfl, .inl ⟨rfl, rfl⟩⟩, hb⟩
  clear hL hR hs
  go_enter Try.func14, Try.ntmps14
  go_wp2
  go_loopw [4, 5] (fun v i wr => ∃ (p n : Nat) (l : List Opt9), i = .int .i64 (p : Int) ∧ p ≤ s.size ∧ l.length = n ∧ n ≤ p ∧ Hid (wr.ownsRow w.heap.size 43 2 v n (ncells l) ∧ Below w.heap.size w wr ∧ glueO l (ops (L.drop p)) = R)) (fun _ i _ => (s.size - (intOf i).toNat))
  case atStart => exact ⟨0, 0, [], rfl, Nat.zero_le _, rfl, Nat.le_refl _, Lib.hid ⟨⟨rfl, .inl ⟨rfl, rfl⟩⟩, Below.refl _ _, HG0.out⟩⟩
  case round =>
    obtain ⟨p, n, l, rfl, hp, hn, hnp, hH⟩ := hrel
    obtain ⟨A0, c0, rfl⟩ := nown_form hH.out.1
    have HN := Lib.hid hn
    have HP := Lib.hid (And.intro hp hnp)
    clear hn
    have hsz := HS.out
    have hw1 : IntKind.i64.wrap ((p : Int) + 1) = (p : Int) + 1 := by rw [IntKind.wrap_i64]; omega
    have hw2 : IntKind.i64.wrap ((p : Int) + 2) = (p : Int) + 2 := by rw [IntKind.wrap_i64]; omega
    by_cases hlt : p < s.size
    · have d1 : (p : Int) < s.size := by omega
      by_cases hlone : p + 1 = s.size
      · have HB : Hid (R = ([], 81)) := Lib.hid (by
          rw [← hH.out.2.2, ops_at_lone (by rw [HLn.out]; omega)]; rfl)
        have d2 : ((p : Int) + 1 == (s.size : Int)) = true := by simp; omega
        clear hlone hlt hp hnp hsz
        go_wp2
        exact bodyPost_ret (v := .tuple #[.slice none 0 0, .int .i64 81]) (by simp [results, Try.results14, go_sem]) rfl (HBad.out _ hH.out.2.1 _ HB.out)
      · have d2 : ¬ (p : Int) + 1 = s.size := by omega
        have h1 : p + 1 < s.size := by omega
        have hk := HAt.out p hlt
        have hn1 := HAt.out (p + 1) h1
        have hst := ops_at_two hk hn1
        obtain ⟨m, hm⟩ : ∃ m, (s[p + 1]'h1).toNat = m := ⟨_, rfl⟩
        obtain ⟨k, hk0⟩ : ∃ k, (s[p]'hlt).toNat = k := ⟨_, rfl⟩
        have hMn := UInt8.toNat_lt (s[p + 1]'h1)
        have hKn := UInt8.toNat_lt (s[p]'hlt)
        rw [hm] at hst hMn
        rw [hk0] at hKn
        obtain ⟨E, hE⟩ : ∃ E, p + 8 * m = E := ⟨_, rfl⟩
        rw [hE] at hst
        have hw3 : IntKind.i64.wrap (m : Int) = m := by rw [IntKind.wrap_i64]; omega
        have hw4 : IntKind.i64.wrap (8 * (m : Int)) = 8 * (m : Int) := by rw [IntKind.wrap_i64]; omega
        have hw5 : IntKind.i64.wrap ((p : Int) + 8 * (m : Int)) = (E : Int) := by rw [IntKind.wrap_i64]; omega
        have hw6 : IntKind.i64.wrap (k : Int) = k := by rw [IntKind.wrap_i64]; omega
        have hpi1 : (p : Int) + 1 < s.size := by omega
        have hp0 : (0 : Int) ≤ (p : Int) := by omega
        have hp1 : (0 : Int) ≤ (p : Int) + 1 := by omega
        have hnn : ((p : Int) + 1).toNat = p + 1 := by omega
        by_cases hz : m = 0
        · have HB : Hid (R = ([], 80)) := Lib.hid (by rw [← hH.out.2.2, hst, if_pos hz]; rfl)
          have d3 : ((E : Int) == (p : Int)) = true := by simp; omega
          clear hst hk hn1 hz hE hlone hMn hKn hp hnp hsz
          go_wp2
          exact bodyPost_ret (v := .tuple #[.slice none 0 0, .int .i64 80]) (by simp [results, Try.results14, go_sem]) rfl (HBad.out _ hH.out.2.1 _ HB.out)
        have d3 : ((E : Int) == (p : Int)) = false := by simp; omega
        by_cases hlong : s.size < E
        · have HB : Hid (R = ([], 81)) := Lib.hid (by rw [← hH.out.2.2, hst, if_neg hz, if_pos (by rw [HLn.out]; exact hlong)]; rfl)
          have d4 : (s.size : Int) < E := by omega
          clear hst hk hn1 hz hE hlone hMn hKn hp hnp hsz hlong
          go_wp2
          exact bodyPost_ret (v := .tuple #[.slice none 0 0, .int .i64 81]) (by simp [results, Try.results14, go_sem]) rfl (HBad.out _ hH.out.2.1 _ HB.out)
        · have d4 : ¬ (s.size : Int) < E := by omega
          have hRn : glueO (l ++ [(s[p]'hlt, (L.take E).drop (p + 2))]) (ops (L.drop E)) = R := by
            rw [← hH.out.2.2, hst, if_neg hz, if_neg (by rw [HLn.out]; exact hlong), glueO_cons]
          have HRN := Lib.hid hRn
          obtain ⟨dd, hdd⟩ : ∃ dd, s.extract (p + 2) E = dd := ⟨_, rfl⟩
          have HDD : Hid (dd = ⟨((L.take E).drop (p + 2)).toArray⟩) := Lib.hid (by rw [← hdd, HEx.out])
          have HKK : Hid ((k : Int) = ((s[p]'hlt).toNat : Int)) := Lib.hid (by rw [hk0])
          have HEE : Hid (p < E ∧ E ≤ s.size) := Lib.hid (by omega)
          have i1 : (p : Int) + 2 ≤ E := by omega
          have i2 : (E : Int) ≤ s.size := by omega
          have i3 : (0 : Int) ≤ (p : Int) + 2 := by omega
          have i4 : ((p : Int) + 2).toNat = p + 2 := by omega
          have i5 : (0 : Int) ≤ (E : Int) := by omega
          have HY : Hid (ncell (s[p]'hlt, (L.take E).drop (p + 2)) = [.int .i64 (k : Int), .string dd]) := Lib.hid (by unfold ncell; rw [HKK.out, HDD.out])
          have n0 := Blk.new wr.drew 43 #[.int .i64 (k : Int), .string dd]
          have HN0 := Lib.hid ((n0.cell 0).trans (show _ = some (Value.int .i64 (k : Int)) by rfl))
          have HN1 := Lib.hid ((n0.cell 1).trans (show _ = some (Value.string dd) by rfl))
          clear hst hk hn1 hz hE hlone hMn hKn hp hnp hsz hlong hRn n0
          go_wp2
          go_region_law (refine step_appn rfl (.tmp 31) (.tmp 42) rfl w.heap.size (.slice A0 n c0) l n HN.out (by simp [Act.eval]) (hH.out.1.drew.alloc _) wr.heap.size (k : Int) dd (s[p]'hlt, (L.take E).drop (p + 2)) HY.out (by simp [Act.eval]) HN0.out HN1.out (by have := HP.out; have := HS.out; omega) (by have := hH.out.2.1.size; simp; omega) ?_; intro v2 w2 hown2 hg2; have HOW := Lib.hid hown2; have HG2 := Lib.hid hg2; clear hown2 hg2)
          all_goals
            go_wp2
            go_roundw
            case rel => exact ⟨E, n + 1, l ++ [(s[p]'hlt, (L.take E).drop (p + 2))], rfl, HEE.out.2, by rw [List.length_append, HN.out]; rfl, by have := HP.out; have := HEE.out; omega, Lib.hid ⟨HOW.out, (hH.out.2.1.drew.alloc (by have := hH.out.2.1.size; simp; omega) _).grown HG2.out (by have := hH.out.2.1.size; simp; omega) (fun k hk => own_basek hH.out.1 k hk), HRN.out⟩⟩
            case measure => simp [intOf]; have := HEE.out; omega
    · have d1 : ¬ (p : Int) < s.size := by omega
      have hR2 : R = (l, 0) := by
        rw [← hH.out.2.2, ops_at_end (by rw [HLn.out]; omega)]
        unfold glueO
        rw [if_pos rfl, List.append_nil]
      have HB := Lib.hid hR2
      clear hlt hp hnp hsz hR2
      go_wp2
      refine bodyPost_ret (v := .tuple #[.slice A0 n c0, .int .i64 0]) (by simp [results, Try.results14, go_sem]) rfl ?_
      rw [HB.out]
      exact ⟨_, rfl, by have := HN.out; subst this; exact hH.out.1, hH.out.2.1⟩
end Go.Proofs.Ytnligeelbajnpaa
