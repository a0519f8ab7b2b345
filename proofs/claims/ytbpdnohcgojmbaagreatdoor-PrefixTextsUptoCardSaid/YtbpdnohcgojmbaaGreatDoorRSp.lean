/-
  The document's own Split of any text of at most 2^42 bytes: the parts, in a row of the call's own.
-/
import Derived.Test.YtbpdnohcgojmbaaGreatDoorRSx
import Derived.Test.YtbpdnohcgojmbaaGreatDoorAppk
import Derived.StillTailTactics
import Derived.Deep.RegionLaw
import Derived.Deep.RegionHeld
namespace Go.Proofs.YtbpdnohcgojmbaaGreatDoor
open Go.RowKit
set_option linter.unusedVariables false

/-- Texts as cells. -/
def txl (ps : List (List UInt8)) : List Value := ps.map fun l => .string ⟨l.toArray⟩
theorem txl_snoc (ps : List (List UInt8)) (x : List UInt8) : txl (ps ++ [x]) = txl ps ++ [.string ⟨x.toArray⟩] := by simp [txl]
theorem infoTx : (Tryz.prog.info? 9).map (fun i => (i.zero, i.size, i.bytes)) = some (some (.string ⟨#[]⟩), 1, 16) := by kernel_rfl
theorem ext_part (s : ByteArray) (f i : Nat) : s.extract f i = ⟨((s.data.toList.drop f).take (i - f)).toArray⟩ := by
  apply ByteArray.ext
  apply Array.ext'
  simp [ByteArray.data_extract, List.extract_eq_take_drop]

/-- 'append' of one text onto a row of the call's own. -/
theorem wpList_apps (w : World) {ops : Array Oper} {rest : List Oper} {o : Oper} {a : Act} {Q : Exit → Act → World → Prop} (hgd : o.guard = none) (s x : Operand)
    (ho : o.op = .call { callee := .builtin .append, args := #[s, x], argTypes := #[63, 63] })
    (base : Nat) (v : Value) (ps : List (List UInt8)) (n : Nat) (hs : a.eval s = v) (hown : w.ownsRow base 9 1 v n (txl ps))
    (g : Nat) (d : ByteArray) (y : List UInt8) (hy : d = ⟨y.toArray⟩) (hx : a.eval x = .slice (some ⟨g, 0, none⟩) 1 1)
    (hc : w.cell? ⟨g, 0, none⟩ = some (.string d)) (hsz : n + 1 ≤ 5000000000000) (hbase : base ≤ w.heap.size)
    (h : ∀ v' w', w'.ownsRow base 9 1 v' (n + 1) (txl (ps ++ [y])) → w.grownBy w' v.ownBlock → wpList Tryz.prog ops Q rest (a.put o.dst v') w') :
    wpList Tryz.prog ops Q (o :: rest) a w := by
  obtain ⟨i0, hi, hz0, hz1, hz2⟩ := info_parts infoTx
  subst hy
  refine wpList_append_own_at w hgd s x 63 ho base 9 i0 (.string ⟨#[]⟩) 1 16 Tryz.underlying63 hi hz0 hz1 hz2 rfl (by decide) v n _ hs hown ⟨g, 0, none⟩ 1 1 [.string ⟨y.toArray⟩] hx rfl ?_ ?_ (by unfold maxLen; omega) (by omega) hbase ?_
  · intro j u hj
    rcases j with _ | j
    · simp at hj; subst hj; simpa [Addr.add] using hc
    · simp at hj
  · intro u hu
    rw [List.mem_singleton] at hu; subst hu; rfl
  · intro v' w' h1 h2 _ _
    exact h v' w' (by rw [txl_snoc]; exact h1) h2

/-- A slice of texts that reads as P. -/
def TI (w : World) (B : Nat) (A : Option Addr) (n : Nat) (P : List (List UInt8)) : Prop :=
  P.length = n ∧ (0 < n → ∃ g o, A = some ⟨g, o, none⟩ ∧ g < B ∧ ∀ j l, P[j]? = some l → w.cell? ⟨g, o + j, none⟩ = some (.string ⟨l.toArray⟩))
theorem TI.below {w w' : World} {B n : Nat} {A : Option Addr} {P : List (List UInt8)} (h : TI w B A n P) (hb : Below B w w') : TI w' B A n P :=
  ⟨h.1, fun h0 => by
    obtain ⟨g, o, e, hg, hc⟩ := h.2 h0
    exact ⟨g, o, e, hg, fun j l hj => (hb.cell (p := ⟨g, o + j, none⟩) hg).trans (hc j l hj)⟩⟩
theorem own_ti {w : World} {base n : Nat} {P : List (List UInt8)} {v : Value} (hown : w.ownsRow base 9 1 v n (txl P)) :
    ∃ A c, v = .slice A n c ∧ TI w w.heap.size A n P ∧ (∀ x, A = some x → base ≤ x.block) ∧ n ≤ c ∧ c ≤ 9223372036854775807 := by
  have hl : P.length = n := by have := hown.1; simpa [txl] using this
  rcases hown.2 with ⟨rfl, rfl⟩ | ⟨g, cap, cur, rfl, h1, h2, h3, h4, h5, h6⟩
  · exact ⟨none, 0, rfl, ⟨hl, fun h => absurd h (by decide)⟩, (fun _ h => by cases h), Nat.le_refl _, by decide⟩
  · have hb : Blk w g 9 cur := h2
    refine ⟨some ⟨g, 0, none⟩, cap, rfl, ⟨hl, fun _ => ⟨g, 0, rfl, hb.lt, fun j z hz => ?_⟩⟩, (fun x hx => by injection hx with hx; rw [← hx]; exact h1), by omega, h4⟩
    rw [Nat.zero_add, hb.cell]
    have hj : j < n := by rw [← hl]; exact (List.getElem?_eq_some_iff.1 hz).1
    have e : (cur.toList.take (n * 1))[j]? = some (.string ⟨z.toArray⟩) := by rw [h6, txl, List.getElem?_map, hz]; rfl
    rw [List.getElem?_take, if_pos (by omega)] at e
    simpa using e
def SplOut (w : World) (P : List (List UInt8)) (e : Ending) (w' : World) : Prop :=
  ∃ A c, e = .returned (.slice A P.length c) ∧ TI w' w'.heap.size A P.length P ∧ (∀ x, A = some x → w.heap.size ≤ x.block) ∧ Below w.heap.size w w'

set_option maxRecDepth 100000 in
set_option maxHeartbeats 4000000 in
theorem rsplit_any (s : ByteArray) (hs : s.size ≤ 1000000000) (c : UInt8) (C : Int) (hC : (c.toNat : Int) = C) (w : World) :
    Calls Tryz.prog 38 #[.string s, .int .u8 C] w (SplOut w (spl c s.data.toList)) := by
  obtain ⟨L, hL⟩ : ∃ L, s.data.toList = L := ⟨_, rfl⟩
  have hl : L.length = s.size := by rw [← hL]; exact (Lib.size_eq s).symm
  have HG : Hid (∀ k (h : k < s.size), L[k]? = some s[k]) := Lib.hid (fun k h => by
    rw [← hL, List.getElem?_eq_getElem (by rw [hL, hl]; exact h)]; rfl)
  have HE : Hid (∀ f i, s.extract f i = ⟨((L.drop f).take (i - f)).toArray⟩) := Lib.hid (fun f i => by rw [ext_part, hL])
  rw [hL]
  obtain ⟨P, hP⟩ : ∃ P, spl c L = P := ⟨_, rfl⟩
  rw [hP]
  have HC := Lib.hid hC
  have HL := Lib.hid hl
  have HP := Lib.hid hP
  clear hL hP hC hl
  go_enter Tryz.func38, Tryz.ntmps38
  go_wp2
  go_loopw [5, 6, 7] (fun v f i wr => ∃ (n F I : Nat) (D : List (List UInt8)), f = .int .i64 (F : Int) ∧ i = .int .i64 (I : Int) ∧ F ≤ I ∧ I ≤ s.size + 1 ∧ n ≤ F ∧ Hid (wr.ownsRow w.heap.size 9 1 v n (txl D) ∧ Below w.heap.size w wr ∧ (I ≤ s.size → c ∉ (L.drop F).take (I - F) ∧ D ++ spl c (L.drop F) = P) ∧ (s.size < I → D = P))) (fun _ _ i _ => (s.size + 1 - (intOf i).toNat))
  case atStart => exact ⟨0, 0, 0, [], rfl, rfl, by omega, by omega, by omega, Lib.hid ⟨⟨by simp [txl], .inl ⟨rfl, rfl⟩⟩, Below.refl _ _, fun _ => ⟨by simp, by simpa using HP.out⟩, fun h => by omega⟩⟩
  case round =>
    obtain ⟨n, F, I, D, rfl, rfl, hFI, hI, hnF, hH⟩ := hrel
    by_cases hlt : I ≤ s.size
    · obtain ⟨hn, hD⟩ := hH.out.2.2.1 hlt
      have hIs : (I : Int) ≤ s.size := by omega
      have hFs : (F : Int) ≤ I := by omega
      have hF0 : (0 : Int) ≤ F := by omega
      have hw1 : IntKind.i64.wrap ((I : Int) + 1) = (I : Int) + 1 := by rw [IntKind.wrap_i64]; omega
      by_cases hend : I = s.size
      · have hq : ((s.size : Int) == (s.size : Int)) = true := by simp
        have hPP : D ++ [(L.drop F).take (I - F)] = P := by
          rw [← hD, spl_done hFI (by rw [HL.out]; exact hend) hn]
        have HPP := Lib.hid hPP
        clear hn hD hPP
        subst hend
        go_wp2_with (at_builtin; refine wpList_apps _ rfl (.tmp 25) (.tmp 30) rfl w.heap.size u5 D n rfl (hH.out.1.alloc _) wr.heap.size (s.extract F s.size) _ (HE.out F s.size) rfl ((Blk.new _ _ _).cell 0) (by omega) (by simp only [World.size_alloc]; have := hH.out.2.1.size; omega) ?_; intro v2 w2 ho2 hg2; have HO2 := Lib.hid ho2; have HG2 := Lib.hid hg2; clear ho2 hg2)
        go_roundw
        case rel => exact ⟨n + 1, s.size + 1, s.size + 1, D ++ [(L.drop F).take (s.size - F)], by go_num, by go_num, by omega, by omega, by omega, Lib.hid ⟨HO2.out, (hH.out.2.1.alloc hH.out.2.1.size _).grown HG2.out (by have := hH.out.2.1.size; simp only [World.size_alloc]; omega) (fun k hk => own_basek hH.out.1 k hk), fun h => by omega, fun _ => HPP.out⟩⟩
        case measure => simp [intOf] <;> omega
      · have hlt2 : I < s.size := by omega
        have hlt3 : (I : Int) < s.size := by omega
        have hq : ((I : Int) == (s.size : Int)) = false := by simp; omega
        have hget := HG.out I hlt2
        by_cases hc : s[I] = c
        · have hq2 : ((s[I].toNat : Int) == C) = true := by rw [hc, HC.out]; simp
          rw [hc] at hget
          have hPP : (D ++ [(L.drop F).take (I - F)]) ++ spl c (L.drop (I + 1)) = P := by
            rw [← hD, spl_stop hFI hget hn]; simp
          have HPP := Lib.hid hPP
          clear hn hD hPP hget hc
          go_wp2_with (at_builtin; refine wpList_apps _ rfl (.tmp 25) (.tmp 30) rfl w.heap.size u5 D n rfl (hH.out.1.alloc _) wr.heap.size (s.extract F I) _ (HE.out F I) rfl ((Blk.new _ _ _).cell 0) (by omega) (by simp only [World.size_alloc]; have := hH.out.2.1.size; omega) ?_; intro v2 w2 ho2 hg2; have HO2 := Lib.hid ho2; have HG2 := Lib.hid hg2; clear ho2 hg2)
          go_roundw
          case rel => exact ⟨n + 1, I + 1, I + 1, D ++ [(L.drop F).take (I - F)], by go_num, by go_num, by omega, by omega, by omega, Lib.hid ⟨HO2.out, (hH.out.2.1.alloc hH.out.2.1.size _).grown HG2.out (by have := hH.out.2.1.size; simp only [World.size_alloc]; omega) (fun k hk => own_basek hH.out.1 k hk), fun _ => ⟨by simp, HPP.out⟩, fun h => by omega⟩⟩
          case measure => simp [intOf]; omega
        · have hq2 : ((s[I].toNat : Int) == C) = false := by
            rw [← HC.out, beq_eq_false_iff_ne]
            intro e
            exact hc (UInt8.toNat_inj.1 (by omega))
          have HN := Lib.hid (spl_more hFI hget hc hn)
          have HD := Lib.hid hD
          clear hn hD hget hc
          go_wp2
          go_roundw
          case rel => exact ⟨n, F, I + 1, D, rfl, by go_num, by omega, by omega, by omega, Lib.hid ⟨hH.out.1, hH.out.2.1, fun _ => ⟨HN.out, HD.out⟩, fun h => by omega⟩⟩
          case measure => simp [intOf]; omega
    · have hge : ¬ (I : Int) ≤ s.size := by omega
      obtain rfl : D = P := hH.out.2.2.2 (by omega)
      go_wp2
      go_ret
      obtain ⟨A2, c2, rfl, q1, q3, -⟩ := own_ti hH.out.1
      have hDl : D.length = n := q1.1
      subst hDl
      exact ⟨A2, c2, rfl, q1, q3, hH.out.2.1⟩
end Go.Proofs.YtbpdnohcgojmbaaGreatDoor
