/-
  The document's own Options of any text of at most 2^42 bytes.
-/
import Derived.Test.YtbhddodghbhjiaaFOpt
import Derived.Deep.RegionLaw
import Derived.Deep.RegionHeld3
namespace Go.Proofs.Ytbhddodghbhjiaa
open Go.RowKit
set_option linter.unusedVariables false

/-- 'append' of one option onto a row of the call's own, as a step of a region in an open order. -/
theorem step_appo {ops : Array Oper} {o : Oper} {a : Act} {w : World} {K : Act → World → Prop} {Q : Exit → Act → World → Prop} {E : Prop}
    (hg : o.guard = none) (s x : Operand) (hop : o.op = Op.call { callee := Callee.builtin Builtin.append, args := #[s, x], argTypes := #[52, 52] })
    (base : Nat) (v : Value) (os : List (List UInt8)) (n : Nat) (hn : os.length = n) (hs : a.eval s = v) (hown : w.ownsRow base 57 2 v n (ocells os))
    (g : Nat) (k : Int) (d : ByteArray) (y : List UInt8) (hy : ocell y = [.int .i64 k, .string d]) (hx : a.eval x = .slice (some ⟨g, 0, none⟩) 1 1)
    (hc0 : w.cell? ⟨g, 0, none⟩ = some (.int .i64 k)) (hc1 : w.cell? ⟨g, 1, none⟩ = some (.string d)) (hsz : n + 1 ≤ 5000000000000) (hbase : base ≤ w.heap.size)
    (hK : ∀ v' w', w'.ownsRow base 57 2 v' (n + 1) (ocells (os ++ [y])) → w.grownBy w' v.ownBlock → K (a.put o.dst v') w') :
    if Region.wanted o (yielded ops a.tmps) = true then Oper.wp Try.prog o a w K Q else E := by
  have hw : Region.wanted o (yielded ops a.tmps) = true := by simp [Region.wanted, hg]
  rw [if_pos hw]
  obtain ⟨i0, hi, hz0, hz1, hz2⟩ := info_parts infoOpt
  obtain ⟨v', w', hrun, r1, r2, -, -⟩ := run_append_own_at (P := Try.prog) w base 52 o.type 57 i0 (.agg #[.int .i64 0, .string ⟨#[]⟩]) 2 24 Try.underlying52 hi hz0 hz1 hz2 rfl (by decide) v n _ hown ⟨g, 0, none⟩ 1 1 (ocell y) rfl (fun j u hj => by
    rw [hy] at hj
    rcases j with _ | _ | j
    · simp at hj; subst hj; simpa [Addr.add] using hc0
    · simp at hj; subst hj; simpa [Addr.add] using hc1
    · simp at hj) (fun u hu => by
      rw [hy] at hu
      simp at hu
      rcases hu with rfl | rfl <;> rfl) (by unfold maxLen; omega) (by omega) hbase
  unfold Oper.wp
  simp [execOp, hop, resolve, invoke, builtin, hs, hx, hrun, Result.andThen]
  exact hK v' w' (by rw [ocells_snoc]; exact r1) r2
theorem drop2 (t : ByteArray) (i N : Nat) : (((t.data.toList.drop i).take N).drop 2) = (t.extract (i + 2) (i + N)).data.toList := by
  rw [ByteArray.data_extract, Array.toList_extract, List.extract_eq_take_drop, List.drop_take, List.drop_drop]
  congr 1
  omega

set_option maxRecDepth 100000 in
set_option maxHeartbeats 4000000 in
theorem ropt_any (s : ByteArray) (hs : s.size ≤ 4398046511104) (w : World) :
    Calls Try.prog 39 #[.string s] w (OpOut w (opn s.data.toList)) := by
  have hlen : s.data.toList.length = s.size := (Lib.size_eq s).symm
  have HLen := Lib.hid hlen
  have HSz := Lib.hid hs
  obtain ⟨R, hR⟩ : ∃ R, opn s.data.toList = R := ⟨_, rfl⟩
  rw [hR]
  have HR := Lib.hid hR
  clear hlen hR
  go_enter Try.func39, Try.ntmps39
  go_wp2
  go_loopw [4, 5] (fun v i wr => ∃ (at_ : Nat) (os : List (List UInt8)), at_ ≤ s.size ∧ i = .int .i64 (at_ : Int) ∧
      Hid (wr.ownsRow w.heap.size 57 2 v os.length (ocells os) ∧ Below w.heap.size w wr ∧ (∀ x ∈ os, Gd x) ∧ os.flatten.length ≤ at_ ∧ R = (opn (s.data.toList.drop at_)).map (os ++ ·))) (fun _ i _ => s.size - (intOf i).toNat)
  case atStart => exact ⟨0, [], Nat.zero_le _, rfl, Lib.hid ⟨⟨rfl, .inl ⟨rfl, rfl⟩⟩, Below.refl _ _, by simp, by simp, by rw [← HR.out, List.drop_zero]; cases opn s.data.toList <;> simp⟩⟩
  case round =>
    obtain ⟨at_, os, hat, rfl, hH⟩ := hrel
    have hol : os.length ≤ at_ := Nat.le_trans (gd_len hH.out.2.2.1) hH.out.2.2.2.1
    have HLT := Lib.hid (show at_ < s.size → at_ + 1 ≤ s.size from fun h => h)
    have HOL := Lib.hid (show os.length + 1 ≤ 5000000000000 by have := HSz.out; omega)
    by_cases hlt : at_ < s.size
    · have hlti : (at_ : Int) < s.size := by omega
      have hget : s.data.toList[at_]? = some s[at_] := by
        rw [List.getElem?_eq_getElem (by rw [HLen.out]; exact hlt)]; rfl
      by_cases h0 : s[at_] = 0
      · have hb : ((s[at_].toNat : Int) == 0) = true := by rw [h0]; rfl
        have HX : Hid (R = some os) := Lib.hid (by rw [hH.out.2.2.2.2, opn_at_zero (by rw [hget, h0])]; simp)
        clear h0 hget
        go_wp2
        go_ret2
        rw [HX.out]
        exact ⟨_, rfl, hH.out.1, hH.out.2.1, hH.out.2.2.1⟩
      · have hb : ((s[at_].toNat : Int) == 0) = false := by have := byte_ne h0; simp; omega
        by_cases h1 : s[at_] = 1
        · have hb1 : ((s[at_].toNat : Int) == 1) = true := by rw [h1]; rfl
          have HST : Hid (R = (opn (s.data.toList.drop (at_ + 1))).map ((os ++ [[1]]) ++ ·)) := Lib.hid (by
            rw [hH.out.2.2.2.2, opn_at_one (by rw [hget, h1])]
            cases opn (s.data.toList.drop (at_ + 1)) <;> simp)
          have n0 := Blk.new wr 57 #[.int .i64 1, .string ⟨#[]⟩]
          have HN0 := Lib.hid ((n0.cell 0).trans (show _ = some (Value.int .i64 1) by rfl))
          have HN1 := Lib.hid ((n0.cell 1).trans (show _ = some (Value.string ⟨#[]⟩) by rfl))
          have HY : Hid (ocell [1] = [.int .i64 1, .string ⟨#[]⟩]) := Lib.hid rfl
          clear h0 h1 hget n0
          go_wp2_with (at_builtin; refine wpList_appo _ rfl (.tmp 21) (.tmp 23) rfl w.heap.size _ os os.length rfl rfl (hH.out.1.alloc _) wr.heap.size 1 ⟨#[]⟩ [1] HY.out rfl HN0.out HN1.out HOL.out (by simp only [World.size_alloc]; have := hH.out.2.1.size; omega) ?_; intro v2 w2 hown2 hg2; have HOW := Lib.hid hown2; have HG2 := Lib.hid hg2; clear hown2 hg2)
          go_roundw
          case rel => exact ⟨at_ + 1, os ++ [[1]], by omega, by go_num, Lib.hid ⟨by rw [List.length_append]; exact HOW.out, (hH.out.2.1.alloc hH.out.2.1.size _).grown HG2.out (by simp only [World.size_alloc]; have := hH.out.2.1.size; omega) (fun k hk => own_basek hH.out.1 k hk), (fun x hx => (List.mem_append.1 hx).elim (hH.out.2.2.1 x) (fun h => by rw [List.mem_singleton] at h; rw [h]; exact .inl rfl)), (by have := hH.out.2.2.2.1; simp only [List.flatten_append, List.flatten_cons, List.flatten_nil, List.append_nil, List.length_append, List.length_cons, List.length_nil]; omega), HST.out⟩⟩
          case measure => simp [intOf]; omega
        · have hb1 : ((s[at_].toNat : Int) == 1) = false := by have := byte_ne1 h1; simp; omega
          by_cases h2 : s.size = at_ + 1
          · have hge : (s.size : Int) ≤ (at_ : Int) + 1 := by omega
            have HX : Hid (R = none) := Lib.hid (by rw [hH.out.2.2.2.2, opn_at_lone hget h0 h1 (by rw [HLen.out]; exact h2)]; rfl)
            clear h0 h1 hget h2
            go_wp2
            go_ret2
            rw [HX.out]
            exact ⟨rfl, hH.out.2.1⟩
          · have hlt1 : at_ + 1 < s.size := by omega
            have hlt1i : ¬ (s.size : Int) ≤ (at_ : Int) + 1 := by omega
            have hget1 : s.data.toList[at_ + 1]? = some s[at_ + 1] := by
              rw [List.getElem?_eq_getElem (by rw [HLen.out]; exact hlt1)]; rfl
            have hn1 : ((at_ : Int) + 1).toNat = at_ + 1 := by omega
            have hst := opn_at_two hget hget1 h0 h1
            obtain ⟨N, hN⟩ : ∃ N, s[at_ + 1].toNat = N := ⟨_, rfl⟩
            have hN2 : N < 256 := by rw [← hN]; exact UInt8.toNat_lt _
            rw [hN, HLen.out] at hst
            by_cases hbad : N < 2 ∨ s.size < at_ + N
            · rw [if_pos hbad] at hst
              have HX : Hid (R = none) := Lib.hid (by rw [hH.out.2.2.2.2, hst]; rfl)
              have hcase : (N : Int) < 2 ∨ (¬ (N : Int) < 2 ∧ (s.size : Int) < (at_ : Int) + N) := by omega
              clear h0 h1 hget hget1 hst hbad
              rcases hcase with hc | ⟨hc, hc2⟩
              all_goals
                go_wp2
                go_ret2
                rw [HX.out]
                exact ⟨rfl, hH.out.2.1⟩
            · rw [if_neg hbad] at hst
              have hc : ¬ (N : Int) < 2 := by omega
              have hc2 : ¬ (s.size : Int) < (at_ : Int) + N := by omega
              obtain ⟨k1, e1⟩ := List.getElem?_eq_some_iff.1 hget
              obtain ⟨k2, e2⟩ := List.getElem?_eq_some_iff.1 hget1
              have hx : (s.data.toList.drop at_).take N = s[at_] :: s[at_ + 1] :: (s.data.toList.drop (at_ + 2)).take (N - 2) := by
                rw [List.drop_eq_getElem_cons k1, e1, List.drop_eq_getElem_cons k2, e2]
                obtain ⟨m, rfl⟩ : ∃ m, N = m + 2 := ⟨N - 2, by omega⟩
                rfl
              have hgd : Gd ((s.data.toList.drop at_).take N) := .inr ⟨s[at_], s[at_ + 1], _, hx, h0, h1, by rw [hN, List.length_take, List.length_drop, HLen.out]; omega⟩
              obtain ⟨D, hD⟩ : ∃ D, s.extract (at_ + 2) (at_ + N) = D := ⟨_, rfl⟩
              obtain ⟨C, hC⟩ : ∃ C, s[at_].toNat = C := ⟨_, rfl⟩
              have hC2 : C < 256 := by rw [← hC]; exact UInt8.toNat_lt _
              have hoc : ocell ((s.data.toList.drop at_).take N) = [.int .i64 (C : Int), .string D] := by
                unfold ocell
                rw [drop2, hD, hx, List.headD_cons, hC]
              obtain ⟨X, hX⟩ : ∃ X, (s.data.toList.drop at_).take N = X := ⟨_, rfl⟩
              have hXl : X.length = N := by rw [← hX, List.length_take, List.length_drop, HLen.out]; omega
              rw [hX] at hgd hoc hst
              have HST : Hid (R = (opn (s.data.toList.drop (at_ + N))).map ((os ++ [X]) ++ ·)) := Lib.hid (by
                rw [hH.out.2.2.2.2, hst]
                cases opn (s.data.toList.drop (at_ + N)) <;> simp)
              have n0 := Blk.new wr.drew 57 #[.int .i64 (C : Int), .string D]
              have HN0 := Lib.hid ((n0.cell 0).trans (show _ = some (Value.int .i64 (C : Int)) by rfl))
              have HN1 := Lib.hid ((n0.cell 1).trans (show _ = some (Value.string D) by rfl))
              have HY := Lib.hid hoc
              have HGD := Lib.hid hgd
              have HXL := Lib.hid hXl
              have hw2 : IntKind.i64.wrap ((at_ : Int) + 2) = (at_ : Int) + 2 := by rw [IntKind.wrap_i64]; have := HSz.out; omega
              have hwN : IntKind.i64.wrap ((at_ : Int) + N) = (at_ : Int) + N := by rw [IntKind.wrap_i64]; have := HSz.out; omega
              have hwC : IntKind.i64.wrap (C : Int) = (C : Int) := by rw [IntKind.wrap_i64]; omega
              have hn2 : ((at_ : Int) + 2).toNat = at_ + 2 := by omega
              have hnN : ((at_ : Int) + N).toNat = at_ + N := by omega
              have b1 : (at_ : Int) + 2 ≤ (at_ : Int) + N := by omega
              have b2 : (at_ : Int) + N ≤ s.size := by omega
              have b3 : (0 : Int) ≤ (at_ : Int) + 2 := by omega
              clear h0 h1 hget hget1 hst hbad hx hgd hoc hX hXl n0 e1 e2
              go_wp2
              go_region_law (refine step_appo rfl (.tmp 59) (.tmp 70) rfl w.heap.size u4 os os.length rfl (by simp [Act.eval]) (hH.out.1.drew.alloc _) wr.heap.size (C : Int) D X HY.out (by simp [Act.eval]) HN0.out HN1.out HOL.out (by have := hH.out.2.1.size; simp; omega) ?_; intro v2 w2 hown2 hg2; have HOW := Lib.hid hown2; have HG2 := Lib.hid hg2; clear hown2 hg2)
              all_goals
                go_wp2
                go_roundw
                case rel => exact ⟨at_ + N, os ++ [X], by omega, by go_num, Lib.hid ⟨by rw [List.length_append]; exact HOW.out, (hH.out.2.1.drew.alloc (by have := hH.out.2.1.size; simp; omega) _).grown HG2.out (by have := hH.out.2.1.size; simp; omega) (fun k hk => own_basek hH.out.1 k hk), (fun x hx => (List.mem_append.1 hx).elim (hH.out.2.2.1 x) (fun h => by rw [List.mem_singleton] at h; rw [h]; exact HGD.out)), (by have := hH.out.2.2.2.1; have := HXL.out; simp only [List.flatten_append, List.flatten_cons, List.flatten_nil, List.append_nil, List.length_append]; omega), HST.out⟩⟩
                case measure => simp [intOf]; omega
    · have he : at_ = s.size := by omega
      have hlti : ¬ (at_ : Int) < s.size := by omega
      have HX : Hid (R = some os) := Lib.hid (by rw [hH.out.2.2.2.2, opn_at_end (by rw [HLen.out]; omega)]; simp)
      clear he
      go_wp2
      go_ret2
      rw [HX.out]
      exact ⟨_, rfl, hH.out.1, hH.out.2.1, hH.out.2.2.1⟩
end Go.Proofs.Ytbhddodghbhjiaa
