/-
  The document's own Parse of a prefix: any text.
-/
import Derived.Test.YtbpdnohcgojmbaaGreatDoorRPm
import Derived.Test.YtbpdnohcgojmbaaGreatDoorRPa
import Derived.Test.YtbpdnohcgojmbaaGreatDoorMgD
import Derived.Test.YtbpdnohcgojmbaaGreatDoorMgC
namespace Go.Proofs.YtbpdnohcgojmbaaGreatDoor
open Go.RowKit
set_option linter.unusedVariables false

/-- Where the stroke is. -/
theorem stroke_at {L : List UInt8} {p : Nat} (hp : p < L.length) (h : L[p]? = some 47) (hn : (47 : UInt8) ∉ L.take p) : L = L.take p ++ 47 :: L.drop (p + 1) ∧ (47 : UInt8) ∉ L.take p := by
  refine ⟨?_, hn⟩
  obtain ⟨h1, h2⟩ := List.getElem?_eq_some_iff.1 h
  conv => lhs; rw [← List.take_append_drop p L]
  rw [List.drop_eq_getElem_cons h1, h2]
/-- What the two parts of a text are read as. -/
def Pab (a b : List UInt8) (v : Value) : Prop :=
  (prsV a = .tuple #[adr false 0 0, .int .i64 20] ∧ v = .tuple #[pfx false 0 0 0, .int .i64 20]) ∨
  ∃ (x : Bool) (h l : Nat), N64 h ∧ N64 l ∧ prsV a = .tuple #[adr x h l, .int .i64 0] ∧
    ((∃ n : Nat, numw b = some n ∧ pvl x h l n = true ∧ v = .tuple #[pfx x h l (n : Int), .int .i64 0]) ∨
     ((∀ n : Nat, numw b = some n → pvl x h l n = false) ∧ v = .tuple #[pfx false 0 0 0, .int .i64 30]))
theorem ppr_none {L : List UInt8} {v : Value} (h : Ppr L v) (hn : (47 : UInt8) ∉ L) : v = .tuple #[pfx false 0 0 0, .int .i64 30] := by
  rcases h with ⟨-, e⟩ | ⟨a, b, e, -, -⟩
  · exact e
  · exact absurd (by rw [e]; simp) hn
theorem ppr_ab {a b : List UInt8} {v : Value} (ha : (47 : UInt8) ∉ a) (h : Ppr (a ++ 47 :: b) v) : Pab a b v := by
  rcases h with ⟨hn, -⟩ | ⟨a2, b2, e, ha2, hc⟩
  · exact absurd (by simp) hn
  · obtain ⟨rfl, rfl⟩ := cut_uniq ha ha2 e
    exact hc

theorem sizePf : (Tryz.prog.info? 26).map (·.size) = some 4 := by kernel_rfl
theorem wpList_stcP {ops : Array Oper} {rest : List Oper} {o : Oper} {a : Act} {w : World} {Q : Exit → Act → World → Prop} (hgd : o.guard = none) (x y : Operand) (ho : o.op = .store 26 x y)
    (g : Nat) (new old : Array Value) (hs : new.size = 4) (h1 : new.all (·.oneCell') = true) (hx : a.eval x = .pointer (some ⟨g, 0, none⟩)) (hy : a.eval y = .agg new) (hB : Blk w g 26 old) (hs2 : old.size = 4)
    (h : ∀ w', Blk w' g 26 new → Below g w w' → wpList Tryz.prog ops Q rest (a.put o.dst undef) w') : wpList Tryz.prog ops Q (o :: rest) a w := by
  refine wpList_store_row hgd 26 x y ho g new hx hy 26 old hB (by rw [hs]; exact sizePf) (by rw [hs, hs2]) h1 ?_
  exact h _ (setRow_heap w g old new 26 _ hB) ⟨rfl, rfl, rfl, by simp [World.setRow], fun k hk => setRow_other w g k new (by omega)⟩
/-- Where the reading of the number stands. -/
def NmS (b : List UInt8) (i : Nat) (f : Bool) (n : Int) : Prop :=
  -100 ≤ n ∧ n ≤ 20000 ∧ (f = true → ∃ a : Nat, n = (a : Int) ∧ a < 10 ^ i ∧ numw b = dgA a (b.drop i)) ∧ (f = false → numw b = none)
theorem NmS.next {b : List UInt8} {i : Nat} {n : Int} {c : UInt8} (h : NmS b i true n) (hi : b[i]? = some c) (h3 : b.length ≤ 3) : 
    NmS b (i + 1) (decide (48 ≤ c.toNat) && decide (c.toNat ≤ 57)) (10 * n + (c.toNat : Int) - 48) := by
  obtain ⟨a, rfl, ha, hd⟩ := h.2.2.1 rfl
  have hil : i < b.length := (List.getElem?_eq_some_iff.1 hi).1
  have hp : 10 ^ i ≤ 10 ^ 2 := Nat.pow_le_pow_right (by decide) (by omega)
  have hcb := UInt8.toNat_lt c
  have hs := dgA_step (a := a) hi
  refine ⟨by omega, by omega, fun hf => ?_, fun hf => ?_⟩
  · have hc : 48 ≤ c.toNat ∧ c.toNat ≤ 57 := by simpa using hf
    rw [if_pos hc] at hs
    exact ⟨10 * a + (c.toNat - 48), by omega, by rw [Nat.pow_succ]; omega, hd.trans hs⟩
  · have hc : ¬ (48 ≤ c.toNat ∧ c.toNat ≤ 57) := by intro hc; simp [hc.1, hc.2] at hf
    rw [if_neg hc] at hs
    rw [hd, hs]
theorem NmS.start {b : List UInt8} (h0 : b ≠ []) (h3 : b.length ≤ 3) (hz : ¬ (1 < b.length ∧ b.head? = some 48)) : NmS b 0 true 0 :=
  ⟨by decide, by decide, fun _ => ⟨0, rfl, by decide, by rw [List.drop_zero]; exact numw_dgA h0 h3 hz⟩, fun h => by cases h⟩

set_option maxRecDepth 100000 in
set_option maxHeartbeats 16000000 in
theorem rpparse_any (s : ByteArray) (hs : s.size ≤ 1000000000) (v : Value) (hv : Ppr s.data.toList v) (w : World) :
    Calls Tryz.prog 6 #[.string s] w fun e w' => e = .returned v ∧ Below w.heap.size w w' := by
  obtain ⟨L, hL⟩ : ∃ L, s.data.toList = L := ⟨_, rfl⟩
  have HLn : Hid (L.length = s.size) := Lib.hid (by rw [← hL]; exact (Lib.size_eq s).symm)
  have HLt : Hid (∀ i (h : i < s.size), L[i]? = some (s[i]'h)) := Lib.hid fun i h => by
    rw [← hL, List.getElem?_eq_getElem (by rw [Array.length_toList]; exact h)]; rfl
  have HEx : Hid (∀ i k, (s.extract i k).data.toList = (L.take k).drop i) := Lib.hid fun i k => by
    rw [ByteArray.data_extract, Array.toList_extract, List.extract_eq_take_drop, List.drop_take, hL]
  rw [hL] at hv
  have HV := Lib.hid hv
  have KR := Lib.hid (Blk.new w 26 #[.bool false, .int .u64 0, .int .u64 0, .int .i64 0])
  have L0 := Lib.hid ((Below.refl _ w).alloc (Nat.le_refl _) (.cells #[.bool false, .int .u64 0, .int .u64 0, .int .i64 0] 26))
  have HS := Lib.hid hs
  clear hL hv hs
  go_enter Tryz.func6, Tryz.ntmps6
  go_wp2
  go_loop [4] (fun at_ => ∃ p : Nat, at_ = .int .i64 (p : Int) ∧ p ≤ s.size ∧ Hid ((47 : UInt8) ∉ L.take p)) (fun at_ => s.size - (intOf at_).toNat)
  case atStart => exact ⟨0, rfl, Nat.zero_le _, Lib.hid (by simp)⟩
  case round =>
    obtain ⟨p, rfl, hp, hn⟩ := hrel
    have hsz := HS.out
    have jp : IntKind.i64.wrap ((p : Int) + 1) = (p : Int) + 1 := by rw [IntKind.wrap_i64]; omega
    by_cases hlt : p < s.size
    · have hpI : (p : Int) < s.size := by omega
      have hat := HLt.out p hlt
      by_cases h47 : s[p]'hlt = 47
      case neg =>
        have h47' : ¬ ((s[p]'hlt).toNat : Int) = 47 := by
          intro e
          apply h47
          apply UInt8.toNat_inj.1
          show (s[p]'hlt).toNat = 47
          omega
        have HN : Hid ((47 : UInt8) ∉ L.take (p + 1)) := Lib.hid (by
          rw [List.take_add_one, hat]
          intro h
          rcases List.mem_append.1 h with h | h
          · exact hn.out h
          · simp at h; exact h47 h.symm)
        clear hat h47 hn hsz
        go_wp2
        go_round
        case rel => exact ⟨p + 1, by go_num, by omega, HN⟩
        case measure => simp [intOf]; omega
      have hst := stroke_at (by rw [HLn.out]; exact hlt) (by rw [hat, h47]) hn.out
      have hq47 : ((s[p]'hlt).toNat : Int) = 47 := by rw [h47]; rfl
      have hpe : ((p : Int) == (s.size : Int)) = false := by simp; omega
      have hpe2 : ¬ (p : Int) = s.size := by omega
      obtain ⟨AA, hAA⟩ : ∃ x, s.extract 0 p = x := ⟨_, rfl⟩
      obtain ⟨T, hT⟩ : ∃ x, s.extract (p + 1) s.size = x := ⟨_, rfl⟩
      obtain ⟨a, ha⟩ : ∃ x, L.take p = x := ⟨_, rfl⟩
      obtain ⟨b, hb⟩ : ∃ x, L.drop (p + 1) = x := ⟨_, rfl⟩
      rw [ha, hb] at hst
      have hAl : AA.data.toList = a := by rw [← hAA, HEx.out, List.drop_zero, ha]
      have hTl : T.data.toList = b := by rw [← hT, HEx.out, List.take_of_length_le (by rw [HLn.out]; exact Nat.le_refl _), hb]
      have HA := Lib.hid (fun W => rparse_any AA (by rw [← hAA, ByteArray.size_extract]; omega) W)
      rw [prs_prsD, hAl] at HA
      have HPab : Hid (Pab a b v) := Lib.hid (ppr_ab hst.2 (by have := HV.out; rw [hst.1] at this; exact this))
      have HTl : Hid (b.length = T.size) := Lib.hid (by rw [← hTl]; exact (Lib.size_eq T).symm)
      have HAt : Hid (∀ i (h : i < T.size), b[i]? = some (T[i]'h)) := Lib.hid fun i h => by
        rw [← hTl, List.getElem?_eq_getElem (by rw [Array.length_toList]; exact h)]; rfl
      have HTb := Lib.hid hTl
      have i1 : (p : Int) ≤ s.size := by omega
      have i2 : (0 : Int) ≤ (p : Int) := by omega
      have i3 : (p : Int) + 1 ≤ s.size := by omega
      have i4 : (0 : Int) ≤ (p : Int) + 1 := by omega
      have i5 : ((p : Int) + 1).toNat = p + 1 := by omega
      clear hat hst hn hsz ha hb hAl hTl h47 hp
      go_wp2_with fail
      refine Calls.mono (HA.out _) ?_
      rintro e w1 ⟨rfl, hb⟩
      rcases HPab.out with ⟨hq, rfl⟩ | ⟨x, h, l, hh, hl, hq, hc⟩
      · rw [hq]
        have R1 := Lib.hid ((KR.out.below hb KR.out.lt).alloc (.cells #[.bool false, .int .u64 0, .int .u64 0] 24))
        have L1 := Lib.hid ((L0.out.trans (hb.mono L0.out.size)).alloc (L0.out.trans (hb.mono L0.out.size)).size (.cells #[.bool false, .int .u64 0, .int .u64 0] 24))
        clear hb hq
        go_wp2_with (refine wpList_stcP rfl (.tmp 2) (.tmp 39) rfl w.heap.size #[.bool false, .int .u64 0, .int .u64 0, .int .i64 0] #[.bool false, .int .u64 0, .int .u64 0, .int .i64 0] rfl (by simp [Value.oneCell']) rfl rfl R1.out rfl ?_; intro w9 hk9 hb9; have K9 := Lib.hid hk9; have L9 := Lib.hid (L1.out.trans hb9); clear hk9 hb9)
        obtain ⟨q0, q1, q2, q3⟩ := K9.out.c4
        exact bodyPost_ret (v := .tuple #[pfx false 0 0 0, .int .i64 20]) (by simp [results, Tryz.results6, go_sem, q0, q1, q2, q3]) rfl ⟨rfl, L9.out⟩
      · rw [hq]
        have R1 := Lib.hid ((KR.out.below hb KR.out.lt).alloc (.cells #[.bool x, .int .u64 (h : Int), .int .u64 (l : Int)] 24))
        have K1 := Lib.hid (Blk.new w1 24 #[.bool x, .int .u64 (h : Int), .int .u64 (l : Int)])
        have L1 := Lib.hid ((L0.out.trans (hb.mono L0.out.size)).alloc (L0.out.trans (hb.mono L0.out.size)).size (.cells #[.bool x, .int .u64 (h : Int), .int .u64 (l : Int)] 24))
        have HN64 := Lib.hid (And.intro hh hl)
        have HC := Lib.hid hc
        obtain ⟨f0, f1, f2⟩ := K1.out.c3
        clear hb hq hc hh hl HPab HV
        by_cases h0 : T.size = 0
        · have e : T = ⟨#[]⟩ := by
            apply ByteArray.ext
            have := HTl.out
            rw [h0] at this
            have h2 := List.eq_nil_of_length_eq_zero this
            have h3 := HTb.out
            rw [h2] at h3
            simpa using h3
          have HNo : Hid (numw b = none) := Lib.hid (numw_none (.inl (List.eq_nil_of_length_eq_zero (by rw [HTl.out, h0]))))
          have hz0 : ¬ (0 : Int) < (0 : Int) := by omega
          subst e
          clear h0
          have hv : v = .tuple #[pfx false 0 0 0, .int .i64 30] := by
            rcases HC.out with ⟨n, e, -⟩ | ⟨-, e⟩
            · rw [HNo.out] at e; cases e
            · exact e
          subst hv
          go_wp2
          go_loop [8, 9, 10] (fun n f i => n = .int .i64 0 ∧ f = .bool false ∧ i = .int .i64 0) (fun _ _ _ => 0)
          case atStart => exact ⟨rfl, rfl, rfl⟩
          case round =>
            obtain ⟨rfl, rfl, rfl⟩ := hrel
            have R2 := Lib.hid (R1.out.alloc (.cells #[.bool x, .int .u64 (h : Int), .int .u64 (l : Int), .int .i64 0] 26))
            have L2 := Lib.hid (L1.out.alloc L1.out.size (.cells #[.bool x, .int .u64 (h : Int), .int .u64 (l : Int), .int .i64 0] 26))
            go_wp2_with (refine wpList_stcP rfl (.tmp 2) (.tmp 98) rfl w.heap.size #[.bool false, .int .u64 0, .int .u64 0, .int .i64 0] #[.bool false, .int .u64 0, .int .u64 0, .int .i64 0] rfl (by simp [Value.oneCell']) rfl rfl R2.out rfl ?_; intro w9 hk9 hb9; have K9 := Lib.hid hk9; have L9 := Lib.hid (L2.out.trans hb9); clear hk9 hb9)
            obtain ⟨q0, q1, q2, q3⟩ := K9.out.c4
            exact bodyPost_ret (v := .tuple #[pfx false 0 0 0, .int .i64 30]) (by simp [results, Tryz.results6, go_sem, q0, q1, q2, q3]) rfl ⟨rfl, L9.out⟩
        · have hpos : 0 < T.size := by omega
          have te : T.toList.isEmpty = false := by
            rw [List.isEmpty_eq_false_iff]
            intro e
            apply h0
            rw [Lib.size_eq, ← ByteArray.toList_eq, e]; rfl
          have tne : ¬ T = ⟨#[]⟩ := fun e => h0 (by rw [e]; rfl)
          have hz0 : (0 : Int) < (T.size : Int) := by omega
          by_cases h3 : 3 < T.size
          · have h3' : ¬ (T.size : Int) ≤ 3 := by omega
            have HNo : Hid (numw b = none) := Lib.hid (numw_none (.inr (.inl (by rw [HTl.out]; exact h3))))
            clear h0 h3
            have hv : v = .tuple #[pfx false 0 0 0, .int .i64 30] := by
              rcases HC.out with ⟨n, e, -⟩ | ⟨-, e⟩
              · rw [HNo.out] at e; cases e
              · exact e
            subst hv
            go_wp2
            go_loop [8, 9, 10] (fun n f i => n = .int .i64 0 ∧ f = .bool false ∧ i = .int .i64 0) (fun _ _ _ => 0)
            case atStart => exact ⟨rfl, rfl, rfl⟩
            case round =>
              obtain ⟨rfl, rfl, rfl⟩ := hrel
              have R2 := Lib.hid (R1.out.alloc (.cells #[.bool x, .int .u64 (h : Int), .int .u64 (l : Int), .int .i64 0] 26))
              have L2 := Lib.hid (L1.out.alloc L1.out.size (.cells #[.bool x, .int .u64 (h : Int), .int .u64 (l : Int), .int .i64 0] 26))
              go_wp2_with (refine wpList_stcP rfl (.tmp 2) (.tmp 98) rfl w.heap.size #[.bool false, .int .u64 0, .int .u64 0, .int .i64 0] #[.bool false, .int .u64 0, .int .u64 0, .int .i64 0] rfl (by simp [Value.oneCell']) rfl rfl R2.out rfl ?_; intro w9 hk9 hb9; have K9 := Lib.hid hk9; have L9 := Lib.hid (L2.out.trans hb9); clear hk9 hb9)
              obtain ⟨q0, q1, q2, q3⟩ := K9.out.c4
              exact bodyPost_ret (v := .tuple #[pfx false 0 0 0, .int .i64 30]) (by simp [results, Tryz.results6, go_sem, q0, q1, q2, q3]) rfl ⟨rfl, L9.out⟩
          have h3' : (T.size : Int) ≤ 3 := by omega
          have hh := head_at T hpos
          rw [HTb.out] at hh
          have HB3 : Hid (b.length ≤ 3) := Lib.hid (by rw [HTl.out]; omega)
          by_cases hz : T[0]'hpos = 48
          · have hq : ((T[0]'hpos).toNat : Int) = 48 := by rw [hz]; rfl
            by_cases h1 : T.size = 1
            · have HSt : Hid (NmS b 0 true 0) := Lib.hid (NmS.start (by intro e; rw [e] at hh; cases hh) HB3.out (by rw [HTl.out]; omega))
              have e48 : T = ⟨#[48]⟩ := by
                apply ByteArray.ext
                have h5 := HTl.out
                rw [h1] at h5
                obtain ⟨c, hc⟩ := List.length_eq_one_iff.1 h5
                rw [hc, hz] at hh
                injection hh with hh
                have h6 := HTb.out
                rw [hc, hh] at h6
                simpa using congrArg List.toArray h6
              have e49 : (T.toList == [48]) = true := by rw [e48]; decide +kernel
              clear hh h0 h3 hz e48 h1
              go_wp2
              go_loop [8, 9, 10] (fun nn ff i => ∃ (j : Nat) (f : Bool) (n : Int), nn = .int .i64 n ∧ ff = .bool f ∧ i = .int .i64 (j : Int) ∧ j ≤ T.size ∧ Hid (NmS b j f n)) (fun _ _ i => T.size - (intOf i).toNat)
              case atStart => exact ⟨0, true, 0, rfl, rfl, rfl, Nat.zero_le _, Lib.hid HSt.out⟩
              case round =>
                obtain ⟨j, f, n, rfl, rfl, rfl, hj, hn⟩ := hrel
                have hn1 := hn.out.1
                have hn2 := hn.out.2.1
                cases f with
                | true =>
                  by_cases hlt : j < T.size
                  · have hnx := hn.out.next (HAt.out j hlt) HB3.out
                    have HNx := Lib.hid hnx
                    obtain ⟨c, hc⟩ : ∃ c, (T[j]'hlt).toNat = c := ⟨_, rfl⟩
                    have hcb := UInt8.toNat_lt (T[j]'hlt)
                    rw [hc] at HNx hcb
                    have j1 : IntKind.i64.wrap (10 * n) = 10 * n := by rw [IntKind.wrap_i64]; omega
                    have j2 : IntKind.i64.wrap (10 * n + (c : Int)) = 10 * n + (c : Int) := by rw [IntKind.wrap_i64]; omega
                    have j3 : IntKind.i64.wrap (10 * n + (c : Int) - 48) = 10 * n + (c : Int) - 48 := by rw [IntKind.wrap_i64]; omega
                    have j4 : IntKind.i64.wrap (c : Int) = (c : Int) := by rw [IntKind.wrap_i64]; omega
                    have j5 : IntKind.i64.wrap ((j : Int) + 1) = (j : Int) + 1 := by rw [IntKind.wrap_i64]; have := HB3.out; have := HTl.out; omega
                    have hjI : (j : Int) < T.size := by omega
                    clear hnx hn
                    have hcc : (48 ≤ c ∧ c ≤ 57) ∨ (48 ≤ c ∧ ¬ c ≤ 57) ∨ ¬ 48 ≤ c := by omega
                    rcases hcc with ⟨c1, c2⟩ | ⟨c1, c2⟩ | c1
                    · have k1 : (48 : Int) ≤ c := by omega
                      have k2 : (c : Int) ≤ 57 := by omega
                      have HF : Hid ((decide (48 ≤ c) && decide (c ≤ 57)) = true) := Lib.hid (by simp [c1, c2])
                      clear c1 c2 hcb
                      go_wp2
                      go_round
                      case rel => exact ⟨j + 1, true, 10 * n + (c : Int) - 48, rfl, rfl, by go_num, by omega, Lib.hid (by have := HNx.out; rw [HF.out] at this; exact this)⟩
                      case measure => simp [intOf]; omega
                    · have k1 : (48 : Int) ≤ c := by omega
                      have k2 : ¬ (c : Int) ≤ 57 := by omega
                      have HF : Hid ((decide (48 ≤ c) && decide (c ≤ 57)) = false) := Lib.hid (by simp [c2])
                      clear c1 c2 hcb
                      go_wp2
                      go_round
                      case rel => exact ⟨j + 1, false, 10 * n + (c : Int) - 48, rfl, rfl, by go_num, by omega, Lib.hid (by have := HNx.out; rw [HF.out] at this; exact this)⟩
                      case measure => simp [intOf]; omega
                    · have k1 : ¬ (48 : Int) ≤ c := by omega
                      have HF : Hid ((decide (48 ≤ c) && decide (c ≤ 57)) = false) := Lib.hid (by simp [c1])
                      clear c1 hcb
                      go_wp2
                      go_round
                      case rel => exact ⟨j + 1, false, 10 * n + (c : Int) - 48, rfl, rfl, by go_num, by omega, Lib.hid (by have := HNx.out; rw [HF.out] at this; exact this)⟩
                      case measure => simp [intOf]; omega
                  · have hjI : ¬ (j : Int) < T.size := by omega
                    have hnm : ∃ a : Nat, n = (a : Int) ∧ numw b = some a := by
                      obtain ⟨a, e, -, hd⟩ := hn.out.2.2.1 rfl
                      rw [List.drop_eq_nil_of_le (by rw [HTl.out]; omega)] at hd
                      exact ⟨a, e, hd⟩
                    obtain ⟨a, rfl, hnm⟩ := hnm
                    have R2 := Lib.hid (R1.out.alloc (.cells #[.bool x, .int .u64 (h : Int), .int .u64 (l : Int), .int .i64 (a : Int)] 26))
                    have Q2 := Lib.hid (Blk.new (w1.alloc (.cells #[.bool x, .int .u64 (h : Int), .int .u64 (l : Int)] 24)) 26 #[.bool x, .int .u64 (h : Int), .int .u64 (l : Int), .int .i64 (a : Int)])
                    have L2 := Lib.hid (L1.out.alloc L1.out.size (.cells #[.bool x, .int .u64 (h : Int), .int .u64 (l : Int), .int .i64 (a : Int)] 26))
                    obtain ⟨pv, hpv⟩ : ∃ pv, pvl x h l (a : Int) = pv := ⟨_, rfl⟩
                    have HVd := Lib.hid (fun W => rpvalid_at x h l (a : Int) HN64.out.1 HN64.out.2 hpv W)
                    have q2 := Q2.out
                    rw [World.size_alloc] at q2
                    have Q2' := Lib.hid q2
                    obtain ⟨p0, p1, p2, p3⟩ := q2.c4
                    clear hn hj q2
                    go_wp2_with fail
                    refine Calls.mono (HVd.out _) ?_
                    rintro e w3 ⟨rfl, hb⟩
                    have R3 := Lib.hid (R2.out.below hb R2.out.lt)
                    have Q3 := Lib.hid (Q2'.out.below hb Q2'.out.lt)
                    have L3 := Lib.hid (L2.out.trans (hb.mono L2.out.size))
                    clear hb p0 p1 p2 p3
                    cases pv with
                    | false =>
                      have hv : v = .tuple #[pfx false 0 0 0, .int .i64 30] := by
                        rcases HC.out with ⟨n, e, e2, -⟩ | ⟨-, e⟩
                        · rw [hnm] at e; injection e with e; subst e; rw [hpv] at e2; cases e2
                        · exact e
                      subst hv
                      clear hpv hnm
                      go_wp2_with (refine wpList_stcP rfl (.tmp 2) (.tmp 98) rfl w.heap.size #[.bool false, .int .u64 0, .int .u64 0, .int .i64 0] #[.bool false, .int .u64 0, .int .u64 0, .int .i64 0] rfl (by simp [Value.oneCell']) rfl rfl R3.out rfl ?_; intro w9 hk9 hb9; have K9 := Lib.hid hk9; have L9 := Lib.hid (L3.out.trans hb9); clear hk9 hb9)
                      obtain ⟨q0, q1, q2, q3⟩ := K9.out.c4
                      exact bodyPost_ret (v := .tuple #[pfx false 0 0 0, .int .i64 30]) (by simp [results, Tryz.results6, go_sem, q0, q1, q2, q3]) rfl ⟨rfl, L9.out⟩
                    | true =>
                      have hv : v = .tuple #[pfx x h l (a : Int), .int .i64 0] := by
                        rcases HC.out with ⟨n, e, e2, e3⟩ | ⟨e, -⟩
                        · rw [hnm] at e; injection e with e; subst e; exact e3
                        · have := e a hnm; rw [hpv] at this; cases this
                      subst hv
                      clear hpv hnm
                      obtain ⟨p0, p1, p2, p3⟩ := Q3.out.c4
                      go_wp2_with (refine wpList_stcP rfl (.tmp 2) (.tmp 99) rfl w.heap.size #[.bool x, .int .u64 (h : Int), .int .u64 (l : Int), .int .i64 (a : Int)] #[.bool false, .int .u64 0, .int .u64 0, .int .i64 0] rfl (by simp [Value.oneCell']) rfl rfl R3.out rfl ?_; intro w9 hk9 hb9; have K9 := Lib.hid hk9; have L9 := Lib.hid (L3.out.trans hb9); clear hk9 hb9)
                      obtain ⟨q0, q1, q2, q3⟩ := K9.out.c4
                      exact bodyPost_ret (v := .tuple #[pfx x h l (a : Int), .int .i64 0]) (by simp [results, Tryz.results6, go_sem, q0, q1, q2, q3]) rfl ⟨rfl, L9.out⟩
                | false =>
                  have hv : v = .tuple #[pfx false 0 0 0, .int .i64 30] := by
                    have hno := hn.out.2.2.2 rfl
                    rcases HC.out with ⟨n, e, -⟩ | ⟨-, e⟩
                    · rw [hno] at e; cases e
                    · exact e
                  subst hv
                  have R2 := Lib.hid (R1.out.alloc (.cells #[.bool x, .int .u64 (h : Int), .int .u64 (l : Int), .int .i64 n] 26))
                  have L2 := Lib.hid (L1.out.alloc L1.out.size (.cells #[.bool x, .int .u64 (h : Int), .int .u64 (l : Int), .int .i64 n] 26))
                  have hz : (j : Int) < T.size ∨ ¬ (j : Int) < T.size := by omega
                  clear hn
                  rcases hz with hz | hz
                  all_goals
                    go_wp2_with (refine wpList_stcP rfl (.tmp 2) (.tmp 98) rfl w.heap.size #[.bool false, .int .u64 0, .int .u64 0, .int .i64 0] #[.bool false, .int .u64 0, .int .u64 0, .int .i64 0] rfl (by simp [Value.oneCell']) rfl rfl R2.out rfl ?_; intro w9 hk9 hb9; have K9 := Lib.hid hk9; have L9 := Lib.hid (L2.out.trans hb9); clear hk9 hb9)
                    obtain ⟨q0, q1, q2, q3⟩ := K9.out.c4
                    exact bodyPost_ret (v := .tuple #[pfx false 0 0 0, .int .i64 30]) (by simp [results, Tryz.results6, go_sem, q0, q1, q2, q3]) rfl ⟨rfl, L9.out⟩
            · have HNo : Hid (numw b = none) := Lib.hid (numw_none (.inr (.inr ⟨by rw [HTl.out]; omega, by rw [hh, hz]⟩)))
              have e48 : ¬ T = ⟨#[48]⟩ := fun e => h1 (by rw [e]; rfl)
              have e49 : (T.toList == [48]) = false := by
                rw [beq_eq_false_iff_ne]
                intro e
                apply h1
                rw [Lib.size_eq, ← ByteArray.toList_eq, e]; rfl
              clear hh h0 h3 h1 hz
              have hv : v = .tuple #[pfx false 0 0 0, .int .i64 30] := by
                rcases HC.out with ⟨n, e, -⟩ | ⟨-, e⟩
                · rw [HNo.out] at e; cases e
                · exact e
              subst hv
              go_wp2
              go_loop [8, 9, 10] (fun n f i => n = .int .i64 0 ∧ f = .bool false ∧ i = .int .i64 0) (fun _ _ _ => 0)
              case atStart => exact ⟨rfl, rfl, rfl⟩
              case round =>
                obtain ⟨rfl, rfl, rfl⟩ := hrel
                have R2 := Lib.hid (R1.out.alloc (.cells #[.bool x, .int .u64 (h : Int), .int .u64 (l : Int), .int .i64 0] 26))
                have L2 := Lib.hid (L1.out.alloc L1.out.size (.cells #[.bool x, .int .u64 (h : Int), .int .u64 (l : Int), .int .i64 0] 26))
                go_wp2_with (refine wpList_stcP rfl (.tmp 2) (.tmp 98) rfl w.heap.size #[.bool false, .int .u64 0, .int .u64 0, .int .i64 0] #[.bool false, .int .u64 0, .int .u64 0, .int .i64 0] rfl (by simp [Value.oneCell']) rfl rfl R2.out rfl ?_; intro w9 hk9 hb9; have K9 := Lib.hid hk9; have L9 := Lib.hid (L2.out.trans hb9); clear hk9 hb9)
                obtain ⟨q0, q1, q2, q3⟩ := K9.out.c4
                exact bodyPost_ret (v := .tuple #[pfx false 0 0 0, .int .i64 30]) (by simp [results, Tryz.results6, go_sem, q0, q1, q2, q3]) rfl ⟨rfl, L9.out⟩
          · have hq : ¬ ((T[0]'hpos).toNat : Int) = 48 := by have := byte48 _ hz; omega
            have HSt : Hid (NmS b 0 true 0) := Lib.hid (NmS.start (by intro e; rw [e] at hh; cases hh) HB3.out (by rw [hh]; rintro ⟨-, e⟩; injection e with e; exact hz e))
            clear hh h0 h3 hz
            go_wp2
            go_loop [8, 9, 10] (fun nn ff i => ∃ (j : Nat) (f : Bool) (n : Int), nn = .int .i64 n ∧ ff = .bool f ∧ i = .int .i64 (j : Int) ∧ j ≤ T.size ∧ Hid (NmS b j f n)) (fun _ _ i => T.size - (intOf i).toNat)
            case atStart => exact ⟨0, true, 0, rfl, rfl, rfl, Nat.zero_le _, Lib.hid HSt.out⟩
            case round =>
              obtain ⟨j, f, n, rfl, rfl, rfl, hj, hn⟩ := hrel
              have hn1 := hn.out.1
              have hn2 := hn.out.2.1
              cases f with
              | true =>
                by_cases hlt : j < T.size
                · have hnx := hn.out.next (HAt.out j hlt) HB3.out
                  have HNx := Lib.hid hnx
                  obtain ⟨c, hc⟩ : ∃ c, (T[j]'hlt).toNat = c := ⟨_, rfl⟩
                  have hcb := UInt8.toNat_lt (T[j]'hlt)
                  rw [hc] at HNx hcb
                  have j1 : IntKind.i64.wrap (10 * n) = 10 * n := by rw [IntKind.wrap_i64]; omega
                  have j2 : IntKind.i64.wrap (10 * n + (c : Int)) = 10 * n + (c : Int) := by rw [IntKind.wrap_i64]; omega
                  have j3 : IntKind.i64.wrap (10 * n + (c : Int) - 48) = 10 * n + (c : Int) - 48 := by rw [IntKind.wrap_i64]; omega
                  have j4 : IntKind.i64.wrap (c : Int) = (c : Int) := by rw [IntKind.wrap_i64]; omega
                  have j5 : IntKind.i64.wrap ((j : Int) + 1) = (j : Int) + 1 := by rw [IntKind.wrap_i64]; have := HB3.out; have := HTl.out; omega
                  have hjI : (j : Int) < T.size := by omega
                  clear hnx hn
                  have hcc : (48 ≤ c ∧ c ≤ 57) ∨ (48 ≤ c ∧ ¬ c ≤ 57) ∨ ¬ 48 ≤ c := by omega
                  rcases hcc with ⟨c1, c2⟩ | ⟨c1, c2⟩ | c1
                  · have k1 : (48 : Int) ≤ c := by omega
                    have k2 : (c : Int) ≤ 57 := by omega
                    have HF : Hid ((decide (48 ≤ c) && decide (c ≤ 57)) = true) := Lib.hid (by simp [c1, c2])
                    clear c1 c2 hcb
                    go_wp2
                    go_round
                    case rel => exact ⟨j + 1, true, 10 * n + (c : Int) - 48, rfl, rfl, by go_num, by omega, Lib.hid (by have := HNx.out; rw [HF.out] at this; exact this)⟩
                    case measure => simp [intOf]; omega
                  · have k1 : (48 : Int) ≤ c := by omega
                    have k2 : ¬ (c : Int) ≤ 57 := by omega
                    have HF : Hid ((decide (48 ≤ c) && decide (c ≤ 57)) = false) := Lib.hid (by simp [c2])
                    clear c1 c2 hcb
                    go_wp2
                    go_round
                    case rel => exact ⟨j + 1, false, 10 * n + (c : Int) - 48, rfl, rfl, by go_num, by omega, Lib.hid (by have := HNx.out; rw [HF.out] at this; exact this)⟩
                    case measure => simp [intOf]; omega
                  · have k1 : ¬ (48 : Int) ≤ c := by omega
                    have HF : Hid ((decide (48 ≤ c) && decide (c ≤ 57)) = false) := Lib.hid (by simp [c1])
                    clear c1 hcb
                    go_wp2
                    go_round
                    case rel => exact ⟨j + 1, false, 10 * n + (c : Int) - 48, rfl, rfl, by go_num, by omega, Lib.hid (by have := HNx.out; rw [HF.out] at this; exact this)⟩
                    case measure => simp [intOf]; omega
                · have hjI : ¬ (j : Int) < T.size := by omega
                  have hnm : ∃ a : Nat, n = (a : Int) ∧ numw b = some a := by
                    obtain ⟨a, e, -, hd⟩ := hn.out.2.2.1 rfl
                    rw [List.drop_eq_nil_of_le (by rw [HTl.out]; omega)] at hd
                    exact ⟨a, e, hd⟩
                  obtain ⟨a, rfl, hnm⟩ := hnm
                  have R2 := Lib.hid (R1.out.alloc (.cells #[.bool x, .int .u64 (h : Int), .int .u64 (l : Int), .int .i64 (a : Int)] 26))
                  have Q2 := Lib.hid (Blk.new (w1.alloc (.cells #[.bool x, .int .u64 (h : Int), .int .u64 (l : Int)] 24)) 26 #[.bool x, .int .u64 (h : Int), .int .u64 (l : Int), .int .i64 (a : Int)])
                  have L2 := Lib.hid (L1.out.alloc L1.out.size (.cells #[.bool x, .int .u64 (h : Int), .int .u64 (l : Int), .int .i64 (a : Int)] 26))
                  obtain ⟨pv, hpv⟩ : ∃ pv, pvl x h l (a : Int) = pv := ⟨_, rfl⟩
                  have HVd := Lib.hid (fun W => rpvalid_at x h l (a : Int) HN64.out.1 HN64.out.2 hpv W)
                  have q2 := Q2.out
                  rw [World.size_alloc] at q2
                  have Q2' := Lib.hid q2
                  obtain ⟨p0, p1, p2, p3⟩ := q2.c4
                  clear hn hj q2
                  go_wp2_with fail
                  refine Calls.mono (HVd.out _) ?_
                  rintro e w3 ⟨rfl, hb⟩
                  have R3 := Lib.hid (R2.out.below hb R2.out.lt)
                  have Q3 := Lib.hid (Q2'.out.below hb Q2'.out.lt)
                  have L3 := Lib.hid (L2.out.trans (hb.mono L2.out.size))
                  clear hb p0 p1 p2 p3
                  cases pv with
                  | false =>
                    have hv : v = .tuple #[pfx false 0 0 0, .int .i64 30] := by
                      rcases HC.out with ⟨n, e, e2, -⟩ | ⟨-, e⟩
                      · rw [hnm] at e; injection e with e; subst e; rw [hpv] at e2; cases e2
                      · exact e
                    subst hv
                    clear hpv hnm
                    go_wp2_with (refine wpList_stcP rfl (.tmp 2) (.tmp 98) rfl w.heap.size #[.bool false, .int .u64 0, .int .u64 0, .int .i64 0] #[.bool false, .int .u64 0, .int .u64 0, .int .i64 0] rfl (by simp [Value.oneCell']) rfl rfl R3.out rfl ?_; intro w9 hk9 hb9; have K9 := Lib.hid hk9; have L9 := Lib.hid (L3.out.trans hb9); clear hk9 hb9)
                    obtain ⟨q0, q1, q2, q3⟩ := K9.out.c4
                    exact bodyPost_ret (v := .tuple #[pfx false 0 0 0, .int .i64 30]) (by simp [results, Tryz.results6, go_sem, q0, q1, q2, q3]) rfl ⟨rfl, L9.out⟩
                  | true =>
                    have hv : v = .tuple #[pfx x h l (a : Int), .int .i64 0] := by
                      rcases HC.out with ⟨n, e, e2, e3⟩ | ⟨e, -⟩
                      · rw [hnm] at e; injection e with e; subst e; exact e3
                      · have := e a hnm; rw [hpv] at this; cases this
                    subst hv
                    clear hpv hnm
                    obtain ⟨p0, p1, p2, p3⟩ := Q3.out.c4
                    go_wp2_with (refine wpList_stcP rfl (.tmp 2) (.tmp 99) rfl w.heap.size #[.bool x, .int .u64 (h : Int), .int .u64 (l : Int), .int .i64 (a : Int)] #[.bool false, .int .u64 0, .int .u64 0, .int .i64 0] rfl (by simp [Value.oneCell']) rfl rfl R3.out rfl ?_; intro w9 hk9 hb9; have K9 := Lib.hid hk9; have L9 := Lib.hid (L3.out.trans hb9); clear hk9 hb9)
                    obtain ⟨q0, q1, q2, q3⟩ := K9.out.c4
                    exact bodyPost_ret (v := .tuple #[pfx x h l (a : Int), .int .i64 0]) (by simp [results, Tryz.results6, go_sem, q0, q1, q2, q3]) rfl ⟨rfl, L9.out⟩
              | false =>
                have hv : v = .tuple #[pfx false 0 0 0, .int .i64 30] := by
                  have hno := hn.out.2.2.2 rfl
                  rcases HC.out with ⟨n, e, -⟩ | ⟨-, e⟩
                  · rw [hno] at e; cases e
                  · exact e
                subst hv
                have R2 := Lib.hid (R1.out.alloc (.cells #[.bool x, .int .u64 (h : Int), .int .u64 (l : Int), .int .i64 n] 26))
                have L2 := Lib.hid (L1.out.alloc L1.out.size (.cells #[.bool x, .int .u64 (h : Int), .int .u64 (l : Int), .int .i64 n] 26))
                have hz : (j : Int) < T.size ∨ ¬ (j : Int) < T.size := by omega
                clear hn
                rcases hz with hz | hz
                all_goals
                  go_wp2_with (refine wpList_stcP rfl (.tmp 2) (.tmp 98) rfl w.heap.size #[.bool false, .int .u64 0, .int .u64 0, .int .i64 0] #[.bool false, .int .u64 0, .int .u64 0, .int .i64 0] rfl (by simp [Value.oneCell']) rfl rfl R2.out rfl ?_; intro w9 hk9 hb9; have K9 := Lib.hid hk9; have L9 := Lib.hid (L2.out.trans hb9); clear hk9 hb9)
                  obtain ⟨q0, q1, q2, q3⟩ := K9.out.c4
                  exact bodyPost_ret (v := .tuple #[pfx false 0 0 0, .int .i64 30]) (by simp [results, Tryz.results6, go_sem, q0, q1, q2, q3]) rfl ⟨rfl, L9.out⟩
    · have hpe : p = s.size := by omega
      have hv := ppr_none HV.out (by have := hn.out; rwa [List.take_of_length_le (by rw [HLn.out]; omega)] at this)
      subst hv
      have hpI : ¬ (p : Int) < s.size := by omega
      have hpq : ((p : Int) == (s.size : Int)) = true := by simp; omega
      clear hn hsz hpe hp
      go_wp2_with (refine wpList_stcP rfl (.tmp 2) (.tmp 29) rfl w.heap.size #[.bool false, .int .u64 0, .int .u64 0, .int .i64 0] #[.bool false, .int .u64 0, .int .u64 0, .int .i64 0] rfl (by simp [Value.oneCell']) rfl rfl KR.out rfl ?_; intro w9 hk9 hb9; have K9 := Lib.hid hk9; have L9 := Lib.hid (L0.out.trans hb9); clear hk9 hb9)
      obtain ⟨q0, q1, q2, q3⟩ := K9.out.c4
      exact bodyPost_ret (v := .tuple #[pfx false 0 0 0, .int .i64 30]) (by simp [results, Tryz.results6, go_sem, q0, q1, q2, q3]) rfl ⟨rfl, L9.out⟩
end Go.Proofs.YtbpdnohcgojmbaaGreatDoor
