/-
  The program's Options of layer 9: any text.
-/
import Derived.Test.YtnligeelbajnpaaNRo
import Derived.Test.YtnligeelbajnpaaReaderB
import Derived.Test.YtnligeelbajnpaaFConv
namespace Go.Proofs.Ytnligeelbajnpaa
open Go.RowKit
set_option linter.unusedVariables false

theorem own_mono9 {w : World} {base base' : Nat} {e : TypeId} {size : Nat} {v : Value} {n : Nat} {xs : List Value} (h : w.ownsRow base e size v n xs) (hb : base' ≤ base) : w.ownsRow base' e size v n xs := by
  refine ⟨h.1, ?_⟩
  rcases h.2 with h | ⟨g, cap, cur, a, b, c⟩
  · exact .inl h
  · exact .inr ⟨g, cap, cur, a, Nat.le_trans hb b, c⟩
/-- A reader behind what wrote at most into a row of blocks that lie behind it. -/
theorem Rd.on {w w' : World} {L B r : Nat} {zs : List Int} {sh : Bool} {row : Option Nat} (h : Rd w L B r zs sh) (hB : B ≤ w.heap.size) (hg : w.grownBy w' row) (hr : ∀ k, row = some k → B ≤ k) : Rd w' L B r zs sh :=
  h.keep fun b h1 h2 => hg.block b (by omega) (fun e => by have := hr b e.symm; omega)
/-- A row of its own behind what wrote at most into a block that lies ahead of it. -/
theorem own_on {w w' : World} {base r : Nat} {e : TypeId} {size : Nat} {v : Value} {n : Nat} {xs : List Value} (h : w.ownsRow base e size v n xs) (hg : w.grownBy w' (some r)) (hr : r < base) : w'.ownsRow base e size v n xs :=
  h.kept hg (by
    by_cases hn : v.ownBlock = none
    · exact .inl hn
    · exact .inr fun e => by have := (h.lt r e).1; omega)
theorem num1 {b : Int} {q : List Int} : numOf ((b :: q).take 1) = b := by simp [numOf]
/-- Bytes from a place on. -/
theorem byt_drop {s : ByteArray} {L : List UInt8} (hL : s.data.toList = L) (p : Nat) : (byt s).drop p = (L.drop p).map fun b => (b.toNat : Int) := by
  unfold byt; rw [hL, List.map_drop]
theorem strOf_map (l : List UInt8) : strOfNums (l.map fun b => (b.toNat : Int)) = ⟨l.toArray⟩ := by
  have h := byt_mk l
  have : byt (strOfNums (l.map fun b => (b.toNat : Int))) = byt ⟨l.toArray⟩ := by
    rw [byt_str (by intro z hz; obtain ⟨b, _, rfl⟩ := List.mem_map.1 hz; have := UInt8.toNat_lt b; omega), h]
  exact byt_inj this

theorem numOf_one (b : Int) : numOf [b] = b := by simp [numOf]
/-- 'append' of one option onto a row of the call's own. -/
theorem wpList_appn (w : World) {ops : Array Oper} {rest : List Oper} {o : Oper} {a : Act} {Q : Exit → Act → World → Prop} (hgd : o.guard = none) (s x : Operand)
    (ho : o.op = .call { callee := .builtin .append, args := #[s, x], argTypes := #[38, 38] })
    (base : Nat) (v : Value) (l : List Opt9) (n : Nat) (hs : a.eval s = v) (hown : w.ownsRow base 43 2 v n (ncells l))
    (g : Nat) (k : Int) (d : ByteArray) (y : Opt9) (hy : ncell y = [.int .i64 k, .string d]) (hx : a.eval x = .slice (some ⟨g, 0, none⟩) 1 1)
    (hc0 : w.cell? ⟨g, 0, none⟩ = some (.int .i64 k)) (hc1 : w.cell? ⟨g, 1, none⟩ = some (.string d)) (hsz : n + 1 ≤ 5000000000000) (hbase : base ≤ w.heap.size)
    (h : ∀ v' w', w'.ownsRow base 43 2 v' (n + 1) (ncells (l ++ [y])) → w.grownBy w' v.ownBlock → wpList Try.prog ops Q rest (a.put o.dst v') w') :
    wpList Try.prog ops Q (o :: rest) a w := by
  obtain ⟨i0, hi, hz0, hz1, hz2⟩ := info_parts infoOpt9
  refine wpList_append_own_at w hgd s x 38 ho base 43 i0 (.agg #[.int .i64 0, .string ⟨#[]⟩]) 2 24 Try.underlying38 hi hz0 hz1 hz2 rfl (by decide) v n _ hs hown ⟨g, 0, none⟩ 1 1 (ncell y) hx rfl (fun j u hj => by
    rw [hy] at hj
    rcases j with _ | _ | j
    · simp at hj; subst hj; simpa [Addr.add] using hc0
    · simp at hj; subst hj; simpa [Addr.add] using hc1
    · simp at hj) (fun u hu => by
      rw [hy] at hu
      simp at hu
      rcases hu with rfl | rfl <;> rfl) (by unfold maxLen; omega) (by omega) hbase ?_
  intro v' w' h1 h2 h3 h4
  exact h v' w' (by rw [ncells_snoc]; exact h1) h2
/-- How many a slice has. -/
def sliceLen : Value → Nat
  | .slice _ n _ => n
  | _ => 0

set_option maxRecDepth 100000 in
set_option maxHeartbeats 16000000 in
theorem nopt_any (s : ByteArray) (hs : s.size ≤ 4000000000000) (w : World) :
    Calls Try.prog 13 #[.string s] w (OpOut w (ops s.data.toList)) := by
  obtain ⟨L, hL⟩ : ∃ L, s.data.toList = L := ⟨_, rfl⟩
  have HLn : Hid (L.length = s.size) := Lib.hid (by rw [← hL]; exact (Lib.size_eq s).symm)
  have HDr := Lib.hid (fun p => byt_drop hL p)
  have hcv := conv_bytes w s
  have HS := Lib.hid hs
  have HNew := Lib.hid (new_any (Lib.bytesWorld w 5 s) _ _ s.size (grownCap w s.size 0 5) (byt s) (bytesWorld_ri w s) (Nat.le_refl _) (by omega))
  have HBW := Lib.hid (bytesWorld_below w s)
  rw [hL]
  obtain ⟨R, hR⟩ : ∃ R, ops L = R := ⟨_, rfl⟩
  rw [hR]
  have HG0 : Hid (glueO [] (ops (L.drop 0)) = R) := Lib.hid (by rw [List.drop_zero, hR, glueO_nil]; intro h; rw [← hR] at h ⊢; exact ops_bad _ h)
  have HBad : Hid (∀ W : World, Below w.heap.size w W → ∀ e : Int, R = ([], e) → OpOut w R (.returned (.tuple #[.slice none 0 0, .int .i64 e])) W) := Lib.hid fun W hb e he => by
    rw [he]; exact ⟨_, rfl, ⟨rfl, .inl ⟨rfl, rfl⟩⟩, hb⟩
  clear hL hR hs
  go_enter Try.func13, Try.ntmps13
  go_wp2_with fail
  refine Calls.mono HNew.out ?_
  rintro e w1 ⟨r, rfl, hrd, hb⟩
  have HB1 := Lib.hid (HBW.out.trans (hb.mono HBW.out.size))
  obtain ⟨L0, hL0⟩ : ∃ L0, (Lib.bytesWorld w 5 s).heap.size = L0 := ⟨_, rfl⟩
  have HL0 : Hid (w.heap.size ≤ L0) := Lib.hid (by rw [← hL0]; exact HBW.out.size)
  rw [hL0] at hrd
  obtain ⟨M, hM⟩ : ∃ M, w1.heap.size = M := ⟨_, rfl⟩
  have HM := Lib.hid hM
  rw [hM] at hrd
  have HRM : Hid (L0 ≤ r ∧ r < M) := Lib.hid (by obtain ⟨A, n, c, h1, h2, h3, h4, h5, h6, h7⟩ := hrd; exact ⟨h6, h7⟩)
  have HR0 := Lib.hid hrd
  clear hb hcv hrd hL0 hM HNew
  go_wp2
  go_loopw [4] (fun v wr => ∃ (p n : Nat) (l : List Opt9), p ≤ s.size ∧ l.length = n ∧ n ≤ p ∧ Hid (wr.ownsRow M 43 2 v n (ncells l) ∧ Below w.heap.size w wr ∧ M ≤ wr.heap.size ∧ Rd wr L0 M r ((byt s).drop p) false ∧ glueO l (ops (L.drop p)) = R)) (fun v _ => s.size - sliceLen v)
  case atStart => exact ⟨0, 0, [], Nat.zero_le _, rfl, Nat.le_refl _, Lib.hid ⟨⟨rfl, .inl ⟨rfl, rfl⟩⟩, HB1.out, Nat.le_of_eq HM.out.symm, by rw [List.drop_zero]; exact HR0.out, HG0.out⟩⟩
  case round =>
    obtain ⟨p, n, l, hp, hn, hnp, hH⟩ := hrel
    obtain ⟨A0, c0, rfl⟩ := nown_form hH.out.1
    have HN := Lib.hid hn
    have HP := Lib.hid (And.intro hp hnp)
    have hsz := HS.out
    have HRB : Hid (w.heap.size ≤ r) := Lib.hid (Nat.le_trans HL0.out HRM.out.1)
    have HWM : Hid (w.heap.size ≤ M) := Lib.hid (by have := HRM.out; have := HRB.out; omega)
    clear hn
    by_cases hlt : p < s.size
    · obtain ⟨k, q, hkq⟩ : ∃ k q, L.drop p = k :: q := by
        cases hd : L.drop p with
        | nil => have := congrArg List.length hd; rw [List.length_drop, HLn.out] at this; simp only [List.length_nil] at this; omega
        | cons k q => exact ⟨k, q, rfl⟩
      have HKQ := Lib.hid hkq
      have HLQ : Hid (q.length + 1 + p = s.size) := Lib.hid (by have := congrArg List.length hkq; rw [List.length_drop, HLn.out] at this; simp only [List.length_cons] at this; omega)
      have hrd0 : Rd wr L0 M r ((k.toNat : Int) :: q.map (fun b => (b.toNat : Int))) false := by
        have := hH.out.2.2.2.1
        rw [HDr.out, hkq] at this
        exact this
      have HLf : Hid (∃ N0 : Nat, 0 < N0 ∧ Calls Try.prog 23 #[.pointer (some ⟨r, 0, none⟩)] wr fun e w' => e = .returned (.int .i64 (N0 : Int)) ∧ wr = w') := Lib.hid ⟨_, Nat.succ_pos _, left_any hrd0⟩
      obtain ⟨N0, hN0, hLf⟩ := HLf.out
      have HLf := Lib.hid hLf
      have d0 : (0 : Int) < (N0 : Int) := by omega
      obtain ⟨kn, hkn⟩ : ∃ kn, k.toNat = kn := ⟨_, rfl⟩
      have hK0 := UInt8.toNat_lt k
      rw [hkn] at hrd0 hK0
      have HKN := Lib.hid hkn
      have HN1 : Hid (Calls Try.prog 24 #[.pointer (some ⟨r, 0, none⟩), .int .i64 1] wr fun e w' => e = .returned (.int .u64 (kn : Int)) ∧ Rd w' L0 M r (q.map (fun b => (b.toNat : Int))) false ∧ Only wr w' r) := Lib.hid (by
        have := num_yes hrd0 (k := 1) (by decide) (by simp)
        simpa [numOf_one] using this)
      have hw4 : IntKind.i64.wrap (kn : Int) = kn := by rw [IntKind.wrap_i64]; omega
      clear hlt hp hnp hsz hLf hkq hrd0 hkn hN0
      go_wp2_with fail
      refine Calls.mono HLf.out ?_
      rintro e w2 ⟨rfl, rfl⟩
      go_wp2_with fail
      refine Calls.mono HN1.out ?_
      rintro e w2 ⟨rfl, hr2, ho2⟩
      have HO2 := Lib.hid ho2
      have HR2 := Lib.hid hr2
      have HB2 := Lib.hid (hH.out.2.1.trans (ho2.below HRB.out))
      clear hr2 ho2
      rcases q with _ | ⟨u, q2⟩
      · have HB : Hid (R = ([], 81)) := Lib.hid (by rw [← hH.out.2.2.2.2, HKQ.out, ops_lone]; rfl)
        have HN2 := Lib.hid (num_no HR2.out (k := 1) (.inr (.inr (.inr (by simp)))))
        go_wp2_with fail
        refine Calls.mono HN2.out ?_
        rintro e w3 ⟨rfl, hr3, ho3⟩
        have HB3 := Lib.hid (HB2.out.trans (ho3.below HRB.out))
        have HSh := Lib.hid (short_any hr3)
        clear hr3 ho3
        go_wp2_with fail
        refine Calls.mono HSh.out ?_
        rintro e w4 ⟨rfl, rfl⟩
        go_wp2
        exact bodyPost_ret (v := .tuple #[.slice none 0 0, .int .i64 81]) (by simp [results, Try.results13, go_sem]) rfl (HBad.out _ HB3.out _ HB.out)
      · obtain ⟨m, hm⟩ : ∃ m, u.toNat = m := ⟨_, rfl⟩
        have hM0 := UInt8.toNat_lt u
        have HST := Lib.hid (ops_two k u q2)
        have HR2' : Rd w2 L0 M r ((m : Int) :: q2.map (fun b => (b.toNat : Int))) false := by have := HR2.out; rw [List.map_cons, hm] at this; exact this
        rw [hm] at HST hM0
        have HN2 : Hid (Calls Try.prog 24 #[.pointer (some ⟨r, 0, none⟩), .int .i64 1] w2 fun e w' => e = .returned (.int .u64 (m : Int)) ∧ Rd w' L0 M r (q2.map (fun b => (b.toNat : Int))) false ∧ Only w2 w' r) := Lib.hid (by
          have := num_yes HR2' (k := 1) (by decide) (by simp)
          simpa [numOf_one] using this)
        have hw5 : IntKind.i64.wrap (m : Int) = m := by rw [IntKind.wrap_i64]; omega
        clear hm HR2'
        go_wp2_with fail
        refine Calls.mono HN2.out ?_
        rintro e w3 ⟨rfl, hr3, ho3⟩
        have HO3 := Lib.hid ho3
        have HR3 := Lib.hid hr3
        have HB3 := Lib.hid (HB2.out.trans (ho3.below HRB.out))
        have HSh := Lib.hid (short_any hr3)
        clear hr3 ho3
        go_wp2_with fail
        refine Calls.mono HSh.out ?_
        rintro e w4 ⟨rfl, rfl⟩
        by_cases hz : m = 0
        · have HB : Hid (R = ([], 80)) := Lib.hid (by rw [← hH.out.2.2.2.2, HKQ.out, HST.out, if_pos hz]; rfl)
          have d3 : ((m : Int) == 0) = true := by simp; omega
          clear hz
          go_wp2
          exact bodyPost_ret (v := .tuple #[.slice none 0 0, .int .i64 80]) (by simp [results, Try.results13, go_sem]) rfl (HBad.out _ HB3.out _ HB.out)
        have d3 : ((m : Int) == 0) = false := by simp; omega
        obtain ⟨K, hK⟩ : ∃ K, K + 2 = 8 * m := ⟨8 * m - 2, by omega⟩
        have hw6 : IntKind.i64.wrap ((m : Int) * 8) = (K : Int) + 2 := by rw [IntKind.wrap_i64]; omega
        have hw7 : IntKind.i64.wrap (K : Int) = (K : Int) := by rw [IntKind.wrap_i64]; omega
        by_cases hlong : q2.length < K
        · have HB : Hid (R = ([], 81)) := Lib.hid (by rw [← hH.out.2.2.2.2, HKQ.out, HST.out, if_neg hz, if_pos (by omega)]; rfl)
          have HN3 := Lib.hid (bytes_no HR3.out (k := (K : Int)) (.inr (by rw [List.length_map]; omega)))
          have hcv := fun W : World => conv_str (w := W) (B := 0) (n := 0) (c := 0) (A := none) (zs := []) RI.nil_
          clear hz hlong hK
          go_wp2_with fail
          refine Calls.mono HN3.out ?_
          rintro e w4 ⟨rfl, hr4, hg4⟩
          have HB4 := Lib.hid (HB3.out.trans (grown_below hg4 HRB.out HB3.out.size))
          have HSh4 := Lib.hid (short_any hr4)
          clear hr4 hg4
          go_wp2_with fail
          refine Calls.mono HSh4.out ?_
          rintro e w5 ⟨rfl, rfl⟩
          go_wp2
          exact bodyPost_ret (v := .tuple #[.slice none 0 0, .int .i64 81]) (by simp [results, Try.results13, go_sem]) rfl (HBad.out _ HB4.out _ HB.out)
        · have HKL : Hid (K ≤ q2.length) := Lib.hid (by omega)
          have HKM : Hid (K + 2 = 8 * m ∧ m ≠ 0) := Lib.hid ⟨hK, hz⟩
          have HRn : Hid (glueO (l ++ [(k, q2.take K)]) (ops (L.drop (p + 2 + K))) = R) := Lib.hid (by
            rw [← hH.out.2.2.2.2, HKQ.out, HST.out, if_neg hz, if_neg (by omega), glueO_cons, show 8 * m - 2 = K by omega]
            have : L.drop (p + 2 + K) = q2.drop K := by rw [show p + 2 + K = p + (K + 2) by omega, ← List.drop_drop, HKQ.out]; rfl
            rw [this])
          have HM3 : Hid (M ≤ w3.heap.size) := Lib.hid (by have := hH.out.2.2.1; have := HO2.out.2.2.2.1; have := HO3.out.2.2.2.1; omega)
          have HOw : Hid (w3.ownsRow M 43 2 (.slice A0 n c0) n (ncells l)) := Lib.hid (own_on (own_on hH.out.1 HO2.out.grown HRM.out.2) HO3.out.grown HRM.out.2)
          have HN3 := Lib.hid (bytes_yes HR3.out (k := K) HM3.out (by rw [List.length_map]; exact HKL.out))
          obtain ⟨dd, hdd⟩ : ∃ dd : ByteArray, (⟨(q2.take K).toArray⟩ : ByteArray) = dd := ⟨_, rfl⟩
          have HY : Hid (ncell (k, q2.take K) = [.int .i64 (kn : Int), .string dd]) := Lib.hid (by unfold ncell; rw [HKN.out, hdd])
          have HST2 : Hid (strOfNums ((q2.map (fun b => (b.toNat : Int))).take K) = dd) := Lib.hid (by rw [← List.map_take, strOf_map, hdd])
          clear hz hlong hK hdd
          go_wp2_with fail
          refine Calls.mono HN3.out ?_
          rintro e w4 ⟨rfl, hk4, hr4, hg4⟩
          have HB4 := Lib.hid (HB3.out.trans (grown_below hg4 HRB.out HB3.out.size))
          have HOw4 := Lib.hid (own_on HOw.out hg4 HRM.out.2)
          have HM4 : Hid (M ≤ w4.heap.size) := Lib.hid (Nat.le_trans HM3.out hg4.size)
          have HR4 := Lib.hid hr4
          have HSh4 := Lib.hid (short_any hr4)
          have hcv : (convert 49 9 (.slice (some ⟨w3.heap.size, 0, none⟩) K K)).run Try.prog w4 = .ok (.string dd) w4 := by
            have h1 := hk4.reads (fun z hz => by
              obtain ⟨b, _, rfl⟩ := List.mem_map.1 (List.mem_of_mem_take hz)
              exact wf_u8 (by have := UInt8.toNat_lt b; omega)) hk4.lt
            have hl : ((q2.map (fun b => (b.toNat : Int))).take K).length = K := by rw [List.length_take, List.length_map]; have := HKL.out; omega
            rw [hl] at h1
            have := conv_str (c := K) h1
            rw [HST2.out] at this
            exact this
          have n0 := Blk.new w4 43 #[.int .i64 (kn : Int), .string dd]
          have HC0 := Lib.hid ((n0.cell 0).trans (show _ = some (Value.int .i64 (kn : Int)) by rfl))
          have HC1 := Lib.hid ((n0.cell 1).trans (show _ = some (Value.string dd) by rfl))
          clear hk4 hr4 hg4 n0
          go_wp2_with fail
          refine Calls.mono HSh4.out ?_
          rintro e w5 ⟨rfl, rfl⟩
          go_wp2_with (at_builtin; refine wpList_appn _ rfl (.tmp 33) (.tmp 37) rfl M (.slice A0 n c0) l n rfl (HOw4.out.alloc _) w4.heap.size (kn : Int) dd (k, q2.take K) HY.out rfl HC0.out HC1.out (by have := HP.out; have := HS.out; omega) (by have := HM4.out; simp; omega) ?_; intro v6 w6 hown6 hg6; have HOW := Lib.hid hown6; have HG6 := Lib.hid hg6; clear hown6 hg6)
          go_roundw
          case rel =>
            have hsz6 : w4.heap.size < w6.heap.size := by have := HG6.out.size; simp at this; omega
            refine ⟨p + 2 + K, n + 1, l ++ [(k, q2.take K)], by have := HKL.out; have hq := HLQ.out; simp only [List.length_cons] at hq; omega, by rw [List.length_append, HN.out]; rfl, by have := HP.out; omega, Lib.hid ⟨HOW.out, (HB4.out.alloc HB4.out.size _).grown HG6.out (by have := HB4.out.size; simp; omega) (fun j hj => Nat.le_trans HWM.out (own_basek HOw4.out j hj)), by have := HM4.out; omega, ?_, HRn.out⟩⟩
            have h6 : Rd w6 L0 M r ((q2.map (fun b => (b.toNat : Int))).drop K) false := ((HR4.out.on HM4.out (World.grownBy_alloc _ _ none) (fun _ h => by cases h))).on (by have := HM4.out; simp; omega) HG6.out (fun j hj => own_basek HOw4.out j hj)
            have e6 : (byt s).drop (p + 2 + K) = (q2.map (fun b => (b.toNat : Int))).drop K := by
              rw [HDr.out, show p + 2 + K = p + (K + 2) by omega, ← List.drop_drop, HKQ.out, ← List.map_drop]; rfl
            rw [e6]
            exact h6
          case measure =>
            obtain ⟨A6, c6, e6⟩ := nown_form HOW.out
            rw [e6]
            show s.size - (n + 1) < s.size - n
            have := HP.out; have := HLQ.out; simp only [List.length_cons] at this; omega
    · have hpe : s.size = p := by omega
      have hrd0 : Rd wr L0 M r [] false := by
        have := hH.out.2.2.2.1
        rw [HDr.out, List.drop_eq_nil_of_le (by rw [HLn.out]; omega)] at this
        exact this
      have HLf := Lib.hid (left_any hrd0)
      have hR2 : R = (l, 0) := by
        rw [← hH.out.2.2.2.2, ops_at_end (by rw [HLn.out]; omega)]
        unfold glueO
        rw [if_pos rfl, List.append_nil]
      have HB := Lib.hid hR2
      have hO := own_mono9 hH.out.1 HWM.out
      have HO := Lib.hid hO
      clear hlt hp hnp hsz hR2 hrd0 hO hpe
      go_wp2_with fail
      refine Calls.mono HLf.out ?_
      rintro e w2 ⟨rfl, rfl⟩
      go_wp2
      refine bodyPost_ret (v := .tuple #[.slice A0 n c0, .int .i64 0]) (by simp [results, Try.results13, go_sem]) rfl ?_
      rw [HB.out]
      exact ⟨_, rfl, by have := HN.out; subst this; exact HO.out, hH.out.2.1⟩
end Go.Proofs.Ytnligeelbajnpaa
