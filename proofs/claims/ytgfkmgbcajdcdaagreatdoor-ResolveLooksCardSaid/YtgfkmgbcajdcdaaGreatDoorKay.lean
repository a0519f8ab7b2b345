/-
  Several texts in one: IpJ, IpO, IfT, IfDo.
-/
import Derived.Test.YtgfkmgbcajdcdaaGreatDoorKax
import Derived.Test.YtgfkmgbcajdcdaaGreatDoorKaw
import Derived.Test.YtgfkmgbcajdcdaaGreatDoorKav
import Derived.Test.YtgfkmgbcajdcdaaGreatDoorKab
namespace Go.Proofs.YtgfkmgbcajdcdaaGreatDoor.Ifs
open Go.RowKit Go.Maps
set_option linter.unusedVariables false

theorem and_bit (x : Nat) : x &&& 1099511627776 = x / 1099511627776 % 2 * 1099511627776 := by
  rw [show (1099511627776 : Nat) = 2 ^ 40 by decide]
  apply Nat.eq_of_testBit_eq
  intro j
  rw [Nat.testBit_and, Nat.testBit_two_pow]
  rcases Nat.mod_two_eq_zero_or_one (x / 2 ^ 40) with h | h
  · rw [h, Nat.zero_mul, Nat.zero_testBit]
    by_cases e : 40 = j
    · subst e; rw [Nat.testBit_eq_decide_div_mod_eq, h]; rfl
    · simp [e]
  · rw [h, Nat.one_mul, Nat.testBit_two_pow]
    by_cases e : 40 = j
    · subst e; rw [Nat.testBit_eq_decide_div_mod_eq, h]; rfl
    · simp [e]
theorem and_forty (x : Nat) (hx : x < 18446744073709551616) : bits .and .u64 (x : Int) 1099511627776 = ((x / 1099511627776 % 2 * 1099511627776 : Nat) : Int) := by
  have h := u64_and_nat x 1099511627776 hx (by omega)
  rw [show ((1099511627776 : Nat) : Int) = 1099511627776 from rfl] at h
  rw [h]
  rw [and_bit]
set_option maxHeartbeats 1000000 in
theorem macI_any (m : Int) (hm : 0 ≤ m ∧ m ≤ 18446744073709551615) (w : World) : Calls Tryz.prog 78 #[.int .u64 m] w fun e w' => e = .returned (.bool (macOk m)) ∧ w = w' := by
  obtain ⟨R, hR⟩ : ∃ R, macOk m = R := ⟨_, rfl⟩
  rw [hR]
  unfold macOk at hR
  by_cases h0 : m = 0
  · have HE : Hid (R = false) := Lib.hid (by rw [← hR]; exact decide_eq_false (fun x => x.1 h0))
    have b0 : (m != 0) = false := by simpa using h0
    clear hR hm h0
    go_enter Tryz.func78, Tryz.ntmps78
    go_wp2
    go_ret
    exact ⟨by rw [HE.out]; rfl, rfl⟩
  · have b0 : (m != 0) = true := by simpa using h0
    by_cases h1 : m < 281474976710656
    · obtain ⟨x, rfl⟩ : ∃ x : Nat, m = (x : Int) := ⟨m.toNat, by omega⟩
      have ha := and_forty x (by omega)
      obtain ⟨q, hq⟩ : ∃ q : Int, ((x / 1099511627776 % 2 * 1099511627776 : Nat) : Int) = q := ⟨_, rfl⟩
      rw [hq] at ha
      have HE : Hid (R = (q == 0)) := Lib.hid (by
        rw [← hR]
        by_cases h3 : x / 1099511627776 % 2 = 1
        · have : (q == 0) = false := by simp; omega
          rw [this]
          exact decide_eq_false (fun z => z.2.2 (by omega))
        · have : (q == 0) = true := by simp; omega
          rw [this]
          exact decide_eq_true ⟨h0, h1, by omega⟩)
      obtain ⟨X, hX⟩ : ∃ X : Int, (x : Int) = X := ⟨_, rfl⟩
      rw [hX] at b0 h1 ha ⊢
      clear hR hm h0 hq hX
      go_enter Tryz.func78, Tryz.ntmps78
      go_wp2
      go_ret
      exact ⟨by rw [HE.out]; rfl, rfl⟩
    · have HE : Hid (R = false) := Lib.hid (by rw [← hR]; exact decide_eq_false (fun x => h1 x.2.1))
      clear hR hm h0
      go_enter Tryz.func78, Tryz.ntmps78
      go_wp2
      go_ret
      exact ⟨by rw [HE.out]; rfl, rfl⟩
theorem wpo_mup {o : Oper} {a : Act} {w : World} {K : Act → World → Prop} {Q : Exit → Act → World → Prop} (m x v : Operand) (t : TypeId) (hop : o.op = Op.mapUpdate t m x v)
    (k e : TypeId) (Kd : Keyed Tryz.prog k) (ht : Tryz.prog.underlying t = some (.map k e)) (R : Value → Option (DataW Unit × List MemPlace)) (b n : Nat) (D : DataW Unit)
    (hm : a.eval m = .map (some b)) (hown : w.ownsMap Tryz.prog k R b n D) (hn : n < maxLen) (key val : Value) (kl : Lit) (hx : a.eval x = key) (hv : a.eval v = val) (hkey : keyOf Tryz.prog k key = some kl)
    (d : DataW Unit) (ps : List MemPlace) (hval : R val = some (d, ps))
    (hK : ∀ w', w'.ownsMap Tryz.prog k R b (n + 1) (D.put kl d) → w.grownBy w' (some b) → K (a.put o.dst undef) w') : o.wp Tryz.prog a w K Q := by
  obtain ⟨w', hrun, r1, r2⟩ := hown.update Kd ht hn hkey hval
  unfold Oper.wp
  simp [execOp, hop, hm, hx, hv, hrun, Result.andThen]
  exact hK w' r1 r2
/-- A port more. -/
theorem IfP.grow {w W w3 : World} {p : Nat} {S : List Nat} {st : StI} (h : IfP w p S st) {AM : Option Addr} {cM n : Nat} (hc0 : w.cell? ⟨p, 0, none⟩ = some (.slice AM n cM)) (q : Prt) (hT : Tch w W []) {v1 : Value} {xs : List Value}
    (hxs : ∀ lv : List Value, w.ownsRow 0 134 5 (.slice AM n cM) n (mmC st.1 lv) → xs = mmC st.1 lv ++ (prC q ++ [.slice none 0 0]))
    (hown : w3.ownsRow 0 134 5 v1 (n + 1) xs) (hg : W.grownBy w3 (Value.slice AM n cM).ownBlock) (hv : v1.ownBlock = (Value.slice AM n cM).ownBlock ∨ v1.ownBlock = some W.heap.size) (hinv : InvI (st.1 ++ [q], st.2 ++ [[]])) :
    ∃ (m : Nat) (D : DataW Unit) (A1 : Option Addr) (c1 : Nat), v1 = .slice A1 (n + 1) c1 ∧ (∃ u, w3.cell? ⟨p, 0, none⟩ = some u) ∧ w3.frozen? ⟨p, 0, none⟩ = false ∧ (w3.setCell ⟨p, 0, none⟩ v1).cell? ⟨p, 0, none⟩ = some v1 ∧ (w3.setCell ⟨p, 0, none⟩ v1).cell? ⟨p, 1, none⟩ = some (.map (some m)) ∧ p ≠ m ∧
      (w3.setCell ⟨p, 0, none⟩ v1).ownsMap Tryz.prog 9 (plainElem Tryz.prog 3) m n D ∧ NmIs D st.1 ∧ n ≤ 8 ∧
      ∀ (w5 : World) (D' : DataW Unit), (w3.setCell ⟨p, 0, none⟩ v1).grownBy w5 (some m) → w5.ownsMap Tryz.prog 9 (plainElem Tryz.prog 3) m (n + 1) D' → NmIs D' (st.1 ++ [q]) → ∃ S', IfP w5 p S' (st.1 ++ [q], st.2 ++ [[]]) ∧ Goes w w5 S S' := by
  have hlt := h.lt
  have hf := h.few
  obtain ⟨AM', cM', m, lv, D, rfl, h2, h3, h4, h5, h6, h7, h8, h9⟩ := h
  rw [(h3.cell 0).trans (show _ = some (Value.slice AM' st.1.length cM') by rfl)] at hc0
  injection hc0 with hc
  injection hc with hc hcn hcc
  subst hc hcc hcn
  obtain rfl := hxs lv h4
  obtain ⟨A1, c1, rfl, -, -⟩ := own_sl hown
  have hnd := h2
  rw [List.nodup_cons, List.nodup_cons, List.nodup_append] at hnd
  obtain ⟨n1, n2, n3, n4, n5⟩ := hnd
  have hin : ∀ s, s ∈ obI (.slice AM' st.1.length cM') → s ∈ p :: m :: (obI (.slice AM' st.1.length cM') ++ lv.flatMap obI) := fun s hs => by simp [hs]
  have hob : ∀ s ∈ obI (.slice A1 (st.1.length + 1) c1), s ∈ obI (.slice AM' st.1.length cM') ∨ w.heap.size ≤ s := fun s hs => by
    have h10 := hT.size
    rcases hv with hv | hv
    · exact .inl (by unfold obI at hs ⊢; rw [← hv]; exact hs)
    · unfold obI at hs
      rw [hv] at hs
      have := List.mem_singleton.1 hs
      exact .inr (by omega)
  have hT3 : Tch W w3 (obI (.slice AM' st.1.length cM')) := Tch.of_grown' hg (fun g e => by rw [obI_some e]; simp)
  have pn : p ∉ obI (.slice AM' st.1.length cM') := fun hm => n1 (List.mem_cons_of_mem _ (List.mem_append_left _ hm))
  have mn : m ∉ obI (.slice AM' st.1.length cM') := fun hm => n2 (List.mem_append_left _ hm)
  have pm : p ≠ m := fun x => n1 (by simp [x])
  have hpl : p < w.heap.size := hlt p (by simp)
  have hml : m < w.heap.size := hlt m (by simp)
  have b3 := hT3.blk (hT.blk h3 (by simp)) pn
  have hTp : Tch w3 (w3.setCell ⟨p, 0, none⟩ (.slice A1 (st.1.length + 1) c1)) [p] := (Tch.refl w3 [p]).set_ (p := ⟨p, 0, none⟩) (by simp) _
  have b4 := b3.set_ 0 (.slice A1 (st.1.length + 1) c1)
  have m4 := map_tch (map_tch (map_tch h5 hT (by simp)) hT3 mn) hTp (by simpa using fun x => pm x.symm)
  have r4 := own_tch hown hTp (fun s hs hm => by
    have := List.mem_singleton.1 hm
    rcases hob s hs with k | k
    · exact pn (by rw [← this]; exact k)
    · omega)
  refine ⟨m, D, A1, c1, rfl, ⟨_, b3.cell 0⟩, b3.frozen 0, (b4.cell 0).trans rfl, (b4.cell 1).trans rfl, pm, m4, h6, hf, fun w5 D' hg5 hM5 hN5 => ?_⟩
  have hT5 : Tch (w3.setCell ⟨p, 0, none⟩ (.slice A1 (st.1.length + 1) c1)) w5 [m] := Tch.of_grown hg5 (by simp)
  have hl1 : (st.1 ++ [q]).length = st.1.length + 1 := by simp
  have hfm : (lv ++ [Value.slice none 0 0]).flatMap obI = lv.flatMap obI := by simp [obI, Value.ownBlock]
  refine ⟨p :: m :: (obI (.slice A1 (st.1.length + 1) c1) ++ lv.flatMap obI), ⟨A1, c1, m, lv ++ [.slice none 0 0], D', by simp only [hl1, hfm], ?_, ?_, ?_, ?_, hN5, by simp [h7], fun j l hj => ?_, hinv⟩, ⟨?_, fun s hs => ?_⟩⟩
  · rw [List.nodup_cons, List.nodup_cons, List.nodup_append]
    refine ⟨fun hm => ?_, fun hm => ?_, obI_nodup _, n4, fun a ha b hb e => ?_⟩
    · rcases List.mem_cons.1 hm with k | k
      · exact pm k
      rcases List.mem_append.1 k with k | k
      · rcases hob p k with k | k
        · exact pn k
        · omega
      · exact n1 (List.mem_cons_of_mem _ (List.mem_append_right _ k))
    · rcases List.mem_append.1 hm with k | k
      · rcases hob m k with k | k
        · exact mn k
        · omega
      · exact n2 (List.mem_append_right _ k)
    · rcases hob a ha with k | k
      · exact n5 a k b hb e
      · have := hlt b (List.mem_cons_of_mem _ (List.mem_cons_of_mem _ (List.mem_append_right _ hb)))
        omega
  · simp only [hl1]
    exact hT5.blk b4 (by simpa using pm)
  · simp only [hl1]
    rw [mm_app h7]
    exact own_tch r4 hT5 (fun s hs hm => by
      have := List.mem_singleton.1 hm
      rcases hob s hs with k | k
      · exact mn (by rw [← this]; exact k)
      · omega)
  · simp only [hl1]; exact hM5
  · have hj : (st.2 ++ [[]])[j]? = some l := hj
    rcases Nat.lt_or_ge j st.2.length with hjl | hjl
    · rw [List.getElem?_append_left hjl] at hj
      obtain ⟨A2, c2, e2, ho2⟩ := h8 j l hj
      have hm2 : ∀ s ∈ obI (.slice A2 l.length c2), s ∈ lv.flatMap obI := fun s hs => List.mem_flatMap.2 ⟨_, List.mem_of_getElem? e2, hs⟩
      refine ⟨A2, c2, by rw [List.getElem?_append_left (List.getElem?_eq_some_iff.1 e2).1]; exact e2, own_tch (own_tch (own_tch (own_tch ho2 hT (fun s _ => by simp)) hT3 (fun s hs hm => n5 s hm s (hm2 s hs) rfl)) hTp (fun s hs hm => ?_)) hT5 (fun s hs hm => ?_)⟩
      · rw [List.mem_singleton.1 hm] at hs
        exact n1 (List.mem_cons_of_mem _ (List.mem_append_right _ (hm2 _ hs)))
      · rw [List.mem_singleton.1 hm] at hs
        exact n2 (List.mem_append_right _ (hm2 _ hs))
    · have hjl2 : j < (st.2 ++ [[]]).length := (List.getElem?_eq_some_iff.1 hj).1
      have hj2 : j = st.2.length := by simp at hjl2; omega
      subst hj2
      rw [List.getElem?_append_right (Nat.le_refl _), Nat.sub_self] at hj
      simp at hj
      subst hj
      refine ⟨none, 0, ?_, ⟨rfl, .inl ⟨rfl, rfl⟩⟩⟩
      have e3 : st.2.length = lv.length := by rw [h7]; exact h9.len.symm
      rw [e3, List.getElem?_append_right (Nat.le_refl _), Nat.sub_self]
      rfl
  · exact (((hT.mono (by simp)).trans (hT3.mono hin)).trans (hTp.mono (by simp))).trans (hT5.mono (by simp))
  · rcases List.mem_cons.1 hs with k | k
    · exact .inl (by rw [k]; simp)
    rcases List.mem_cons.1 k with k | k
    · exact .inl (by rw [k]; simp)
    rcases List.mem_append.1 k with k | k
    · rcases hob s k with k | k
      · exact .inl (hin s k)
      · exact .inr k
    · exact .inl (List.mem_cons_of_mem _ (List.mem_cons_of_mem _ (List.mem_append_right _ k)))
theorem i64w {x : Nat} (h : x ≤ 100) : (Lit.int .i64 (x : Int)).wf = true := by
  simp [Lit.wf, IntKind.min, IntKind.max, IntKind.bits, IntKind.signed]; omega
set_option maxRecDepth 100000 in
set_option maxHeartbeats 4000000 in
theorem addP_bad (p : Nat) (S : List Nat) (st : StI) (nm : ByteArray) (mac mtu : Int) (hm : 0 ≤ mac ∧ mac ≤ 18446744073709551615) (hb : nameOk nm = false ∨ namedI st.1 nm ≠ 0 ∨ (macOk mac && mtuOk mtu) = false ∨ 8 ≤ st.1.length) (w : World) (h : IfP w p S st) :
    Calls Tryz.prog 37 #[.pointer (some ⟨p, 0, none⟩), .string nm, .int .u64 mac, .int .i64 mtu] w fun e w' => e = .returned (.tuple #[.int .i64 (addI st nm mac mtu).2.1, .int .i64 (addI st nm mac mtu).2.2]) ∧ (addI st nm mac mtu).1 = st ∧ Tch w w' [] := by
  have HNa := Lib.hid (isName_any nm w)
  obtain ⟨N0, hN0⟩ : ∃ b, nameOk nm = b := ⟨_, rfl⟩
  rw [hN0] at HNa hb
  cases N0 with
  | false =>
    have HE : Hid (addI st nm mac mtu = (st, 0, 130)) := Lib.hid (by unfold addI; rw [if_pos (.inl hN0)])
    clear h hm hb hN0
    go_enter Tryz.func37, Tryz.ntmps37
    go_wp2_with fail
    refine Calls.mono HNa.out ?_
    rintro e w1 ⟨rfl, hT⟩
    have HT := Lib.hid hT
    clear hT
    go_wp2
    go_ret2
    rw [HE.out]
    exact ⟨rfl, rfl, HT.out⟩
  | true =>
    have hs8 : nm.size ≤ 8 := ((nameOk_iff).1 hN0).1.2
    have HNd := Lib.hid (fun W (hT : Tch w W []) => pnamed_any p S st nm (by omega) W (h.tch hT (by simp)))
    obtain ⟨N1, hN1⟩ : ∃ k, namedI st.1 nm = k := ⟨_, rfl⟩
    rw [hN1] at HNd hb
    by_cases h1 : N1 = 0
    · subst h1
      have b1 : (((0 : Nat) : Int) != 0) = false := by rfl
      have HMc := Lib.hid (fun W => macI_any mac hm W)
      obtain ⟨AM, cM, m, D, c0, -, -, -, hpl⟩ := h.head
      obtain ⟨C, hC⟩ : ∃ b, macOk mac = b := ⟨_, rfl⟩
      rw [hC] at HMc hb
      have HC0 : Hid (∀ W, Tch w W [] → W.cell? ⟨p, 0, none⟩ = some (.slice AM st.1.length cM)) := Lib.hid (fun W hT => (hT.cell (p := ⟨p, 0, none⟩) hpl (by simp)).trans c0)
      by_cases h2 : (C && mtuOk mtu) = false
      · have HE : Hid (addI st nm mac mtu = (st, 0, 1)) := Lib.hid (by
          unfold addI
          rw [if_neg (fun x => by rcases x with x | x; (rw [hN0] at x; cases x); exact x hN1), if_pos (by rw [hC]; exact h2)])
        have hcs : C = false ∨ mtu < 68 ∨ 1500 < mtu := by
          cases C with
          | false => exact .inl rfl
          | true =>
            rw [Bool.true_and] at h2
            unfold mtuOk at h2
            have := of_decide_eq_false h2
            omega
        clear h hm hb hN0 hs8 hN1 hC h2 c0 hpl HC0
        go_enter Tryz.func37, Tryz.ntmps37
        go_wp2_with fail
        refine Calls.mono HNa.out ?_
        rintro e w1 ⟨rfl, hT⟩
        have HT := Lib.hid hT
        clear hT
        go_wp2_with fail
        refine Calls.mono (HNd.out _ HT.out) ?_
        rintro e w2 ⟨rfl, rfl⟩
        go_wp2_with fail
        refine Calls.mono (HMc.out _) ?_
        rintro e w2 ⟨rfl, rfl⟩
        cases C with
        | false =>
          clear hcs
          go_wp2
          go_ret2
          rw [HE.out]
          exact ⟨rfl, rfl, HT.out⟩
        | true =>
          have hcs : mtu < 68 ∨ 1500 < mtu := by rcases hcs with h | h; cases h; exact h
          by_cases h3 : mtu < 68
          · clear hcs
            go_wp2
            go_ret2
            rw [HE.out]
            exact ⟨rfl, rfl, HT.out⟩
          · have h4 : 1500 < mtu := by rcases hcs with h | h; exact absurd h h3; exact h
            clear hcs
            go_wp2
            go_ret2
            rw [HE.out]
            exact ⟨rfl, rfl, HT.out⟩
      · have h8 : 8 ≤ st.1.length := by
          rcases hb with h | h | h | h
          · cases h
          · exact absurd rfl h
          · exact absurd h h2
          · exact h
        have hn8 := h.few
        have HE : Hid (addI st nm mac mtu = (st, 0, 131)) := Lib.hid (by
          unfold addI
          rw [if_neg (fun x => by rcases x with x | x; (rw [hN0] at x; cases x); exact x hN1), if_neg (by rw [hC]; exact h2), if_pos h8])
        have hC1 : C = true ∧ ¬ mtu < 68 ∧ ¬ 1500 < mtu := by
          cases C with
          | false => exact absurd rfl h2
          | true =>
            rw [Bool.true_and, Bool.not_eq_false] at h2
            unfold mtuOk at h2
            have := of_decide_eq_true h2
            exact ⟨rfl, by omega, by omega⟩
        obtain ⟨rfl, m1, m2⟩ := hC1
        obtain ⟨n, hn⟩ : ∃ n, st.1.length = n := ⟨_, rfl⟩
        rw [hn] at HC0 h8 hn8
        have b8 : ((n : Int) == 8) = true := by have : n = 8 := by omega
                                                subst this; rfl
        clear h hm hb hN0 hs8 hN1 hC h2 c0 hpl h8 hn8 hn
        go_enter Tryz.func37, Tryz.ntmps37
        go_wp2_with fail
        refine Calls.mono HNa.out ?_
        rintro e w1 ⟨rfl, hT⟩
        have HT := Lib.hid hT
        have c1 := HC0.out w1 hT
        clear hT
        go_wp2_with fail
        refine Calls.mono (HNd.out _ HT.out) ?_
        rintro e w2 ⟨rfl, rfl⟩
        go_wp2_with fail
        refine Calls.mono (HMc.out _) ?_
        rintro e w2 ⟨rfl, rfl⟩
        go_wp2
        go_ret2
        rw [HE.out]
        exact ⟨rfl, rfl, HT.out⟩
    · have HE : Hid (addI st nm mac mtu = (st, 0, 130)) := Lib.hid (by unfold addI; rw [if_pos (.inr (by rw [hN1]; exact h1))])
      have b1 : ((N1 : Int) != 0) = true := by simpa using h1
      clear h hm hb hN0 hs8 hN1 h1
      go_enter Tryz.func37, Tryz.ntmps37
      go_wp2_with fail
      refine Calls.mono HNa.out ?_
      rintro e w1 ⟨rfl, hT⟩
      have HT := Lib.hid hT
      clear hT
      go_wp2_with fail
      refine Calls.mono (HNd.out _ HT.out) ?_
      rintro e w2 ⟨rfl, rfl⟩
      go_wp2
      go_ret2
      rw [HE.out]
      exact ⟨rfl, rfl, HT.out⟩
end Go.Proofs.YtgfkmgbcajdcdaaGreatDoor.Ifs

namespace Go.Proofs.YtgfkmgbcajdcdaaGreatDoor.Ifs
open Go.RowKit Go.Maps
set_option linter.unusedVariables false

theorem IfP.mrow {w : World} {p : Nat} {S : List Nat} {st : StI} (h : IfP w p S st) : ∃ (AM : Option Addr) (cM : Nat) (lv : List Value), w.cell? ⟨p, 0, none⟩ = some (.slice AM st.1.length cM) ∧ w.ownsRow 0 134 5 (.slice AM st.1.length cM) st.1.length (mmC st.1 lv) := by
  obtain ⟨AM, cM, m, lv, D, rfl, h2, h3, h4, -⟩ := h
  exact ⟨AM, cM, lv, (h3.cell 0).trans rfl, h4⟩
set_option maxRecDepth 100000 in
set_option maxHeartbeats 4000000 in
theorem addP_ok (p : Nat) (S : List Nat) (st : StI) (nm : ByteArray) (mac mtu : Int) (hm : 0 ≤ mac ∧ mac ≤ 18446744073709551615) (hb : nameOk nm = true ∧ namedI st.1 nm = 0 ∧ (macOk mac && mtuOk mtu) = true ∧ st.1.length < 8) (w : World) (h : IfP w p S st) :
    Calls Tryz.prog 37 #[.pointer (some ⟨p, 0, none⟩), .string nm, .int .u64 mac, .int .i64 mtu] w fun e w' => e = .returned (.tuple #[.int .i64 (addI st nm mac mtu).2.1, .int .i64 (addI st nm mac mtu).2.2]) ∧ ∃ S', IfP w' p S' (addI st nm mac mtu).1 ∧ Goes w w' S S' := by
  obtain ⟨hN0, hN1, hmm, hlt8⟩ := hb
  have hinv := h.inv.add nm mac mtu
  have hAdd : addI st nm mac mtu = ((st.1 ++ [(nm, mac, mtu, false)], st.2 ++ [[]]), ((st.1.length + 1 : Nat) : Int), 0) := by
    unfold addI
    rw [if_neg (by rw [hN0, hN1]; simp), if_neg (by rw [hmm]; simp), if_neg (by omega)]
  rw [hAdd] at hinv
  have hs8 : nm.size ≤ 8 := ((nameOk_iff).1 hN0).1.2
  have HNa := Lib.hid (isName_any nm w)
  rw [hN0] at HNa
  have HNd := Lib.hid (fun W (hT : Tch w W []) => pnamed_any p S st nm (by omega) W (h.tch hT (by simp)))
  rw [hN1] at HNd
  have HMc := Lib.hid (fun W => macI_any mac hm W)
  have hC1 : macOk mac = true ∧ ¬ mtu < 68 ∧ ¬ 1500 < mtu := by
    rw [Bool.and_eq_true] at hmm
    have h9 := hmm.2
    unfold mtuOk at h9
    have := of_decide_eq_true h9
    exact ⟨hmm.1, by omega, by omega⟩
  rw [hC1.1] at HMc
  obtain ⟨-, m1, m2⟩ := hC1
  have HSc := Lib.hid (fun W => sclone_any nm (by omega) W)
  obtain ⟨AM, cM, lv, c0, hrow⟩ := h.mrow
  have HKey := Lib.hid (WideMaps.keyOf_string_mk Tryz.underlying9 (s := nm) (by unfold maxLen; omega))
  have HAd : Hid (∀ k : Nat, st.1.length + 1 = k → addI st nm mac mtu = ((st.1 ++ [(nm, mac, mtu, false)], st.2 ++ [[]]), (k : Int), 0)) := Lib.hid (fun k hk => by rw [hAdd, hk])
  have hpl : p < w.heap.size := h.lt p h.pin
  obtain ⟨n, hn⟩ : ∃ n, st.1.length = n := ⟨_, rfl⟩
  rw [hn] at c0 hrow hlt8
  have HN := Lib.hid hn
  have HP := Lib.hid h
  have HC0 : Hid (∀ W, Tch w W [] → W.cell? ⟨p, 0, none⟩ = some (.slice AM n cM)) := Lib.hid (fun W hT => (hT.cell (p := ⟨p, 0, none⟩) hpl (by simp)).trans c0)
  have HC := Lib.hid c0
  have HRow : Hid (∀ W, Tch w W [] → W.ownsRow 0 134 5 (.slice AM n cM) n (mmC st.1 lv)) := Lib.hid (fun W hT => own_tch hrow hT (by simp))
  have HXs : Hid (∀ lv' : List Value, w.ownsRow 0 134 5 (.slice AM n cM) n (mmC st.1 lv') → mmC st.1 lv ++ [.string nm, .int .u64 mac, .int .i64 mtu, .bool false, .slice none 0 0] = mmC st.1 lv' ++ (prC (nm, mac, mtu, false) ++ [.slice none 0 0])) := Lib.hid (fun lv' h' => by rw [own_uniq hrow h']; rfl)
  have HInv := Lib.hid hinv
  have HMX : Hid (n < maxLen ∧ n ≤ 1000000 ∧ n + 1 ≤ 100) := Lib.hid ⟨by unfold maxLen; omega, by omega, by omega⟩
  have HN1 := Lib.hid hN1
  have b8 : ((n : Int) == 8) = false := by simp; omega
  have b1 : (((0 : Nat) : Int) != 0) = false := by rfl
  clear h hinv hN0 hN1 hmm hs8 hm hAdd hpl hn c0 hrow hlt8
  go_enter Tryz.func37, Tryz.ntmps37
  go_wp2_with fail
  refine Calls.mono HNa.out ?_
  rintro e w1 ⟨rfl, hT⟩
  have HT := Lib.hid hT
  have c1 := HC0.out w1 hT
  clear hT
  go_wp2_with fail
  refine Calls.mono (HNd.out _ HT.out) ?_
  rintro e w2 ⟨rfl, rfl⟩
  go_wp2_with fail
  refine Calls.mono (HMc.out _) ?_
  rintro e w2 ⟨rfl, rfl⟩
  go_wp2_with fail
  refine Calls.mono (HSc.out _) ?_
  rintro e w2 ⟨rfl, hb2⟩
  have HT2 := Lib.hid (HT.out.trans (Tch.of_below [] hb2))
  have c2 := HC0.out w2 HT2.out
  have HR2 := Lib.hid ((HRow.out w2 HT2.out).alloc (.cells #[.string nm, .int .u64 mac, .int .i64 mtu, .bool false, .slice none 0 0] 134))
  have HTW := Lib.hid (HT2.out.alloc (.cells #[.string nm, .int .u64 mac, .int .i64 mtu, .bool false, .slice none 0 0] 134))
  have HSr := Lib.hid (src_new w2 134 [.string nm, .int .u64 mac, .int .i64 mtu, .bool false, .slice none 0 0])
  clear hb2 c1
  go_wp2_with (at_builtin; (refine wpList_apc 153 134 (.agg #[.string ⟨#[]⟩, .int .u64 0, .int .i64 0, .bool false, .slice none 0 0]) 5 64 Tryz.underlying153 infoMm rfl (by decide) (by decide) _ rfl (.tmp 45) (.tmp 51) rfl 0 (.slice AM n cM) n (mmC st.1 lv) rfl HR2.out ⟨w2.heap.size, 0, none⟩ 1 [.string nm, .int .u64 mac, .int .i64 mtu, .bool false, .slice none 0 0] rfl rfl (fun j u hj => HSr.out j u hj) (by simp [Value.oneCell']) HMX.out.2.1 (Nat.zero_le _) ?_; intro v1 w3 hown hg hv; obtain ⟨m, D, A1, c1, rfl, ⟨u, hu⟩, f3, d0, d1, pm, hM, hNm, hn8, hclose⟩ := IfP.grow HP.out HC.out (nm, mac, mtu, false) HTW.out HXs.out hown hg hv HInv.out; have HM := Lib.hid hM; have HNm := Lib.hid hNm; have HCl := Lib.hid hclose; have HD := Lib.hid (And.intro d1 d0); have HPm := Lib.hid pm; clear hM hNm hclose hown hg hv pm hn8 c2))
  refine wp_region_held_drew (S := (fun W => W.cell? ⟨p, 1, none⟩ = some (Value.map (some m)) ∧ W.cell? ⟨p, 0, none⟩ = some (Value.slice A1 (n + 1) c1))) (by kernel_rfl) ?_ (fun hHeld => ?_)
  · (exact HD.out)
  refine wpAnyH_take (i := 0) (oi := { dst := some 55, op := Go.Op.move (Go.Operand.tmp 0), type := 33, pos := "iface.go:53", after := #[], guard := none }) (v := ?_) rfl (by kernel_rfl) (by kernel_rfl) (by kernel_rfl) (fun _ _ _ h => h) (Or.inl ⟨by rfl, ?_⟩) (by assumption) ?_
  rotate_left
  · intro w hSw
    (try dsimp only at hSw)
    go_simp
    try (with_reducible rfl)
  try simp only [Act.put, List.setIfInBounds_toArray, List.set_cons_zero, List.set_cons_succ]
  refine wpAnyH_take (i := 1) (oi := { dst := some 56, op := Go.Op.nilCheck (Go.Operand.tmp 55), type := 0, pos := "iface.go:53", after := #[{ on := 0, ground := Go.Ground.data }], guard := none }) (v := ?_) rfl (by kernel_rfl) (by kernel_rfl) (by kernel_rfl) (fun _ _ _ h => h) (Or.inl ⟨by rfl, ?_⟩) (by assumption) ?_
  rotate_left
  · intro w hSw
    (try dsimp only at hSw)
    go_simp
    try (with_reducible rfl)
  try simp only [Act.put, List.setIfInBounds_toArray, List.set_cons_zero, List.set_cons_succ]
  refine wpAnyH_take (i := 2) (oi := { dst := some 57, op := Go.Op.fieldAddr 155 (Go.Operand.tmp 56) 1, type := 0, pos := "iface.go:53", after := #[{ on := 1, ground := Go.Ground.data }], guard := none }) (v := ?_) rfl (by kernel_rfl) (by kernel_rfl) (by kernel_rfl) (fun _ _ _ h => h) (Or.inl ⟨by rfl, ?_⟩) (by assumption) ?_
  rotate_left
  · intro w hSw
    (try dsimp only at hSw)
    go_simp
    try (with_reducible rfl)
  try simp only [Act.put, List.setIfInBounds_toArray, List.set_cons_zero, List.set_cons_succ]
  refine wpAnyH_take (i := 3) (oi := { dst := some 58, op := Go.Op.load 152 (Go.Operand.tmp 57), type := 152, pos := "iface.go:53", after := #[{ on := 2, ground := Go.Ground.data }], guard := none }) (v := ?_) rfl (by kernel_rfl) (by kernel_rfl) (by kernel_rfl) (fun _ _ _ h => h) (Or.inl ⟨by rfl, ?_⟩) (by assumption) ?_
  rotate_left
  · intro w hSw
    (try dsimp only at hSw)
    go_simp
    try (with_reducible rfl)
  try simp only [Act.put, List.setIfInBounds_toArray, List.set_cons_zero, List.set_cons_succ]
  refine wpAnyH_take (i := 4) (oi := { dst := some 59, op := Go.Op.move (Go.Operand.tmp 1), type := 9, pos := "iface.go:53", after := #[], guard := none }) (v := ?_) rfl (by kernel_rfl) (by kernel_rfl) (by kernel_rfl) (fun _ _ _ h => h) (Or.inl ⟨by rfl, ?_⟩) (by assumption) ?_
  rotate_left
  · intro w hSw
    (try dsimp only at hSw)
    go_simp
    try (with_reducible rfl)
  try simp only [Act.put, List.setIfInBounds_toArray, List.set_cons_zero, List.set_cons_succ]
  refine wpAnyH_take (i := 5) (oi := { dst := some 60, op := Go.Op.move (Go.Operand.tmp 0), type := 33, pos := "iface.go:53", after := #[], guard := none }) (v := ?_) rfl (by kernel_rfl) (by kernel_rfl) (by kernel_rfl) (fun _ _ _ h => h) (Or.inl ⟨by rfl, ?_⟩) (by assumption) ?_
  rotate_left
  · intro w hSw
    (try dsimp only at hSw)
    go_simp
    try (with_reducible rfl)
  try simp only [Act.put, List.setIfInBounds_toArray, List.set_cons_zero, List.set_cons_succ]
  refine wpAnyH_take (i := 6) (oi := { dst := some 61, op := Go.Op.nilCheck (Go.Operand.tmp 60), type := 0, pos := "iface.go:53", after := #[{ on := 5, ground := Go.Ground.data }], guard := none }) (v := ?_) rfl (by kernel_rfl) (by kernel_rfl) (by kernel_rfl) (fun _ _ _ h => h) (Or.inl ⟨by rfl, ?_⟩) (by assumption) ?_
  rotate_left
  · intro w hSw
    (try dsimp only at hSw)
    go_simp
    try (with_reducible rfl)
  try simp only [Act.put, List.setIfInBounds_toArray, List.set_cons_zero, List.set_cons_succ]
  refine wpAnyH_take (i := 7) (oi := { dst := some 62, op := Go.Op.fieldAddr 155 (Go.Operand.tmp 61) 0, type := 0, pos := "iface.go:53", after := #[{ on := 6, ground := Go.Ground.data }], guard := none }) (v := ?_) rfl (by kernel_rfl) (by kernel_rfl) (by kernel_rfl) (fun _ _ _ h => h) (Or.inl ⟨by rfl, ?_⟩) (by assumption) ?_
  rotate_left
  · intro w hSw
    (try dsimp only at hSw)
    go_simp
    try (with_reducible rfl)
  try simp only [Act.put, List.setIfInBounds_toArray, List.set_cons_zero, List.set_cons_succ]
  refine wpAnyH_take (i := 8) (oi := { dst := some 63, op := Go.Op.load 153 (Go.Operand.tmp 62), type := 153, pos := "iface.go:53", after := #[{ on := 7, ground := Go.Ground.data }], guard := none }) (v := ?_) rfl (by kernel_rfl) (by kernel_rfl) (by kernel_rfl) (fun _ _ _ h => h) (Or.inl ⟨by rfl, ?_⟩) (by assumption) ?_
  rotate_left
  · intro w hSw
    (try dsimp only at hSw)
    go_simp
    try (with_reducible rfl)
  try simp only [Act.put, List.setIfInBounds_toArray, List.set_cons_zero, List.set_cons_succ]
  refine wpAnyH_take (i := 9) (oi := { dst := some 64, op := Go.Op.call { callee := Go.Callee.builtin Go.Builtin.len, args := #[Go.Operand.tmp 63], argTypes := #[153] }, type := 3, pos := "iface.go:53", after := #[{ on := 8, ground := Go.Ground.data }], guard := none }) (v := ?_) rfl (by kernel_rfl) (by kernel_rfl) (by kernel_rfl) (fun _ _ _ h => h) (Or.inl ⟨by rfl, ?_⟩) (by assumption) ?_
  rotate_left
  · intro w hSw
    (try dsimp only at hSw)
    go_simp
    try (with_reducible rfl)
  try simp only [Act.put, List.setIfInBounds_toArray, List.set_cons_zero, List.set_cons_succ]
  refine wpAnyH_ready (rs := [10]) (by kernel_rfl) (by simp) ?_
  refine AllReadyH.cons (o := { dst := none, op := Go.Op.mapUpdate 152 (Go.Operand.tmp 58) (Go.Operand.tmp 59) (Go.Operand.tmp 64), type := 0, pos := "iface.go:53", after := #[{ on := 3, ground := Go.Ground.data }, { on := 4, ground := Go.Ground.data }, { on := 9, ground := Go.Ground.data }, { on := 0, ground := Go.Ground.phase }, { on := 1, ground := Go.Ground.phase }, { on := 2, ground := Go.Ground.phase }, { on := 3, ground := Go.Ground.phase }, { on := 4, ground := Go.Ground.phase }, { on := 5, ground := Go.Ground.phase }, { on := 6, ground := Go.Ground.phase }, { on := 7, ground := Go.Ground.phase }, { on := 8, ground := Go.Ground.phase }, { on := 9, ground := Go.Ground.phase }], guard := none }) rfl (fun K hK => ?_) AllReadyH.nil
  rw [if_pos (by rfl)]
  refine wpo_mup (.tmp 58) (.tmp 59) (.tmp 64) 152 rfl 9 3 lawN Tryz.underlying152 (plainElem Tryz.prog 3) m n D rfl HM.out.drew HMX.out.1 (.string nm) (.int .i64 ((n + 1 : Nat) : Int)) _ rfl rfl HKey.out _ [] (plainElem_int Tryz.underlying3 (i64w HMX.out.2.2)) (fun w5 hM5 hG5 => ?_)
  have HM5 := Lib.hid hM5
  have HG5 := Lib.hid hG5
  clear hM5 hG5
  refine hK.out _ _ ?_ (fun hHeld => ?_)
  · (exact And.intro (HG5.out.cell HD.out.1 (by simpa using HPm.out)) (HG5.out.cell HD.out.2 (by simpa using HPm.out)))
  clear hK K
  try simp only [Act.put]
  refine wpAnyH_done (by kernel_rfl) ?_ _
  have HS5 := Lib.hid (And.intro (HG5.out.cell HD.out.1 (by simpa using HPm.out)) (HG5.out.cell HD.out.2 (by simpa using HPm.out)))
  have e0 := HS5.out.2
  clear d0 d1 hu f3
  go_wp2
  go_ret2
  obtain ⟨S', hI, hG⟩ := HCl.out w5 _ ⟨HG5.out.os, HG5.out.tape, HG5.out.output, HG5.out.size, HG5.out.block⟩ HM5.out (by
    have h1 := HNm.out.put HM.out.isMap (q := (nm, mac, mtu, false)) HN1.out
    rw [HN.out] at h1
    exact h1)
  rw [HAd.out (n + 1) (by rw [HN.out])]
  exact ⟨rfl, S', hI, hG⟩
theorem addP (p : Nat) (S : List Nat) (st : StI) (nm : ByteArray) (mac mtu : Int) (hs : nm.size ≤ 9223372036854775807) (hm : 0 ≤ mac ∧ mac ≤ 18446744073709551615) (hi : I64 mtu) (w : World) (h : IfP w p S st) :
    Calls Tryz.prog 37 #[.pointer (some ⟨p, 0, none⟩), .string nm, .int .u64 mac, .int .i64 mtu] w fun e w' => e = .returned (.tuple #[.int .i64 (addI st nm mac mtu).2.1, .int .i64 (addI st nm mac mtu).2.2]) ∧ ∃ S', IfP w' p S' (addI st nm mac mtu).1 ∧ Goes w w' S S' := by
  by_cases hb : nameOk nm = false ∨ namedI st.1 nm ≠ 0 ∨ (macOk mac && mtuOk mtu) = false ∨ 8 ≤ st.1.length
  · refine Calls.mono (addP_bad p S st nm mac mtu hm hb w h) ?_
    rintro e w' ⟨rfl, h1, hT⟩
    exact ⟨rfl, S, by rw [h1]; exact h.tch hT (by simp), Goes.of_tch (hT.mono (by simp))⟩
  · refine addP_ok p S st nm mac mtu hm ⟨?_, ?_, ?_, ?_⟩ w h
    · cases e : nameOk nm with
      | true => rfl
      | false => exact absurd (.inl e) hb
    · exact Classical.byContradiction fun e => hb (.inr (.inl e))
    · cases e : (macOk mac && mtuOk mtu) with
      | true => rfl
      | false => exact absurd (.inr (.inr (.inl e))) hb
    · exact Nat.lt_of_not_le fun e => hb (.inr (.inr (.inr e)))
end Go.Proofs.YtgfkmgbcajdcdaaGreatDoor.Ifs

namespace Go.Proofs.YtgfkmgbcajdcdaaGreatDoor.Ifs
open Go.RowKit
set_option linter.unusedVariables false

/-- A step: What, Name, Mac, N, Port, Up, Addr. -/
structure StpI where
  what : Int
  name : ByteArray
  mac : Int
  num : Int
  port : Int
  up : Bool
  ad : AdI
def StpI.ok (x : StpI) : Prop := I64 x.what ∧ x.name.size ≤ 9223372036854775807 ∧ (0 ≤ x.mac ∧ x.mac ≤ 18446744073709551615) ∧ I64 x.num ∧ I64 x.port ∧ (N64 x.ad.2.1 ∧ N64 x.ad.2.2)
def stC (x : StpI) : List Value := [.int .i64 x.what, .string x.name, .int .u64 x.mac, .int .i64 x.num, .int .i64 x.port, .bool x.up, .bool x.ad.1, .int .u64 (x.ad.2.1 : Int), .int .u64 (x.ad.2.2 : Int)]
abbrev stV (x : StpI) : Value := .agg #[.int .i64 x.what, .string x.name, .int .u64 x.mac, .int .i64 x.num, .int .i64 x.port, .bool x.up, .bool x.ad.1, .int .u64 (x.ad.2.1 : Int), .int .u64 (x.ad.2.2 : Int)]
/-- What a step leaves; what it answers. -/
def doI (st : StI) (x : StpI) : StI × Int × Int :=
  if x.what % 8 = 0 then addI st x.name x.mac x.num
  else if x.what % 8 = 1 then ((turnI st x.port x.up).1, 0, (turnI st x.port x.up).2)
  else if x.what % 8 = 5 then ((dropI st x.port x.ad).1, 0, (dropI st x.port x.ad).2)
  else ((putI st x.port x.ad x.num).1, 0, (putI st x.port x.ad x.num).2)
theorem and_lowI (n : Int) (k : Nat) (hk : k ≤ 16) : bits .and .i64 n ((2 ^ k - 1 : Nat) : Int) = n % ((2 ^ k : Nat) : Int) := by
  have h0 : 2 ^ k ≤ 2 ^ 16 := Nat.pow_le_pow_right (by decide) hk
  have h00 : 0 < 2 ^ k := Nat.pow_pos (by decide)
  have h7 : (BitVec.ofInt 64 ((2 ^ k - 1 : Nat) : Int)).toNat = 2 ^ k - 1 := by
    rw [BitVec.toNat_ofInt]
    omega
  have key : (BitVec.ofInt 64 n &&& BitVec.ofInt 64 ((2 ^ k - 1 : Nat) : Int)).toNat = (n % ((2 ^ 64 : Nat) : Int)).toNat % 2 ^ k := by
    rw [BitVec.toNat_and, BitVec.toNat_ofInt, h7, Nat.and_two_pow_sub_one_eq_mod]
  show IntKind.i64.wrap ((BitVec.ofInt 64 n &&& BitVec.ofInt 64 ((2 ^ k - 1 : Nat) : Int)).toNat : Nat) = n % ((2 ^ k : Nat) : Int)
  rw [key, IntKind.wrap_i64]
  have hd : ((2 ^ k : Nat) : Int) ∣ ((2 ^ 64 : Nat) : Int) := Int.natCast_dvd_natCast.2 (Nat.pow_dvd_pow 2 (by omega))
  have h1 : (((n % ((2 ^ 64 : Nat) : Int)).toNat % 2 ^ k : Nat) : Int) = n % ((2 ^ k : Nat) : Int) := by
    rw [Int.natCast_emod, Int.toNat_of_nonneg (by omega), Int.emod_emod_of_dvd n hd]
  have h2 := Int.emod_lt_of_pos n (show (0 : Int) < ((2 ^ k : Nat) : Int) by omega)
  have h3 := Int.emod_nonneg n (show ((2 ^ k : Nat) : Int) ≠ 0 by omega)
  rw [h1]
  omega
theorem and7I (n : Int) : bits .and .i64 n 7 = n % 8 := by have := and_lowI n 3 (by decide); simpa using this
end Go.Proofs.YtgfkmgbcajdcdaaGreatDoor.Ifs

namespace Go.Proofs.YtgfkmgbcajdcdaaGreatDoor.Ifs
open Go.RowKit
set_option linter.unusedVariables false

set_option maxRecDepth 100000 in
set_option maxHeartbeats 4000000 in
theorem do_any (p : Nat) (S : List Nat) (st : StI) (x : StpI) (hx : x.ok) (w : World) (h : IfP w p S st) :
    Calls Tryz.prog 85 #[.pointer (some ⟨p, 0, none⟩), stV x] w fun e w' => e = .returned (.tuple #[.int .i64 (doI st x).2.1, .int .i64 (doI st x).2.2]) ∧ ∃ S', IfP w' p S' (doI st x).1 ∧ Goes w w' S S' := by
  obtain ⟨wh, nm, mac, nu, po, up, s, ah, al⟩ := x
  obtain ⟨o1, o2, o3, o4, o5, o6⟩ := hx
  have o6 : N64 ah ∧ N64 al := o6
  obtain ⟨xb, hxb⟩ : ∃ xb, w.heap.size = xb := ⟨_, rfl⟩
  obtain ⟨W0, hW0⟩ : ∃ W, w.alloc (.cells #[.int .i64 wh, .string nm, .int .u64 mac, .int .i64 nu, .int .i64 po, .bool up, .bool s, .int .u64 (ah : Int), .int .u64 (al : Int)] 111) = W := ⟨_, rfl⟩
  have hX : Blk W0 xb 111 #[.int .i64 wh, .string nm, .int .u64 mac, .int .i64 nu, .int .i64 po, .bool up, .bool s, .int .u64 (ah : Int), .int .u64 (al : Int)] := hW0 ▸ hxb ▸ Blk.new _ _ _
  have x0 := (hX.cell 0).trans (show _ = some (Value.int .i64 wh) by rfl)
  have x1 := (hX.cell 1).trans (show _ = some (Value.string nm) by rfl)
  have x2 := (hX.cell 2).trans (show _ = some (Value.int .u64 mac) by rfl)
  have x3 := (hX.cell 3).trans (show _ = some (Value.int .i64 nu) by rfl)
  have x4 := (hX.cell 4).trans (show _ = some (Value.int .i64 po) by rfl)
  have x5 := (hX.cell 5).trans (show _ = some (Value.bool up) by rfl)
  have x6 := (hX.cell 6).trans (show _ = some (Value.bool s) by rfl)
  have x7 := (hX.cell 7).trans (show _ = some (Value.int .u64 (ah : Int)) by rfl)
  have x8 := (hX.cell 8).trans (show _ = some (Value.int .u64 (al : Int)) by rfl)
  have hT0 : Tch w W0 [] := hW0 ▸ (Tch.refl w []).alloc _
  have HT0 : Hid (Tch w W0 S) := Lib.hid (hT0.mono (by simp))
  have hP0 := h.tch hT0 (by simp)
  have HW0 := Lib.hid (And.intro hW0 hxb)
  obtain ⟨k, hk⟩ : ∃ k, wh % 8 = k := ⟨_, rfl⟩
  have ha : bits .and .i64 wh 7 = k := by rw [and7I]; exact hk
  have HGo : Hid (∀ W S', Goes W0 W S S' → Goes w W S S') := Lib.hid (fun W S' hg => (Goes.of_tch HT0.out).trans hg)
  by_cases k0 : k = 0
  · subst k0
    have HE : Hid (doI st ⟨wh, nm, mac, nu, po, up, s, ah, al⟩ = addI st nm mac nu) := Lib.hid (by unfold doI; rw [if_pos (show wh % 8 = 0 from hk)])
    have HC := Lib.hid (addP p S st nm mac nu o2 o3 o4 W0 hP0)
    clear hk hP0 h hT0 hX hW0 hxb o1 o2 o3 o4 o5 o6
    go_enter Tryz.func85, Tryz.ntmps85
    go_wp2_with fail
    rw [HW0.out.1, HW0.out.2]
    refine Calls.mono HC.out ?_
    rintro e w1 ⟨rfl, S', hI, hg⟩
    have HI := Lib.hid hI
    have HG := Lib.hid (HGo.out _ _ hg)
    clear hI hg x0 x1 x2 x3 x4 x5 x6 x7 x8
    go_wp2
    refine bodyPost_ret (v := .tuple #[.int .i64 (addI st nm mac nu).2.1, .int .i64 (addI st nm mac nu).2.2]) (by simp [results, Tryz.results85, go_sem]) rfl ⟨by rw [HE.out], S', by rw [HE.out]; exact HI.out, HG.out⟩
  by_cases k1 : k = 1
  · subst k1
    have HE : Hid (doI st ⟨wh, nm, mac, nu, po, up, s, ah, al⟩ = ((turnI st po up).1, 0, (turnI st po up).2)) := Lib.hid (by unfold doI; rw [if_neg (show ¬ wh % 8 = 0 by omega), if_pos (show wh % 8 = 1 from hk)])
    have HC := Lib.hid (turnP p S st po up o5 W0 hP0)
    clear hk hP0 h hT0 hX hW0 hxb o1 o2 o3 o4 o5 o6
    go_enter Tryz.func85, Tryz.ntmps85
    go_wp2_with fail
    rw [HW0.out.1, HW0.out.2]
    refine Calls.mono HC.out ?_
    rintro e w1 ⟨rfl, S', hI, hg⟩
    have HI := Lib.hid hI
    have HG := Lib.hid (HGo.out _ _ hg)
    clear hI hg x0 x1 x2 x3 x4 x5 x6 x7 x8
    go_wp2
    refine bodyPost_ret (v := .tuple #[.int .i64 (((turnI st po up).1, 0, (turnI st po up).2)).2.1, .int .i64 (((turnI st po up).1, 0, (turnI st po up).2)).2.2]) (by simp [results, Tryz.results85, go_sem]) rfl ⟨by rw [HE.out], S', by rw [HE.out]; exact HI.out, HG.out⟩
  by_cases k5 : k = 5
  · subst k5
    have HE : Hid (doI st ⟨wh, nm, mac, nu, po, up, s, ah, al⟩ = ((dropI st po (s, ah, al)).1, 0, (dropI st po (s, ah, al)).2)) := Lib.hid (by unfold doI; rw [if_neg (show ¬ wh % 8 = 0 by omega), if_neg (show ¬ wh % 8 = 1 by omega), if_pos (show wh % 8 = 5 from hk)])
    have HC := Lib.hid (dropP p S st po (s, ah, al) o6 o5 W0 hP0)
    clear hk hP0 h hT0 hX hW0 hxb o1 o2 o3 o4 o5 o6
    go_enter Tryz.func85, Tryz.ntmps85
    go_wp2_with fail
    rw [HW0.out.1, HW0.out.2]
    refine Calls.mono HC.out ?_
    rintro e w1 ⟨rfl, S', hI, hg⟩
    have HI := Lib.hid hI
    have HG := Lib.hid (HGo.out _ _ hg)
    clear hI hg x0 x1 x2 x3 x4 x5 x6 x7 x8
    go_wp2
    refine bodyPost_ret (v := .tuple #[.int .i64 (((dropI st po (s, ah, al)).1, 0, (dropI st po (s, ah, al)).2)).2.1, .int .i64 (((dropI st po (s, ah, al)).1, 0, (dropI st po (s, ah, al)).2)).2.2]) (by simp [results, Tryz.results85, go_sem]) rfl ⟨by rw [HE.out], S', by rw [HE.out]; exact HI.out, HG.out⟩
  · have b0 : (k == (0 : Int)) = false := by simpa using k0
    have b1 : (k == (1 : Int)) = false := by simpa using k1
    have b5 : (k == (5 : Int)) = false := by simpa using k5
    have HE : Hid (doI st ⟨wh, nm, mac, nu, po, up, s, ah, al⟩ = ((putI st po (s, ah, al) nu).1, 0, (putI st po (s, ah, al) nu).2)) := Lib.hid (by unfold doI; rw [if_neg (show ¬ wh % 8 = 0 by omega), if_neg (show ¬ wh % 8 = 1 by omega), if_neg (show ¬ wh % 8 = 5 by omega)])
    have HC := Lib.hid (putP p S st po (s, ah, al) o6 nu o5 o4 W0 hP0)
    clear hk k0 k1 k5 hP0 h hT0 hX hW0 hxb o1 o2 o3 o4 o5 o6
    go_enter Tryz.func85, Tryz.ntmps85
    go_wp2_with fail
    rw [HW0.out.1, HW0.out.2]
    refine Calls.mono HC.out ?_
    rintro e w1 ⟨rfl, S', hI, hg⟩
    have HI := Lib.hid hI
    have HG := Lib.hid (HGo.out _ _ hg)
    clear hI hg x0 x1 x2 x3 x4 x5 x6 x7 x8
    go_wp2
    refine bodyPost_ret (v := .tuple #[.int .i64 (((putI st po (s, ah, al) nu).1, 0, (putI st po (s, ah, al) nu).2)).2.1, .int .i64 (((putI st po (s, ah, al) nu).1, 0, (putI st po (s, ah, al) nu).2)).2.2]) (by simp [results, Tryz.results85, go_sem]) rfl ⟨by rw [HE.out], S', by rw [HE.out]; exact HI.out, HG.out⟩
end Go.Proofs.YtgfkmgbcajdcdaaGreatDoor.Ifs
