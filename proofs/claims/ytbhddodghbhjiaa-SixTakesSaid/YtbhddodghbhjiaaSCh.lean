/-
  ip6.Chain of any number and any text.
-/
import Derived.Test.YtbhddodghbhjiaaSCn
import Derived.Test.YtbhddodghbhjiaaAppk
import Derived.ScopeJumps
import Derived.WalkMore
import Derived.Lib.Hide
import Derived.Lib.Strings
namespace Go.Proofs.Ytbhddodghbhjiaa
open Go.RowKit
set_option linter.unusedVariables false

/-- A header's cells. -/
def ecell (x : Ex) : List Value := [.int .i64 x.k, .int .i64 (x.a : Int), .int .i64 (x.n : Int)]
def ecells (l : List Ex) : List Value := l.flatMap ecell
theorem ecells_snoc (l : List Ex) (x : Ex) : ecells (l ++ [x]) = ecells l ++ ecell x := by simp [ecells]
theorem ecells_len (l : List Ex) : (ecells l).length = l.length * 3 := by
  induction l with
  | nil => rfl
  | cons x r ih => simp only [ecells, List.flatMap_cons, List.length_append, List.length_cons] at ih ⊢; rw [ih]; simp [ecell]; omega
theorem infoExt : (Try.prog.info? 45).map (fun i => (i.zero, i.size, i.bytes)) = some (some (.agg #[.int .i64 0, .int .i64 0, .int .i64 0]), 3, 24) := by kernel_rfl
/-- 'append' of one header onto a row of the call's own. -/
theorem wpList_appe (w : World) {ops : Array Oper} {rest : List Oper} {o : Oper} {a : Act} {Q : Exit → Act → World → Prop} (hgd : o.guard = none) (s x : Operand)
    (ho : o.op = .call { callee := .builtin .append, args := #[s, x], argTypes := #[40, 40] })
    (base : Nat) (v : Value) (l : List Ex) (n : Nat) (hn : l.length = n) (hs : a.eval s = v) (hown : w.ownsRow base 45 3 v n (ecells l))
    (g : Nat) (y : Ex) (hx : a.eval x = .slice (some ⟨g, 0, none⟩) 1 1) (hg : Blk w g 45 #[.int .i64 y.k, .int .i64 (y.a : Int), .int .i64 (y.n : Int)]) (hsz : n + 1 ≤ 5000000000000) (hbase : base ≤ w.heap.size)
    (h : ∀ v' w', w'.ownsRow base 45 3 v' (n + 1) (ecells (l ++ [y])) → w.grownBy w' v.ownBlock → wpList Try.prog ops Q rest (a.put o.dst v') w') :
    wpList Try.prog ops Q (o :: rest) a w := by
  obtain ⟨i0, hi, hz0, hz1, hz2⟩ := info_parts infoExt
  refine wpList_append_own_at w hgd s x 40 ho base 45 i0 (.agg #[.int .i64 0, .int .i64 0, .int .i64 0]) 3 24 Try.underlying40 hi hz0 hz1 hz2 rfl (by decide) v n _ hs hown ⟨g, 0, none⟩ 1 1 (ecell y) hx rfl ?_ ?_ (by unfold maxLen; omega) (by omega) hbase ?_
  · intro j u hj
    rcases j with _ | _ | _ | j
    · simp [ecell] at hj; subst hj; simpa [Addr.add] using (hg.cell 0)
    · simp [ecell] at hj; subst hj; simpa [Addr.add] using (hg.cell 1)
    · simp [ecell] at hj; subst hj; simpa [Addr.add] using (hg.cell 2)
    · simp [ecell] at hj
  · intro u hu
    simp [ecell] at hu
    rcases hu with rfl | rfl | rfl <;> rfl
  · intro v' w' h1 h2 _ _
    exact h v' w' (by rw [ecells_snoc]; exact h1) h2
theorem own_form3 {w : World} {R n : Nat} {t : TypeId} {v : Value} {xs : List Value} (h : w.ownsRow R t 3 v n xs) : ∃ a c, v = .slice a n c := by
  rcases h.2 with ⟨hv, h0⟩ | ⟨g, cap, cur, hv, _⟩
  · exact ⟨none, 0, by rw [hv, h0]⟩
  · exact ⟨_, _, hv⟩
theorem own_below3 {w w' : World} {R n k : Nat} {t : TypeId} {v : Value} {xs : List Value} (h : w.ownsRow R t k v n xs) (hb : Below w.heap.size w w') : w'.ownsRow R t k v n xs := by
  refine ⟨h.1, h.2.imp id ?_⟩
  rintro ⟨g, cap, cur, a, b, c, d⟩
  refine ⟨g, cap, cur, a, b, ?_, d⟩
  rw [hb.block g ?_]
  · exact c
  · exact (show Blk w g t cur from c).lt
/-- A scope whose one label is come to from ahead and by jumps: what holds there, and a measure that each jump lowers. -/
theorem wp_scope_one {P : Program} {a : Act} {w : World} {Q : Exit → Act → World → Prop} {c b : Code} (l : Nat) (J : Act → World → Prop) (μ : Act → World → Nat) (hf : findLabel c l = some (.seq .skip b))
    (hc : ∀ Q' : Exit → Act → World → Prop, (∀ a w, J a w → b.wp P Q' a w) → c.wp P Q' a w)
    (pass : ∀ a w, J a w → b.wp P (Exit.jump l (fun a' w' => J a' w' ∧ μ a' w' < μ a w) Q) a w) : (Code.scope c).wp P Q a w := by
  refine wp_scope_jumps l J μ hf (hc _ fun a w hJ => wp_mono (pass a w hJ) ?_) (fun a w hJ => wp_seq (wp_skip (pass a w hJ)))
  intro e a' w' h
  cases e with
  | goto l' =>
    simp only [Exit.jump] at h ⊢
    exact ⟨h.1, h.2.1⟩
  | normal => exact h
  | exit id => exact h
  | ret => exact h
  | panic ch => exact h
  | outgrown => exact h
/-- What Chain hands back. -/
def ChOut (w : World) (R : Cr) (e : Ending) (w' : World) : Prop :=
  ∃ v, e = .returned (.tuple #[v, .int .i64 R.n, .int .i64 (R.t : Int), .int .i64 R.e]) ∧ w'.ownsRow w.heap.size 45 3 v R.l.length (ecells R.l) ∧ Below w.heap.size w w'
/-- How much longer a header is than eight bytes. -/
def moV (t : ByteArray) : Int := if t.size ≤ 1 then 0 else 8 * (bA t 1 : Int)
set_option maxHeartbeats 1000000 in
theorem more_any (t : ByteArray) (w : World) : Calls Try.prog 49 #[.string t] w fun e w' => e = .returned (.int .i64 (moV t)) ∧ w = w' := by
  have HM : Hid (moV t = if t.size ≤ 1 then 0 else 8 * (bA t 1 : Int)) := Lib.hid rfl
  by_cases h : t.size ≤ 1
  · have h1 : (t.size : Int) ≤ 1 := by omega
    go_enter Try.func49, Try.ntmps49
    go_wp2
    go_ret
    exact ⟨ret_k (by rw [HM.out, if_pos h]), rfl⟩
  · have h1 : ¬ (t.size : Int) ≤ 1 := by omega
    have h2 : (1 : Int) < t.size := by omega
    have hb := bA_at t 1 (by omega)
    have hlt := bA_lt t 1
    obtain ⟨N, hN⟩ : ∃ N, bA t 1 = N := ⟨_, rfl⟩
    rw [hN] at hb hlt HM
    clear hN
    go_enter Try.func49, Try.ntmps49
    go_wp2
    go_ret
    exact ⟨ret_k (by rw [HM.out, if_neg h]), rfl⟩
/-- What holds at the label. -/
def ChJ (w0 : World) (s : ByteArray) (X : Cr) (a : Act) (w : World) : Prop :=
  ∃ (nx : Int) (p : Nat) (sz : Int) (v : Value) (l : List Ex) (u2 u3 u11 u12 u13 u14 u15 u16 u17 u18 u19 u20 u21 u22 u23 u24 u25 u26 u27 u28 u29 u30 u31 u32 u33 u34 u35 u36 u37 u38 u39 u40 u41 u42 u43 u44 u45 u46 u47 u48 u49 u50 u51 u52 u53 : Value), a = { tmps := #[.int .i64 nx, .string s, u2, u3, .slice none 0 0, .int .i64 0, .int .i64 0, .int .i64 0, v, .int .i64 (p : Int), .int .i64 sz, u11, u12, u13, u14, u15, u16, u17, u18, u19, u20, u21, u22, u23, u24, u25, u26, u27, u28, u29, u30, u31, u32, u33, u34, u35, u36, u37, u38, u39, u40, u41, u42, u43, u44, u45, u46, u47, u48, u49, u50, u51, u52, u53], defers := [] } ∧ p ≤ s.size ∧ l.length ≤ 16 ∧ Hid (w.ownsRow w0.heap.size 45 3 v l.length (ecells l) ∧ Below w0.heap.size w0 w ∧ glue l (chS s (16 - l.length) nx p) = X)

set_option maxRecDepth 100000 in
set_option maxHeartbeats 8000000 in
theorem schain_any (nx0 : Int) (s : ByteArray) (hs : (s.size : Int) ≤ 9223372036854775807) (w : World) :
    Calls Try.prog 22 #[.int .i64 nx0, .string s] w (ChOut w (chS s 16 nx0 0)) := by
  obtain ⟨X, hX⟩ : ∃ X, chS s 16 nx0 0 = X := ⟨_, rfl⟩
  rw [hX]
  have HX := Lib.hid hX
  have HMo := Lib.hid (fun t W => more_any t W)
  clear hX
  go_enter Try.func22, Try.ntmps22
  go_wp2_with fail
  refine wp_scope_one 0 (ChJ w s X) (fun a' _ => s.size - (intOf (a'.tmps.getD 9 undef)).toNat) rfl ?_ ?_
  · intro Q' hb
    have HB := Lib.hid hb
    clear hb
    go_wp2_with fail
    go_step3
    rename_i K hK
    refine hK _ _ (HB.out _ _ ⟨nx0, 0, 0, _, [], _, _, _, _, _, _, _, _, _, _, _, _, _, _, _, _, _, _, _, _, _, _, _, _, _, _, _, _, _, _, _, _, _, _, _, _, _, _, _, _, _, _, _, _, _, rfl, Nat.zero_le _, by decide, Lib.hid ⟨⟨rfl, .inl ⟨rfl, rfl⟩⟩, Below.refl _ _, ?_⟩⟩)
    rw [glue_nil]; exact HX.out
  · rintro a' w' ⟨nx, p, sz, v, l, u2, u3, u11, u12, u13, u14, u15, u16, u17, u18, u19, u20, u21, u22, u23, u24, u25, u26, u27, u28, u29, u30, u31, u32, u33, u34, u35, u36, u37, u38, u39, u40, u41, u42, u43, u44, u45, u46, u47, u48, u49, u50, u51, u52, u53, rfl, hp, hl, hH⟩
    obtain ⟨A, c, rfl⟩ := own_form3 hH.out.1
    obtain ⟨m, hm⟩ : ∃ m, l.length = m := ⟨_, rfl⟩
    rw [hm] at hH hl
    rw [hm]
    have HM := Lib.hid hm
    have hl' : (m : Int) ≤ 16 := by omega
    clear hm
    by_cases hf : fur nx = false
    · have hXX : X = ⟨l, nx, p, 0⟩ := by rw [← hH.out.2.2, chS_end hf, glue_ok]
      have hff : ¬ nx = 0 ∧ ¬ nx = 43 ∧ ¬ nx = 60 ∧ ¬ nx = 44 := by
        simp only [fur, Bool.or_eq_false_iff, beq_eq_false_iff_ne, ne_eq] at hf
        omega
      have n0 : (nx == 0) = false := by simpa using hff.1
      have n43 : (nx == 43) = false := by simpa using hff.2.1
      have n60 : (nx == 60) = false := by simpa using hff.2.2.1
      have n44 : (nx == 44) = false := by simpa using hff.2.2.2
      have HXX := Lib.hid hXX
      clear hf hXX hff
      go_wp2
      simp only [Exit.jump]
      refine bodyPost_ret (v := .tuple #[.slice A m c, .int .i64 nx, .int .i64 (p : Int), .int .i64 0]) (by simp [results, Try.results22, go_sem]) rfl ?_
      rw [HXX.out]
      exact ⟨_, rfl, by have := hH.out.1; rwa [HM.out], hH.out.2.1⟩
    · have hft : fur nx = true := by simpa using hf
      have hcs : nx = 0 ∨ nx = 43 ∨ nx = 60 ∨ nx = 44 := by
        simp only [fur, Bool.or_eq_true, beq_iff_eq] at hft
        omega
      clear hf
      by_cases h64 : (nx = 0 ∧ 0 < m) ∨ m = 16
      · have hXX : X = ⟨[], 0, 0, 64⟩ := by
          rw [← hH.out.2.2]
          rcases h64 with ⟨rfl, h⟩ | h
          · rw [chS_zero (by omega), glue_no _ _ (by decide)]
          · rw [h, chS_full hft, glue_no _ _ (by decide)]
        have HXX := Lib.hid hXX
        have hout : ∀ W : World, Below w.heap.size w W → ChOut w X (.returned (.tuple #[.slice none 0 0, .int .i64 0, .int .i64 0, .int .i64 64])) W := fun W hb => by
          rw [HXX.out]; exact ⟨_, rfl, ⟨rfl, .inl ⟨rfl, rfl⟩⟩, hb⟩
        have HOUT := Lib.hid hout
        have hT0 := fun W => HMo.out (s.extract p s.size) W
        have HT := Lib.hid hT0
        have hp0 : (p : Int) ≤ s.size := by omega
        clear hXX hft hout hT0
        rcases hcs with rfl | rfl | rfl | rfl
        · have hm0 : (0 : Int) < m := by rcases h64 with ⟨_, h⟩ | h <;> omega
          clear h64
          go_wp2
          simp only [Exit.jump]
          exact bodyPost_ret (v := .tuple #[.slice none 0 0, .int .i64 0, .int .i64 0, .int .i64 64]) (by simp [results, Try.results22, go_sem]) rfl (HOUT.out _ hH.out.2.1)
        · obtain rfl : m = 16 := by rcases h64 with ⟨h, _⟩ | h; exact absurd h (by decide); exact h
          clear h64
          go_wp2_with fail
          refine Calls.mono (HT.out _) ?_
          rintro e w1 ⟨rfl, rfl⟩
          go_wp2
          simp only [Exit.jump]
          exact bodyPost_ret (v := .tuple #[.slice none 0 0, .int .i64 0, .int .i64 0, .int .i64 64]) (by simp [results, Try.results22, go_sem]) rfl (HOUT.out _ hH.out.2.1)
        · obtain rfl : m = 16 := by rcases h64 with ⟨h, _⟩ | h; exact absurd h (by decide); exact h
          clear h64
          go_wp2_with fail
          refine Calls.mono (HT.out _) ?_
          rintro e w1 ⟨rfl, rfl⟩
          go_wp2
          simp only [Exit.jump]
          exact bodyPost_ret (v := .tuple #[.slice none 0 0, .int .i64 0, .int .i64 0, .int .i64 64]) (by simp [results, Try.results22, go_sem]) rfl (HOUT.out _ hH.out.2.1)
        · obtain rfl : m = 16 := by rcases h64 with ⟨h, _⟩ | h; exact absurd h (by decide); exact h
          clear h64
          go_wp2
          simp only [Exit.jump]
          exact bodyPost_ret (v := .tuple #[.slice none 0 0, .int .i64 0, .int .i64 0, .int .i64 64]) (by simp [results, Try.results22, go_sem]) rfl (HOUT.out _ hH.out.2.1)
      · have hm15 : m ≤ 15 := by omega
        have hnz : nx = 0 → m = 0 := fun h => by
          rcases Nat.eq_zero_or_pos m with h0 | h0
          · exact h0
          · exact absurd (.inl ⟨h, h0⟩) h64
        have hno : ¬ (nx = 0 ∧ (15 - m) + 1 < 16) := by
          rintro ⟨h, h2⟩
          have := hnz h
          omega
        have hk : 16 - m = (15 - m) + 1 := by omega
        have hm16 : ¬ (m : Int) = 16 := by omega
        have hm16b : ((m : Int) == 16) = false := by simpa using hm16
        have hm0 : nx = 0 → ¬ (0 : Int) < m := fun h => by have := hnz h; omega
        obtain ⟨T, hT⟩ : ∃ T, s.extract p s.size = T := ⟨_, rfl⟩
        have hTs : T.size = s.size - p := by rw [← hT, ByteArray.size_extract]; omega
        have hT1 : bA T 1 = bA s (p + 1) := by rw [← hT]; exact bA_ext s p 1
        have hMv : moV T = if T.size ≤ 1 then 0 else 8 * (bA T 1 : Int) := rfl
        have hlt := bA_lt s (p + 1)
        rw [hT1, hTs] at hMv
        obtain ⟨MO, hMO⟩ : ∃ x, moV T = x := ⟨_, rfl⟩
        have hMO0 : 0 ≤ MO ∧ MO ≤ 2040 := by
          rw [← hMO, hMv]; split <;> omega
        have HT := Lib.hid (fun W => HMo.out T W)
        rw [hMO] at HT hMv
        have hp0 : (p : Int) ≤ s.size := by omega
        by_cases hsh : s.size < p + 8 ∨ s.size < p + szX s nx p
        · have hXX : X = ⟨[], 0, 0, 61⟩ := by rw [← hH.out.2.2, hk, chS_short hft hno hsh, glue_no _ _ (by decide)]
          have HXX := Lib.hid hXX
          have hout : ∀ W : World, Below w.heap.size w W → ChOut w X (.returned (.tuple #[.slice none 0 0, .int .i64 0, .int .i64 0, .int .i64 61])) W := fun W hb => by
            rw [HXX.out]; exact ⟨_, rfl, ⟨rfl, .inl ⟨rfl, rfl⟩⟩, hb⟩
          have HOUT := Lib.hid hout
          have hg3 : nx ≠ 44 → (s.size : Int) - p < 8 + MO := fun h => by
            unfold szX at hsh
            rw [if_neg h] at hsh
            rw [hMv]
            split
            · omega
            · omega
          have hg4 : nx = 44 → (s.size : Int) - p < 8 := fun h => by
            unfold szX at hsh
            rw [if_pos h] at hsh
            omega
          clear hXX hft hout hMv hTs hT1 hMO hlt hsh hno hk hnz h64
          rcases hcs with rfl | rfl | rfl | rfl
          rotate_right
          · have hg := hg4 rfl
            clear hg3 hg4 hm0
            go_wp2
            simp only [Exit.jump]
            exact bodyPost_ret (v := .tuple #[.slice none 0 0, .int .i64 0, .int .i64 0, .int .i64 61]) (by simp [results, Try.results22, go_sem]) rfl (HOUT.out _ hH.out.2.1)
          all_goals
            have hg := hg3 (by decide)
            clear hg3 hg4
            try have hm01 := hm0 rfl
            clear hm0
            go_wp2_with fail
            refine Calls.mono (HT.out _) ?_
            rintro e w1 ⟨rfl, rfl⟩
            go_wp2
            simp only [Exit.jump]
            exact bodyPost_ret (v := .tuple #[.slice none 0 0, .int .i64 0, .int .i64 0, .int .i64 61]) (by simp [results, Try.results22, go_sem]) rfl (HOUT.out _ hH.out.2.1)
        · have hle : p + szX s nx p ≤ s.size := by omega
          have hge := szX_ge s nx p
          have hX2 : glue (l ++ [⟨nx, p, szX s nx p⟩]) (chS s (16 - (l ++ [(⟨nx, p, szX s nx p⟩ : Ex)]).length) (bA s p) (p + szX s nx p)) = X := by
            rw [← hH.out.2.2, hk, chS_step hft hno hle, glue_glue, List.length_append, List.length_singleton, HM.out, show 16 - (m + 1) = 15 - m by omega]
          have hzM : nx ≠ 44 → 8 + MO = (szX s nx p : Int) := fun h => by
            unfold szX
            rw [if_neg h, hMv, if_neg (by omega)]
            omega
          have hz4 : nx = 44 → szX s nx p = 8 := fun h => by unfold szX; rw [if_pos h]
          obtain ⟨Z, hZ⟩ : ∃ Z, szX s nx p = Z := ⟨_, rfl⟩
          rw [hZ] at hle hge hX2 hzM hz4
          have hplt : p < s.size := by omega
          have hby := bA_at s p hplt
          obtain ⟨N, hN⟩ : ∃ N, bA s p = N := ⟨_, rfl⟩
          have hN2 := bA_lt s p
          rw [hN] at hby hX2 hN2
          have hN3 : (N : Int) ≤ 255 := by omega
          have HX2 := Lib.hid hX2
          have HLE := Lib.hid (And.intro hle hge)
          have hpi : (p : Int) < s.size := by omega
          have hg : ¬ (s.size : Int) - p < Z := by omega
          have hpZ : (p : Int) + Z ≤ s.size := by omega
          have hm16' : m + 1 ≤ 16 := by omega
          clear hft hMv hTs hT1 hMO hlt hsh hno hk hnz h64 hX2 hZ hN hle hge
          rcases hcs with rfl | rfl | rfl | rfl
          rotate_right
          · obtain rfl := hz4 rfl
            clear hzM hz4 hm0
            have hg8 : ¬ (s.size : Int) - p < 8 := hg
            go_wp2_with (at_builtin; refine wpList_appe _ rfl (.tmp 37) (.tmp 42) rfl w.heap.size (.slice A m c) l m HM.out rfl (own_below3 hH.out.1 ((Below.refl _ _).alloc (Nat.le_refl _) _)) _ ⟨_, p, _⟩ rfl (Blk.new _ _ _) (by omega) (by have := hH.out.2.1.size; simp only [World.size_alloc]; omega) ?_; intro v2 w2 ho2 hg2; have HO2 := Lib.hid ho2; have HG2 := Lib.hid hg2; clear ho2 hg2)
            go_step3
            refine ⟨rfl, ⟨N, p + _, _, v2, l ++ [⟨_, p, _⟩], _, _, _, _, _, _, _, _, _, _, _, _, _, _, _, _, _, _, _, _, _, _, _, _, _, _, _, _, _, _, _, _, _, _, _, _, _, _, _, _, _, _, _, _, _, rfl, HLE.out.1, by rw [List.length_append, HM.out]; exact hm16', Lib.hid ⟨by rw [List.length_append, HM.out]; exact HO2.out, ?_, HX2.out⟩⟩, ?_⟩
            · exact (hH.out.2.1.alloc hH.out.2.1.size _).grown HG2.out (by have := hH.out.2.1.size; simp only [World.size_alloc]; omega) (fun k hk => own_basek hH.out.1 k hk)
            · simp [intOf]; have := HLE.out; omega
          all_goals
            have hzz := hzM (by decide)
            try have hm01 := hm0 rfl
            clear hzM hz4 hm0
            go_wp2_with fail
            refine Calls.mono (HT.out _) ?_
            rintro e w1 ⟨rfl, rfl⟩
            go_wp2_with (at_builtin; refine wpList_appe _ rfl (.tmp 37) (.tmp 42) rfl w.heap.size (.slice A m c) l m HM.out rfl (own_below3 hH.out.1 ((Below.refl _ _).alloc (Nat.le_refl _) _)) _ ⟨_, p, _⟩ rfl (Blk.new _ _ _) (by omega) (by have := hH.out.2.1.size; simp only [World.size_alloc]; omega) ?_; intro v2 w2 ho2 hg2; have HO2 := Lib.hid ho2; have HG2 := Lib.hid hg2; clear ho2 hg2)
            go_step3
            refine ⟨rfl, ⟨N, p + _, _, v2, l ++ [⟨_, p, _⟩], _, _, _, _, _, _, _, _, _, _, _, _, _, _, _, _, _, _, _, _, _, _, _, _, _, _, _, _, _, _, _, _, _, _, _, _, _, _, _, _, _, _, _, _, _, rfl, HLE.out.1, by rw [List.length_append, HM.out]; exact hm16', Lib.hid ⟨by rw [List.length_append, HM.out]; exact HO2.out, ?_, HX2.out⟩⟩, ?_⟩
            · exact (hH.out.2.1.alloc hH.out.2.1.size _).grown HG2.out (by have := hH.out.2.1.size; simp only [World.size_alloc]; omega) (fun k hk => own_basek hH.out.1 k hk)
            · simp [intOf]; have := HLE.out; omega

end Go.Proofs.Ytbhddodghbhjiaa
