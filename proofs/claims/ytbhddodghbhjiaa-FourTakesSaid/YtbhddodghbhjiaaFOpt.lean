/-
  ip4.Options of any text of at most 2^42 bytes.
-/
import Derived.Test.YtbhddodghbhjiaaFAre
import Derived.Test.YtbhddodghbhjiaaFCl
namespace Go.Proofs.Ytbhddodghbhjiaa
open Go.RowKit
set_option linter.unusedVariables false

/-- An option's cells. -/
def ocell (x : List UInt8) : List Value := [.int .i64 ((x.headD 0).toNat : Int), .string ⟨(x.drop 2).toArray⟩]
def ocells (os : List (List UInt8)) : List Value := os.flatMap ocell
theorem ocells_snoc (os : List (List UInt8)) (x : List UInt8) : ocells (os ++ [x]) = ocells os ++ ocell x := by simp [ocells]
theorem ocells_len (os : List (List UInt8)) : (ocells os).length = os.length * 2 := by
  induction os with
  | nil => rfl
  | cons x r ih => simp only [ocells, List.flatMap_cons, List.length_append, List.length_cons] at ih ⊢; rw [ih]; simp [ocell]; omega
theorem infoOpt : (Try.prog.info? 57).map (fun i => (i.zero, i.size, i.bytes)) = some (some (.agg #[.int .i64 0, .string ⟨#[]⟩]), 2, 24) := by kernel_rfl
theorem gd_len : ∀ {os : List (List UInt8)}, (∀ x ∈ os, Gd x) → os.length ≤ os.flatten.length
  | [], _ => Nat.le_refl _
  | x :: r, h => by
    have := gd_len fun y hy => h y (List.mem_cons_of_mem _ hy)
    have := (h x (List.mem_cons_self ..)).pos
    simp only [List.length_cons, List.flatten_cons, List.length_append]; omega

/-- 'append' of one option onto a row of the call's own. -/
theorem wpList_appo (w : World) {ops : Array Oper} {rest : List Oper} {o : Oper} {a : Act} {Q : Exit → Act → World → Prop} (hgd : o.guard = none) (s x : Operand)
    (ho : o.op = .call { callee := .builtin .append, args := #[s, x], argTypes := #[52, 52] })
    (base : Nat) (v : Value) (os : List (List UInt8)) (n : Nat) (hn : os.length = n) (hs : a.eval s = v) (hown : w.ownsRow base 57 2 v n (ocells os))
    (g : Nat) (k : Int) (d : ByteArray) (y : List UInt8) (hy : ocell y = [.int .i64 k, .string d]) (hx : a.eval x = .slice (some ⟨g, 0, none⟩) 1 1)
    (hc0 : w.cell? ⟨g, 0, none⟩ = some (.int .i64 k)) (hc1 : w.cell? ⟨g, 1, none⟩ = some (.string d)) (hsz : n + 1 ≤ 5000000000000) (hbase : base ≤ w.heap.size)
    (h : ∀ v' w', w'.ownsRow base 57 2 v' (n + 1) (ocells (os ++ [y])) → w.grownBy w' v.ownBlock → wpList Try.prog ops Q rest (a.put o.dst v') w') :
    wpList Try.prog ops Q (o :: rest) a w := by
  obtain ⟨i0, hi, hz0, hz1, hz2⟩ := info_parts infoOpt
  refine wpList_append_own_at w hgd s x 52 ho base 57 i0 (.agg #[.int .i64 0, .string ⟨#[]⟩]) 2 24 Try.underlying52 hi hz0 hz1 hz2 rfl (by decide) v n _ hs hown ⟨g, 0, none⟩ 1 1 (ocell y) hx rfl ?_ ?_ (by unfold maxLen; omega) (by omega) hbase ?_
  · intro j u hj
    rw [hy] at hj
    rcases j with _ | _ | j
    · simp at hj; subst hj; simpa [Addr.add] using hc0
    · simp at hj; subst hj; simpa [Addr.add] using hc1
    · simp at hj
  · intro u hu
    rw [hy] at hu
    simp at hu
    rcases hu with rfl | rfl <;> rfl
  · intro v' w' h1 h2 _ _
    exact h v' w' (by rw [ocells_snoc]; exact h1) h2

/-- Options in a variable of the call's own. -/
def OI (B : Nat) (w : World) (os : List (List UInt8)) (W : World) : Prop :=
  ∃ v, Blk W B 52 #[v] ∧ W.ownsRow (B + 1) 57 2 v os.length (ocells os) ∧ Below B w W ∧ ∀ x ∈ os, Gd x
theorem own_form2 {w : World} {R n : Nat} {t : TypeId} {v : Value} {xs : List Value} (h : w.ownsRow R t 2 v n xs) : ∃ a c, v = .slice a n c := by
  rcases h.2 with ⟨hv, h0⟩ | ⟨g, cap, cur, hv, _⟩
  · exact ⟨none, 0, by rw [hv, h0]⟩
  · exact ⟨_, _, hv⟩
theorem own_far2 {w : World} {R n b : Nat} {t : TypeId} {v : Value} {xs : List Value} (h : w.ownsRow R t 2 v n xs) (hb : b < R) : v.ownBlock ≠ some b := by
  intro e
  have := own_basek h b e
  omega
theorem own_set2 {w : World} {R n b i : Nat} {t : TypeId} {v u : Value} {xs : List Value} (h : w.ownsRow R t 2 v n xs) (hb : b < R) : (w.setCell ⟨b, i, none⟩ u).ownsRow R t 2 v n xs :=
  h.kept (row := some b) ⟨rfl, rfl, rfl, by simp [World.setCell], fun k _ hk => Below.heap_setCell _ _ _ _ (fun e => hk (by simp [e]))⟩ (Or.inr (own_far2 h hb))
theorem own_below2 {w w' : World} {R n : Nat} {t : TypeId} {v : Value} {xs : List Value} (h : w.ownsRow R t 2 v n xs) (hb : Below w.heap.size w w') : w'.ownsRow R t 2 v n xs := by
  refine ⟨h.1, h.2.imp id ?_⟩
  rintro ⟨g, cap, cur, a, b, c, d⟩
  refine ⟨g, cap, cur, a, b, ?_, d⟩
  rw [hb.block g ?_]
  · exact c
  · exact (show Blk w g t cur from c).lt

set_option maxRecDepth 100000 in
set_option maxHeartbeats 4000000 in
theorem opt_clo (B : Nat) (w : World) (os : List (List UInt8)) (t : ByteArray) (W : World) (hg : Gd t.data.toList) (hl : os.flatten.length + t.size ≤ 4398046511104) (hI : OI B w os W) :
    Calls Try.prog 54 (#[.string t] ++ #[.pointer (some ⟨B, 0, none⟩)]) W fun e W' => e = .returned (.tuple #[]) ∧ OI B w (os ++ [t.data.toList]) W' := by
  show Calls Try.prog 54 #[.string t, .pointer (some ⟨B, 0, none⟩)] W _
  obtain ⟨v, hb, hown, hbel, hgs⟩ := hI
  obtain ⟨a, c, rfl⟩ := own_form2 hown
  have hlo := gd_len hgs
  have hts : t.size = t.data.toList.length := Lib.size_eq t
  have hpos : 0 < t.size := by rw [hts]; exact hg.pos
  have hh : t.data.toList.headD 0 = t[0] := by
    have : t.data.toList[0]? = some t[0] := by rw [List.getElem?_eq_getElem (by rw [← hts]; exact hpos)]; rfl
    cases hq : t.data.toList with
    | nil => rw [hq] at this; cases this
    | cons x r => rw [hq] at this; simpa using this
  have HG := Lib.hid (show ∀ x ∈ os ++ [t.data.toList], Gd x from fun x hx => (List.mem_append.1 hx).elim (hgs x) (fun h => by rw [List.mem_singleton] at h; rw [h]; exact hg))
  have hB := hb.lt
  have HBl := Lib.hid hbel
  have HB := Lib.hid hb
  have HO := Lib.hid hown
  obtain ⟨Y, hY⟩ : ∃ Y, Y = t.data.toList := ⟨_, rfl⟩
  rw [← hY] at HG ⊢
  have hbs := hbel.size
  obtain ⟨N, hN⟩ : ∃ N, t[0].toNat = N := ⟨_, rfl⟩
  have hN2 : N < 256 := by rw [← hN]; exact UInt8.toNat_lt _
  by_cases h2 : 2 < t.size
  · obtain ⟨D, hD⟩ : ∃ D, t.extract 2 t.size = D := ⟨_, rfl⟩
    have hDs : D.size ≤ 281474976710656 := by rw [← hD, ByteArray.size_extract]; omega
    have hoc : ocell Y = [.int .i64 (N : Int), .string D] := by
      unfold ocell; rw [hY, hh, hN, ← hD]
      congr 2
      congr 1
      apply ByteArray.ext
      rw [ByteArray.data_extract]
      apply Array.toList_inj.1
      rw [Array.toList_extract, List.extract_eq_take_drop, List.take_of_length_le (by rw [List.length_drop, ← hts]; exact Nat.le_refl _)]
    have HC := Lib.hid (fun W => clone_any D hDs W)
    have h2' : (2 : Int) < t.size := by omega
    have h2'' : (2 : Int) ≤ t.size := by omega
    have HY := Lib.hid hoc
    have c0 : W.cell? ⟨B, 0, none⟩ = some (.slice a os.length c) := (hb.cell 0).trans rfl
    clear hg hgs hts hh hown hb hbel hoc hY
    go_enter Try.func54, Try.ntmps54
    go_wp2_with fail
    refine Calls.mono (HC.out _) ?_
    rintro e w1 ⟨rfl, hb1⟩
    have k1 := (Blk.new W 57 #[.int .i64 (N : Int), .string ⟨#[]⟩]).below hb1 (by simp only [World.size_alloc]; omega)
    have l1 : Below W.heap.size W w1 := ((Below.refl _ W).alloc (Nat.le_refl _) _).trans (hb1.mono (by simp only [World.size_alloc]; omega))
    have b1 := HB.out.below l1 hB
    have o1 := own_below2 HO.out l1
    have s1 : W.heap.size < w1.heap.size := k1.lt
    have b2 := b1.far (p := ⟨W.heap.size, 1, none⟩) (show B ≠ W.heap.size by omega) (.string D)
    have L2 := Lib.hid (HBl.out.trans ((l1.mono (show B ≤ W.heap.size by omega)).setCell (p := ⟨W.heap.size, 1, none⟩) (show B ≤ W.heap.size by omega) (.string D)))
    have k2 : Blk (w1.setCell ⟨W.heap.size, 1, none⟩ (.string D)) W.heap.size 57 #[.int .i64 (N : Int), .string D] := by simpa using k1.set_ 1 (.string D)
    have f0 : w1.cell? ⟨W.heap.size, 0, none⟩ = some (.int .i64 (N : Int)) := by rw [k1.cell]; rfl
    have f1 : w1.cell? ⟨W.heap.size, 1, none⟩ = some (.string ⟨#[]⟩) := by rw [k1.cell]; rfl
    have z1 := k1.frozen 1
    have cB : (w1.setCell ⟨W.heap.size, 1, none⟩ (.string D)).cell? ⟨B, 0, none⟩ = some (.slice a os.length c) := by rw [b2.cell]; rfl
    have g0 : (w1.setCell ⟨W.heap.size, 1, none⟩ (.string D)).cell? ⟨W.heap.size, 0, none⟩ = some (.int .i64 (N : Int)) := by rw [k2.cell]; rfl
    have g1 : (w1.setCell ⟨W.heap.size, 1, none⟩ (.string D)).cell? ⟨W.heap.size, 1, none⟩ = some (.string D) := by rw [k2.cell]; rfl
    have HK2 := Lib.hid k2
    have HB2 := Lib.hid b2
    have HO1 := Lib.hid o1
    have HS1 := Lib.hid s1
    have o2 : (w1.setCell ⟨W.heap.size, 1, none⟩ (.string D)).ownsRow (B + 1) 57 2 (.slice a os.length c) os.length (ocells os) := o1.kept (row := some W.heap.size) ⟨rfl, rfl, rfl, by simp [World.setCell], fun k _ hk => Below.heap_setCell _ _ _ _ (fun e => hk (by simp [e]))⟩ (Or.inr (by
      intro e
      rcases HO.out.2 with ⟨hv, _⟩ | ⟨g, cap, cur, hv, q1, q2, _⟩
      · rw [hv] at e; cases e
      · rw [hv] at e; simp [Value.ownBlock] at e
        have := (show Blk W g 57 cur from q2).lt
        omega))
    have n0 : Blk ((w1.setCell ⟨W.heap.size, 1, none⟩ (.string D)).alloc (.cells #[.int .i64 (N : Int), .string D] 57)) w1.heap.size 57 #[.int .i64 (N : Int), .string D] := by
      have := Blk.new (w1.setCell ⟨W.heap.size, 1, none⟩ (.string D)) 57 #[.int .i64 (N : Int), .string D]
      simpa using this
    have HN0 := Lib.hid ((n0.cell 0).trans (show _ = some (Value.int .i64 (N : Int)) by rfl))
    have HN1 := Lib.hid ((n0.cell 1).trans (show _ = some (Value.string D) by rfl))
    have HO2 := Lib.hid o2
    have hsz1 : (w1.setCell ⟨W.heap.size, 1, none⟩ (.string D)).heap.size = w1.heap.size := by simp [World.setCell]
    have HSZ := Lib.hid hsz1
    clear k1 k2 b1 b2 o1 o2 l1 hb1 s1 c0 n0 hsz1
    go_wp2_with (at_builtin; refine wpList_appo _ rfl (.tmp 15) (.tmp 17) rfl (B + 1) _ os os.length rfl rfl (HO2.out.alloc _) w1.heap.size (N : Int) D Y HY.out rfl HN0.out HN1.out (by omega) (by simp only [World.size_alloc]; rw [HSZ.out]; have := HS1.out; omega) ?_; intro v2 w2 hown2 hg2; obtain ⟨a2, k2, rfl⟩ := own_form2 hown2; have HOW := Lib.hid hown2; have HG2 := Lib.hid hg2; have hb2 := (HB2.out.alloc _).grown hg2 (fun e => own_far2 HO2.out (Nat.lt_succ_self B) e.symm); have HB3 := Lib.hid hb2; have z2 := hb2.frozen 0; have d2 := (hb2.cell 0).trans (show _ = some (Value.slice a os.length c) by rfl); clear hb2 hg2 hown2)
    go_end0
    refine ⟨rfl, _, by simpa using HB3.out.set_ 0 _, ?_, ?_, HG.out⟩
    · rw [List.length_append]; exact own_set2 HOW.out (Nat.lt_succ_self B)
    · exact ((L2.out.alloc (by rw [HSZ.out]; have := HS1.out; omega) _).grown HG2.out (by have := HSZ.out; have := HS1.out; simp only [World.size_alloc]; omega) (fun k hk => by have := own_basek HO2.out k hk; omega)).setCell (Nat.le_refl _) _
  · have hoc : ocell Y = [.int .i64 (N : Int), .string ⟨#[]⟩] := by
      unfold ocell; rw [hY, hh, hN, List.drop_eq_nil_of_le (by rw [← hts]; omega)]
    have h2' : ¬ (2 : Int) < t.size := by omega
    have HY := Lib.hid hoc
    have k1 := Blk.new W 57 #[.int .i64 (N : Int), .string ⟨#[]⟩]
    have l1 : Below W.heap.size W (W.alloc (.cells #[.int .i64 (N : Int), .string ⟨#[]⟩] 57)) := (Below.refl _ W).alloc (Nat.le_refl _) _
    have b1 := hb.below l1 hB
    have o1 := own_below2 hown l1
    have cB : (W.alloc (.cells #[.int .i64 (N : Int), .string ⟨#[]⟩] 57)).cell? ⟨B, 0, none⟩ = some (.slice a os.length c) := by rw [b1.cell]; rfl
    have g0 : (W.alloc (.cells #[.int .i64 (N : Int), .string ⟨#[]⟩] 57)).cell? ⟨W.heap.size, 0, none⟩ = some (.int .i64 (N : Int)) := by rw [k1.cell]; rfl
    have g1 : (W.alloc (.cells #[.int .i64 (N : Int), .string ⟨#[]⟩] 57)).cell? ⟨W.heap.size, 1, none⟩ = some (.string ⟨#[]⟩) := by rw [k1.cell]; rfl
    have n0 : Blk ((W.alloc (.cells #[.int .i64 (N : Int), .string ⟨#[]⟩] 57)).alloc (.cells #[.int .i64 (N : Int), .string ⟨#[]⟩] 57)) (W.heap.size + 1) 57 #[.int .i64 (N : Int), .string ⟨#[]⟩] := by
      have := Blk.new (W.alloc (.cells #[.int .i64 (N : Int), .string ⟨#[]⟩] 57)) 57 #[.int .i64 (N : Int), .string ⟨#[]⟩]
      simpa using this
    have HN0 := Lib.hid ((n0.cell 0).trans (show _ = some (Value.int .i64 (N : Int)) by rfl))
    have HN1 := Lib.hid ((n0.cell 1).trans (show _ = some (Value.string ⟨#[]⟩) by rfl))
    have HO2 := Lib.hid o1
    have HB2 := Lib.hid b1
    have L2 := Lib.hid (hbel.trans (l1.mono (show B ≤ W.heap.size by omega)))
    clear hg hgs hts hh hown hb hbel hoc hY k1 b1 o1 l1 n0 h2
    go_enter Try.func54, Try.ntmps54
    go_wp2_with (at_builtin; refine wpList_appo _ rfl (.tmp 15) (.tmp 17) rfl (B + 1) _ os os.length rfl rfl (HO2.out.alloc _) (W.heap.size + 1) (N : Int) ⟨#[]⟩ Y HY.out rfl HN0.out HN1.out (by omega) (by simp only [World.size_alloc]; omega) ?_; intro v2 w2 hown2 hg2; obtain ⟨a2, k2, rfl⟩ := own_form2 hown2; have HOW := Lib.hid hown2; have HG2 := Lib.hid hg2; have hb2 := (HB2.out.alloc _).grown hg2 (fun e => own_far2 HO2.out (Nat.lt_succ_self B) e.symm); have HB3 := Lib.hid hb2; have z2 := hb2.frozen 0; have d2 := (hb2.cell 0).trans (show _ = some (Value.slice a os.length c) by rfl); clear hb2 hg2 hown2)
    go_end0
    refine ⟨rfl, _, by simpa using HB3.out.set_ 0 _, ?_, ?_, HG.out⟩
    · rw [List.length_append]; exact own_set2 HOW.out (Nat.lt_succ_self B)
    · exact ((L2.out.alloc (by simp only [World.size_alloc]; omega) _).grown HG2.out (by simp only [World.size_alloc]; omega) (fun k hk => by have := own_basek HO2.out k hk; omega)).setCell (Nat.le_refl _) _

/-- What ip4.Options answers. -/
def OpOut (w : World) (r : Option (List (List UInt8))) (e : Ending) (w' : World) : Prop :=
  match r with
  | some os => ∃ v, e = .returned (.tuple #[v, .int .i64 0]) ∧ w'.ownsRow w.heap.size 57 2 v os.length (ocells os) ∧ Below w.heap.size w w' ∧ ∀ x ∈ os, Gd x
  | none => e = .returned (.tuple #[.slice none 0 0, .int .i64 50]) ∧ Below w.heap.size w w'
set_option maxHeartbeats 1000000 in
theorem options_any (s : ByteArray) (hs : s.size ≤ 4398046511104) (w : World) :
    Calls Try.prog 29 #[.string s] w (OpOut w (opn s.data.toList)) := by
  obtain ⟨R, hR⟩ : ∃ R, opn s.data.toList = R := ⟨_, rfl⟩
  have k0 := Blk.new w 52 #[.slice none 0 0]
  have H0 := walk_any 54 (enter_of Try.func54 (by kernel_rfl) (by kernel_rfl)) #[.pointer (some ⟨w.heap.size, 0, none⟩)] (OI w.heap.size w) s (by omega)
    (fun os t W hg hl hI => opt_clo w.heap.size w os t W hg (by omega) hI) (w.alloc (.cells #[.slice none 0 0] 52)) ⟨_, k0, ⟨rfl, .inl ⟨rfl, rfl⟩⟩, (Below.refl _ w).alloc (Nat.le_refl _) _, by simp⟩
  rw [hR] at H0 ⊢
  have H := Lib.hid H0
  clear H0 hR k0
  go_enter Try.func29, Try.ntmps29
  go_wp2_with fail
  refine Calls.mono H.out ?_
  intro e w1 hp
  unfold WkPost at hp
  cases R with
  | none =>
    obtain ⟨rfl, os, v, hb, hown, hbel, hg⟩ := hp
    have HB := Lib.hid hbel
    clear hb hown hbel hg
    go_wp2
    go_ret2
    exact ⟨rfl, HB.out⟩
  | some os =>
    obtain ⟨rfl, v, hb, hown, hbel, hg⟩ := hp
    have HB := Lib.hid hbel
    have HO := Lib.hid hown
    have HG := Lib.hid hg
    have c0 := (hb.cell 0).trans (show _ = some v by rfl)
    clear hb hown hbel hg
    go_wp2
    go_ret2
    exact ⟨_, rfl, ⟨HO.out.1, HO.out.2.imp id fun ⟨g, cap, cur, a, b, c⟩ => ⟨g, cap, cur, a, by omega, c⟩⟩, HB.out, HG.out⟩
end Go.Proofs.Ytbhddodghbhjiaa
