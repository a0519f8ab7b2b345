/-
  The document's own Lay and LayArp.
-/
import Derived.Test.YtnhlgonldffgoaaDoorERTk
import Derived.Test.YtnhlgonldffgoaaDoorERPut
import Derived.Test.YtnhlgonldffgoaaDoorERPr
import Derived.Test.YtnhlgonldffgoaaDoorELay
import Derived.Test.YtnhlgonldffgoaaDoorELa
import Derived.Lib.AppendStr
import Derived.OrdersHeld
namespace Go.Proofs.YtnhlgonldffgoaaDoor
open Go.RowKit
set_option linter.unusedVariables false

/-- One more Put onto what is there. -/
theorem rput_k (k n : Nat) (hk : k ≤ 8) (h0 : 0 < k) (v : Int) (hv0 : 0 ≤ v) (hv1 : v ≤ 18446744073709551615) (hn : n ≤ 2000) {w : World} {A : Option Addr} {c : Nat} {zs : List Int} (hz : RI .u8 w w.heap.size A n zs) (hA : A = none → c = 0) :
    Calls Tryd.prog 53 #[.slice A n c, .int .i64 (k : Int), .int .u64 v] w fun e w' => ∃ A' c', e = .returned (.slice A' (n + k) c') ∧ RI .u8 w' w'.heap.size A' (n + k) (zs ++ putOf k v) ∧ (A' = none → c' = 0) ∧ Below w.heap.size w w' := by
  refine (refPut_at w w.heap.size A n c k v (k : Int) _ zs hz hA (Nat.le_refl _) hk (by omega) hv0 hv1 (if_neg (by omega)) (if_neg (by omega))).mono fun e w' ⟨A', c', a, b, _, d⟩ => ⟨A', c', a, b, fun h => ?_, d⟩
  obtain ⟨_, _, e', _⟩ := b.2.1 (by omega)
  rw [e'] at h; cases h
/-- The same, the row being the call's own from there on. -/
theorem rput_own (k n : Nat) (hk : k ≤ 8) (h0 : 0 < k) (v : Int) (hv0 : 0 ≤ v) (hv1 : v ≤ 18446744073709551615) (hn : n ≤ 2000) {w : World} {A : Option Addr} {c : Nat} {zs : List Int} (hz : RI .u8 w w.heap.size A n zs) (hA : A = none → c = 0) :
    Calls Tryd.prog 53 #[.slice A n c, .int .i64 (k : Int), .int .u64 v] w fun e w' => ∃ v', e = .returned v' ∧ w'.ownsRow w.heap.size 5 1 v' (n + k) ((zs ++ putOf k v).map (Value.int .u8)) ∧ Below w.heap.size w w' :=
  refPut_own w w.heap.size A n c k v (k : Int) _ zs hz hA (Nat.le_refl _) hk (by omega) hv0 hv1 (if_neg (by omega)) (if_neg (by omega))

/-- The length of a slice. -/
def slLen : Value → Nat
  | .slice _ n _ => n
  | _ => 0
theorem strCells_byt (d : ByteArray) : Lib.strCells d = (byt d).map (Value.int .u8) := by
  unfold Lib.strCells byt
  rw [List.map_map]; rfl
/-- 'append(v, d...)', d a text. -/
theorem wpList_apps (w : World) {ops : Array Oper} {rest : List Oper} {o : Oper} {a : Act} {Q : Exit → Act → World → Prop} (hgd : o.guard = none) (s x : Operand)
    (ho : o.op = .call { callee := .builtin .append, args := #[s, x], argTypes := #[30, 9] })
    (base : Nat) (v : Value) (n : Nat) (ys : List Int) (hs : a.eval s = v) (hown : w.ownsRow base 5 1 v n (ys.map (Value.int .u8)))
    (d : ByteArray) (hx : a.eval x = .string d) (hsz : n + d.size ≤ 140737488355328) (hbase : base ≤ w.heap.size)
    (h : ∀ v' w', w'.ownsRow base 5 1 v' (n + d.size) ((ys ++ byt d).map (Value.int .u8)) → w.grownBy w' v.ownBlock → wpList Tryd.prog ops Q rest (a.put o.dst v') w') :
    wpList Tryd.prog ops Q (o :: rest) a w := by
  obtain ⟨i0, hi, hz0, hz1, hz2⟩ := info_parts Tryd.info5
  refine Lib.wpList_append_own_string w hgd s x 30 9 ho base 5 i0 Tryd.underlying30 Tryd.underlying9 hi hz0 hz1 hz2 v n _ hs hown d hx (by unfold maxLen; omega) hsz hbase ?_
  intro v' w' h1 h2 _
  exact h v' w' (by rw [List.map_append, ← strCells_byt]; exact h1) h2

set_option maxRecDepth 100000 in
set_option maxHeartbeats 4000000 in
theorem rlay_any (tt fr k : Int) (d : ByteArray) (h0 : 0 ≤ tt) (h1 : 0 ≤ fr) (w : World) :
    Calls Tryd.prog 31 #[frm tt fr k d] w fun e w' => e = .returned (lyV tt fr k d) ∧ Below w.heap.size w w' := by
  obtain ⟨V1, hV1⟩ : ∃ v, mcB tt = v := ⟨_, rfl⟩
  obtain ⟨V2, hV2⟩ : ∃ v, mcB fr = v := ⟨_, rfl⟩
  have H1 := Lib.hid (fun W => rmac_at tt hV1 W)
  have H2 := Lib.hid (fun W => rmac_at fr hV2 W)
  obtain ⟨f1, f2, f3, f4⟩ := (Blk.new w 43 #[.int .u64 tt, .int .u64 fr, .int .i64 k, .string d]).c4
  by_cases hok : frB tt fr k = true
  · obtain ⟨o1, o2, o3, o4⟩ := frB_of hok
    obtain rfl : V1 = true := by rw [← hV1]; simp [mcB]; omega
    obtain rfl : V2 = true := by rw [← hV2]; simp [mcB]; omega
    have g3 : ¬ k < 1536 := by omega
    have g4 : ¬ 65535 < k := by omega
    have g5 : 0 ≤ k := by omega
    have g6 : k ≤ 18446744073709551615 := by omega
    by_cases hd : d.size ≤ 1500
    · have HX := Lib.hid (lyV_ok (d := d) hok hd)
      have HP1 := Lib.hid (fun W => rput_nil 6 (by decide) (by decide) tt h0 (by omega) W)
      have HP2 := Lib.hid (fun (W : World) (A : Option Addr) (c : Nat) (zs : List Int) (hz : RI .u8 W W.heap.size A 6 zs) (hA : A = none → c = 0) => rput_k 6 6 (by decide) (by decide) fr h1 (by omega) (by decide) hz hA)
      have HP3 := Lib.hid (fun (W : World) (A : Option Addr) (c : Nat) (zs : List Int) (hz : RI .u8 W W.heap.size A 12 zs) (hA : A = none → c = 0) => rput_own 2 12 (by decide) (by decide) k (by omega) (by omega) (by decide) hz hA)
      have d1 : ¬ (1500 : Int) < d.size := by omega
      have HDS := Lib.hid hd
      have H60 : Hid (14 + d.size ≤ 1514) := Lib.hid (by omega)
      clear hV1 hV2 hok hd o1 o2 o3 o4
      go_enter Tryd.func31, Tryd.ntmps31
      go_wp2_with fail
      refine Calls.mono (H1.out _) ?_
      rintro e w1 ⟨rfl, rfl⟩
      go_wp2_with fail
      refine Calls.mono (H2.out _) ?_
      rintro e w1 ⟨rfl, rfl⟩

      have L1 := Lib.hid ((Below.refl _ w).alloc (Nat.le_refl _) (.cells #[.int .u64 tt, .int .u64 fr, .int .i64 k, .string d] 43))

      have K1 := Lib.hid (Blk.new w 43 #[.int .u64 tt, .int .u64 fr, .int .i64 k, .string d])
      go_wp2_with fail
      refine Calls.mono (HP1.out _) ?_
      rintro e w2 ⟨A2, c2, rfl, hr, hb⟩
      have R2 := Lib.hid (And.intro hr (show A2 = none → c2 = 0 from fun h => by obtain ⟨_, _, e', _⟩ := hr.2.1 (by decide); rw [e'] at h; cases h))
      have K2 := Lib.hid (K1.out.below hb K1.out.lt)
      have L2 := Lib.hid (L1.out.trans (hb.mono L1.out.size))
      clear f1 f2 f3 f4 hr hb
      obtain ⟨f1, f2, f3, f4⟩ := K2.out.c4
      go_wp2_with fail
      refine Calls.mono (HP2.out _ _ _ _ R2.out.1 R2.out.2) ?_
      rintro e w3 ⟨A3, c3, rfl, hr, hA, hb⟩
      have R3 : Hid (RI .u8 w3 w3.heap.size A3 12 (putOf 6 tt ++ putOf 6 fr) ∧ (A3 = none → c3 = 0)) := Lib.hid (And.intro hr hA)
      have K3 := Lib.hid (K2.out.below hb K2.out.lt)
      have L3 := Lib.hid (L2.out.trans (hb.mono L2.out.size))
      clear f1 f2 f3 f4 hr hA hb
      obtain ⟨f1, f2, f3, f4⟩ := K3.out.c4
      go_wp2_with fail
      refine Calls.mono (HP3.out _ _ _ _ R3.out.1 R3.out.2) ?_
      rintro e w4 ⟨v4, rfl, ho4, hb⟩
      have O4 : Hid (w4.ownsRow w3.heap.size 5 1 v4 14 ((hdr tt fr k).map (Value.int .u8))) := Lib.hid ho4
      have K4 := Lib.hid (K3.out.below hb K3.out.lt)
      have L4 := Lib.hid (L3.out.trans (hb.mono L3.out.size))
      have B4 := Lib.hid hb.size
      have S3 := Lib.hid L3.out.size
      clear f1 f2 f3 f4 hb ho4
      obtain ⟨f1, f2, f3, f4⟩ := K4.out.c4
      obtain ⟨H, hH⟩ : ∃ H, hdr tt fr k = H := ⟨_, rfl⟩
      have HBy : Hid (By H) := Lib.hid (by rw [← hH]; exact hdr_by tt fr k)
      have HXe : Hid (lyV tt fr k d = .tuple #[.string (strOfNums (H ++ byt d ++ List.replicate (46 - d.size) 0)), .int .i64 0]) := Lib.hid (by rw [HX.out, hH, ← str_add, ← str_add, str_byt])
      rw [hH] at O4
      obtain ⟨B3, hB3⟩ : ∃ B, w3.heap.size = B := ⟨_, rfl⟩
      rw [hB3] at O4 B4 S3
      clear hH hB3
      go_wp2_with (first
        | (at_builtin; go_loud (refine wpList_apps _ rfl (.tmp 45) (.tmp 47) rfl B3 v4 14 H rfl O4.out d rfl (by have := H60.out; omega) B4.out ?_; intro v5 w5 hown hg; have O5 := Lib.hid hown; have L5 : Hid (Below w.heap.size w w5) := Lib.hid (L4.out.grown hg L4.out.size (fun x hx => Nat.le_trans S3.out (own_base O4.out x hx))); have B5 : Hid (B3 ≤ w5.heap.size) := Lib.hid (Nat.le_trans B4.out hg.size); clear hown hg)))
      clear f1 f2 f3 f4
      go_loopw [6] (fun v' wr => ∃ j : Nat, j ≤ 60 - (14 + d.size) ∧ Hid (wr.ownsRow B3 5 1 v' (14 + d.size + j) ((H ++ byt d ++ List.replicate j 0).map (Value.int .u8))) ∧ Hid (Below w.heap.size w wr) ∧ Hid (B3 ≤ wr.heap.size)) (fun v' _ => 60 - slLen v')
      case atStart => exact ⟨0, Nat.zero_le _, Lib.hid (by have := O5.out; simpa using this), L5, B5⟩
      case round =>
        obtain ⟨j, hj, HO, HL, HB⟩ := hrel
        obtain ⟨N, hN⟩ : ∃ N, 14 + d.size + j = N := ⟨_, rfl⟩
        rw [hN] at HO
        have h60 := H60.out
        have hwf : ∀ z ∈ H ++ byt d ++ List.replicate j 0, (Lit.int .u8 z).wf = true := ((HBy.out.app (byt_by d)).app (By.zeros j)).wf
        obtain ⟨A, c, rfl, hri, hA, -, -, -⟩ := own_ri hwf HO.out
        by_cases hlt : N < 60
        · have h6 : (N : Int) < 60 := by omega
          have hap : ∀ z : Int, z = 0 → (H ++ byt d ++ List.replicate j 0) ++ [z] = H ++ byt d ++ List.replicate (j + 1) 0 := fun z hz => by rw [hz, List.append_assoc, List.replicate_succ']
          have HAP := Lib.hid (hap 0 rfl)
          clear hri hA hap hwf
          go_wp2_with (first
            | (at_builtin; refine wpList_app _ rfl (.tmp 52) (.tmp 53) rfl B3 (.slice A N c) N _ rfl (HO.out.alloc _) (wr.heap.size + 1) (some ⟨wr.heap.size, 0, none⟩) 1 1 [0] rfl (fun h => by cases h) (Blk.reads (zs := [0]) (Blk.new _ _ _) (by decide) (Nat.lt_succ_self _)) (by omega) (by have := HB.out; simp only [World.size_alloc]; omega) ?_; intro v6 w6 hown hg hat; rw [HAP.out] at hown; have O6 := Lib.hid hown; have L6 : Hid (Below w.heap.size w w6) := Lib.hid ((HL.out.alloc HL.out.size _).grown hg (by have := HL.out.size; simp only [World.size_alloc]; omega) (fun x hx => Nat.le_trans S3.out (own_base HO.out x hx))); have B6 : Hid (B3 ≤ w6.heap.size) := Lib.hid (by have := HB.out; have := hg.size; simp only [World.size_alloc] at this; omega); clear hown hg hat))
          obtain ⟨g6, cp6, rfl, -, -⟩ := O6.out.form (by omega)
          go_roundw
          case rel => exact ⟨j + 1, by omega, by rw [show 14 + d.size + (j + 1) = N + 1 by omega]; exact O6, L6, B6⟩
          case measure => simp [slLen]; omega
        · have h6 : ¬ (N : Int) < 60 := by omega
          obtain rfl : j = 46 - d.size := by omega
          obtain ⟨X, hX⟩ : ∃ X, strOfNums (H ++ byt d ++ List.replicate (46 - d.size) 0) = X := ⟨_, rfl⟩
          have hcv := conv_str (c := c) hri
          rw [hX] at HXe hcv
          clear hX hwf hri hA
          go_wp2
          go_ret2
          exact ⟨by rw [HXe.out]; rfl, HL.out⟩
    · have HX := Lib.hid (lyV_long (d := d) hok (by omega))
      have d1 : (1500 : Int) < d.size := by omega
      clear hV1 hV2 hok hd o1 o2 o3 o4
      go_enter Tryd.func31, Tryd.ntmps31
      go_wp2_with fail
      refine Calls.mono (H1.out _) ?_
      rintro e w1 ⟨rfl, rfl⟩
      go_wp2_with fail
      refine Calls.mono (H2.out _) ?_
      rintro e w1 ⟨rfl, rfl⟩

      have L1 := Lib.hid ((Below.refl _ w).alloc (Nat.le_refl _) (.cells #[.int .u64 tt, .int .u64 fr, .int .i64 k, .string d] 43))

      go_wp2
      go_ret2
      exact ⟨by rw [HX.out]; rfl, L1.out⟩
  · have hno : frB tt fr k = false := by cases h : frB tt fr k <;> simp_all
    have HX := Lib.hid (lyV_no (d := d) hno)
    have hcase : V1 = false ∨ (V1 = true ∧ V2 = false) ∨ (V1 = true ∧ V2 = true ∧ k < 1536) ∨ (V1 = true ∧ V2 = true ∧ ¬ k < 1536 ∧ 65535 < k) := by
      cases V1
      · exact .inl rfl
      · cases V2
        · exact .inr (.inl ⟨rfl, rfl⟩)
        · by_cases hk : k < 1536
          · exact .inr (.inr (.inl ⟨rfl, rfl, hk⟩))
          · refine .inr (.inr (.inr ⟨rfl, rfl, hk, ?_⟩))
            unfold frB at hno
            rw [hV1, hV2] at hno
            simp at hno
            omega
    clear hV1 hV2 hok hno
    rcases hcase with rfl | ⟨rfl, rfl⟩ | ⟨rfl, rfl, hk⟩ | ⟨rfl, rfl, hk, hk2⟩
    all_goals
      go_enter Tryd.func31, Tryd.ntmps31
      go_wp2_with fail
      refine Calls.mono (H1.out _) ?_
      rintro e w1 ⟨rfl, rfl⟩
      go_wp2_with fail
      refine Calls.mono (H2.out _) ?_
      rintro e w1 ⟨rfl, rfl⟩

      have L1 := Lib.hid ((Below.refl _ w).alloc (Nat.le_refl _) (.cells #[.int .u64 tt, .int .u64 fr, .int .i64 k, .string d] 43))

      go_wp2
      go_ret2
      exact ⟨by rw [HX.out]; rfl, L1.out⟩

theorem ar8 (op : Int) (ho : op = 1 ∨ op = 2) : [0, 1, 8, 0, 6, 4, 0, op] = [0, 1, 8, 0, 6, 4] ++ putOf 2 op := by
  rcases ho with rfl | rfl <;> decide
theorem rbig {w : World} {A : Option Addr} {n c : Nat} {zs : List Int} (h : RI .u8 w w.heap.size A n zs) (h0 : 0 < n) : A = none → c = 0 := fun h' => by
  obtain ⟨_, _, e', _⟩ := h.2.1 h0
  rw [e'] at h'; cases h'
set_option maxRecDepth 100000 in
set_option maxHeartbeats 4000000 in
theorem rlayArp_any (op fm : Int) (s : Bool) (h l tm : Int) (s' : Bool) (h' l' : Int) (f0 : 0 ≤ fm) (l0 : 0 ≤ l) (t0 : 0 ≤ tm) (m0 : 0 ≤ l') (w : World) :
    Calls Tryd.prog 33 #[arpv op fm s h l tm s' h' l'] w fun e w' => e = .returned (laV op fm s h l tm s' h' l') ∧ Below w.heap.size w w' := by
  obtain ⟨V, hV⟩ : ∃ V, arB op fm s h l tm s' h' l' = V := ⟨_, rfl⟩
  have H1 := Lib.hid (fun W => rarp_at op fm s h l tm s' h' l' hV W)
  cases V
  · have HX := Lib.hid (laV_no hV)
    obtain ⟨f1, f2, f3, f4, f5, f6, f7, f8, f9⟩ := (Blk.new w 45 #[.int .i64 op, .int .u64 fm, .bool s, .int .u64 h, .int .u64 l, .int .u64 tm, .bool s', .int .u64 h', .int .u64 l']).c9
    clear hV
    go_enter Tryd.func33, Tryd.ntmps33
    go_wp2_with fail
    refine Calls.mono (H1.out _) ?_
    rintro e w1 ⟨rfl, hb⟩
    have L1 := ((Below.refl _ w).alloc (Nat.le_refl _) _).trans (hb.mono (by simp only [World.size_alloc]; omega))
    clear hb
    go_wp2
    go_ret2
    exact ⟨by rw [HX.out]; rfl, L1⟩
  · have HX := laV_ok hV
    obtain ⟨ho, q1, rfl, rfl, q2, q3, rfl, rfl, q4⟩ := arB_of hV
    have HP1 := Lib.hid (fun (W : World) (A : Option Addr) (c : Nat) (zs : List Int) (hz : RI .u8 W W.heap.size A 8 zs) => rput_k 6 8 (by decide) (by decide) fm f0 (by omega) (by decide) hz (rbig (c := c) hz (by decide)))
    have HP2 := Lib.hid (fun (W : World) (A : Option Addr) (c : Nat) (zs : List Int) (hz : RI .u8 W W.heap.size A 14 zs) => rput_k 4 14 (by decide) (by decide) l l0 (by omega) (by decide) hz (rbig (c := c) hz (by decide)))
    have HP3 := Lib.hid (fun (W : World) (A : Option Addr) (c : Nat) (zs : List Int) (hz : RI .u8 W W.heap.size A 18 zs) => rput_k 6 18 (by decide) (by decide) tm t0 (by omega) (by decide) hz (rbig (c := c) hz (by decide)))
    have HP4 := Lib.hid (fun (W : World) (A : Option Addr) (c : Nat) (zs : List Int) (hz : RI .u8 W W.heap.size A 24 zs) => rput_k 4 24 (by decide) (by decide) l' m0 (by omega) (by decide) hz (rbig (c := c) hz (by decide)))
    have hL : arL op fm l tm l' = [0, 1, 8, 0, 6, 4, 0, op] ++ putOf 6 fm ++ putOf 4 l ++ putOf 6 tm ++ putOf 4 l' := by rw [ar8 op ho]; rfl
    rw [hL] at HX
    have HX := Lib.hid HX
    have hwf : ∀ z ∈ [0, 1, 8, 0, 6, 4, 0, op], (Lit.int .u8 z).wf = true := by rcases ho with rfl | rfl <;> decide
    have HW := Lib.hid hwf
    clear hV hL hwf q1 q2 q3 q4
    rcases ho with rfl | rfl
    · obtain ⟨f1, f2, f3, f4, f5, f6, f7, f8, f9⟩ := (Blk.new w 45 #[.int .i64 1, .int .u64 fm, .bool false, .int .u64 0, .int .u64 l, .int .u64 tm, .bool false, .int .u64 0, .int .u64 l']).c9
      go_enter Tryd.func33, Tryd.ntmps33
      go_wp2_with fail
      refine Calls.mono (H1.out _) ?_
      rintro e w1 ⟨rfl, hb⟩
      have L1 := Lib.hid ((((Below.refl _ w).alloc (Nat.le_refl _) _).trans (hb.mono (by simp only [World.size_alloc]; omega))).alloc (((Below.refl _ w).alloc (Nat.le_refl _) _).trans (hb.mono (by simp only [World.size_alloc]; omega))).size (.cells #[.int .u8 0, .int .u8 1, .int .u8 8, .int .u8 0, .int .u8 6, .int .u8 4, .int .u8 0, .int .u8 1] 5))
      have hk := (Blk.new w 45 #[.int .i64 1, .int .u64 fm, .bool false, .int .u64 0, .int .u64 l, .int .u64 tm, .bool false, .int .u64 0, .int .u64 l']).below hb (by simp only [World.size_alloc]; omega)
      have R1 : Hid (RI .u8 (w1.alloc (.cells #[.int .u8 0, .int .u8 1, .int .u8 8, .int .u8 0, .int .u8 6, .int .u8 4, .int .u8 0, .int .u8 1] 5)) (w1.alloc (.cells #[.int .u8 0, .int .u8 1, .int .u8 8, .int .u8 0, .int .u8 6, .int .u8 4, .int .u8 0, .int .u8 1] 5)).heap.size (some ⟨w1.heap.size, 0, none⟩) 8 [0, 1, 8, 0, 6, 4, 0, 1]) := Lib.hid (Blk.reads (zs := [0, 1, 8, 0, 6, 4, 0, 1]) (Blk.new w1 5 #[.int .u8 0, .int .u8 1, .int .u8 8, .int .u8 0, .int .u8 6, .int .u8 4, .int .u8 0, .int .u8 1]) HW.out (by simp only [World.size_alloc]; omega))
      have K1 := Lib.hid (hk.alloc (.cells #[.int .u8 0, .int .u8 1, .int .u8 8, .int .u8 0, .int .u8 6, .int .u8 4, .int .u8 0, .int .u8 1] 5))
      clear f1 f2 f3 f4 f5 f6 f7 f8 f9 hb
      obtain ⟨e1, e2, e3, e4, e5, e6, e7, e8, e9⟩ := hk.c9
      obtain ⟨f1, f2, f3, f4, f5, f6, f7, f8, f9⟩ := K1.out.c9
      clear hk
      go_wp2_with fail
      refine Calls.mono (HP1.out _ _ _ _ R1.out) ?_
      rintro e w2 ⟨A2, c2, rfl, hr, -, hb⟩
      have R2 := Lib.hid (show RI .u8 w2 w2.heap.size A2 14 _ from hr)
      have K2 := Lib.hid (K1.out.below hb K1.out.lt)
      have L2 := Lib.hid (L1.out.trans (hb.mono L1.out.size))
      clear e1 e2 e3 e4 e5 e6 e7 e8 e9 f1 f2 f3 f4 f5 f6 f7 f8 f9 hr hb
      obtain ⟨f1, f2, f3, f4, f5, f6, f7, f8, f9⟩ := K2.out.c9
      go_wp2_with fail
      refine Calls.mono (HP2.out _ _ _ _ R2.out) ?_
      rintro e w3 ⟨A3, c3, rfl, hr, -, hb⟩
      have R3 := Lib.hid (show RI .u8 w3 w3.heap.size A3 18 _ from hr)
      have K3 := Lib.hid (K2.out.below hb K2.out.lt)
      have L3 := Lib.hid (L2.out.trans (hb.mono L2.out.size))
      clear f1 f2 f3 f4 f5 f6 f7 f8 f9 hr hb
      obtain ⟨f1, f2, f3, f4, f5, f6, f7, f8, f9⟩ := K3.out.c9
      go_wp2_with fail
      refine Calls.mono (HP3.out _ _ _ _ R3.out) ?_
      rintro e w4 ⟨A4, c4, rfl, hr, -, hb⟩
      have R4 := Lib.hid (show RI .u8 w4 w4.heap.size A4 24 _ from hr)
      have K4 := Lib.hid (K3.out.below hb K3.out.lt)
      have L4 := Lib.hid (L3.out.trans (hb.mono L3.out.size))
      clear f1 f2 f3 f4 f5 f6 f7 f8 f9 hr hb
      obtain ⟨f1, f2, f3, f4, f5, f6, f7, f8, f9⟩ := K4.out.c9
      go_wp2_with fail
      refine Calls.mono (HP4.out _ _ _ _ R4.out) ?_
      rintro e w5 ⟨A5, c5, rfl, hr, -, hb⟩
      have hcv := conv_str (c := c5) (show RI .u8 w5 w5.heap.size A5 28 _ from hr)
      have L5 := Lib.hid (L4.out.trans (hb.mono L4.out.size))
      obtain ⟨X, hX⟩ : ∃ X, strOfNums ([0, 1, 8, 0, 6, 4, 0, 1] ++ putOf 6 fm ++ putOf 4 l ++ putOf 6 tm ++ putOf 4 l') = X := ⟨_, rfl⟩
      have HX2 := HX.out
      rw [hX] at hcv HX2
      have HX3 := Lib.hid HX2
      clear f1 f2 f3 f4 f5 f6 f7 f8 f9 hr hb hX HX2
      go_wp2
      go_ret2
      exact ⟨by rw [HX3.out]; rfl, L5.out⟩
    · obtain ⟨f1, f2, f3, f4, f5, f6, f7, f8, f9⟩ := (Blk.new w 45 #[.int .i64 2, .int .u64 fm, .bool false, .int .u64 0, .int .u64 l, .int .u64 tm, .bool false, .int .u64 0, .int .u64 l']).c9
      go_enter Tryd.func33, Tryd.ntmps33
      go_wp2_with fail
      refine Calls.mono (H1.out _) ?_
      rintro e w1 ⟨rfl, hb⟩
      have L1 := Lib.hid ((((Below.refl _ w).alloc (Nat.le_refl _) _).trans (hb.mono (by simp only [World.size_alloc]; omega))).alloc (((Below.refl _ w).alloc (Nat.le_refl _) _).trans (hb.mono (by simp only [World.size_alloc]; omega))).size (.cells #[.int .u8 0, .int .u8 1, .int .u8 8, .int .u8 0, .int .u8 6, .int .u8 4, .int .u8 0, .int .u8 2] 5))
      have hk := (Blk.new w 45 #[.int .i64 2, .int .u64 fm, .bool false, .int .u64 0, .int .u64 l, .int .u64 tm, .bool false, .int .u64 0, .int .u64 l']).below hb (by simp only [World.size_alloc]; omega)
      have R1 : Hid (RI .u8 (w1.alloc (.cells #[.int .u8 0, .int .u8 1, .int .u8 8, .int .u8 0, .int .u8 6, .int .u8 4, .int .u8 0, .int .u8 2] 5)) (w1.alloc (.cells #[.int .u8 0, .int .u8 1, .int .u8 8, .int .u8 0, .int .u8 6, .int .u8 4, .int .u8 0, .int .u8 2] 5)).heap.size (some ⟨w1.heap.size, 0, none⟩) 8 [0, 1, 8, 0, 6, 4, 0, 2]) := Lib.hid (Blk.reads (zs := [0, 1, 8, 0, 6, 4, 0, 2]) (Blk.new w1 5 #[.int .u8 0, .int .u8 1, .int .u8 8, .int .u8 0, .int .u8 6, .int .u8 4, .int .u8 0, .int .u8 2]) HW.out (by simp only [World.size_alloc]; omega))
      have K1 := Lib.hid (hk.alloc (.cells #[.int .u8 0, .int .u8 1, .int .u8 8, .int .u8 0, .int .u8 6, .int .u8 4, .int .u8 0, .int .u8 2] 5))
      clear f1 f2 f3 f4 f5 f6 f7 f8 f9 hb
      obtain ⟨e1, e2, e3, e4, e5, e6, e7, e8, e9⟩ := hk.c9
      obtain ⟨f1, f2, f3, f4, f5, f6, f7, f8, f9⟩ := K1.out.c9
      clear hk
      go_wp2_with fail
      refine Calls.mono (HP1.out _ _ _ _ R1.out) ?_
      rintro e w2 ⟨A2, c2, rfl, hr, -, hb⟩
      have R2 := Lib.hid (show RI .u8 w2 w2.heap.size A2 14 _ from hr)
      have K2 := Lib.hid (K1.out.below hb K1.out.lt)
      have L2 := Lib.hid (L1.out.trans (hb.mono L1.out.size))
      clear e1 e2 e3 e4 e5 e6 e7 e8 e9 f1 f2 f3 f4 f5 f6 f7 f8 f9 hr hb
      obtain ⟨f1, f2, f3, f4, f5, f6, f7, f8, f9⟩ := K2.out.c9
      go_wp2_with fail
      refine Calls.mono (HP2.out _ _ _ _ R2.out) ?_
      rintro e w3 ⟨A3, c3, rfl, hr, -, hb⟩
      have R3 := Lib.hid (show RI .u8 w3 w3.heap.size A3 18 _ from hr)
      have K3 := Lib.hid (K2.out.below hb K2.out.lt)
      have L3 := Lib.hid (L2.out.trans (hb.mono L2.out.size))
      clear f1 f2 f3 f4 f5 f6 f7 f8 f9 hr hb
      obtain ⟨f1, f2, f3, f4, f5, f6, f7, f8, f9⟩ := K3.out.c9
      go_wp2_with fail
      refine Calls.mono (HP3.out _ _ _ _ R3.out) ?_
      rintro e w4 ⟨A4, c4, rfl, hr, -, hb⟩
      have R4 := Lib.hid (show RI .u8 w4 w4.heap.size A4 24 _ from hr)
      have K4 := Lib.hid (K3.out.below hb K3.out.lt)
      have L4 := Lib.hid (L3.out.trans (hb.mono L3.out.size))
      clear f1 f2 f3 f4 f5 f6 f7 f8 f9 hr hb
      obtain ⟨f1, f2, f3, f4, f5, f6, f7, f8, f9⟩ := K4.out.c9
      go_wp2_with fail
      refine Calls.mono (HP4.out _ _ _ _ R4.out) ?_
      rintro e w5 ⟨A5, c5, rfl, hr, -, hb⟩
      have hcv := conv_str (c := c5) (show RI .u8 w5 w5.heap.size A5 28 _ from hr)
      have L5 := Lib.hid (L4.out.trans (hb.mono L4.out.size))
      obtain ⟨X, hX⟩ : ∃ X, strOfNums ([0, 1, 8, 0, 6, 4, 0, 2] ++ putOf 6 fm ++ putOf 4 l ++ putOf 6 tm ++ putOf 4 l') = X := ⟨_, rfl⟩
      have HX2 := HX.out
      rw [hX] at hcv HX2
      have HX3 := Lib.hid HX2
      clear f1 f2 f3 f4 f5 f6 f7 f8 f9 hr hb hX HX2
      go_wp2
      go_ret2
      exact ⟨by rw [HX3.out]; rfl, L5.out⟩
end Go.Proofs.YtnhlgonldffgoaaDoor
