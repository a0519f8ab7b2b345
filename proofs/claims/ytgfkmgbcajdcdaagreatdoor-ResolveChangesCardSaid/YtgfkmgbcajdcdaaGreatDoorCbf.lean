/-
  Several texts in one: RwB.
-/
import Derived.Test.YtgfkmgbcajdcdaaGreatDoorCbb
import Derived.Test.YtgfkmgbcajdcdaaGreatDoorCbe
namespace Go.Proofs.YtgfkmgbcajdcdaaGreatDoor
open Go.RowKit Ifs
set_option linter.unusedVariables false

theorem filt_succ {α β : Type} {f : α → Bool} {g : α → β} {l : List α} {i : Nat} {x : α} (h : l[i]? = some x) : ((l.take (i + 1)).filter f).map g = ((l.take i).filter f).map g ++ (if f x = true then [g x] else []) := by
  rw [List.take_add_one, h, List.filter_append, List.map_append]
  by_cases hf : f x = true <;> simp [hf]
theorem filt_le {α β : Type} (f : α → Bool) (g : α → β) (l : List α) (i : Nat) : (((l.take i).filter f).map g).length ≤ l.length := by
  rw [List.length_map]
  refine Nat.le_trans (List.length_filter_le _ _) ?_
  rw [List.length_take]
  exact Nat.min_le_right _ _
theorem cg_cells {w : World} {base g n c k : Nat} {l : List CgI} (h : RowC w base (some ⟨g, 0, none⟩) n c l) {e : CgI} (he : l[k]? = some e) :
    w.cell? ⟨g, k * 10, none⟩ = some (.bool e.1) ∧ w.cell? ⟨g, k * 10 + 1, none⟩ = some (.bool e.2.1.1.1) ∧ w.cell? ⟨g, k * 10 + 2, none⟩ = some (.int .u64 (e.2.1.1.2.1 : Int)) ∧ w.cell? ⟨g, k * 10 + 3, none⟩ = some (.int .u64 (e.2.1.1.2.2 : Int)) ∧ w.cell? ⟨g, k * 10 + 4, none⟩ = some (.int .i64 e.2.1.2) ∧
    w.cell? ⟨g, k * 10 + 5, none⟩ = some (.int .i64 e.2.2.1) ∧ w.cell? ⟨g, k * 10 + 6, none⟩ = some (.bool e.2.2.2.1.1) ∧ w.cell? ⟨g, k * 10 + 7, none⟩ = some (.int .u64 (e.2.2.2.1.2.1 : Int)) ∧ w.cell? ⟨g, k * 10 + 8, none⟩ = some (.int .u64 (e.2.2.2.1.2.2 : Int)) ∧ w.cell? ⟨g, k * 10 + 9, none⟩ = some (.bool e.2.2.2.2) := by
  have hat := fun q hq => flatk_at (n := 10) cg_ten he (k := q) hq
  exact ⟨own_cellN h (hat 0 (by decide)), own_cellN h (hat 1 (by decide)), own_cellN h (hat 2 (by decide)), own_cellN h (hat 3 (by decide)), own_cellN h (hat 4 (by decide)), own_cellN h (hat 5 (by decide)), own_cellN h (hat 6 (by decide)), own_cellN h (hat 7 (by decide)), own_cellN h (hat 8 (by decide)), own_cellN h (hat 9 (by decide))⟩
theorem goneA_iff {now : List EnI} {e : EnI} {h : Nat} (hh : hasP now e.1 = h) : goneA now e = decide (h = 0) := by unfold goneA; rw [hh]
theorem difB_zero {old : List EnI} {e : EnI} (hh : hasP old e.1 = 0) : difB old e = true := by unfold difB; rw [hh]; rfl
theorem difB_succ {old : List EnI} {e f : EnI} {i : Nat} (hh : hasP old e.1 = i + 1) (hf : old[i]? = some f) : difB old e = !decide (f.2 = e.2) := by
  unfold difB hopAt
  rw [hh, Nat.add_sub_cancel, hf]
  simp
theorem foldC_len : ∀ (l o : List CgI), (l.foldl insC o).length = o.length + l.length
  | [], o => rfl
  | x :: r, o => by rw [List.foldl_cons, foldC_len r, insC_len, List.length_cons]; omega
theorem foldC_mem : ∀ (l o : List CgI) (x : CgI), x ∈ l.foldl insC o ↔ x ∈ l ∨ x ∈ o
  | [], o, x => by simp
  | y :: r, o, x => by rw [List.foldl_cons, foldC_mem r, insC_mem, List.mem_cons]; simp only [or_left_comm, or_assoc]
theorem foldC_succ {l : List CgI} {i : Nat} {x : CgI} (h : l[i]? = some x) : (l.take (i + 1)).foldl insC [] = insC ((l.take i).foldl insC []) x := by
  rw [List.take_add_one, h, List.foldl_append]; rfl
theorem all_ok {old now : List EnI} (ho : SrtE old) (hn : SrtE now) : ∀ c ∈ allA old now ++ allB old now, PvOk c.2.1 := by
  intro c hc
  rcases List.mem_append.1 hc with h | h
  · exact ho.ok _ ((allA_mem c).1 h).2.1
  · exact hn.ok _ ((allB_mem ho c).1 h).2.1
theorem insC_cells (out : List CgI) (x : CgI) (k : Nat) (hp : posC out x out.length = k) : [] ++ (out.take k).flatMap cgC ++ cgC x ++ (out.drop k).flatMap cgC = (insC out x).flatMap cgC := by
  unfold insC
  rw [hp, List.flatMap_append, List.flatMap_cons]
  simp
theorem own_monoC {w : World} {base base' : Nat} {e : TypeId} {size : Nat} {v : Value} {n : Nat} {xs : List Value} (h : w.ownsRow base e size v n xs) (hb : base' ≤ base) : w.ownsRow base' e size v n xs := by
  refine ⟨h.1, ?_⟩
  rcases h.2 with h | ⟨g, cap, cur, a, b, c⟩
  · exact .inl h
  · exact .inr ⟨g, cap, cur, a, Nat.le_trans hb b, c⟩
set_option maxRecDepth 100000 in
set_option maxHeartbeats 16000000 in
theorem dchanges_any (A B : Option Addr) (n k c d : Nat) (old now : List EnI) (hon : old.length = n) (hnk : now.length = k) (hn : n ≤ 1000) (hk : k ≤ 1000) (w : World) (h : RowE w 0 A n c old) (h2 : RowE w 0 B k d now) (hso : SrtE old) (hsn : SrtE now) :
    Calls Tryz.prog 34 #[.slice A n c, .slice B k d] w fun e w' => ∃ A1 c1, e = .returned (.slice A1 (srtC (allA old now ++ allB old now)).length c1) ∧ RowC w' w.heap.size A1 (srtC (allA old now ++ allB old now)).length c1 (srtC (allA old now ++ allB old now)) ∧ Tch w w' [] := by
  have HO := Lib.hid (fun W (hW : Tch w W []) => own_tch h hW (by simp))
  have HN := Lib.hid (fun W (hW : Tch w W []) => own_tch h2 hW (by simp))
  have HOl := Lib.hid hon
  have HNl := Lib.hid hnk
  have HSo := Lib.hid hso
  have HSn := Lib.hid hsn
  clear hon hnk h h2 hso hsn
  go_enter Tryz.func34, Tryz.ntmps34
  go_wp2
  go_loopw [5, 6] (fun lv iv wr => ∃ (i f : Nat) (A1 : Option Addr) (c1 : Nat), lv = .slice A1 f c1 ∧ iv = .int .i64 (i : Int) ∧ i ≤ n ∧ Hid ((((old.take i).filter (goneA now)).map fun e => ((true, e) : CgI)).length = f) ∧ Hid (RowC wr w.heap.size A1 f c1 (((old.take i).filter (goneA now)).map fun e => (true, e))) ∧ Hid (Tch w wr [])) (fun _ iv _ => n - (intOf iv).toNat)
  case atStart => exact ⟨0, 0, none, 0, rfl, rfl, Nat.zero_le _, Lib.hid rfl, Lib.hid ⟨rfl, .inl ⟨rfl, rfl⟩⟩, Lib.hid (Tch.refl _ _)⟩
  case round =>
    obtain ⟨i, f, A1, c1, rfl, rfl, hi, hf, hR, hT⟩ := hrel
    by_cases hin : i < n
    · have iI : (i : Int) < (n : Int) := by omega
      have i0 : (0 : Int) ≤ (i : Int) := by omega
      have i1 : IntKind.i64.wrap ((i : Int) + 1) = (i : Int) + 1 := by rw [IntKind.wrap_i64]; omega
      obtain ⟨x, hx⟩ : ∃ x, old[i]? = some x := ⟨_, List.getElem?_eq_getElem (by rw [HOl.out]; exact hin)⟩
      have HXx := Lib.hid hx
      have HSu := Lib.hid (filt_succ (f := goneA now) (g := fun e => ((true, e) : CgI)) hx)
      have HTl := Lib.hid (filt_le (goneA now) (fun e => ((true, e) : CgI)) old i)
      have HAt := Lib.hid (fun W (hW : Tch w W []) => at_any B k d now HNl.out (by omega) x.1 W (HN.out W hW))
      obtain ⟨q, hq⟩ : ∃ q, hasP now x.1 = q := ⟨_, rfl⟩
      rw [hq] at HAt
      have HG := Lib.hid (goneA_iff hq)
      rw [HG.out] at HSu
      have hoc := HO.out wr hT.out
      obtain ⟨g, rfl⟩ := slice_some hoc (by omega)
      have HCx := Lib.hid (fun W (hW : Tch w W []) => en_cells (HO.out W hW) hx)
      obtain ⟨t0, t1, t2, t3, -⟩ := HCx.out wr hT.out
      obtain ⟨⟨⟨xs, xh, xl⟩, xn⟩, ⟨hp, ⟨hs, hh, hl⟩, hw⟩⟩ := x
      clear hx hq hoc
      go_wp2_with fail
      refine Calls.mono (HAt.out wr hT.out) ?_
      rintro e w4 ⟨rfl, hT4⟩
      have HT4 := Lib.hid (hT.out.trans hT4)
      have HR4 := Lib.hid (own_tch hR.out hT4 (by simp))
      clear hT4 t0 t1 t2 t3
      by_cases q0 : q = 0
      · subst q0
        have bq : (((0 : Nat) : Int) - 1) < 0 := by decide
        simp only [Int.natCast_zero] at bq ⊢
        have HSn2 : Hid ((((old.take (i + 1)).filter (goneA now)).map fun e => ((true, e) : CgI)) = (((old.take i).filter (goneA now)).map fun e => ((true, e) : CgI)) ++ [(true, (((xs, xh, xl), xn), (hp, (hs, hh, hl), hw)))]) := Lib.hid (by rw [HSu.out]; simp)
        obtain ⟨t0, t1, t2, t3, t4, t5, t6, t7, t8⟩ := HCx.out w4 HT4.out
        have HSr := Lib.hid (src_new w4 90 (cgC (true, (((xs, xh, xl), xn), (hp, (hs, hh, hl), hw)))))
        have HTa : Hid (Tch w4 (w4.alloc (.cells (cgC (true, (((xs, xh, xl), xn), (hp, (hs, hh, hl), hw)))).toArray 90)) []) := Lib.hid ((Tch.refl w4 []).alloc _)
        have HRa := Lib.hid (own_tch HR4.out HTa.out (by simp))
        have HSza : Hid (w.heap.size ≤ (w4.alloc (.cells (cgC (true, (((xs, xh, xl), xn), (hp, (hs, hh, hl), hw)))).toArray 90)).heap.size) := Lib.hid (Nat.le_trans HT4.out.size HTa.out.size)
        have HSf : Hid (f ≤ 1000000) := Lib.hid (by have h1 := HTl.out; rw [hf.out, HOl.out] at h1; omega)
        go_wp2_with (at_builtin; (refine wpList_apc 86 90 (.agg #[.bool false, .bool false, .int .u64 0, .int .u64 0, .int .i64 0, .int .i64 0, .bool false, .int .u64 0, .int .u64 0, .bool false]) 10 80 Tryz.underlying86 infoCg rfl (by decide) (by decide) _ rfl (.tmp 27) (.tmp 33) rfl w.heap.size (.slice A1 f c1) f ((((old.take i).filter (goneA now)).map fun e => ((true, e) : CgI)).flatMap cgC) rfl HRa.out ⟨w4.heap.size, 0, none⟩ 1 (cgC (true, (((xs, xh, xl), xn), (hp, (hs, hh, hl), hw)))) rfl rfl (fun j u hj => HSr.out j u hj) (cg_one _) HSf.out HSza.out ?_; intro v7 w7 hown hg hv; obtain ⟨A7, c7, e7, -, -⟩ := own_sl hown; subst e7; have HRz := Lib.hid hown; have HTz : Hid (Tch w w7 []) := Lib.hid ((HT4.out.trans HTa.out).trans_fre (Tch.of_grown' (S := obI (.slice A1 f c1)) hg (fun k e => by rw [obI_some e]; simp)) (fun s hs => .inr (own_geI HR4.out s hs).1)); clear hown hg hv t0 t1 t2 t3 t4 t5 t6 t7 t8 bq))
        go_roundw
        case rel => exact ⟨i + 1, f + 1, A7, c7, rfl, by go_num, hin, Lib.hid (by rw [HSn2.out, List.length_append, hf.out]; rfl), Lib.hid (by rw [HSn2.out]; unfold RowC; rw [List.flatMap_append]; exact HRz.out), HTz⟩
        case measure => simp [intOf]; omega
      · have bq : ¬ ((q : Int) - 1) < 0 := by omega
        have HSn2 : Hid ((((old.take (i + 1)).filter (goneA now)).map fun e => ((true, e) : CgI)) = (((old.take i).filter (goneA now)).map fun e => ((true, e) : CgI))) := Lib.hid (by rw [HSu.out]; simp [q0])
        obtain ⟨Z, hZ⟩ : ∃ Z, (q : Int) - 1 = Z := ⟨_, rfl⟩
        rw [hZ] at bq ⊢
        have bd : decide (Z < 0) = false := decide_eq_false bq
        clear bq hZ
        go_wp2
        clear bd
        go_roundw
        case rel => exact ⟨i + 1, f, A1, c1, rfl, by go_num, hin, Lib.hid (by rw [HSn2.out]; exact hf.out), Lib.hid (by rw [HSn2.out]; exact HR4.out), HT4⟩
        case measure => simp [intOf]; omega
    · obtain rfl : i = n := by omega
      have iI : ¬ (i : Int) < (i : Int) := by omega
      have hAa : ((old.take i).filter (goneA now)).map (fun e => ((true, e) : CgI)) = allA old now := by rw [List.take_of_length_le (by rw [HOl.out]; exact Nat.le_refl _)]; rfl
      rw [hAa] at hf hR
      have HF0 := Lib.hid hf.out
      have HR0 := Lib.hid hR.out
      have HT0 := Lib.hid hT.out
      have HAl := Lib.hid (show (allA old now).length ≤ i by have h1 := filt_le (goneA now) (fun e => ((true, e) : CgI)) old i; rw [hAa, HOl.out] at h1; exact h1)
      obtain ⟨LA, hLA⟩ : ∃ LA, allA old now = LA := ⟨_, rfl⟩
      rw [hLA] at HF0 HR0 HAl
      have HLA := Lib.hid hLA
      clear hf hR hT hAa hLA hin hi
      go_wp2
      go_loopw [5, 7] (fun lv iv wr => ∃ (i2 f2 : Nat) (A2 : Option Addr) (c2 : Nat), lv = .slice A2 f2 c2 ∧ iv = .int .i64 (i2 : Int) ∧ i2 ≤ k ∧ Hid ((LA ++ ((now.take i2).filter (difB old)).map fun e => ((false, e) : CgI)).length = f2) ∧ Hid (RowC wr w.heap.size A2 f2 c2 (LA ++ ((now.take i2).filter (difB old)).map fun e => ((false, e) : CgI))) ∧ Hid (Tch w wr [])) (fun _ iv _ => k - (intOf iv).toNat)
      case atStart => exact ⟨0, f, A1, c1, rfl, rfl, Nat.zero_le _, Lib.hid (by simp; exact HF0.out), Lib.hid (by simp; exact HR0.out), HT0⟩
      case round =>
        obtain ⟨i2, f2, A2, c2, rfl, rfl, hi2, hf2, hR2, hT2⟩ := hrel
        by_cases hik : i2 < k
        · have iI : (i2 : Int) < (k : Int) := by omega
          have i0 : (0 : Int) ≤ (i2 : Int) := by omega
          have i1 : IntKind.i64.wrap ((i2 : Int) + 1) = (i2 : Int) + 1 := by rw [IntKind.wrap_i64]; omega
          obtain ⟨x, hx⟩ : ∃ x, now[i2]? = some x := ⟨_, List.getElem?_eq_getElem (by rw [HNl.out]; exact hik)⟩
          have HSu := Lib.hid (filt_succ (f := difB old) (g := fun e => ((false, e) : CgI)) hx)
          have HTl := Lib.hid (filt_le (difB old) (fun e => ((false, e) : CgI)) now i2)
          have HAt := Lib.hid (fun W (hW : Tch w W []) => at_any A i c old HOl.out (by omega) x.1 W (HO.out W hW))
          have HDz := Lib.hid (fun h => difB_zero (old := old) (e := x) h)
          have HDs := Lib.hid (fun i f h hf => difB_succ (old := old) (e := x) (f := f) (i := i) h hf)
          have HPs := Lib.hid (fun i h => hasP_succ (l := old) (p := x.1) (i := i) h)
          obtain ⟨q, hq⟩ : ∃ q, hasP old x.1 = q := ⟨_, rfl⟩
          rw [hq] at HAt HDz HDs HPs
          have hqi : q ≤ i := by have h1 := hasP_le old x.1; rw [hq, HOl.out] at h1; exact h1
          have hoc := HN.out wr hT2.out
          obtain ⟨g, rfl⟩ := slice_some hoc (by omega)
          have HCx := Lib.hid (fun W (hW : Tch w W []) => en_cells (HN.out W hW) hx)
          obtain ⟨t0, t1, t2, t3, -⟩ := HCx.out wr hT2.out
          obtain ⟨⟨⟨xs, xh, xl⟩, xn⟩, ⟨hp, ⟨hs, hh, hl⟩, hw⟩⟩ := x
          clear hx hq hoc
          go_wp2_with fail
          refine Calls.mono (HAt.out wr hT2.out) ?_
          rintro e w4 ⟨rfl, hT4⟩
          have HT4 := Lib.hid (hT2.out.trans hT4)
          have HR4 := Lib.hid (own_tch hR2.out hT4 (by simp))
          clear hT4 t0 t1 t2 t3
          cases q with
          | zero =>
            have HSn2 : Hid ((((now.take (i2 + 1)).filter (difB old)).map fun e => ((false, e) : CgI)) = (((now.take i2).filter (difB old)).map fun e => ((false, e) : CgI)) ++ [(false, (((xs, xh, xl), xn), (hp, (hs, hh, hl), hw)))]) := Lib.hid (by rw [HSu.out, HDz.out rfl]; simp)
            have ez : ((0 : Nat) : Int) - 1 = -1 := rfl
            rw [ez]
            clear ez
            have HC0 : Hid (Tch w w4.drew []) := Lib.hid HT4.out.drew
            go_wp2
            refine wp_region_held_drew (S := (fun W => Tch w W [])) (by kernel_rfl) ?_ (fun hHeld => ?_)
            · (exact HC0.out)
            refine wpAnyH_take (i := 0) (oi := { dst := some 48, op := Go.Op.move (Go.Operand.tmp 8), type := 3, pos := "ref.go:102", after := #[], guard := none }) (v := ?_) rfl (by kernel_rfl) (by kernel_rfl) (by kernel_rfl) (fun _ _ _ h => h) (Or.inl ⟨by rfl, ?_⟩) (by assumption) ?_
            rotate_left
            · intro w hSw
              (try dsimp only at hSw)
              go_simp
              try (with_reducible rfl)
            try simp only [Act.put, List.setIfInBounds_toArray, List.set_cons_zero, List.set_cons_succ]
            refine wpAnyH_take (i := 1) (oi := { dst := some 49, op := Go.Op.binOp Go.BinOp.lss 3 (Go.Operand.tmp 48) (Go.Operand.const (Go.Value.int Go.IntKind.i64 0)) 3, type := 4, pos := "ref.go:102", after := #[{ on := 0, ground := Go.Ground.data }], guard := none }) (v := ?_) rfl (by kernel_rfl) (by kernel_rfl) (by kernel_rfl) (fun _ _ _ h => h) (Or.inl ⟨by rfl, ?_⟩) (by assumption) ?_
            rotate_left
            · intro w hSw
              (try dsimp only at hSw)
              go_simp
              try (with_reducible rfl)
            try simp only [Act.put, List.setIfInBounds_toArray, List.set_cons_zero, List.set_cons_succ]
            refine wpAnyH_take (i := 2) (oi := { dst := some 50, op := Go.Op.move (Go.Operand.tmp 49), type := 4, pos := "ref.go:102", after := #[{ on := 1, ground := Go.Ground.data }], guard := none }) (v := ?_) rfl (by kernel_rfl) (by kernel_rfl) (by kernel_rfl) (fun _ _ _ h => h) (Or.inl ⟨by rfl, ?_⟩) (by assumption) ?_
            rotate_left
            · intro w hSw
              (try dsimp only at hSw)
              go_simp
              try (with_reducible rfl)
            try simp only [Act.put, List.setIfInBounds_toArray, List.set_cons_zero, List.set_cons_succ]
            refine wpAnyH_take (i := 3) (oi := { dst := some 51, op := Go.Op.move (Go.Operand.tmp 0), type := 59, pos := "ref.go:102", after := #[{ on := 2, ground := Go.Ground.guard }], guard := some (2, false) }) (v := undef) rfl (by kernel_rfl) (by kernel_rfl) (by kernel_rfl) (fun _ _ _ h => h) (Or.inr ⟨by rfl, rfl⟩) (by assumption) ?_
            try simp only [Act.put, List.setIfInBounds_toArray, List.set_cons_zero, List.set_cons_succ]
            refine wpAnyH_take (i := 4) (oi := { dst := some 52, op := Go.Op.move (Go.Operand.tmp 8), type := 3, pos := "ref.go:102", after := #[{ on := 2, ground := Go.Ground.guard }], guard := some (2, false) }) (v := undef) rfl (by kernel_rfl) (by kernel_rfl) (by kernel_rfl) (fun _ _ _ h => h) (Or.inr ⟨by rfl, rfl⟩) (by assumption) ?_
            try simp only [Act.put, List.setIfInBounds_toArray, List.set_cons_zero, List.set_cons_succ]
            refine wpAnyH_take (i := 5) (oi := { dst := some 53, op := Go.Op.indexAddr 59 (Go.Operand.tmp 51) (Go.Operand.tmp 52), type := 0, pos := "ref.go:102", after := #[{ on := 3, ground := Go.Ground.data }, { on := 4, ground := Go.Ground.data }, { on := 2, ground := Go.Ground.guard }], guard := some (2, false) }) (v := undef) rfl (by kernel_rfl) (by kernel_rfl) (by kernel_rfl) (fun _ _ _ h => h) (Or.inr ⟨by rfl, rfl⟩) (by assumption) ?_
            try simp only [Act.put, List.setIfInBounds_toArray, List.set_cons_zero, List.set_cons_succ]
            refine wpAnyH_take (i := 6) (oi := { dst := some 54, op := Go.Op.fieldAddr 70 (Go.Operand.tmp 53) 1, type := 0, pos := "ref.go:102", after := #[{ on := 5, ground := Go.Ground.data }, { on := 2, ground := Go.Ground.guard }], guard := some (2, false) }) (v := undef) rfl (by kernel_rfl) (by kernel_rfl) (by kernel_rfl) (fun _ _ _ h => h) (Or.inr ⟨by rfl, rfl⟩) (by assumption) ?_
            try simp only [Act.put, List.setIfInBounds_toArray, List.set_cons_zero, List.set_cons_succ]
            refine wpAnyH_take (i := 7) (oi := { dst := some 55, op := Go.Op.load 43 (Go.Operand.tmp 54), type := 43, pos := "ref.go:102", after := #[{ on := 6, ground := Go.Ground.data }, { on := 2, ground := Go.Ground.guard }], guard := some (2, false) }) (v := undef) rfl (by kernel_rfl) (by kernel_rfl) (by kernel_rfl) (fun _ _ _ h => h) (Or.inr ⟨by rfl, rfl⟩) (by assumption) ?_
            try simp only [Act.put, List.setIfInBounds_toArray, List.set_cons_zero, List.set_cons_succ]
            refine wpAnyH_take (i := 8) (oi := { dst := some 56, op := Go.Op.move (Go.Operand.tmp 1), type := 59, pos := "ref.go:102", after := #[{ on := 2, ground := Go.Ground.guard }], guard := some (2, false) }) (v := undef) rfl (by kernel_rfl) (by kernel_rfl) (by kernel_rfl) (fun _ _ _ h => h) (Or.inr ⟨by rfl, rfl⟩) (by assumption) ?_
            try simp only [Act.put, List.setIfInBounds_toArray, List.set_cons_zero, List.set_cons_succ]
            refine wpAnyH_take (i := 9) (oi := { dst := some 57, op := Go.Op.move (Go.Operand.tmp 7), type := 3, pos := "ref.go:102", after := #[{ on := 2, ground := Go.Ground.guard }], guard := some (2, false) }) (v := undef) rfl (by kernel_rfl) (by kernel_rfl) (by kernel_rfl) (fun _ _ _ h => h) (Or.inr ⟨by rfl, rfl⟩) (by assumption) ?_
            try simp only [Act.put, List.setIfInBounds_toArray, List.set_cons_zero, List.set_cons_succ]
            refine wpAnyH_take (i := 10) (oi := { dst := some 58, op := Go.Op.indexAddr 59 (Go.Operand.tmp 56) (Go.Operand.tmp 57), type := 0, pos := "ref.go:102", after := #[{ on := 8, ground := Go.Ground.data }, { on := 9, ground := Go.Ground.data }, { on := 2, ground := Go.Ground.guard }], guard := some (2, false) }) (v := undef) rfl (by kernel_rfl) (by kernel_rfl) (by kernel_rfl) (fun _ _ _ h => h) (Or.inr ⟨by rfl, rfl⟩) (by assumption) ?_
            try simp only [Act.put, List.setIfInBounds_toArray, List.set_cons_zero, List.set_cons_succ]
            refine wpAnyH_take (i := 11) (oi := { dst := some 59, op := Go.Op.fieldAddr 70 (Go.Operand.tmp 58) 1, type := 0, pos := "ref.go:102", after := #[{ on := 10, ground := Go.Ground.data }, { on := 2, ground := Go.Ground.guard }], guard := some (2, false) }) (v := undef) rfl (by kernel_rfl) (by kernel_rfl) (by kernel_rfl) (fun _ _ _ h => h) (Or.inr ⟨by rfl, rfl⟩) (by assumption) ?_
            try simp only [Act.put, List.setIfInBounds_toArray, List.set_cons_zero, List.set_cons_succ]
            refine wpAnyH_take (i := 12) (oi := { dst := some 60, op := Go.Op.load 43 (Go.Operand.tmp 59), type := 43, pos := "ref.go:102", after := #[{ on := 11, ground := Go.Ground.data }, { on := 2, ground := Go.Ground.guard }], guard := some (2, false) }) (v := undef) rfl (by kernel_rfl) (by kernel_rfl) (by kernel_rfl) (fun _ _ _ h => h) (Or.inr ⟨by rfl, rfl⟩) (by assumption) ?_
            try simp only [Act.put, List.setIfInBounds_toArray, List.set_cons_zero, List.set_cons_succ]
            refine wpAnyH_take (i := 13) (oi := { dst := some 61, op := Go.Op.binOp Go.BinOp.neq 43 (Go.Operand.tmp 55) (Go.Operand.tmp 60) 43, type := 4, pos := "ref.go:102", after := #[{ on := 7, ground := Go.Ground.data }, { on := 12, ground := Go.Ground.data }, { on := 2, ground := Go.Ground.guard }], guard := some (2, false) }) (v := undef) rfl (by kernel_rfl) (by kernel_rfl) (by kernel_rfl) (fun _ _ _ h => h) (Or.inr ⟨by rfl, rfl⟩) (by assumption) ?_
            try simp only [Act.put, List.setIfInBounds_toArray, List.set_cons_zero, List.set_cons_succ]
            refine wpAnyH_take (i := 14) (oi := { dst := some 62, op := Go.Op.pick (Go.Operand.tmp 50) (Go.Operand.const (Go.Value.bool true)) (Go.Operand.tmp 61), type := 4, pos := "ref.go:102", after := #[{ on := 2, ground := Go.Ground.data }, { on := 13, ground := Go.Ground.data }], guard := none }) (v := ?_) rfl (by kernel_rfl) (by kernel_rfl) (by kernel_rfl) (fun _ _ _ h => h) (Or.inl ⟨by rfl, ?_⟩) (by assumption) ?_
            rotate_left
            · intro w hSw
              (try dsimp only at hSw)
              go_simp
              try (with_reducible rfl)
            try simp only [Act.put, List.setIfInBounds_toArray, List.set_cons_zero, List.set_cons_succ]
            refine wpAnyH_done (by kernel_rfl) ?_ _
            obtain ⟨w5, hw5⟩ : ∃ W, w4.drew = W := ⟨_, rfl⟩
            rw [hw5]
            have HT5 : Hid (Tch w w5 []) := Lib.hid (hw5 ▸ HT4.out.drew)
            have HRq : Hid (RowC w5 w.heap.size A2 f2 c2 _) := Lib.hid (hw5 ▸ own_tch HR4.out (Tch.refl w4 []).drew (by simp))
            obtain ⟨t0, t1, t2, t3, t4, t5, t6, t7, t8⟩ := HCx.out w5 HT5.out
            clear hw5
            have HSr := Lib.hid (src_new w5 90 (cgC (false, (((xs, xh, xl), xn), (hp, (hs, hh, hl), hw)))))
            have HTa : Hid (Tch w5 (w5.alloc (.cells (cgC (false, (((xs, xh, xl), xn), (hp, (hs, hh, hl), hw)))).toArray 90)) []) := Lib.hid ((Tch.refl w5 []).alloc _)
            have HRa := Lib.hid (own_tch HRq.out HTa.out (by simp))
            have HSza : Hid (w.heap.size ≤ (w5.alloc (.cells (cgC (false, (((xs, xh, xl), xn), (hp, (hs, hh, hl), hw)))).toArray 90)).heap.size) := Lib.hid (Nat.le_trans HT5.out.size HTa.out.size)
            have HSf : Hid (f2 ≤ 1000000) := Lib.hid (by have h1 := HTl.out; have h2 := hf2.out; rw [List.length_append] at h2; rw [HNl.out] at h1; have h3 := HAl.out; omega)
            go_wp2_with (at_builtin; (refine wpList_apc 86 90 (.agg #[.bool false, .bool false, .int .u64 0, .int .u64 0, .int .i64 0, .int .i64 0, .bool false, .int .u64 0, .int .u64 0, .bool false]) 10 80 Tryz.underlying86 infoCg rfl (by decide) (by decide) _ rfl (.tmp 63) (.tmp 69) rfl w.heap.size (.slice A2 f2 c2) f2 ((LA ++ ((now.take i2).filter (difB old)).map fun e => ((false, e) : CgI)).flatMap cgC) rfl HRa.out ⟨w5.heap.size, 0, none⟩ 1 (cgC (false, (((xs, xh, xl), xn), (hp, (hs, hh, hl), hw)))) rfl rfl (fun j u hj => HSr.out j u hj) (cg_one _) HSf.out HSza.out ?_; intro v7 w7 hown hg hv; obtain ⟨A7, c7, e7, -, -⟩ := own_sl hown; subst e7; have HRz := Lib.hid hown; have HTz : Hid (Tch w w7 []) := Lib.hid ((HT5.out.trans HTa.out).trans_fre (Tch.of_grown' (S := obI (.slice A2 f2 c2)) hg (fun k e => by rw [obI_some e]; simp)) (fun s hs => .inr (own_geI HRq.out s hs).1)); clear hown hg hv t0 t1 t2 t3 t4 t5 t6 t7 t8))
            go_roundw
            case rel => exact ⟨i2 + 1, f2 + 1, A7, c7, rfl, by go_num, hik, Lib.hid (by rw [HSn2.out, ← List.append_assoc, List.length_append, hf2.out]; rfl), Lib.hid (by rw [HSn2.out, ← List.append_assoc]; unfold RowC; rw [List.flatMap_append]; exact HRz.out), HTz⟩
            case measure => simp [intOf]; omega
          | succ q =>
            obtain ⟨y, hy, hye⟩ := HPs.out q rfl
            obtain ⟨b, hb⟩ : ∃ b, decide (y.2 = (hp, (hs, hh, hl), hw)) = b := ⟨_, rfl⟩
            have HDf : Hid (difB old (((xs, xh, xl), xn), (hp, (hs, hh, hl), hw)) = !b) := Lib.hid (by rw [← hb]; exact HDs.out q y rfl hy)
            have HQ := eq_neq 43 _ _ (eq_hpR y.2 (hp, (hs, hh, hl), hw) hb)
            obtain ⟨gO, rfl⟩ := slice_some (HO.out w4 HT4.out) (by omega)
            have HCy := Lib.hid (fun W (hW : Tch w W []) => en_cells (HO.out W hW) hy)
            obtain ⟨-, -, -, -, s4, s5, s6, s7, s8⟩ := HCy.out w4 HT4.out
            obtain ⟨-, -, -, -, t4, t5, t6, t7, t8⟩ := HCx.out w4 HT4.out
            obtain ⟨yp, ⟨yo, ⟨ys, yh, yl⟩, yw⟩⟩ := y
            have ez : ((q + 1 : Nat) : Int) - 1 = (q : Int) := by omega
            rw [ez]
            have q0 : (0 : Int) ≤ (q : Int) := by omega
            have qI : (q : Int) < (i : Int) := by omega
            have qn : ¬ (q : Int) < 0 := by omega
            have qd : decide ((q : Int) < 0) = false := decide_eq_false qn
            clear hy hye hb ez
            go_wp2
            go_quiet (fail)
            obtain ⟨w5, hw5⟩ : ∃ W, w4.drewN nq = W := ⟨_, rfl⟩
            rw [hw5]
            have HT5 : Hid (Tch w w5 []) := Lib.hid (hw5 ▸ HT4.out.drewN nq)
            have HRq : Hid (RowC w5 w.heap.size A2 f2 c2 _) := Lib.hid (hw5 ▸ own_tch HR4.out ((Tch.refl w4 []).drewN nq) (by simp))
            clear hw5 s4 s5 s6 s7 s8 t4 t5 t6 t7 t8 HQ q0 qI qn qd
            cases b with
            | false =>
              have HSn2 : Hid ((((now.take (i2 + 1)).filter (difB old)).map fun e => ((false, e) : CgI)) = (((now.take i2).filter (difB old)).map fun e => ((false, e) : CgI)) ++ [(false, (((xs, xh, xl), xn), (hp, (hs, hh, hl), hw)))]) := Lib.hid (by rw [HSu.out, HDf.out]; simp)
              obtain ⟨t0, t1, t2, t3, t4, t5, t6, t7, t8⟩ := HCx.out w5 HT5.out
              have HSr := Lib.hid (src_new w5 90 (cgC (false, (((xs, xh, xl), xn), (hp, (hs, hh, hl), hw)))))
              have HTa : Hid (Tch w5 (w5.alloc (.cells (cgC (false, (((xs, xh, xl), xn), (hp, (hs, hh, hl), hw)))).toArray 90)) []) := Lib.hid ((Tch.refl w5 []).alloc _)
              have HRa := Lib.hid (own_tch HRq.out HTa.out (by simp))
              have HSza : Hid (w.heap.size ≤ (w5.alloc (.cells (cgC (false, (((xs, xh, xl), xn), (hp, (hs, hh, hl), hw)))).toArray 90)).heap.size) := Lib.hid (Nat.le_trans HT5.out.size HTa.out.size)
              have HSf : Hid (f2 ≤ 1000000) := Lib.hid (by have h1 := HTl.out; have h2 := hf2.out; rw [List.length_append] at h2; rw [HNl.out] at h1; have h3 := HAl.out; omega)
              go_wp2_with (at_builtin; (refine wpList_apc 86 90 (.agg #[.bool false, .bool false, .int .u64 0, .int .u64 0, .int .i64 0, .int .i64 0, .bool false, .int .u64 0, .int .u64 0, .bool false]) 10 80 Tryz.underlying86 infoCg rfl (by decide) (by decide) _ rfl (.tmp 63) (.tmp 69) rfl w.heap.size (.slice A2 f2 c2) f2 ((LA ++ ((now.take i2).filter (difB old)).map fun e => ((false, e) : CgI)).flatMap cgC) rfl HRa.out ⟨w5.heap.size, 0, none⟩ 1 (cgC (false, (((xs, xh, xl), xn), (hp, (hs, hh, hl), hw)))) rfl rfl (fun j u hj => HSr.out j u hj) (cg_one _) HSf.out HSza.out ?_; intro v7 w7 hown hg hv; obtain ⟨A7, c7, e7, -, -⟩ := own_sl hown; subst e7; have HRz := Lib.hid hown; have HTz : Hid (Tch w w7 []) := Lib.hid ((HT5.out.trans HTa.out).trans_fre (Tch.of_grown' (S := obI (.slice A2 f2 c2)) hg (fun k e => by rw [obI_some e]; simp)) (fun s hs => .inr (own_geI HRq.out s hs).1)); clear hown hg hv t0 t1 t2 t3 t4 t5 t6 t7 t8))
              go_roundw
              case rel => exact ⟨i2 + 1, f2 + 1, A7, c7, rfl, by go_num, hik, Lib.hid (by rw [HSn2.out, ← List.append_assoc, List.length_append, hf2.out]; rfl), Lib.hid (by rw [HSn2.out, ← List.append_assoc]; unfold RowC; rw [List.flatMap_append]; exact HRz.out), HTz⟩
              case measure => simp [intOf]; omega
            | true =>
              have HSn2 : Hid ((((now.take (i2 + 1)).filter (difB old)).map fun e => ((false, e) : CgI)) = (((now.take i2).filter (difB old)).map fun e => ((false, e) : CgI))) := Lib.hid (by rw [HSu.out, HDf.out]; simp)
              go_wp2
              go_roundw
              case rel => exact ⟨i2 + 1, f2, A2, c2, rfl, by go_num, hik, Lib.hid (by rw [HSn2.out]; exact hf2.out), Lib.hid (by rw [HSn2.out]; exact HRq.out), HT5⟩
              case measure => simp [intOf]; omega
        · obtain rfl : i2 = k := by omega
          have iI : ¬ (i2 : Int) < (i2 : Int) := by omega
          have hBb : ((now.take i2).filter (difB old)).map (fun e => ((false, e) : CgI)) = allB old now := by rw [List.take_of_length_le (by rw [HNl.out]; exact Nat.le_refl _)]; rfl
          rw [hBb, ← HLA.out] at hf2 hR2
          have HFm : Hid (f2 ≤ 2000) := Lib.hid (by
            have h1 := filt_le (difB old) (fun e => ((false, e) : CgI)) now i2
            have h2 := hf2.out
            rw [HLA.out, List.length_append, ← hBb] at h2
            rw [HNl.out] at h1
            have h3 := HAl.out
            omega)
          obtain ⟨al, hal⟩ : ∃ al, allA old now ++ allB old now = al := ⟨_, rfl⟩
          rw [hal] at hf2 hR2
          have HF2 := Lib.hid hf2.out
          have HR2 := Lib.hid hR2.out
          have HT2 := Lib.hid hT2.out
          have HEl := Lib.hid hal
          clear hf2 hR2 hT2 hBb hal hik hi2
          have HPv := Lib.hid (all_ok HSo.out HSn.out)
          rw [HEl.out] at HPv
          obtain ⟨w3, hw3⟩ : ∃ W, W = wr := ⟨_, rfl⟩
          subst hw3
          go_wp2
          go_loopw [9, 10] (fun lv iv wr => ∃ (i3 : Nat) (A3 : Option Addr) (c3 : Nat), lv = .slice A3 i3 c3 ∧ iv = .int .i64 (i3 : Int) ∧ i3 ≤ f2 ∧ Hid (Tch w3 wr []) ∧ Hid (RowC wr w3.heap.size A3 i3 c3 ((al.take i3).foldl insC []))) (fun _ iv _ => f2 - (intOf iv).toNat)
          case atStart => exact ⟨0, none, 0, rfl, rfl, Nat.zero_le _, Lib.hid (Tch.refl _ _), Lib.hid ⟨rfl, .inl ⟨rfl, rfl⟩⟩⟩
          case round =>
            obtain ⟨i3, A3, c3, rfl, rfl, hi3, hT3, hR3⟩ := hrel
            obtain ⟨w4, hw4⟩ : ∃ W, W = wr := ⟨_, rfl⟩
            subst hw4
            by_cases hin : i3 < f2
            · have iI : (i3 : Int) < (f2 : Int) := by omega
              have i0 : (0 : Int) ≤ (i3 : Int) := by omega
              have i1 : IntKind.i64.wrap ((i3 : Int) + 1) = (i3 : Int) + 1 := by rw [IntKind.wrap_i64]; have := HFm.out; omega
              obtain ⟨x, hx⟩ : ∃ x, al[i3]? = some x := ⟨_, List.getElem?_eq_getElem (by rw [HF2.out]; exact hin)⟩
              have HNx := Lib.hid (foldC_succ hx)
              have HXp := Lib.hid (HPv.out x (List.mem_of_getElem? hx))
              have HOp := Lib.hid (fun c (hc : c ∈ (al.take i3).foldl insC []) => HPv.out c (((foldC_mem _ _ c).1 hc).elim (fun h => List.mem_of_mem_take h) (fun h => by cases h)))
              have HOn : Hid (((al.take i3).foldl insC []).length = i3) := Lib.hid (by rw [foldC_len, List.length_take, HF2.out, Nat.min_eq_left hi3]; exact Nat.zero_add _)
              obtain ⟨out, hout⟩ : ∃ o, (al.take i3).foldl insC [] = o := ⟨_, rfl⟩
              rw [hout] at HNx HOp HOn hR3
              have HOw := Lib.hid hR3.out
              obtain ⟨gA, hgA⟩ := slice_some HR2.out (Nat.lt_of_le_of_lt (Nat.zero_le _) hin)
              subst hgA
              have HCx := Lib.hid (fun W (hW : Tch w4 W []) => cg_cells (own_tch HR2.out (hT3.out.trans hW) (by simp)) hx)
              obtain ⟨xg, ⟨⟨xs, xh, xl⟩, xn⟩, ⟨xo, ⟨ys, yh, yl⟩, xw⟩⟩ := x
              clear hx hout hR3
              go_wp2
              go_loopw [11] (fun kv wr => ∃ (k : Nat), kv = .int .i64 (k : Int) ∧ k ≤ i3 ∧ Hid (posC out (xg, (((xs, xh, xl), xn), (xo, (ys, yh, yl), xw))) i3 = posC out (xg, (((xs, xh, xl), xn), (xo, (ys, yh, yl), xw))) k) ∧ Hid (Tch w4 wr [])) (fun kv _ => (intOf kv).toNat)
              case atStart => exact ⟨i3, rfl, Nat.le_refl _, Lib.hid rfl, Lib.hid (Tch.refl _ _)⟩
              case round =>
                obtain ⟨k, rfl, hk, hpk, hTk⟩ := hrel
                by_cases hk0 : 0 < k
                · obtain ⟨j, hj⟩ : ∃ j, k = j + 1 := ⟨k - 1, by omega⟩
                  obtain ⟨d, hd⟩ : ∃ d, out[j]? = some d := ⟨_, List.getElem?_eq_getElem (by rw [HOn.out]; omega)⟩
                  have HStep := Lib.hid (posC_step (c := (xg, (((xs, xh, xl), xn), (xo, (ys, yh, yl), xw)))) hd)
                  rw [← hj] at HStep
                  have HJ := Lib.hid hj
                  have hdo := HOp.out d (List.mem_of_getElem? hd)
                  have hxo := HXp.out
                  obtain ⟨gO, hgO⟩ := slice_some HOw.out (by omega)
                  have HCd := Lib.hid (fun W (hW : Tch w4 W []) => by have h1 := own_tch HOw.out hW (by simp); rw [hgO] at h1; exact cg_cells h1 hd)
                  obtain ⟨dg, ⟨⟨ds, dh, dl⟩, dn⟩, dhp⟩ := d
                  obtain ⟨b, hb⟩ : ∃ b, lessI ((xs, xh, xl), xn) ((ds, dh, dl), dn) = b := ⟨_, rfl⟩
                  have HLe := Lib.hid (fun W => rpless_at xs xh xl xn ds dh dl dn hxo.2.2.1 hxo.2.2.2 hdo.2.2.1 hdo.2.2.2 hb W)
                  have HB : Hid (lessI ((xs, xh, xl), xn) ((ds, dh, dl), dn) = b) := Lib.hid hb
                  have HC := Lib.hid (fun W (hW : Tch w4 W []) => show (W.cell? ⟨gA, i3 * 10 + 1, none⟩ = some (Value.bool xs) ∧ W.cell? ⟨gA, i3 * 10 + 2, none⟩ = some (Value.int .u64 (xh : Int)) ∧ W.cell? ⟨gA, i3 * 10 + 3, none⟩ = some (Value.int .u64 (xl : Int)) ∧ W.cell? ⟨gA, i3 * 10 + 4, none⟩ = some (Value.int .i64 xn)) ∧ (W.cell? ⟨gO, j * 10 + 1, none⟩ = some (Value.bool ds) ∧ W.cell? ⟨gO, j * 10 + 2, none⟩ = some (Value.int .u64 (dh : Int)) ∧ W.cell? ⟨gO, j * 10 + 3, none⟩ = some (Value.int .u64 (dl : Int)) ∧ W.cell? ⟨gO, j * 10 + 4, none⟩ = some (Value.int .i64 dn)) from ⟨⟨(HCx.out W hW).2.1, (HCx.out W hW).2.2.1, (HCx.out W hW).2.2.2.1, (HCx.out W hW).2.2.2.2.1⟩, (HCd.out W hW).2.1, (HCd.out W hW).2.2.1, (HCd.out W hW).2.2.2.1, (HCd.out W hW).2.2.2.2.1⟩)
                  have HC0 := Lib.hid (HC.out _ hTk.out.drew)
                  have d1 : decide ((0 : Int) < (k : Int)) = true := decide_eq_true (by omega)
                  have d2 : decide (0 < k) = true := decide_eq_true hk0
                  have k1 : IntKind.i64.wrap ((k : Int) - 1) = (j : Int) := by rw [IntKind.wrap_i64]; have := HFm.out; omega
                  have j0 : (0 : Int) ≤ (j : Int) := by omega
                  have jn : (j : Int) < (i3 : Int) := by omega
                  have jw : IntKind.i64.wrap (j : Int) = (j : Int) := by rw [IntKind.wrap_i64]; have := HFm.out; omega
                  clear hd hdo hxo hb hj
                  subst hgO
                  go_wp2
                  refine wp_region_held_drew (S := (fun W => (W.cell? ⟨gA, i3 * 10 + 1, none⟩ = some (Value.bool xs) ∧ W.cell? ⟨gA, i3 * 10 + 2, none⟩ = some (Value.int .u64 (xh : Int)) ∧ W.cell? ⟨gA, i3 * 10 + 3, none⟩ = some (Value.int .u64 (xl : Int)) ∧ W.cell? ⟨gA, i3 * 10 + 4, none⟩ = some (Value.int .i64 xn)) ∧ (W.cell? ⟨gO, j * 10 + 1, none⟩ = some (Value.bool ds) ∧ W.cell? ⟨gO, j * 10 + 2, none⟩ = some (Value.int .u64 (dh : Int)) ∧ W.cell? ⟨gO, j * 10 + 3, none⟩ = some (Value.int .u64 (dl : Int)) ∧ W.cell? ⟨gO, j * 10 + 4, none⟩ = some (Value.int .i64 dn)))) (by kernel_rfl) ?_ (fun hHeld => ?_)
                  · (first | exact HC0.out | exact HC6.out)
                  refine wpAnyH_take (i := 0) (oi := { dst := some 79, op := Go.Op.move (Go.Operand.tmp 11), type := 3, pos := "ref.go:109", after := #[], guard := none }) (v := ?_) rfl (by kernel_rfl) (by kernel_rfl) (by kernel_rfl) (fun _ _ _ h => h) (Or.inl ⟨by rfl, ?_⟩) (by assumption) ?_
                  rotate_left
                  · intro w hSw
                    (try dsimp only at hSw)
                    go_simp
                    try (with_reducible rfl)
                  try simp only [Act.put, List.setIfInBounds_toArray, List.set_cons_zero, List.set_cons_succ]
                  refine wpAnyH_take (i := 1) (oi := { dst := some 80, op := Go.Op.binOp Go.BinOp.gtr 3 (Go.Operand.tmp 79) (Go.Operand.const (Go.Value.int Go.IntKind.i64 0)) 3, type := 4, pos := "ref.go:109", after := #[{ on := 0, ground := Go.Ground.data }], guard := none }) (v := ?_) rfl (by kernel_rfl) (by kernel_rfl) (by kernel_rfl) (fun _ _ _ h => h) (Or.inl ⟨by rfl, ?_⟩) (by assumption) ?_
                  rotate_left
                  · intro w hSw
                    (try dsimp only at hSw)
                    go_simp
                    try (with_reducible rfl)
                  try simp only [Act.put, List.setIfInBounds_toArray, List.set_cons_zero, List.set_cons_succ]
                  refine wpAnyH_take (i := 2) (oi := { dst := some 81, op := Go.Op.move (Go.Operand.tmp 80), type := 4, pos := "ref.go:109", after := #[{ on := 1, ground := Go.Ground.data }], guard := none }) (v := ?_) rfl (by kernel_rfl) (by kernel_rfl) (by kernel_rfl) (fun _ _ _ h => h) (Or.inl ⟨by rfl, ?_⟩) (by assumption) ?_
                  rotate_left
                  · intro w hSw
                    (try dsimp only at hSw)
                    go_simp
                    try (with_reducible rfl)
                  try simp only [Act.put, List.setIfInBounds_toArray, List.set_cons_zero, List.set_cons_succ]
                  refine wpAnyH_take (i := 3) (oi := { dst := some 82, op := Go.Op.move (Go.Operand.tmp 5), type := 86, pos := "ref.go:109", after := #[{ on := 2, ground := Go.Ground.guard }], guard := some (2, true) }) (v := ?_) rfl (by kernel_rfl) (by kernel_rfl) (by kernel_rfl) (fun _ _ _ h => h) (Or.inl ⟨by rfl, ?_⟩) (by assumption) ?_
                  rotate_left
                  · intro w hSw
                    (try dsimp only at hSw)
                    go_simp
                    try (with_reducible rfl)
                  try simp only [Act.put, List.setIfInBounds_toArray, List.set_cons_zero, List.set_cons_succ]
                  refine wpAnyH_take (i := 4) (oi := { dst := some 83, op := Go.Op.move (Go.Operand.tmp 10), type := 3, pos := "ref.go:109", after := #[{ on := 2, ground := Go.Ground.guard }], guard := some (2, true) }) (v := ?_) rfl (by kernel_rfl) (by kernel_rfl) (by kernel_rfl) (fun _ _ _ h => h) (Or.inl ⟨by rfl, ?_⟩) (by assumption) ?_
                  rotate_left
                  · intro w hSw
                    (try dsimp only at hSw)
                    go_simp
                    try (with_reducible rfl)
                  try simp only [Act.put, List.setIfInBounds_toArray, List.set_cons_zero, List.set_cons_succ]
                  refine wpAnyH_take (i := 5) (oi := { dst := some 84, op := Go.Op.indexAddr 86 (Go.Operand.tmp 82) (Go.Operand.tmp 83), type := 0, pos := "ref.go:109", after := #[{ on := 3, ground := Go.Ground.data }, { on := 4, ground := Go.Ground.data }, { on := 2, ground := Go.Ground.guard }], guard := some (2, true) }) (v := ?_) rfl (by kernel_rfl) (by kernel_rfl) (by kernel_rfl) (fun _ _ _ h => h) (Or.inl ⟨by rfl, ?_⟩) (by assumption) ?_
                  rotate_left
                  · intro w hSw
                    (try dsimp only at hSw)
                    go_simp
                    try (with_reducible rfl)
                  try simp only [Act.put, List.setIfInBounds_toArray, List.set_cons_zero, List.set_cons_succ]
                  refine wpAnyH_take (i := 6) (oi := { dst := some 85, op := Go.Op.fieldAddr 90 (Go.Operand.tmp 84) 1, type := 0, pos := "ref.go:109", after := #[{ on := 5, ground := Go.Ground.data }, { on := 2, ground := Go.Ground.guard }], guard := some (2, true) }) (v := ?_) rfl (by kernel_rfl) (by kernel_rfl) (by kernel_rfl) (fun _ _ _ h => h) (Or.inl ⟨by rfl, ?_⟩) (by assumption) ?_
                  rotate_left
                  · intro w hSw
                    (try dsimp only at hSw)
                    go_simp
                    try (with_reducible rfl)
                  try simp only [Act.put, List.setIfInBounds_toArray, List.set_cons_zero, List.set_cons_succ]
                  refine wpAnyH_take (i := 7) (oi := { dst := some 86, op := Go.Op.fieldAddr 70 (Go.Operand.tmp 85) 0, type := 0, pos := "ref.go:109", after := #[{ on := 6, ground := Go.Ground.data }, { on := 2, ground := Go.Ground.guard }], guard := some (2, true) }) (v := ?_) rfl (by kernel_rfl) (by kernel_rfl) (by kernel_rfl) (fun _ _ _ h => h) (Or.inl ⟨by rfl, ?_⟩) (by assumption) ?_
                  rotate_left
                  · intro w hSw
                    (try dsimp only at hSw)
                    go_simp
                    try (with_reducible rfl)
                  try simp only [Act.put, List.setIfInBounds_toArray, List.set_cons_zero, List.set_cons_succ]
                  refine wpAnyH_take (i := 8) (oi := { dst := some 87, op := Go.Op.load 30 (Go.Operand.tmp 86), type := 30, pos := "ref.go:109", after := #[{ on := 7, ground := Go.Ground.data }, { on := 2, ground := Go.Ground.guard }], guard := some (2, true) }) (v := ?_) rfl (by kernel_rfl) (by kernel_rfl) (by kernel_rfl) (fun _ _ _ h => h) (Or.inl ⟨by rfl, ?_⟩) (by assumption) ?_
                  rotate_left
                  · intro w hSw
                    (try dsimp only at hSw)
                    go_simp
                    try (with_reducible rfl)
                  try simp only [Act.put, List.setIfInBounds_toArray, List.set_cons_zero, List.set_cons_succ]
                  refine wpAnyH_take (i := 9) (oi := { dst := some 88, op := Go.Op.move (Go.Operand.tmp 9), type := 86, pos := "ref.go:109", after := #[{ on := 2, ground := Go.Ground.guard }], guard := some (2, true) }) (v := ?_) rfl (by kernel_rfl) (by kernel_rfl) (by kernel_rfl) (fun _ _ _ h => h) (Or.inl ⟨by rfl, ?_⟩) (by assumption) ?_
                  rotate_left
                  · intro w hSw
                    (try dsimp only at hSw)
                    go_simp
                    try (with_reducible rfl)
                  try simp only [Act.put, List.setIfInBounds_toArray, List.set_cons_zero, List.set_cons_succ]
                  refine wpAnyH_take (i := 10) (oi := { dst := some 89, op := Go.Op.move (Go.Operand.tmp 11), type := 3, pos := "ref.go:109", after := #[{ on := 2, ground := Go.Ground.guard }], guard := some (2, true) }) (v := ?_) rfl (by kernel_rfl) (by kernel_rfl) (by kernel_rfl) (fun _ _ _ h => h) (Or.inl ⟨by rfl, ?_⟩) (by assumption) ?_
                  rotate_left
                  · intro w hSw
                    (try dsimp only at hSw)
                    go_simp
                    try (with_reducible rfl)
                  try simp only [Act.put, List.setIfInBounds_toArray, List.set_cons_zero, List.set_cons_succ]
                  refine wpAnyH_take (i := 11) (oi := { dst := some 90, op := Go.Op.binOp Go.BinOp.sub 3 (Go.Operand.tmp 89) (Go.Operand.const (Go.Value.int Go.IntKind.i64 1)) 3, type := 3, pos := "ref.go:109", after := #[{ on := 10, ground := Go.Ground.data }, { on := 2, ground := Go.Ground.guard }], guard := some (2, true) }) (v := ?_) rfl (by kernel_rfl) (by kernel_rfl) (by kernel_rfl) (fun _ _ _ h => h) (Or.inl ⟨by rfl, ?_⟩) (by assumption) ?_
                  rotate_left
                  · intro w hSw
                    (try dsimp only at hSw)
                    go_simp
                    try (with_reducible rfl)
                  try simp only [Act.put, List.setIfInBounds_toArray, List.set_cons_zero, List.set_cons_succ]
                  refine wpAnyH_take (i := 12) (oi := { dst := some 91, op := Go.Op.indexAddr 86 (Go.Operand.tmp 88) (Go.Operand.tmp 90), type := 0, pos := "ref.go:109", after := #[{ on := 9, ground := Go.Ground.data }, { on := 11, ground := Go.Ground.data }, { on := 2, ground := Go.Ground.guard }], guard := some (2, true) }) (v := ?_) rfl (by kernel_rfl) (by kernel_rfl) (by kernel_rfl) (fun _ _ _ h => h) (Or.inl ⟨by rfl, ?_⟩) (by assumption) ?_
                  rotate_left
                  · intro w hSw
                    (try dsimp only at hSw)
                    go_simp
                    try (with_reducible rfl)
                  try simp only [Act.put, List.setIfInBounds_toArray, List.set_cons_zero, List.set_cons_succ]
                  refine wpAnyH_take (i := 13) (oi := { dst := some 92, op := Go.Op.fieldAddr 90 (Go.Operand.tmp 91) 1, type := 0, pos := "ref.go:109", after := #[{ on := 12, ground := Go.Ground.data }, { on := 2, ground := Go.Ground.guard }], guard := some (2, true) }) (v := ?_) rfl (by kernel_rfl) (by kernel_rfl) (by kernel_rfl) (fun _ _ _ h => h) (Or.inl ⟨by rfl, ?_⟩) (by assumption) ?_
                  rotate_left
                  · intro w hSw
                    (try dsimp only at hSw)
                    go_simp
                    try (with_reducible rfl)
                  try simp only [Act.put, List.setIfInBounds_toArray, List.set_cons_zero, List.set_cons_succ]
                  refine wpAnyH_take (i := 14) (oi := { dst := some 93, op := Go.Op.fieldAddr 70 (Go.Operand.tmp 92) 0, type := 0, pos := "ref.go:109", after := #[{ on := 13, ground := Go.Ground.data }, { on := 2, ground := Go.Ground.guard }], guard := some (2, true) }) (v := ?_) rfl (by kernel_rfl) (by kernel_rfl) (by kernel_rfl) (fun _ _ _ h => h) (Or.inl ⟨by rfl, ?_⟩) (by assumption) ?_
                  rotate_left
                  · intro w hSw
                    (try dsimp only at hSw)
                    go_simp
                    try (with_reducible rfl)
                  try simp only [Act.put, List.setIfInBounds_toArray, List.set_cons_zero, List.set_cons_succ]
                  refine wpAnyH_take (i := 15) (oi := { dst := some 94, op := Go.Op.load 30 (Go.Operand.tmp 93), type := 30, pos := "ref.go:109", after := #[{ on := 14, ground := Go.Ground.data }, { on := 2, ground := Go.Ground.guard }], guard := some (2, true) }) (v := ?_) rfl (by kernel_rfl) (by kernel_rfl) (by kernel_rfl) (fun _ _ _ h => h) (Or.inl ⟨by rfl, ?_⟩) (by assumption) ?_
                  rotate_left
                  · intro w hSw
                    (try dsimp only at hSw)
                    go_simp
                    try (with_reducible rfl)
                  try simp only [Act.put, List.setIfInBounds_toArray, List.set_cons_zero, List.set_cons_succ]
                  refine wpAnyH_ready (rs := [16]) (by kernel_rfl) (by simp) ?_
                  refine AllReadyH.cons (o := { dst := some 95, op := Go.Op.call { callee := Go.Callee.value (Go.Operand.func 27), args := #[Go.Operand.tmp 87, Go.Operand.tmp 94], argTypes := #[30, 30] }, type := 4, pos := "ref.go:109", after := #[{ on := 8, ground := Go.Ground.data }, { on := 15, ground := Go.Ground.data }, { on := 2, ground := Go.Ground.chain }, { on := 2, ground := Go.Ground.guard }], guard := some (2, true) }) rfl (fun K hK => ?_) AllReadyH.nil
                  go_simp
                  (go_at_call 27; (with_reducible refine Calls.mono (HLe.out _) ?_); rintro e w6 ⟨rfl, hb6⟩; have HT6 : Hid (Tch w4 w6 []) := Lib.hid (hTk.out.drew.trans (Tch.of_below [] hb6)); have HC6 := Lib.hid (HC.out w6 HT6.out); clear hb6)
                  go_wp2_with fail
                  refine hK.out _ _ ?_ (fun hHeld => ?_)
                  · (first | exact HC0.out | exact HC6.out)
                  clear hK K
                  try simp only [Act.put, List.setIfInBounds_toArray, List.set_cons_zero, List.set_cons_succ]
                  refine wpAnyH_take (i := 17) (oi := { dst := some 96, op := Go.Op.pick (Go.Operand.tmp 81) (Go.Operand.tmp 95) (Go.Operand.const (Go.Value.bool false)), type := 4, pos := "ref.go:109", after := #[{ on := 2, ground := Go.Ground.data }, { on := 16, ground := Go.Ground.data }], guard := none }) (v := ?_) rfl (by kernel_rfl) (by kernel_rfl) (by kernel_rfl) (fun _ _ _ h => h) (Or.inl ⟨by rfl, ?_⟩) (by assumption) ?_
                  rotate_left
                  · intro w hSw
                    (try dsimp only at hSw)
                    go_simp
                    try (with_reducible rfl)
                  try simp only [Act.put, List.setIfInBounds_toArray, List.set_cons_zero, List.set_cons_succ]
                  refine wpAnyH_done (by kernel_rfl) ?_ _
                  clear d1 d2
                  cases b with
                  | true =>
                    go_wp2
                    go_roundw
                    case rel => exact ⟨j, rfl, by have := HJ.out; omega, Lib.hid (by rw [hpk.out, HStep.out, if_pos HB.out]), HT6⟩
                    case measure => have := HJ.out; simp [intOf]; omega
                  | false =>
                    have HPos : Hid (posC out (xg, (((xs, xh, xl), xn), (xo, (ys, yh, yl), xw))) i3 = k) := Lib.hid (by rw [hpk.out, HStep.out, if_neg (by rw [HB.out]; decide), HJ.out])
                    clear k1 j0 jn jw
                    obtain ⟨W8, hW8⟩ : ∃ W8, w6 = W8 := ⟨_, rfl⟩
                    rw [hW8]
                    have HE8 : Hid (Tch w4 W8 []) := Lib.hid (hW8 ▸ HT6.out)
                    clear hW8
                    have HNil : Hid (W8.ownsRow W8.heap.size 90 10 (.slice none 0 0) 0 []) := Lib.hid ⟨rfl, .inl ⟨rfl, rfl⟩⟩
                    have hrow0 := own_monoC HOw.out (Nat.zero_le _)
                    obtain ⟨A1, hA1, hcells, hlen⟩ := row_rest (k := k) cg_ten hrow0 HOn.out hk
                    have hrow1 := own_take (own_tch hrow0 HE8.out (by simp)) (k := k) hk
                    rw [flatk_take cg_ten] at hrow1
                    have HRow1 := Lib.hid hrow1
                    have HCells := Lib.hid hcells
                    obtain ⟨d, hd⟩ : ∃ d, i3 - k = d := ⟨_, rfl⟩
                    rw [hd] at hlen
                    have HLen := Lib.hid hlen
                    have hnc : i3 ≤ c3 := by
                      obtain ⟨_, _, e, h9, _⟩ := own_sl HOw.out
                      injection e with e1 e2 e3
                      omega
                    have hkc : k ≤ c3 := by omega
                    have hkI : (0 : Int) ≤ (k : Int) ∧ (k : Int) ≤ (i3 : Int) ∧ (k : Int) ≤ (c3 : Int) := by omega
                    have HEr : Hid ([] ++ (out.take k).flatMap cgC ++ cgC (xg, (((xs, xh, xl), xn), (xo, (ys, yh, yl), xw))) ++ (out.drop k).flatMap cgC = (insC out (xg, (((xs, xh, xl), xn), (xo, (ys, yh, yl), xw)))).flatMap cgC) := Lib.hid (insC_cells out _ k (by rw [HOn.out]; exact HPos.out))
                    have HEn : Hid (0 + k + 1 + d = i3 + 1) := Lib.hid (by omega)
                    have HSz : Hid (0 + k ≤ 1000000 ∧ 0 + k ≤ 1000000 ∧ 0 + k + 1 + d ≤ 1000000) := Lib.hid (by have := HFm.out; omega)
                    have HB8 : Hid (w3.heap.size ≤ W8.heap.size) := Lib.hid (Nat.le_trans hT3.out.size HE8.out.size)
                    clear hrow0 hrow1 hcells hlen
                    go_wp2_with (first
                      | (at_builtin; (refine wpList_apm 86 90 (.agg #[.bool false, .bool false, .int .u64 0, .int .u64 0, .int .i64 0, .int .i64 0, .bool false, .int .u64 0, .int .u64 0, .bool false]) 10 80 Tryz.underlying86 infoCg rfl (by decide) (by decide) _ rfl (.tmp 99) (.tmp 102) rfl W8.heap.size (.slice none 0 0) 0 [] rfl HNil.out 0 (.slice (some ⟨gO, 0, none⟩) k c3) k ((out.take k).flatMap cgC) rfl HRow1.out (flat_one cg_one _) HSz.out.1 (Nat.le_refl _) ?_; intro v5 w9 hown hg hv; have hT9 : Tch W8 w9 [] := Tch.of_grown' hg (fun g e => by cases e); obtain ⟨t0, t1, t2, t3, t4, t5, t6, t7, t8, t9⟩ := HCx.out w9 (HE8.out.trans hT9); have HO10 := Lib.hid (hown.alloc (.cells (cgC (xg, (((xs, xh, xl), xn), (xo, (ys, yh, yl), xw)))).toArray 90)); have HSr := Lib.hid (src_new w9 90 (cgC (xg, (((xs, xh, xl), xn), (xo, (ys, yh, yl), xw))))); have HT10 := Lib.hid (hT9.alloc (.cells (cgC (xg, (((xs, xh, xl), xn), (xo, (ys, yh, yl), xw)))).toArray 90)); have HSz10 : Hid (W8.heap.size ≤ (w9.alloc (.cells (cgC (xg, (((xs, xh, xl), xn), (xo, (ys, yh, yl), xw)))).toArray 90)).heap.size) := Lib.hid HT10.out.size; clear hown hg hv hT9))
                      | (at_builtin; (refine wpList_apc 86 90 (.agg #[.bool false, .bool false, .int .u64 0, .int .u64 0, .int .i64 0, .int .i64 0, .bool false, .int .u64 0, .int .u64 0, .bool false]) 10 80 Tryz.underlying86 infoCg rfl (by decide) (by decide) _ rfl (.tmp 104) (.tmp 109) rfl W8.heap.size v5 (0 + k) _ rfl HO10.out ⟨w9.heap.size, 0, none⟩ 1 (cgC (xg, (((xs, xh, xl), xn), (xo, (ys, yh, yl), xw)))) rfl rfl (fun j u hj => HSr.out j u hj) (cg_one _) HSz.out.2.1 HSz10.out ?_; intro v7 w11 hown hg hv; have hT11 : Tch W8 w11 [] := HT10.out.trans_fre (Tch.of_grown' (S := obI v5) hg (fun k e => by rw [obI_some e]; simp)) (fun s hs => .inr (own_geI HO10.out s hs).1); have HC11 := Lib.hid (HCells.out w11 (HE8.out.trans hT11)); have HO11 := Lib.hid hown; have HT11 := Lib.hid hT11; have HSz11 : Hid (W8.heap.size ≤ w11.heap.size) := Lib.hid HT11.out.size; clear hown hg hv hT11 t0 t1 t2 t3 t4 t5 t6 t7 t8 t9))
                      | (at_builtin; (refine wpList_apx 86 90 (.agg #[.bool false, .bool false, .int .u64 0, .int .u64 0, .int .i64 0, .int .i64 0, .bool false, .int .u64 0, .int .u64 0, .bool false]) 10 80 Tryz.underlying86 infoCg rfl (by decide) (by decide) _ rfl (.tmp 111) (.tmp 114) rfl W8.heap.size v7 (0 + k + 1) _ rfl HO11.out A1 d (c3 - k) _ rfl HLen.out HC11.out (flat_one cg_one _) HSz.out.2.2 HSz11.out ?_; intro v9 w13 hown hg hv; have hT13 : Tch W8 w13 [] := HT11.out.trans_fre (Tch.of_grown' (S := obI v7) hg (fun k e => by rw [obI_some e]; simp)) (fun s hs => .inr (own_geI HO11.out s hs).1); rw [HEr.out, HEn.out] at hown; obtain ⟨A9, c9, e9, -, -⟩ := own_sl hown; subst e9; have HRz := Lib.hid (own_monoC hown HB8.out); have HTz := Lib.hid (hT3.out.trans (HE8.out.trans hT13)); clear hown hg hv hT13)))
                    go_roundw
                    case rel => exact ⟨i3 + 1, A9, c9, rfl, by go_num, hin, HTz, Lib.hid (by rw [HNx.out]; exact HRz.out)⟩
                    case measure => simp [intOf]; omega
                · have HPos : Hid (posC out (xg, (((xs, xh, xl), xn), (xo, (ys, yh, yl), xw))) i3 = k) := Lib.hid (by rw [hpk.out, show k = 0 by omega]; rfl)
                  have HC0 : Hid (Tch w4 wr.drew []) := Lib.hid hTk.out.drew
                  have d1 : decide ((0 : Int) < (k : Int)) = false := decide_eq_false (by omega)
                  have d2 : decide (0 < k) = false := decide_eq_false hk0
                  go_wp2
                  refine wp_region_held_drew (S := (fun W => Tch w4 W [])) (by kernel_rfl) ?_ (fun hHeld => ?_)
                  · (exact HC0.out)
                  refine wpAnyH_take (i := 0) (oi := { dst := some 79, op := Go.Op.move (Go.Operand.tmp 11), type := 3, pos := "ref.go:109", after := #[], guard := none }) (v := ?_) rfl (by kernel_rfl) (by kernel_rfl) (by kernel_rfl) (fun _ _ _ h => h) (Or.inl ⟨by rfl, ?_⟩) (by assumption) ?_
                  rotate_left
                  · intro w hSw
                    (try dsimp only at hSw)
                    go_simp
                    try (with_reducible rfl)
                  try simp only [Act.put, List.setIfInBounds_toArray, List.set_cons_zero, List.set_cons_succ]
                  refine wpAnyH_take (i := 1) (oi := { dst := some 80, op := Go.Op.binOp Go.BinOp.gtr 3 (Go.Operand.tmp 79) (Go.Operand.const (Go.Value.int Go.IntKind.i64 0)) 3, type := 4, pos := "ref.go:109", after := #[{ on := 0, ground := Go.Ground.data }], guard := none }) (v := ?_) rfl (by kernel_rfl) (by kernel_rfl) (by kernel_rfl) (fun _ _ _ h => h) (Or.inl ⟨by rfl, ?_⟩) (by assumption) ?_
                  rotate_left
                  · intro w hSw
                    (try dsimp only at hSw)
                    go_simp
                    try (with_reducible rfl)
                  try simp only [Act.put, List.setIfInBounds_toArray, List.set_cons_zero, List.set_cons_succ]
                  refine wpAnyH_take (i := 2) (oi := { dst := some 81, op := Go.Op.move (Go.Operand.tmp 80), type := 4, pos := "ref.go:109", after := #[{ on := 1, ground := Go.Ground.data }], guard := none }) (v := ?_) rfl (by kernel_rfl) (by kernel_rfl) (by kernel_rfl) (fun _ _ _ h => h) (Or.inl ⟨by rfl, ?_⟩) (by assumption) ?_
                  rotate_left
                  · intro w hSw
                    (try dsimp only at hSw)
                    go_simp
                    try (with_reducible rfl)
                  try simp only [Act.put, List.setIfInBounds_toArray, List.set_cons_zero, List.set_cons_succ]
                  refine wpAnyH_take (i := 3) (oi := { dst := some 82, op := Go.Op.move (Go.Operand.tmp 5), type := 86, pos := "ref.go:109", after := #[{ on := 2, ground := Go.Ground.guard }], guard := some (2, true) }) (v := undef) rfl (by kernel_rfl) (by kernel_rfl) (by kernel_rfl) (fun _ _ _ h => h) (Or.inr ⟨by rfl, rfl⟩) (by assumption) ?_
                  try simp only [Act.put, List.setIfInBounds_toArray, List.set_cons_zero, List.set_cons_succ]
                  refine wpAnyH_take (i := 4) (oi := { dst := some 83, op := Go.Op.move (Go.Operand.tmp 10), type := 3, pos := "ref.go:109", after := #[{ on := 2, ground := Go.Ground.guard }], guard := some (2, true) }) (v := undef) rfl (by kernel_rfl) (by kernel_rfl) (by kernel_rfl) (fun _ _ _ h => h) (Or.inr ⟨by rfl, rfl⟩) (by assumption) ?_
                  try simp only [Act.put, List.setIfInBounds_toArray, List.set_cons_zero, List.set_cons_succ]
                  refine wpAnyH_take (i := 5) (oi := { dst := some 84, op := Go.Op.indexAddr 86 (Go.Operand.tmp 82) (Go.Operand.tmp 83), type := 0, pos := "ref.go:109", after := #[{ on := 3, ground := Go.Ground.data }, { on := 4, ground := Go.Ground.data }, { on := 2, ground := Go.Ground.guard }], guard := some (2, true) }) (v := undef) rfl (by kernel_rfl) (by kernel_rfl) (by kernel_rfl) (fun _ _ _ h => h) (Or.inr ⟨by rfl, rfl⟩) (by assumption) ?_
                  try simp only [Act.put, List.setIfInBounds_toArray, List.set_cons_zero, List.set_cons_succ]
                  refine wpAnyH_take (i := 6) (oi := { dst := some 85, op := Go.Op.fieldAddr 90 (Go.Operand.tmp 84) 1, type := 0, pos := "ref.go:109", after := #[{ on := 5, ground := Go.Ground.data }, { on := 2, ground := Go.Ground.guard }], guard := some (2, true) }) (v := undef) rfl (by kernel_rfl) (by kernel_rfl) (by kernel_rfl) (fun _ _ _ h => h) (Or.inr ⟨by rfl, rfl⟩) (by assumption) ?_
                  try simp only [Act.put, List.setIfInBounds_toArray, List.set_cons_zero, List.set_cons_succ]
                  refine wpAnyH_take (i := 7) (oi := { dst := some 86, op := Go.Op.fieldAddr 70 (Go.Operand.tmp 85) 0, type := 0, pos := "ref.go:109", after := #[{ on := 6, ground := Go.Ground.data }, { on := 2, ground := Go.Ground.guard }], guard := some (2, true) }) (v := undef) rfl (by kernel_rfl) (by kernel_rfl) (by kernel_rfl) (fun _ _ _ h => h) (Or.inr ⟨by rfl, rfl⟩) (by assumption) ?_
                  try simp only [Act.put, List.setIfInBounds_toArray, List.set_cons_zero, List.set_cons_succ]
                  refine wpAnyH_take (i := 8) (oi := { dst := some 87, op := Go.Op.load 30 (Go.Operand.tmp 86), type := 30, pos := "ref.go:109", after := #[{ on := 7, ground := Go.Ground.data }, { on := 2, ground := Go.Ground.guard }], guard := some (2, true) }) (v := undef) rfl (by kernel_rfl) (by kernel_rfl) (by kernel_rfl) (fun _ _ _ h => h) (Or.inr ⟨by rfl, rfl⟩) (by assumption) ?_
                  try simp only [Act.put, List.setIfInBounds_toArray, List.set_cons_zero, List.set_cons_succ]
                  refine wpAnyH_take (i := 9) (oi := { dst := some 88, op := Go.Op.move (Go.Operand.tmp 9), type := 86, pos := "ref.go:109", after := #[{ on := 2, ground := Go.Ground.guard }], guard := some (2, true) }) (v := undef) rfl (by kernel_rfl) (by kernel_rfl) (by kernel_rfl) (fun _ _ _ h => h) (Or.inr ⟨by rfl, rfl⟩) (by assumption) ?_
                  try simp only [Act.put, List.setIfInBounds_toArray, List.set_cons_zero, List.set_cons_succ]
                  refine wpAnyH_take (i := 10) (oi := { dst := some 89, op := Go.Op.move (Go.Operand.tmp 11), type := 3, pos := "ref.go:109", after := #[{ on := 2, ground := Go.Ground.guard }], guard := some (2, true) }) (v := undef) rfl (by kernel_rfl) (by kernel_rfl) (by kernel_rfl) (fun _ _ _ h => h) (Or.inr ⟨by rfl, rfl⟩) (by assumption) ?_
                  try simp only [Act.put, List.setIfInBounds_toArray, List.set_cons_zero, List.set_cons_succ]
                  refine wpAnyH_take (i := 11) (oi := { dst := some 90, op := Go.Op.binOp Go.BinOp.sub 3 (Go.Operand.tmp 89) (Go.Operand.const (Go.Value.int Go.IntKind.i64 1)) 3, type := 3, pos := "ref.go:109", after := #[{ on := 10, ground := Go.Ground.data }, { on := 2, ground := Go.Ground.guard }], guard := some (2, true) }) (v := undef) rfl (by kernel_rfl) (by kernel_rfl) (by kernel_rfl) (fun _ _ _ h => h) (Or.inr ⟨by rfl, rfl⟩) (by assumption) ?_
                  try simp only [Act.put, List.setIfInBounds_toArray, List.set_cons_zero, List.set_cons_succ]
                  refine wpAnyH_take (i := 12) (oi := { dst := some 91, op := Go.Op.indexAddr 86 (Go.Operand.tmp 88) (Go.Operand.tmp 90), type := 0, pos := "ref.go:109", after := #[{ on := 9, ground := Go.Ground.data }, { on := 11, ground := Go.Ground.data }, { on := 2, ground := Go.Ground.guard }], guard := some (2, true) }) (v := undef) rfl (by kernel_rfl) (by kernel_rfl) (by kernel_rfl) (fun _ _ _ h => h) (Or.inr ⟨by rfl, rfl⟩) (by assumption) ?_
                  try simp only [Act.put, List.setIfInBounds_toArray, List.set_cons_zero, List.set_cons_succ]
                  refine wpAnyH_take (i := 13) (oi := { dst := some 92, op := Go.Op.fieldAddr 90 (Go.Operand.tmp 91) 1, type := 0, pos := "ref.go:109", after := #[{ on := 12, ground := Go.Ground.data }, { on := 2, ground := Go.Ground.guard }], guard := some (2, true) }) (v := undef) rfl (by kernel_rfl) (by kernel_rfl) (by kernel_rfl) (fun _ _ _ h => h) (Or.inr ⟨by rfl, rfl⟩) (by assumption) ?_
                  try simp only [Act.put, List.setIfInBounds_toArray, List.set_cons_zero, List.set_cons_succ]
                  refine wpAnyH_take (i := 14) (oi := { dst := some 93, op := Go.Op.fieldAddr 70 (Go.Operand.tmp 92) 0, type := 0, pos := "ref.go:109", after := #[{ on := 13, ground := Go.Ground.data }, { on := 2, ground := Go.Ground.guard }], guard := some (2, true) }) (v := undef) rfl (by kernel_rfl) (by kernel_rfl) (by kernel_rfl) (fun _ _ _ h => h) (Or.inr ⟨by rfl, rfl⟩) (by assumption) ?_
                  try simp only [Act.put, List.setIfInBounds_toArray, List.set_cons_zero, List.set_cons_succ]
                  refine wpAnyH_take (i := 15) (oi := { dst := some 94, op := Go.Op.load 30 (Go.Operand.tmp 93), type := 30, pos := "ref.go:109", after := #[{ on := 14, ground := Go.Ground.data }, { on := 2, ground := Go.Ground.guard }], guard := some (2, true) }) (v := undef) rfl (by kernel_rfl) (by kernel_rfl) (by kernel_rfl) (fun _ _ _ h => h) (Or.inr ⟨by rfl, rfl⟩) (by assumption) ?_
                  try simp only [Act.put, List.setIfInBounds_toArray, List.set_cons_zero, List.set_cons_succ]
                  refine wpAnyH_take (i := 16) (oi := { dst := some 95, op := Go.Op.call { callee := Go.Callee.value (Go.Operand.func 27), args := #[Go.Operand.tmp 87, Go.Operand.tmp 94], argTypes := #[30, 30] }, type := 4, pos := "ref.go:109", after := #[{ on := 8, ground := Go.Ground.data }, { on := 15, ground := Go.Ground.data }, { on := 2, ground := Go.Ground.chain }, { on := 2, ground := Go.Ground.guard }], guard := some (2, true) }) (v := undef) rfl (by kernel_rfl) (by kernel_rfl) (by kernel_rfl) (fun _ _ _ h => h) (Or.inr ⟨by rfl, rfl⟩) (by assumption) ?_
                  try simp only [Act.put, List.setIfInBounds_toArray, List.set_cons_zero, List.set_cons_succ]
                  refine wpAnyH_take (i := 17) (oi := { dst := some 96, op := Go.Op.pick (Go.Operand.tmp 81) (Go.Operand.tmp 95) (Go.Operand.const (Go.Value.bool false)), type := 4, pos := "ref.go:109", after := #[{ on := 2, ground := Go.Ground.data }, { on := 16, ground := Go.Ground.data }], guard := none }) (v := ?_) rfl (by kernel_rfl) (by kernel_rfl) (by kernel_rfl) (fun _ _ _ h => h) (Or.inl ⟨by rfl, ?_⟩) (by assumption) ?_
                  rotate_left
                  · intro w hSw
                    (try dsimp only at hSw)
                    go_simp
                    try (with_reducible rfl)
                  try simp only [Act.put, List.setIfInBounds_toArray, List.set_cons_zero, List.set_cons_succ]
                  refine wpAnyH_done (by kernel_rfl) ?_ _
                  clear d1 d2
                  obtain ⟨W8, hW8⟩ : ∃ W8, wr.drew = W8 := ⟨_, rfl⟩
                  rw [hW8]
                  have HE8 : Hid (Tch w4 W8 []) := Lib.hid (hW8 ▸ HC0.out)
                  clear hW8
                  have HNil : Hid (W8.ownsRow W8.heap.size 90 10 (.slice none 0 0) 0 []) := Lib.hid ⟨rfl, .inl ⟨rfl, rfl⟩⟩
                  rcases sl_cases (own_monoC HOw.out (Nat.zero_le _)) with ⟨rfl, rfl, rfl⟩ | ⟨g, rfl⟩
                  · obtain rfl : k = 0 := by omega
                    have HRow2 : Hid (∀ W : World, W.ownsRow 0 90 10 (.slice none 0 0) 0 []) := Lib.hid (fun W => ⟨rfl, .inl ⟨rfl, rfl⟩⟩)
                    have HEr : Hid ([] ++ [] ++ cgC (xg, (((xs, xh, xl), xn), (xo, (ys, yh, yl), xw))) ++ [] = (insC out (xg, (((xs, xh, xl), xn), (xo, (ys, yh, yl), xw)))).flatMap cgC) := Lib.hid (by
                      obtain rfl : out = [] := List.length_eq_zero_iff.1 HOn.out
                      exact List.append_nil _)
                    have HEn : Hid (0 + 0 + 1 + 0 = 0 + 1) := Lib.hid rfl
                    have HSz : Hid (0 + 0 ≤ 1000000 ∧ 0 + 0 ≤ 1000000 ∧ 0 + 0 + 1 + 0 ≤ 1000000) := Lib.hid (by decide)
                    have HB8 : Hid (w3.heap.size ≤ W8.heap.size) := Lib.hid (Nat.le_trans hT3.out.size HE8.out.size)
                    go_wp2_with (first
                      | (at_builtin; (refine wpList_apm 86 90 (.agg #[.bool false, .bool false, .int .u64 0, .int .u64 0, .int .i64 0, .int .i64 0, .bool false, .int .u64 0, .int .u64 0, .bool false]) 10 80 Tryz.underlying86 infoCg rfl (by decide) (by decide) _ rfl (.tmp 99) (.tmp 102) rfl W8.heap.size (.slice none 0 0) 0 [] rfl HNil.out 0 (.slice none 0 0) 0 [] rfl (HRow2.out _) (by simp) HSz.out.1 (Nat.le_refl _) ?_; intro v5 w9 hown hg hv; have hT9 : Tch W8 w9 [] := Tch.of_grown' hg (fun g e => by cases e); obtain ⟨t0, t1, t2, t3, t4, t5, t6, t7, t8, t9⟩ := HCx.out w9 (HE8.out.trans hT9); have HO10 := Lib.hid (hown.alloc (.cells (cgC (xg, (((xs, xh, xl), xn), (xo, (ys, yh, yl), xw)))).toArray 90)); have HSr := Lib.hid (src_new w9 90 (cgC (xg, (((xs, xh, xl), xn), (xo, (ys, yh, yl), xw))))); have HT10 := Lib.hid (hT9.alloc (.cells (cgC (xg, (((xs, xh, xl), xn), (xo, (ys, yh, yl), xw)))).toArray 90)); have HSz10 : Hid (W8.heap.size ≤ (w9.alloc (.cells (cgC (xg, (((xs, xh, xl), xn), (xo, (ys, yh, yl), xw)))).toArray 90)).heap.size) := Lib.hid HT10.out.size; clear hown hg hv hT9))
                      | (at_builtin; (refine wpList_apc 86 90 (.agg #[.bool false, .bool false, .int .u64 0, .int .u64 0, .int .i64 0, .int .i64 0, .bool false, .int .u64 0, .int .u64 0, .bool false]) 10 80 Tryz.underlying86 infoCg rfl (by decide) (by decide) _ rfl (.tmp 104) (.tmp 109) rfl W8.heap.size v5 (0 + 0) _ rfl HO10.out ⟨w9.heap.size, 0, none⟩ 1 (cgC (xg, (((xs, xh, xl), xn), (xo, (ys, yh, yl), xw)))) rfl rfl (fun j u hj => HSr.out j u hj) (cg_one _) HSz.out.2.1 HSz10.out ?_; intro v7 w11 hown hg hv; have hT11 : Tch W8 w11 [] := HT10.out.trans_fre (Tch.of_grown' (S := obI v5) hg (fun k e => by rw [obI_some e]; simp)) (fun s hs => .inr (own_geI HO10.out s hs).1); skip; have HO11 := Lib.hid hown; have HT11 := Lib.hid hT11; have HSz11 : Hid (W8.heap.size ≤ w11.heap.size) := Lib.hid HT11.out.size; clear hown hg hv hT11 t0 t1 t2 t3 t4 t5 t6 t7 t8 t9))
                      | (at_builtin; (refine wpList_apm 86 90 (.agg #[.bool false, .bool false, .int .u64 0, .int .u64 0, .int .i64 0, .int .i64 0, .bool false, .int .u64 0, .int .u64 0, .bool false]) 10 80 Tryz.underlying86 infoCg rfl (by decide) (by decide) _ rfl (.tmp 111) (.tmp 114) rfl W8.heap.size v7 (0 + 0 + 1) _ rfl HO11.out 0 (.slice none 0 0) 0 [] rfl (HRow2.out _) (by simp) HSz.out.2.2 HSz11.out ?_; intro v9 w13 hown hg hv; have hT13 : Tch W8 w13 [] := HT11.out.trans_fre (Tch.of_grown' (S := obI v7) hg (fun k e => by rw [obI_some e]; simp)) (fun s hs => .inr (own_geI HO11.out s hs).1); rw [HEr.out, HEn.out] at hown; obtain ⟨A9, c9, e9, -, -⟩ := own_sl hown; subst e9; have HRz := Lib.hid (own_monoC hown HB8.out); have HTz := Lib.hid (hT3.out.trans (HE8.out.trans hT13)); clear hown hg hv hT13)))
                    go_roundw
                    case rel => exact ⟨0 + 1, A9, c9, rfl, by go_num, hin, HTz, Lib.hid (by rw [HNx.out]; exact HRz.out)⟩
                    case measure => simp [intOf]; omega
                  · have hrow0 := own_monoC HOw.out (Nat.zero_le _)
                    obtain ⟨A1, hA1, hcells, hlen⟩ := row_rest (k := k) cg_ten hrow0 HOn.out hk
                    have hrow1 := own_take (own_tch hrow0 HE8.out (by simp)) (k := k) hk
                    rw [flatk_take cg_ten] at hrow1
                    have HRow1 := Lib.hid hrow1
                    have HCells := Lib.hid hcells
                    obtain ⟨d, hd⟩ : ∃ d, i3 - k = d := ⟨_, rfl⟩
                    rw [hd] at hlen
                    have HLen := Lib.hid hlen
                    have hnc : i3 ≤ c3 := by
                      obtain ⟨_, _, e, h9, _⟩ := own_sl HOw.out
                      injection e with e1 e2 e3
                      omega
                    have hkc : k ≤ c3 := by omega
                    have hkI : (0 : Int) ≤ (k : Int) ∧ (k : Int) ≤ (i3 : Int) ∧ (k : Int) ≤ (c3 : Int) := by omega
                    have HEr : Hid ([] ++ (out.take k).flatMap cgC ++ cgC (xg, (((xs, xh, xl), xn), (xo, (ys, yh, yl), xw))) ++ (out.drop k).flatMap cgC = (insC out (xg, (((xs, xh, xl), xn), (xo, (ys, yh, yl), xw)))).flatMap cgC) := Lib.hid (insC_cells out _ k (by rw [HOn.out]; exact HPos.out))
                    have HEn : Hid (0 + k + 1 + d = i3 + 1) := Lib.hid (by omega)
                    have HSz : Hid (0 + k ≤ 1000000 ∧ 0 + k ≤ 1000000 ∧ 0 + k + 1 + d ≤ 1000000) := Lib.hid (by have := HFm.out; omega)
                    have HB8 : Hid (w3.heap.size ≤ W8.heap.size) := Lib.hid (Nat.le_trans hT3.out.size HE8.out.size)
                    clear hrow0 hrow1 hcells hlen
                    go_wp2_with (first
                      | (at_builtin; (refine wpList_apm 86 90 (.agg #[.bool false, .bool false, .int .u64 0, .int .u64 0, .int .i64 0, .int .i64 0, .bool false, .int .u64 0, .int .u64 0, .bool false]) 10 80 Tryz.underlying86 infoCg rfl (by decide) (by decide) _ rfl (.tmp 99) (.tmp 102) rfl W8.heap.size (.slice none 0 0) 0 [] rfl HNil.out 0 (.slice (some ⟨g, 0, none⟩) k c3) k ((out.take k).flatMap cgC) rfl HRow1.out (flat_one cg_one _) HSz.out.1 (Nat.le_refl _) ?_; intro v5 w9 hown hg hv; have hT9 : Tch W8 w9 [] := Tch.of_grown' hg (fun g e => by cases e); obtain ⟨t0, t1, t2, t3, t4, t5, t6, t7, t8, t9⟩ := HCx.out w9 (HE8.out.trans hT9); have HO10 := Lib.hid (hown.alloc (.cells (cgC (xg, (((xs, xh, xl), xn), (xo, (ys, yh, yl), xw)))).toArray 90)); have HSr := Lib.hid (src_new w9 90 (cgC (xg, (((xs, xh, xl), xn), (xo, (ys, yh, yl), xw))))); have HT10 := Lib.hid (hT9.alloc (.cells (cgC (xg, (((xs, xh, xl), xn), (xo, (ys, yh, yl), xw)))).toArray 90)); have HSz10 : Hid (W8.heap.size ≤ (w9.alloc (.cells (cgC (xg, (((xs, xh, xl), xn), (xo, (ys, yh, yl), xw)))).toArray 90)).heap.size) := Lib.hid HT10.out.size; clear hown hg hv hT9))
                      | (at_builtin; (refine wpList_apc 86 90 (.agg #[.bool false, .bool false, .int .u64 0, .int .u64 0, .int .i64 0, .int .i64 0, .bool false, .int .u64 0, .int .u64 0, .bool false]) 10 80 Tryz.underlying86 infoCg rfl (by decide) (by decide) _ rfl (.tmp 104) (.tmp 109) rfl W8.heap.size v5 (0 + k) _ rfl HO10.out ⟨w9.heap.size, 0, none⟩ 1 (cgC (xg, (((xs, xh, xl), xn), (xo, (ys, yh, yl), xw)))) rfl rfl (fun j u hj => HSr.out j u hj) (cg_one _) HSz.out.2.1 HSz10.out ?_; intro v7 w11 hown hg hv; have hT11 : Tch W8 w11 [] := HT10.out.trans_fre (Tch.of_grown' (S := obI v5) hg (fun k e => by rw [obI_some e]; simp)) (fun s hs => .inr (own_geI HO10.out s hs).1); have HC11 := Lib.hid (HCells.out w11 (HE8.out.trans hT11)); have HO11 := Lib.hid hown; have HT11 := Lib.hid hT11; have HSz11 : Hid (W8.heap.size ≤ w11.heap.size) := Lib.hid HT11.out.size; clear hown hg hv hT11 t0 t1 t2 t3 t4 t5 t6 t7 t8 t9))
                      | (at_builtin; (refine wpList_apx 86 90 (.agg #[.bool false, .bool false, .int .u64 0, .int .u64 0, .int .i64 0, .int .i64 0, .bool false, .int .u64 0, .int .u64 0, .bool false]) 10 80 Tryz.underlying86 infoCg rfl (by decide) (by decide) _ rfl (.tmp 111) (.tmp 114) rfl W8.heap.size v7 (0 + k + 1) _ rfl HO11.out A1 d (c3 - k) _ rfl HLen.out HC11.out (flat_one cg_one _) HSz.out.2.2 HSz11.out ?_; intro v9 w13 hown hg hv; have hT13 : Tch W8 w13 [] := HT11.out.trans_fre (Tch.of_grown' (S := obI v7) hg (fun k e => by rw [obI_some e]; simp)) (fun s hs => .inr (own_geI HO11.out s hs).1); rw [HEr.out, HEn.out] at hown; obtain ⟨A9, c9, e9, -, -⟩ := own_sl hown; subst e9; have HRz := Lib.hid (own_monoC hown HB8.out); have HTz := Lib.hid (hT3.out.trans (HE8.out.trans hT13)); clear hown hg hv hT13)))
                    go_roundw
                    case rel => exact ⟨i3 + 1, A9, c9, rfl, by go_num, hin, HTz, Lib.hid (by rw [HNx.out]; exact HRz.out)⟩
                    case measure => simp [intOf]; omega
            · obtain rfl : i3 = f2 := by omega
              have iI : ¬ (i3 : Int) < (i3 : Int) := by omega
              have HSa : Hid ((al.take i3).foldl insC [] = srtC al) := Lib.hid (by rw [List.take_of_length_le (by rw [HF2.out]; exact Nat.le_refl _)]; rfl)
              have HSl : Hid ((srtC al).length = i3) := Lib.hid (by show (al.foldl insC []).length = i3; rw [foldC_len, HF2.out]; exact Nat.zero_add _)
              have HRe : Hid (RowC w4 w.heap.size A3 i3 c3 (srtC al)) := Lib.hid (by rw [← HSa.out]; exact own_monoC hR3.out HT2.out.size)
              have HTe := Lib.hid (HT2.out.trans hT3.out)
              clear hi3 hin
              go_wp2
              go_ret
              refine ⟨A3, c3, ?_, ?_, HTe.out⟩
              · rw [HEl.out, HSl.out]; rfl
              · rw [HEl.out, HSl.out]; exact HRe.out
end Go.Proofs.YtgfkmgbcajdcdaaGreatDoor
