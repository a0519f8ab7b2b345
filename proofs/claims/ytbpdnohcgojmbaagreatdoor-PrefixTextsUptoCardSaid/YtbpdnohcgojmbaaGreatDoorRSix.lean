/-
  The document's own six: the groups of a text, and where the gap stands among them.
-/
import Derived.Test.YtbpdnohcgojmbaaGreatDoorRSp
namespace Go.Proofs.YtbpdnohcgojmbaaGreatDoor
open Go.RowKit
set_option linter.unusedVariables false

theorem TI.grown {w w' : World} {B lo n : Nat} {A : Option Addr} {P : List (List UInt8)} {r : Option Nat} (h : TI w B A n P) (hlo : ∀ x, A = some x → lo ≤ x.block) (hB : B ≤ w.heap.size) (hg : w.grownBy w' r) (hr : ∀ k, r = some k → k < lo ∨ B ≤ k) : TI w' B A n P :=
  ⟨h.1, fun h0 => by
    obtain ⟨g, o, e, hgB, hc⟩ := h.2 h0
    refine ⟨g, o, e, hgB, fun j l hj => hg.cell (hc j l hj) ?_⟩
    intro e2
    have h2 : lo ≤ g := hlo _ e
    rcases hr g e2.symm with h1 | h1 <;> omega⟩
theorem TI.alloc {w : World} {B n : Nat} {A : Option Addr} {P : List (List UInt8)} (h : TI w B A n P) (hB : B ≤ w.heap.size) (o : Obj) : TI (w.alloc o) B A n P :=
  h.below (Below.alloc (Below.refl _ _) hB o)
theorem own_below1 {w w' : World} {R n k : Nat} {t : TypeId} {v : Value} {xs : List Value} (h : w.ownsRow R t k v n xs) (hb : Below w.heap.size w w') : w'.ownsRow R t k v n xs := by
  refine ⟨h.1, h.2.imp id ?_⟩
  rintro ⟨g, cap, cur, a, b, c, d⟩
  refine ⟨g, cap, cur, a, b, ?_, d⟩
  rw [hb.block g ?_]
  · exact c
  · exact (show Blk w g t cur from c).lt
theorem own_lt {w : World} {R n k : Nat} {t : TypeId} {v : Value} {xs : List Value} (h : w.ownsRow R t k v n xs) : ∀ j, v.ownBlock = some j → j < w.heap.size := by
  intro j hj
  rcases h.2 with ⟨rfl, _⟩ | ⟨g, cap, cur, rfl, _, c, _⟩
  · simp [Value.ownBlock] at hj
  · simp [Value.ownBlock] at hj; subst hj; exact (show Blk w _ t cur from c).lt
theorem own_form1 {w : World} {R n k : Nat} {t : TypeId} {v : Value} {xs : List Value} (h : w.ownsRow R t k v n xs) : ∃ a c, v = .slice a n c := by
  rcases h.2 with ⟨hv, h0⟩ | ⟨g, cap, cur, hv, _⟩
  · exact ⟨none, 0, by rw [hv, h0]⟩
  · exact ⟨_, _, hv⟩
theorem infoInt : (Tryz.prog.info? 3).map (fun i => (i.zero, i.size, i.bytes)) = some (some (.int .i64 0), 1, 8) := by kernel_rfl
theorem alls_no {α β : Type} {f : α → Option β} {l : List α} {x : α} (hm : x ∈ l) (hx : f x = none) : alls f l = none := by
  cases h : alls f l with
  | none => rfl
  | some vs =>
    obtain ⟨v, hv⟩ := alls_all h x hm
    rw [hx] at hv; cases hv
theorem alls_snoc {α β : Type} {f : α → Option β} : ∀ {l : List α} {vs : List β} {x : α} {v : β}, alls f l = some vs → f x = some v → alls f (l ++ [x]) = some (vs ++ [v])
  | [], vs, x, v, h, hx => by cases h; rw [List.nil_append, alls_cons_some hx]; rfl
  | y :: r, vs, x, v, h, hx => by
    cases hy : f y with
    | none => rw [alls_cons_none hy] at h; cases h
    | some u =>
      rw [alls_cons_some hy] at h
      cases hr : alls f r with
      | none => rw [hr] at h; cases h
      | some ws =>
        rw [hr] at h
        cases h
        rw [List.cons_append, alls_cons_some hy, alls_snoc hr hx]; rfl
theorem alls_vals {α β : Type} {f : α → Option β} : ∀ {l : List α} {vs : List β}, alls f l = some vs → ∀ v ∈ vs, ∃ x ∈ l, f x = some v
  | [], vs, h, v, hv => by cases h; cases hv
  | y :: r, vs, h, v, hv => by
    cases hy : f y with
    | none => rw [alls_cons_none hy] at h; cases h
    | some u =>
      rw [alls_cons_some hy] at h
      cases hr : alls f r with
      | none => rw [hr] at h; cases h
      | some ws =>
        rw [hr] at h
        cases h
        rcases List.mem_cons.1 hv with rfl | hv
        · exact ⟨y, List.mem_cons_self .., hy⟩
        · obtain ⟨x, hx, e⟩ := alls_vals hr v hv
          exact ⟨x, List.mem_cons_of_mem _ hx, e⟩
theorem wf_nat {gs : List Nat} (h : ∀ v ∈ gs, v < 65536) : ∀ z ∈ gs.map Int.ofNat, (Lit.int .i64 z).wf = true := by
  intro z hz
  obtain ⟨v, hv, rfl⟩ := List.mem_map.1 hz
  have := h v hv
  simp [Lit.wf, IntKind.min, IntKind.max, IntKind.bits, IntKind.signed]; omega
theorem hex_bd {l : List (List UInt8)} {gs : List Nat} (h : alls hexw l = some gs) : ∀ v ∈ gs, v < 65536 := fun v hv => by
  obtain ⟨x, _, e⟩ := alls_vals h v hv
  exact hexw_lt e
theorem wf_hex {l : List (List UInt8)} {gs : List Nat} (h : alls hexw l = some gs) : ∀ z ∈ gs.map Int.ofNat, (Lit.int .i64 z).wf = true := wf_nat (hex_bd h)
theorem gpart_bd {l : List UInt8} {gs : List Nat} (h : gpart l = some gs) : ∀ v ∈ gs, v < 65536 := fun v hv => by
  unfold gpart at h
  split at h
  · cases h; cases hv
  · exact hex_bd h v hv
/-- What a call of six leaves. -/
def SixOut (w : World) (o : Option (List Nat × Int)) (e : Ending) (w' : World) : Prop := match o with
  | none => e = .returned (.tuple #[.slice none 0 0, .int .i64 0, .bool false]) ∧ Below w.heap.size w w'
  | some (g, a) => ∃ A c, e = .returned (.tuple #[.slice A g.length c, .int .i64 a, .bool true]) ∧ RI .i64 w' w'.heap.size A g.length (g.map Int.ofNat) ∧ (A = none → c = 0) ∧ (∀ x, A = some x → w.heap.size ≤ x.block) ∧ Below w.heap.size w w'
/-- Where the walk over the parts stands: of one part; of two. -/
def InvN (D : Option (List Nat)) (K : Nat) (gs : List Nat) (a : Int) : Prop := a = -1 ∧ ((K = 0 ∧ gs = []) ∨ (K = 1 ∧ D = some gs))
def InvG (D0 D1 : Option (List Nat)) (K : Nat) (gs : List Nat) (a : Int) : Prop := (K = 0 ∧ gs = [] ∧ a = -1) ∨ (K = 1 ∧ D0 = some gs ∧ a = -1) ∨ (K = 2 ∧ ∃ g0 g1, D0 = some g0 ∧ D1 = some g1 ∧ gs = g0 ++ g1 ∧ a = g0.length)

set_option maxRecDepth 100000 in
set_option maxHeartbeats 16000000 in
theorem rsix_any (s : ByteArray) (hs : s.size ≤ 1000000000) (w : World) :
    Calls Tryz.prog 40 #[.string s] w (SixOut w (sixD s.data.toList)) := by
  obtain ⟨L, hL⟩ : ∃ L, s.data.toList = L := ⟨_, rfl⟩
  have hl : L.length = s.size := by rw [← hL]; exact (Lib.size_eq s).symm
  have HG : Hid (∀ k (h : k < s.size), L[k]? = some s[k]) := Lib.hid (fun k h => by
    rw [← hL, List.getElem?_eq_getElem (by rw [hL, hl]; exact h)]; rfl)
  have HE : Hid (∀ f i, s.extract f i = ⟨((L.drop f).take (i - f)).toArray⟩) := Lib.hid (fun f i => by rw [ext_part, hL])
  have HL := Lib.hid hl
  rw [hL]
  have HsL := Lib.hid hL
  clear hL hl
  go_enter Tryz.func40, Tryz.ntmps40
  go_wp2
  go_loop [5, 6] (fun g i => ∃ I : Nat, g = .int .i64 (-1) ∧ i = .int .i64 (I : Int) ∧ I ≤ s.size ∧ Hid (no2 L I)) (fun _ i => (s.size - (intOf i).toNat))
  case atStart => exact ⟨0, rfl, rfl, Nat.zero_le _, Lib.hid (fun j hj => by omega)⟩
  case round =>
    obtain ⟨I, rfl, rfl, hI0, hno⟩ := hrel
    have hw1 : IntKind.i64.wrap ((I : Int) + 1) = (I : Int) + 1 := by rw [IntKind.wrap_i64]; omega
    by_cases hlt : I + 1 < s.size
    · have hlt' : (I : Int) + 1 < s.size := by omega
      have hltI : I < s.size := by omega
      have hltI' : (I : Int) < s.size := by omega
      have hn1 : ((I : Int) + 1).toNat = I + 1 := by omega
      have g0 := HG.out I hltI
      have g1 := HG.out (I + 1) hlt
      by_cases hc : s[I] = 58
      · have hq : ((s[I].toNat : Int) == 58) = true := by rw [hc]; rfl
        by_cases hc2 : s[I + 1] = 58
        · have hq2 : ((s[I + 1].toNat : Int) == 58) = true := by rw [hc2]; rfl
          rw [hc] at g0
          rw [hc2] at g1
          have HR : Hid (sixD L = match gpart (L.take I), gpart (L.drop (I + 2)) with | some f, some g => some (f ++ g, (f.length : Int)) | _, _ => none) := Lib.hid (by unfold sixD; rw [cut2_at hno.out g0 g1]; rfl)
          have hw2 : IntKind.i64.wrap ((I : Int) + 2) = (I : Int) + 2 := by rw [IntKind.wrap_i64]; omega
          have hn2 : ((I : Int) + 2).toNat = I + 2 := by omega
          have hI2 : (I : Int) + 2 ≤ s.size := by omega
          have hI3 : (0 : Int) ≤ (I : Int) := by omega
          have hI4 : (0 : Int) ≤ (I : Int) + 2 := by omega
          have hI5 : (I : Int) ≤ s.size := by omega
          obtain ⟨p0, hp0⟩ : ∃ p, s.extract 0 I = p := ⟨_, rfl⟩
          obtain ⟨p1, hp1⟩ : ∃ p, s.extract (I + 2) s.size = p := ⟨_, rfl⟩
          have e0 : p0.data.toList = L.take I := by rw [← hp0, HE.out]; simp
          have e1 : p1.data.toList = L.drop (I + 2) := by rw [← hp1, HE.out]; simp; exact List.take_of_length_le (by rw [List.length_drop, HL.out]; exact Nat.le_refl _)
          rw [← e0, ← e1] at HR
          have z0 : p0.size ≤ 1000000000 := by rw [Lib.size_eq, e0, List.length_take, HL.out]; omega
          have z1 : p1.size ≤ 1000000000 := by rw [Lib.size_eq, e1, List.length_drop, HL.out]; omega
          clear g0 g1 hc hc2 hno e0 e1
          go_wp2
          go_region
          all_goals
            go_wp2
            have HW1 := Lib.hid ((((Below.refl _ w).alloc (Nat.le_refl _) (.cells #[.string s] 9)).alloc (by simp) (.cells #[.string p0, .string p1] 9)).drew)
            have HPb : Hid (Blk ((w.alloc (.cells #[.string s] 9)).alloc (.cells #[.string p0, .string p1] 9)).drew (w.heap.size + 1) 9 #[.string p0, .string p1]) := Lib.hid (by
              have h := (Blk.new (w.alloc (.cells #[.string s] 9)) 9 #[.string p0, .string p1]).drew
              rw [World.size_alloc] at h; exact h)
            obtain ⟨W1, hW1⟩ : ∃ x, x = ((w.alloc (.cells #[.string s] 9)).alloc (.cells #[.string p0, .string p1] 9)).drew := ⟨_, rfl⟩
            obtain ⟨base, hbase⟩ : ∃ b, b = w.heap.size + 2 := ⟨_, rfl⟩
            have hbs : W1.heap.size = base := by rw [hW1, hbase]; simp
            rw [← hW1] at HW1 HPb ⊢
            have HBS := Lib.hid hbs
            have HBA := Lib.hid hbase
            obtain ⟨D0, hD0⟩ : ∃ D, gpart p0.data.toList = D := ⟨_, rfl⟩
            obtain ⟨D1, hD1⟩ : ∃ D, gpart p1.data.toList = D := ⟨_, rfl⟩
            rw [hD0, hD1] at HR
            have HD0 := Lib.hid hD0
            have HD1 := Lib.hid hD1
            clear hW1 hbs hbase hD0 hD1
            go_loopw [8, 9, 10] (fun v a k wr => ∃ (K m : Nat) (gs : List Nat) (at_ : Int), k = .int .i64 (K : Int) ∧ a = .int .i64 at_ ∧ K ≤ 2 ∧ Hid (m ≤ K * 1000000001) ∧ Hid (wr.ownsRow base 3 1 v m ((gs.map Int.ofNat).map (Value.int .i64)) ∧ Below base W1 wr ∧ InvG D0 D1 K gs at_)) (fun _ _ k _ => (2 - (intOf k).toNat))
            case atStart => exact ⟨0, 0, [], -1, rfl, rfl, by omega, Lib.hid (by omega), Lib.hid ⟨⟨by simp, .inl ⟨rfl, rfl⟩⟩, by rw [← HBS.out]; exact Below.refl _ _, .inl ⟨rfl, rfl, rfl⟩⟩⟩
            case round =>
              obtain ⟨K, m, gs, at_, rfl, rfl, hK, HM, hH⟩ := hrel
              obtain ⟨a0, c0, rfl⟩ := own_form1 hH.out.1
              have HLn : Hid (gs.length = m) := Lib.hid (by have := hH.out.1.1; simpa using this)
              rcases (show K = 0 ∨ K = 1 ∨ K = 2 by omega) with rfl | rfl | rfl
              · have hv : gs = [] ∧ at_ = -1 := by rcases hH.out.2.2 with ⟨_, h⟩ | ⟨h, _⟩ | ⟨h, _⟩; exact h; cases h; cases h
                obtain ⟨hg0, rfl⟩ := hv
                have HG0 := Lib.hid hg0
                have B0 := HPb.out.below hH.out.2.1 (by rw [HBA.out]; omega)
                have d0 : wr.cell? ⟨w.heap.size + 1, 0, none⟩ = some (.string p0) := by rw [B0.cell]; rfl
                clear B0 hg0
                by_cases hem : p0.data.toList = []
                · have te : p0.toList.isEmpty = true := by rw [List.isEmpty_iff]; simpa [ByteArray.toList_eq] using hem
                  have HI : Hid (InvG D0 D1 1 gs (-1)) := Lib.hid (.inr (.inl ⟨rfl, by rw [← HD0.out, hem, HG0.out]; rfl, rfl⟩))
                  clear hem
                  go_wp2
                  go_roundw
                  case rel => exact ⟨1, m, gs, _, by go_num, rfl, by omega, Lib.hid (by have := HM.out; omega), Lib.hid ⟨hH.out.1, hH.out.2.1, HI.out⟩⟩
                  case measure => simp [intOf] <;> omega
                · have te : p0.toList.isEmpty = false := by
                    rw [List.isEmpty_eq_false_iff]
                    intro e
                    apply hem
                    rw [← e]; simp [ByteArray.toList_eq]
                  have HD : Hid (D0 = alls hexw (spl 58 p0.data.toList)) := Lib.hid (by rw [← HD0.out]; unfold gpart; rw [if_neg hem])
                  have HNone : Hid (alls hexw (spl 58 p0.data.toList) = none → sixD L = none) := Lib.hid (fun h => by rw [HR.out, HD.out, h])
                  have HSome : Hid (∀ hs, alls hexw (spl 58 p0.data.toList) = some hs → InvG D0 D1 1 (gs ++ hs) (-1)) := Lib.hid (fun hs h => .inr (.inl ⟨rfl, by rw [HD.out, h, HG0.out]; rfl, rfl⟩))
                  clear hem
                  have HSp := Lib.hid (fun W => rsplit_any p0 z0 58 58 rfl W)
                  obtain ⟨P, hP⟩ : ∃ P, spl 58 p0.data.toList = P := ⟨_, rfl⟩
                  rw [hP] at HSp HNone HSome
                  unfold SplOut at HSp
                  have HPl : Hid (P.length ≤ 1000000001) := Lib.hid (by rw [← hP]; have := spl_len 58 p0.data.toList; have := z0; have := Lib.size_eq p0; omega)
                  obtain ⟨n, hn⟩ : ∃ n, P.length = n := ⟨_, rfl⟩
                  rw [hn] at HPl
                  simp only [hn] at HSp
                  have HN := Lib.hid hn
                  have HPq := Lib.hid hP
                  clear hP hn
                  go_wp2_with fail
                  refine Calls.mono (HSp.out _) ?_
                  rintro e w2 ⟨A, c, rfl, hti, hge, hb⟩
                  have HTI := Lib.hid hti
                  have HGE := Lib.hid hge
                  have HB2 := Lib.hid hb
                  obtain ⟨wo, hwo⟩ : ∃ x, x = wr := ⟨_, rfl⟩
                  subst hwo
                  have HO := Lib.hid hH.out.1
                  have HBo := Lib.hid hH.out.2.1
                  clear hti hge hb HSp
                  go_wp2
                  go_loopw [8, 12] (fun v i w3 => ∃ (j m' : Nat) (hs : List Nat), i = .int .i64 (j : Int) ∧ j ≤ n ∧ m' = m + j ∧ Hid (w3.ownsRow base 3 1 v m' (((gs ++ hs).map Int.ofNat).map (Value.int .i64)) ∧ (∀ k, v.ownBlock = some k → k < wo.heap.size ∨ w2.heap.size ≤ k) ∧ TI w3 w2.heap.size A n P ∧ w2.heap.size ≤ w3.heap.size ∧ Below base W1 w3 ∧ alls hexw (P.take j) = some hs)) (fun _ i _ => (n - (intOf i).toNat))
                  case atStart => exact ⟨0, m, [], rfl, Nat.zero_le _, rfl, Lib.hid ⟨by rw [List.append_nil]; exact own_below1 HO.out HB2.out, fun k hk => .inl (own_lt HO.out k hk), HTI.out, Nat.le_refl _, HBo.out.trans (HB2.out.mono (by rw [← HBS.out]; exact HBo.out.size)), rfl⟩⟩
                  case round =>
                    obtain ⟨j, m', hs, rfl, hj, rfl, hI⟩ := hrel
                    by_cases hlt : j < n
                    · have hlt' : (j : Int) < n := by omega
                      have hgt : P[j]? = some (P[j]'(by rw [HN.out]; exact hlt)) := List.getElem?_eq_getElem _
                      obtain ⟨X, hX⟩ : ∃ X, P[j]'(by rw [HN.out]; exact hlt) = X := ⟨_, rfl⟩
                      rw [hX] at hgt
                      obtain ⟨g, o, hA, hgb, hcell⟩ := hI.out.2.2.1.2 (by omega)
                      have d1 := hcell j _ hgt
                      obtain ⟨q, hq⟩ : ∃ q : ByteArray, (⟨X.toArray⟩ : ByteArray) = q := ⟨_, rfl⟩
                      rw [hq] at d1
                      have HGr := Lib.hid (fun W => rgroup_any q W)
                      have eq_ : q.data.toList = X := by rw [← hq]
                      rw [eq_] at HGr
                      have HGT := Lib.hid hgt
                      subst hA
                      clear hX hq eq_ hgt hgb hcell
                      have hw1 : IntKind.i64.wrap ((j : Int) + 1) = (j : Int) + 1 := by rw [IntKind.wrap_i64]; have := HPl.out; omega
                      cases hx : hexw X with
                      | none =>
                        have HNO := Lib.hid (HNone.out (alls_no (List.mem_of_getElem? HGT.out) hx))
                        rw [show grpN X = -1 by unfold grpN; rw [hx]] at HGr
                        clear hx
                        go_wp2_with fail
                        refine Calls.mono (HGr.out _) ?_
                        rintro e w4 ⟨rfl, rfl⟩
                        go_wp2
                        exact bodyPost_ret (v := .tuple #[.slice none 0 0, .int .i64 0, .bool false]) (by simp [results, Tryz.results40, go_sem]) rfl (by unfold SixOut; rw [HNO.out]; exact ⟨rfl, HW1.out.trans (hI.out.2.2.2.2.1.mono (by rw [← HBS.out]; exact HW1.out.size))⟩)
                      | some y =>
                        have hy : y < 65536 := hexw_lt hx
                        have HX : Hid (alls hexw (P.take (j + 1)) = some (hs ++ [y])) := Lib.hid (by rw [List.take_add_one, HGT.out]; exact alls_snoc hI.out.2.2.2.2.2 hx)
                        rw [show grpN X = (y : Int) by unfold grpN; rw [hx]] at HGr
                        obtain ⟨Y, hY⟩ : ∃ Y : Int, (y : Int) = Y := ⟨_, rfl⟩
                        rw [hY] at HGr
                        have hy0 : decide (Y < 0) = false := by rw [decide_eq_false_iff_not]; omega
                        have HY := Lib.hid hY
                        have HF : Hid (∀ z ∈ [Y], (Lit.int .i64 z).wf = true) := Lib.hid (fun z hz => by
                          rw [List.mem_singleton] at hz; subst hz
                          simp [Lit.wf, IntKind.min, IntKind.max, IntKind.bits, IntKind.signed]; omega)
                        clear hx hy hY
                        go_wp2_with fail
                        refine Calls.mono (HGr.out _) ?_
                        rintro e w4 ⟨rfl, rfl⟩
                        go_wp2_with (at_builtin; refine wpList_appk .i64 66 3 8 Tryz.underlying66 infoInt _ rfl (.tmp 82) (.tmp 84) rfl base u8 (m + j) ((gs ++ hs).map Int.ofNat) rfl (hI.out.1.alloc _) (wr.heap.size + 1) (some ⟨wr.heap.size, 0, none⟩) 1 1 [Y] rfl (fun h => by cases h) (Blk.readsk (zs := [Y]) (Blk.new _ _ _) HF.out (Nat.lt_succ_self _)) (by have := HPl.out; have := HM.out; omega) (by have := HPl.out; have := HM.out; omega) (by have := hI.out.2.2.2.2.1.size; have := HBS.out; simp only [World.size_alloc]; omega) ?_; intro v2 w5 hown2 hg2 hat2; have HO2 := Lib.hid hown2; have HG2 := Lib.hid hg2; have HA2 := Lib.hid hat2; clear hown2 hg2 hat2)
                        go_roundw
                        case rel =>
                          refine ⟨j + 1, m + j + 1, hs ++ [y], by go_num, by omega, by omega, Lib.hid ⟨?_, ?_, ?_, ?_, ?_, HX.out⟩⟩
                          · have h := HO2.out
                            rw [← List.append_assoc, List.map_append (l₁ := gs ++ hs)]
                            rw [← HY.out] at h
                            exact h
                          · intro k hk
                            rcases HA2.out with h1 | h1
                            · rw [h1] at hk; exact hI.out.2.1 k hk
                            · rw [h1] at hk; injection hk with hk; have := hI.out.2.2.2.1; simp only [World.size_alloc] at hk; omega
                          · exact (hI.out.2.2.1.alloc hI.out.2.2.2.1 _).grown HGE.out (by have := hI.out.2.2.2.1; simp only [World.size_alloc]; omega) HG2.out hI.out.2.1
                          · have := hI.out.2.2.2.1; have := HG2.out.size; simp only [World.size_alloc] at this; omega
                          · exact (hI.out.2.2.2.2.1.alloc (by rw [← HBS.out]; exact hI.out.2.2.2.2.1.size) _).grown HG2.out (by have := hI.out.2.2.2.2.1.size; have := HBS.out; simp only [World.size_alloc]; omega) (own_basek hI.out.1)
                        case measure => simp [intOf]; omega
                    · obtain rfl : j = n := by omega
                      have hge' : ¬ (j : Int) < j := by omega
                      have HFull := hI.out.2.2.2.2.2
                      rw [List.take_of_length_le (by rw [HN.out]; exact Nat.le_refl _)] at HFull
                      have HS2 := Lib.hid (HSome.out hs HFull)
                      clear HFull
                      go_wp2
                      go_roundw
                      case rel => exact ⟨1, m + j, gs ++ hs, _, by go_num, rfl, by omega, Lib.hid (by have := HM.out; have := HPl.out; omega), Lib.hid ⟨hI.out.1, hI.out.2.2.2.2.1, by have h := HS2.out; first | exact h | (rw [← HPq.out] at h; exact h)⟩⟩
                      case measure => simp [intOf] <;> omega
              · have hv : D0 = some gs := by rcases hH.out.2.2 with ⟨h, _⟩ | ⟨_, h, _⟩ | ⟨h, _⟩; cases h; exact h; cases h
                have HG0 := Lib.hid hv
                have B0 := HPb.out.below hH.out.2.1 (by rw [HBA.out]; omega)
                have d0 : wr.cell? ⟨w.heap.size + 1, 1, none⟩ = some (.string p1) := by rw [B0.cell]; rfl
                clear B0 hv
                by_cases hem : p1.data.toList = []
                · have te : p1.toList.isEmpty = true := by rw [List.isEmpty_iff]; simpa [ByteArray.toList_eq] using hem
                  have HI : Hid (InvG D0 D1 2 gs (m : Int)) := Lib.hid (.inr (.inr ⟨rfl, gs, [], HG0.out, by rw [← HD1.out, hem]; rfl, by simp, by rw [HLn.out]⟩))
                  clear hem
                  go_wp2
                  go_roundw
                  case rel => exact ⟨2, m, gs, _, by go_num, rfl, by omega, Lib.hid (by have := HM.out; omega), Lib.hid ⟨hH.out.1, hH.out.2.1, HI.out⟩⟩
                  case measure => simp [intOf] <;> omega
                · have te : p1.toList.isEmpty = false := by
                    rw [List.isEmpty_eq_false_iff]
                    intro e
                    apply hem
                    rw [← e]; simp [ByteArray.toList_eq]
                  have HD : Hid (D1 = alls hexw (spl 58 p1.data.toList)) := Lib.hid (by rw [← HD1.out]; unfold gpart; rw [if_neg hem])
                  have HNone : Hid (alls hexw (spl 58 p1.data.toList) = none → sixD L = none) := Lib.hid (fun h => by rw [HR.out, HD.out, h, HG0.out])
                  have HSome : Hid (∀ hs, alls hexw (spl 58 p1.data.toList) = some hs → InvG D0 D1 2 (gs ++ hs) (m : Int)) := Lib.hid (fun hs h => .inr (.inr ⟨rfl, gs, hs, HG0.out, by rw [HD.out, h], rfl, by rw [HLn.out]⟩))
                  clear hem
                  have HSp := Lib.hid (fun W => rsplit_any p1 z1 58 58 rfl W)
                  obtain ⟨P, hP⟩ : ∃ P, spl 58 p1.data.toList = P := ⟨_, rfl⟩
                  rw [hP] at HSp HNone HSome
                  unfold SplOut at HSp
                  have HPl : Hid (P.length ≤ 1000000001) := Lib.hid (by rw [← hP]; have := spl_len 58 p1.data.toList; have := z1; have := Lib.size_eq p1; omega)
                  obtain ⟨n, hn⟩ : ∃ n, P.length = n := ⟨_, rfl⟩
                  rw [hn] at HPl
                  simp only [hn] at HSp
                  have HN := Lib.hid hn
                  have HPq := Lib.hid hP
                  clear hP hn
                  go_wp2_with fail
                  refine Calls.mono (HSp.out _) ?_
                  rintro e w2 ⟨A, c, rfl, hti, hge, hb⟩
                  have HTI := Lib.hid hti
                  have HGE := Lib.hid hge
                  have HB2 := Lib.hid hb
                  obtain ⟨wo, hwo⟩ : ∃ x, x = wr := ⟨_, rfl⟩
                  subst hwo
                  have HO := Lib.hid hH.out.1
                  have HBo := Lib.hid hH.out.2.1
                  clear hti hge hb HSp
                  go_wp2
                  go_loopw [8, 12] (fun v i w3 => ∃ (j m' : Nat) (hs : List Nat), i = .int .i64 (j : Int) ∧ j ≤ n ∧ m' = m + j ∧ Hid (w3.ownsRow base 3 1 v m' (((gs ++ hs).map Int.ofNat).map (Value.int .i64)) ∧ (∀ k, v.ownBlock = some k → k < wo.heap.size ∨ w2.heap.size ≤ k) ∧ TI w3 w2.heap.size A n P ∧ w2.heap.size ≤ w3.heap.size ∧ Below base W1 w3 ∧ alls hexw (P.take j) = some hs)) (fun _ i _ => (n - (intOf i).toNat))
                  case atStart => exact ⟨0, m, [], rfl, Nat.zero_le _, rfl, Lib.hid ⟨by rw [List.append_nil]; exact own_below1 HO.out HB2.out, fun k hk => .inl (own_lt HO.out k hk), HTI.out, Nat.le_refl _, HBo.out.trans (HB2.out.mono (by rw [← HBS.out]; exact HBo.out.size)), rfl⟩⟩
                  case round =>
                    obtain ⟨j, m', hs, rfl, hj, rfl, hI⟩ := hrel
                    by_cases hlt : j < n
                    · have hlt' : (j : Int) < n := by omega
                      have hgt : P[j]? = some (P[j]'(by rw [HN.out]; exact hlt)) := List.getElem?_eq_getElem _
                      obtain ⟨X, hX⟩ : ∃ X, P[j]'(by rw [HN.out]; exact hlt) = X := ⟨_, rfl⟩
                      rw [hX] at hgt
                      obtain ⟨g, o, hA, hgb, hcell⟩ := hI.out.2.2.1.2 (by omega)
                      have d1 := hcell j _ hgt
                      obtain ⟨q, hq⟩ : ∃ q : ByteArray, (⟨X.toArray⟩ : ByteArray) = q := ⟨_, rfl⟩
                      rw [hq] at d1
                      have HGr := Lib.hid (fun W => rgroup_any q W)
                      have eq_ : q.data.toList = X := by rw [← hq]
                      rw [eq_] at HGr
                      have HGT := Lib.hid hgt
                      subst hA
                      clear hX hq eq_ hgt hgb hcell
                      have hw1 : IntKind.i64.wrap ((j : Int) + 1) = (j : Int) + 1 := by rw [IntKind.wrap_i64]; have := HPl.out; omega
                      cases hx : hexw X with
                      | none =>
                        have HNO := Lib.hid (HNone.out (alls_no (List.mem_of_getElem? HGT.out) hx))
                        rw [show grpN X = -1 by unfold grpN; rw [hx]] at HGr
                        clear hx
                        go_wp2_with fail
                        refine Calls.mono (HGr.out _) ?_
                        rintro e w4 ⟨rfl, rfl⟩
                        go_wp2
                        exact bodyPost_ret (v := .tuple #[.slice none 0 0, .int .i64 0, .bool false]) (by simp [results, Tryz.results40, go_sem]) rfl (by unfold SixOut; rw [HNO.out]; exact ⟨rfl, HW1.out.trans (hI.out.2.2.2.2.1.mono (by rw [← HBS.out]; exact HW1.out.size))⟩)
                      | some y =>
                        have hy : y < 65536 := hexw_lt hx
                        have HX : Hid (alls hexw (P.take (j + 1)) = some (hs ++ [y])) := Lib.hid (by rw [List.take_add_one, HGT.out]; exact alls_snoc hI.out.2.2.2.2.2 hx)
                        rw [show grpN X = (y : Int) by unfold grpN; rw [hx]] at HGr
                        obtain ⟨Y, hY⟩ : ∃ Y : Int, (y : Int) = Y := ⟨_, rfl⟩
                        rw [hY] at HGr
                        have hy0 : decide (Y < 0) = false := by rw [decide_eq_false_iff_not]; omega
                        have HY := Lib.hid hY
                        have HF : Hid (∀ z ∈ [Y], (Lit.int .i64 z).wf = true) := Lib.hid (fun z hz => by
                          rw [List.mem_singleton] at hz; subst hz
                          simp [Lit.wf, IntKind.min, IntKind.max, IntKind.bits, IntKind.signed]; omega)
                        clear hx hy hY
                        go_wp2_with fail
                        refine Calls.mono (HGr.out _) ?_
                        rintro e w4 ⟨rfl, rfl⟩
                        go_wp2_with (at_builtin; refine wpList_appk .i64 66 3 8 Tryz.underlying66 infoInt _ rfl (.tmp 82) (.tmp 84) rfl base u8 (m + j) ((gs ++ hs).map Int.ofNat) rfl (hI.out.1.alloc _) (wr.heap.size + 1) (some ⟨wr.heap.size, 0, none⟩) 1 1 [Y] rfl (fun h => by cases h) (Blk.readsk (zs := [Y]) (Blk.new _ _ _) HF.out (Nat.lt_succ_self _)) (by have := HPl.out; have := HM.out; omega) (by have := HPl.out; have := HM.out; omega) (by have := hI.out.2.2.2.2.1.size; have := HBS.out; simp only [World.size_alloc]; omega) ?_; intro v2 w5 hown2 hg2 hat2; have HO2 := Lib.hid hown2; have HG2 := Lib.hid hg2; have HA2 := Lib.hid hat2; clear hown2 hg2 hat2)
                        go_roundw
                        case rel =>
                          refine ⟨j + 1, m + j + 1, hs ++ [y], by go_num, by omega, by omega, Lib.hid ⟨?_, ?_, ?_, ?_, ?_, HX.out⟩⟩
                          · have h := HO2.out
                            rw [← List.append_assoc, List.map_append (l₁ := gs ++ hs)]
                            rw [← HY.out] at h
                            exact h
                          · intro k hk
                            rcases HA2.out with h1 | h1
                            · rw [h1] at hk; exact hI.out.2.1 k hk
                            · rw [h1] at hk; injection hk with hk; have := hI.out.2.2.2.1; simp only [World.size_alloc] at hk; omega
                          · exact (hI.out.2.2.1.alloc hI.out.2.2.2.1 _).grown HGE.out (by have := hI.out.2.2.2.1; simp only [World.size_alloc]; omega) HG2.out hI.out.2.1
                          · have := hI.out.2.2.2.1; have := HG2.out.size; simp only [World.size_alloc] at this; omega
                          · exact (hI.out.2.2.2.2.1.alloc (by rw [← HBS.out]; exact hI.out.2.2.2.2.1.size) _).grown HG2.out (by have := hI.out.2.2.2.2.1.size; have := HBS.out; simp only [World.size_alloc]; omega) (own_basek hI.out.1)
                        case measure => simp [intOf]; omega
                    · obtain rfl : j = n := by omega
                      have hge' : ¬ (j : Int) < j := by omega
                      have HFull := hI.out.2.2.2.2.2
                      rw [List.take_of_length_le (by rw [HN.out]; exact Nat.le_refl _)] at HFull
                      have HS2 := Lib.hid (HSome.out hs HFull)
                      clear HFull
                      go_wp2
                      go_roundw
                      case rel => exact ⟨2, m + j, gs ++ hs, _, by go_num, rfl, by omega, Lib.hid (by have := HM.out; have := HPl.out; omega), Lib.hid ⟨hI.out.1, hI.out.2.2.2.2.1, by have h := HS2.out; first | exact h | (rw [← HPq.out] at h; exact h)⟩⟩
                      case measure => simp [intOf] <;> omega
              · obtain ⟨g0, g1, hv0, hv1, hv2, hv3⟩ : ∃ g0 g1, D0 = some g0 ∧ D1 = some g1 ∧ gs = g0 ++ g1 ∧ at_ = g0.length := by rcases hH.out.2.2 with ⟨h, _⟩ | ⟨h, _⟩ | ⟨_, h⟩; cases h; cases h; exact h
                have HRS : Hid (sixD L = some (gs, at_)) := Lib.hid (by rw [HR.out, hv0, hv1, hv2, hv3])
                have hbd : ∀ v ∈ gs, v < 65536 := by
                  rw [hv2]
                  intro v hv
                  rcases List.mem_append.1 hv with h | h
                  · exact gpart_bd (HD0.out.trans hv0) v h
                  · exact gpart_bd (HD1.out.trans hv1) v h
                obtain ⟨A2, c2, he, q1, q2, q3, -⟩ := own_ri (k := .i64) (zs := gs.map Int.ofNat) (wf_nat hbd) hH.out.1
                have hgl := HLn.out
                have HH := Lib.hid hH.out.2.1
                cases he
                have HQ := Lib.hid (And.intro q1 (And.intro q2 q3))
                subst hgl
                clear hv0 hv1 hv2 hv3 hbd q1 q2 q3 hH HLn HM
                go_wp2
                exact bodyPost_ret (v := .tuple #[.slice a0 gs.length c0, .int .i64 at_, .bool true]) (by simp [results, Tryz.results40, go_sem]) rfl (by unfold SixOut; rw [HRS.out]; exact ⟨a0, c0, rfl, HQ.out.1, HQ.out.2.1, fun x hx => by have := HQ.out.2.2 x hx; have := HBA.out; omega, HW1.out.trans (HH.out.mono (by rw [← HBS.out]; exact HW1.out.size))⟩)
        · have hq2 : ((s[I + 1].toNat : Int) == 58) = false := by
            rw [beq_eq_false_iff_ne]; intro e; exact hc2 (UInt8.toNat_inj.1 (by simp; omega))
          have HN := Lib.hid (no2_step hno.out (fun h => hc2 (by have := h.2; rw [g1] at this; injection this)))
          clear g0 g1 hc hc2 hno
          go_wp2
          go_round
          case rel => exact ⟨I + 1, rfl, by go_num, by omega, HN⟩
          case measure => simp [intOf]; omega
      · have hq : ((s[I].toNat : Int) == 58) = false := by
          rw [beq_eq_false_iff_ne]; intro e; exact hc (UInt8.toNat_inj.1 (by simp; omega))
        have HN := Lib.hid (no2_step hno.out (fun h => hc (by have := h.1; rw [g0] at this; injection this)))
        clear g0 g1 hc hno
        go_wp2
        go_round
        case rel => exact ⟨I + 1, rfl, by go_num, by omega, HN⟩
        case measure => simp [intOf]; omega
    · have hge : ¬ (I : Int) + 1 < s.size := by omega
      have HR : Hid (sixD L = (alls hexw (spl 58 L)).map fun g => (g, -1)) := Lib.hid (by
        unfold sixD
        rw [cut2_none (fun j hj => hno.out j (by have := HL.out; omega))])
      clear hno
      go_wp2
      have HW1 := Lib.hid ((Below.refl _ w).alloc (Nat.le_refl _) (.cells #[.string s] 9))
      have HPb := Lib.hid (Blk.new w 9 #[.string s])
      obtain ⟨W1, hW1⟩ : ∃ x, x = w.alloc (.cells #[.string s] 9) := ⟨_, rfl⟩
      obtain ⟨base, hbase⟩ : ∃ b, b = w.heap.size + 1 := ⟨_, rfl⟩
      have hbs : W1.heap.size = base := by rw [hW1, hbase]; simp
      rw [← hW1] at HW1 HPb ⊢
      have HBS := Lib.hid hbs
      have HBA := Lib.hid hbase
      clear hW1 hbs hbase
      go_loopw [8, 9, 10] (fun v a k wr => ∃ (K m : Nat) (gs : List Nat) (at_ : Int), k = .int .i64 (K : Int) ∧ a = .int .i64 at_ ∧ K ≤ 1 ∧ Hid (m ≤ K * 1000000001) ∧ Hid (wr.ownsRow base 3 1 v m ((gs.map Int.ofNat).map (Value.int .i64)) ∧ Below base W1 wr ∧ InvN (alls hexw (spl 58 L)) K gs at_)) (fun _ _ k _ => (1 - (intOf k).toNat))
      case atStart => exact ⟨0, 0, [], -1, rfl, rfl, by omega, Lib.hid (by omega), Lib.hid ⟨⟨by simp, .inl ⟨rfl, rfl⟩⟩, by rw [← HBS.out]; exact Below.refl _ _, rfl, .inl ⟨rfl, rfl⟩⟩⟩
      case round =>
        obtain ⟨K, m, gs, at_, rfl, rfl, hK, HM, hH⟩ := hrel
        rcases (show K = 0 ∨ K = 1 by omega) with rfl | rfl
        · obtain ⟨rfl, hv⟩ := hH.out.2.2
          have hg0 : gs = [] := by rcases hv with ⟨_, h⟩ | ⟨h, _⟩; exact h; cases h
          have HG0 := Lib.hid hg0
          clear hv hg0
          have B0 := HPb.out.below hH.out.2.1 (by rw [HBA.out]; omega)
          have d0 : wr.cell? ⟨w.heap.size, 0, none⟩ = some (.string s) := by rw [B0.cell]; rfl
          clear B0
          have HNone : Hid (alls hexw (spl 58 L) = none → sixD L = none) := Lib.hid (fun h => by rw [HR.out, h]; rfl)
          have HSome : Hid (∀ hs, alls hexw (spl 58 L) = some hs → InvN (alls hexw (spl 58 L)) 1 (gs ++ hs) (-1)) := Lib.hid (fun hs h => ⟨rfl, .inr ⟨rfl, by rw [h, HG0.out]; rfl⟩⟩)
          have te : ∃ b, s.toList.isEmpty = b := ⟨_, rfl⟩
          obtain ⟨b, te⟩ := te
          cases b
          all_goals
            have HSp := Lib.hid (fun W => rsplit_any s hs 58 58 rfl W)
            rw [HsL.out] at HSp
            obtain ⟨P, hP⟩ : ∃ P, spl 58 L = P := ⟨_, rfl⟩
            rw [hP] at HSp HNone HSome
            unfold SplOut at HSp
            have HPl : Hid (P.length ≤ 1000000001) := Lib.hid (by rw [← hP]; have := spl_len 58 L; have := HL.out; omega)
            obtain ⟨n, hn⟩ : ∃ n, P.length = n := ⟨_, rfl⟩
            rw [hn] at HPl
            simp only [hn] at HSp
            have HN := Lib.hid hn
            have HPq := Lib.hid hP
            clear hP hn
            go_wp2_with fail
            refine Calls.mono (HSp.out _) ?_
            rintro e w2 ⟨A, c, rfl, hti, hge, hb⟩
            have HTI := Lib.hid hti
            have HGE := Lib.hid hge
            have HB2 := Lib.hid hb
            obtain ⟨wo, hwo⟩ : ∃ x, x = wr := ⟨_, rfl⟩
            subst hwo
            have HO := Lib.hid hH.out.1
            have HBo := Lib.hid hH.out.2.1
            clear hti hge hb HSp
            go_wp2
            go_loopw [8, 12] (fun v i w3 => ∃ (j m' : Nat) (hs : List Nat), i = .int .i64 (j : Int) ∧ j ≤ n ∧ m' = m + j ∧ Hid (w3.ownsRow base 3 1 v m' (((gs ++ hs).map Int.ofNat).map (Value.int .i64)) ∧ (∀ k, v.ownBlock = some k → k < wo.heap.size ∨ w2.heap.size ≤ k) ∧ TI w3 w2.heap.size A n P ∧ w2.heap.size ≤ w3.heap.size ∧ Below base W1 w3 ∧ alls hexw (P.take j) = some hs)) (fun _ i _ => (n - (intOf i).toNat))
            case atStart => exact ⟨0, m, [], rfl, Nat.zero_le _, rfl, Lib.hid ⟨by rw [List.append_nil]; exact own_below1 HO.out HB2.out, fun k hk => .inl (own_lt HO.out k hk), HTI.out, Nat.le_refl _, HBo.out.trans (HB2.out.mono (by rw [← HBS.out]; exact HBo.out.size)), rfl⟩⟩
            case round =>
              obtain ⟨j, m', hs, rfl, hj, rfl, hI⟩ := hrel
              by_cases hlt : j < n
              · have hlt' : (j : Int) < n := by omega
                have hgt : P[j]? = some (P[j]'(by rw [HN.out]; exact hlt)) := List.getElem?_eq_getElem _
                obtain ⟨X, hX⟩ : ∃ X, P[j]'(by rw [HN.out]; exact hlt) = X := ⟨_, rfl⟩
                rw [hX] at hgt
                obtain ⟨g, o, hA, hgb, hcell⟩ := hI.out.2.2.1.2 (by omega)
                have d1 := hcell j _ hgt
                obtain ⟨q, hq⟩ : ∃ q : ByteArray, (⟨X.toArray⟩ : ByteArray) = q := ⟨_, rfl⟩
                rw [hq] at d1
                have HGr := Lib.hid (fun W => rgroup_any q W)
                have eq_ : q.data.toList = X := by rw [← hq]
                rw [eq_] at HGr
                have HGT := Lib.hid hgt
                subst hA
                clear hX hq eq_ hgt hgb hcell
                have hw1 : IntKind.i64.wrap ((j : Int) + 1) = (j : Int) + 1 := by rw [IntKind.wrap_i64]; have := HPl.out; omega
                cases hx : hexw X with
                | none =>
                  have HNO := Lib.hid (HNone.out (alls_no (List.mem_of_getElem? HGT.out) hx))
                  rw [show grpN X = -1 by unfold grpN; rw [hx]] at HGr
                  clear hx
                  go_wp2_with fail
                  refine Calls.mono (HGr.out _) ?_
                  rintro e w4 ⟨rfl, rfl⟩
                  go_wp2
                  exact bodyPost_ret (v := .tuple #[.slice none 0 0, .int .i64 0, .bool false]) (by simp [results, Tryz.results40, go_sem]) rfl (by unfold SixOut; rw [HNO.out]; exact ⟨rfl, HW1.out.trans (hI.out.2.2.2.2.1.mono (by rw [← HBS.out]; exact HW1.out.size))⟩)
                | some y =>
                  have hy : y < 65536 := hexw_lt hx
                  have HX : Hid (alls hexw (P.take (j + 1)) = some (hs ++ [y])) := Lib.hid (by rw [List.take_add_one, HGT.out]; exact alls_snoc hI.out.2.2.2.2.2 hx)
                  rw [show grpN X = (y : Int) by unfold grpN; rw [hx]] at HGr
                  obtain ⟨Y, hY⟩ : ∃ Y : Int, (y : Int) = Y := ⟨_, rfl⟩
                  rw [hY] at HGr
                  have hy0 : decide (Y < 0) = false := by rw [decide_eq_false_iff_not]; omega
                  have HY := Lib.hid hY
                  have HF : Hid (∀ z ∈ [Y], (Lit.int .i64 z).wf = true) := Lib.hid (fun z hz => by
                    rw [List.mem_singleton] at hz; subst hz
                    simp [Lit.wf, IntKind.min, IntKind.max, IntKind.bits, IntKind.signed]; omega)
                  clear hx hy hY
                  go_wp2_with fail
                  refine Calls.mono (HGr.out _) ?_
                  rintro e w4 ⟨rfl, rfl⟩
                  go_wp2_with (at_builtin; refine wpList_appk .i64 66 3 8 Tryz.underlying66 infoInt _ rfl (.tmp 82) (.tmp 84) rfl base u8 (m + j) ((gs ++ hs).map Int.ofNat) rfl (hI.out.1.alloc _) (wr.heap.size + 1) (some ⟨wr.heap.size, 0, none⟩) 1 1 [Y] rfl (fun h => by cases h) (Blk.readsk (zs := [Y]) (Blk.new _ _ _) HF.out (Nat.lt_succ_self _)) (by have := HPl.out; have := HM.out; omega) (by have := HPl.out; have := HM.out; omega) (by have := hI.out.2.2.2.2.1.size; have := HBS.out; simp only [World.size_alloc]; omega) ?_; intro v2 w5 hown2 hg2 hat2; have HO2 := Lib.hid hown2; have HG2 := Lib.hid hg2; have HA2 := Lib.hid hat2; clear hown2 hg2 hat2)
                  go_roundw
                  case rel =>
                    refine ⟨j + 1, m + j + 1, hs ++ [y], by go_num, by omega, by omega, Lib.hid ⟨?_, ?_, ?_, ?_, ?_, HX.out⟩⟩
                    · have h := HO2.out
                      rw [← List.append_assoc, List.map_append (l₁ := gs ++ hs)]
                      rw [← HY.out] at h
                      exact h
                    · intro k hk
                      rcases HA2.out with h1 | h1
                      · rw [h1] at hk; exact hI.out.2.1 k hk
                      · rw [h1] at hk; injection hk with hk; have := hI.out.2.2.2.1; simp only [World.size_alloc] at hk; omega
                    · exact (hI.out.2.2.1.alloc hI.out.2.2.2.1 _).grown HGE.out (by have := hI.out.2.2.2.1; simp only [World.size_alloc]; omega) HG2.out hI.out.2.1
                    · have := hI.out.2.2.2.1; have := HG2.out.size; simp only [World.size_alloc] at this; omega
                    · exact (hI.out.2.2.2.2.1.alloc (by rw [← HBS.out]; exact hI.out.2.2.2.2.1.size) _).grown HG2.out (by have := hI.out.2.2.2.2.1.size; have := HBS.out; simp only [World.size_alloc]; omega) (own_basek hI.out.1)
                  case measure => simp [intOf]; omega
              · obtain rfl : j = n := by omega
                have hge' : ¬ (j : Int) < j := by omega
                have HFull := hI.out.2.2.2.2.2
                rw [List.take_of_length_le (by rw [HN.out]; exact Nat.le_refl _)] at HFull
                have HS2 := Lib.hid (HSome.out hs HFull)
                clear HFull
                go_wp2
                go_roundw
                case rel => exact ⟨1, m + j, gs ++ hs, _, by go_num, rfl, by omega, Lib.hid (by have := HM.out; have := HPl.out; omega), Lib.hid ⟨hI.out.1, hI.out.2.2.2.2.1, by have h := HS2.out; first | exact h | (rw [← HPq.out] at h; exact h)⟩⟩
                case measure => simp [intOf] <;> omega

        · obtain ⟨rfl, hv⟩ := hH.out.2.2
          have hg1 : alls hexw (spl 58 L) = some gs := by rcases hv with ⟨h, _⟩ | ⟨_, h⟩; cases h; exact h
          have HRS : Hid (sixD L = some (gs, -1)) := Lib.hid (by rw [HR.out, hg1]; rfl)
          obtain ⟨A2, c2, he, q1, q2, q3, -⟩ := own_ri (k := .i64) (zs := gs.map Int.ofNat) (wf_hex hg1) hH.out.1
          have hgl : gs.length = m := by have := hH.out.1.1; simpa using this
          have HH := Lib.hid hH.out.2.1
          obtain ⟨a0, c0, rfl⟩ := own_form1 hH.out.1
          cases he
          have HQ := Lib.hid (And.intro q1 (And.intro q2 q3))
          subst hgl
          clear hv hg1 q1 q2 q3 hH
          go_wp2
          exact bodyPost_ret (v := .tuple #[.slice A2 gs.length c2, .int .i64 (-1), .bool true]) (by simp [results, Tryz.results40, go_sem]) rfl (by unfold SixOut; rw [HRS.out]; exact ⟨A2, c2, rfl, HQ.out.1, HQ.out.2.1, fun x hx => by have := HQ.out.2.2 x hx; have := HBA.out; omega, HW1.out.trans (HH.out.mono (by rw [← HBS.out]; exact HW1.out.size))⟩)
end Go.Proofs.YtbpdnohcgojmbaaGreatDoor
