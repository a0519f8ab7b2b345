/-
  addr.parseGroups of any text.
-/
import Derived.Test.YtbpdnohcgojmbaaGreatDoorFourP
import Derived.Test.YtbpdnohcgojmbaaGreatDoorGroups
namespace Go.Proofs.YtbpdnohcgojmbaaGreatDoor
open Go.RowKit
set_option linter.unusedVariables false

theorem Blk.c8 {w : World} {g : Nat} {t : TypeId} {a0 a1 a2 a3 a4 a5 a6 a7 : Value} (h : Blk w g t #[a0, a1, a2, a3, a4, a5, a6, a7]) :
    w.cell? ⟨g, 0, none⟩ = some a0 ∧ w.cell? ⟨g, 1, none⟩ = some a1 ∧ w.cell? ⟨g, 2, none⟩ = some a2 ∧ w.cell? ⟨g, 3, none⟩ = some a3 ∧ w.cell? ⟨g, 4, none⟩ = some a4 ∧ w.cell? ⟨g, 5, none⟩ = some a5 ∧ w.cell? ⟨g, 6, none⟩ = some a6 ∧ w.cell? ⟨g, 7, none⟩ = some a7 :=
  ⟨by rw [h.cell]; rfl, by rw [h.cell]; rfl, by rw [h.cell]; rfl, by rw [h.cell]; rfl, by rw [h.cell]; rfl, by rw [h.cell]; rfl, by rw [h.cell]; rfl, by rw [h.cell]; rfl⟩
theorem Blk.f8 {w : World} {g : Nat} {t : TypeId} {cs : Array Value} (h : Blk w g t cs) :
    w.frozen? ⟨g, 0, none⟩ = false ∧ w.frozen? ⟨g, 1, none⟩ = false ∧ w.frozen? ⟨g, 2, none⟩ = false ∧ w.frozen? ⟨g, 3, none⟩ = false ∧ w.frozen? ⟨g, 4, none⟩ = false ∧ w.frozen? ⟨g, 5, none⟩ = false ∧ w.frozen? ⟨g, 6, none⟩ = false ∧ w.frozen? ⟨g, 7, none⟩ = false :=
  ⟨h.frozen 0, h.frozen 1, h.frozen 2, h.frozen 3, h.frozen 4, h.frozen 5, h.frozen 6, h.frozen 7⟩
theorem Below.set8 {B : Nat} {a w : World} (h : Below B a w) {g : Nat} (hg : B ≤ g) (v0 v1 v2 v3 v4 v5 v6 v7 : Value) :
    Below B a ((((((((w.setCell ⟨g, 0, none⟩ v0).setCell ⟨g, 1, none⟩ v1).setCell ⟨g, 2, none⟩ v2).setCell ⟨g, 3, none⟩ v3).setCell ⟨g, 4, none⟩ v4).setCell ⟨g, 5, none⟩ v5).setCell ⟨g, 6, none⟩ v6).setCell ⟨g, 7, none⟩ v7) :=
  (((((((h.setCell (p := ⟨g, 0, none⟩) hg v0).setCell (p := ⟨g, 1, none⟩) hg v1).setCell (p := ⟨g, 2, none⟩) hg v2).setCell (p := ⟨g, 3, none⟩) hg v3).setCell (p := ⟨g, 4, none⟩) hg v4).setCell (p := ⟨g, 5, none⟩) hg v5).setCell (p := ⟨g, 6, none⟩) hg v6).setCell (p := ⟨g, 7, none⟩) hg v7

/-- Groups, and noughts behind them up to eight. -/
def pad (vs : List Nat) : List Int := vs.map Int.ofNat ++ List.replicate (8 - vs.length) 0
theorem pad_len {vs : List Nat} (h : vs.length ≤ 8) : (pad vs).length = 8 := by simp [pad]; omega
/-- Eight groups as a value. -/
def gval (zs : List Int) : Value := .agg ((zs.map (Value.int .u16)).toArray)
/-- What groups are read as. -/
def grpV : Option (List Nat) → Value
  | some vs => .tuple #[gval (pad vs), .int .i64 vs.length, .bool true]
  | none => .tuple #[gval (pad []), .int .i64 0, .bool false]
theorem list8 {zs : List Int} (h : zs.length = 8) : ∃ a0 a1 a2 a3 a4 a5 a6 a7, zs = [a0, a1, a2, a3, a4, a5, a6, a7] := by
  match zs, h with
  | [a0, a1, a2, a3, a4, a5, a6, a7], _ => exact ⟨a0, a1, a2, a3, a4, a5, a6, a7, rfl⟩
theorem grp_put (ws : List Nat) (v : Nat) (h : ws.length < 8) :
    (((pad ws).map (Value.int .u16)).toArray).setIfInBounds ws.length (.int .u16 (v : Int)) = (((pad (ws ++ [v])).map (Value.int .u16)).toArray) := by
  unfold pad
  have e : 8 - ws.length = (8 - (ws ++ [v]).length) + 1 := by simp; omega
  rw [e, List.replicate_succ]
  simp
/-- One part more: what is cut off, and what it comes to. -/
theorem grp_step (ws : List Nat) (r : ByteArray) (hws : ws.length < 8) : ∃ (wd rest : ByteArray) (more : Bool), wd.size ≤ r.size ∧ rest.size ≤ r.size ∧
    (∀ w, Env w → r.size < 4294967281 → Calls Tryz.prog 18 #[.string r, .string ⟨#[58]⟩] w fun e w' => e = .returned (.tuple #[.string wd, .string rest, .bool more]) ∧ Below w.heap.size w w') ∧
    (hexw wd.data.toList = none → grpFrom ws r.data.toList = none) ∧
    (∀ v, hexw wd.data.toList = some v → if more = true then grpFrom ws r.data.toList = grpFrom (ws ++ [v]) rest.data.toList else grpFrom ws r.data.toList = some (ws ++ [v])) := by
  rcases cut_spl 58 r.data.toList with ⟨hc, hsp⟩ | ⟨a, b, hc, hsp, hlen, -, -⟩
  · have hf := grpFrom_last (ws := ws) hsp
    exact ⟨r, ⟨#[]⟩, false, Nat.le_refl _, Nat.zero_le _, fun w hE hs => cut_no r 58 w hE hs hc, fun h => by rw [hf, h], fun v hv => by rw [if_neg (by decide), hf, hv]; simp [hws]⟩
  · have hf := grpFrom_next (ws := ws) hsp
    have e1 : (⟨a.toArray⟩ : ByteArray).data.toList = a := by simp
    have e2 : (⟨b.toArray⟩ : ByteArray).data.toList = b := by simp
    have hl : r.size = a.length + 1 + b.length := by rw [Lib.size_eq]; exact hlen
    exact ⟨⟨a.toArray⟩, ⟨b.toArray⟩, true, by rw [Lib.size_eq, e1]; omega, by rw [Lib.size_eq, e2]; omega, fun w hE hs => cut_at r 58 a b w hE hs hc, fun h => by rw [hf]; rw [e1] at h; rw [h], fun v hv => by rw [e1] at hv; rw [if_pos rfl, hf, hv, e2]⟩

set_option maxHeartbeats 4000000 in
theorem grps_any (s : ByteArray) (hs : s.size < 4294967281) (w : World) (hE : Env w) :
    Calls Tryz.prog 56 #[.string s] w fun e w' => e = .returned (grpV (grps s.data.toList)) ∧ Below w.heap.size w w' := by
  obtain ⟨V, hV⟩ : ∃ V, grpV (grps s.data.toList) = V := ⟨_, rfl⟩
  rw [hV]
  have HV := Lib.hid hV
  clear hV
  obtain ⟨mo, hemp, hst⟩ : ∃ mo : Bool, s.toList.isEmpty = !mo ∧ (if mo = true then grps s.data.toList = grpFrom [] s.data.toList else grps s.data.toList = some []) := by
    rw [Lib.toList_data]
    by_cases h : s.data.toList = []
    · exact ⟨false, by rw [h]; rfl, by rw [if_neg (by decide), h]; rfl⟩
    · exact ⟨true, List.isEmpty_eq_false_iff.2 h, by rw [if_pos rfl]; unfold grps; rw [if_neg h]⟩
  have HST := Lib.hid hst
  clear hst
  go_enter Tryz.func56, Tryz.ntmps56
  go_wp2
  have hmo : (!(!mo)) = mo := by cases mo <;> rfl
  go_loopw [0, 6, 7] (fun x i m wr => ∃ (ws : List Nat) (r : ByteArray) (more : Bool), ws.length ≤ 8 ∧ x = .string r ∧ i = .int .i64 (ws.length : Int) ∧ m = .bool more ∧ Hid (r.size ≤ s.size ∧ (if more = true then grps s.data.toList = grpFrom ws r.data.toList else grps s.data.toList = some ws)) ∧
      Blk wr w.heap.size 75 #[.int .u16 0, .int .u16 0, .int .u16 0, .int .u16 0, .int .u16 0, .int .u16 0, .int .u16 0, .int .u16 0] ∧ Blk wr (w.heap.size + 1) 75 (((pad ws).map (Value.int .u16)).toArray) ∧ Below w.heap.size w wr) (fun _ i _ _ => 9 - (intOf i).toNat)
  case atStart =>
    refine ⟨[], s, mo, by decide, rfl, rfl, by first | rfl | (cases mo <;> rfl), ⟨Nat.le_refl _, HST.out⟩, (Blk.new w _ _).alloc _, ?_, ((Below.refl _ _).alloc (Nat.le_refl _) _).alloc (by simp) _⟩
    have h := Blk.new (w.alloc (.cells #[.int .u16 0, .int .u16 0, .int .u16 0, .int .u16 0, .int .u16 0, .int .u16 0, .int .u16 0, .int .u16 0] 75)) 75 #[.int .u16 0, .int .u16 0, .int .u16 0, .int .u16 0, .int .u16 0, .int .u16 0, .int .u16 0, .int .u16 0]
    rw [World.size_alloc] at h
    exact h
  case round =>
    obtain ⟨ws, r, more, hk, rfl, rfl, rfl, hh, hb0, hb1, hbel⟩ := hrel
    have HB0 := Lib.hid hb0
    have HB1 := Lib.hid hb1
    have HBl := Lib.hid hbel
    have hEw := hE.below hbel
    clear hb0 hb1 hbel hemp hmo HST
    obtain ⟨hr, hgr⟩ := hh.out
    clear hh
    cases more
    · rw [if_neg (by decide)] at hgr
      have HN : Hid (grpV (some ws) = V) := Lib.hid (by rw [← HV.out, hgr])
      obtain ⟨a0, a1, a2, a3, a4, a5, a6, a7, hp⟩ := list8 (pad_len hk)
      have D1 := HB1.out
      rw [hp] at D1
      obtain ⟨q0, q1, q2, q3, q4, q5, q6, q7⟩ := Blk.c8 D1
      obtain ⟨g0, g1, g2, g3, g4, g5, g6, g7⟩ := HB0.out.c8
      obtain ⟨z0, z1, z2, z3, z4, z5, z6, z7⟩ := HB0.out.f8
      have HP := Lib.hid hp
      clear hp D1 hgr hr
      go_wp2
      exact bodyPost_ret (v := .tuple #[.agg #[.int .u16 a0, .int .u16 a1, .int .u16 a2, .int .u16 a3, .int .u16 a4, .int .u16 a5, .int .u16 a6, .int .u16 a7], .int .i64 (ws.length : Int), .bool true]) (by simp [results, Tryz.results56, go_sem, g0, g1, g2, g3, g4, g5, g6, g7]) rfl ⟨by rw [← HN.out]; show _ = Ending.returned (.tuple #[.agg (((pad ws).map (Value.int .u16)).toArray), .int .i64 (ws.length : Int), .bool true]); rw [HP.out]; rfl, Below.set8 HBl.out (Nat.le_refl _) _ _ _ _ _ _ _ _⟩
    · rw [if_pos rfl] at hgr
      by_cases h8 : ws.length = 8
      · have HN : Hid (grpV none = V) := Lib.hid (by rw [← HV.out, hgr, grpFrom_many (by omega)])
        have h8' : (ws.length : Int) = 8 := by omega
        obtain ⟨g0, g1, g2, g3, g4, g5, g6, g7⟩ := HB0.out.c8
        obtain ⟨z0, z1, z2, z3, z4, z5, z6, z7⟩ := HB0.out.f8
        clear hgr hr h8
        go_wp2
        exact bodyPost_ret (v := .tuple #[.agg #[.int .u16 0, .int .u16 0, .int .u16 0, .int .u16 0, .int .u16 0, .int .u16 0, .int .u16 0, .int .u16 0], .int .i64 0, .bool false]) (by simp [results, Tryz.results56, go_sem, g0, g1, g2, g3, g4, g5, g6, g7]) rfl ⟨by rw [← HN.out]; rfl, Below.set8 HBl.out (Nat.le_refl _) _ _ _ _ _ _ _ _⟩
      · have hlt : ws.length < 8 := by omega
        have h8' : ¬ (ws.length : Int) = 8 := by omega
        obtain ⟨wd, rest, more, hwd, hrest, hcut, hno, hyes⟩ := grp_step ws r hlt
        have HC := Lib.hid (hcut wr hEw (by omega))
        have HD := Lib.hid (fun W hW => hexa_any wd (by omega) W hW)
        have HR : Hid (rest.size ≤ s.size) := Lib.hid (by omega)
        have hlt' : (ws.length : Int) < 8 := by omega
        clear hcut hr hwd hrest h8
        cases hd : hexw wd.data.toList with
        | none =>
          have HN : Hid (grpV none = V) := Lib.hid (by rw [← HV.out, hgr, hno hd])
          rw [hd] at HD
          clear hgr hno hyes hd
          go_wp2_with fail
          refine Calls.mono HC.out ?_
          rintro e w1 ⟨rfl, hb⟩
          have C0 := Lib.hid (HB0.out.below hb HB0.out.lt)
          have C1 := Lib.hid (HB1.out.below hb HB1.out.lt)
          have CB := Lib.hid (HBl.out.trans (hb.mono HBl.out.size))
          have HD1 := Lib.hid (HD.out w1 (hEw.below hb))
          clear hb
          go_wp2_with fail
          refine Calls.mono HD1.out ?_
          rintro e w2 ⟨rfl, hb⟩
          have D0 := C0.out.below hb C0.out.lt
          have D1 := C1.out.below hb C1.out.lt
          have DB := Lib.hid (CB.out.trans (hb.mono CB.out.size))
          obtain ⟨g0, g1, g2, g3, g4, g5, g6, g7⟩ := D0.c8
          obtain ⟨z0, z1, z2, z3, z4, z5, z6, z7⟩ := D0.f8
          have HD0 := Lib.hid D0
          have HDD := Lib.hid D1
          clear hb D0
          clear D1
          go_wp2
          exact bodyPost_ret (v := .tuple #[.agg #[.int .u16 0, .int .u16 0, .int .u16 0, .int .u16 0, .int .u16 0, .int .u16 0, .int .u16 0, .int .u16 0], .int .i64 0, .bool false]) (by simp [results, Tryz.results56, go_sem, g0, g1, g2, g3, g4, g5, g6, g7]) rfl ⟨by rw [← HN.out]; rfl, Below.set8 DB.out (Nat.le_refl _) _ _ _ _ _ _ _ _⟩
        | some v =>
          have hy := hyes v hd
          have hv := hexw_lt hd
          rw [hd] at HD
          have HN : Hid (if more = true then grps s.data.toList = grpFrom (ws ++ [v]) rest.data.toList else grps s.data.toList = some (ws ++ [v])) := Lib.hid (by rw [hgr]; exact hy)
          clear hgr hno hyes hd hy hv
          go_wp2_with fail
          refine Calls.mono HC.out ?_
          rintro e w1 ⟨rfl, hb⟩
          have C0 := Lib.hid (HB0.out.below hb HB0.out.lt)
          have C1 := Lib.hid (HB1.out.below hb HB1.out.lt)
          have CB := Lib.hid (HBl.out.trans (hb.mono HBl.out.size))
          have HD1 := Lib.hid (HD.out w1 (hEw.below hb))
          clear hb
          go_wp2_with fail
          refine Calls.mono HD1.out ?_
          rintro e w2 ⟨rfl, hb⟩
          have D0 := C0.out.below hb C0.out.lt
          have D1 := C1.out.below hb C1.out.lt
          have DB := Lib.hid (CB.out.trans (hb.mono CB.out.size))
          obtain ⟨g0, g1, g2, g3, g4, g5, g6, g7⟩ := D0.c8
          obtain ⟨z0, z1, z2, z3, z4, z5, z6, z7⟩ := D0.f8
          have HD0 := Lib.hid D0
          have HDD := Lib.hid D1
          clear hb D0
          have hlen : ws.length < ((pad ws).map (Value.int .u16)).length := by rw [List.length_map, pad_len hk]; exact hlt
          obtain ⟨u, hu⟩ : ∃ u, w2.cell? ⟨w.heap.size + 1, ws.length, none⟩ = some u := ⟨_, (D1.cell _).trans (by rw [List.getElem?_toArray, List.getElem?_eq_getElem hlen])⟩
          have hfz := D1.frozen ws.length
          clear D1 hlen
          go_wp2
          go_roundw
          case rel =>
            refine ⟨ws ++ [v], rest, more, by simp; omega, by rfl, by simp, by rfl, ⟨HR.out, HN.out⟩, HD0.out.far (by simp) _, ?_, DB.out.setCell (p := ⟨_, _, _⟩) (by simp) _⟩
            have h := HDD.out.set_ ws.length (.int .u16 (v : Int))
            rw [grp_put ws v hlt] at h
            exact h
          case measure => simp [intOf]; omega
end Go.Proofs.YtbpdnohcgojmbaaGreatDoor
