/-
  addr.parseFour of any text.
-/
import Derived.Test.YtbpdnohcgojmbaaGreatDoorFour
namespace Go.Proofs.YtbpdnohcgojmbaaGreatDoor
open Go.RowKit
set_option linter.unusedVariables false

/-- strings.Cut at a mark of one byte, or of two. -/
theorem cut_any (s sep : ByteArray) (w : World) (hE : Env w) (hs : s.size < 4294967281) :
    Calls Tryz.prog 18 #[.string s, .string sep] w fun e w' => e = .returned (.tuple #[.string ⟨(Lib.cut s.data.toList sep.data.toList).1.toArray⟩, .string ⟨(Lib.cut s.data.toList sep.data.toList).2.1.toArray⟩, .bool (Lib.cut s.data.toList sep.data.toList).2.2]) ∧ Below w.heap.size w w' := by
  obtain ⟨m, hm⟩ := hE.1
  refine (Tryz.strings_Cut s sep m w hs hm).mono ?_
  rintro e w' ⟨rfl, n, rfl⟩
  exact ⟨rfl, below_drewN (Below.refl _ _) n⟩
theorem cut_no (s : ByteArray) (c : UInt8) (w : World) (hE : Env w) (hs : s.size < 4294967281) (h : Lib.cut s.data.toList [c] = (s.data.toList, [], false)) :
    Calls Tryz.prog 18 #[.string s, .string ⟨#[c]⟩] w fun e w' => e = .returned (.tuple #[.string s, .string ⟨#[]⟩, .bool false]) ∧ Below w.heap.size w w' := by
  have H := cut_any s ⟨#[c]⟩ w hE hs
  rw [show (⟨#[c]⟩ : ByteArray).data.toList = [c] from rfl, h] at H
  simpa using H
theorem cut_at (s : ByteArray) (c : UInt8) (a b : List UInt8) (w : World) (hE : Env w) (hs : s.size < 4294967281) (h : Lib.cut s.data.toList [c] = (a, b, true)) :
    Calls Tryz.prog 18 #[.string s, .string ⟨#[c]⟩] w fun e w' => e = .returned (.tuple #[.string ⟨a.toArray⟩, .string ⟨b.toArray⟩, .bool true]) ∧ Below w.heap.size w w' := by
  have H := cut_any s ⟨#[c]⟩ w hE hs
  rw [show (⟨#[c]⟩ : ByteArray).data.toList = [c] from rfl, h] at H
  exact H

/-- What four numbers are read as. -/
def fourV : Option (List Nat) → Value
  | some vs => .tuple #[adr false 0 (numOf (vs.map Int.ofNat)), .int .i64 0]
  | none => .tuple #[adr false 0 0, .int .i64 20]

theorem four_put (ws : List Nat) (v : Nat) (h : ws.length < 4) :
    ((((ws.map Int.ofNat) ++ List.replicate (4 - ws.length) 0).map (Value.int .u8)).toArray).setIfInBounds ws.length (.int .u8 (v : Int)) = ((((ws ++ [v]).map Int.ofNat) ++ List.replicate (4 - (ws ++ [v]).length) 0).map (Value.int .u8)).toArray := by
  have e : 4 - ws.length = (4 - (ws ++ [v]).length) + 1 := by simp; omega
  rw [e, List.replicate_succ]
  simp

/-- One part more: what is cut off, and what it comes to. -/
theorem four_step (ws : List Nat) (r : ByteArray) (hws : ws.length < 4) : ∃ (wd rest : ByteArray) (more : Bool), wd.size ≤ r.size ∧ rest.size ≤ r.size ∧
    (∀ w, Env w → r.size < 4294967281 → Calls Tryz.prog 18 #[.string r, .string ⟨#[46]⟩] w fun e w' => e = .returned (.tuple #[.string wd, .string rest, .bool more]) ∧ Below w.heap.size w w') ∧
    (decw wd.data.toList = none → fourFrom ws r.data.toList = none) ∧
    (∀ v, decw wd.data.toList = some v → (more = decide (ws.length = 3) → fourFrom ws r.data.toList = none) ∧ (more ≠ decide (ws.length = 3) → if ws.length = 3 then fourFrom ws r.data.toList = some (ws ++ [v]) else fourFrom ws r.data.toList = fourFrom (ws ++ [v]) rest.data.toList)) := by
  rcases cut_spl 46 r.data.toList with ⟨hc, hsp⟩ | ⟨a, b, hc, hsp, hlen, -, -⟩
  · have hf := fourFrom_last (ws := ws) hsp
    refine ⟨r, ⟨#[]⟩, false, Nat.le_refl _, Nat.zero_le _, fun w hE hs => cut_no r 46 w hE hs hc, fun h => by rw [hf, h], fun v hv => ⟨fun h => ?_, fun h => ?_⟩⟩
    · rw [hf, hv]; simp at h; simp [h]
    · simp at h; rw [if_pos h, hf, hv]; simp [h]
  · have hf := fourFrom_next (ws := ws) hsp
    have e1 : (⟨a.toArray⟩ : ByteArray).data.toList = a := by simp
    have e2 : (⟨b.toArray⟩ : ByteArray).data.toList = b := by simp
    have hl : r.size = a.length + 1 + b.length := by rw [Lib.size_eq]; exact hlen
    refine ⟨⟨a.toArray⟩, ⟨b.toArray⟩, true, by rw [Lib.size_eq, e1]; omega, by rw [Lib.size_eq, e2]; omega, fun w hE hs => cut_at r 46 a b w hE hs hc, fun h => by rw [hf]; rw [e1] at h; rw [h], fun v hv => ⟨fun h => ?_, fun h => ?_⟩⟩
    · rw [e1] at hv; rw [hf, hv]; simp at h; exact fourFrom_many (by simp; omega)
    · rw [e1] at hv; simp at h; rw [if_neg h, hf, hv, e2]

set_option maxHeartbeats 4000000 in
theorem four_any (s : ByteArray) (hs : s.size < 4294967281) (w : World) (hE : Env w) :
    Calls Tryz.prog 36 #[.string s] w fun e w' => e = .returned (fourV (four s.data.toList)) ∧ Below w.heap.size w w' := by
  obtain ⟨V, hV⟩ : ∃ V, fourV (four s.data.toList) = V := ⟨_, rfl⟩
  rw [hV]
  have HV := Lib.hid hV
  clear hV
  go_enter Tryz.func36, Tryz.ntmps36
  go_wp2
  go_loopw [0, 12] (fun x i wr => ∃ (ws : List Nat) (r : ByteArray), ws.length ≤ 4 ∧ x = .string r ∧ i = .int .i64 (ws.length : Int) ∧ Hid (r.size ≤ s.size ∧ (if ws.length = 4 then four s.data.toList = some ws else four s.data.toList = fourFrom ws r.data.toList) ∧ (∀ v ∈ ws, v ≤ 255)) ∧
      Blk wr w.heap.size 24 #[.bool false, .int .u64 0, .int .u64 0] ∧ Blk wr (w.heap.size + 1) 89 ((((ws.map Int.ofNat) ++ List.replicate (4 - ws.length) 0).map (Value.int .u8)).toArray) ∧ Below w.heap.size w wr) (fun _ i _ => 4 - (intOf i).toNat)
  case atStart =>
    refine ⟨[], s, by decide, rfl, rfl, ⟨Nat.le_refl _, rfl, fun v hv => by cases hv⟩, (Blk.new w _ _).alloc _, ?_, ((Below.refl _ _).alloc (Nat.le_refl _) _).alloc (by simp) _⟩
    have h := Blk.new (w.alloc (.cells #[.bool false, .int .u64 0, .int .u64 0] 24)) 89 #[.int .u8 0, .int .u8 0, .int .u8 0, .int .u8 0]
    rw [World.size_alloc] at h
    exact h
  case round =>
    obtain ⟨ws, r, hk, rfl, rfl, hh, hb0, hb1, hbel⟩ := hrel
    have HB0 := Lib.hid hb0
    have HB1 := Lib.hid hb1
    have HBl := Lib.hid hbel
    have hEw := hE.below hbel
    clear hb0 hb1 hbel
    by_cases hlt : ws.length < 4
    · obtain ⟨hr, hfour, hle⟩ := hh.out
      rw [if_neg (by omega)] at hfour
      have HLE := Lib.hid hle
      obtain ⟨wd, rest, more, hwd, hrest, hcut, hno, hyes⟩ := four_step ws r hlt
      have HC := Lib.hid (hcut wr hEw (by omega))
      have HD := Lib.hid (fun W hW => dec_any wd (by omega) W hW)
      have HR : Hid (rest.size ≤ s.size) := Lib.hid (by omega)
      have hlt' : (ws.length : Int) < 4 := by omega
      clear hh hle hcut hr hwd hrest
      cases hd : decw wd.data.toList with
      | none =>
        have HN : Hid (fourV none = V) := Lib.hid (by rw [← HV.out, hfour, hno hd])
        rw [hd] at HD
        clear hfour hno hyes hd hlt
        go_wp2_with fail
        refine Calls.mono HC.out ?_
        rintro e w1 ⟨rfl, hb⟩
        have C0 := Lib.hid (HB0.out.below hb HB0.out.lt)
        have C1 := Lib.hid (HB1.out.below hb HB1.out.lt)
        have CB := Lib.hid (HBl.out.trans (hb.mono HBl.out.size))
        have HD1 := Lib.hid (HD.out w1 (hEw.below hb))
        clear hb
        go_wp2_with fail
        refine Calls.mono HD1.out ?_
        rintro e w2 ⟨⟨x, rfl⟩, hb⟩
        have D0 := C0.out.below hb C0.out.lt
        have D1 := C1.out.below hb C1.out.lt
        have DB := Lib.hid (CB.out.trans (hb.mono CB.out.size))
        obtain ⟨g1, g2, g3⟩ := D0.c3
        have z1 := D0.frozen 0
        have z2 := D0.frozen 1
        have z3 := D0.frozen 2
        have HD0 := Lib.hid D0
        have HDD := Lib.hid D1
        clear hb D0
        clear D1
        go_wp2
        exact bodyPost_ret (v := .tuple #[adr false 0 0, .int .i64 20]) (by simp [results, Tryz.results36, go_sem, g1, g2, g3]) rfl ⟨by rw [← HN.out]; rfl, ((DB.out.setCell (p := ⟨_, _, _⟩) (Nat.le_refl _) _).setCell (p := ⟨_, _, _⟩) (Nat.le_refl _) _).setCell (p := ⟨_, _, _⟩) (Nat.le_refl _) _⟩
      | some v =>
        obtain ⟨hy1, hy2⟩ := hyes v hd
        rw [hd] at HD
        have hv := decw_le hd
        clear hno hyes hd
        cases more
        · by_cases hk3 : ws.length = 3
          · skip
            have hq : ((ws.length : Int) == 3) = true := by simp; omega
            have h2 := hy2 (by simp [hk3])
            clear hy1 hy2
            have HN : Hid (if (ws ++ [v]).length = 4 then four s.data.toList = some (ws ++ [v]) else four s.data.toList = fourFrom (ws ++ [v]) rest.data.toList) := Lib.hid (by
              rw [hfour]
              by_cases e : ws.length = 3
              · rw [if_pos e] at h2; rw [if_pos (by simp; omega)]; exact h2
              · rw [if_neg e] at h2; rw [if_neg (by simp; omega)]; exact h2)
            have HVE : Hid (∀ u ∈ ws ++ [v], u ≤ 255) := Lib.hid (fun u hu => by rcases List.mem_append.1 hu with h | h; exact HLE.out u h; rw [List.mem_singleton] at h; omega)
            clear hfour h2 hk3 hv
            go_wp2_with fail
            refine Calls.mono HC.out ?_
            rintro e w1 ⟨rfl, hb⟩
            have C0 := Lib.hid (HB0.out.below hb HB0.out.lt)
            have C1 := Lib.hid (HB1.out.below hb HB1.out.lt)
            have CB := Lib.hid (HBl.out.trans (hb.mono HBl.out.size))
            have HD1 := Lib.hid (HD.out w1 (hEw.below hb))
            clear hb
            go_wp2_with fail
            refine Calls.mono HD1.out ?_
            rintro e w2 ⟨rfl, hb⟩
            have D0 := C0.out.below hb C0.out.lt
            have D1 := C1.out.below hb C1.out.lt
            have DB := Lib.hid (CB.out.trans (hb.mono CB.out.size))
            obtain ⟨g1, g2, g3⟩ := D0.c3
            have z1 := D0.frozen 0
            have z2 := D0.frozen 1
            have z3 := D0.frozen 2
            have HD0 := Lib.hid D0
            have HDD := Lib.hid D1
            clear hb D0
            have hlen : ws.length < ((((ws.map Int.ofNat) ++ List.replicate (4 - ws.length) 0).map (Value.int .u8))).length := by simp; omega
            obtain ⟨u, hu⟩ : ∃ u, w2.cell? ⟨w.heap.size + 1, ws.length, none⟩ = some u := ⟨_, (D1.cell _).trans (by rw [List.getElem?_toArray, List.getElem?_eq_getElem hlen])⟩
            have hfz := D1.frozen ws.length
            clear D1 hlen
            go_wp2
            go_roundw
            case rel =>
              refine ⟨ws ++ [v], rest, by simp; omega, by rfl, by simp, ⟨HR.out, HN.out, HVE.out⟩, HD0.out.far (by simp) _, ?_, DB.out.setCell (p := ⟨_, _, _⟩) (by simp) _⟩
              have h := HDD.out.set_ ws.length (.int .u8 (v : Int))
              rw [four_put ws v hlt] at h
              exact h
            case measure => simp [intOf]; omega
          · skip
            have hq : ((ws.length : Int) == 3) = false := by simp; omega
            have HN : Hid (fourV none = V) := Lib.hid (by rw [← HV.out, hfour, hy1 (by simp [hk3])])
            clear hfour hy1 hy2 hk3 hlt hv
            go_wp2_with fail
            refine Calls.mono HC.out ?_
            rintro e w1 ⟨rfl, hb⟩
            have C0 := Lib.hid (HB0.out.below hb HB0.out.lt)
            have C1 := Lib.hid (HB1.out.below hb HB1.out.lt)
            have CB := Lib.hid (HBl.out.trans (hb.mono HBl.out.size))
            have HD1 := Lib.hid (HD.out w1 (hEw.below hb))
            clear hb
            go_wp2_with fail
            refine Calls.mono HD1.out ?_
            rintro e w2 ⟨rfl, hb⟩
            have D0 := C0.out.below hb C0.out.lt
            have D1 := C1.out.below hb C1.out.lt
            have DB := Lib.hid (CB.out.trans (hb.mono CB.out.size))
            obtain ⟨g1, g2, g3⟩ := D0.c3
            have z1 := D0.frozen 0
            have z2 := D0.frozen 1
            have z3 := D0.frozen 2
            have HD0 := Lib.hid D0
            have HDD := Lib.hid D1
            clear hb D0
            clear D1
            go_wp2
            exact bodyPost_ret (v := .tuple #[adr false 0 0, .int .i64 20]) (by simp [results, Tryz.results36, go_sem, g1, g2, g3]) rfl ⟨by rw [← HN.out]; rfl, ((DB.out.setCell (p := ⟨_, _, _⟩) (Nat.le_refl _) _).setCell (p := ⟨_, _, _⟩) (Nat.le_refl _) _).setCell (p := ⟨_, _, _⟩) (Nat.le_refl _) _⟩
        · by_cases hk3 : ws.length = 3
          · skip
            have hq : ((ws.length : Int) == 3) = true := by simp; omega
            have HN : Hid (fourV none = V) := Lib.hid (by rw [← HV.out, hfour, hy1 (by simp [hk3])])
            clear hfour hy1 hy2 hk3 hlt hv
            go_wp2_with fail
            refine Calls.mono HC.out ?_
            rintro e w1 ⟨rfl, hb⟩
            have C0 := Lib.hid (HB0.out.below hb HB0.out.lt)
            have C1 := Lib.hid (HB1.out.below hb HB1.out.lt)
            have CB := Lib.hid (HBl.out.trans (hb.mono HBl.out.size))
            have HD1 := Lib.hid (HD.out w1 (hEw.below hb))
            clear hb
            go_wp2_with fail
            refine Calls.mono HD1.out ?_
            rintro e w2 ⟨rfl, hb⟩
            have D0 := C0.out.below hb C0.out.lt
            have D1 := C1.out.below hb C1.out.lt
            have DB := Lib.hid (CB.out.trans (hb.mono CB.out.size))
            obtain ⟨g1, g2, g3⟩ := D0.c3
            have z1 := D0.frozen 0
            have z2 := D0.frozen 1
            have z3 := D0.frozen 2
            have HD0 := Lib.hid D0
            have HDD := Lib.hid D1
            clear hb D0
            clear D1
            go_wp2
            exact bodyPost_ret (v := .tuple #[adr false 0 0, .int .i64 20]) (by simp [results, Tryz.results36, go_sem, g1, g2, g3]) rfl ⟨by rw [← HN.out]; rfl, ((DB.out.setCell (p := ⟨_, _, _⟩) (Nat.le_refl _) _).setCell (p := ⟨_, _, _⟩) (Nat.le_refl _) _).setCell (p := ⟨_, _, _⟩) (Nat.le_refl _) _⟩
          · skip
            have hq : ((ws.length : Int) == 3) = false := by simp; omega
            have h2 := hy2 (by simp [hk3])
            clear hy1 hy2
            have HN : Hid (if (ws ++ [v]).length = 4 then four s.data.toList = some (ws ++ [v]) else four s.data.toList = fourFrom (ws ++ [v]) rest.data.toList) := Lib.hid (by
              rw [hfour]
              by_cases e : ws.length = 3
              · rw [if_pos e] at h2; rw [if_pos (by simp; omega)]; exact h2
              · rw [if_neg e] at h2; rw [if_neg (by simp; omega)]; exact h2)
            have HVE : Hid (∀ u ∈ ws ++ [v], u ≤ 255) := Lib.hid (fun u hu => by rcases List.mem_append.1 hu with h | h; exact HLE.out u h; rw [List.mem_singleton] at h; omega)
            clear hfour h2 hk3 hv
            go_wp2_with fail
            refine Calls.mono HC.out ?_
            rintro e w1 ⟨rfl, hb⟩
            have C0 := Lib.hid (HB0.out.below hb HB0.out.lt)
            have C1 := Lib.hid (HB1.out.below hb HB1.out.lt)
            have CB := Lib.hid (HBl.out.trans (hb.mono HBl.out.size))
            have HD1 := Lib.hid (HD.out w1 (hEw.below hb))
            clear hb
            go_wp2_with fail
            refine Calls.mono HD1.out ?_
            rintro e w2 ⟨rfl, hb⟩
            have D0 := C0.out.below hb C0.out.lt
            have D1 := C1.out.below hb C1.out.lt
            have DB := Lib.hid (CB.out.trans (hb.mono CB.out.size))
            obtain ⟨g1, g2, g3⟩ := D0.c3
            have z1 := D0.frozen 0
            have z2 := D0.frozen 1
            have z3 := D0.frozen 2
            have HD0 := Lib.hid D0
            have HDD := Lib.hid D1
            clear hb D0
            have hlen : ws.length < ((((ws.map Int.ofNat) ++ List.replicate (4 - ws.length) 0).map (Value.int .u8))).length := by simp; omega
            obtain ⟨u, hu⟩ : ∃ u, w2.cell? ⟨w.heap.size + 1, ws.length, none⟩ = some u := ⟨_, (D1.cell _).trans (by rw [List.getElem?_toArray, List.getElem?_eq_getElem hlen])⟩
            have hfz := D1.frozen ws.length
            clear D1 hlen
            go_wp2
            go_roundw
            case rel =>
              refine ⟨ws ++ [v], rest, by simp; omega, by rfl, by simp, ⟨HR.out, HN.out, HVE.out⟩, HD0.out.far (by simp) _, ?_, DB.out.setCell (p := ⟨_, _, _⟩) (by simp) _⟩
              have h := HDD.out.set_ ws.length (.int .u8 (v : Int))
              rw [four_put ws v hlt] at h
              exact h
            case measure => simp [intOf]; omega
    · have hk4 : ws.length = 4 := by omega
      obtain ⟨hr, hfour, hle⟩ := hh.out
      rw [if_pos hk4] at hfour
      clear hh hr
      have HN : Hid (fourV (some ws) = V) := Lib.hid (by rw [← HV.out, hfour])
      have D1 := HB1.out
      rw [hk4, show List.replicate (4 - 4) (0 : Int) = [] from rfl, List.append_nil] at D1
      have hri := D1.reads (zs := ws.map Int.ofNat) (by
        intro z hz
        obtain ⟨v, hv, rfl⟩ := List.mem_map.1 hz
        have := hle v hv
        exact wf_u8 (by simp; omega)) D1.lt
      have HO := of_any wr _ _ _ 4 _ hri (Nat.le_refl _) (by simp; omega) (by decide)
      rw [show (ws.map Int.ofNat).length = 4 by simp; exact hk4, show ofV (ws.map Int.ofNat) = .tuple #[adr false 0 (numOf (ws.map Int.ofNat)), .int .i64 0] by unfold ofV; rw [if_pos (by simp; exact hk4)]] at HO
      have HOF := Lib.hid HO
      clear HO hri D1 hfour hle
      rw [hk4]
      clear hk4 hk hlt
      go_wp2_with fail
      refine Calls.mono HOF.out ?_
      rintro e w2 ⟨rfl, hb⟩
      have D0 := HB0.out.below hb HB0.out.lt
      have DB := Lib.hid (HBl.out.trans (hb.mono HBl.out.size))
      obtain ⟨g1, g2, g3⟩ := D0.c3
      have z1 := D0.frozen 0
      have z2 := D0.frozen 1
      have z3 := D0.frozen 2
      clear hb D0
      go_wp2
      exact bodyPost_ret (v := .tuple #[adr false 0 (numOf (ws.map Int.ofNat)), .int .i64 0]) (by simp [results, Tryz.results36, go_sem, g1, g2, g3]) rfl ⟨by rw [← HN.out]; rfl, ((DB.out.setCell (p := ⟨_, _, _⟩) (Nat.le_refl _) _).setCell (p := ⟨_, _, _⟩) (Nat.le_refl _) _).setCell (p := ⟨_, _, _⟩) (Nat.le_refl _) _⟩
end Go.Proofs.YtbpdnohcgojmbaaGreatDoor
