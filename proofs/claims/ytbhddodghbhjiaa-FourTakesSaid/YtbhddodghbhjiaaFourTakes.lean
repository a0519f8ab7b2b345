/-
  F2, F4: any bytes are the packet that the document's own answer says, or what is wrong with them, and so is their next hop: for every text. Before it: the document's own Hop of any text of at most 2^47 bytes.
-/
import Derived.Test.YtbhddodghbhjiaaFAwk
import Derived.Test.YtbhddodghbhjiaaFHp
import Derived.Test.YtbhddodghbhjiaaFRTb
import Derived.Test.YtbhddodghbhjiaaFRLay
import Derived.Test.YtbhddodghbhjiaaFrame
namespace Go.Proofs.Ytbhddodghbhjiaa
open Go.RowKit
set_option linter.unusedVariables false

theorem tkR_no {s : ByteArray} (h : (tkR s).2 ≠ 0) : (tkR s).1 = noPk := by
  unfold tkR at h ⊢
  by_cases h1 : s.size < 20
  · rw [if_pos h1]
  rw [if_neg h1] at h ⊢
  by_cases h2 : f1N s < 69 ∨ 79 < f1N s
  · rw [if_pos h2]
  rw [if_neg h2] at h ⊢
  by_cases h3 : s.size < hdL s
  · rw [if_pos h3]
  rw [if_neg h3] at h ⊢
  by_cases h4 : fo (tot 0 ((byt s).take (hdL s))) ≠ 65535
  · rw [if_pos h4]
  rw [if_neg h4] at h ⊢
  by_cases h5 : tlN s < hdL s ∨ 32768 ≤ ptN s
  · rw [if_pos h5]
  rw [if_neg h5] at h ⊢
  by_cases h6 : s.size < tlN s
  · rw [if_pos h6]
  rw [if_neg h6] at h ⊢
  by_cases h7 : opB (s.extract 20 (hdL s)) = false
  · rw [if_pos h7]
  rw [if_neg h7] at h ⊢
  exact absurd rfl h
theorem tkR_osz (s : ByteArray) : (tkR s).1.o.size ≤ 4398046511104 := by
  by_cases h : (tkR s).2 = 0
  · obtain ⟨e, hr, -, -⟩ := tk_okR h
    rw [e]
    have := hr.ol
    omega
  · obtain ⟨z1, -, -⟩ := tkR_sizes s
    have hz : (⟨#[]⟩ : ByteArray).size = 0 := rfl
    have : (tkR s).1 = noPk := tkR_no h
    rw [this]
    show (⟨#[]⟩ : ByteArray).size ≤ _
    omega
set_option maxRecDepth 100000 in
set_option maxHeartbeats 8000000 in
theorem frhop_any (s : ByteArray) (hs : s.size ≤ 140737488355328) (w : World) :
    Calls Try.prog 14 #[.string s] w fun e w' => e = .returned (hpRV s) ∧ Below w.heap.size w w' := by
  have HT := Lib.hid (fun W => frtake_any s hs W)
  obtain ⟨z1, z2, z3⟩ := tkR_sizes s
  have z0 := tkR_osz s
  replace z2 : (tkR s).1.d.size ≤ 140737488355328 := by omega
  have HR := Lib.hid (show hpR s = if (tkR s).2 ≠ 0 then (⟨#[]⟩, (tkR s).2) else if (tkR s).1.ttl ≤ 1 then (⟨#[]⟩, 54) else lyR { (tkR s).1 with ttl := (tkR s).1.ttl - 1 } from rfl)
  have hok : (tkR s).2 = 0 → 0 ≤ (tkR s).1.ttl ∧ (tkR s).1.ttl ≤ 255 := fun h => by
    obtain ⟨e, h2, -, -⟩ := tk_okR h
    rw [e]; exact h2.ttl
  obtain ⟨p, hp⟩ : ∃ x, (tkR s).1 = x := ⟨_, rfl⟩
  obtain ⟨E, hE⟩ : ∃ x, (tkR s).2 = x := ⟨_, rfl⟩
  unfold tkRV at HT
  rw [hp, hE] at HT HR
  rw [hp] at z0 z1 z2 z3 hok
  rw [hE] at hok
  have HLy := Lib.hid (fun W => rlay_any { p with ttl := p.ttl - 1 } z0 z2 z3 W)
  clear hp hE z0 z1 z2 z3 hs
  by_cases he : E = 0
  · have hE0 : (E == 0) = true := by simpa using he
    have ht := hok he
    obtain ⟨t0, t1⟩ := ht
    obtain ⟨tos, id, df, mf, off, ttl, pro, s1, h1, l1, s2, h2, l2, o1, d1⟩ := p
    by_cases h1' : ttl ≤ 1
    · have h2' : ttl < 2 := by omega
      have HX : Hid (hpR s = (⟨#[]⟩, 54)) := Lib.hid (by rw [HR.out, if_neg (by simpa using he), if_pos h1'])
      clear he hok HR
      go_enter Try.func14, Try.ntmps14
      go_wp2_with fail
      refine Calls.mono (HT.out _) ?_
      rintro e w1 ⟨rfl, hb⟩
      have L1 := Lib.hid hb
      clear hb
      go_wp2
      go_ret2
      exact ⟨by unfold hpRV; rw [HX.out]; rfl, L1.out.alloc L1.out.size _⟩
    · obtain ⟨Y, hY⟩ : ∃ x, lyR { (⟨tos, id, df, mf, off, ttl, pro, s1, h1, l1, s2, h2, l2, o1, d1⟩ : Pk) with ttl := ttl - 1 } = x := ⟨_, rfl⟩
      have HX : Hid (hpR s = Y) := Lib.hid (by rw [HR.out, if_neg (by simpa using he), if_neg h1']; exact hY)
      have hY' : lyR { (⟨tos, id, df, mf, off, ttl, pro, s1, h1, l1, s2, h2, l2, o1, d1⟩ : Pk) with ttl := (⟨tos, id, df, mf, off, ttl, pro, s1, h1, l1, s2, h2, l2, o1, d1⟩ : Pk).ttl - 1 } = Y := hY
      unfold lyRV at HLy
      rw [hY'] at HLy
      have hn : ¬ ttl < 2 := by omega
      clear he hok HR hY hY' h1'
      obtain ⟨Y1, Y2⟩ := Y
      go_enter Try.func14, Try.ntmps14
      go_wp2_with fail
      refine Calls.mono (HT.out _) ?_
      rintro e w1 ⟨rfl, hb⟩
      have L1 := Lib.hid hb
      clear hb
      go_wp2_with fail
      refine Calls.mono (HLy.out _) ?_
      rintro e w2 ⟨rfl, hb⟩
      have L2 := Lib.hid hb
      clear hb
      go_wp2
      go_ret2
      refine ⟨by unfold hpRV; rw [HX.out]; rfl, ?_⟩
      first
        | exact (L1.out.alloc L1.out.size _).trans (L2.out.mono (by simp only [World.size_alloc]; have := L1.out.size; omega))
        | exact ((L1.out.alloc L1.out.size _).setCell (p := ⟨w1.heap.size, 5, none⟩) L1.out.size _).trans (L2.out.mono (by simp [World.setCell]; have := L1.out.size; omega))
  · have hE0 : (E == 0) = false := by simpa using he
    have HX : Hid (hpR s = (⟨#[]⟩, E)) := Lib.hid (by rw [HR.out, if_pos he])
    clear he hok HR
    go_enter Try.func14, Try.ntmps14
    go_wp2_with fail
    refine Calls.mono (HT.out _) ?_
    rintro e w1 ⟨rfl, hb⟩
    have L1 := Lib.hid hb
    clear hb
    go_wp2
    go_ret2
    exact ⟨by unfold hpRV; rw [HX.out]; rfl, L1.out.alloc L1.out.size _⟩
end Go.Proofs.Ytbhddodghbhjiaa
namespace Go.Proofs.Ytbhddodghbhjiaa.FTakes
open Go.ChangeShapes Go.WideShapes Go.ChangeAt Go.RowKit
set_option linter.unusedVariables false

set_option maxRecDepth 100000 in
set_option maxHeartbeats 8000000 in
theorem walk (w : World) (a0 : ByteArray) (w0 : a0.size ≤ maxLen) (s0 : a0.size < 140737488355328) :
    Calls Try.prog 3 #[.string a0] w fun e w' => e = .returned (.bool true) ∧ Below w.heap.size w w' := by
  have hs : a0.size ≤ 140737488355328 := by omega
  have HA := Lib.hid (fun W => fawake_yes W)
  have HT := Lib.hid (fun W => take_any a0 (by omega) W)
  have HR := Lib.hid (fun W => frtake_any a0 hs W)
  have HH := Lib.hid (fun W => hop_any a0 (by omega) W)
  have HG := Lib.hid (fun W => frhop_any a0 hs W)
  unfold tkRV at HT HR
  unfold hpRV at HH HG
  clear w0 s0 hs
  obtain ⟨p, hp⟩ : ∃ p, (tkR a0).1 = p := ⟨_, rfl⟩
  obtain ⟨E, hE⟩ : ∃ E, (tkR a0).2 = E := ⟨_, rfl⟩
  obtain ⟨S, hS⟩ : ∃ S, (hpR a0).1 = S := ⟨_, rfl⟩
  obtain ⟨G, hG⟩ : ∃ G, (hpR a0).2 = G := ⟨_, rfl⟩
  rw [hp, hE] at HT HR
  rw [hS, hG] at HH HG
  clear hp hE hS hG
  obtain ⟨tos, id, df, mf, off, ttl, pro, s1, h1, l1, s2, h2, l2, o1, d1⟩ := p
  replace HT : Hid (∀ W : World, Calls Try.prog 11 #[.string a0] W fun e w' => e = .returned (.tuple #[.agg #[.int .i64 tos, .int .i64 id, .bool df, .bool mf, .int .i64 off, .int .i64 ttl, .int .i64 pro, .bool s1, .int .u64 h1, .int .u64 l1, .bool s2, .int .u64 h2, .int .u64 l2, .string o1, .string d1], .int .i64 E]) ∧ Below W.heap.size W w') := HT
  replace HR : Hid (∀ W : World, Calls Try.prog 12 #[.string a0] W fun e w' => e = .returned (.tuple #[.agg #[.int .i64 tos, .int .i64 id, .bool df, .bool mf, .int .i64 off, .int .i64 ttl, .int .i64 pro, .bool s1, .int .u64 h1, .int .u64 l1, .bool s2, .int .u64 h2, .int .u64 l2, .string o1, .string d1], .int .i64 E]) ∧ Below W.heap.size W w') := HR
  go_enter Try.func3, Try.ntmps3
  go_wp2_with fail
  refine Calls.mono (HA.out _) ?_
  rintro e w1 ⟨rfl, hb⟩
  have L1 := Lib.hid hb
  clear hb
  go_wp2_with fail
  refine Calls.mono (HT.out _) ?_
  rintro e w2 ⟨rfl, hb⟩
  have L2 := Lib.hid ((L1.out.trans (hb.mono L1.out.size)).alloc (L1.out.trans (hb.mono L1.out.size)).size (.cells #[.int .i64 tos, .int .i64 id, .bool df, .bool mf, .int .i64 off, .int .i64 ttl, .int .i64 pro, .bool s1, .int .u64 h1, .int .u64 l1, .bool s2, .int .u64 h2, .int .u64 l2, .string o1, .string d1] 27))
  have K2 := Lib.hid (Blk.new w2 27 #[.int .i64 tos, .int .i64 id, .bool df, .bool mf, .int .i64 off, .int .i64 ttl, .int .i64 pro, .bool s1, .int .u64 h1, .int .u64 l1, .bool s2, .int .u64 h2, .int .u64 l2, .string o1, .string d1])
  clear hb
  go_wp2_with fail
  refine Calls.mono (HR.out _) ?_
  rintro e w3 ⟨rfl, hb⟩
  have L3 := Lib.hid ((L2.out.trans (hb.mono L2.out.size)).alloc (L2.out.trans (hb.mono L2.out.size)).size (.cells #[.int .i64 tos, .int .i64 id, .bool df, .bool mf, .int .i64 off, .int .i64 ttl, .int .i64 pro, .bool s1, .int .u64 h1, .int .u64 l1, .bool s2, .int .u64 h2, .int .u64 l2, .string o1, .string d1] 27))
  have K3 := Lib.hid ((K2.out.below hb K2.out.lt).alloc (.cells #[.int .i64 tos, .int .i64 id, .bool df, .bool mf, .int .i64 off, .int .i64 ttl, .int .i64 pro, .bool s1, .int .u64 h1, .int .u64 l1, .bool s2, .int .u64 h2, .int .u64 l2, .string o1, .string d1] 27))
  have N3 := Lib.hid (Blk.new w3 27 #[.int .i64 tos, .int .i64 id, .bool df, .bool mf, .int .i64 off, .int .i64 ttl, .int .i64 pro, .bool s1, .int .u64 h1, .int .u64 l1, .bool s2, .int .u64 h2, .int .u64 l2, .string o1, .string d1])
  clear hb
  go_wp2_with fail
  refine Calls.mono (HH.out _) ?_
  rintro e w4 ⟨rfl, hb⟩
  have L4 := Lib.hid (L3.out.trans (hb.mono L3.out.size))
  have K4 := Lib.hid (K3.out.below hb K3.out.lt)
  have N4 := Lib.hid (N3.out.below hb N3.out.lt)
  clear hb
  go_wp2_with fail
  refine Calls.mono (HG.out _) ?_
  rintro e w5 ⟨rfl, hb⟩
  have L5 := Lib.hid (L4.out.trans (hb.mono L4.out.size))
  have K5 := Lib.hid (K4.out.below hb K4.out.lt)
  have N5 := Lib.hid (N4.out.below hb N4.out.lt)
  clear hb
  obtain ⟨f0, f1, f2, f3, f4, f5, f6, f7, f8, f9, f10, f11, f12, f13, f14⟩ := K5.out.e15
  obtain ⟨g0, g1, g2, g3, g4, g5, g6, g7, g8, g9, g10, g11, g12, g13, g14⟩ := N5.out.e15
  go_wp2
  go_ret
  exact ⟨ret_bool (by simp), L5.out⟩
set_option maxRecDepth 100000 in
theorem contract (H : Type) (enc : TypeId × Value → H) (W : World) (base : Nat) (args : Array Value) (ds gs : List (DataW H)) (before : List MemPlace)
    (hval0 : ∀ (j : Nat) t v, Try.f3.params[j]? = some t → args[j]? = some v → Value.okWide Try.prog W .any base t v)
    (hW : DataW.Whole enc Try.prog Try.f3.params.toList Rows.fourTakesSpec.vars false W args.toList ds gs before)
    (hsz0 : (DataW.weightsEach Try.prog (Try.f3.params.toList ++ Rows.fourTakesSpec.plain.varTypes Try.prog) (ds ++ gs)).all (· ≤ reachBytes) = true) :
    Calls Try.prog 3 args W fun e W' => ∃ v, e = .returned v ∧ Rows.fourTakesSpec.post enc Try.prog Try.f3 false true false false W args v W' := by
  have hsz := hsz0
  clear hsz0
  have hval := hval0
  clear hval0
  have hW' := hW
  obtain ⟨p, q, hA0, hV, rfl, hfz, hnd⟩ := hW
  have hA : DataW.TrodAll enc Try.prog W 0 (fun _ => true) true Try.f3.params.toList args.toList ds p := hA0
  rw [Try.params3] at hA hval hsz
  obtain ⟨v0, vs0, d0, ds0, p0, q0, hargs, rfl, rfl, h0, r0⟩ := trodAll_cons hA
  obtain ⟨rfl, rfl, rfl⟩ := trodAll_nil r0
  obtain rfl : args = #[v0] := by cases args; simp_all
  obtain ⟨rfl, rfl⟩ := trodVars_none hV
  obtain ⟨a0, rfl, rfl, rfl, w0⟩ := Go.ChangeMaps.open_string Try.underlying9 (hval 0 9 v0 rfl rfl) h0
  have s0 : a0.size < 140737488355328 := by have h1 := sized_string hsz (j := 0) (t := 9) (bytes := a0.data.toList) rfl rfl; have h2 := Lib.size_eq a0; have h3 := reachBytes_lt; omega
  clear hA0
  refine (walk W a0 w0 s0).mono fun e W' ⟨he, bel⟩ => ?_
  subst he
  exact ⟨_, rfl, _, _, _, [], _, [], hW', trodAll_mk1 (shut_bool Try.underlying4 _), (trodAll_cons_mk (Go.ChangeMaps.shut_string Try.underlying9 w0) trodAll_mk0), rfl, bel.frame _, fun h => by cases h⟩

set_option maxRecDepth 100000 in
theorem lifted (os : Os) (started : os.Started) (H : Type) (enc : TypeId × Value → H) :
    ReturnsInHanded {} Try.checked os 3 .any (Rows.fourTakesSpec.pre6 enc Try.prog Try.f3 Rows.fourTakesRow.domain false) (Rows.fourTakesSpec.post enc Try.prog Try.f3 false true false false) := by
  refine returnsInHanded_of_change_sized (C := Try.checked) own started (by kernel_rfl) Try.func3
    (ChangeSpec.witness6 (enc := enc) (C := Try.checked) false ⟨#[], #[.string ByteArray.empty], []⟩ 8 (by kernel_rfl) (by kernel_rfl) (by kernel_rfl) (by kernel_rfl)) ?_
  intro W base args ds gs before hval hW _ hsz _
  exact contract H enc W base args ds gs before hval hW hsz

theorem over : Rows.fourTakesRow.holds Try.pinned (OpenSpec.ofChange Rows.fourTakesSpec) :=
  OpenClaim.holds_of_wide 3 Try.f3 rfl rfl rfl rfl rfl rfl rfl ⟨rfl, rfl, rfl, rfl, rfl⟩ rfl rfl rfl rfl rfl (by kernel_rfl) Try.func3 (by kernel_rfl)
    (of_decide_eq_true (by kernel_rfl)) (by unfold Func.isWrapper; first | (rw [if_pos (by decide +kernel)]; kernel_rfl) | (rw [if_neg (by decide +kernel)]; exact ⟨rfl, rfl⟩))
    (fun os started H enc _ => lifted os started H enc)

theorem proved : Rows.FourTakesSaid := over
#print axioms proved
end Go.Proofs.Ytbhddodghbhjiaa.FTakes
