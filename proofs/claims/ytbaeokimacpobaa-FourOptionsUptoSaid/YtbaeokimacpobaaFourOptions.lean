/-
  F3: the options of any text are what the document's own reading gives, and so is what a piece keeps of them; keeping twice changes nothing: for every text of bulk at most 1048576.
-/
import Derived.Test.YtbaeokimacpobaaFAwk
import Derived.Test.YtbaeokimacpobaaFRKept
import Derived.Test.YtbaeokimacpobaaFrame
namespace Go.Proofs.Ytbaeokimacpobaa.Opts
open Go.ChangeShapes Go.WideShapes Go.ChangeAt Go.RowKit
set_option linter.unusedVariables false

theorem bulk_mem {H : Type} {d : DataW H} {l : List (DataW H)} (h : d ∈ l) : Rows.uptoBulk d ≤ Rows.uptoBulkAll l := by
  induction l with
  | nil => cases h
  | cons x r ih =>
    simp only [Rows.uptoBulkAll]
    rcases List.mem_cons.1 h with e | e
    · subst e; omega
    · have := ih e; omega
theorem bulk_le {H : Type} {d : DataW H} {l : List (DataW H)} (hk : Rows.uptoSmall H l = true) (h : d ∈ l) : Rows.uptoBulk d ≤ 1048576 := by
  have h1 : Rows.uptoBulkAll l ≤ 1048576 := by simpa [Rows.uptoSmall] using hk
  exact Nat.le_trans (bulk_mem h) h1

set_option maxRecDepth 100000 in
set_option maxHeartbeats 8000000 in
theorem walk (w : World) (a0 : ByteArray) (w0 : a0.size ≤ maxLen) (u0 : a0.size ≤ 1048576) :
    Calls Try.prog 5 #[.string a0] w fun e w' => e = .returned (.bool true) ∧ Below w.heap.size w w' := by
  have HA := Lib.hid (fun W => fawake_yes W)
  have hs : a0.size ≤ 4398046511104 := by omega
  obtain ⟨T, hT⟩ : ∃ T : ByteArray, (⟨(kpL a0.data.toList).toArray⟩ : ByteArray) = T := ⟨_, rfl⟩
  have hTl : T.data.toList = kpL a0.data.toList := by rw [← hT]
  have hTs : T.size ≤ 4398046511104 := by
    have := kp_len a0.data.toList
    have := Lib.size_eq a0
    rw [Lib.size_eq, hTl]; omega
  have hT4 : (T.size : Int) % 4 = 0 := by
    have := kp_four a0.data.toList
    rw [Lib.size_eq, hTl]; omega
  have HO1 := Lib.hid (fun W => out_ro (options_any a0 hs W))
  have HO2 := Lib.hid (fun W => out_ro (ropt_any a0 hs W))
  have HO3 := Lib.hid (fun W => out_ro (options_any T hTs W))
  have HK1 := Lib.hid (fun W => kept_any a0 hs W)
  have HK2 := Lib.hid (fun W => rkept_any a0 hs W)
  have HK3 := Lib.hid (fun W => kept_any T hTs W)
  have hE3 : eO (opn T.data.toList) = 0 := by rw [hTl, kp_opn]; rfl
  rw [hE3] at HO3
  rw [hTl, kp_again] at HK3
  rw [hT] at HK1 HK2 HK3
  obtain ⟨R3, hR3⟩ : ∃ R, opn T.data.toList = R := ⟨_, rfl⟩
  rw [hR3] at HO3
  have hnl : ((opn a0.data.toList).getD []).length ≤ 5000000000000 := by
    cases h : opn a0.data.toList with
    | none => simp
    | some q =>
      have := opn_total _ h
      have := gd_len (opn_gd _ h)
      have := Lib.size_eq a0
      simp only [Option.getD_some]; omega
  obtain ⟨E, hE⟩ : ∃ E, eO (opn a0.data.toList) = E := ⟨_, rfl⟩
  rw [hE] at HO1 HO2
  obtain ⟨os, hos⟩ : ∃ os, (opn a0.data.toList).getD [] = os := ⟨_, rfl⟩
  rw [hos] at HO1 HO2 hnl
  obtain ⟨n, hn⟩ : ∃ n, os.length = n := ⟨_, rfl⟩
  rw [hn] at HO1 HO2 hnl
  obtain ⟨n3, hn3⟩ : ∃ n, (R3.getD []).length = n := ⟨_, rfl⟩
  rw [hn3] at HO3
  have HNL := Lib.hid hnl
  clear hs hT hTl hTs hE3 hR3 hnl hE hos hn hn3 u0 w0
  go_enter Try.func5, Try.ntmps5
  go_wp2_with fail
  refine Calls.mono (HA.out _) ?_
  rintro e w1 ⟨rfl, hb⟩
  have L1 := Lib.hid hb
  clear hb
  go_wp2_with fail
  refine Calls.mono (HO1.out _) ?_
  rintro e w2 ⟨A1, c1, rfl, hro, hb⟩
  have R1 := Lib.hid hro
  have L2 := Lib.hid (L1.out.trans (hb.mono L1.out.size))
  clear hb hro
  go_wp2_with fail
  refine Calls.mono (HO2.out _) ?_
  rintro e w3 ⟨A2, c2, rfl, hro, hb⟩
  have HS := Lib.hid (same_yes A1 A2 n c1 c2 os HNL.out w3 (R1.out.below hb) hro)
  have L3 := Lib.hid (L2.out.trans (hb.mono L2.out.size))
  clear hb hro
  go_wp2_with fail
  refine Calls.mono HS.out ?_
  rintro e w4 ⟨rfl, hb⟩
  have L4 := Lib.hid (L3.out.trans (hb.mono L3.out.size))
  clear hb
  go_wp2_with fail
  refine Calls.mono (HK1.out _) ?_
  rintro e w5 ⟨rfl, hb⟩
  have L5 := Lib.hid (L4.out.trans (hb.mono L4.out.size))
  clear hb
  go_wp2_with fail
  refine Calls.mono (HO3.out _) ?_
  rintro e w6 ⟨A3, c3, rfl, -, hb⟩
  have L6 := Lib.hid (L5.out.trans (hb.mono L5.out.size))
  clear hb
  go_wp2_with fail
  refine Calls.mono (HK2.out _) ?_
  rintro e w7 ⟨rfl, hb⟩
  have L7 := Lib.hid (L6.out.trans (hb.mono L6.out.size))
  clear hb
  go_wp2_with fail
  refine Calls.mono (HK3.out _) ?_
  rintro e w8 ⟨rfl, hb⟩
  have L8 := Lib.hid (L7.out.trans (hb.mono L7.out.size))
  clear hb
  go_wp2
  go_ret
  exact ⟨ret_bool (by simp), L8.out⟩

set_option maxRecDepth 100000 in
theorem contract (H : Type) (enc : TypeId × Value → H) (W : World) (base : Nat) (args : Array Value) (ds gs : List (DataW H)) (before : List MemPlace)
    (hval0 : ∀ (j : Nat) t v, Try.f5.params[j]? = some t → args[j]? = some v → Value.okWide Try.prog W .any base t v)
    (hW : DataW.Whole enc Try.prog Try.f5.params.toList Rows.fourOptionsSpec.vars false W args.toList ds gs before)
    (hsz0 : (DataW.weightsEach Try.prog (Try.f5.params.toList ++ Rows.fourOptionsSpec.plain.varTypes Try.prog) (ds ++ gs)).all (· ≤ reachBytes) = true) (hk : Rows.uptoSmall H (ds ++ gs) = true) :
    Calls Try.prog 5 args W fun e W' => ∃ v, e = .returned v ∧ Rows.fourOptionsSpec.post enc Try.prog Try.f5 false true false false W args v W' := by
  have hsz := hsz0
  clear hsz0
  have hval := hval0
  clear hval0
  have hW' := hW
  obtain ⟨p, q, hA0, hV, rfl, hfz, hnd⟩ := hW
  have hA : DataW.TrodAll enc Try.prog W 0 (fun _ => true) true Try.f5.params.toList args.toList ds p := hA0
  rw [Try.params5] at hA hval hsz
  obtain ⟨v0, vs0, d0, ds0, p0, q0, hargs, rfl, rfl, h0, r0⟩ := trodAll_cons hA
  obtain ⟨rfl, rfl, rfl⟩ := trodAll_nil r0
  obtain rfl : args = #[v0] := by cases args; simp_all
  obtain ⟨rfl, rfl⟩ := trodVars_none hV
  obtain ⟨a0, rfl, rfl, rfl, w0⟩ := Go.ChangeMaps.open_string Try.underlying9 (hval 0 9 v0 rfl rfl) h0
  have u0 : a0.size ≤ 1048576 := by have h1 := bulk_le hk (d := DataW.lit (.string a0.data.toList)) (by simp); rw [Lib.size_eq]; simp only [Rows.uptoBulk] at h1; omega
  clear hA0
  refine (walk W a0 w0 u0).mono fun e W' ⟨he, bel⟩ => ?_
  subst he
  exact ⟨_, rfl, _, _, _, [], _, [], hW', trodAll_mk1 (shut_bool Try.underlying4 _), (trodAll_cons_mk (Go.ChangeMaps.shut_string Try.underlying9 w0) trodAll_mk0), rfl, bel.frame _, fun h => by cases h⟩

set_option maxRecDepth 100000 in
theorem lifted (os : Os) (started : os.Started) (H : Type) (enc : TypeId × Value → H) (F : Stop.Interp) :
    ReturnsInHanded {} Try.checked os 5 .any ((Rows.OpenSpec.upto Rows.fourOptionsSpec).pre6 enc Try.prog Try.f5 Rows.fourOptionsUptoRow.domain false) (((Rows.OpenSpec.upto Rows.fourOptionsSpec).at F).post enc Try.prog Try.f5 false true false false) := by
  refine returnsInHanded_of_cond_sized (C := Try.checked) (s := Rows.OpenSpec.upto Rows.fourOptionsSpec) (k := Rows.uptoSmall) rfl own started (by kernel_rfl) Try.func5
    (OpenSpec.witness (enc := enc) (C := Try.checked) (s := Rows.OpenSpec.upto Rows.fourOptionsSpec) (k := Rows.uptoSmall) rfl false ⟨#[], #[.string ByteArray.empty], []⟩ 8 (by kernel_rfl) (by kernel_rfl) (by kernel_rfl)
      (x := ([.lit (.string [])], [], [])) (by kernel_rfl) rfl (by kernel_rfl)) ?_
  intro W base args ds gs before hval hW _ hk hsz _
  exact contract H enc W base args ds gs before hval hW hsz hk

theorem over : Rows.fourOptionsUptoRow.holds Try.pinned (Rows.OpenSpec.upto Rows.fourOptionsSpec) :=
  OpenClaim.holds_of_cond 5 Try.f5 rfl rfl rfl rfl rfl rfl rfl ⟨rfl, rfl, rfl, rfl, rfl⟩ rfl rfl rfl rfl rfl (by kernel_rfl) Try.func5 (by kernel_rfl)
    (of_decide_eq_true (by kernel_rfl)) (by unfold Func.isWrapper; first | (rw [if_pos (by decide +kernel)]; kernel_rfl) | (rw [if_neg (by decide +kernel)]; exact ⟨rfl, rfl⟩))
    (fun os started H enc _ F => lifted os started H enc F)

theorem proved : Rows.FourOptionsUptoSaid := over
#print axioms proved
end Go.Proofs.Ytbaeokimacpobaa.Opts
