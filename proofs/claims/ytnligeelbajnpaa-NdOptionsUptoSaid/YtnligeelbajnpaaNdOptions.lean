/-
  I2: the options of any text are what the document's own reading gives, or what is wrong with them, and what comes out is its owner's: for every text of bulk at most 1048576.
-/
import Derived.Test.YtnligeelbajnpaaNAw
import Derived.Test.YtnligeelbajnpaaFrame
namespace Go.Proofs.Ytnligeelbajnpaa.Opts
open Go.ChangeShapes Go.WideShapes Go.ChangeAt Go.RowKit
set_option linter.unusedVariables false

theorem bulk_mem {H : Type} {d : DataW H} {l : List (DataW H)} (h : d ∈ l) : Rows.uptoBulk d ≤ Rows.uptoBulkAll l := by
  induction l with
  | nil => cases h
  | cons x r ih =>
    simp only [Rows.uptoBulkAll]
    rcases List.mem_cons.1 h with e | e
    · subst e; omega
    · have := ih e; omega
theorem bulk_le {H : Type} {d : DataW H} {l : List (DataW H)} (hk : Rows.uptoSmall H l = true) (h : d ∈ l) : Rows.uptoBulk d ≤ 1048576 := by
  have h1 : Rows.uptoBulkAll l ≤ 1048576 := by simpa [Rows.uptoSmall] using hk
  exact Nat.le_trans (bulk_mem h) h1
theorem rn_set {w : World} {A : Option Addr} {n g i : Nat} {l : List Opt9} {u : Value} (h : RN w A n l) (hg : ∀ x, A = some x → x.block ≠ g) : RN (w.setCell ⟨g, i, none⟩ u) A n l := by
  refine ⟨h.1, fun h0 => ?_⟩
  obtain ⟨b, o, e, hlt, hc⟩ := h.2 h0
  have hne : b ≠ g := hg _ e
  refine ⟨b, o, e, by simpa [World.setCell] using hlt, fun j x hx => ?_⟩
  obtain ⟨c1, c2⟩ := hc j x hx
  have hf : ∀ o, (w.setCell ⟨g, i, none⟩ u).cell? ⟨b, o, none⟩ = w.cell? ⟨b, o, none⟩ := fun o => World.cell?_setCell_other w _ _ u (by intro h; injection h with h1; exact hne h1.symm)
  exact ⟨by rw [hf]; exact c1, by rw [hf]; exact c2⟩
/-- What the loop writes over: a block of enough cells. -/
def Ov (W : World) (A : Option Addr) (n : Nat) : Prop := 0 < n → ∃ g cs, A = some ⟨g, 0, none⟩ ∧ Blk W g 43 cs ∧ n * 2 ≤ cs.size
theorem own_ov {w : World} {base n : Nat} {l : List Opt9} {A : Option Addr} {c : Nat} (h : w.ownsRow base 43 2 (.slice A n c) n (ncells l)) : Ov w A n ∧ ∀ b, A = some b → base ≤ b.block ∧ b.block < w.heap.size := by
  rcases h.2 with ⟨hv, h0⟩ | ⟨g, cap, cur, hv, h1, h2, h3, h4, h5, h6⟩
  · injection hv with e1 e2 e3
    subst e1
    exact ⟨fun hn => by omega, fun b e => by cases e⟩
  · injection hv with e1 e2 e3
    subst e1
    exact ⟨fun _ => ⟨g, cur, rfl, h2, by omega⟩, fun b e => by injection e with e; subst e; exact ⟨h1, (show Blk w g 43 cur from h2).lt⟩⟩
theorem Ov.below {w w' : World} {A : Option Addr} {n : Nat} (h : Ov w A n) (hb : Below w.heap.size w w') : Ov w' A n := fun h0 => by
  obtain ⟨g, cs, e, hB, hs⟩ := h h0
  exact ⟨g, cs, e, hB.below hb hB.lt, hs⟩

set_option maxRecDepth 100000 in
set_option maxHeartbeats 16000000 in
theorem walk (w : World) (a0 : ByteArray) (w0 : a0.size ≤ maxLen) (u0 : a0.size ≤ 1048576) :
    Calls Try.prog 4 #[.string a0] w fun e w' => e = .returned (.bool true) ∧ Below w.heap.size w w' := by
  have HA := Lib.hid (fun W => nawake_yes W)
  have HC : Hid (∀ W : World, Calls Try.prog 13 #[.string a0] W fun e w' => ∃ v, e = .returned (.tuple #[v, .int .i64 (ops a0.data.toList).2]) ∧ w'.ownsRow W.heap.size 43 2 v (ops a0.data.toList).1.length (ncells (ops a0.data.toList).1) ∧ Below W.heap.size W w') := Lib.hid (fun W => nopt_any a0 (by omega) W)
  have HR : Hid (∀ W : World, Calls Try.prog 14 #[.string a0] W fun e w' => ∃ v, e = .returned (.tuple #[v, .int .i64 (ops a0.data.toList).2]) ∧ w'.ownsRow W.heap.size 43 2 v (ops a0.data.toList).1.length (ncells (ops a0.data.toList).1) ∧ Below W.heap.size W w') := Lib.hid (fun W => roptions_any a0 (by omega) W)
  have hn : (ops a0.data.toList).1.length ≤ 1048576 := by
    have := ops_few a0.data.toList
    have := Lib.size_eq a0
    omega
  obtain ⟨E, hE⟩ : ∃ E, (ops a0.data.toList).2 = E := ⟨_, rfl⟩
  obtain ⟨l, hl⟩ : ∃ l, (ops a0.data.toList).1 = l := ⟨_, rfl⟩
  rw [hE, hl] at HC HR
  rw [hl] at hn
  obtain ⟨m, hm⟩ : ∃ m, l.length = m := ⟨_, rfl⟩
  rw [hm] at HC HR hn
  have HM := Lib.hid hm
  have HM16 : Hid (m ≤ 4000000000000) := Lib.hid (by omega)
  have hmI : (m : Int) ≤ 1048576 := by omega
  clear hE hl hm hn u0 w0
  go_enter Try.func4, Try.ntmps4
  go_wp2_with fail
  refine Calls.mono (HA.out _) ?_
  rintro e w1 ⟨rfl, hb⟩
  have L1 := Lib.hid hb
  clear hb
  go_wp2_with fail
  refine Calls.mono (HC.out _) ?_
  rintro e w2 ⟨v, rfl, hown, hb⟩
  obtain ⟨A, c, rfl, hrx, -⟩ := own_rn HM.out hown
  obtain ⟨hov, hab⟩ := own_ov hown
  have L2 := Lib.hid (L1.out.trans (hb.mono L1.out.size))
  have R2 := Lib.hid hrx
  have O2 := Lib.hid hov
  have AB : Hid (∀ b, A = some b → w.heap.size ≤ b.block ∧ b.block < w2.heap.size) := Lib.hid fun b e => ⟨Nat.le_trans L1.out.size (hab b e).1, (hab b e).2⟩
  clear hb hown hrx hov hab
  go_wp2_with fail
  refine Calls.mono (HR.out _) ?_
  rintro e w3 ⟨v, rfl, hown, hb⟩
  obtain ⟨B, d, rfl, hrx, -⟩ := own_rn HM.out hown
  obtain ⟨-, hbb⟩ := own_ov hown
  have L3 := Lib.hid (L2.out.trans (hb.mono L2.out.size))
  have R3 := Lib.hid (R2.out.below hb)
  have O3 := Lib.hid (O2.out.below hb)
  have Q3 := Lib.hid hrx
  have BB : Hid (∀ b g, B = some b → A = some g → b.block ≠ g.block) := Lib.hid fun b g e e' => by have := (hbb b e).1; have := (AB.out g e').2; omega
  have HSm := Lib.hid (nsame_yes A B m c d l HM16.out w3 R3.out Q3.out)
  clear hb hown hrx hbb
  go_wp2_with fail
  refine Calls.mono HSm.out ?_
  rintro e w4 ⟨rfl, q4, rfl⟩
  have L4 := Lib.hid (below_drewN L3.out q4)
  have O4 : Hid (Ov (w3.drewN q4) A m) := Lib.hid fun h0 => O3.out h0
  have Q4 : Hid (RN (w3.drewN q4) B m l) := Lib.hid Q3.out
  go_wp2_with fail
  go_loopw [9] (fun iv wr => ∃ j : Nat, j ≤ m ∧ iv = .int .i64 (j : Int) ∧ Hid (Ov wr A m ∧ RN wr B m l ∧ Below w.heap.size w wr)) (fun iv _ => m - (intOf iv).toNat)
  case atStart => exact ⟨0, Nat.zero_le _, rfl, Lib.hid ⟨O4.out, Q4.out, L4.out⟩⟩
  case round =>
    obtain ⟨j, hj, rfl, hh⟩ := hrel
    by_cases hlt : j < m
    · have hji : (j : Int) < m := by omega
      obtain ⟨g, cs, rfl, hB, hsz⟩ := hh.out.1 (by omega)
      have hge : w.heap.size ≤ g := (AB.out _ rfl).1
      obtain ⟨u0, p0⟩ : ∃ u, wr.cell? ⟨g, j * 2, none⟩ = some u := ⟨_, by rw [hB.cell]; exact Array.getElem?_eq_getElem (by omega)⟩
      obtain ⟨u1, p1⟩ : ∃ u, wr.cell? ⟨g, j * 2 + 1, none⟩ = some u := ⟨_, by rw [hB.cell]; exact Array.getElem?_eq_getElem (by omega)⟩
      have z0 := hB.frozen (j * 2)
      have z1 := hB.frozen (j * 2 + 1)
      have hne : ∀ x, B = some x → x.block ≠ g := fun b e => BB.out b _ e rfl
      have HN : Hid (Ov ((wr.setCell ⟨g, j * 2, none⟩ (.int .i64 (-1))).setCell ⟨g, j * 2 + 1, none⟩ (.string ⟨#[]⟩)) (some ⟨g, 0, none⟩) m ∧ RN ((wr.setCell ⟨g, j * 2, none⟩ (.int .i64 (-1))).setCell ⟨g, j * 2 + 1, none⟩ (.string ⟨#[]⟩)) B m l ∧ Below w.heap.size w ((wr.setCell ⟨g, j * 2, none⟩ (.int .i64 (-1))).setCell ⟨g, j * 2 + 1, none⟩ (.string ⟨#[]⟩))) := Lib.hid
        ⟨fun _ => ⟨g, _, rfl, (hB.set_ (j * 2) _).set_ (j * 2 + 1) _, by simpa using hsz⟩, rn_set (rn_set hh.out.2.1 hne) hne, (hh.out.2.2.setCell (p := ⟨g, j * 2, none⟩) hge _).setCell (p := ⟨g, j * 2 + 1, none⟩) hge _⟩
      clear hh hB hsz hne
      go_wp2
      go_roundw
      case rel => exact ⟨j + 1, hlt, by go_num, HN⟩
      case measure => simp [intOf]; omega
    · obtain rfl : j = m := by omega
      have Q5 := Lib.hid hh.out.2.1
      have L5 := Lib.hid hh.out.2.2
      clear hh
      go_wp2_with fail
      refine Calls.mono (HC.out _) ?_
      rintro e w6 ⟨v, rfl, hown, hb⟩
      obtain ⟨A6, c6, rfl, hrx, -⟩ := own_rn HM.out hown
      have L6 := Lib.hid (L5.out.trans (hb.mono L5.out.size))
      have R6 := Lib.hid hrx
      have Q6 := Lib.hid (Q5.out.below hb)
      clear hb hown hrx
      have HSm6 := Lib.hid (nsame_yes A6 B j c6 d l HM16.out w6 R6.out Q6.out)
      go_wp2_with fail
      refine Calls.mono HSm6.out ?_
      rintro e w7 ⟨rfl, q7, rfl⟩
      have L7 := Lib.hid (below_drewN L6.out q7)
      go_wp2
      go_ret
      exact ⟨nret_bool (by simp), L7.out⟩
set_option maxRecDepth 100000 in
theorem contract (H : Type) (enc : TypeId × Value → H) (W : World) (base : Nat) (args : Array Value) (ds gs : List (DataW H)) (before : List MemPlace)
    (hval0 : ∀ (j : Nat) t v, Try.f4.params[j]? = some t → args[j]? = some v → Value.okWide Try.prog W .any base t v)
    (hW : DataW.Whole enc Try.prog Try.f4.params.toList Rows.ndOptionsSpec.vars false W args.toList ds gs before)
    (hsz0 : (DataW.weightsEach Try.prog (Try.f4.params.toList ++ Rows.ndOptionsSpec.plain.varTypes Try.prog) (ds ++ gs)).all (· ≤ reachBytes) = true) (hk : Rows.uptoSmall H (ds ++ gs) = true) :
    Calls Try.prog 4 args W fun e W' => ∃ v, e = .returned v ∧ Rows.ndOptionsSpec.post enc Try.prog Try.f4 false true false false W args v W' := by
  have hsz := hsz0
  clear hsz0
  have hval := hval0
  clear hval0
  have hW' := hW
  obtain ⟨p, q, hA0, hV, rfl, hfz, hnd⟩ := hW
  have hA : DataW.TrodAll enc Try.prog W 0 (fun _ => true) true Try.f4.params.toList args.toList ds p := hA0
  rw [Try.params4] at hA hval hsz
  obtain ⟨v0, vs0, d0, ds0, p0, q0, hargs, rfl, rfl, h0, r0⟩ := trodAll_cons hA
  obtain ⟨rfl, rfl, rfl⟩ := trodAll_nil r0
  obtain rfl : args = #[v0] := by cases args; simp_all
  obtain ⟨rfl, rfl⟩ := trodVars_none hV
  obtain ⟨a0, rfl, rfl, rfl, w0⟩ := Go.ChangeMaps.open_string Try.underlying9 (hval 0 9 v0 rfl rfl) h0
  have u0 : a0.size ≤ 1048576 := by have h1 := bulk_le hk (d := DataW.lit (.string a0.data.toList)) (by simp); rw [Lib.size_eq]; simp only [Rows.uptoBulk] at h1; omega
  clear hA0
  refine (walk W a0 w0 u0).mono fun e W' ⟨he, bel⟩ => ?_
  subst he
  exact ⟨_, rfl, _, _, _, [], _, [], hW', trodAll_mk1 (shut_bool Try.underlying4 _), (trodAll_cons_mk (Go.ChangeMaps.shut_string Try.underlying9 w0) trodAll_mk0), rfl, bel.frame _, fun h => by cases h⟩

set_option maxRecDepth 100000 in
theorem lifted (os : Os) (started : os.Started) (H : Type) (enc : TypeId × Value → H) (F : Stop.Interp) :
    ReturnsInHanded {} Try.checked os 4 .any ((Rows.OpenSpec.upto Rows.ndOptionsSpec).pre6 enc Try.prog Try.f4 Rows.ndOptionsUptoRow.domain false) (((Rows.OpenSpec.upto Rows.ndOptionsSpec).at F).post enc Try.prog Try.f4 false true false false) := by
  refine returnsInHanded_of_cond_sized (C := Try.checked) (s := Rows.OpenSpec.upto Rows.ndOptionsSpec) (k := Rows.uptoSmall) rfl own started (by kernel_rfl) Try.func4
    (OpenSpec.witness (enc := enc) (C := Try.checked) (s := Rows.OpenSpec.upto Rows.ndOptionsSpec) (k := Rows.uptoSmall) rfl false ⟨#[], #[.string ByteArray.empty], []⟩ 8 (by kernel_rfl) (by kernel_rfl) (by kernel_rfl)
      (x := ([.lit (.string [])], [], [])) (by kernel_rfl) rfl (by kernel_rfl)) ?_
  intro W base args ds gs before hval hW _ hk hsz _
  exact contract H enc W base args ds gs before hval hW hsz hk

theorem over : Rows.ndOptionsUptoRow.holds Try.pinned (Rows.OpenSpec.upto Rows.ndOptionsSpec) :=
  OpenClaim.holds_of_cond 4 Try.f4 rfl rfl rfl rfl rfl rfl rfl ⟨rfl, rfl, rfl, rfl, rfl⟩ rfl rfl rfl rfl rfl (by kernel_rfl) Try.func4 (by kernel_rfl)
    (of_decide_eq_true (by kernel_rfl)) (by unfold Func.isWrapper; first | (rw [if_pos (by decide +kernel)]; kernel_rfl) | (rw [if_neg (by decide +kernel)]; exact ⟨rfl, rfl⟩))
    (fun os started H enc _ F => lifted os started H enc F)

theorem proved : Rows.NdOptionsUptoSaid := over
#print axioms proved
end Go.Proofs.Ytnligeelbajnpaa.Opts
