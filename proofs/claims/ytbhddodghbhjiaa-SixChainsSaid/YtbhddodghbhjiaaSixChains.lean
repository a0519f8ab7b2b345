/-
  G3, G4: the further headers of any number and any bytes, and what stands ahead in every piece, are the document's own answers: for every number and every text.
-/
import Derived.Test.YtbhddodghbhjiaaSAw
import Derived.Test.YtbhddodghbhjiaaSRHe
import Derived.Test.YtbhddodghbhjiaaFrame
namespace Go.Proofs.Ytbhddodghbhjiaa.Chains
open Go.ChangeShapes Go.WideShapes Go.ChangeAt Go.RowKit
set_option linter.unusedVariables false

theorem rx_set {w : World} {A : Option Addr} {n g i : Nat} {l : List Ex} {u : Value} (h : RX w A n l) (hg : ∀ b, A = some ⟨b, 0, none⟩ → b ≠ g) : RX (w.setCell ⟨g, i, none⟩ u) A n l := by
  refine ⟨h.1, fun h0 => ?_⟩
  obtain ⟨b, e, hlt, hc⟩ := h.2 h0
  have hne := hg b e
  refine ⟨b, e, by simpa [World.setCell] using hlt, fun j x hx => ?_⟩
  obtain ⟨c1, c2, c3⟩ := hc j x hx
  have hf : ∀ o, (w.setCell ⟨g, i, none⟩ u).cell? ⟨b, o, none⟩ = w.cell? ⟨b, o, none⟩ := fun o => World.cell?_setCell_other w _ _ u (by intro h; injection h with h1; exact hne h1.symm)
  exact ⟨by rw [hf]; exact c1, by rw [hf]; exact c2, by rw [hf]; exact c3⟩
/-- What the loop writes over: a block of enough cells. -/
def Ov (W : World) (A : Option Addr) (n : Nat) : Prop := 0 < n → ∃ g cs, A = some ⟨g, 0, none⟩ ∧ Blk W g 45 cs ∧ n * 3 ≤ cs.size
theorem own_ov {w : World} {base n : Nat} {l : List Ex} {A : Option Addr} {c : Nat} (h : w.ownsRow base 45 3 (.slice A n c) n (ecells l)) : Ov w A n ∧ ∀ b, A = some ⟨b, 0, none⟩ → base ≤ b ∧ b < w.heap.size := by
  rcases h.2 with ⟨hv, h0⟩ | ⟨g, cap, cur, hv, h1, h2, h3, h4, h5, h6⟩
  · injection hv with e1 e2 e3
    subst e1
    exact ⟨fun hn => by omega, fun b e => by cases e⟩
  · injection hv with e1 e2 e3
    subst e1
    exact ⟨fun _ => ⟨g, cur, rfl, h2, by omega⟩, fun b e => by injection e with e; injection e with e1; subst e1; exact ⟨h1, (show Blk w g 45 cur from h2).lt⟩⟩
theorem Ov.below {w w' : World} {A : Option Addr} {n : Nat} (h : Ov w A n) (hb : Below w.heap.size w w') : Ov w' A n := fun h0 => by
  obtain ⟨g, cs, e, hB, hs⟩ := h h0
  exact ⟨g, cs, e, hB.below hb hB.lt, hs⟩

set_option maxRecDepth 100000 in
set_option maxHeartbeats 16000000 in
theorem walk (w : World) (a0 : Int) (w0 : (Lit.int .i64 a0).wf = true) (a1 : ByteArray) (w1 : a1.size ≤ maxLen) :
    Calls Try.prog 6 #[.int .i64 a0, .string a1] w fun e w' => e = .returned (.bool true) ∧ Below w.heap.size w w' := by
  have hs : (a1.size : Int) ≤ 9223372036854775807 := by unfold maxLen at w1; omega
  have HA := Lib.hid (fun W => sawake_yes W)
  have HC := Lib.hid (fun W => schain_any a0 a1 hs W)
  have HR := Lib.hid (fun W => srchain_any a0 a1 hs W)
  have HH := Lib.hid (fun W => shead_any a0 a1 hs W)
  have HG := Lib.hid (fun W => srhead_any a0 a1 hs W)
  have hn16 := chS_l16 a1 a0
  obtain ⟨X, hX⟩ : ∃ X, chS a1 16 a0 0 = X := ⟨_, rfl⟩
  rw [hX] at HC HR HH HG hn16
  obtain ⟨l, n, t, E⟩ := X
  simp only at hn16
  obtain ⟨HD, hHD⟩ : ∃ x, hdX l 0 = x := ⟨_, rfl⟩
  replace HH : Hid (∀ W : World, Calls Try.prog 25 #[.int .i64 a0, .string a1] W fun e w' => e = .returned (.int .i64 (HD : Int)) ∧ Below W.heap.size W w') := by rw [← hHD]; exact HH
  replace HG : Hid (∀ W : World, Calls Try.prog 26 #[.int .i64 a0, .string a1] W fun e w' => e = .returned (.int .i64 (HD : Int)) ∧ Below W.heap.size W w') := by rw [← hHD]; exact HG
  replace HC : Hid (∀ W : World, Calls Try.prog 22 #[.int .i64 a0, .string a1] W fun e w' => ∃ v, e = .returned (.tuple #[v, .int .i64 n, .int .i64 (t : Int), .int .i64 E]) ∧ w'.ownsRow W.heap.size 45 3 v l.length (ecells l) ∧ Below W.heap.size W w') := HC
  replace HR : Hid (∀ W : World, Calls Try.prog 23 #[.int .i64 a0, .string a1] W fun e w' => ∃ v, e = .returned (.tuple #[v, .int .i64 n, .int .i64 (t : Int), .int .i64 E]) ∧ w'.ownsRow W.heap.size 45 3 v l.length (ecells l) ∧ Below W.heap.size W w') := HR
  obtain ⟨m, hm⟩ : ∃ m, l.length = m := ⟨_, rfl⟩
  rw [hm] at HC HR hn16
  have HM := Lib.hid hm
  have HM16 := Lib.hid hn16
  have hmI : (m : Int) ≤ 16 := by omega
  clear hX hHD hm hn16 hs w1
  go_enter Try.func6, Try.ntmps6
  go_wp2_with fail
  refine Calls.mono (HA.out _) ?_
  rintro e w1 ⟨rfl, hb⟩
  have L1 := Lib.hid hb
  clear hb
  go_wp2_with fail
  refine Calls.mono (HC.out _) ?_
  rintro e w2 ⟨v, rfl, hown, hb⟩
  obtain ⟨A, c, rfl, hrx, -⟩ := own_rx HM.out hown
  obtain ⟨hov, hab⟩ := own_ov hown
  have L2 := Lib.hid (L1.out.trans (hb.mono L1.out.size))
  have R2 := Lib.hid hrx
  have O2 := Lib.hid hov
  have AB : Hid (∀ b, A = some ⟨b, 0, none⟩ → w.heap.size ≤ b ∧ b < w2.heap.size) := Lib.hid fun b e => ⟨Nat.le_trans L1.out.size (hab b e).1, (hab b e).2⟩
  clear hb hown hrx hov hab
  go_wp2_with fail
  refine Calls.mono (HR.out _) ?_
  rintro e w3 ⟨v, rfl, hown, hb⟩
  obtain ⟨B, d, rfl, hrx, -⟩ := own_rx HM.out hown
  obtain ⟨-, hbb⟩ := own_ov hown
  have L3 := Lib.hid (L2.out.trans (hb.mono L2.out.size))
  have R3 := Lib.hid (R2.out.below hb)
  have O3 := Lib.hid (O2.out.below hb)
  have Q3 := Lib.hid hrx
  have BB : Hid (∀ b g, B = some ⟨b, 0, none⟩ → A = some ⟨g, 0, none⟩ → b ≠ g) := Lib.hid fun b g e e' => by have := (hbb b e).1; have := (AB.out g e').2; omega
  have HSm := Lib.hid (ssame_yes A B m c d l HM16.out w3 R3.out Q3.out)
  clear hb hown hrx hbb
  go_wp2_with fail
  refine Calls.mono HSm.out ?_
  rintro e w4 ⟨rfl, q4, rfl⟩
  have L4 := Lib.hid (below_drewN L3.out q4)
  have O4 : Hid (Ov (w3.drewN q4) A m) := Lib.hid fun h0 => O3.out h0
  have Q4 : Hid (RX (w3.drewN q4) B m l) := Lib.hid Q3.out
  go_wp2_with fail
  go_loopw [15] (fun iv wr => ∃ j : Nat, j ≤ m ∧ iv = .int .i64 (j : Int) ∧ Hid (Ov wr A m ∧ RX wr B m l ∧ Below w.heap.size w wr)) (fun iv _ => m - (intOf iv).toNat)
  case atStart => exact ⟨0, Nat.zero_le _, rfl, Lib.hid ⟨O4.out, Q4.out, L4.out⟩⟩
  case round =>
    obtain ⟨j, hj, rfl, hh⟩ := hrel
    by_cases hlt : j < m
    · have hji : (j : Int) < m := by omega
      obtain ⟨g, cs, rfl, hB, hsz⟩ := hh.out.1 (by omega)
      have hge := (AB.out g rfl).1
      obtain ⟨u0, p0⟩ : ∃ u, wr.cell? ⟨g, j * 3, none⟩ = some u := ⟨_, by rw [hB.cell]; exact Array.getElem?_eq_getElem (by omega)⟩
      obtain ⟨u1, p1⟩ : ∃ u, wr.cell? ⟨g, j * 3 + 1, none⟩ = some u := ⟨_, by rw [hB.cell]; exact Array.getElem?_eq_getElem (by omega)⟩
      obtain ⟨u2, p2⟩ : ∃ u, wr.cell? ⟨g, j * 3 + 2, none⟩ = some u := ⟨_, by rw [hB.cell]; exact Array.getElem?_eq_getElem (by omega)⟩
      have z0 := hB.frozen (j * 3)
      have z1 := hB.frozen (j * 3 + 1)
      have z2 := hB.frozen (j * 3 + 2)
      have hne : ∀ b, B = some ⟨b, 0, none⟩ → b ≠ g := fun b e => BB.out b g e rfl
      have HN : Hid (Ov (((wr.setCell ⟨g, j * 3, none⟩ (.int .i64 0)).setCell ⟨g, j * 3 + 1, none⟩ (.int .i64 0)).setCell ⟨g, j * 3 + 2, none⟩ (.int .i64 0)) (some ⟨g, 0, none⟩) m ∧ RX (((wr.setCell ⟨g, j * 3, none⟩ (.int .i64 0)).setCell ⟨g, j * 3 + 1, none⟩ (.int .i64 0)).setCell ⟨g, j * 3 + 2, none⟩ (.int .i64 0)) B m l ∧ Below w.heap.size w (((wr.setCell ⟨g, j * 3, none⟩ (.int .i64 0)).setCell ⟨g, j * 3 + 1, none⟩ (.int .i64 0)).setCell ⟨g, j * 3 + 2, none⟩ (.int .i64 0))) := Lib.hid
        ⟨fun _ => ⟨g, _, rfl, ((hB.set_ (j * 3) _).set_ (j * 3 + 1) _).set_ (j * 3 + 2) _, by simpa using hsz⟩, rx_set (rx_set (rx_set hh.out.2.1 hne) hne) hne, ((hh.out.2.2.setCell (p := ⟨g, j * 3, none⟩) hge _).setCell (p := ⟨g, j * 3 + 1, none⟩) hge _).setCell (p := ⟨g, j * 3 + 2, none⟩) hge _⟩
      clear hh hB hsz hne
      go_wp2
      go_roundw
      case rel => exact ⟨j + 1, hlt, by go_num, HN⟩
      case measure => simp [intOf]; omega
    · obtain rfl : j = m := by omega
      have Q5 := Lib.hid hh.out.2.1
      have L5 := Lib.hid hh.out.2.2
      clear hh
      go_wp2_with fail
      refine Calls.mono (HC.out _) ?_
      rintro e w6 ⟨v, rfl, hown, hb⟩
      obtain ⟨A6, c6, rfl, hrx, -⟩ := own_rx HM.out hown
      have L6 := Lib.hid (L5.out.trans (hb.mono L5.out.size))
      have R6 := Lib.hid hrx
      have Q6 := Lib.hid (Q5.out.below hb)
      clear hb hown hrx
      have HSm6 := Lib.hid (ssame_yes A6 B j c6 d l HM16.out w6 R6.out Q6.out)
      go_wp2_with fail
      refine Calls.mono HSm6.out ?_
      rintro e w7 ⟨rfl, q7, rfl⟩
      have L7 := Lib.hid (below_drewN L6.out q7)
      go_wp2_with fail
      refine Calls.mono (HH.out _) ?_
      rintro e w8 ⟨rfl, hb⟩
      have L8 := Lib.hid (L7.out.trans (hb.mono L7.out.size))
      clear hb
      go_wp2_with fail
      refine Calls.mono (HG.out _) ?_
      rintro e w9 ⟨rfl, hb⟩
      have L9 := Lib.hid (L8.out.trans (hb.mono L8.out.size))
      clear hb
      go_wp2
      go_ret
      exact ⟨ret_bool (by simp), L9.out⟩
set_option maxRecDepth 100000 in
theorem contract (H : Type) (enc : TypeId × Value → H) (W : World) (base : Nat) (args : Array Value) (ds gs : List (DataW H)) (before : List MemPlace)
    (hval0 : ∀ (j : Nat) t v, Try.f6.params[j]? = some t → args[j]? = some v → Value.okWide Try.prog W .any base t v)
    (hW : DataW.Whole enc Try.prog Try.f6.params.toList Rows.sixChainsSpec.vars false W args.toList ds gs before)
    (hsz0 : (DataW.weightsEach Try.prog (Try.f6.params.toList ++ Rows.sixChainsSpec.plain.varTypes Try.prog) (ds ++ gs)).all (· ≤ reachBytes) = true) :
    Calls Try.prog 6 args W fun e W' => ∃ v, e = .returned v ∧ Rows.sixChainsSpec.post enc Try.prog Try.f6 false true false false W args v W' := by
  have hsz := hsz0
  clear hsz0
  have hval := hval0
  clear hval0
  have hW' := hW
  obtain ⟨p, q, hA0, hV, rfl, hfz, hnd⟩ := hW
  have hA : DataW.TrodAll enc Try.prog W 0 (fun _ => true) true Try.f6.params.toList args.toList ds p := hA0
  rw [Try.params6] at hA hval hsz
  obtain ⟨v0, vs0, d0, ds0, p0, q0, hargs, rfl, rfl, h0, r0⟩ := trodAll_cons hA
  obtain ⟨v1, vs1, d1, ds1, p1, q1, rfl, rfl, rfl, h1, r1⟩ := trodAll_cons r0
  obtain ⟨rfl, rfl, rfl⟩ := trodAll_nil r1
  obtain rfl : args = #[v0, v1] := by cases args; simp_all
  obtain ⟨rfl, rfl⟩ := trodVars_none hV
  obtain ⟨a0, rfl, rfl, rfl, w0⟩ := open_int Try.underlying3 (hval 0 3 v0 rfl rfl) h0
  obtain ⟨a1, rfl, rfl, rfl, w1⟩ := Go.ChangeMaps.open_string Try.underlying9 (hval 1 9 v1 rfl rfl) h1
  clear hA0
  refine (walk W a0 w0 a1 w1).mono fun e W' ⟨he, bel⟩ => ?_
  subst he
  exact ⟨_, rfl, _, _, _, [], _, [], hW', trodAll_mk1 (shut_bool Try.underlying4 _), (trodAll_cons_mk (shut_int Try.underlying3 w0) (trodAll_cons_mk (Go.ChangeMaps.shut_string Try.underlying9 w1) trodAll_mk0)), rfl, bel.frame _, fun h => by cases h⟩

set_option maxRecDepth 100000 in
theorem lifted (os : Os) (started : os.Started) (H : Type) (enc : TypeId × Value → H) :
    ReturnsInHanded {} Try.checked os 6 .any (Rows.sixChainsSpec.pre6 enc Try.prog Try.f6 Rows.sixChainsRow.domain false) (Rows.sixChainsSpec.post enc Try.prog Try.f6 false true false false) := by
  refine returnsInHanded_of_change_sized (C := Try.checked) own started (by kernel_rfl) Try.func6
    (ChangeSpec.witness6 (enc := enc) (C := Try.checked) false ⟨#[], #[.int .i64 0, .string ByteArray.empty], []⟩ 8 (by kernel_rfl) (by kernel_rfl) (by kernel_rfl) (by kernel_rfl)) ?_
  intro W base args ds gs before hval hW _ hsz _
  exact contract H enc W base args ds gs before hval hW hsz

theorem over : Rows.sixChainsRow.holds Try.pinned (OpenSpec.ofChange Rows.sixChainsSpec) :=
  OpenClaim.holds_of_wide 6 Try.f6 rfl rfl rfl rfl rfl rfl rfl ⟨rfl, rfl, rfl, rfl, rfl⟩ rfl rfl rfl rfl rfl (by kernel_rfl) Try.func6 (by kernel_rfl)
    (of_decide_eq_true (by kernel_rfl)) (by unfold Func.isWrapper; first | (rw [if_pos (by decide +kernel)]; kernel_rfl) | (rw [if_neg (by decide +kernel)]; exact ⟨rfl, rfl⟩))
    (fun os started H enc _ => lifted os started H enc)

theorem proved : Rows.SixChainsSaid := over
#print axioms proved
end Go.Proofs.Ytbhddodghbhjiaa.Chains
