/-
  The program's own wheel (layer 17): nextOf, Next.
-/
import Derived.Test.YthkjfgegmbdebaaWhE
namespace Go.Proofs.Ythkjfgegmbdebaa
open Go.RowKit
set_option linter.unusedVariables false

theorem nodup_le : ∀ {l L : List TmI}, l.Nodup → (∀ x ∈ l, x ∈ L) → l.length ≤ L.length
  | [], L, _, _ => Nat.zero_le _
  | x :: l, L, h, hs => by
    rw [List.nodup_cons] at h
    have hx := hs x (by simp)
    have := nodup_le (l := l) (L := L.erase x) h.2 (fun y hy => (List.mem_erase_of_ne (fun e => h.1 (by rw [← e]; exact hy))).2 (hs y (by simp [hy])))
    rw [List.length_erase_of_mem hx] at this
    have := List.length_pos_of_mem hx
    simp; omega
theorem slot_ahead {l t a : Nat} : slotI l (t + a * widI l) = (t / widI l + a) % 16 := by
  unfold slotI
  rw [Nat.add_mul_div_right _ _ (wid_pos l)]
section
variable {w : World} {p m t a : Nat} {lv : List Value} {ll : List (List TmI)} {M : List (Int × Value)} {L : List TmI}
theorem InvC.few (h : InvC 3 t ll [] M L) {k : Nat} {l : List TmI} (hl : ll[k]? = some l) : l.length ≤ L.length := nodup_le (h.nodup hl) fun x hx => h.inL hl hx
set_option maxRecDepth 100000 in
set_option maxHeartbeats 4000000 in
theorem nextOf_any (h : WhM w p m t a lv ll M) (hI : InvC 3 t ll [] M L) (hd : ∀ x ∈ L, t < x.2.1) (hL : L.length ≤ 1000) (ht : t ≤ 100000000) (j : Nat) (hj : j < 3) :
    Calls Try.prog 32 #[ptrV p, .int .i64 (j : Int)] w fun e w' => ∃ n : Nat, e = .returned (.int .i64 (n : Int)) ∧ LevO t ll (fun k => k / 16 = j) n ∧ n ≤ 4095 ∧ Tch w w' [] := by
  have HWd := Lib.hid (fun W => width_any j hj W)
  have hW9 : widI j ≤ 256 := by unfold widI; split; decide; split <;> decide
  have HSl := Lib.hid (fun b (hb : b ≤ 16) W => slotOf_any j (t + b * widI j) hj (by have : b * widI j ≤ 16 * 256 := Nat.mul_le_mul hb hW9; omega) W)
  have HSa := Lib.hid (fun b => slot_ahead (l := j) (t := t) (a := b))
  have HH := Lib.hid (fun W (hT : Tch w W []) => h.tch hT (by simp))
  have HL := Lib.hid (fun (k : Nat) (l : List TmI) (hl : ll[k]? = some l) => Nat.le_trans (hI.few hl) hL)
  have HNear := Lib.hid (fun b hb hE li hli x hx hm => hI.lev hd hj (a := b) hb hE (li := li) hli (x := x) hx hm)
  have HNo := Lib.hid (lev_none (t := t) (ll := ll) hj)
  have HDu := Lib.hid (fun (k : Nat) (l : List TmI) (hl : ll[k]? = some l) x hx => And.intro (hd x (hI.inL hl hx)) (hI.due x (hI.inL hl hx)).2)
  have HMin := Lib.hid minf_any
  have H48 := Lib.hid (And.intro h.n48 h.l48)
  obtain ⟨wd, hwd⟩ : ∃ wd, widI j = wd := ⟨_, rfl⟩
  rw [hwd] at HWd HSl hW9 HSa HNear HNo
  have HC := Lib.hid (And.intro hW9 (And.intro ht hj))
  have i0 : (0 : Int) ≤ (j : Int) := by omega
  have i1 : (j : Int) < 3 := by omega
  have HZ := Lib.hid (Tch.refl w [])
  clear h hI hd hL ht hj hW9 hwd
  go_enter Try.func32, Try.ntmps32
  go_wp2_with fail
  go_loopw [5] (fun bv wr => ∃ b : Nat, bv = .int .i64 (b : Int) ∧ 1 ≤ b ∧ b ≤ 17 ∧ Hid (∀ b', 1 ≤ b' → b' < b → ll[16 * j + (t / wd + b') % 16]? = some []) ∧ Hid (Tch w wr [])) (fun bv _ => 17 - (intOf bv).toNat)
  case atStart => exact ⟨1, rfl, by decide, by decide, Lib.hid (fun b' h1 h2 => by omega), HZ⟩
  case round =>
    obtain ⟨b, rfl, hb1, hb17, hE, hT⟩ := hrel
    by_cases hb : b ≤ 16
    · have bI : (b : Int) ≤ 16 := by omega
      have hcc := HC.out
      have hbw : b * wd ≤ 16 * 256 := Nat.mul_le_mul hb hcc.1
      obtain ⟨z, hz⟩ : ∃ z, b * wd = z := ⟨_, rfl⟩
      have w1 : IntKind.i64.wrap ((b : Int) * (wd : Int)) = (z : Int) := by rw [← hz, IntKind.wrap_i64, Int.natCast_mul]; rw [← hz] at *; have : ((b : Int) * (wd : Int)) = ((b * wd : Nat) : Int) := by rw [Int.natCast_mul]
                                                                            omega
      have w2 : IntKind.i64.wrap ((t : Int) + (z : Int)) = ((t + z : Nat) : Int) := by rw [IntKind.wrap_i64]; omega
      have w3 : IntKind.i64.wrap ((b : Int) + 1) = (b : Int) + 1 := by rw [IntKind.wrap_i64]; omega
      have HSb := Lib.hid (fun W => HSl.out b hb W)
      rw [hz] at HSb
      have hsa := HSa.out b
      rw [hz] at hsa
      obtain ⟨so, hso⟩ : ∃ so, (t / wd + b) % 16 = so := ⟨_, rfl⟩
      have hso16 : so < 16 := by rw [← hso]; exact Nat.mod_lt _ (by decide)
      rw [hso] at hsa
      rw [hsa] at HSb
      have i2 : (0 : Int) ≤ (so : Int) := by omega
      have i3 : (so : Int) < 16 := by omega
      have hk : 16 * j + so < 48 := by omega
      obtain ⟨v, hv⟩ : ∃ v, lv[16 * j + so]? = some v := ⟨_, List.getElem?_eq_getElem (by rw [H48.out.1]; exact hk)⟩
      obtain ⟨l, hl⟩ : ∃ l, ll[16 * j + so]? = some l := ⟨_, List.getElem?_eq_getElem (by rw [H48.out.2]; exact hk)⟩
      have hro := (HH.out wr hT.out).rows _ v l hv hl
      obtain ⟨A, c, rfl, -, -⟩ := own_sl hro
      have c0 := (HH.out wr hT.out).now
      have c1 := (HH.out wr hT.out).slot hv
      rw [show 16 * j + so + 2 = 2 + j * 16 + so by omega] at c1
      obtain ⟨n, hn⟩ : ∃ n, l.length = n := ⟨_, rfl⟩
      have hn9 := HL.out _ l hl
      rw [hn] at c1 hro hn9
      have HHv := Lib.hid hv
      have HHl := Lib.hid hl
      have HSo := Lib.hid hso
      have HN := Lib.hid (And.intro hn hn9)
      have HRow : Hid (∀ W, Tch wr W [] → W.ownsRow 0 57 3 (.slice A n c) n (l.flatMap tmC)) := Lib.hid (fun W hW => own_tch hro hW (by simp))
      have HB := Lib.hid (And.intro hb (And.intro hb1 (And.intro w3 bI)))
      clear hv hl hso hro hn hk hsa hz hcc hbw hso16 hn9
      go_wp2
      go_quiet (first | (go_at_call 27; exact Calls.quiet_of_same (HWd.out _)) | (go_at_call 34; exact Calls.quiet_of_same (HSb.out _)))
      obtain ⟨W1, hW1⟩ : ∃ W, wr.drewN nq = W := ⟨_, rfl⟩
      have HT1 : Hid (Tch wr W1 []) := Lib.hid (hW1 ▸ (Tch.refl wr []).drewN nq)
      rw [hW1]
      clear hW1 c0 c1
      rcases Nat.eq_zero_or_pos n with h0 | h0
      · subst h0
        have w3 := HB.out.2.2.1
        go_wp2
        go_roundw
        case rel =>
          refine ⟨b + 1, by go_num, by omega, by have := HB.out.1; omega, Lib.hid (fun b' h1 h2 => ?_), Lib.hid (hT.out.trans HT1.out)⟩
          by_cases e : b' = b
          · subst e
            rw [HSo.out, HHl.out]
            rw [List.eq_nil_of_length_eq_zero HN.out.1]
          · exact hE.out b' h1 (by omega)
        case measure => have := HB.out; simp [intOf]; omega
      · have n0 : (0 : Int) < (n : Int) := by omega
        have n1 : ¬ (n : Int) ≤ 0 := by omega
        have HMn := Lib.hid (HMin.out A n c l HN.out.1 h0 (by have := HN.out.2; omega) W1 (HRow.out W1 HT1.out))
        go_wp2_with fail
        refine Calls.mono HMn.out ?_
        rintro e W2 ⟨x, hx, hmin, rfl, hT2⟩
        have HLev := HNear.out b ⟨HB.out.2.1, HB.out.1⟩ hE.out l (by rw [HSo.out]; exact HHl.out) x hx hmin
        have hdu := HDu.out _ l HHl.out x hx
        have HT2 := Lib.hid ((hT.out.trans HT1.out).trans hT2)
        obtain ⟨x0, x1, x2⟩ := x
        have c0 := (((Tch.refl W2 []).alloc (.cells #[.int .i64 x0, .int .i64 (x1 : Int), .int .i64 (x2 : Int)] 57)).cell (p := ⟨p, 0, none⟩) ((HH.out W2 HT2.out).lt p (by simp)) (by simp)).trans (HH.out W2 HT2.out).now
        have b0 := ((Blk.new W2 57 #[.int .i64 x0, .int .i64 (x1 : Int), .int .i64 (x2 : Int)]).cell 1).trans (show _ = some (Value.int .i64 (x1 : Int)) by rfl)
        have w4 : IntKind.i64.wrap ((x1 : Int) - (t : Int)) = ((x1 - t : Nat) : Int) := by have := HC.out; simp only at hdu; rw [IntKind.wrap_i64]; omega
        have HE2 := Lib.hid (And.intro HLev hdu)
        clear hx hmin hT2 HLev hdu
        go_wp2_with fail
        go_quiet (fail)
        go_wp2
        go_ret
        exact ⟨x1 - t, rfl, HE2.out.1, by have := HE2.out.2; omega, (HT2.out.alloc _).drewN _⟩
    · have bI : ¬ (b : Int) ≤ 16 := by omega
      obtain rfl : b = 17 := by omega
      have HE2 := Lib.hid (HNo.out hE.out)
      go_wp2
      go_ret
      exact ⟨0, rfl, HE2.out, by decide, hT.out⟩
set_option maxRecDepth 100000 in
set_option maxHeartbeats 4000000 in
theorem next_any (h : WhM w p m t a lv ll M) (hI : InvC 3 t ll [] M L) (hd : ∀ x ∈ L, t < x.2.1) (hL : L.length ≤ 1000) (ht : t ≤ 100000000) :
    Calls Try.prog 23 #[ptrV p] w fun e w' => e = .returned (.int .i64 (nxtV L t : Int)) ∧ Tch w w' [] := by
  have HNx := Lib.hid (fun j (hj : j < 3) W (hT : Tch w W []) => nextOf_any (h.tch hT (by simp)) hI hd hL ht j hj)
  have HEnd := Lib.hid (fun n (hn : LevO t ll (fun k => k < 48) n) => hI.nxt hd hn)
  have HZ := Lib.hid (Tch.refl w [])
  clear h hI hd hL ht
  go_enter Try.func23, Try.ntmps23
  go_wp2_with fail
  go_loopw [3, 6] (fun nv jv wr => ∃ (n j : Nat), nv = .int .i64 (n : Int) ∧ jv = .int .i64 (j : Int) ∧ j ≤ 3 ∧ Hid (LevO t ll (fun k => k < 16 * j) n) ∧ Hid (Tch w wr [])) (fun _ jv _ => 3 - (intOf jv).toNat)
  case atStart => exact ⟨0, 0, rfl, rfl, by decide, Lib.hid (.inl ⟨rfl, fun k l hk => by omega⟩), HZ⟩
  case round =>
    obtain ⟨n, j, rfl, rfl, hj3, hn, hT⟩ := hrel
    by_cases hj : j < 3
    · have jI : (j : Int) < 3 := by omega
      have w1 : IntKind.i64.wrap ((j : Int) + 1) = (j : Int) + 1 := by rw [IntKind.wrap_i64]; omega
      have HC := Lib.hid (HNx.out j hj wr hT.out)
      go_wp2_with fail
      refine Calls.mono HC.out ?_
      rintro e w2 ⟨m', rfl, hl, h4, hT2⟩
      have HSt := Lib.hid (hn.out.step hl)
      have HT2 := Lib.hid (hT.out.trans hT2)
      clear hl hT2 HC
      by_cases m0 : 0 < m'
      · have m1 : (0 : Int) < (m' : Int) := by omega
        by_cases n0 : n = 0
        · subst n0
          rw [if_pos ⟨m0, .inl rfl⟩] at HSt
          go_wp2
          go_roundw
          case rel => exact ⟨m', j + 1, rfl, by go_num, hj, HSt, HT2⟩
          case measure => simp [intOf]; omega
        · have n1 : ((n : Int) == 0) = false := by simp; omega
          by_cases hlt : m' < n
          · have l1 : (m' : Int) < (n : Int) := by omega
            rw [if_pos ⟨m0, .inr hlt⟩] at HSt
            go_wp2
            go_roundw
            case rel => exact ⟨m', j + 1, rfl, by go_num, hj, HSt, HT2⟩
            case measure => simp [intOf]; omega
          · have l1 : ¬ (m' : Int) < (n : Int) := by omega
            rw [if_neg (by omega)] at HSt
            go_wp2
            go_roundw
            case rel => exact ⟨n, j + 1, rfl, by go_num, hj, HSt, HT2⟩
            case measure => simp [intOf]; omega
      · have m1 : ¬ (0 : Int) < (m' : Int) := by omega
        rw [if_neg (by omega)] at HSt
        go_wp2
        go_roundw
        case rel => exact ⟨n, j + 1, rfl, by go_num, hj, HSt, HT2⟩
        case measure => simp [intOf]; omega
    · have jI : ¬ (j : Int) < 3 := by omega
      obtain rfl : j = 3 := by omega
      have HE := Lib.hid (HEnd.out n hn.out)
      go_wp2
      go_ret
      exact ⟨by rw [HE.out]; rfl, hT.out⟩
end
end Go.Proofs.Ythkjfgegmbdebaa
