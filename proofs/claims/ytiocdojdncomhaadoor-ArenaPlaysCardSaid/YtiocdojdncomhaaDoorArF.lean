/-
  The document's own arena (layer 10): the free blocks within a block.
-/
import Derived.Test.YtiocdojdncomhaaDoorArR
import Derived.Test.YtiocdojdncomhaaDoorAppk
import Derived.Laws.OwnMore
namespace Go.Proofs.YtiocdojdncomhaaDoor
open Go.RowKit
set_option linter.unusedVariables false

def bcell (b : Bl) : List Value := [.int .i64 (b.1 : Int), .int .i64 (b.2 : Int)]
def bcells (l : List Bl) : List Value := l.flatMap bcell
theorem bcells_app (l m : List Bl) : bcells (l ++ m) = bcells l ++ bcells m := by simp [bcells]
theorem bcells_len (l : List Bl) : (bcells l).length = l.length * 2 := by
  induction l with
  | nil => rfl
  | cons x r ih => simp only [bcells, List.flatMap_cons, List.length_append, List.length_cons] at ih ⊢; rw [ih]; simp [bcell]; omega
theorem bcells_at : ∀ (l : List Bl) (j : Nat) (x : Bl), l[j]? = some x → (bcells l)[j * 2]? = some (.int .i64 (x.1 : Int)) ∧ (bcells l)[j * 2 + 1]? = some (.int .i64 (x.2 : Int))
  | y :: r, 0, x, h => by cases h; exact ⟨rfl, rfl⟩
  | y :: r, j + 1, x, h => by
    have := bcells_at r j x h
    simp only [bcells, List.flatMap_cons] at this ⊢
    have hl : (bcell y).length = 2 := rfl
    rw [List.getElem?_append_right (by omega), List.getElem?_append_right (by omega), hl, show (j + 1) * 2 - 2 = j * 2 by omega, show (j + 1) * 2 + 1 - 2 = j * 2 + 1 by omega]
    exact this
theorem bcells_of {l : List Bl} {j : Nat} {u : Value} (h : (bcells l)[j]? = some u) : ∃ i x, l[i]? = some x ∧ ((j = i * 2 ∧ u = .int .i64 (x.1 : Int)) ∨ (j = i * 2 + 1 ∧ u = .int .i64 (x.2 : Int))) := by
  have hj : j < l.length * 2 := by rw [← bcells_len]; exact (List.getElem?_eq_some_iff.1 h).1
  obtain ⟨i, hi⟩ : ∃ i, j = i * 2 ∨ j = i * 2 + 1 := ⟨j / 2, by omega⟩
  have hl : i < l.length := by omega
  have hx := bcells_at l i l[i] (List.getElem?_eq_getElem hl)
  refine ⟨i, l[i], List.getElem?_eq_getElem hl, ?_⟩
  rcases hi with e | e
  · subst e; rw [hx.1] at h; injection h with h; exact .inl ⟨rfl, h.symm⟩
  · subst e; rw [hx.2] at h; injection h with h; exact .inr ⟨rfl, h.symm⟩
theorem infoBl : (Tryd.prog.info? 59).map (fun i => (i.zero, i.size, i.bytes)) = some (some (.agg #[.int .i64 0, .int .i64 0]), 2, 16) := by kernel_rfl
/-- 'append' of a row of blocks onto a row of the call's own. -/
theorem wpList_appb (w : World) {ops : Array Oper} {rest : List Oper} {o : Oper} {a : Act} {Q : Exit → Act → World → Prop} (hgd : o.guard = none) (s x : Operand)
    (ho : o.op = .call { callee := .builtin .append, args := #[s, x], argTypes := #[55, 55] })
    (base : Nat) (v : Value) (l : List Bl) (n : Nat) (hs : a.eval s = v) (hown : w.ownsRow base 59 2 v n (bcells l))
    (A : Option Addr) (m c : Nat) (zs : List Bl) (hx : a.eval x = .slice A m c) (hA : A = none → c = 0) (hr : RBk w A m zs)
    (hsz : n + m ≤ 1000000) (hbase : base ≤ w.heap.size)
    (h : ∀ v' w', w'.ownsRow base 59 2 v' (n + m) (bcells (l ++ zs)) → w.grownBy w' v.ownBlock → wpList Tryd.prog ops Q rest (a.put o.dst v') w') :
    wpList Tryd.prog ops Q (o :: rest) a w := by
  obtain ⟨i0, hi, hz0, hz1, hz2⟩ := info_parts infoBl
  rcases A with _ | ad
  · obtain rfl := hA rfl
    have hm : m = 0 := by
      rcases Nat.eq_zero_or_pos m with h0 | h0
      · exact h0
      · obtain ⟨_, _, e, _⟩ := hr.2 h0
        cases e
    subst hm
    obtain rfl : zs = [] := List.eq_nil_of_length_eq_zero hr.1
    refine wpList_append_own_none hgd s x 55 ho base 59 i0 2 Tryd.underlying55 hi v n _ hs hown hx ?_
    exact h v w (by simpa using hown) (World.grownBy.refl w _)
  · refine wpList_append_own_at w hgd s x 55 ho base 59 i0 (.agg #[.int .i64 0, .int .i64 0]) 2 16 Tryd.underlying55 hi hz0 hz1 hz2 rfl (by decide) v n _ hs hown ad m c (bcells zs) hx (by rw [bcells_len, hr.1]) (fun j u hj => by
      obtain ⟨i, y, hy, hc⟩ := bcells_of hj
      have hm : 0 < m := by rw [← hr.1]; have := (List.getElem?_eq_some_iff.1 hy).1; omega
      obtain ⟨b, o', e, -, hcell⟩ := hr.2 hm
      injection e with e
      subst e
      obtain ⟨c1, c2⟩ := hcell i y hy
      have ea : (⟨b, o', none⟩ : Addr).add j = ⟨b, o' + j, none⟩ := by unfold Addr.add; split <;> simp_all
      rw [ea]
      rcases hc with ⟨rfl, rfl⟩ | ⟨rfl, rfl⟩
      · exact c1
      · exact c2) (fun u hu => by
      obtain ⟨j, hj, e⟩ := List.mem_iff_getElem.1 hu
      obtain ⟨i, y, hy, hc⟩ := bcells_of (l := zs) (j := j) (u := u) (by rw [List.getElem?_eq_getElem hj, e])
      rcases hc with ⟨-, rfl⟩ | ⟨-, rfl⟩ <;> rfl) (by unfold maxLen; omega) (by omega) hbase ?_
    intro v' w' h1 h2 h3 h4
    exact h v' w' (by rw [bcells_app]; exact h1) h2
theorem own_rbk {w : World} {base n : Nat} {l : List Bl} {v : Value} (hn : l.length = n) (h : w.ownsRow base 59 2 v n (bcells l)) : ∃ A c, v = .slice A n c ∧ RBk w A n l ∧ n ≤ c ∧ (A = none → c = 0) ∧ (∀ x, A = some x → base ≤ x.block) := by
  rcases h.2 with ⟨rfl, h0⟩ | ⟨g, cap, cur, rfl, h1, h2, h3, h4, h5, h6⟩
  · subst h0
    exact ⟨none, 0, rfl, ⟨hn, fun h => absurd h (by omega)⟩, Nat.le_refl _, (fun _ => rfl), fun _ h => by cases h⟩
  · have hb : Blk w g 59 cur := h2
    refine ⟨_, _, rfl, ⟨hn, fun _ => ⟨g, 0, rfl, hb.lt, fun j x hx => ?_⟩⟩, h3, (fun h => by cases h), fun x hx => by injection hx with hx; subst hx; exact h1⟩
    have hj : j < n := by rw [← hn]; exact (List.getElem?_eq_some_iff.1 hx).1
    obtain ⟨e1, e2⟩ := bcells_at l j x hx
    rw [← h6, List.getElem?_take, if_pos (by omega)] at e1 e2
    rw [Nat.zero_add]
    exact ⟨by rw [hb.cell]; simpa using e1, by rw [hb.cell]; simpa using e2⟩
/-- What hands back free blocks: a row of the call's own. -/
def BlOut (w : World) (l : List Bl) (e : Ending) (w' : World) : Prop := ∃ v, e = .returned v ∧ w'.ownsRow w.heap.size 59 2 v l.length (bcells l) ∧ Below w.heap.size w w'
theorem fre_count (L : List Bl) : ∀ (k p : Nat), (fre L k p).length ≤ 2 ^ k
  | 0, p => by unfold fre; split <;> simp
  | k + 1, p => by
    have h1 := fre_count L k p
    have h2 := fre_count L k (p + 2 ^ k)
    have := two_pos k
    unfold fre
    split
    · simp; omega
    · split
      · simp
      · rw [List.length_append, Nat.pow_succ]; omega
theorem own_monoB {w : World} {base base' : Nat} {e : TypeId} {size : Nat} {v : Value} {n : Nat} {xs : List Value} (h : w.ownsRow base e size v n xs) (hb : base' ≤ base) : w.ownsRow base' e size v n xs := by
  refine ⟨h.1, ?_⟩
  rcases h.2 with h | ⟨g, cap, cur, a, b, c⟩
  · exact .inl h
  · exact .inr ⟨g, cap, cur, a, Nat.le_trans hb b, c⟩
theorem own_keepB {w w' : World} {base : Nat} {e : TypeId} {size : Nat} {v : Value} {n : Nat} {xs : List Value} (h : w.ownsRow base e size v n xs) (hb : Below w.heap.size w w') : w'.ownsRow base e size v n xs :=
  h.kept (row := none) ⟨hb.os, hb.tape, hb.output, hb.size, fun k hk _ => hb.block k hk⟩ (by cases hv : v.ownBlock <;> simp)
theorem fre_clr {L : List Bl} {k p : Nat} (h : clr L p k = true) : fre L k p = [(p, k)] := by
  cases k with
  | zero => unfold fre; rw [if_pos h]
  | succ k => unfold fre; rw [if_pos h]
set_option maxRecDepth 100000 in
set_option maxHeartbeats 8000000 in
theorem free_any (r O : Nat) (L : List Bl) (hL : Sml L) : ∀ (k p : Nat), k ≤ 16 → p + 2 ^ k ≤ 65536 → ∀ w, ArD w r O L →
    Calls Tryd.prog 33 #[.pointer (some ⟨r, 0, none⟩), .int .i64 (p : Int), .int .i64 (k : Int)] w (BlOut w (fre L k p)) := by
  intro k
  induction k with
  | zero =>
    intro p hk hp w h
    have HW := Lib.hid (within_any r O p 0 L hL (by decide) (by omega) w h)
    clear hk hp h
    go_enter Tryd.func33, Tryd.ntmps33
    go_wp2_with fail
    refine Calls.mono HW.out ?_
    rintro e w1 ⟨c, rfl, hc, hb⟩
    have HB := Lib.hid hb
    clear hb
    by_cases h0 : c = 0
    · have HF : Hid (fre L 0 p = [(p, 0)]) := Lib.hid (fre_clr (hc.1 h0))
      have d0 : ((c : Int) == 0) = true := by simp; omega
      clear hc h0
      go_wp2
      go_ret
      rw [HF.out]
      exact ⟨_, rfl, World.ownsRow_lit w1 #[.int .i64 (p : Int), .int .i64 0] 1 HB.out.size (by decide) rfl, HB.out.alloc HB.out.size _⟩
    · have HF : Hid (fre L 0 p = []) := Lib.hid (by unfold fre; rw [if_neg (fun h => h0 (hc.2 h))])
      have d0 : ((c : Int) == 0) = false := by simp; omega
      clear hc h0
      go_wp2
      go_ret
      rw [HF.out]
      exact ⟨_, rfl, ⟨rfl, .inl ⟨rfl, rfl⟩⟩, HB.out⟩
  | succ k ih =>
    intro p hk hp w h
    have hs : 2 ^ (k + 1) = 2 ^ k + 2 ^ k := by rw [Nat.pow_succ]; omega
    have hp16 := pow16 (show k ≤ 16 by omega)
    have HI1 := Lib.hid (ih p (by omega) (by omega))
    have HI2 := Lib.hid (ih (p + 2 ^ k) (by omega) (by omega))
    have HZ := Lib.hid (fun W => size_any k (by omega) W)
    have HW := Lib.hid (within_any r O p (k + 1) L hL hk (by omega) w h)
    have HCv := Lib.hid (fun W hW => cover_any r O p (k + 1) L hL hk (by omega) W hW)
    have HA := Lib.hid h
    have HN1 : Hid ((fre L k p).length ≤ 65536) := Lib.hid (Nat.le_trans (fre_count L k p) hp16.2)
    have HN2 : Hid ((fre L k (p + 2 ^ k)).length ≤ 65536) := Lib.hid (Nat.le_trans (fre_count L k _) hp16.2)
    obtain ⟨P, hP⟩ : ∃ P : Nat, 2 ^ k = P := ⟨_, rfl⟩
    obtain ⟨q, hq⟩ : ∃ q : Nat, p + P = q := ⟨_, rfl⟩
    rw [hP] at HI2 HZ HN2 hp16
    rw [hq] at HI2 HN2
    have HPQ : Hid (p + 2 ^ k = q) := Lib.hid (by rw [hP, hq])
    have jk : IntKind.i64.wrap (k : Int) = k := by rw [IntKind.wrap_i64]; omega
    have jq : IntKind.i64.wrap ((p : Int) + (P : Int)) = (q : Int) := by rw [IntKind.wrap_i64]; omega
    have jk0 : (((k + 1 : Nat) : Int) == 0) = false := by simp; omega
    clear hk hp h hs hp16 hP hq ih
    go_enter Tryd.func33, Tryd.ntmps33
    go_wp2_with fail
    refine Calls.mono HW.out ?_
    rintro e w1 ⟨c, rfl, hc, hb⟩
    have HB := Lib.hid hb
    have A1 := Lib.hid (HA.out.below hb)
    clear hb
    by_cases h0 : c = 0
    · have HF : Hid (fre L (k + 1) p = [(p, k + 1)]) := Lib.hid (fre_clr (hc.1 h0))
      have d0 : ((c : Int) == 0) = true := by simp; omega
      clear hc h0
      go_wp2
      go_ret
      rw [HF.out]
      exact ⟨_, rfl, World.ownsRow_lit w1 #[.int .i64 (p : Int), .int .i64 ((k + 1 : Nat) : Int)] 1 HB.out.size (by decide) rfl, HB.out.alloc HB.out.size _⟩
    · have d0 : ((c : Int) == 0) = false := by simp; omega
      have HNc : Hid (¬ clr L p (k + 1) = true) := Lib.hid (fun h => h0 (hc.2 h))
      clear hc h0
      go_wp2_with fail
      refine Calls.mono (HCv.out _ A1.out) ?_
      rintro e w2 ⟨rfl, hb⟩
      have B2 := Lib.hid (HB.out.trans (hb.mono HB.out.size))
      have A2 := Lib.hid (A1.out.below hb)
      clear hb
      obtain ⟨V, hV⟩ : ∃ V, cvr L p (k + 1) = V := ⟨_, rfl⟩
      rw [hV]
      cases V with
      | true =>
        have HF : Hid (fre L (k + 1) p = []) := Lib.hid (by unfold fre; rw [if_neg HNc.out, if_pos hV])
        clear hV
        go_wp2
        go_ret
        rw [HF.out]
        exact ⟨_, rfl, ⟨rfl, .inl ⟨rfl, rfl⟩⟩, B2.out⟩
      | false =>
        have HF : Hid (fre L (k + 1) p = fre L k p ++ fre L k q) := Lib.hid (by rw [← HPQ.out]; conv => lhs; unfold fre; rw [if_neg HNc.out, if_neg (by rw [hV]; decide)])
        clear hV
        go_wp2_with fail
        refine Calls.mono (HI1.out _ A2.out) ?_
        rintro e w3 ⟨v, rfl, hown, hb⟩
        obtain ⟨Av, cv, rfl, -, -, -, -⟩ := own_rbk rfl hown
        have B3 := Lib.hid (B2.out.trans (hb.mono B2.out.size))
        have A3 := Lib.hid (A2.out.below hb)
        have O3 := Lib.hid (own_monoB hown B2.out.size)
        clear hb hown
        go_wp2_with fail
        refine Calls.mono (HZ.out _) ?_
        rintro e w4 ⟨rfl, rfl⟩
        go_wp2_with fail
        refine Calls.mono (HI2.out _ A3.out) ?_
        rintro e w5 ⟨v2, rfl, hown, hb⟩
        obtain ⟨A2', c2, rfl, hrb, -, hnn, -⟩ := own_rbk rfl hown
        have B5 := Lib.hid (B3.out.trans (hb.mono B3.out.size))
        have O5 := Lib.hid (own_keepB O3.out hb)
        have R5 := Lib.hid hrb
        clear hb hown hrb
        go_wp2_with (at_builtin; refine wpList_appb _ rfl (.tmp 30) (.tmp 39) rfl w.heap.size (.slice Av (fre L k p).length cv) (fre L k p) (fre L k p).length rfl O5.out A2' (fre L k q).length c2 (fre L k q) rfl hnn R5.out (by have := HN1.out; have := HN2.out; omega) B5.out.size ?_; intro v6 w6 hown6 hg6; have O6 := Lib.hid hown6; have B6 := Lib.hid (B5.out.grown hg6 B5.out.size (fun j hj => own_basek O5.out j hj)); clear hown6 hg6)
        go_ret
        rw [HF.out]
        refine ⟨v6, rfl, ?_, B6.out⟩
        rw [List.length_append]
        exact O6.out
end Go.Proofs.YtiocdojdncomhaaDoor
