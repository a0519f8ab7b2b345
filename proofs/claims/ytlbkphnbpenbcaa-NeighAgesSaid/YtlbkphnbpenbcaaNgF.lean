/-
  The program's own cache of neighbours (layer 19): what the walks of its calls share.
-/
import Derived.Test.YtlbkphnbpenbcaaNgC
import Derived.Test.YtlbkphnbpenbcaaNgD
namespace Go.Proofs.Ytlbkphnbpenbcaa
open Go.RowKit
set_option linter.unusedVariables false

theorem infoAc : (Try.prog.info? 41).map (fun i => (i.zero, i.size, i.bytes)) = some (some (.agg #[.int .i64 0, .int .i64 0, .bool false, .int .u64 0, .int .u64 0, .int .u64 0, .string ⟨#[]⟩]), 7, 64) := by kernel_rfl
theorem infoSt : (Try.prog.info? 9).map (fun i => (i.zero, i.size, i.bytes)) = some (some (.string ⟨#[]⟩), 1, 16) := by kernel_rfl
theorem one4 {a b c d : Value} (ha : a.oneCell' = true) (hb : b.oneCell' = true) (hc : c.oneCell' = true) (hd : d.oneCell' = true) : ∀ v ∈ (#[a, b, c, d] : Array Value).toList, v.oneCell' = true := by
  intro v hv; simp at hv; rcases hv with rfl | rfl | rfl | rfl <;> assumption
/-- What a call tells and leaves. -/
def ActR (w w' : World) (t : Nat) (S : List Nat) (r : List AcI × Int × TbI) (e : Ending) : Prop :=
  ∃ A c S', e = .returned (.tuple #[.slice A r.1.length c, .int .i64 r.2.1]) ∧ w'.ownsRow w.heap.size 41 7 (.slice A r.1.length c) r.1.length (r.1.flatMap acC) ∧ NgP w' t S' r.2.2 ∧ Goes w w' S S'
theorem act_at (p : Int) (s : Bool) (hi lo : Nat) (kind m : Int) (q : ByteArray) (w : World) : Calls Try.prog 34 #[.agg #[.int .i64 p, .bool s, .int .u64 (hi : Int), .int .u64 (lo : Int)], .int .i64 kind, .int .u64 m, .string q] w fun e w' => e = .returned (.agg #[.int .i64 kind, .int .i64 p, .bool s, .int .u64 (hi : Int), .int .u64 (lo : Int), .int .u64 m, .string q]) ∧ Tch w w' [] := act_any (p, s, hi, lo) kind m q w
theorem own_above {w : World} {base n c sz m : Nat} {t : TypeId} {A : Option Addr} {xs : List Value} (h : w.ownsRow base t sz (.slice A n c) n xs) (hm : m < base) : ∀ s ∈ obI (.slice A n c), s ∉ [m] := fun s hs e => by
  have := (own_geI h s hs).1
  rw [List.mem_singleton.1 e] at this
  omega
theorem gt_cases {L : TbI} (h : InvT L) {k : KyI} {st mac lft ask : Int} {wts : List ByteArray} (hE : gtE L k = ⟨st, mac, lft, ask, wts⟩) : (fnd L k = none ∧ st = 0 ∧ mac = 0 ∧ lft = 0 ∧ ask = 0 ∧ wts = []) ∨ (fnd L k = some ⟨st, mac, lft, ask, wts⟩ ∧ OkE ⟨st, mac, lft, ask, wts⟩) := by
  unfold gtE at hE
  cases hf : fnd L k with
  | none =>
    rw [hf] at hE
    injection hE with h1 h2 h3 h4 h5
    exact .inl ⟨rfl, h1.symm, h2.symm, h3.symm, h4.symm, h5.symm⟩
  | some e =>
    rw [hf] at hE
    have he : e = ⟨st, mac, lft, ask, wts⟩ := hE
    exact .inr ⟨by rw [he], he ▸ (h.okF hf).1⟩
theorem own_one {w : World} {base : Nat} {ty : TypeId} {sz : Nat} {cs : Array Value} (hs : cs.size = sz) (hb : base ≤ w.heap.size) : (w.alloc (.cells cs ty)).ownsRow base ty sz (.slice (some ⟨w.heap.size, 0, none⟩) 1 1) 1 cs.toList := by
  refine ⟨by simp [hs], .inr ⟨w.heap.size, 1, cs, rfl, hb, Blk.new w ty cs, Nat.le_refl _, by unfold maxLen; omega, by omega, ?_⟩⟩
  rw [List.take_of_length_le (by simp [hs])]
theorem actr_of {w w' : World} {t : Nat} {S S' : List Nat} {r : List AcI × Int × TbI} {acts : List AcI} {no : Int} {L' : TbI} {A : Option Addr} {n c : Nat} (hr : r = (acts, no, L')) (ho : w'.ownsRow w.heap.size 41 7 (.slice A n c) n (acts.flatMap acC)) (hn : acts.length = n) (hp : NgP w' t S' L') (hg : Goes w w' S S') : ActR w w' t S r (.returned (.tuple #[.slice A n c, .int .i64 no])) := by
  subst hr hn
  exact ⟨A, c, S', rfl, ho, hp, hg⟩
theorem wpo_apc (tS tE : TypeId) (zv : Value) (sz by_ : Nat) (hu : Try.prog.underlying tS = some (.slice tE)) (hinf : (Try.prog.info? tE).map (fun i => (i.zero, i.size, i.bytes)) = some (some zv, sz, by_)) (hzs : zv.cells.size = sz) (hsz : 0 < sz) (hby : by_ ≤ 1000)
    {o : Oper} {a : Act} {w : World} {K : Act → World → Prop} {Q : Exit → Act → World → Prop}
    (hg : o.guard = none) (s x : Operand) (ho : o.op = .call { callee := .builtin .append, args := #[s, x], argTypes := #[tS, tS] })
    (base : Nat) (v : Value) (n : Nat) (xs : List Value) (hs : a.eval s = v) (hown : w.ownsRow base tE sz v n xs)
    (ad : Addr) (c : Nat) (e : List Value) (hx : a.eval x = .slice (some ad) 1 c) (hl : e.length = sz) (hc : ∀ j u, e[j]? = some u → w.cell? (ad.add j) = some u) (h1 : ∀ u ∈ e, u.oneCell' = true)
    (hn : n ≤ 1000000) (hbase : base ≤ w.heap.size)
    (hK : ∀ v' w', w'.ownsRow base tE sz v' (n + 1) (xs ++ e) → w.grownBy w' v.ownBlock → (v'.ownBlock = v.ownBlock ∨ v'.ownBlock = some w.heap.size) → K (a.put o.dst v') w') : o.wp Try.prog a w K Q := by
  have h := step_apc (ops := #[]) (E := True) (Q := Q) tS tE zv sz by_ hu hinf hzs hsz hby hg s x ho base v n xs hs hown ad c e hx hl hc h1 hn hbase hK
  have hw : Region.wanted o (yielded #[] a.tmps) = true := by simp [Region.wanted, hg]
  rw [if_pos hw] at h
  exact h
theorem del0 (g n c : Nat) (l : List ByteArray) (hl : l.length = n) (hn : n ≤ 1000) (hi : 0 < n) (w : World) (h : w.ownsRow 0 9 1 (.slice (some ⟨g, 0, none⟩) n c) n (l.map strC)) :
    Calls Try.prog 35 #[.slice (some ⟨g, 0, none⟩) n c, .int .i64 0, .int .i64 1] w fun e w' => e = .returned (.slice (some ⟨g, 0, none⟩) (n - 1) c) ∧ w'.ownsRow 0 9 1 (.slice (some ⟨g, 0, none⟩) (n - 1) c) (n - 1) (l.tail.map strC) ∧ Tch w w' [g] := by
  have := delete_st g n c 0 l hl hn hi w (by rw [stC_flat]; exact h)
  rw [stC_flat] at this
  simpa using this
theorem del3 (g c : Nat) (l : List ByteArray) (hl : l.length = 3) (w : World) (h : w.ownsRow 0 9 1 (.slice (some ⟨g, 0, none⟩) 3 c) 3 (l.map strC)) :
    Calls Try.prog 35 #[.slice (some ⟨g, 0, none⟩) 3 c, .int .i64 0, .int .i64 1] w fun e w' => e = .returned (.slice (some ⟨g, 0, none⟩) 2 c) ∧ w'.ownsRow 0 9 1 (.slice (some ⟨g, 0, none⟩) 2 c) 2 (l.tail.map strC) ∧ Tch w w' [g] := del0 g 3 c l hl (by omega) (by omega) w h
theorem en_of {w : World} {e : EnI} {v : Value} {A : Option Addr} {n c : Nat} (hn : e.wts.length = n) (hv : v = enV e A n c) (ho : w.ownsRow 0 9 1 (.slice A n c) n (e.wts.map strC)) : EnW w e v := by
  subst hn; exact ⟨A, c, hv, ho⟩
theorem NgM.base {w W : World} {t m : Nat} {M : List (KyI × Value)} {S : List Nat} {L : TbI} (hm : NgM w t m M S L) {k : KyI} (hT : Tch w W (wtB (mpV M k zEn))) : Blk W t 63 #[.map (some m)] ∧ MpIs (fun k : KyI => kyV k) W.drew m M :=
  ⟨hT.blk hm.bt (fun hc => (hm.sub_ k t hc).2.1 rfl), (hm.mp.tch hT (fun hc => (hm.sub_ k m hc).2.2 rfl)).tch ((Tch.refl W []).drew) (by simp)⟩
theorem send_end {w W8 W9 : World} {t m : Nat} {M : List (KyI × Value)} {S : List Nat} {L : TbI} (hm : NgM w t m M S L) {k : KyI} (hT : Tch w W8 (wtB (mpV M k zEn))) {e : EnI} {v : Value} (hv : EnW W8 e v) (hf : ∀ s ∈ wtB v, s ∈ wtB (mpV M k zEn) ∨ w.heap.size ≤ s) (hI : InvT (putT L k e)) (hM : MpIs (fun k => kyV k) W9 m (mpPut M k v)) (hT2 : Tch W8 W9 [m]) {A : Option Addr} {n c : Nat} {acts : List AcI} (ho : W8.ownsRow w.heap.size 41 7 (.slice A n c) n (acts.flatMap acC)) (hn : acts.length = n) {r : List AcI × Int × TbI} (hr : r = (acts, 0, putT L k e)) : ActR w W9 t S r (.returned (.tuple #[.slice A n c, .int .i64 0])) := by
  obtain ⟨S', h1, h2⟩ := hm.set_ hT hv hf hI hM hT2
  exact actr_of hr (own_tch ho hT2 (own_above ho (hm.lt m (by rw [hm.eS]; simp)))) hn h1 h2
theorem one_at {A : Option Addr} {n c : Nat} {A0 : Option Addr} {n0 c0 B : Nat} (h : (Value.slice A n c).ownBlock = (Value.slice A0 n0 c0).ownBlock ∨ (Value.slice A n c).ownBlock = some B) {w : Nat} (hB : w ≤ B) : ∀ s ∈ obI (.slice A n c), s ∈ obI (.slice A0 n0 c0) ∨ w ≤ s := by
  intro s hs
  unfold obI at hs ⊢
  rcases h with h | h
  · rw [h] at hs; exact .inl hs
  · rw [h] at hs; rw [List.mem_singleton.1 hs]; exact .inr hB
end Go.Proofs.Ytlbkphnbpenbcaa
