/-
  Several texts in one: Words, Make, App, RefPut.
-/
import Derived.Below
import Derived.Laws.OwnMore
import Derived.Deep.AppendLies
import Derived.Deep.Draws
import Derived.WalkKit
import Derived.Laws.BitsAllLaws
import Derived.Laws.Bits64
import Derived.Test.YtgfkmgbcajdcdaaGreatDoorRows
import Derived.WalkSpells
import Derived.WalkLawsBesides
import Derived.Outline
import Derived.Deep.QuietTactic
import Derived.BigQuiet
import Derived.Lib.Hide
import Derived.Laws.CopyOwn
import Derived.Deep.OwnRows
import Derived.Maps.AppendAt
import Derived.Laws.AppendOwnNone
set_option linter.unusedVariables false
set_option maxRecDepth 100000
set_option maxHeartbeats 16000000
namespace Go.Proofs.YtgfkmgbcajdcdaaGreatDoor
theorem lH {p : Prop} (h : p) : Go.RowKit.Hid p := h
theorem zA (w : World) (o : Obj) : (w.alloc o).heap.size = w.heap.size + 1 := by rw [World.size_alloc]
theorem cZm {P : Program} {f : FuncId} {args : Array Value} {w : World} {R R' : Ending → World → Prop} (h : Calls P f args w R) (hr : ∀ e w', R e w' → R' e w') : Calls P f args w R' := h.mono hr
end Go.Proofs.YtgfkmgbcajdcdaaGreatDoor
namespace Go.Proofs.YtgfkmgbcajdcdaaGreatDoor
open Go.RowKit

def RI (k : IntKind) (w : World) (B : Nat) (A : Option Addr) (n : Nat) (zs : List Int) : Prop :=
 zs.length = n ∧ (0 < n → ∃ b o, A = some ⟨b, o, none⟩ ∧ b < B ∧ ∀ j z, zs[j]? = some z → w.cell? ⟨b, o + j, none⟩ = some (.int k z)) ∧ ∀ z ∈ zs, (Lit.int k z).wf = true

section
variable {w w' : World} {B B' n : Nat} {A : Option Addr} {zs : List Int} {k : IntKind}
theorem RI.nil_ : RI k w B A 0 [] := ⟨rfl, fun h => absurd h (by omega), fun _ h => by cases h⟩
theorem RI.keep (h : RI k w B A n zs) (hk : ∀ p : Addr, p.block < B → w'.cell? p = w.cell? p) : RI k w' B A n zs :=
 ⟨h.1, fun hn => by
  obtain ⟨b, o, e, hb, hc⟩ := h.2.1 hn
  exact ⟨b, o, e, hb, fun j z hz => (hk _ hb).trans (hc j z hz)⟩, h.2.2⟩
theorem RI.below (h : RI k w B A n zs) (hb : Below B w w') : RI k w' B A n zs := h.keep fun _ hp => hb.cell hp
theorem RI.alloc (h : RI k w B A n zs) (hB : B ≤ w.heap.size) (o : Obj) : RI k (w.alloc o) B A n zs := h.keep fun p hp => World.cell?_alloc_lt w o p (by omega)
theorem RI.at_ {j : Nat} (h : RI k w B A n zs) (hj : j < n) : ∃ b o z, A = some ⟨b, o, none⟩ ∧ b < B ∧ zs[j]? = some z ∧ (Lit.int k z).wf = true ∧ w.cell? ⟨b, o + j, none⟩ = some (.int k z) := by
 obtain ⟨b, o, e, hb, hc⟩ := h.2.1 (by omega)
 have hl : j < zs.length := by have := h.1; omega
 exact ⟨b, o, zs[j], e, hb, List.getElem?_eq_getElem hl, h.2.2 _ (List.getElem_mem hl), hc j _ (List.getElem?_eq_getElem hl)⟩
theorem RI.pre {j : Nat} (h : RI k w B A n zs) (hj : j ≤ n) : RI k w B A j (zs.take j) := by
 refine ⟨by have := h.1; simp; omega, fun h0 => ?_, fun z hz => h.2.2 z (List.mem_of_mem_take hz)⟩
 obtain ⟨b, o, e, hb, hc⟩ := h.2.1 (by omega)
 refine ⟨b, o, e, hb, fun i z hz => hc i z ?_⟩
 rw [List.getElem?_take] at hz
 split at hz
 ·exact hz
 ·cases hz
theorem RI.post {j b o : Nat} (h : RI k w B (some ⟨b, o, none⟩) n zs) (hj : j < n) : RI k w B (some ⟨b, o + j, none⟩) (n - j) (zs.drop j) := by
 refine ⟨by have := h.1; simp; omega, fun _ => ?_, fun z hz => h.2.2 z (List.mem_of_mem_drop hz)⟩
 obtain ⟨b', o', e, hb, hc⟩ := h.2.1 (by omega)
 injection e with e
 injection e with e1 e2
 subst e1 e2
 refine ⟨b, o + j, rfl, hb, fun i z hz => ?_⟩
 rw [List.getElem?_drop] at hz
 rw [Nat.add_assoc]
 exact hc _ z hz
end

theorem u8_bd {z : Int} (h : (Lit.int .u8 z).wf = true) : 0 ≤ z ∧ z ≤ 255 := by
 simp [Lit.wf, IntKind.min, IntKind.max, IntKind.bits, IntKind.signed] at h; omega

def By (l : List Int) : Prop := ∀ z ∈ l, 0 ≤ z ∧ z ≤ 255

theorem RI.by_ {w : World} {B n : Nat} {A : Option Addr} {zs : List Int} (h : RI .u8 w B A n zs) : By zs := fun z hz => u8_bd (h.2.2 z hz)
theorem By.take {l : List Int} (h : By l) (k : Nat) : By (l.take k) := fun z hz => h z (List.mem_of_mem_take hz)
theorem By.drop {l : List Int} (h : By l) (k : Nat) : By (l.drop k) := fun z hz => h z (List.mem_of_mem_drop hz)
def Blk (w : World) (g : Nat) (t : TypeId) (cs : Array Value) : Prop := w.heap[g]? = some (.cells cs t (0, 0))

section
variable {w w' : World} {g : Nat} {t : TypeId} {cs : Array Value}
theorem Blk.lt (h : Blk w g t cs) : g < w.heap.size := by
 rcases Nat.lt_or_ge g w.heap.size with hlt | hge
 ·exact hlt
 ·unfold Blk at h; rw [Array.getElem?_eq_none hge] at h; cases h
theorem Blk.cell (h : Blk w g t cs) (i : Nat) : w.cell? ⟨g, i, none⟩ = cs[i]? := cell_of_row w g i cs t (0, 0) h
theorem Blk.frozen (h : Blk w g t cs) (i : Nat) : w.frozen? ⟨g, i, none⟩ = false := by
 unfold Blk at h
 simp [World.frozen?, h]
theorem Blk.new (w : World) (t : TypeId) (cs : Array Value) : Blk (w.alloc (.cells cs t)) w.heap.size t cs := heap_alloc_new w _
theorem Blk.drew (h : Blk w g t cs) : Blk w.drew g t cs := h
theorem Blk.drewN (h : Blk w g t cs) (n : Nat) : Blk (w.drewN n) g t cs := h
theorem Blk.alloc (h : Blk w g t cs) (o : Obj) : Blk (w.alloc o) g t cs := (Below.heap_alloc w o g h.lt).trans h
theorem Blk.set_ (h : Blk w g t cs) (i : Nat) (u : Value) : Blk (w.setCell ⟨g, i, none⟩ u) g t (cs.setIfInBounds i u) := by
 unfold Blk at h ⊢
 simp [World.setCell, Array.getElem?_modify, h]
theorem Blk.far (h : Blk w g t cs) {p : Addr} (hp : g ≠ p.block) (u : Value) : Blk (w.setCell p u) g t cs := (Below.heap_setCell w p u g hp).trans h
theorem Blk.below {B : Nat} (h : Blk w g t cs) (hb : Below B w w') (hg : g < B) : Blk w' g t cs := (hb.block g hg).trans h
theorem Blk.grown {row : Option Nat} (h : Blk w g t cs) (hb : w.grownBy w' row) (hg : some g ≠ row) : Blk w' g t cs := (hb.block g h.lt hg).trans h
theorem Blk.reads {zs : List Int} (h : Blk w g t ((zs.map (Value.int .u8)).toArray)) (hw : ∀ z ∈ zs, (Lit.int .u8 z).wf = true) {B : Nat} (hB : g < B) : RI .u8 w B (some ⟨g, 0, none⟩) zs.length zs :=
 ⟨rfl, fun _ => ⟨g, 0, rfl, hB, fun j z hz => by rw [h.cell]; simp [hz]⟩, hw⟩
end

theorem wf_u8 {z : Int} (h : 0 ≤ z ∧ z ≤ 255) : (Lit.int .u8 z).wf = true := by
 simp [Lit.wf, IntKind.min, IntKind.max, IntKind.bits, IntKind.signed]; omega

def putOf : Nat → Int → List Int
 | 0, _ => []
 | k + 1, n => putOf k (n / 256) ++ [n % 256]
theorem putOf_len (k : Nat) : ∀ n, (putOf k n).length = k := by
 induction k with
 | zero => intro n; rfl
 | succ k ih => intro n; simp [putOf, ih]
theorem putOf_by (k : Nat) : ∀ n, By (putOf k n) := by
 induction k with
 | zero => intro n z hz; cases hz
 | succ k ih =>
  intro n z hz
  simp only [putOf, List.mem_append, List.mem_singleton] at hz
  rcases hz with hz | rfl
  ·exact ih _ z hz
  ·omega
theorem putOf_cons (k : Nat) : ∀ n : Int, putOf (k + 1) n = (n / 256 ^ k % 256) :: putOf k n := by
 induction k with
 | zero => intro n; simp [putOf]
 | succ k ih =>
  intro n
  rw [putOf, ih]
  simp only [putOf, List.cons_append, List.cons.injEq, and_true]
  rw [Int.pow_succ, Int.mul_comm, ← Int.ediv_ediv_of_nonneg (by decide)]
theorem pow256_pos (k : Nat) : (0 : Int) < 256 ^ k := Int.pow_pos (by decide)
theorem u64_eq {x y : Int} (h : x = y) : Value.int IntKind.u64 x = Value.int IntKind.u64 y := by rw [h]
theorem ret_k {k : IntKind} {a b : Int} (h : a = b) : Ending.returned (.int k a) = .returned (.int k b) := by rw [h]
theorem below_drewN {B : Nat} {a w : World} (h : Below B a w) (n : Nat) : Below B a (w.drewN n) := ⟨h.os, h.tape, h.output, h.size, h.block⟩
end Go.Proofs.YtgfkmgbcajdcdaaGreatDoor

namespace Go.Proofs.YtgfkmgbcajdcdaaGreatDoor
open Go.RowKit

theorem Tryz.info5 : (Tryz.prog.info? 5).map (fun i => (i.zero, i.size, i.bytes)) = some (some (.int .u8 0), 1, 1) := by kernel_rfl

theorem bytes_oneCell {zs : List Int} : ∀ u ∈ zs.map (Value.int .u8), u.oneCell' = true := ints_oneCell .u8 zs

theorem cs_at {w1 : World} {A : Option Addr} {n B : Nat} {zs : List Int} (h : RI .u8 w1 B A n zs) (g : Nat) :
  0 < (zs.map (Value.int .u8)).length → (some (⟨g, 0, none⟩ : Addr) = some ⟨g, 0, none⟩) ∧ ∃ ad, A = some ad ∧ ∀ j v, (zs.map (Value.int .u8))[j]? = some v → w1.cell? (ad.add j) = some v := by
 intro hl
 obtain ⟨b, o, rfl, _, hc⟩ := h.2.1 (by have := h.1; simp at hl; omega)
 refine ⟨rfl, _, rfl, fun j v hv => ?_⟩
 rw [List.getElem?_map, Option.map_eq_some_iff] at hv
 obtain ⟨z, hz, rfl⟩ := hv
 rw [← hc j z hz]
 simp only [Addr.add]
 split
 ·rename_i h0; simp [h0]
 ·rfl

def wide (width : Int) : Nat := (if 8 < (if width < 0 then 0 else width) then 8 else (if width < 0 then 0 else width)).toNat
theorem wide_le (width : Int) : wide width ≤ 8 := by unfold wide; split <;> omega
theorem wide_eq (width : Int) : (if 8 < (if width < 0 then 0 else width) then 8 else (if width < 0 then 0 else width)) = (wide width : Int) := by unfold wide; split <;> split <;> omega

end Go.Proofs.YtgfkmgbcajdcdaaGreatDoor

namespace Go.Proofs.YtgfkmgbcajdcdaaGreatDoor
open Go.RowKit

theorem RI.cells_at {w : World} {B m : Nat} {A : Option Addr} {zs : List Int} (h : RI .u8 w B A m zs) {ad : Addr} (e : A = some ad) : ∀ j u, (zs.map (Value.int .u8))[j]? = some u → w.cell? (ad.add j) = some u := by
 intro j u hu
 by_cases h0 : 0 < (zs.map (Value.int .u8)).length
 ·obtain ⟨_, ad', e', hc⟩ := cs_at h 0 h0
  rw [e] at e'
  injection e' with e'
  subst e'
  exact hc j u hu
 ·have e0 : zs.map (Value.int .u8) = [] := List.length_eq_zero_iff.1 (by omega)
  rw [e0] at hu
  simp at hu

theorem wpList_app (w : World) {ops : Array Oper} {rest : List Oper} {o : Oper} {a : Act} {Q : Exit → Act → World → Prop} (hgd : o.guard = none) (s x : Operand)
  (ho : o.op = .call { callee := .builtin .append, args := #[s, x], argTypes := #[225, 225] })
  (base : Nat) (v : Value) (n : Nat) (ys : List Int) (hs : a.eval s = v) (hown : w.ownsRow base 5 1 v n (ys.map (Value.int .u8)))
  (B : Nat) (A : Option Addr) (m c : Nat) (zs : List Int) (hx : a.eval x = .slice A m c) (hA : A = none → c = 0) (hr : RI .u8 w B A m zs)
  (hsz : n + m ≤ 140737488355328) (hbase : base ≤ w.heap.size)
  (h : ∀ v' w', w'.ownsRow base 5 1 v' (n + m) ((ys ++ zs).map (Value.int .u8)) → w.grownBy w' v.ownBlock → (v'.ownBlock = v.ownBlock ∨ v'.ownBlock = some w.heap.size) → wpList Tryz.prog ops Q rest (a.put o.dst v') w') :
  wpList Tryz.prog ops Q (o :: rest) a w := by
 obtain ⟨i0, hi, hz0, hz1, hz2⟩ := info_parts Tryz.info5
 rcases A with _ | ad
 ·obtain rfl := hA rfl
  have hm : m = 0 := by
   rcases Nat.eq_zero_or_pos m with h0 | h0
   ·exact h0
   ·obtain ⟨_, _, e, _⟩ := hr.2.1 h0
    cases e
  subst hm
  obtain rfl : zs = [] := List.eq_nil_of_length_eq_zero hr.1
  refine wpList_append_own_none hgd s x 225 ho base 5 i0 1 Tryz.underlying225 hi v n _ hs hown hx ?_
  exact h v w (by simpa using hown) (World.grownBy.refl w _) (.inl rfl)
 ·refine wpList_append_own_at w hgd s x 225 ho base 5 i0 (.int .u8 0) 1 1 Tryz.underlying225 hi hz0 hz1 hz2 rfl (by decide) v n _ hs hown ad m c (zs.map (Value.int .u8)) hx (by simp [hr.1]) (hr.cells_at rfl) bytes_oneCell (by unfold maxLen; omega) (by omega) hbase ?_
  intro v' w' h1 h2 h3 h4
  exact h v' w' (by simpa using h1) h2 h4

end Go.Proofs.YtgfkmgbcajdcdaaGreatDoor

namespace Go.Proofs.YtgfkmgbcajdcdaaGreatDoor
open Go.RowKit

theorem putOf_get (k : Nat) : ∀ (v : Int) (i : Nat), i < k → (putOf k v)[k - 1 - i]? = some (v / 256 ^ i % 256) := by
 induction k with
 | zero => intro v i h; omega
 | succ k ih =>
  intro v i h
  rw [putOf_cons]
  by_cases he : i = k
  ·subst he; simp
  ·rw [show k + 1 - 1 - i = (k - 1 - i) + 1 by omega, List.getElem?_cons_succ]
   exact ih v i (by omega)
theorem putOf_take (k : Nat) (v : Int) (i : Nat) (h : i < k) : (putOf k v).take (k - i) = (putOf k v).take (k - (i + 1)) ++ [v / 256 ^ i % 256] := by
 have e := putOf_get k v i h
 rw [show k - i = (k - (i + 1)) + 1 by omega, List.take_add_one]
 rw [show k - 1 - i = k - (i + 1) by omega] at e
 rw [e]; rfl

theorem own_base {w : World} {base e size n : Nat} {v : Value} {xs : List Value} (h : w.ownsRow base e size v n xs) : ∀ k, v.ownBlock = some k → base ≤ k := by
 intro k hk
 rcases h.2 with ⟨rfl, _⟩ | ⟨g, cap, cur, rfl, h1, _⟩
 ·simp [Value.ownBlock] at hk
 ·simp [Value.ownBlock] at hk; omega

def RefPut (w : World) (n : Nat) (zs : List Int) (e : Ending) (w' : World) : Prop :=
 ∃ A c, e = .returned (.slice A n c) ∧ RI .u8 w' w'.heap.size A n zs ∧ (∀ x, A = some x → w.heap.size ≤ x.block) ∧ Below w.heap.size w w'

theorem refPut_of {w w' : World} {n : Nat} {zs : List Int} {v : Value} (hw : ∀ z ∈ zs, (Lit.int .u8 z).wf = true) (hown : w'.ownsRow w.heap.size 5 1 v n (zs.map (Value.int .u8))) (hB : Below w.heap.size w w') : RefPut w n zs (.returned v) w' := by
 have hl : zs.length = n := by simpa using hown.1
 rcases hown.2 with ⟨rfl, rfl⟩ | ⟨g, cap, cur, rfl, h1, h2, h3, h4, h5, h6⟩
 ·obtain rfl : zs = [] := List.eq_nil_of_length_eq_zero hl
  exact ⟨none, 0, rfl, RI.nil_, (fun _ h => by cases h), hB⟩
 ·have hb : Blk w' g 5 cur := h2
  refine ⟨some ⟨g, 0, none⟩, cap, rfl, ⟨hl, fun _ => ⟨g, 0, rfl, hb.lt, fun j z hz => ?_⟩, hw⟩, (fun x hx => by injection hx with hx; rw [← hx]; exact h1), hB⟩
  rw [Nat.zero_add, hb.cell]
  have hj : j < n := by rw [← hl]; exact (List.getElem?_eq_some_iff.1 hz).1
  have e : (cur.toList.take (n * 1))[j]? = some (.int .u8 z) := by rw [h6, List.getElem?_map, hz]; rfl
  rw [List.getElem?_take, if_pos (by omega)] at e
  simpa using e

theorem div_step (v : Int) (t : Nat) (hv : 0 ≤ v) : (v / 256 ^ t) / 256 = v / 256 ^ (t + 1) := by rw [Int.pow_succ, Int.ediv_ediv_of_nonneg (Int.le_of_lt (pow256_pos t))]
theorem div_bd (v : Int) (t : Nat) (h0 : 0 ≤ v) (h1 : v ≤ 18446744073709551615) : 0 ≤ v / 256 ^ t ∧ v / 256 ^ t ≤ 18446744073709551615 := by
 have hp := pow256_pos t
 exact ⟨Int.ediv_nonneg h0 (by omega), Int.le_trans (Int.ediv_le_self _ h0) h1⟩

theorem refPut_at (w : World) (B : Nat) (A : Option Addr) (n c k : Nat) (v width x : Int) (zs : List Int) (hz : RI .u8 w B A n zs) (hA : A = none → c = 0) (hB : B ≤ w.heap.size) (hk : k ≤ 8) (hn : n + 9 ≤ 140737488355328)
  (hv0 : 0 ≤ v) (hv1 : v ≤ 18446744073709551615) (hx : (if width < 0 then 0 else width) = x) (hm : (if 8 < x then 8 else x) = (k : Int)) :
  Calls Tryz.prog 201 #[.slice A n c, .int .i64 width, .int .u64 v] w (RefPut w (n + k) (zs ++ putOf k v)) := by
 have HZ := lH hz
 have HA := lH hA
 clear hz hA
 go_enter Tryz.func201, Tryz.ntmps201
 go_wp2_with (first
  | (at_builtin; refine wpList_app _ rfl (.tmp 11) (.tmp 12) rfl w.heap.size (.slice none 0 0) 0 [] rfl ⟨by simp, .inl ⟨rfl, rfl⟩⟩ B A n c zs rfl HA.out HZ.out (by omega) (Nat.le_refl _) ?_; intro v1 w1 hown1 hg1 hat1; have HB1 : Below w.heap.size w w1 := (Below.refl _ _).grown hg1 (Nat.le_refl _) (fun k hk => by simp [Value.ownBlock] at hk); have HO1 := lH hown1; clear hown1 hat1 hg1))
 go_loopw [7, 8, 9, 10] (fun v' i _ _ wr => ∃ m : Nat, m ≤ k ∧ i = .int .i64 ((m : Int) - 1) ∧ wr.ownsRow w.heap.size 5 1 v' (n + (k - m)) ((zs ++ (putOf k v).take (k - m)).map (Value.int .u8)) ∧ Below w.heap.size w wr) (fun _ i _ _ _ => (intOf i + 1).toNat)
 case atStart => exact ⟨k, Nat.le_refl _, rfl, by have := HO1.out; simpa using this, HB1⟩
 case round =>
  obtain ⟨m, hmk, hi, hown, hbel⟩ := hrel
  rcases m with _ | i'
  ·have hi' := hi.trans (show Value.int .i64 (((0 : Nat) : Int) - 1) = .int .i64 (-1) by congr 1)
   clear hi
   subst hi'
   have HO := lH hown
   clear hown
   go_wp2
   go_ret
   exact refPut_of (by
    intro z hz
    rcases List.mem_append.1 hz with h | h
    ·exact HZ.out.2.2 z h
    ·exact wf_u8 (putOf_by k v z h)) (by have := HO.out; rw [Nat.sub_zero, List.take_of_length_le (by rw [putOf_len]; exact Nat.le_refl _)] at this; exact this) hbel
  ·have hi' := hi.trans (show Value.int .i64 (((i' + 1 : Nat) : Int) - 1) = .int .i64 (i' : Int) by congr 1; omega)
   clear hi
   subst hi'
   have HO := lH hown
   clear hown
   go_wp2_with fail
   go_loop [9, 10] (fun q t => ∃ t' : Nat, t' ≤ i' ∧ t = .int .i64 t' ∧ q = .int .u64 (v / 256 ^ t')) (fun _ t => i' - (intOf t).toNat)
   case atStart => exact ⟨0, Nat.zero_le _, rfl, by simp⟩
   case round =>
    obtain ⟨t, ht, rfl, rfl⟩ := hrel
    by_cases hlt : t < i'
    ·have HD := lH (div_step v t hv0)
     obtain ⟨d0, d1⟩ := div_bd v t hv0 hv1
     go_wp2
     go_round
     case rel => exact ⟨t + 1, by omega, by go_num, u64_eq HD.out⟩
     case measure => simp [intOf]; omega
    ·obtain rfl : t = i' := by omega
     obtain ⟨d0, d1⟩ := div_bd v t hv0 hv1
     obtain ⟨X, hX⟩ : ∃ X, X = v / 256 ^ t := ⟨_, rfl⟩
     rw [← hX] at d0 d1 ⊢
     have HX := lH hX
     clear hX
     have hwX : ∀ z ∈ [X % 256], (Lit.int .u8 z).wf = true := by
      intro z hz
      rw [List.mem_singleton] at hz
      subst hz
      exact wf_u8 (by omega)
     have HW := lH hwX
     clear hwX
     go_wp2_with (first
      | (at_builtin; refine wpList_app _ rfl (.tmp 30) (.tmp 34) rfl w.heap.size u7 (n + (k - (t + 1))) (zs ++ (putOf k v).take (k - (t + 1))) rfl (HO.out.alloc _) (wr.heap.size + 1) (some ⟨wr.heap.size, 0, none⟩) 1 1 [X % 256] rfl (fun h => by cases h) (Blk.reads (zs := [X % 256]) (Blk.new _ _ _) HW.out (Nat.lt_succ_self _)) (by omega) (by have := hbel.size; simp; omega) ?_; intro v2 w2 hown2 hg2 hat2; have HO2 := lH hown2; have HB2 : Below w.heap.size w w2 := (hbel.alloc hbel.size _).grown hg2 (by have := hbel.size; simp; omega) (own_base HO.out); clear hown2 hg2 hat2))
     go_roundw
     case rel => exact ⟨t, by omega, by first | rfl | go_num, by have := HO2.out; rw [HX.out, List.append_assoc, ← putOf_take k v t hmk, show n + (k - (t + 1)) + 1 = n + (k - t) by omega] at this; exact this, HB2⟩
     case measure => simp [intOf]
theorem refPut_any (w : World) (B : Nat) (A : Option Addr) (n c : Nat) (v width : Int) (zs : List Int) (hz : RI .u8 w B A n zs) (hA : A = none → c = 0) (hB : B ≤ w.heap.size) (hn : n + 9 ≤ 140737488355328)
  (hv0 : 0 ≤ v) (hv1 : v ≤ 18446744073709551615) :
  Calls Tryz.prog 201 #[.slice A n c, .int .i64 width, .int .u64 v] w (RefPut w (n + wide width) (zs ++ putOf (wide width) v)) :=
 refPut_at w B A n c (wide width) v width _ zs hz hA hB (wide_le width) hn hv0 hv1 rfl (wide_eq width)

end Go.Proofs.YtgfkmgbcajdcdaaGreatDoor
