/-
  Words for this seat's proofs: what a slice of bytes reads as; plain numbers out of bytes. Nothing of the program is used here.
-/
import Derived.Below
import Derived.Laws.OwnMore
import Derived.Deep.AppendLies
import Derived.Deep.Draws
import Derived.WalkKit
import Derived.Laws.BitsAllLaws
import Derived.Laws.Bits64
namespace Go.Proofs.Ytlbkphnbpenbcaa
open Go.RowKit

theorem block_of_add (a : Addr) (n : Nat) : (a.add n).block = a.block := by unfold Addr.add; split <;> rfl

/-- A slice value '.slice A n cap' reads as the integers zs of kind k, and its cells lie below block B. -/
def RI (k : IntKind) (w : World) (B : Nat) (A : Option Addr) (n : Nat) (zs : List Int) : Prop :=
  zs.length = n ∧ (0 < n → ∃ b o, A = some ⟨b, o, none⟩ ∧ b < B ∧ ∀ j z, zs[j]? = some z → w.cell? ⟨b, o + j, none⟩ = some (.int k z)) ∧ ∀ z ∈ zs, (Lit.int k z).wf = true

section
variable {w w' : World} {B B' n : Nat} {A : Option Addr} {zs : List Int} {k : IntKind}
theorem RI.nil_ : RI k w B A 0 [] := ⟨rfl, fun h => absurd h (by omega), fun _ h => by cases h⟩
theorem RI.keep (h : RI k w B A n zs) (hk : ∀ p : Addr, p.block < B → w'.cell? p = w.cell? p) : RI k w' B A n zs :=
  ⟨h.1, fun hn => by
    obtain ⟨b, o, e, hb, hc⟩ := h.2.1 hn
    exact ⟨b, o, e, hb, fun j z hz => (hk _ hb).trans (hc j z hz)⟩, h.2.2⟩
theorem RI.more (h : RI k w B A n zs) (hB : B ≤ B') : RI k w B' A n zs :=
  ⟨h.1, fun hn => by
    obtain ⟨b, o, e, hb, hc⟩ := h.2.1 hn
    exact ⟨b, o, e, by omega, hc⟩, h.2.2⟩
theorem RI.below (h : RI k w B A n zs) (hb : Below B w w') : RI k w' B A n zs := h.keep fun _ hp => hb.cell hp
theorem RI.alloc (h : RI k w B A n zs) (hB : B ≤ w.heap.size) (o : Obj) : RI k (w.alloc o) B A n zs := h.keep fun p hp => World.cell?_alloc_lt w o p (by omega)
theorem RI.at_ {j : Nat} (h : RI k w B A n zs) (hj : j < n) : ∃ b o z, A = some ⟨b, o, none⟩ ∧ b < B ∧ zs[j]? = some z ∧ (Lit.int k z).wf = true ∧ w.cell? ⟨b, o + j, none⟩ = some (.int k z) := by
  obtain ⟨b, o, e, hb, hc⟩ := h.2.1 (by omega)
  have hl : j < zs.length := by have := h.1; omega
  exact ⟨b, o, zs[j], e, hb, List.getElem?_eq_getElem hl, h.2.2 _ (List.getElem_mem hl), hc j _ (List.getElem?_eq_getElem hl)⟩
/-- The first j of them. -/
theorem RI.pre {j : Nat} (h : RI k w B A n zs) (hj : j ≤ n) : RI k w B A j (zs.take j) := by
  refine ⟨by have := h.1; simp; omega, fun h0 => ?_, fun z hz => h.2.2 z (List.mem_of_mem_take hz)⟩
  obtain ⟨b, o, e, hb, hc⟩ := h.2.1 (by omega)
  refine ⟨b, o, e, hb, fun i z hz => hc i z ?_⟩
  rw [List.getElem?_take] at hz
  split at hz
  · exact hz
  · cases hz
/-- Those from j on. -/
theorem RI.post {j b o : Nat} (h : RI k w B (some ⟨b, o, none⟩) n zs) (hj : j < n) : RI k w B (some ⟨b, o + j, none⟩) (n - j) (zs.drop j) := by
  refine ⟨by have := h.1; simp; omega, fun _ => ?_, fun z hz => h.2.2 z (List.mem_of_mem_drop hz)⟩
  obtain ⟨b', o', e, hb, hc⟩ := h.2.1 (by omega)
  injection e with e
  injection e with e1 e2
  subst e1 e2
  refine ⟨b, o + j, rfl, hb, fun i z hz => ?_⟩
  rw [List.getElem?_drop] at hz
  rw [Nat.add_assoc]
  exact hc _ z hz
end

theorem u8_bd {z : Int} (h : (Lit.int .u8 z).wf = true) : 0 ≤ z ∧ z ≤ 255 := by
  simp [Lit.wf, IntKind.min, IntKind.max, IntKind.bits, IntKind.signed] at h; omega

/-- The number that bytes are, the first one the most significant. -/
def numOf (l : List Int) : Int := l.foldl (fun n b => n * 256 + b) 0
/-- All are bytes. -/
def By (l : List Int) : Prop := ∀ z ∈ l, 0 ≤ z ∧ z ≤ 255

theorem RI.by_ {w : World} {B n : Nat} {A : Option Addr} {zs : List Int} (h : RI .u8 w B A n zs) : By zs := fun z hz => u8_bd (h.2.2 z hz)
theorem By.take {l : List Int} (h : By l) (k : Nat) : By (l.take k) := fun z hz => h z (List.mem_of_mem_take hz)
theorem By.drop {l : List Int} (h : By l) (k : Nat) : By (l.drop k) := fun z hz => h z (List.mem_of_mem_drop hz)
theorem numOf_snoc (l : List Int) (z : Int) : numOf (l ++ [z]) = numOf l * 256 + z := by simp [numOf]
theorem numOf_bd (k : Nat) : ∀ l : List Int, l.length = k → By l → 0 ≤ numOf l ∧ numOf l < 256 ^ k := by
  induction k with
  | zero => intro l hl _; rw [List.eq_nil_of_length_eq_zero hl]; simp [numOf]
  | succ k ih =>
    intro l hl hb
    have hne : l ≠ [] := by intro h; simp [h] at hl
    obtain ⟨m, z, rfl⟩ : ∃ m z, l = m ++ [z] := ⟨l.dropLast, l.getLast hne, (List.dropLast_concat_getLast hne).symm⟩
    have h1 := ih m (by simpa using hl) (fun x hx => hb x (by simp [hx]))
    have h2 := hb z (by simp)
    rw [numOf_snoc, Int.pow_succ]
    omega
theorem pow256_le (k : Nat) (h : k ≤ 7) : (256 : Int) ^ k ≤ 256 ^ 7 := by
  rcases (show k = 0 ∨ k = 1 ∨ k = 2 ∨ k = 3 ∨ k = 4 ∨ k = 5 ∨ k = 6 ∨ k = 7 by omega) with rfl | rfl | rfl | rfl | rfl | rfl | rfl | rfl <;> decide
theorem take_step {zs : List Int} {a j : Nat} {z : Int} (h : zs[a + j]? = some z) : (zs.drop a).take (j + 1) = (zs.drop a).take j ++ [z] := by
  rw [List.take_add_one, List.getElem?_drop, h]; rfl
theorem or_low (X z : Int) (h0 : 0 ≤ X) (h1 : X < 256 ^ 7) (z0 : 0 ≤ z) (z1 : z ≤ 255) : bits BinOp.or IntKind.u64 (IntKind.u64.wrap (X * 256)) z = X * 256 + z := by
  have e : IntKind.u64.wrap (X * 256) = X * 256 := by rw [IntKind.wrap_u64]; omega
  rw [e, u64_or _ _ (by omega) (by omega) z0 (by omega)]
  have e2 : (X * 256).toNat = 2 ^ 8 * X.toNat := by omega
  rw [e2, ← Nat.two_pow_add_eq_or_of_lt (by omega)]
  omega
/-- One round of the loop that takes a number up. -/
theorem num_round {zs : List Int} {a j k : Nat} {z : Int} (hb : By zs) (hk : k ≤ 8) (hj : j < k) (hl : a + k ≤ zs.length) (h : zs[a + j]? = some z) :
    bits BinOp.or IntKind.u64 (IntKind.u64.wrap (numOf ((zs.drop a).take j) * 256)) z = numOf ((zs.drop a).take (j + 1)) := by
  have hz := hb z (List.mem_of_getElem? h)
  have hlen : ((zs.drop a).take j).length = j := by simp; omega
  have hbd := numOf_bd j _ hlen ((hb.drop a).take j)
  have hp := pow256_le j (by omega)
  rw [take_step h, numOf_snoc, or_low _ _ hbd.1 (by omega) hz.1 hz.2]
/-- The same, as the document's own answer reckons. -/
theorem num_round2 {zs : List Int} {a j k : Nat} {z : Int} (hb : By zs) (hk : k ≤ 8) (hj : j < k) (hl : a + k ≤ zs.length) (h : zs[a + j]? = some z) :
    IntKind.u64.wrap (IntKind.u64.wrap (numOf ((zs.drop a).take j) * 256) + z) = numOf ((zs.drop a).take (j + 1)) := by
  have hz := hb z (List.mem_of_getElem? h)
  have hlen : ((zs.drop a).take j).length = j := by simp; omega
  have hbd := numOf_bd j _ hlen ((hb.drop a).take j)
  have hp := pow256_le j (by omega)
  rw [take_step h, numOf_snoc, IntKind.wrap_u64, IntKind.wrap_u64]
  omega

/-- Block g is just the cells cs, of element type t; none is frozen. -/
def Blk (w : World) (g : Nat) (t : TypeId) (cs : Array Value) : Prop := w.heap[g]? = some (.cells cs t (0, 0))

section
variable {w w' : World} {g : Nat} {t : TypeId} {cs : Array Value}
theorem Blk.lt (h : Blk w g t cs) : g < w.heap.size := by
  rcases Nat.lt_or_ge g w.heap.size with hlt | hge
  · exact hlt
  · unfold Blk at h; rw [Array.getElem?_eq_none hge] at h; cases h
theorem Blk.cell (h : Blk w g t cs) (i : Nat) : w.cell? ⟨g, i, none⟩ = cs[i]? := cell_of_row w g i cs t (0, 0) h
theorem Blk.frozen (h : Blk w g t cs) (i : Nat) : w.frozen? ⟨g, i, none⟩ = false := by
  unfold Blk at h
  simp [World.frozen?, h]
theorem Blk.new (w : World) (t : TypeId) (cs : Array Value) : Blk (w.alloc (.cells cs t)) w.heap.size t cs := heap_alloc_new w _
theorem Blk.drew (h : Blk w g t cs) : Blk w.drew g t cs := h
theorem Blk.drewN (h : Blk w g t cs) (n : Nat) : Blk (w.drewN n) g t cs := h
theorem Blk.alloc (h : Blk w g t cs) (o : Obj) : Blk (w.alloc o) g t cs := (Below.heap_alloc w o g h.lt).trans h
theorem Blk.set_ (h : Blk w g t cs) (i : Nat) (u : Value) : Blk (w.setCell ⟨g, i, none⟩ u) g t (cs.setIfInBounds i u) := by
  unfold Blk at h ⊢
  simp [World.setCell, Array.getElem?_modify, h]
theorem Blk.far (h : Blk w g t cs) {p : Addr} (hp : g ≠ p.block) (u : Value) : Blk (w.setCell p u) g t cs := (Below.heap_setCell w p u g hp).trans h
theorem Blk.below {B : Nat} (h : Blk w g t cs) (hb : Below B w w') (hg : g < B) : Blk w' g t cs := (hb.block g hg).trans h
theorem Blk.grown {row : Option Nat} (h : Blk w g t cs) (hb : w.grownBy w' row) (hg : some g ≠ row) : Blk w' g t cs := (hb.block g h.lt hg).trans h
/-- A block of bytes reads as them, from any place on. -/
theorem Blk.reads {zs : List Int} (h : Blk w g t ((zs.map (Value.int .u8)).toArray)) (hw : ∀ z ∈ zs, (Lit.int .u8 z).wf = true) {B : Nat} (hB : g < B) : RI .u8 w B (some ⟨g, 0, none⟩) zs.length zs :=
  ⟨rfl, fun _ => ⟨g, 0, rfl, hB, fun j z hz => by rw [h.cell]; simp [hz]⟩, hw⟩
end

theorem wf_u8 {z : Int} (h : 0 ≤ z ∧ z ≤ 255) : (Lit.int .u8 z).wf = true := by
  simp [Lit.wf, IntKind.min, IntKind.max, IntKind.bits, IntKind.signed]; omega

/-- The lowest k bytes of a number, the most significant one first. -/
def putOf : Nat → Int → List Int
  | 0, _ => []
  | k + 1, n => putOf k (n / 256) ++ [n % 256]
theorem putOf_len (k : Nat) : ∀ n, (putOf k n).length = k := by
  induction k with
  | zero => intro n; rfl
  | succ k ih => intro n; simp [putOf, ih]
theorem putOf_by (k : Nat) : ∀ n, By (putOf k n) := by
  induction k with
  | zero => intro n z hz; cases hz
  | succ k ih =>
    intro n z hz
    simp only [putOf, List.mem_append, List.mem_singleton] at hz
    rcases hz with hz | rfl
    · exact ih _ z hz
    · omega
theorem putOf_cons (k : Nat) : ∀ n : Int, putOf (k + 1) n = (n / 256 ^ k % 256) :: putOf k n := by
  induction k with
  | zero => intro n; simp [putOf]
  | succ k ih =>
    intro n
    rw [putOf, ih]
    simp only [putOf, List.cons_append, List.cons.injEq, and_true]
    rw [Int.pow_succ, Int.mul_comm, ← Int.ediv_ediv_of_nonneg (by decide)]
theorem numOf_acc (m : List Int) : ∀ a : Int, m.foldl (fun n b => n * 256 + b) a = a * 256 ^ m.length + numOf m := by
  induction m with
  | nil => intro a; simp [numOf]
  | cons z m ih =>
    intro a
    simp only [numOf, List.foldl_cons, List.length_cons, Int.pow_succ]
    rw [ih, ih (0 * 256 + z), Int.add_mul, Int.mul_assoc, Int.mul_comm 256 (256 ^ m.length), Int.add_assoc]
    simp
theorem numOf_append (l m : List Int) : numOf (l ++ m) = numOf l * 256 ^ m.length + numOf m := by
  show (l ++ m).foldl _ 0 = _
  rw [List.foldl_append, numOf_acc]; rfl
theorem pow256_pos (k : Nat) : (0 : Int) < 256 ^ k := Int.pow_pos (by decide)
theorem emod_mul256 (n P : Int) (hP : 0 < P) : n / 256 % P * 256 + n % 256 = n % (P * 256) := by
  have h1 := Int.emod_add_mul_ediv n 256
  have h2 := Int.emod_add_mul_ediv (n / 256) P
  have h3 := Int.emod_nonneg (n / 256) (by omega : P ≠ 0)
  have h4 := Int.emod_lt_of_pos (n / 256) hP
  have e : n = (n / 256 % P * 256 + n % 256) + P * 256 * (n / 256 / P) := by
    have e1 : P * 256 * (n / 256 / P) = 256 * (P * (n / 256 / P)) := by rw [Int.mul_comm P 256, Int.mul_assoc]
    rw [e1]; omega
  have e3 : n % (P * 256) = (n / 256 % P * 256 + n % 256) % (P * 256) := by
    conv => lhs; rw [e]
    rw [Int.add_mul_emod_self_left]
  rw [e3]
  exact (Int.emod_eq_of_lt (by omega) (by omega)).symm
theorem numOf_putOf (k : Nat) : ∀ n : Int, numOf (putOf k n) = n % 256 ^ k := by
  induction k with
  | zero => intro n; simp [putOf, numOf]
  | succ k ih =>
    intro n
    rw [putOf, numOf_snoc, ih, Int.pow_succ]
    exact emod_mul256 n _ (pow256_pos k)
theorem u64_eq {x y : Int} (h : x = y) : Value.int IntKind.u64 x = Value.int IntKind.u64 y := by rw [h]
theorem ret_k {k : IntKind} {a b : Int} (h : a = b) : Ending.returned (.int k a) = .returned (.int k b) := by rw [h]
theorem below_drewN {B : Nat} {a w : World} (h : Below B a w) (n : Nat) : Below B a (w.drewN n) := ⟨h.os, h.tape, h.output, h.size, h.block⟩
end Go.Proofs.Ytlbkphnbpenbcaa
