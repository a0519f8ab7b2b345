/-
  What tally.Pseudo answers of any ends and numbers.
-/
import Derived.Test.YtljdebpemdjliaaSum
import Derived.Test.YtljdebpemdjliaaPut
import Derived.Deep.RegionHeld3
namespace Go.Proofs.Ytljdebpemdjliaa
open Go.RowKit
set_option linter.unusedVariables false

/-- Blocks of bytes, each known whole: its number, how many bytes, which. -/
def Rws (w : World) (L : List (Nat × Nat × List Int)) : Prop := ∀ p ∈ L, Blk w p.1 5 ((p.2.2.map (Value.int .u8)).toArray) ∧ Bys p.2.2 ∧ p.2.2.length = p.2.1
theorem Rws.below {w w' : World} {L : List (Nat × Nat × List Int)} (h : Rws w L) (hb : Below w.heap.size w w') : Rws w' L := fun p hp => ⟨(h p hp).1.below hb (h p hp).1.lt, (h p hp).2⟩
theorem Rws.snoc {w : World} {L : List (Nat × Nat × List Int)} {g k : Nat} {zs : List Int} (h : Rws w L) (hg : Blk w g 5 ((zs.map (Value.int .u8)).toArray)) (hb : Bys zs) (hk : zs.length = k) : Rws w (L ++ [(g, k, zs)]) := fun p hp => by
  rcases List.mem_append.1 hp with h1 | h1
  · exact h p h1
  · rw [List.mem_singleton] at h1
    subst h1
    exact ⟨hg, hb, hk⟩

theorem putOf_bys (k : Nat) (v : Int) : Bys (putOf k v) := (putOf_by k v).bys

theorem psput_nil (w : World) (k : Nat) (v width : Int) (hk : k ≤ 8) (hw : width = (k : Int)) (hv : 0 ≤ v) (w0 : World) (L : List (Nat × Nat × List Int)) (hL : Rws w L) (hb : Below w0.heap.size w0 w) :
    Calls Try.prog 21 #[.slice none 0 0, .int .i64 width, .int .u64 v] w fun e w' => e = .returned (.slice (some ⟨w.heap.size, 0, none⟩) k k) ∧ Rws w' (L ++ [(w.heap.size, k, putOf k v)]) ∧ Below w0.heap.size w0 w' ∧ Below w.heap.size w w' := by
  have e : wide width = k := by
    subst hw
    unfold wide; split <;> split <;> omega
  have h := put_any w 0 none 0 0 v width [] RI.nil_ (Nat.zero_le _) (by omega) hv
  rw [e] at h
  refine Calls.mono h ?_
  rintro e w' ⟨rfl, h1, h2⟩
  refine ⟨by simp, (hL.below h2).snoc (by simpa using h1) (putOf_bys _ _) (putOf_len _ _), hb.trans (h2.mono hb.size), h2⟩

/-- The contract of one such call, at whatever world the calls ahead of it left. -/
def PutNil (W : World) (width v : Int) (k : Nat) : Prop := ∀ (w : World) (L : List (Nat × Nat × List Int)), Rws w L → Below W.heap.size W w →
    Calls Try.prog 21 #[.slice none 0 0, .int .i64 width, .int .u64 v] w fun e w' => e = .returned (.slice (some ⟨w.heap.size, 0, none⟩) k k) ∧ Rws w' (L ++ [(w.heap.size, k, putOf k v)]) ∧ Below W.heap.size W w' ∧ Below w.heap.size w w'
theorem putNil (W : World) (width v : Int) (k : Nat) (hk : k ≤ 8) (hw : width = (k : Int)) (hv : 0 ≤ v) : PutNil W width v k := fun w L hL hb => psput_nil w k v width hk hw hv W L hL hb

theorem rs_of {W : World} {L : List (Nat × Nat × List Int)} (h : Rws W L) {cs : Array Value} {t : TypeId} (e : cs.toList = L.map (fun p => .slice (some ⟨p.1, 0, none⟩) p.2.1 p.2.1)) :
    RS (W.alloc (.cells cs t)) (some ⟨W.heap.size, 0, none⟩) L.length (L.map (·.2.2)) := by
  refine ⟨by simp, fun _ => ⟨_, _, rfl, fun j zs hz => ?_⟩⟩
  rw [List.getElem?_map, Option.map_eq_some_iff] at hz
  obtain ⟨p, hp, rfl⟩ := hz
  have hc := (Blk.new W t cs).cell j
  have h1 : cs[j]? = some (.slice (some ⟨p.1, 0, none⟩) p.2.1 p.2.1) := by
    rw [← Array.getElem?_toList, e, List.getElem?_map, hp]; rfl
  rw [h1] at hc
  obtain ⟨hb, hby, hk⟩ := h p (List.mem_of_getElem? hp)
  have hr := hb.reads (fun z hz => wf_u8 (hby z hz)) hb.lt
  rw [hk] at hr
  exact ⟨_, _, _, W.heap.size, by rw [Nat.zero_add]; exact hc, hr.alloc (Nat.le_refl _) _⟩

theorem sum_rows (W : World) (L : List (Nat × Nat × List Int)) (h : Rws W L) (n : Nat) (hn : L.length = n) (cs : Array Value) (e : cs.toList = L.map (fun p => .slice (some ⟨p.1, 0, none⟩) p.2.1 p.2.1)) (hnb : n ≤ 100) (hm : (L.map (·.2.2)).flatten.length ≤ 4611686018427387904) :
    Calls Try.prog 62 #[.slice (some ⟨W.heap.size, 0, none⟩) n n] (W.alloc (.cells cs 39)) fun e w' => e = .returned (.int .u16 (fo (tot 0 (L.map (·.2.2)).flatten))) ∧ W.alloc (.cells cs 39) = w' :=
  sum_any _ _ n n _ (hn ▸ rs_of h e) (by omega) hm

theorem conv_u64 (v : Int) : 0 ≤ IntKind.u64.wrap v := by rw [IntKind.wrap_u64]; omega

/-- The bytes of a pseudo-header. -/
def psd4 (fl tl len proto : Int) : List Int := putOf 4 fl ++ putOf 4 tl ++ putOf 1 0 ++ putOf 1 (IntKind.u64.wrap proto) ++ putOf 2 (IntKind.u64.wrap len)
def psd6 (fh fl th tl len proto : Int) : List Int := putOf 8 fh ++ putOf 8 fl ++ putOf 8 th ++ putOf 8 tl ++ putOf 4 (IntKind.u64.wrap len) ++ putOf 3 0 ++ putOf 1 (IntKind.u64.wrap proto)

set_option maxHeartbeats 1000000 in
theorem pseudo_four (w : World) (fh fl th tl len proto : Int) (s : Bool) (hfl : 0 ≤ fl) (htl : 0 ≤ tl) :
    Calls Try.prog 61 #[.agg #[.bool false, .int .u64 fh, .int .u64 fl], .agg #[.bool s, .int .u64 th, .int .u64 tl], .int .i64 len, .int .i64 proto] w fun e w' => e = .returned (.int .u16 (fo (tot 0 (psd4 fl tl len proto)))) ∧ Below w.heap.size w w' := by
  have hU := conv_u64 len
  have hV := conv_u64 proto
  go_enter Try.func61, Try.ntmps61
  go_wp2_with fail
  obtain ⟨W, hW⟩ : ∃ W, W = (w.alloc (Obj.cells #[Value.bool false, Value.int IntKind.u64 fh, Value.int IntKind.u64 fl] 26)).alloc (Obj.cells #[Value.bool s, Value.int IntKind.u64 th, Value.int IntKind.u64 tl] 26) := ⟨_, rfl⟩
  rw [← hW]
  have b1 : Blk W w.heap.size 26 #[Value.bool false, Value.int IntKind.u64 fh, Value.int IntKind.u64 fl] := by rw [hW]; exact (Blk.new _ _ _).alloc _
  have b2 : Blk W (w.heap.size + 1) 26 #[Value.bool s, Value.int IntKind.u64 th, Value.int IntKind.u64 tl] := by
    have := Blk.new (w.alloc (Obj.cells #[Value.bool false, Value.int IntKind.u64 fh, Value.int IntKind.u64 fl] 26)) 26 #[Value.bool s, Value.int IntKind.u64 th, Value.int IntKind.u64 tl]
    rw [hW]; simpa using this
  have hB0 : Below w.heap.size w W := by rw [hW]; exact ((Below.refl _ _).alloc (Nat.le_refl _) _).alloc (by simp) _
  have HC : Hid (∀ W', Below W.heap.size W W' → W'.cell? ⟨w.heap.size, 2, none⟩ = some (.int .u64 fl) ∧ W'.cell? ⟨w.heap.size + 1, 2, none⟩ = some (.int .u64 tl)) := by
    show ∀ W', _ → _
    intro W' h
    exact ⟨by rw [(b1.below h b1.lt).cell]; rfl, by rw [(b2.below h b2.lt).cell]; rfl⟩
  have hB : Below W.heap.size W W.drew := (Below.refl _ _).drew
  have hR : Rws W.drew [] := fun p hp => by cases hp
  have HB0 := Lib.hid hB0
  have H1 := Lib.hid (putNil W 4 fl 4 (by decide) rfl hfl)
  have H2 := Lib.hid (putNil W 4 tl 4 (by decide) rfl htl)
  have H3 := Lib.hid (putNil W 1 0 1 (by decide) rfl (Int.le_refl _))
  have H4 := Lib.hid (putNil W 1 (IntKind.u64.wrap proto) 1 (by decide) rfl hV)
  have H5 := Lib.hid (putNil W 2 (IntKind.u64.wrap len) 2 (by decide) rfl hU)
  clear hW b1 b2 hB0
  go_region_held3 (fun w' => w'.cell? ⟨w.heap.size, 2, none⟩ = some (.int .u64 fl) ∧ w'.cell? ⟨w.heap.size + 1, 2, none⟩ = some (.int .u64 tl))
    (first | exact HC.out _ hB | exact HC.out _ (hB.alloc hB.size _) | go_keep)
    ((first
      | (go_at_call 21; (first
        | (have hc := H1.out _ _ hR hB; (with_reducible refine Calls.mono hc ?_); clear hc)
        | (have hc := H2.out _ _ hR hB; (with_reducible refine Calls.mono hc ?_); clear hc)
        | (have hc := H3.out _ _ hR hB; (with_reducible refine Calls.mono hc ?_); clear hc)
        | (have hc := H4.out _ _ hR hB; (with_reducible refine Calls.mono hc ?_); clear hc)
        | (have hc := H5.out _ _ hR hB; (with_reducible refine Calls.mono hc ?_); clear hc)); rintro e W' ⟨rfl, hR, hB, hBB⟩)
      | (go_at_call 62; refine Calls.mono (sum_rows _ _ hR 5 rfl _ rfl (by decide) (by simp [putOf_len])) ?_; rintro e W9 ⟨rfl, rfl⟩)))
  go_wp2
  go_ret
  exact ⟨ret_k (by simp [psd4]), HB0.out.trans ((hB.alloc hB.size _).mono HB0.out.size)⟩

set_option maxHeartbeats 1000000 in
theorem pseudo_six (w : World) (fh fl th tl len proto : Int) (s : Bool) (hfh : 0 ≤ fh) (hfl : 0 ≤ fl) (hth : 0 ≤ th) (htl : 0 ≤ tl) :
    Calls Try.prog 61 #[.agg #[.bool true, .int .u64 fh, .int .u64 fl], .agg #[.bool s, .int .u64 th, .int .u64 tl], .int .i64 len, .int .i64 proto] w fun e w' => e = .returned (.int .u16 (fo (tot 0 (psd6 fh fl th tl len proto)))) ∧ Below w.heap.size w w' := by
  have hU := conv_u64 len
  have hV := conv_u64 proto
  go_enter Try.func61, Try.ntmps61
  go_wp2_with fail
  obtain ⟨W, hW⟩ : ∃ W, W = (w.alloc (Obj.cells #[Value.bool true, Value.int IntKind.u64 fh, Value.int IntKind.u64 fl] 26)).alloc (Obj.cells #[Value.bool s, Value.int IntKind.u64 th, Value.int IntKind.u64 tl] 26) := ⟨_, rfl⟩
  rw [← hW]
  have b1 : Blk W w.heap.size 26 #[Value.bool true, Value.int IntKind.u64 fh, Value.int IntKind.u64 fl] := by rw [hW]; exact (Blk.new _ _ _).alloc _
  have b2 : Blk W (w.heap.size + 1) 26 #[Value.bool s, Value.int IntKind.u64 th, Value.int IntKind.u64 tl] := by
    have := Blk.new (w.alloc (Obj.cells #[Value.bool true, Value.int IntKind.u64 fh, Value.int IntKind.u64 fl] 26)) 26 #[Value.bool s, Value.int IntKind.u64 th, Value.int IntKind.u64 tl]
    rw [hW]; simpa using this
  have hB0 : Below w.heap.size w W := by rw [hW]; exact ((Below.refl _ _).alloc (Nat.le_refl _) _).alloc (by simp) _
  have HC : Hid (∀ W', Below W.heap.size W W' → W'.cell? ⟨w.heap.size, 1, none⟩ = some (.int .u64 fh) ∧ W'.cell? ⟨w.heap.size, 2, none⟩ = some (.int .u64 fl) ∧ W'.cell? ⟨w.heap.size + 1, 1, none⟩ = some (.int .u64 th) ∧ W'.cell? ⟨w.heap.size + 1, 2, none⟩ = some (.int .u64 tl)) := by
    show ∀ W', _ → _
    intro W' h
    exact ⟨by rw [(b1.below h b1.lt).cell]; rfl, by rw [(b1.below h b1.lt).cell]; rfl, by rw [(b2.below h b2.lt).cell]; rfl, by rw [(b2.below h b2.lt).cell]; rfl⟩
  have hB : Below W.heap.size W W.drew := (Below.refl _ _).drew
  have hR : Rws W.drew [] := fun p hp => by cases hp
  have HB0 := Lib.hid hB0
  have H1 := Lib.hid (putNil W 8 fh 8 (by decide) rfl hfh)
  have H2 := Lib.hid (putNil W 8 fl 8 (by decide) rfl hfl)
  have H3 := Lib.hid (putNil W 8 th 8 (by decide) rfl hth)
  have H4 := Lib.hid (putNil W 8 tl 8 (by decide) rfl htl)
  have H5 := Lib.hid (putNil W 4 (IntKind.u64.wrap len) 4 (by decide) rfl hU)
  have H6 := Lib.hid (putNil W 3 0 3 (by decide) rfl (Int.le_refl _))
  have H7 := Lib.hid (putNil W 1 (IntKind.u64.wrap proto) 1 (by decide) rfl hV)
  clear hW b1 b2 hB0
  go_region_held3 (fun w' => w'.cell? ⟨w.heap.size, 1, none⟩ = some (.int .u64 fh) ∧ w'.cell? ⟨w.heap.size, 2, none⟩ = some (.int .u64 fl) ∧ w'.cell? ⟨w.heap.size + 1, 1, none⟩ = some (.int .u64 th) ∧ w'.cell? ⟨w.heap.size + 1, 2, none⟩ = some (.int .u64 tl))
    (first | exact HC.out _ hB | exact HC.out _ (hB.alloc hB.size _) | go_keep)
    ((first
      | (go_at_call 21; (first
        | (have hc := H1.out _ _ hR hB; (with_reducible refine Calls.mono hc ?_); clear hc)
        | (have hc := H2.out _ _ hR hB; (with_reducible refine Calls.mono hc ?_); clear hc)
        | (have hc := H3.out _ _ hR hB; (with_reducible refine Calls.mono hc ?_); clear hc)
        | (have hc := H4.out _ _ hR hB; (with_reducible refine Calls.mono hc ?_); clear hc)
        | (have hc := H5.out _ _ hR hB; (with_reducible refine Calls.mono hc ?_); clear hc)
        | (have hc := H6.out _ _ hR hB; (with_reducible refine Calls.mono hc ?_); clear hc)
        | (have hc := H7.out _ _ hR hB; (with_reducible refine Calls.mono hc ?_); clear hc)); rintro e W' ⟨rfl, hR, hB, hBB⟩)
      | (go_at_call 62; refine Calls.mono (sum_rows _ _ hR 7 rfl _ rfl (by decide) (by simp [putOf_len])) ?_; rintro e W9 ⟨rfl, rfl⟩)))
  go_wp2
  go_ret
  exact ⟨ret_k (by simp [psd6]), HB0.out.trans ((hB.alloc hB.size _).mono HB0.out.size)⟩
end Go.Proofs.Ytljdebpemdjliaa
