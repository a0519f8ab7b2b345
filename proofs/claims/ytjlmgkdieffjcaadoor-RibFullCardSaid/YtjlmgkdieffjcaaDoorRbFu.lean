/-
  The laws of layer 15: ninety prefixes, and four paths to one of them.
-/
import Derived.Test.YtjlmgkdieffjcaaDoorRpJ
import Derived.Test.YtjlmgkdieffjcaaDoorMgL
namespace Go.Proofs.YtjlmgkdieffjcaaDoor
open Go.RowKit
set_option linter.unusedVariables false

def flP (i : Nat) : PfI := ((false, 0, i * 65536), 16)
theorem flP_inj {i j : Nat} (h : flP i = flP j) : i = j := by
  have e : i * 65536 = j * 65536 := congrArg (fun x : PfI => x.1.2.2) h
  omega
theorem nodup_inj {α β : Type} {f : α → β} {l : List α} (h : l.Nodup) (hf : ∀ a b, f a = f b → a = b) : (l.map f).Nodup := by
  unfold List.Nodup
  rw [List.pairwise_map]
  exact h.imp fun hab e => hab (hf _ _ e)
theorem flP_num (i : Nat) (hi : i < 1200) : N64 (flP i).1.2.1 ∧ N64 (flP i).1.2.2 := by unfold flP N64; simp only; omega
theorem flP_ok (i : Nat) (hi : i < 1200) : PfOk (flP i) := ⟨flP_num i hi, show I64 16 from by unfold I64; decide⟩
theorem flP_pv (i : Nat) (hi : i < 1200) : pvI (flP i) = true := by
  unfold pvI pvl
  refine (hld_iff (by unfold flP N64; simp only; omega) (by unfold flP N64; simp only; omega)).2 ⟨?_, show okn false 16 = true from by decide, rfl, ?_⟩
  · unfold flP vld; simp; omega
  · unfold flP nm ct kk wd
    simp only [Bool.false_eq_true, if_false]
    have : 32 - (16 : Int).toNat = 16 := by decide
    rw [this]
    omega
def flX (n : Nat) : PaI := (1, 0, byR n, 0, false)
theorem by_num (n : Nat) (hn : n ≤ 9) : N64 (byR n).2.1 ∧ N64 (byR n).2.2 := by unfold byR N64; simp only; omega
theorem fl_num (n : Nat) (hn : n ≤ 9) : N64 (flX n).2.2.1.2.1 ∧ N64 (flX n).2.2.1.2.2 := by_num n hn
theorem fl_pa (pr me : Int) (n : Nat) (hp : 0 ≤ pr ∧ pr ≤ 4) (hm : 0 ≤ me ∧ me ≤ 65535) (hn : n ≤ 9) : PaOk (pr, me, byR n, 0, false) := by
  refine ⟨?_, ?_, by_num n hn, show I64 0 from by unfold I64; decide⟩
  · simp [I64, Lit.wf, IntKind.min, IntKind.max, IntKind.bits, IntKind.signed]; omega
  · simp [I64, Lit.wf, IntKind.min, IntKind.max, IntKind.bits, IntKind.signed]; omega
theorem by_cls (n : Nat) (h1 : 1 ≤ n) (hn : n ≤ 9) : clsR (byR n) = 5 := by
  rcases (show n = 1 ∨ n = 2 ∨ n = 3 ∨ n = 4 ∨ n = 5 ∨ n = 6 ∨ n = 7 ∨ n = 8 ∨ n = 9 by omega) with rfl | rfl | rfl | rfl | rfl | rfl | rfl | rfl | rfl <;> kernel_rfl
theorem fl_right (i : Nat) (hi : i < 1200) (pr me : Int) (n : Nat) (hp : 0 ≤ pr ∧ pr ≤ 4) (hm : 0 ≤ me ∧ me ≤ 65535) (h1 : 1 ≤ n) (hn : n ≤ 9) : rightI (flP i) (pr, me, byR n, 0, false) = true := by
  unfold rightI
  rw [if_neg (by rw [flP_pv i hi]; simp; omega), if_neg (by simp), if_pos rfl]
  unfold nbI
  rw [by_cls n h1 hn]
  rfl
theorem fl_same {pr me pr' me' : Int} {n n' : Nat} (h : sameW (pr, me, byR n, 0, false) (pr', me', byR n', 0, false) = true) : n = n' := by
  unfold sameW at h
  simp only [Bool.and_eq_true, decide_eq_true_eq] at h
  have := h.2.1
  unfold byR at this
  injection this with _ h; injection h with _ h; omega
/-- The rib behind so many prefixes. -/
def flL : Nat → List TdI
  | 0 => []
  | k + 1 => (putR (flL k) (flP k) (flX 1)).1
theorem fl_put {L : List TdI} {p : PfI} {x : PaI} (hr : rightI p x = true) (hw : wayI L p x = 0) (hf : (pathsI L p).length < 4) (hn : (pathsI L p).length = 0 → (prefsI L).length < 90) : putR L p x = (insI L (p, x), 0) := by
  unfold putR
  rw [if_neg (by rw [hr]; simp), if_neg (by rw [hw]; simp), if_neg (by omega)]
theorem flL_spec : ∀ k, k ≤ 90 → InvB (flL k) ∧ (∀ t, t ∈ flL k ↔ ∃ i, i < k ∧ t = (flP i, flX 1)) ∧ (flL k).length = k ∧ (prefsI (flL k)).length = k
  | 0, _ => ⟨InvB.nil, by simp [flL], rfl, rfl⟩
  | k + 1, hk => by
    obtain ⟨h1, h2, h3, h4⟩ := flL_spec k (by omega)
    have hr := fl_right k (by omega) 1 0 1 (by decide) (by decide) (by decide) (by decide)
    have hno : ∀ t ∈ flL k, ¬ t.1 = flP k := fun t ht e => by
      obtain ⟨i, hi, rfl⟩ := (h2 t).1 ht
      have := flP_inj e
      omega
    have hw : wayI (flL k) (flP k) (flX 1) = 0 := wayI_zero.2 fun t ht => by unfold isW; rw [decide_eq_false (hno t ht)]; rfl
    have hpn : (pathsI (flL k) (flP k)).length = 0 := (paths_nil h1.inv).2 fun hm => by
      obtain ⟨t, ht, e⟩ := (prefsI_mem h1.inv).1 hm
      exact hno t ht e
    have he : putR (flL k) (flP k) (flX 1) = (insI (flL k) (flP k, flX 1), 0) := fl_put hr hw (by omega) (fun _ => by omega)
    have hI : InvB (flL (k + 1)) := h1.put _ _ (flP_num k (by omega)) (by_num 1 (by decide))
    have hm : ∀ t, t ∈ flL (k + 1) ↔ ∃ i, i < k + 1 ∧ t = (flP i, flX 1) := fun t => by
      show t ∈ (putR _ _ _).1 ↔ _
      rw [he, insI_mem, h2]
      constructor
      · rintro (e | ⟨i, hi, e⟩)
        · exact ⟨k, by omega, e⟩
        · exact ⟨i, by omega, e⟩
      · rintro ⟨i, hi, e⟩
        by_cases hik : i = k
        · subst hik; exact .inl e
        · exact .inr ⟨i, by omega, e⟩
    refine ⟨hI, hm, ?_, ?_⟩
    · show (putR _ _ _).1.length = _
      rw [he, insI_len, h3]
    · have hp : (prefsI (flL (k + 1))).Perm ((List.range (k + 1)).map flP) := (List.perm_ext_iff_of_nodup (prefsI_nodup hI.inv) (nodup_inj List.nodup_range (fun a b e => flP_inj e))).2 fun p => by
        rw [prefsI_mem hI.inv, List.mem_map]
        constructor
        · rintro ⟨t, ht, rfl⟩
          obtain ⟨i, hi, rfl⟩ := (hm t).1 ht
          exact ⟨i, List.mem_range.2 hi, rfl⟩
        · rintro ⟨i, hi, rfl⟩
          exact ⟨_, (hm _).2 ⟨i, List.mem_range.1 hi, rfl⟩, rfl⟩
      rw [hp.length_eq, List.length_map, List.length_range]
theorem flL_put (k : Nat) (hk : k < 90) : (putR (flL k) (flP k) (flX 1)).2 = 0 := by
  obtain ⟨h1, h2, h3, h4⟩ := flL_spec k (by omega)
  have hr := fl_right k (by omega) 1 0 1 (by decide) (by decide) (by decide) (by decide)
  have hno : ∀ t ∈ flL k, ¬ t.1 = flP k := fun t ht e => by
    obtain ⟨i, hi, rfl⟩ := (h2 t).1 ht
    have := flP_inj e
    omega
  have hw : wayI (flL k) (flP k) (flX 1) = 0 := wayI_zero.2 fun t ht => by unfold isW; rw [decide_eq_false (hno t ht)]; rfl
  have hpn : (pathsI (flL k) (flP k)).length = 0 := (paths_nil h1.inv).2 fun hm => by
    obtain ⟨t, ht, e⟩ := (prefsI_mem h1.inv).1 hm
    exact hno t ht e
  have he : putR (flL k) (flP k) (flX 1) = (insI (flL k) (flP k, flX 1), 0) := fl_put hr hw (by omega) (fun _ => by omega)
  rw [he]
theorem putR_full {L : List TdI} {p : PfI} {x : PaI} (hr : rightI p x = true) (hw : wayI L p x = 0) (hf : 4 ≤ (pathsI L p).length ∨ ((pathsI L p).length = 0 ∧ 90 ≤ (prefsI L).length)) : putR L p x = (L, 141) := by
  unfold putR
  rw [if_neg (by rw [hr]; simp), if_neg (by rw [hw]; simp), if_pos hf]
/-- What is asked of the ninety. -/
structure FlS (L0 : List TdI) : Prop where
  inv : InvB L0
  mem : ∀ t, t ∈ L0 ↔ ∃ i, i < 90 ∧ t = (flP i, flX 1)
  len : L0.length = 90
theorem flS_of (k : Nat) (hk : k = 90) : FlS (flL k) := by
  have h := flL_spec k (by omega)
  exact ⟨h.1, fun t => by rw [h.2.1, hk], by rw [h.2.2.1, hk]⟩
/-- .. and of so many paths more to the fourth. -/
structure FlM (L : List TdI) (j : Nat) : Prop where
  inv : InvB L
  mem : ∀ t, t ∈ L ↔ (∃ i, i < 90 ∧ t = (flP i, flX 1)) ∨ ∃ n, 2 ≤ n ∧ n ≤ j + 1 ∧ t = (flP 3, flX n)
  len : L.length = 90 + j
theorem FlS.m {L : List TdI} (h : FlS L) : FlM L 0 := ⟨h.inv, fun t => by
  rw [h.mem]
  exact ⟨fun h => .inl h, fun h => h.resolve_right (by rintro ⟨n, a, b, -⟩; omega)⟩, h.len⟩
theorem FlM.facts {L : List TdI} : ∀ j, j ≤ 3 → FlM L j → (prefsI L).length = 90 ∧ (pathsI L (flP 3)).length = j + 1 ∧ (j < 3 → putR L (flP 3) (flX (j + 2)) = (insI L (flP 3, flX (j + 2)), 0)) := by
  intro j hj ⟨hI, hm, hlen⟩
  have hpre : (prefsI L).length = 90 := by
    have hp : (prefsI L).Perm ((List.range 90).map flP) := (List.perm_ext_iff_of_nodup (prefsI_nodup hI.inv) (nodup_inj List.nodup_range (fun a b e => flP_inj e))).2 fun p => by
      rw [prefsI_mem hI.inv, List.mem_map]
      constructor
      · rintro ⟨t, ht, rfl⟩
        rcases (hm t).1 ht with ⟨i, hi, rfl⟩ | ⟨n, h1, h2, rfl⟩
        · exact ⟨i, List.mem_range.2 hi, rfl⟩
        · exact ⟨3, by simp, rfl⟩
      · rintro ⟨i, hi, rfl⟩
        exact ⟨_, (hm _).2 (.inl ⟨i, List.mem_range.1 hi, rfl⟩), rfl⟩
    rw [hp.length_eq, List.length_map, List.length_range]
  have hpa : (pathsI L (flP 3)).length = j + 1 := by
    have hnd : (pathsI L (flP 3)).Nodup := (paths_srt hI.inv (flP 3)).imp fun {a b} hab e => by subst e; rw [betI_irr] at hab; cases hab
    have hp : (pathsI L (flP 3)).Perm ((List.range (j + 1)).map fun i => flX (i + 1)) := (List.perm_ext_iff_of_nodup hnd (nodup_inj List.nodup_range (fun a b e => by
      have e2 : 168361984 + (a + 1) = 168361984 + (b + 1) := congrArg (fun x : PaI => x.2.2.1.2.2) e
      omega))).2 fun x => by
      rw [pathsI_mem, hm, List.mem_map]
      constructor
      · rintro (⟨i, hi, e⟩ | ⟨n, h1, h2, e⟩)
        · injection e with e1 e2; exact ⟨0, by simp, e2.symm⟩
        · injection e with e1 e2; exact ⟨n - 1, List.mem_range.2 (by omega), by rw [e2, show n - 1 + 1 = n by omega]⟩
      · rintro ⟨i, hi, rfl⟩
        have hi := List.mem_range.1 hi
        by_cases h0 : i = 0
        · subst h0; exact .inl ⟨3, by omega, rfl⟩
        · exact .inr ⟨i + 1, by omega, by omega, rfl⟩
    rw [hp.length_eq, List.length_map, List.length_range]
  refine ⟨hpre, hpa, fun hj3 => ?_⟩
  refine fl_put (fl_right 3 (by decide) 1 0 (j + 2) (by decide) (by decide) (by omega) (by omega)) (wayI_zero.2 fun t ht => ?_) (by omega) (fun h0 => by omega)
  rw [Bool.eq_false_iff]
  intro hw
  unfold isW at hw
  rw [Bool.and_eq_true, decide_eq_true_eq] at hw
  rcases (hm t).1 ht with ⟨i, hi, rfl⟩ | ⟨n, h1, h2, rfl⟩
  · have := fl_same hw.2; omega
  · have := fl_same hw.2; omega
theorem FlM.put {L : List TdI} {j : Nat} (h : FlM L j) (hj : j < 3) : (putR L (flP 3) (flX (j + 2))).2 = 0 ∧ FlM (putR L (flP 3) (flX (j + 2))).1 (j + 1) := by
  have he := (FlM.facts j (by omega) h).2.2 hj
  have hI := h.inv.put (flP 3) (flX (j + 2)) (flP_num 3 (by decide)) (fl_num (j + 2) (by omega))
  rw [he] at hI ⊢
  refine ⟨rfl, hI, fun t => ?_, by rw [insI_len, h.len]; omega⟩
  rw [insI_mem, h.mem]
  constructor
  · rintro (e | e | ⟨n, a, b, e⟩)
    · exact .inr ⟨j + 2, by omega, by omega, e⟩
    · exact .inl e
    · exact .inr ⟨n, a, by omega, e⟩
  · rintro (e | ⟨n, a, b, e⟩)
    · exact .inr (.inl e)
    · by_cases hn : n = j + 2
      · subst hn; exact .inl e
      · exact .inr (.inr ⟨n, a, by omega, e⟩)
/-- A fifth path is refused. -/
theorem fl_a {L : List TdI} (h : FlM L 3) : putR L (flP 3) (flX 5) = (L, 141) := by
  obtain ⟨h4, h5, -⟩ := FlM.facts 3 (by decide) h
  obtain ⟨h1, h2, h3⟩ := h
  refine putR_full (fl_right 3 (by decide) 1 0 5 (by decide) (by decide) (by decide) (by decide)) (wayI_zero.2 fun t ht => ?_) (.inl (by omega))
  rw [Bool.eq_false_iff]
  intro hw
  unfold isW at hw
  rw [Bool.and_eq_true, decide_eq_true_eq] at hw
  rcases (h2 t).1 ht with ⟨i, hi, rfl⟩ | ⟨n, a, b, rfl⟩
  · have := fl_same hw.2; omega
  · have := fl_same hw.2; omega
/-- A ninety-first prefix is refused. -/
theorem fl_b {L : List TdI} (h : FlM L 3) (m : Nat) (hm : m < 1000) : putR L (flP (200 + m)) (2, 0, byR 6, 0, false) = (L, 141) := by
  obtain ⟨h4, h5, -⟩ := FlM.facts 3 (by decide) h
  obtain ⟨h1, h2, h3⟩ := h
  have hno : ∀ t ∈ L, ¬ t.1 = flP (200 + m) := fun t ht e => by
    rcases (h2 t).1 ht with ⟨i, hi, rfl⟩ | ⟨n, a, b, rfl⟩
    · have := flP_inj e; omega
    · have := flP_inj e; omega
  refine putR_full (fl_right (200 + m) (by omega) 2 0 6 (by decide) (by decide) (by decide) (by decide)) (wayI_zero.2 fun t ht => by unfold isW; rw [decide_eq_false (hno t ht)]; rfl) (.inr ⟨(paths_nil h1.inv).2 fun hm => ?_, by omega⟩)
  obtain ⟨t, ht, e⟩ := (prefsI_mem h1.inv).1 hm
  exact hno t ht e
theorem fnd_le {α : Type} {f : α → Bool} {l : List α} {j : Nat} (h : fndI f l = j + 1) : j < l.length := by
  obtain ⟨⟨y, hy, -⟩, -⟩ := fndI_succ.1 h
  exact (List.getElem?_eq_some_iff.1 hy).1
/-- Behind four paths: another of the same way takes its place, any other is refused: as many stand there. -/
theorem put_same {L : List TdI} (h : InvB L) {p : PfI} {x : PaI} (n1 : N64 p.1.2.1 ∧ N64 p.1.2.2) (n2 : N64 x.2.2.1.2.1 ∧ N64 x.2.2.1.2.2) (h4 : (pathsI L p).length = 4) : (putR L p x).1.length = L.length ∧ (pathsI (putR L p x).1 p).length = 4 ∧ ((putR L p x).2 = 140 ∨ (putR L p x).2 = 141 ∨ (putR L p x).2 = 0) ∧ (rightI p x = true → ¬ wayI L p x = 0 → (putR L p x).2 = 0) := by
  by_cases hr : rightI p x = false
  · have e : putR L p x = (L, 140) := by unfold putR; rw [if_pos hr]
    rw [e]; exact ⟨rfl, h4, .inl rfl, fun h9 => by rw [hr] at h9; cases h9⟩
  · have hr' : rightI p x = true := by simpa using hr
    by_cases hw : wayI L p x = 0
    · rw [putR_full hr' hw (.inl (by omega))]; exact ⟨rfl, h4, .inr (.inl rfl), fun _ h9 => absurd hw h9⟩
    · have e : putR L p x = (insI (L.eraseIdx (wayI L p x - 1)) (p, x), 0) := by unfold putR; rw [if_neg (by rw [hr']; simp), if_pos hw]
      have hlt : wayI L p x - 1 < L.length := by
        obtain ⟨j, hj⟩ : ∃ j, wayI L p x = j + 1 := ⟨wayI L p x - 1, by omega⟩
        have := fnd_le (f := isW p x) (l := L) (j := j) hj
        omega
      have hrow := put_row h (h.put p x n1 n2) hr' rfl
      obtain ⟨j, hj⟩ : ∃ j, fndI (fun y => sameW x y) (pathsI L p) = j + 1 := by
        have h0 : ¬ fndI (fun y => sameW x y) (pathsI L p) = 0 := fun h0 => hw ((way_row L p x).1.2 h0)
        exact ⟨fndI (fun y => sameW x y) (pathsI L p) - 1, by omega⟩
      have hjl := fnd_le hj
      obtain ⟨r1, r2, -⟩ := hrow.1 j hj
      refine ⟨?_, ?_, .inr (.inr r1), fun _ _ => r1⟩
      · rw [e, insI_len, List.length_eraseIdx, if_pos hlt]; omega
      · rw [r2]
        have : ∀ (l : List PaI) (y : PaI), (insP l y).length = l.length + 1 := fun l y => by
          unfold insP
          split
          · simp
          · rename_i h0
            obtain ⟨q, hq⟩ : ∃ q, fndI (fun z => betI y z) l = q + 1 := ⟨fndI (fun z => betI y z) l - 1, by omega⟩
            have := fnd_le hq
            simp; omega
        rw [this, List.length_eraseIdx, if_pos hjl]; omega
theorem fl_c {L : List TdI} (h : FlM L 3) (me : Int) (hm : 0 ≤ me ∧ me ≤ 65535) : (putR L (flP 3) (1, me, byR 4, 0, false)).2 = 0 ∧ (putR L (flP 3) (1, me, byR 4, 0, false)).1.length = 93 ∧ (pathsI (putR L (flP 3) (1, me, byR 4, 0, false)).1 (flP 3)).length = 4 ∧ InvB (putR L (flP 3) (1, me, byR 4, 0, false)).1 := by
  obtain ⟨h4, h5, -⟩ := FlM.facts 3 (by decide) h
  obtain ⟨h1, h2, h3⟩ := h
  obtain ⟨r1, r2, r3, r4⟩ := put_same h1 (p := flP 3) (x := (1, me, byR 4, 0, false)) (flP_num 3 (by decide)) (by_num 4 (by decide)) (by omega)
  refine ⟨r4 (fl_right 3 (by decide) 1 me 4 (by decide) hm (by decide) (by decide)) (fun h0 => ?_), by omega, r2, h1.put _ _ (flP_num 3 (by decide)) (by_num 4 (by decide))⟩
  have := wayI_zero.1 h0 (flP 3, flX 4) ((h2 _).2 (.inr ⟨4, by decide, by decide, rfl⟩))
  simp [isW, sameW, flX] at this
theorem pf_v (i : Nat) : pfR (flP i) = .agg #[.bool false, .int .u64 0, .int .u64 ((i : Int) * 65536), .int .i64 16] := by
  have e : ((i * 65536 : Nat) : Int) = (i : Int) * 65536 := by omega
  show Value.agg #[.bool false, .int .u64 ((0 : Nat) : Int), .int .u64 ((i * 65536 : Nat) : Int), .int .i64 16] = _
  rw [e]; rfl
theorem pa_v (pr me : Int) (n : Nat) : paR (pr, me, byR n, 0, false) = .agg #[.int .i64 pr, .int .i64 me, .bool false, .int .u64 0, .int .u64 (168361984 + (n : Int)), .int .i64 0, .bool false] := by
  have e : ((168361984 + n : Nat) : Int) = 168361984 + (n : Int) := by omega
  show Value.agg #[.int .i64 pr, .int .i64 me, .bool false, .int .u64 ((0 : Nat) : Int), .int .u64 ((168361984 + n : Nat) : Int), .int .i64 0, .bool false] = _
  rw [e]; rfl
/-- Put at the law's own values. -/
theorem putV (p : Nat) (S : List Nat) (L : List TdI) (q : PfI) (x : PaI) (hq : PfOk q) (hx : PaOk x) {V1 V2 : Value} (h1 : pfR q = V1) (h2 : paR x = V2) {r : Int} (hr : (putR L q x).2 = r) (W : World) (hE : EnvN W S) (h : RbP W p S L) :
    Calls Tryd.prog 14 #[.pointer (some ⟨p, 0, none⟩), V1, V2] W fun e w' => e = .returned (.int .i64 r) ∧ ∃ S', RbP w' p S' (putR L q x).1 ∧ Goes W w' S S' := by
  subst h1 h2 hr
  exact putP p S L q x hq hx W hE.1 hE.2 h
end Go.Proofs.YtjlmgkdieffjcaaDoor
