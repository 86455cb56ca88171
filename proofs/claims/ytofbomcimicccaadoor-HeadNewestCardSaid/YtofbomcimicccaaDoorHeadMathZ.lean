/-
  Heads: what may be, a head as a load, what a page tells, which of two is picked. No program.
-/
import Derived.Test.YtofbomcimicccaaDoorMath1Z
import Derived.Test.YtofbomcimicccaaDoorSheetMathZ
namespace Go.Proofs.YtofbomcimicccaaDoor
open Go.RowKit

/-- A head. -/
structure Hd where
  s : Nat
  t : Nat
  g : Nat
  r : Int
  e : Int
/-- Its numbers are ones of their types. -/
structure Hd.Fit (h : Hd) : Prop where
  s : h.s < 18446744073709551616
  t : h.t < 18446744073709551616
  g : h.g < 18446744073709551616
  r0 : -9223372036854775808 ≤ h.r
  r1 : h.r ≤ 9223372036854775807
  e0 : -9223372036854775808 ≤ h.e
  e1 : h.e ≤ 9223372036854775807
def hd0 : Hd := ⟨0, 0, 0, 0, 0⟩
abbrev B62 : Nat := 4611686018427387904
/-- A root just if there are entries. -/
def hrootB (h : Hd) : Bool := if h.e = 0 then decide (h.r = 0) else decide (2 ≤ h.r)
/-- May one be? -/
def HMay (h : Hd) : Prop := (h.s ≤ B62 ∧ h.t ≤ B62 ∧ h.g ≤ B62) ∧ (0 ≤ h.e ∧ h.e ≤ 4096) ∧ ((h.e = 0 ∧ h.r = 0) ∨ (h.e ≠ 0 ∧ 2 ≤ h.r ∧ h.r ≤ 1023))
def hmayB (h : Hd) : Bool := decide ((h.s ≤ B62 ∧ h.t ≤ B62 ∧ h.g ≤ B62) ∧ (0 ≤ h.e ∧ h.e ≤ 4096) ∧ ((h.e = 0 ∧ h.r = 0) ∨ (h.e ≠ 0 ∧ 2 ≤ h.r ∧ h.r ≤ 1023)))
theorem hmayB_iff (h : Hd) : hmayB h = true ↔ HMay h := by unfold hmayB HMay; exact decide_eq_true_iff
theorem hmayB_not (h : Hd) : hmayB h = false ↔ ¬ HMay h := by rw [← hmayB_iff]; simp
theorem HMay.fit {h : Hd} (m : HMay h) : h.Fit := by
  obtain ⟨⟨h1, h2, h3⟩, h4, h5⟩ := m
  simp only [B62] at *
  exact ⟨by omega, by omega, by omega, by omega, by omega, by omega, by omega⟩
theorem HMay.root0 {h : Hd} (m : HMay h) : 0 ≤ h.r := by obtain ⟨_, _, h5⟩ := m; omega
theorem hd0_may : HMay hd0 := by refine ⟨⟨?_, ?_, ?_⟩, ⟨?_, ?_⟩, .inl ⟨rfl, rfl⟩⟩ <;> simp [hd0]

/-- A head as a load. -/
def hload (h : Hd) : List Nat := vb h.s ++ vb h.t ++ vb h.g ++ vb h.r.toNat ++ vb h.e.toNat
theorem hload_right (h : Hd) : hload h = vb h.s ++ (vb h.t ++ (vb h.g ++ (vb h.r.toNat ++ (vb h.e.toNat ++ [])))) := by simp [hload]
theorem hload_len {h : Hd} (m : HMay h) : (hload h).length ≤ 50 := by
  have f := m.fit
  have h1 := vs_le f.s
  have h2 := vs_le f.t
  have h3 := vs_le f.g
  have h4 := vs_le (v := h.r.toNat) (by have := f.r1; omega)
  have h5 := vs_le (v := h.e.toNat) (by have := f.e1; omega)
  unfold vs at *
  unfold hload
  simp only [List.length_append]
  omega
theorem hload_b8 (h : Hd) : B8 (hload h) := ((((vb_b8 _).append (vb_b8 _)).append (vb_b8 _)).append (vb_b8 _)).append (vb_b8 _)

/-- Where a reader stands behind k numbers, each at most so great. -/
def hst (ms : Nat → Nat) (l : List Nat) : Nat → RS
  | 0 => ⟨l, false⟩
  | k + 1 => (numS (hst ms l k) (ms k)).2
/-- The number at a place. -/
def hnu (ms : Nat → Nat) (l : List Nat) (k : Nat) : Nat := (numS (hst ms l k) (ms k)).1
/-- What is left behind k numbers, of whatever size. -/
def hraw (l : List Nat) : Nat → List Nat
  | 0 => l
  | k + 1 => (hraw l k).drop (gt (hraw l k)).2.1
theorem hst_inv (ms : Nat → Nat) (l : List Nat) : ∀ k, (hst ms l k).wr = true → (hst ms l k).l = []
  | 0 => fun h => by cases h
  | k + 1 => fun h => by
    show (numS _ _).2.l = []
    have h' : (numS (hst ms l k) (ms k)).2.wr = true := h
    rw [numS_wr h']
theorem hst_no (ms : Nat → Nat) (l : List Nat) : ∀ k, (hst ms l k).wr = false → hst ms l k = ⟨hraw l k, false⟩ ∧ ∀ i, i < k → (gt (hraw l i)).2.2 = 0 ∧ (gt (hraw l i)).1 ≤ ms i ∧ hnu ms l i = (gt (hraw l i)).1
  | 0 => fun _ => ⟨rfl, fun i hi => absurd hi (Nat.not_lt_zero i)⟩
  | k + 1 => fun h => by
    have h' : (numS (hst ms l k) (ms k)).2.wr = false := h
    obtain ⟨e, g1, g2⟩ := numS_ok h'
    have hw : (hst ms l k).wr = false := by
      cases hc : (hst ms l k).wr with
      | false => rfl
      | true =>
        have := hst_inv ms l k hc
        rw [this, gt_nil] at g1
        cases g1
    obtain ⟨ek, hi⟩ := hst_no ms l k hw
    rw [ek] at e g1 g2
    constructor
    · show (numS (hst ms l k) (ms k)).2 = _
      rw [ek, e]; rfl
    · intro i hik
      rcases Nat.lt_succ_iff_lt_or_eq.1 hik with h1 | rfl
      · exact hi i h1
      · refine ⟨g1, g2, ?_⟩
        show (numS (hst ms l i) (ms i)).1 = _
        rw [ek, e]
theorem hst_yes (ms : Nat → Nat) (l : List Nat) : ∀ k, (∀ i, i < k → (gt (hraw l i)).2.2 = 0 ∧ (gt (hraw l i)).1 ≤ ms i) → hst ms l k = ⟨hraw l k, false⟩
  | 0 => fun _ => rfl
  | k + 1 => fun h => by
    have ek := hst_yes ms l k fun i hi => h i (by omega)
    obtain ⟨g1, g2⟩ := h k (by omega)
    show (numS (hst ms l k) (ms k)).2 = _
    rw [ek, numS_hit (S := ⟨hraw l k, false⟩) g1 g2]; rfl
theorem hst_ok (ms : Nat → Nat) (l : List Nat) (k : Nat) : okS (hst ms l k) = true ↔ (∀ i, i < k → (gt (hraw l i)).2.2 = 0 ∧ (gt (hraw l i)).1 ≤ ms i) ∧ hraw l k = [] := by
  constructor
  · intro h
    have hw : (hst ms l k).wr = false := by unfold okS at h; cases hc : (hst ms l k).wr <;> simp_all
    obtain ⟨e, hi⟩ := hst_no ms l k hw
    rw [e] at h
    exact ⟨fun i hik => ⟨(hi i hik).1, (hi i hik).2.1⟩, by simpa [okS] using h⟩
  · rintro ⟨h1, h2⟩
    rw [hst_yes ms l k h1, h2]; rfl
theorem hnu_yes (ms : Nat → Nat) (l : List Nat) (k : Nat) (h : ∀ i, i < k → (gt (hraw l i)).2.2 = 0 ∧ (gt (hraw l i)).1 ≤ ms i) (i : Nat) (hi : i < k) : hnu ms l i = (gt (hraw l i)).1 :=
  ((hst_no ms l k (by rw [hst_yes ms l k h])).2 i hi).2.2
theorem hnu_le (ms : Nat → Nat) (l : List Nat) (k : Nat) : hnu ms l k ≤ ms k := numS_le _ _
theorem hst_b8 (ms : Nat → Nat) (l : List Nat) (hb : B8 l) : ∀ k, B8 (hst ms l k).l
  | 0 => hb
  | k + 1 => by
    show B8 (numS _ _).2.l
    by_cases hc : (gt (hst ms l k).l).2.2 = 0 ∧ (gt (hst ms l k).l).1 ≤ ms k
    · rw [numS_hit hc.1 hc.2]; exact (hst_b8 ms l hb k).drop _
    · rw [numS_miss hc]; exact B8.nil
/-- The program's bounds, by their place. -/
def msP (k : Nat) : Nat := if k < 3 then B62 else if k = 3 then 1023 else 4096
/-- The document's. -/
def msD (_ : Nat) : Nat := B62
/-- The head of five numbers. -/
def hof (f : Nat → Nat) : Hd := ⟨f 0, f 1, f 2, (f 3 : Nat), (f 4 : Nat)⟩
/-- Five numbers, and nothing behind them, that are a head's. -/
def HGood (l : List Nat) : Prop := (∀ i, i < 5 → (gt (hraw l i)).2.2 = 0) ∧ hraw l 5 = [] ∧ HMay (hof fun i => (gt (hraw l i)).1)
theorem hof_ext {f f' : Nat → Nat} (h : ∀ i, i < 5 → f i = f' i) : hof f = hof f' := by
  unfold hof
  rw [h 0 (by omega), h 1 (by omega), h 2 (by omega), h 3 (by omega), h 4 (by omega)]
theorem hof_may_root {f : Nat → Nat} (h : ∀ i, i < 5 → f i ≤ msP i) : HMay (hof f) ↔ hrootB (hof f) = true := by
  have h0 : f 0 ≤ B62 := h 0 (by omega)
  have h1 : f 1 ≤ B62 := h 1 (by omega)
  have h2 : f 2 ≤ B62 := h 2 (by omega)
  have h3 : f 3 ≤ 1023 := h 3 (by omega)
  have h4 : f 4 ≤ 4096 := h 4 (by omega)
  unfold HMay hrootB hof
  dsimp only
  by_cases he : ((f 4 : Nat) : Int) = 0
  · rw [if_pos he, decide_eq_true_iff]
    omega
  · rw [if_neg he, decide_eq_true_iff]
    omega
theorem hof_may_le {f : Nat → Nat} (h : HMay (hof f)) : ∀ i, i < 5 → f i ≤ msP i := by
  obtain ⟨⟨h1, h2, h3⟩, h4, h5⟩ := h
  simp only [hof] at h1 h2 h3 h4 h5
  intro i hi
  match i, hi with
  | 0, _ => exact h1
  | 1, _ => exact h2
  | 2, _ => exact h3
  | 3, _ => show f 3 ≤ 1023; omega
  | 4, _ => show f 4 ≤ 4096; omega
  | n + 5, h => omega
theorem msP_le (i : Nat) : msP i ≤ msD i := by
  unfold msP msD B62
  split
  · omega
  · split <;> omega
/-- What the program's reader tells. -/
theorem prog_good (l : List Nat) : ((okS (hst msP l 5) && hrootB (hof (hnu msP l))) = true ↔ HGood l) ∧ (HGood l → hof (hnu msP l) = hof fun i => (gt (hraw l i)).1) := by
  have key : (∀ i, i < 5 → (gt (hraw l i)).2.2 = 0 ∧ (gt (hraw l i)).1 ≤ msP i) → hof (hnu msP l) = hof fun i => (gt (hraw l i)).1 := fun h => hof_ext fun i hi => hnu_yes msP l 5 h i hi
  have ofGood : HGood l → ∀ i, i < 5 → (gt (hraw l i)).2.2 = 0 ∧ (gt (hraw l i)).1 ≤ msP i := fun hg i hi => ⟨hg.1 i hi, hof_may_le hg.2.2 i hi⟩
  refine ⟨?_, fun hg => key (ofGood hg)⟩
  rw [Bool.and_eq_true, hst_ok]
  constructor
  · rintro ⟨⟨h1, h2⟩, h3⟩
    rw [key h1] at h3
    exact ⟨fun i hi => (h1 i hi).1, h2, (hof_may_root (fun i hi => (h1 i hi).2)).2 h3⟩
  · intro hg
    rw [key (ofGood hg)]
    exact ⟨⟨ofGood hg, hg.2.1⟩, (hof_may_root (fun i hi => (ofGood hg i hi).2)).1 hg.2.2⟩
/-- What the document's reader tells. -/
theorem ref_good (l : List Nat) : ((okS (hst msD l 5) = true ∧ hnu msD l 3 ≤ 1023 ∧ hnu msD l 4 ≤ 4096) ∧ HMay (hof (hnu msD l)) ↔ HGood l) ∧ (HGood l → hof (hnu msD l) = hof fun i => (gt (hraw l i)).1) := by
  have key : (∀ i, i < 5 → (gt (hraw l i)).2.2 = 0 ∧ (gt (hraw l i)).1 ≤ msD i) → hof (hnu msD l) = hof fun i => (gt (hraw l i)).1 := fun h => hof_ext fun i hi => hnu_yes msD l 5 h i hi
  have ofGood : HGood l → ∀ i, i < 5 → (gt (hraw l i)).2.2 = 0 ∧ (gt (hraw l i)).1 ≤ msD i := fun hg i hi => ⟨hg.1 i hi, Nat.le_trans (hof_may_le hg.2.2 i hi) (msP_le i)⟩
  refine ⟨?_, fun hg => key (ofGood hg)⟩
  rw [hst_ok]
  constructor
  · rintro ⟨⟨⟨h1, h2⟩, _, _⟩, h3⟩
    rw [key h1] at h3
    exact ⟨fun i hi => (h1 i hi).1, h2, h3⟩
  · intro hg
    have h5 := hof_may_le hg.2.2
    rw [key (ofGood hg), hnu_yes msD l 5 (ofGood hg) 3 (by omega), hnu_yes msD l 5 (ofGood hg) 4 (by omega)]
    exact ⟨⟨⟨ofGood hg, hg.2.1⟩, h5 3 (by omega), h5 4 (by omega)⟩, hg.2.2⟩
theorem hraw_next (l : List Nat) (k v : Nat) (r : List Nat) (h : hraw l k = vb v ++ r) (hv : v < 18446744073709551616) : hraw l (k + 1) = r ∧ gt (hraw l k) = (v, vs v, 0) := by
  have e := gt_vb v r hv
  rw [← h] at e
  refine ⟨?_, e⟩
  rw [show hraw l (k + 1) = (hraw l k).drop (gt (hraw l k)).2.1 from rfl, e, h]
  exact List.drop_left
theorem hraw_five (a b c d e : Nat) (ha : a < 18446744073709551616) (hb : b < 18446744073709551616) (hc : c < 18446744073709551616) (hd : d < 18446744073709551616) (he : e < 18446744073709551616) (l : List Nat) (hl : l = vb a ++ (vb b ++ (vb c ++ (vb d ++ (vb e ++ []))))) :
    (gt (hraw l 0) = (a, vs a, 0) ∧ gt (hraw l 1) = (b, vs b, 0) ∧ gt (hraw l 2) = (c, vs c, 0) ∧ gt (hraw l 3) = (d, vs d, 0) ∧ gt (hraw l 4) = (e, vs e, 0)) ∧ hraw l 5 = [] := by
  obtain ⟨r1, g0⟩ := hraw_next l 0 a _ hl ha
  obtain ⟨r2, g1⟩ := hraw_next l 1 b _ r1 hb
  obtain ⟨r3, g2⟩ := hraw_next l 2 c _ r2 hc
  obtain ⟨r4, g3⟩ := hraw_next l 3 d _ r3 hd
  obtain ⟨r5, g4⟩ := hraw_next l 4 e _ r4 he
  exact ⟨⟨g0, g1, g2, g3, g4⟩, r5⟩
/-- A head's load is that head's. -/
theorem hload_raw {h : Hd} (m : HMay h) : HGood (hload h) ∧ (hof fun i => (gt (hraw (hload h) i)).1) = h := by
  have f := m.fit
  have hr0 := m.root0
  have he0 : 0 ≤ h.e := m.2.1.1
  obtain ⟨⟨g0, g1, g2, g3, g4⟩, r5⟩ := hraw_five h.s h.t h.g h.r.toNat h.e.toNat f.s f.t f.g (by have := f.r1; omega) (by have := f.e1; omega) (hload h) (hload_right h)
  generalize hload h = l at *
  have hh : (hof fun i => (gt (hraw l i)).1) = h := by
    show Hd.mk (gt (hraw l 0)).1 (gt (hraw l 1)).1 (gt (hraw l 2)).1 ((gt (hraw l 3)).1 : Nat) ((gt (hraw l 4)).1 : Nat) = h
    rw [g0, g1, g2, g3, g4]
    cases h with
    | mk s t g r e =>
      dsimp only at hr0 he0 ⊢
      rw [Int.toNat_of_nonneg hr0, Int.toNat_of_nonneg he0]
  refine ⟨⟨?_, r5, by rw [hh]; exact m⟩, hh⟩
  intro i hi
  match i, hi with
  | 0, _ => rw [g0]
  | 1, _ => rw [g1]
  | 2, _ => rw [g2]
  | 3, _ => rw [g3]
  | 4, _ => rw [g4]
  | n + 5, h => omega

open Classical in
/-- What a page tells: a head, or an error's number. -/
noncomputable def hdec (b : List Nat) : Hd × Nat :=
  if (opS b).2.2 = 0 then (if (opS b).1 = 4 ∧ HGood (opS b).2.1 then (hof fun i => (gt (hraw (opS b).2.1 i)).1, 0) else (hd0, 3)) else (hd0, (opS b).2.2)
theorem hdec_err {b : List Nat} (h : (opS b).2.2 ≠ 0) : hdec b = (hd0, (opS b).2.2) := by unfold hdec; rw [if_neg h]
theorem hdec_form {b : List Nat} (h : (opS b).2.2 = 0) (h2 : ¬ ((opS b).1 = 4 ∧ HGood (opS b).2.1)) : hdec b = (hd0, 3) := by unfold hdec; rw [if_pos h, if_neg h2]
theorem hdec_good {b : List Nat} (h : (opS b).2.2 = 0) (h2 : (opS b).1 = 4 ∧ HGood (opS b).2.1) : hdec b = (hof fun i => (gt (hraw (opS b).2.1 i)).1, 0) := by unfold hdec; rw [if_pos h, if_pos h2]
/-- A head's page. -/
def hpage (h : Hd) : List Nat := pageL 4 (hload h)
theorem hpage_len {h : Hd} (m : HMay h) : (hpage h).length = 512 := pageL_length (by have := hload_len m; omega)
theorem hpage_b8 {h : Hd} (m : HMay h) : B8 (hpage h) := pageL_b8 (by omega) (by have := hload_len m; omega) (hload_b8 h)
theorem hdec_page {h : Hd} (m : HMay h) : hdec (hpage h) = (h, 0) := by
  have ho : opS (hpage h) = (4, hload h, 0) := opS_page (by omega) (by omega) (by have := hload_len m; omega)
  obtain ⟨h1, h2⟩ := hload_raw m
  rw [hdec_good (by rw [ho]) (by rw [ho]; exact ⟨rfl, h1⟩), ho]
  exact congrArg (·, 0) h2
theorem hdec_turned {h : Hd} (m : HMay h) (i y : Nat) (hi : i < 512) (hy : y < 256) (hne : y ≠ (hpage h).getD i 0) : hdec ((hpage h).set i y) = (hd0, 4) := by
  have ho := opS_turned (k := 4) (l := hload h) (by omega) (by have := hload_len m; omega) (hload_b8 h) i y hi hy hne
  have ho' : opS ((hpage h).set i y) = (0, [], 4) := ho
  rw [hdec_err (by rw [ho']; decide), ho']
theorem hdec_may {b : List Nat} (h : (hdec b).2 = 0) : HMay (hdec b).1 := by
  by_cases he : (opS b).2.2 = 0
  · by_cases hg : (opS b).1 = 4 ∧ HGood (opS b).2.1
    · rw [hdec_good he hg]; exact hg.2.2.2
    · rw [hdec_form he hg] at h; cases h
  · rw [hdec_err he] at h; exact absurd h he
theorem hdec_fit (b : List Nat) : (hdec b).1.Fit := by
  by_cases h : (hdec b).2 = 0
  · exact (hdec_may h).fit
  · have : (hdec b).1 = hd0 := by
      by_cases he : (opS b).2.2 = 0
      · by_cases hg : (opS b).1 = 4 ∧ HGood (opS b).2.1
        · rw [hdec_good he hg] at h; exact absurd rfl h
        · rw [hdec_form he hg]
      · rw [hdec_err he]
    rw [this]; exact hd0_may.fit
theorem hdec_no {b : List Nat} (h : (hdec b).2 ≠ 0) : (hdec b).1 = hd0 := by
  by_cases he : (opS b).2.2 = 0
  · by_cases hg : (opS b).1 = 4 ∧ HGood (opS b).2.1
    · rw [hdec_good he hg] at h; exact absurd rfl h
    · rw [hdec_form he hg]
  · rw [hdec_err he]
/-- Is there a head of that page, which belongs there? -/
def hat (x : Hd × Nat) (k : Nat) : Bool := x.2 == 0 && x.1.s % 2 == k
/-- The newest head of both pages. -/
noncomputable def hpick (a b : List Nat) : Hd × Nat :=
  if hat (hdec a) 0 then (if hat (hdec b) 1 then (if (hdec b).1.s < (hdec a).1.s then (hdec a).1 else (hdec b).1, 0) else ((hdec a).1, 0))
  else if hat (hdec b) 1 then ((hdec b).1, 0) else (hd0, 16)
end Go.Proofs.YtofbomcimicccaaDoor
