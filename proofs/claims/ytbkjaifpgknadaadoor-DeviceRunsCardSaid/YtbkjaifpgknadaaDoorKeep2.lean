/-
  What is read behind a crash.
-/
import Derived.Test.YtbkjaifpgknadaaDoorLawDev
namespace Go.Proofs.YtbkjaifpgknadaaDoor
open Go Go.RowKit Go.Maps

theorem thin_getD (l : List Nat) : (thin l).getD zeros = l := by
  unfold thin
  by_cases h : l = zeros
  · rw [if_pos h, h]; rfl
  · rw [if_neg h]; rfl
theorem wl_lt {S : DS} {i j : Nat} (hij : i < j) (hj : j < (wl S).length) : (wl S).getD i 0 < (wl S).getD j 0 := by
  have h := List.pairwise_iff_getElem.1 (wl_inc S) i j (by omega) hj hij
  rw [List.getD_eq_getElem?_getD, List.getD_eq_getElem?_getD, List.getElem?_eq_getElem (by omega), List.getElem?_eq_getElem hj]
  exact h
theorem wl_ne {S : DS} {i j : Nat} (hij : i ≠ j) (hi : i < (wl S).length) (hj : j < (wl S).length) : (wl S).getD i 0 ≠ (wl S).getD j 0 := by
  rcases Nat.lt_or_gt_of_ne hij with h | h
  · have := wl_lt (S := S) h hj; omega
  · have := wl_lt (S := S) h hi; omega
theorem wl_iff (S : DS) (n : Nat) : (∃ i, i < (wl S).length ∧ (wl S).getD i 0 = n) ↔ n < 8 * S.pages ∧ (S.waits n).isSome = true := by
  have hm : n ∈ wl S ↔ n < 8 * S.pages ∧ (S.waits n).isSome = true := by rw [wl, List.mem_filter, List.mem_range]
  rw [← hm]
  constructor
  · rintro ⟨i, hi, rfl⟩
    rw [List.getD_eq_getElem?_getD, List.getElem?_eq_getElem hi]
    exact List.getElem_mem hi
  · intro h
    obtain ⟨i, hi, e⟩ := List.getElem_of_mem h
    exact ⟨i, hi, by rw [List.getD_eq_getElem?_getD, List.getElem?_eq_getElem hi]; exact e⟩
theorem crF_out (S : DS) (k : List Bool) (n : Nat) (h : ∀ i, i < (wl S).length → (wl S).getD i 0 ≠ n) : ∀ m, m ≤ (wl S).length → crF S k m n = S.safe n
  | 0, _ => rfl
  | m + 1, hm => by
    rw [crF]
    split
    · unfold upd
      rw [if_neg (fun e => h m (by omega) e.symm)]
      exact crF_out S k n h m (by omega)
    · exact crF_out S k n h m (by omega)
theorem crF_at (S : DS) (k : List Bool) (i : Nat) (hi : i < (wl S).length) : ∀ m, m ≤ (wl S).length → crF S k m ((wl S).getD i 0) = if i < m ∧ kp k i = true then thin ((S.waits ((wl S).getD i 0)).getD zeros) else S.safe ((wl S).getD i 0)
  | 0, _ => by rw [if_neg (by omega)]; rfl
  | m + 1, hm => by
    have ih := crF_at S k i hi m (by omega)
    rw [crF]
    by_cases e : m = i
    · subst e
      by_cases hk : kp k m = true
      · rw [if_pos hk, if_pos ⟨by omega, hk⟩]; unfold upd; rw [if_pos rfl]
      · rw [if_neg hk, if_neg (fun h => hk h.2), ih, if_neg (by omega)]
    · have hne := wl_ne (S := S) (fun h => e h.symm) hi (show m < (wl S).length by omega)
      have hiff : (i < m + 1 ∧ kp k i = true) ↔ (i < m ∧ kp k i = true) := by
        constructor
        · rintro ⟨h1, h2⟩; exact ⟨by omega, h2⟩
        · rintro ⟨h1, h2⟩; exact ⟨by omega, h2⟩
      simp only [hiff]
      split
      · unfold upd; rw [if_neg hne]; exact ih
      · exact ih
theorem rd_crash_at (S : DS) (k : List Bool) (i : Nat) (hi : i < (wl S).length) : rd (crS S k) ((wl S).getD i 0) = if kp k i = true then (S.waits ((wl S).getD i 0)).getD zeros else (S.safe ((wl S).getD i 0)).getD zeros := by
  have h1 : rd (crS S k) ((wl S).getD i 0) = (crF S k (wl S).length ((wl S).getD i 0)).getD zeros := rfl
  rw [h1, crF_at S k i hi _ (Nat.le_refl _)]
  by_cases hk : kp k i = true
  · rw [if_pos ⟨hi, hk⟩, if_pos hk, thin_getD]
  · rw [if_neg (fun h => hk h.2), if_neg hk]
theorem rd_crash_out (S : DS) (k : List Bool) (n : Nat) (h : ∀ i, i < (wl S).length → (wl S).getD i 0 ≠ n) : rd (crS S k) n = (S.safe n).getD zeros := by
  have h1 : rd (crS S k) n = (crF S k (wl S).length n).getD zeros := rfl
  rw [h1, crF_out S k n h _ (Nat.le_refl _)]
theorem BSrc.below {w w' : World} {a : Option Addr} {k : List Bool} (h : BSrc w a k) (hb : Below w.heap.size w w') : BSrc w' a k := fun h0 => by
  obtain ⟨b, o, rfl, hc⟩ := h h0
  exact ⟨b, o, rfl, fun i hi => by rw [hb.cell (p := ⟨b, o + i, none⟩) (block_lt_of_cell (hc i hi))]; exact hc i hi⟩
theorem ISrc.turn {F : Nat → Prop} {w w' : World} {a : Option Addr} {l : List Nat} (h : ISrc w a l) (t : Turn F w w') (hF : ∀ p, a = some p → ¬ F p.block) : ISrc w' a l := fun h0 => by
  obtain ⟨b, o, rfl, hc⟩ := h h0
  exact ⟨b, o, rfl, fun i hi => by rw [t.cell (p := ⟨b, o + i, none⟩) (block_lt_of_cell (hc i hi)) (show ¬ F b from hF ⟨b, o, none⟩ rfl)]; exact hc i hi⟩
/-- Of what waits the first 'at' ones are below n. -/
def AtN (S : DS) (at' n : Nat) : Prop := at' ≤ (wl S).length ∧ ∀ i, i < (wl S).length → (i < at' ↔ (wl S).getD i 0 < n)
theorem atN_start (S : DS) : AtN S 0 0 := ⟨Nat.zero_le _, fun i _ => by omega⟩
theorem atN_hit {S : DS} {a n : Nat} (h : AtN S a n) (ha : a < (wl S).length) (hn : (wl S).getD a 0 = n) : AtN S (a + 1) (n + 1) := by
  refine ⟨ha, fun i hi => ?_⟩
  have h1 := h.2 i hi
  constructor
  · intro h2
    by_cases e : i = a
    · subst e; omega
    · have := h1.1 (by omega); omega
  · intro h2
    by_cases e : (wl S).getD i 0 = n
    · by_cases e2 : i = a
      · omega
      · exact absurd (e.trans hn.symm) (wl_ne e2 hi ha)
    · have := h1.2 (by omega); omega
theorem atN_miss {S : DS} {a n : Nat} (h : AtN S a n) (hn : ¬ (a < (wl S).length ∧ (wl S).getD a 0 = n)) : AtN S a (n + 1) ∧ ∀ i, i < (wl S).length → (wl S).getD i 0 ≠ n := by
  have hne : ∀ i, i < (wl S).length → (wl S).getD i 0 ≠ n := by
    intro i hi e
    have h1 := h.2 i hi
    by_cases e2 : i = a
    · subst e2; exact hn ⟨hi, e⟩
    · have h3 : a < i := by
        rcases Nat.lt_or_ge i a with h4 | h4
        · have := h1.1 h4; omega
        · omega
      have h5 := wl_lt (S := S) h3 hi
      have h6 := (h.2 a (by omega)).2 (by omega)
      omega
  refine ⟨⟨h.1, fun i hi => ?_⟩, hne⟩
  have h1 := h.2 i hi
  have h2 := hne i hi
  constructor
  · intro h3; have := h1.1 h3; omega
  · intro h3; exact h1.2 (by omega)
theorem atN_end {S : DS} {a n : Nat} (h : AtN S a n) (hp : 8 * S.pages ≤ n) : a = (wl S).length := by
  have h1 := h.1
  rcases Nat.lt_or_ge a (wl S).length with h2 | h2
  · have h3 := (h.2 a h2)
    have h4 := ((wl_iff S ((wl S).getD a 0)).1 ⟨a, h2, rfl⟩).1
    have := h3.2 (by omega)
    omega
  · omega
theorem sy_free (S : DS) (ha : S.armed = false) (hd : S.down = false) : syS S = (0, flat S) := by
  have h2 : stepS S = (0, S) := by unfold stepS; rw [if_pos ha]
  unfold syS
  rw [if_neg (by rw [hd]; simp), h2, if_pos rfl]
theorem wl_flat (S : DS) : wl (flat S) = [] := by
  unfold wl flat
  rw [List.filter_eq_nil_iff]
  intro a _; simp
/-- A device of four pages: so much was written and synced, so much since. -/
def kD (l m : List (Nat × Nat)) : DS := { flat { new0 4 with waits := wsF (fun _ => none) l } with waits := wsF (fun _ => none) m }
theorem kD_safe (l m : List (Nat × Nat)) (L : List Nat) (h : Rl (wsF (fun _ => none) l) L) (n : Nat) (hn : n < 32) : ((kD l m).safe n).getD zeros = secOf (L.getD n 0) := by
  rw [← h n hn]
  show (laidF { new0 4 with waits := wsF (fun _ => none) l } (fun _ => false) n).getD zeros = _
  unfold laidF
  simp only
  cases hw : wsF (fun _ => none) l n with
  | none => rfl
  | some x => simp only [Bool.false_eq_true, if_false]; rw [thin_getD]; rfl
theorem kD_waits (l m : List (Nat × Nat)) (L : List Nat) (h : Rw (wsF (fun _ => none) m) L) (i : Nat) (hi : i < (wl (kD l m)).length) : ((kD l m).waits ((wl (kD l m)).getD i 0)).getD zeros = secOf (L.getD ((wl (kD l m)).getD i 0) 0) := by
  obtain ⟨_, hs⟩ := (wl_iff (kD l m) _).1 ⟨i, hi, rfl⟩
  obtain ⟨x, hx⟩ := Option.isSome_iff_exists.1 hs
  rw [hx]
  exact (h _ _ hx).2
end Go.Proofs.YtbkjaifpgknadaaDoor
