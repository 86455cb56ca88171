/-
  How things are parted: sums of the first k, the greater part, the best place; what both sides answer. No program.
-/
import Derived.Test.YtbgkjniagedcnaaGreatDoorTextsZ
namespace Go.Proofs.YtbgkjniagedcnaaGreatDoor
open Go Go.RowKit

/-- The first k together. -/
def pf (l : List Int) (k : Nat) : Int := (l.take k).sum
theorem pf_zero (l : List Int) : pf l 0 = 0 := by simp [pf]
theorem pf_succ (l : List Int) (k : Nat) : pf l (k + 1) = pf l k + ia l k := by
  unfold pf
  rcases Nat.lt_or_ge k l.length with h | h
  · rw [ia_take l k h, List.sum_append]; simp
  · rw [List.take_of_length_le (by omega), List.take_of_length_le h]
    have : ia l k = 0 := by unfold ia; simp [List.getD, h]
    omega
theorem pf_app (l : List Int) (y : Int) : pf (l ++ [y]) (l.length + 1) = pf l l.length + y := by
  unfold pf
  rw [List.take_of_length_le (by simp), List.take_of_length_le (Nat.le_refl _), List.sum_append]; simp
/-- May a thing have so many bytes? -/
def okI (x : Int) : Bool := decide (0 ≤ x) && decide (x ≤ 1024)
theorem okI_iff (x : Int) : okI x = true ↔ 0 ≤ x ∧ x ≤ 1024 := by unfold okI; simp
def okTo (l : List Int) (k : Nat) : Prop := ∀ i, i < k → okI (ia l i) = true
theorem okTo_succ {l : List Int} {k : Nat} (h : okTo l k) (h1 : okI (ia l k) = true) : okTo l (k + 1) := fun i hi => by
  rcases Nat.lt_or_ge i k with h3 | h3
  · exact h i h3
  · obtain rfl : i = k := by omega
    exact h1
theorem okTo_less {l : List Int} {k n : Nat} (h : okTo l n) (hk : k ≤ n) : okTo l k := fun i hi => h i (by omega)
theorem pf_range {l : List Int} : ∀ {k : Nat}, okTo l k → 0 ≤ pf l k ∧ pf l k ≤ 1024 * k
  | 0, _ => by rw [pf_zero]; omega
  | k + 1, h => by
    have h1 := pf_range (okTo_less h (Nat.le_succ k))
    have h2 := (okI_iff _).1 (h k (by omega))
    rw [pf_succ]; omega
theorem pf_mono {l : List Int} {i : Nat} : ∀ {k : Nat}, okTo l k → i ≤ k → pf l i ≤ pf l k
  | 0, _, hi => by obtain rfl : i = 0 := by omega
                   exact Int.le_refl _
  | k + 1, h, hi => by
    rcases Nat.lt_or_ge i (k + 1) with h3 | h3
    · have h1 := pf_mono (i := i) (okTo_less h (Nat.le_succ k)) (by omega)
      have h2 := (okI_iff _).1 (h k (by omega))
      rw [pf_succ]; omega
    · obtain rfl : i = k + 1 := by omega
      exact Int.le_refl _
/-- The greater part, by a place. -/
def gr (l : List Int) (a : Nat) : Int := max (pf l a) (pf l l.length - pf l a)
/-- The first best place of 1 to k + 1. -/
def bst (l : List Int) : Nat → Nat
  | 0 => 1
  | k + 1 => if gr l (k + 2) < gr l (bst l k) then k + 2 else bst l k
theorem bst_range (l : List Int) : ∀ k, 1 ≤ bst l k ∧ bst l k ≤ k + 1
  | 0 => by simp [bst]
  | k + 1 => by
    have := bst_range l k
    unfold bst; split <;> omega
theorem bst_least (l : List Int) : ∀ k a, 1 ≤ a → a ≤ k + 1 → gr l (bst l k) ≤ gr l a
  | 0, a, h1, h2 => by
    obtain rfl : a = 1 := by omega
    exact Int.le_refl _
  | k + 1, a, h1, h2 => by
    unfold bst
    rcases Nat.lt_or_ge a (k + 2) with h3 | h3
    · have := bst_least l k a h1 (by omega)
      split <;> omega
    · obtain rfl : a = k + 2 := by omega
      split <;> omega
/-- May they be parted? -/
def canB (l : List Int) (b : Int) : Bool := decide (2 ≤ l.length) && decide (l.length ≤ 1024) && okI b && l.all okI
theorem all_iff (l : List Int) : l.all okI = true ↔ okTo l l.length := by
  rw [List.all_eq_true]
  constructor
  · intro h i hi
    have e : ia l i = l[i] := by unfold ia; simp [List.getD, hi]
    rw [e]; exact h _ (List.getElem_mem hi)
  · intro h x hx
    obtain ⟨i, hi, rfl⟩ := List.mem_iff_getElem.1 hx
    have e : ia l i = l[i] := by unfold ia; simp [List.getD, hi]
    rw [← e]; exact h i hi
theorem canB_iff (l : List Int) (b : Int) : canB l b = true ↔ 2 ≤ l.length ∧ l.length ≤ 1024 ∧ okI b = true ∧ okTo l l.length := by
  unfold canB; rw [Bool.and_eq_true, Bool.and_eq_true, Bool.and_eq_true, all_iff, decide_eq_true_iff, decide_eq_true_iff]
  constructor
  · rintro ⟨⟨⟨h1, h2⟩, h3⟩, h4⟩; exact ⟨h1, h2, h3, h4⟩
  · rintro ⟨h1, h2, h3, h4⟩; exact ⟨⟨⟨h1, h2⟩, h3⟩, h4⟩
theorem canB_no {l : List Int} {b : Int} (h : ¬ (2 ≤ l.length ∧ l.length ≤ 1024 ∧ okI b = true ∧ okTo l l.length)) : canB l b = false := by
  rw [← Bool.not_eq_true, canB_iff]; exact h
/-- The place, the error. -/
def spN (l : List Int) (b : Int) : Int := if canB l b = true then (if 504 < gr l (bst l (l.length - 2)) + b then 0 else (bst l (l.length - 2) : Nat)) else 0
def spE (l : List Int) (b : Int) : Int := if canB l b = true then (if 504 < gr l (bst l (l.length - 2)) + b then 5 else 0) else 1
theorem sp_no {l : List Int} {b : Int} (h : canB l b = false) : spN l b = 0 ∧ spE l b = 1 := by unfold spN spE; rw [h]; exact ⟨rfl, rfl⟩
theorem sp_long {l : List Int} {b : Int} (h : canB l b = true) (h2 : 504 < gr l (bst l (l.length - 2)) + b) : spN l b = 0 ∧ spE l b = 5 := by
  unfold spN spE; rw [if_pos h, if_pos h, if_pos h2, if_pos h2]; exact ⟨rfl, rfl⟩
theorem sp_yes {l : List Int} {b : Int} (h : canB l b = true) (h2 : ¬ 504 < gr l (bst l (l.length - 2)) + b) : spN l b = (bst l (l.length - 2) : Nat) ∧ spE l b = 0 := by
  unfold spN spE; rw [if_pos h, if_pos h, if_neg h2, if_neg h2]; exact ⟨rfl, rfl⟩
theorem gr_range {l : List Int} (h : okTo l l.length) (hn : l.length ≤ 1024) (a : Nat) (ha : a ≤ l.length) : 0 ≤ gr l a ∧ gr l a ≤ 1048576 := by
  have h1 := pf_range (okTo_less h ha)
  have h2 := pf_range h
  have h3 := pf_mono h ha
  unfold gr; omega
/-- Things of 1 to 112 bytes, more than 504 and at most 700 together: some place is in the middle. -/
theorem mid_place {l : List Int} (hs : ∀ i, i < l.length → 1 ≤ ia l i ∧ ia l i ≤ 112) (t : Int) (ht0 : 0 ≤ t) : ∀ k, k ≤ l.length → t ≤ pf l k → ∃ a, a ≤ k ∧ t ≤ pf l a ∧ pf l a < t + 112 ∧ (a = 0 ∨ pf l (a - 1) < t)
  | 0, _, h => ⟨0, Nat.le_refl _, h, by rw [pf_zero] at h ⊢; omega, .inl rfl⟩
  | k + 1, hk, h => by
    by_cases h1 : t ≤ pf l k
    · obtain ⟨a, h2, h3⟩ := mid_place hs t ht0 k (by omega) h1
      exact ⟨a, by omega, h3⟩
    · have h2 := hs k (by omega)
      have h3 := pf_succ l k
      exact ⟨k + 1, Nat.le_refl _, h, by omega, .inr (by rw [Nat.add_sub_cancel]; omega)⟩
/-- Of things of 1 to 112 bytes, more than 504 and at most 700 together, both parts have enough, and fit. -/
theorem halves {l : List Int} (hs : ∀ i, i < l.length → 1 ≤ ia l i ∧ ia l i ≤ 112) (hn : l.length ≤ 300) (h1 : 504 < pf l l.length) (h2 : pf l l.length ≤ 700) :
    spE l 0 = 0 ∧ ∃ a : Nat, spN l 0 = (a : Int) ∧ 1 ≤ a ∧ a < l.length ∧ 126 ≤ pf l a ∧ pf l a ≤ 504 ∧ 126 ≤ pf l l.length - pf l a ∧ pf l l.length - pf l a ≤ 504 ∧ ∀ k, 1 ≤ k → k < l.length → ¬ max (pf l k) (pf l l.length - pf l k) < max (pf l a) (pf l l.length - pf l a) := by
  have hok : okTo l l.length := fun i hi => (okI_iff _).2 (by have := hs i hi; omega)
  obtain ⟨a, ha1, ha2, ha3, ha4⟩ := mid_place hs ((pf l l.length - 111) / 2) (by omega) l.length (Nat.le_refl _) (by omega)
  have hz := pf_zero l
  have ha0 : 1 ≤ a := by
    rcases Nat.eq_zero_or_pos a with h | h
    · subst h; omega
    · exact h
  have han : a < l.length := by
    rcases Nat.lt_or_ge a l.length with h | h
    · exact h
    · obtain rfl : a = l.length := by omega
      omega
  have hbr := bst_range l (l.length - 2)
  have hbl := bst_least l (l.length - 2) a ha0 (by omega)
  have hbl2 := fun k h1 h2 => bst_least l (l.length - 2) k h1 h2
  have hga : gr l a ≤ 406 ∧ 2 * gr l a ≤ pf l l.length + 113 := by unfold gr; omega
  have hlen2 : 2 ≤ l.length := by omega
  have hc : canB l 0 = true := (canB_iff l 0).2 ⟨hlen2, by omega, by decide, hok⟩
  have hy := sp_yes hc (by omega)
  have hgb : gr l (bst l (l.length - 2)) = max (pf l (bst l (l.length - 2))) (pf l l.length - pf l (bst l (l.length - 2))) := rfl
  refine ⟨hy.2, bst l (l.length - 2), hy.1, hbr.1, by omega, by omega, by omega, by omega, by omega, fun k hk1 hk2 => ?_⟩
  have := hbl2 k hk1 (by omega)
  rw [← hgb]
  have e : gr l k = max (pf l k) (pf l l.length - pf l k) := rfl
  rw [← e]; omega
end Go.Proofs.YtbgkjniagedcnaaGreatDoor
