/-
  Scrub: what is dirty, what is clean, how much stands behind loads. No program.
-/
import Derived.Test.YtfjjfickbhkpaaaDoorSheetMathZ
import Derived.Test.YtfjjfickbhkpaaaDoorBit1Z
import Derived.Test.YtfjjfickbhkpaaaDoorPagesZ
namespace Go.Proofs.YtfjjfickbhkpaaaDoor
open Go Go.RowKit

/-- Page k. -/
def pgK (P : List (List Nat)) (k : Nat) : List Nat := P.getD k []
def dirB (f : Nat → Bool) (P : List (List Nat)) (k : Nat) : Bool := decide (2 ≤ k) && (!inB f (k : Nat) && !allZero (pgK P k))
/-- The dirty pages of the first k. -/
def dirL (f : Nat → Bool) (P : List (List Nat)) : Nat → List Int
  | 0 => []
  | k + 1 => if dirB f P k then dirL f P k ++ [(k : Int)] else dirL f P k
theorem dirL_le (f : Nat → Bool) (P : List (List Nat)) : ∀ k, (dirL f P k).length ≤ k
  | 0 => Nat.le_refl _
  | k + 1 => by
    have := dirL_le f P k
    rw [dirL]
    split
    · rw [List.length_append]; simp; omega
    · omega
theorem dirL_yes {f : Nat → Bool} {P : List (List Nat)} {k : Nat} (h : dirB f P k = true) : dirL f P (k + 1) = dirL f P k ++ [(k : Int)] := by rw [dirL, if_pos h]
theorem dirL_no {f : Nat → Bool} {P : List (List Nat)} {k : Nat} (h : dirB f P k = false) : dirL f P (k + 1) = dirL f P k := by rw [dirL, if_neg (by rw [h]; decide)]
theorem dirL_two (f : Nat → Bool) (P : List (List Nat)) : dirL f P 0 = [] ∧ dirL f P 1 = [] ∧ dirL f P 2 = [] := ⟨rfl, rfl, rfl⟩
/-- From page 2 on. -/
theorem dirL_start (f : Nat → Bool) (P : List (List Nat)) (n k : Nat) (h : ¬ k < n) (hk : k ≤ n ∨ k = 2) (h2 : 2 ≤ k) : dirL f P k = dirL f P n := by
  rcases Nat.lt_or_ge n k with h3 | h3
  · obtain rfl : k = 2 := by omega
    obtain ⟨a0, a1, a2⟩ := dirL_two f P
    match n, h3 with
    | 0, _ => rw [a2, a0]
    | 1, _ => rw [a2, a1]
  · rw [show k = n by omega]
/-- Is this a page. -/
def isPg (l : List Nat) : Bool := (opS l).2.2 == 0
def clnB (f : Nat → Bool) (P : List (List Nat)) (k : Nat) : Bool := !(decide (2 ≤ k) && (inB f (k : Nat) && !isPg (pgK P k)))
/-- Are the used ones of the first k pages. -/
def clnL (f : Nat → Bool) (P : List (List Nat)) : Nat → Bool
  | 0 => true
  | k + 1 => clnL f P k && clnB f P k
theorem clnL_yes {f : Nat → Bool} {P : List (List Nat)} {k : Nat} (h1 : clnL f P k = true) (h : clnB f P k = true) : clnL f P (k + 1) = true := by rw [clnL, h1, h]; rfl
theorem clnL_no {f : Nat → Bool} {P : List (List Nat)} {k : Nat} (h : clnB f P k = false) : ∀ m, k < m → clnL f P m = false
  | 0, h0 => by omega
  | m + 1, h0 => by
    rw [clnL]
    by_cases e : m = k
    · subst e; rw [h, Bool.and_false]
    · rw [clnL_no h m (by omega), Bool.false_and]
theorem clnL_start (f : Nat → Bool) (P : List (List Nat)) (n k : Nat) (h : ¬ k < n) (hk : k ≤ n ∨ k = 2) (h2 : 2 ≤ k) : clnL f P k = clnL f P n := by
  rcases Nat.lt_or_ge n k with h3 | h3
  · obtain rfl : k = 2 := by omega
    match n, h3 with
    | 0, _ => rfl
    | 1, _ => rfl
  · rw [show k = n by omega]
/-- Clean. -/
def clnS (f : Nat → Bool) (P : List (List Nat)) (k : Nat) : Bool := clnL f P k && (dirL f P k).length == 0
/-- The load's length that a page tells of. -/
def ldN (l : List Nat) : Nat := l.getD 2 0 * 256 + l.getD 3 0
/-- What stands behind the load. -/
def behL (l : List Nat) : List Nat := (l.take 508).drop (4 + min (ldN l) 504)
theorem behL_len {l : List Nat} (h : l.length = 512) : (behL l).length = 504 - min (ldN l) 504 := by
  unfold behL; rw [List.length_drop, List.length_take]; omega
/-- How many of the first k are not 0. -/
def nzK (l : List Nat) : Nat → Nat
  | 0 => 0
  | k + 1 => nzK l k + if l.getD k 0 = 0 then 0 else 1
theorem nzK_le (l : List Nat) : ∀ k, nzK l k ≤ k
  | 0 => Nat.le_refl _
  | k + 1 => by
    have := nzK_le l k
    rw [nzK]; split <;> omega
theorem nzK_yes {l : List Nat} {k : Nat} (h : l.getD k 0 = 0) : nzK l (k + 1) = nzK l k := by rw [nzK, if_pos h]; rfl
theorem nzK_no {l : List Nat} {k : Nat} (h : ¬ l.getD k 0 = 0) : nzK l (k + 1) = nzK l k + 1 := by rw [nzK, if_neg h]
def slB (f : Nat → Bool) (P : List (List Nat)) (k : Nat) : Bool := decide (2 ≤ k) && (inB f (k : Nat) && decide ((pgK P k).length = 512))
/-- How much stands behind the loads of the first k. -/
def slA (f : Nat → Bool) (P : List (List Nat)) : Nat → Nat
  | 0 => 0
  | k + 1 => slA f P k + if slB f P k then (behL (pgK P k)).length else 0
/-- How much of that is not 0. -/
def slW (f : Nat → Bool) (P : List (List Nat)) : Nat → Nat
  | 0 => 0
  | k + 1 => slW f P k + if slB f P k then nzK (behL (pgK P k)) (behL (pgK P k)).length else 0
theorem sl_no {f : Nat → Bool} {P : List (List Nat)} {k : Nat} (h : slB f P k = false) : slA f P (k + 1) = slA f P k ∧ slW f P (k + 1) = slW f P k := by
  rw [slA, slW, h]; exact ⟨rfl, rfl⟩
theorem sl_yes {f : Nat → Bool} {P : List (List Nat)} {k : Nat} (h : slB f P k = true) : slA f P (k + 1) = slA f P k + (behL (pgK P k)).length ∧ slW f P (k + 1) = slW f P k + nzK (behL (pgK P k)) (behL (pgK P k)).length := by
  rw [slA, slW, h]; exact ⟨rfl, rfl⟩
theorem behL_le (l : List Nat) : (behL l).length ≤ 504 := by
  unfold behL; rw [List.length_drop, List.length_take]; omega
theorem sl_le (f : Nat → Bool) (P : List (List Nat)) : ∀ k, slA f P k ≤ 504 * k ∧ slW f P k ≤ 504 * k
  | 0 => ⟨Nat.le_refl _, Nat.le_refl _⟩
  | k + 1 => by
    have h := sl_le f P k
    have h1 := behL_le (pgK P k)
    have h2 := nzK_le (behL (pgK P k)) (behL (pgK P k)).length
    cases hb : slB f P k
    · rw [(sl_no hb).1, (sl_no hb).2]; omega
    · rw [(sl_yes hb).1, (sl_yes hb).2]; omega
theorem sl_two (f : Nat → Bool) (P : List (List Nat)) : slA f P 2 = 0 ∧ slW f P 2 = 0 := by
  have h0 : slB f P 0 = false := by unfold slB; exact Bool.false_and _
  have h1 : slB f P 1 = false := by unfold slB; exact Bool.false_and _
  obtain ⟨a1, b1⟩ := sl_no h1
  obtain ⟨a0, b0⟩ := sl_no h0
  exact ⟨a1.trans a0, b1.trans b0⟩
theorem sl_start (f : Nat → Bool) (P : List (List Nat)) (n k : Nat) (h : ¬ k < n) (hk : k ≤ n ∨ k = 2) (h2 : 2 ≤ k) : slA f P k = slA f P n ∧ slW f P k = slW f P n := by
  rcases Nat.lt_or_ge n k with h3 | h3
  · obtain rfl : k = 2 := by omega
    have h0 : slB f P 0 = false := by unfold slB; exact Bool.false_and _
    have h1 : slB f P 1 = false := by unfold slB; exact Bool.false_and _
    obtain ⟨a1, b1⟩ := sl_no h1
    obtain ⟨a0, b0⟩ := sl_no h0
    match n, h3 with
    | 0, _ => exact ⟨a1.trans a0, b1.trans b0⟩
    | 1, _ => exact ⟨a1, b1⟩
  · rw [show k = n by omega]; exact ⟨rfl, rfl⟩
/-- The document's way: byte by byte, from the fifth on. -/
def rfA (n : Nat) : Nat → Nat
  | 0 => 0
  | k + 1 => rfA n k + if n ≤ k then 1 else 0
def rfW (l : List Nat) (n : Nat) : Nat → Nat
  | 0 => 0
  | k + 1 => rfW l n k + if n ≤ k ∧ ¬ l.getD (4 + k) 0 = 0 then 1 else 0
theorem rfA_eq (n : Nat) : ∀ k, rfA n k = k - min n k
  | 0 => by simp [rfA]
  | k + 1 => by
    rw [rfA, rfA_eq n k]
    split <;> omega
theorem rfW_eq {l : List Nat} (h : l.length = 512) : ∀ k, k ≤ 504 → rfW l (ldN l) k = nzK (behL l) (k - min (ldN l) k)
  | 0, _ => by simp [rfW, nzK]
  | k + 1, hk => by
    rw [rfW, rfW_eq h k (by omega)]
    by_cases hn : ldN l ≤ k
    · have e1 : k + 1 - min (ldN l) (k + 1) = (k - min (ldN l) k) + 1 := by omega
      have e2 : (behL l).getD (k - min (ldN l) k) 0 = l.getD (4 + k) 0 := by
        unfold behL
        simp only [List.getD_eq_getElem?_getD, List.getElem?_drop]
        rw [List.getElem?_take_of_lt (by omega)]
        congr 2; omega
      rw [e1, nzK, e2]
      by_cases h0 : l.getD (4 + k) 0 = 0
      · rw [if_neg (fun h => h.2 h0), if_pos h0]
      · rw [if_pos ⟨hn, h0⟩, if_neg h0]
    · have e1 : k + 1 - min (ldN l) (k + 1) = k - min (ldN l) k := by omega
      rw [e1, if_neg (fun h => hn h.1), Nat.add_zero]
theorem rf_end {l : List Nat} (h : l.length = 512) : rfA (ldN l) 504 = (behL l).length ∧ rfW l (ldN l) 504 = nzK (behL l) (behL l).length := by
  rw [rfA_eq, rfW_eq h 504 (Nat.le_refl _), behL_len h]
  exact ⟨rfl, rfl⟩
end Go.Proofs.YtfjjfickbhkpaaaDoor
