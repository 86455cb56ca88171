/-
  What a reader of fields answers, as functions on lists of bytes. No program.
-/
import Derived.Test.YthkephndhhhacaaDoorVarMath
namespace Go.Proofs.YthkephndhhhacaaDoor
open Go.RowKit

/-- What a reader holds: what is left, and whether something was wrong. -/
structure RS where
  l : List Nat
  wr : Bool
/-- The next byte, and the reader then. -/
def byteS (S : RS) : Nat × RS := if S.l = [] then (0, ⟨[], true⟩) else (S.l.getD 0 0, ⟨S.l.drop 1, false⟩)
/-- The next number, at most 'most'. -/
def numS (S : RS) (most : Nat) : Nat × RS := if (gt S.l).2.2 = 0 ∧ (gt S.l).1 ≤ most then ((gt S.l).1, ⟨S.l.drop (gt S.l).2.1, false⟩) else (0, ⟨[], true⟩)
/-- The next bytes, at most 'most'. -/
def bytesS (S : RS) (most : Nat) : List Nat × RS :=
  if (numS S most).2.wr = false ∧ (numS S most).1 ≤ (numS S most).2.l.length then ((numS S most).2.l.take (numS S most).1, ⟨(numS S most).2.l.drop (numS S most).1, false⟩) else ([], ⟨[], true⟩)
def okS (S : RS) : Bool := !S.wr && S.l.isEmpty
theorem byteS_nil {S : RS} (h : S.l = []) : byteS S = (0, ⟨[], true⟩) := by unfold byteS; rw [if_pos h]
theorem byteS_cons {S : RS} (h : S.l ≠ []) : byteS S = (S.l.getD 0 0, ⟨S.l.drop 1, false⟩) := by unfold byteS; rw [if_neg h]
theorem numS_hit {S : RS} {most : Nat} (h : (gt S.l).2.2 = 0) (h2 : (gt S.l).1 ≤ most) : numS S most = ((gt S.l).1, ⟨S.l.drop (gt S.l).2.1, false⟩) := by unfold numS; rw [if_pos ⟨h, h2⟩]
theorem numS_miss {S : RS} {most : Nat} (h : ¬ ((gt S.l).2.2 = 0 ∧ (gt S.l).1 ≤ most)) : numS S most = (0, ⟨[], true⟩) := by unfold numS; rw [if_neg h]
theorem bytesS_hit {S : RS} {most : Nat} (h : (numS S most).2.wr = false) (h2 : (numS S most).1 ≤ (numS S most).2.l.length) : bytesS S most = ((numS S most).2.l.take (numS S most).1, ⟨(numS S most).2.l.drop (numS S most).1, false⟩) := by unfold bytesS; rw [if_pos ⟨h, h2⟩]
theorem bytesS_miss {S : RS} {most : Nat} (h : ¬ ((numS S most).2.wr = false ∧ (numS S most).1 ≤ (numS S most).2.l.length)) : bytesS S most = ([], ⟨[], true⟩) := by unfold bytesS; rw [if_neg h]
/-- A number that was found: how many bytes it has. -/
theorem gt_len (l : List Nat) (h : (gt l).2.2 = 0) : 1 ≤ (gt l).2.1 ∧ (gt l).2.1 ≤ l.length ∧ (gt l).2.1 ≤ 10 := by
  unfold gt at h ⊢
  split
  · rename_i h1; rw [if_pos h1] at h; simp at h
  rename_i h1; rw [if_neg h1] at h
  split
  · rename_i h2; rw [if_pos h2] at h; simp at h
  rename_i h2; rw [if_neg h2] at h
  split
  · rename_i h3; rw [if_pos h3] at h; simp at h
  have h9 : lead l ≤ 9 := by
    rcases Nat.lt_or_ge 9 (lead l) with h4 | h4
    · have := lead_ge l 9 h4; omega
    · exact h4
  refine ⟨?_, ?_, ?_⟩
  · show 1 ≤ lead l + 1; omega
  · show lead l + 1 ≤ l.length; omega
  · show lead l + 1 ≤ 10; omega
theorem gt_err_le (l : List Nat) : (gt l).2.2 ≤ 6 := by
  rcases gt_cases l with h | h | h | h <;> rw [h] <;> simp
theorem gt_nil : gt [] = (0, 0, 6) := by decide
theorem numS_nil (most : Nat) {S : RS} (h : S.l = []) : numS S most = (0, ⟨[], true⟩) := numS_miss (by rw [h, gt_nil]; simp)
theorem numS_wr {S : RS} {most : Nat} (h : (numS S most).2.wr = true) : numS S most = (0, ⟨[], true⟩) := by
  by_cases hc : (gt S.l).2.2 = 0 ∧ (gt S.l).1 ≤ most
  · rw [numS_hit hc.1 hc.2] at h; simp at h
  · exact numS_miss hc
theorem numS_ok {S : RS} {most : Nat} (h : (numS S most).2.wr = false) : numS S most = ((gt S.l).1, ⟨S.l.drop (gt S.l).2.1, false⟩) ∧ (gt S.l).2.2 = 0 ∧ (gt S.l).1 ≤ most := by
  by_cases hc : (gt S.l).2.2 = 0 ∧ (gt S.l).1 ≤ most
  · exact ⟨numS_hit hc.1 hc.2, hc⟩
  · rw [numS_miss hc] at h; simp at h
theorem numS_le (S : RS) (most : Nat) : (numS S most).1 ≤ most := by
  by_cases hc : (gt S.l).2.2 = 0 ∧ (gt S.l).1 ≤ most
  · rw [numS_hit hc.1 hc.2]; exact hc.2
  · rw [numS_miss hc]; exact Nat.zero_le _
theorem numS_lt (S : RS) (most : Nat) : (numS S most).1 < 18446744073709551616 := by
  by_cases hc : (gt S.l).2.2 = 0 ∧ (gt S.l).1 ≤ most
  · rw [numS_hit hc.1 hc.2]; exact gt_val_lt _
  · rw [numS_miss hc]; decide

/-! ### What was put comes out -/
theorem numS_put (v most : Nat) (r : List Nat) (wr : Bool) (h : v < 18446744073709551616) (hm : v ≤ most) : numS ⟨vb v ++ r, wr⟩ most = (v, ⟨r, false⟩) := by
  have e := gt_vb v r h
  rw [numS_hit (by rw [e]) (by rw [e]; exact hm), e]
  show (v, RS.mk ((vb v ++ r).drop (vb v).length) false) = _
  rw [List.drop_left]
theorem bytesS_put (s r : List Nat) (wr : Bool) (most : Nat) (h : s.length < 18446744073709551616) (hm : s.length ≤ most) : bytesS ⟨vb s.length ++ (s ++ r), wr⟩ most = (s, ⟨r, false⟩) := by
  have e := numS_put s.length most (s ++ r) wr h hm
  rw [bytesS_hit (by rw [e]) (by rw [e]; simp), e]
  show ((s ++ r).take s.length, RS.mk ((s ++ r).drop s.length) false) = _
  rw [List.take_left, List.drop_left]
theorem byteS_put (x : Nat) (r : List Nat) (wr : Bool) : byteS ⟨x :: r, wr⟩ = (x, ⟨r, false⟩) := by rw [byteS_cons (by simp)]; rfl
end Go.Proofs.YthkephndhhhacaaDoor
