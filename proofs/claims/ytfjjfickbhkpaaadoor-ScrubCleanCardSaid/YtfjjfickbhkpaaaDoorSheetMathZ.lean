/-
  Pages as lists of numbers: a page's bytes, what a page tells. No program.
-/
import Derived.Test.YtfjjfickbhkpaaaDoorCrcMathZ
namespace Go.Proofs.YtfjjfickbhkpaaaDoor
open Go.RowKit

def bodyL (k : Nat) (l : List Nat) : List Nat := [k, 0, l.length / 256, l.length % 256] ++ l ++ List.replicate (504 - l.length) 0
def sum4 (m : List Nat) : List Nat := beL (more 0#32 m).toNat 4
def pageL (k : Nat) (l : List Nat) : List Nat := bodyL k l ++ sum4 (bodyL k l)
/-- Noughts alone. -/
def allZero (l : List Nat) : Bool := l.all fun x => x == 0
/-- What a page tells: its kind, its load, the error's number. -/
def opS (b : List Nat) : Nat × List Nat × Nat :=
  if b.length ≠ 512 then (0, [], 3)
  else if numL (b.drop 508) ≠ (more 0#32 (b.take 508)).toNat then (0, [], 4)
  else if (1 ≤ b.getD 0 0 ∧ b.getD 0 0 ≤ 5) ∧ b.getD 1 0 = 0 ∧ b.getD 2 0 * 256 + b.getD 3 0 ≤ 504 ∧ allZero ((b.take 508).drop (4 + (b.getD 2 0 * 256 + b.getD 3 0))) = true
  then (b.getD 0 0, (b.drop 4).take (b.getD 2 0 * 256 + b.getD 3 0), 0)
  else (0, [], 3)

theorem bodyL_length {k : Nat} {l : List Nat} (h : l.length ≤ 504) : (bodyL k l).length = 508 := by
  simp only [bodyL, List.length_append, List.length_cons, List.length_nil, List.length_replicate]; omega
theorem sum4_length (m : List Nat) : (sum4 m).length = 4 := beL_length _ _
theorem pageL_length {k : Nat} {l : List Nat} (h : l.length ≤ 504) : (pageL k l).length = 512 := by
  rw [pageL, List.length_append, bodyL_length h, sum4_length]
theorem B8.zeros (n : Nat) : B8 (List.replicate n 0) := fun x hx => by
  have := (List.mem_replicate.1 hx).2; omega
theorem bodyL_b8 {k : Nat} {l : List Nat} (hk : k < 256) (h : l.length ≤ 504) (hb : B8 l) : B8 (bodyL k l) := by
  refine B8.append (B8.append ?_ hb) (B8.zeros _)
  intro x hx
  simp only [List.mem_cons, List.not_mem_nil, or_false] at hx
  omega
theorem sum4_b8 (m : List Nat) : B8 (sum4 m) := beL_b8 _ _
theorem pageL_b8 {k : Nat} {l : List Nat} (hk : k < 256) (h : l.length ≤ 504) (hb : B8 l) : B8 (pageL k l) := (bodyL_b8 hk h hb).append (sum4_b8 _)
theorem numL_sum4 (m : List Nat) : numL (sum4 m) = (more 0#32 m).toNat := by
  rw [sum4, numL_beL]; have := (more 0#32 m).isLt; omega
theorem pageL_take {k : Nat} {l : List Nat} (h : l.length ≤ 504) : (pageL k l).take 508 = bodyL k l := by
  rw [pageL, List.take_append_of_le_length (by rw [bodyL_length h]; exact Nat.le_refl _), List.take_of_length_le (by rw [bodyL_length h]; exact Nat.le_refl _)]
theorem pageL_drop {k : Nat} {l : List Nat} (h : l.length ≤ 504) : (pageL k l).drop 508 = sum4 (bodyL k l) := by
  rw [pageL, List.drop_append_of_le_length (by rw [bodyL_length h]; exact Nat.le_refl _), List.drop_of_length_le (by rw [bodyL_length h]; exact Nat.le_refl _), List.nil_append]
theorem pageL_cons (k : Nat) (l : List Nat) : pageL k l = k :: 0 :: l.length / 256 :: l.length % 256 :: (l ++ (List.replicate (504 - l.length) 0 ++ sum4 (bodyL k l))) := by
  simp [pageL, bodyL]
theorem bodyL_cons (k : Nat) (l : List Nat) : bodyL k l = k :: 0 :: l.length / 256 :: l.length % 256 :: (l ++ List.replicate (504 - l.length) 0) := by
  simp [bodyL]
theorem allZero_replicate (n : Nat) : allZero (List.replicate n 0) = true := by
  simp [allZero]
theorem body_rest (k : Nat) (l : List Nat) : (bodyL k l).drop (4 + l.length) = List.replicate (504 - l.length) 0 := by
  rw [bodyL_cons, Nat.add_comm]
  simp
theorem page_load (k : Nat) (l : List Nat) : ((pageL k l).drop 4).take l.length = l := by
  rw [pageL_cons]; simp
theorem opS_page {k : Nat} {l : List Nat} (hk1 : 1 ≤ k) (hk5 : k ≤ 5) (h : l.length ≤ 504) : opS (pageL k l) = (k, l, 0) := by
  unfold opS
  rw [if_neg (by rw [pageL_length h]; simp), pageL_take h, pageL_drop h, numL_sum4, if_neg (by simp)]
  have e0 : (pageL k l).getD 0 0 = k := by rw [pageL_cons]; rfl
  have e1 : (pageL k l).getD 1 0 = 0 := by rw [pageL_cons]; rfl
  have e2 : (pageL k l).getD 2 0 = l.length / 256 := by rw [pageL_cons]; rfl
  have e3 : (pageL k l).getD 3 0 = l.length % 256 := by rw [pageL_cons]; rfl
  rw [e0, e1, e2, e3, show l.length / 256 * 256 + l.length % 256 = l.length by omega, body_rest, page_load, allZero_replicate, if_pos ⟨⟨hk1, hk5⟩, rfl, h, rfl⟩]
theorem opS_len {b : List Nat} (h : b.length ≠ 512) : opS b = (0, [], 3) := by unfold opS; rw [if_pos h]
theorem opS_sum {b : List Nat} (h : b.length = 512) (hs : numL (b.drop 508) ≠ (more 0#32 (b.take 508)).toNat) : opS b = (0, [], 4) := by
  unfold opS; rw [if_neg (by omega), if_pos hs]
/-- One byte of a page another: its sum is another one. -/
theorem opS_turned {k : Nat} {l : List Nat} (hk : k < 256) (h : l.length ≤ 504) (hb : B8 l) (i y : Nat) (hi : i < 512) (hy : y < 256) (hne : y ≠ (pageL k l).getD i 0) : opS ((pageL k l).set i y) = (0, [], 4) := by
  obtain ⟨m', t', e, hm, ht, hd⟩ := turned (bodyL k l) (sum4 (bodyL k l)) i y (sum4_length _) (pageL_b8 hk h hb) hy (by rw [bodyL_length h]; exact hi) hne (numL_sum4 _)
  rw [bodyL_length h] at hm
  have e' : (pageL k l).set i y = m' ++ t' := e
  refine opS_sum (by rw [List.length_set, pageL_length h]) ?_
  rw [e', ← hm, List.drop_left, List.take_left]
  exact of_decide_eq_false hd
theorem pageL_inj {k q : Nat} {l m : List Nat} (hk1 : 1 ≤ k) (hk5 : k ≤ 5) (hl : l.length ≤ 504) (hq1 : 1 ≤ q) (hq5 : q ≤ 5) (hm : m.length ≤ 504) (h : pageL k l = pageL q m) : k = q ∧ l = m := by
  have h1 := opS_page hk1 hk5 hl
  rw [h, opS_page hq1 hq5 hm] at h1
  injection h1 with a b
  injection b with b c
  exact ⟨a.symm, b.symm⟩
theorem page_blank {k : Nat} {l : List Nat} (hk1 : 1 ≤ k) : allZero (pageL k l) = false := by
  rw [pageL_cons]
  simp only [allZero, List.all_cons, Bool.and_eq_false_iff, beq_eq_false_iff_ne]
  left; omega
theorem opS_b8 {b : List Nat} (hb : B8 b) : (opS b).1 < 256 ∧ B8 (opS b).2.1 ∧ (opS b).2.2 ≤ 4 := by
  unfold opS
  split
  · exact ⟨by decide, B8.nil, by decide⟩
  split
  · exact ⟨by decide, B8.nil, by decide⟩
  split
  · exact ⟨hb.get 0, (hb.drop 4).take _, Nat.zero_le _⟩
  · exact ⟨by decide, B8.nil, by decide⟩
end Go.Proofs.YtfjjfickbhkpaaaDoor
