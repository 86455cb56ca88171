/-
  Pieces of a value and loads of pieces, as functions: what both sides answer. No program.
-/
import Derived.Test.YthkephndhhhacaaDoorTexts
import Derived.Test.YthkephndhhhacaaDoorLeafMath
namespace Go.Proofs.YthkephndhhhacaaDoor
open Go Go.RowKit

/-- A value's piece at a place; how many there are of so many bytes; the first k of them; all. -/
def cutS (V : ByteArray) (k : Nat) : ByteArray := V.extract (502 * k) (min (502 * k + 502) V.size)
def nP (n : Nat) : Nat := (n + 501) / 502
def pcT (V : ByteArray) (k : Nat) : List ByteArray := (List.range k).map (cutS V)
def chs (V : ByteArray) : List ByteArray := pcT V (nP V.size)
/-- What stands behind the first k pieces. -/
def restS (V : ByteArray) (k : Nat) : ByteArray := V.extract (502 * k) V.size
theorem pcT_zero (V : ByteArray) : pcT V 0 = [] := rfl
theorem pcT_succ (V : ByteArray) (k : Nat) : pcT V (k + 1) = pcT V k ++ [cutS V k] := by simp [pcT, List.range_succ]
theorem pcT_len (V : ByteArray) (k : Nat) : (pcT V k).length = k := by simp [pcT]
theorem chs_len (V : ByteArray) : (chs V).length = nP V.size := pcT_len V _
theorem sa_pcT (V : ByteArray) (k i : Nat) (h : i < k) : sa (pcT V k) i = cutS V i := by
  unfold sa pcT; simp [List.getD, h]
theorem sa_chs (V : ByteArray) (i : Nat) (h : i < nP V.size) : sa (chs V) i = cutS V i := sa_pcT V _ i h
theorem nP_lt {n k : Nat} : k < nP n ↔ 502 * k < n := by unfold nP; omega
theorem nP_zero : nP 0 = 0 := rfl
theorem cut_size (V : ByteArray) (k : Nat) : (cutS V k).size = min (502 * k + 502) V.size - 502 * k := by
  unfold cutS; rw [ByteArray.size_extract]; omega
theorem cut_full {V : ByteArray} {k : Nat} (h : k + 1 < nP V.size) : (cutS V k).size = 502 := by
  have := nP_lt.1 h
  rw [cut_size]; omega
theorem cut_some {V : ByteArray} {k : Nat} (h : k < nP V.size) : 1 ≤ (cutS V k).size ∧ (cutS V k).size ≤ 502 := by
  have := nP_lt.1 h
  rw [cut_size]; omega
theorem rest_zero (V : ByteArray) : restS V 0 = V := by
  unfold restS; rw [Nat.mul_zero]; exact ByteArray.extract_zero_size
theorem rest_size (V : ByteArray) (k : Nat) : (restS V k).size = V.size - 502 * k := by
  unfold restS; rw [ByteArray.size_extract]; omega
theorem rest_cut (V : ByteArray) (k : Nat) : (restS V k).extract 0 502 = cutS V k := by
  unfold restS cutS; rw [ByteArray.extract_extract, Nat.add_zero]
theorem rest_rest (V : ByteArray) (k : Nat) (h : 502 * k + 502 ≤ V.size) : (restS V k).extract 502 (restS V k).size = restS V (k + 1) := by
  rw [rest_size]
  unfold restS
  rw [ByteArray.extract_extract]
  congr 1; omega
theorem rest_last (V : ByteArray) (k : Nat) (h : V.size ≤ 502 * k + 502) : restS V k = cutS V k := by
  unfold restS cutS; rw [Nat.min_eq_right h]
/-- All pieces together: the first bytes. -/
def headS (V : ByteArray) (k : Nat) : ByteArray := V.extract 0 (min (502 * k) V.size)
theorem head_zero (V : ByteArray) : headS V 0 = ByteArray.empty := by
  unfold headS; rw [Nat.mul_zero, Nat.zero_min, ByteArray.extract_eq_empty_iff]; omega
theorem head_succ (V : ByteArray) (k : Nat) (h : 502 * k ≤ V.size) : headS V k ++ cutS V k = headS V (k + 1) := by
  unfold headS cutS
  rw [Nat.min_eq_left h, ByteArray.extract_append_extract]
  congr 1 <;> omega
theorem head_all (V : ByteArray) : headS V (nP V.size) = V := by
  unfold headS
  rw [Nat.min_eq_right (by unfold nP; omega)]; exact ByteArray.extract_zero_size

/-! ### Loads -/
/-- May a value go on at a page; may a piece have so many bytes. -/
def nextB (p : Int) : Bool := decide (p = 0) || decide (2 ≤ p) && decide (p < 1024)
def sizeB (n : Int) : Bool := decide (1 ≤ n) && decide (n ≤ 502)
def chOk (p : Int) (V : ByteArray) : Bool := nextB p && sizeB V.size
/-- What Encode answers: the number of the error, the bytes. -/
def chE (p : Int) (V : ByteArray) : Int := if chOk p V then 0 else 1
def chB (p : Int) (V : ByteArray) : List Nat := if chOk p V then beL p.toNat 2 ++ bn V else []
/-- What Decode answers: the page, the piece, the number of the error. -/
def chP (l : List Nat) : Nat := numL (l.take 2)
def dcOk (l : List Nat) : Bool := sizeB ((l.length : Int) - 2) && nextB (chP l)
def dcN (l : List Nat) : Int := if dcOk l then (chP l : Int) else 0
def dcV (l : List Nat) : ByteArray := if dcOk l then bstr (l.drop 2) else ByteArray.empty
def dcE (l : List Nat) : Int := if dcOk l then 0 else 3
/-- What Count answers. -/
def cntS (x : Int) : Int := if x < 1 then 0 else (x - 1) / 502 + 1
theorem cnt_np (n : Nat) : cntS n = (nP n : Int) := by
  unfold cntS nP
  rcases Nat.eq_zero_or_pos n with rfl | h
  · rfl
  · rw [if_neg (by omega)]; omega
theorem pl_len (p : Nat) (V : ByteArray) : (beL p 2 ++ bn V).length = V.size + 2 := by
  rw [List.length_append, beL_length, bn_len]; omega
theorem pl_page (p : Nat) (V : ByteArray) (hp : p < 1024) : chP (beL p 2 ++ bn V) = p := by
  unfold chP
  rw [List.take_append_of_le_length (by rw [beL_length]; omega), List.take_of_length_le (by rw [beL_length]; omega), numL_beL, Nat.mod_eq_of_lt (by omega)]
theorem pl_rest (p : Nat) (V : ByteArray) : (beL p 2 ++ bn V).drop 2 = bn V := by
  rw [List.drop_append_of_le_length (by rw [beL_length]; omega), List.drop_of_length_le (by rw [beL_length]; omega)]; rfl
theorem pl_b8 (p : Nat) (V : ByteArray) : B8 (beL p 2 ++ bn V) := (beL_b8 _ _).append (bn_b8 _)
/-- A piece comes back. -/
theorem pl_back (p : Nat) (V : ByteArray) (h : chOk p V = true) : dcN (beL p 2 ++ bn V) = p ∧ dcV (beL p 2 ++ bn V) = V ∧ dcE (beL p 2 ++ bn V) = 0 := by
  have hp : p < 1024 := by
    unfold chOk nextB at h; simp at h; omega
  have ho : dcOk (beL p 2 ++ bn V) = true := by
    unfold dcOk; rw [pl_page p V hp, pl_len]
    unfold chOk at h
    rw [show (((V.size + 2 : Nat) : Int) - 2) = (V.size : Int) by omega, Bool.and_comm]; exact h
  unfold dcN dcV dcE
  rw [ho, pl_page p V hp, pl_rest, bstr_bn]
  exact ⟨rfl, rfl, rfl⟩
theorem chP_lt {l : List Nat} (h : B8 l) : chP l < 65536 := by
  have h1 := numL_lt (h.take 2)
  rw [List.length_take] at h1
  have h2 : min 2 l.length = 0 ∨ min 2 l.length = 1 ∨ min 2 l.length = 2 := by omega
  unfold chP
  rcases h2 with e | e | e <;> rw [e] at h1 <;> omega
theorem chP_two {l : List Nat} (h : 2 ≤ l.length) : chP l = l.getD 0 0 * 256 + l.getD 1 0 := by
  unfold chP
  match l, h with
  | a :: b :: r, _ => simp [numL]
end Go.Proofs.YthkephndhhhacaaDoor
