/-
  Forks and loads of branches, as functions on lists: what both sides answer, and what the laws ask of it. No program.
  Entries in order, rows of kids between bounds, and how many bytes they take: what the layer's trees are made of. No program.
-/
import Derived.Test.YtbgkjniagedcnaaGreatDoorKeysMathZ
import Derived.Test.YtbgkjniagedcnaaGreatDoorTextsZ
import Derived.Test.YtbgkjniagedcnaaGreatDoorFillMathZ
namespace Go.Proofs.YtbgkjniagedcnaaGreatDoor
open Go Go.RowKit

/-- The key ahead of a place, or the empty text. -/
def lastK (ks : List ByteArray) (k : Nat) : ByteArray := if k = 0 then ByteArray.empty else sa ks (k - 1)
/-- May the first k keys be, the first k pages? -/
def keysTo (ks : List ByteArray) (k : Nat) : Prop := ∀ i, i < k → okK (sa ks i) = true ∧ blt (lastK ks i) (sa ks i) = true
def freshAt (is : List Int) (i : Nat) : Prop := ∀ j, j < i → ia is j ≠ ia is i
def pagesTo (is : List Int) (k : Nat) : Prop := ∀ i, i < k → (2 ≤ ia is i ∧ ia is i ≤ 1023) ∧ freshAt is i
def keysF (ks : List ByteArray) : Prop := keysTo ks ks.length
def pagesF (is : List Int) : Prop := pagesTo is is.length
def mayF (ks : List ByteArray) (is : List Int) : Prop := keysF ks ∧ pagesF is ∧ 1 ≤ ks.length ∧ is.length = ks.length + 1
theorem okK_size {k : ByteArray} (h : okK k = true) : 1 ≤ k.size ∧ k.size ≤ 40 := by
  unfold okK at h; simp at h; exact h
theorem blt_empty {k : ByteArray} (h : 1 ≤ k.size) : blt ByteArray.empty k = true := by
  rw [blt_iff]
  have e := bl_size k
  show [] < bl k
  cases h2 : bl k with
  | nil => rw [h2] at e; simp at e; omega
  | cons x r => exact List.nil_lt_cons x r
theorem blt_none {k : ByteArray} (h : k.size = 0) : blt ByteArray.empty k = false := by
  rw [empty_of k h]; exact blt_self _
theorem keysTo_succ {ks : List ByteArray} {k : Nat} (h : keysTo ks k) (h1 : okK (sa ks k) = true) (h2 : blt (lastK ks k) (sa ks k) = true) : keysTo ks (k + 1) := fun i hi => by
  rcases Nat.lt_or_ge i k with h3 | h3
  · exact h i h3
  · obtain rfl : i = k := by omega
    exact ⟨h1, h2⟩
theorem pagesTo_succ {is : List Int} {k : Nat} (h : pagesTo is k) (h1 : 2 ≤ ia is k ∧ ia is k ≤ 1023) (h2 : freshAt is k) : pagesTo is (k + 1) := fun i hi => by
  rcases Nat.lt_or_ge i k with h3 | h3
  · exact h i h3
  · obtain rfl : i = k := by omega
    exact ⟨h1, h2⟩
theorem not_keys {ks : List ByteArray} {k : Nat} (hk : k < ks.length) (h : okK (sa ks k) = false ∨ blt (lastK ks k) (sa ks k) = false) : ¬ keysF ks := fun ha => by
  have := ha k hk
  rcases h with h | h
  · rw [h] at this; cases this.1
  · rw [h] at this; cases this.2
theorem not_pages {is : List Int} {k : Nat} (hk : k < is.length) (h : ¬ (2 ≤ ia is k ∧ ia is k ≤ 1023) ∨ ¬ freshAt is k) : ¬ pagesF is := fun ha => by
  have := ha k hk
  rcases h with h | h
  · exact h this.1
  · exact h this.2
theorem lastK_succ (ks : List ByteArray) (k : Nat) : lastK ks (k + 1) = sa ks k := by
  unfold lastK; rw [if_neg (by omega), Nat.add_sub_cancel]
/-- The keys ascend. -/
theorem keys_asc {ks : List ByteArray} (h : keysF ks) (i : Nat) (h0 : 0 < i) (hi : i < ks.length) : blt (sa ks (i - 1)) (sa ks i) = true := by
  have := (h i hi).2
  unfold lastK at this; rwa [if_neg (by omega)] at this
theorem keys_lt {ks : List ByteArray} (h : keysF ks) : ∀ (j i : Nat), i < j → j < ks.length → blt (sa ks i) (sa ks j) = true
  | 0, i, h1, _ => by omega
  | j + 1, i, h1, hj => by
    have h2 := keys_asc h (j + 1) (by omega) hj
    rw [Nat.add_sub_cancel] at h2
    rcases Nat.lt_or_ge i j with h3 | h3
    · exact blt_trans (keys_lt h j i h3 (by omega)) h2
    · obtain rfl : i = j := by omega
      exact h2

/-! ### Loads -/
/-- A page's bytes; a key's and its page's; those of the first k. -/
def twoP (p : Int) : List Nat := [p.toNat / 256 % 256, p.toNat % 256]
def pcF (k : ByteArray) (p : Int) : List Nat := vb k.size ++ (bn k ++ twoP p)
def putF (ks : List ByteArray) (is : List Int) : Nat → List Nat
  | 0 => twoP (ia is 0)
  | k + 1 => putF ks is k ++ pcF (sa ks k) (ia is (k + 1))
def forkS (ks : List ByteArray) (is : List Int) : List Nat := putF ks is ks.length
theorem twoP_b8 (p : Int) : B8 (twoP p) := fun x hx => by
  unfold twoP at hx; simp at hx; omega
theorem pcF_b8 (k : ByteArray) (p : Int) : B8 (pcF k p) := (vb_b8 _).append ((bn_b8 _).append (twoP_b8 p))
theorem putF_b8 (ks : List ByteArray) (is : List Int) : ∀ k, B8 (putF ks is k)
  | 0 => twoP_b8 _
  | k + 1 => (putF_b8 ks is k).append (pcF_b8 _ _)
theorem pcF_len (k : ByteArray) (p : Int) (h : k.size ≤ 127) : (pcF k p).length = 3 + k.size := by
  have e : (vb k.size).length = 1 := vs_small (by omega)
  unfold pcF
  rw [List.length_append, List.length_append, bn_len, e]
  show 1 + (k.size + 2) = _; omega
/-- How many bytes a fork of such keys takes: its first k. -/
def sizeTo (ks : List ByteArray) : Nat → Nat
  | 0 => 2
  | k + 1 => sizeTo ks k + (3 + (sa ks k).size)
theorem putF_len {ks : List ByteArray} {is : List Int} (h : ∀ i, i < ks.length → (sa ks i).size ≤ 127) : ∀ k, k ≤ ks.length → (putF ks is k).length = sizeTo ks k
  | 0, _ => rfl
  | k + 1, hk => by
    rw [putF, List.length_append, putF_len h k (by omega), pcF_len _ _ (h k (by omega)), sizeTo]
theorem keys_small {ks : List ByteArray} (h : keysF ks) : ∀ i, i < ks.length → (sa ks i).size ≤ 127 := fun i hi => by
  have := okK_size (h i hi).1; omega
theorem fork_len {ks : List ByteArray} {is : List Int} (h : keysF ks) : (forkS ks is).length = sizeTo ks ks.length := putF_len (keys_small h) _ (Nat.le_refl _)
theorem sizeTo_le {ks : List ByteArray} (h : keysF ks) : ∀ k, k ≤ ks.length → sizeTo ks k ≤ 2 + 43 * k
  | 0, _ => by rw [sizeTo]; omega
  | k + 1, hk => by
    have := okK_size (h k (by omega)).1
    have := sizeTo_le h k (by omega)
    rw [sizeTo]; omega
theorem sizeTo_mono (ks : List ByteArray) : ∀ (m k : Nat), k ≤ m → sizeTo ks k ≤ sizeTo ks m
  | 0, k, h => by obtain rfl : k = 0 := by omega
                  exact Nat.le_refl _
  | m + 1, k, h => by
    rcases Nat.lt_or_ge k (m + 1) with h1 | h1
    · have := sizeTo_mono ks m k (by omega)
      show _ ≤ sizeTo ks m + _; omega
    · obtain rfl : k = m + 1 := by omega
      exact Nat.le_refl _
open Classical in
/-- Encode's error and its bytes. -/
noncomputable def encFE (ks : List ByteArray) (is : List Int) : Nat := if mayF ks is then (if (forkS ks is).length ≤ 504 then 0 else 5) else 1
noncomputable def encFB (ks : List ByteArray) (is : List Int) : List Nat := if encFE ks is = 0 then forkS ks is else []
theorem encF_1 {ks : List ByteArray} {is : List Int} (h : ¬ mayF ks is) : encFE ks is = 1 ∧ encFB ks is = [] := by
  have : encFE ks is = 1 := by unfold encFE; rw [if_neg h]
  exact ⟨this, by unfold encFB; rw [this]; rfl⟩
theorem encF_5 {ks : List ByteArray} {is : List Int} (h : mayF ks is) (h3 : 504 < (forkS ks is).length) : encFE ks is = 5 ∧ encFB ks is = [] := by
  have : encFE ks is = 5 := by unfold encFE; rw [if_pos h, if_neg (by omega)]
  exact ⟨this, by unfold encFB; rw [this]; rfl⟩
theorem encF_0 {ks : List ByteArray} {is : List Int} (h : mayF ks is) (h3 : (forkS ks is).length ≤ 504) : encFE ks is = 0 ∧ encFB ks is = forkS ks is := by
  have : encFE ks is = 0 := by unfold encFE; rw [if_pos h, if_pos h3]
  exact ⟨this, by unfold encFB; rw [this]; rfl⟩

/-! ### Decode -/
/-- The next key and its page, and what is left. -/
def pieceS (l : List Nat) : Option (ByteArray × Int × List Nat) :=
  let B := bytesS ⟨l, false⟩ 40
  if B.2.wr = true then none
  else if B.2.l.length < 2 then none else some (bstr B.1, ((B.2.l.getD 0 0 * 256 + B.2.l.getD 1 0 : Nat) : Int), B.2.l.drop 2)
theorem piece_wr {l : List Nat} (h : (bytesS ⟨l, false⟩ 40).2.wr = true) : pieceS l = none := by unfold pieceS; simp only; rw [if_pos h]
theorem piece_short {l : List Nat} (h : (bytesS ⟨l, false⟩ 40).2.l.length < 2) : pieceS l = none := by
  unfold pieceS; simp only
  by_cases hw : (bytesS ⟨l, false⟩ 40).2.wr = true
  · rw [if_pos hw]
  · rw [if_neg hw, if_pos h]
theorem piece_ok {l : List Nat} (h : (bytesS ⟨l, false⟩ 40).2.wr = false) (h2 : 2 ≤ (bytesS ⟨l, false⟩ 40).2.l.length) :
    pieceS l = some (bstr (bytesS ⟨l, false⟩ 40).1, (((bytesS ⟨l, false⟩ 40).2.l.getD 0 0 * 256 + (bytesS ⟨l, false⟩ 40).2.l.getD 1 0 : Nat) : Int), (bytesS ⟨l, false⟩ 40).2.l.drop 2) := by
  unfold pieceS; simp only
  rw [if_neg (by rw [h]; simp), if_neg (by omega)]
theorem bytesS_nil (m : Nat) (b : Bool) : bytesS ⟨[], b⟩ m = ([], ⟨[], true⟩) := bytesS_miss (fun h => by rw [numS_nil m (S := ⟨[], b⟩) rfl] at h; cases h.1)
theorem piece_nil : pieceS [] = none := piece_wr (by rw [bytesS_nil])
theorem bytesS_left {S : RS} {m : Nat} (h : (bytesS S m).2.wr = false) : (bytesS S m).2.l.length < S.l.length := by
  obtain ⟨h1, h2, e⟩ := bytesS_ok h
  obtain ⟨e2, h3, _⟩ := numS_ok h1
  have hl := gt_len S.l h3
  rw [e]
  show (List.drop _ _).length < _
  rw [List.length_drop, e2]
  show (List.drop _ _).length - _ < _
  rw [List.length_drop]
  omega
theorem piece_lt {l r : List Nat} {k : ByteArray} {p : Int} (h : pieceS l = some (k, p, r)) : r.length + 2 < l.length := by
  cases hw : (bytesS ⟨l, false⟩ 40).2.wr with
  | true => rw [piece_wr hw] at h; cases h
  | false =>
    rcases Nat.lt_or_ge (bytesS ⟨l, false⟩ 40).2.l.length 2 with h2 | h2
    · rw [piece_short h2] at h; cases h
    · rw [piece_ok hw h2] at h
      cases h
      have := bytesS_left hw
      rw [List.length_drop]
      show _ < l.length
      have h3 : (bytesS ⟨l, false⟩ 40).2.l.length < l.length := this
      omega
theorem piece_ext {l r : List Nat} {k : ByteArray} {p : Int} (x : List Nat) (h : pieceS l = some (k, p, r)) : pieceS (l ++ x) = some (k, p, r ++ x) := by
  cases hw : (bytesS ⟨l, false⟩ 40).2.wr with
  | true => rw [piece_wr hw] at h; cases h
  | false =>
    rcases Nat.lt_or_ge (bytesS ⟨l, false⟩ 40).2.l.length 2 with h2 | h2
    · rw [piece_short h2] at h; cases h
    · rw [piece_ok hw h2] at h
      have e1 := bytesS_ext x false hw
      simp only at e1
      rw [piece_ok (by rw [e1]) (by rw [e1]; show 2 ≤ (_ ++ x).length; rw [List.length_append]; omega), e1]
      simp only
      cases h
      rw [List.drop_append_of_le_length h2, getD_app _ _ _ (by omega), getD_app _ _ _ (by omega)]
theorem piece_put {k : ByteArray} {p : Int} (hk : okK k = true) (hp : 2 ≤ p ∧ p ≤ 1023) (r : List Nat) : pieceS (pcF k p ++ r) = some (k, p, r) := by
  have h1 := okK_size hk
  have e : pcF k p ++ r = vb (bn k).length ++ (bn k ++ (twoP p ++ r)) := by
    unfold pcF; rw [bn_len]; simp only [List.append_assoc]
  have e1 := bytesS_put (bn k) (twoP p ++ r) false 40 (by rw [bn_len]; omega) (by rw [bn_len]; omega)
  rw [e, piece_ok (by rw [e1]) (by rw [e1]; show 2 ≤ (twoP p ++ r).length; rw [List.length_append]; show 2 ≤ 2 + _; omega), e1]
  simp only
  have e3 : ((twoP p ++ r).getD 0 0 * 256 + (twoP p ++ r).getD 1 0 : Nat) = p.toNat := by
    show p.toNat / 256 % 256 * 256 + p.toNat % 256 = _; omega
  have e4 : ((p.toNat : Nat) : Int) = p := by omega
  rw [e3, e4, bstr_bn]
  rfl
theorem piece_half {k : ByteArray} (hk : okK k = true) (x : Nat) : pieceS (vb k.size ++ (bn k ++ [x])) = none := by
  have h1 := okK_size hk
  have e1 := bytesS_put (bn k) [x] false 40 (by rw [bn_len]; omega) (by rw [bn_len]; omega)
  rw [bn_len] at e1
  exact piece_short (by rw [e1]; show 1 < 2; omega)
/-- All of the keys and pages, with so much fuel. -/
def decF : Nat → List Nat → Option (List ByteArray × List Int)
  | 0, l => if l = [] then some ([], []) else none
  | f + 1, l => if l = [] then some ([], []) else match pieceS l with
    | none => none
    | some (k, p, r) => (decF f r).map fun x => (k :: x.1, p :: x.2)
theorem decF_nil (f : Nat) : decF f [] = some ([], []) := by cases f <;> rfl
theorem decF_fuel : ∀ (f g : Nat) (l : List Nat), l.length ≤ f → l.length ≤ g → decF f l = decF g l
  | 0, g, l, hf, _ => by
    obtain rfl : l = [] := List.eq_nil_of_length_eq_zero (by omega)
    rw [decF_nil, decF_nil]
  | f + 1, 0, l, _, hg => by
    obtain rfl : l = [] := List.eq_nil_of_length_eq_zero (by omega)
    rw [decF_nil, decF_nil]
  | f + 1, g + 1, l, hf, hg => by
    rw [decF, decF]
    split
    · rfl
    · cases h : pieceS l with
      | none => rfl
      | some x =>
        obtain ⟨k, p, r⟩ := x
        have := piece_lt h
        simp only
        rw [decF_fuel f g r (by omega) (by omega)]
def decR (l : List Nat) : Option (List ByteArray × List Int) := decF l.length l
theorem decR_nil : decR [] = some ([], []) := rfl
theorem decR_none {l : List Nat} (h0 : l ≠ []) (h : pieceS l = none) : decR l = none := by
  unfold decR
  cases hl : l.length with
  | zero => exact absurd (List.eq_nil_of_length_eq_zero hl) h0
  | succ f => rw [decF, if_neg h0, h]
theorem decR_step {l r : List Nat} {k : ByteArray} {p : Int} (h : pieceS l = some (k, p, r)) : decR l = (decR r).map fun x => (k :: x.1, p :: x.2) := by
  have hlt := piece_lt h
  unfold decR
  cases hl : l.length with
  | zero => omega
  | succ f =>
    have h0 : l ≠ [] := fun e => by rw [e] at hl; cases hl
    rw [decF, if_neg h0, h]
    simp only
    rw [decF_fuel f r.length r (by omega) (Nat.le_refl _)]
theorem decR_app (n : Nat) : ∀ (l m : List Nat) (x : List ByteArray × List Int), l.length ≤ n → decR l = some x → decR (l ++ m) = (decR m).map fun y => (x.1 ++ y.1, x.2 ++ y.2) := by
  induction n with
  | zero =>
    intro l m x hl h
    obtain rfl : l = [] := List.eq_nil_of_length_eq_zero (by omega)
    rw [decR_nil] at h
    cases h
    rw [List.nil_append]
    cases decR m <;> rfl
  | succ n ih =>
    intro l m x hl h
    by_cases h0 : l = []
    · subst h0
      rw [decR_nil] at h
      cases h
      rw [List.nil_append]
      cases decR m <;> rfl
    · cases hp : pieceS l with
      | none => rw [decR_none h0 hp] at h; cases h
      | some y =>
        obtain ⟨k, p, r⟩ := y
        have hlt := piece_lt hp
        rw [decR_step hp] at h
        cases hr : decR r with
        | none => rw [hr] at h; cases h
        | some z =>
          rw [hr] at h
          cases h
          rw [decR_step (piece_ext m hp), ih r m z (by omega) hr]
          cases decR m <;> rfl
/-- No more keys than bytes. -/
theorem decR_count (n : Nat) : ∀ (l : List Nat) (x : List ByteArray × List Int), l.length ≤ n → decR l = some x → x.1.length ≤ l.length := by
  induction n with
  | zero =>
    intro l x hl h
    obtain rfl : l = [] := List.eq_nil_of_length_eq_zero (by omega)
    rw [decR_nil] at h
    cases h; simp
  | succ n ih =>
    intro l x hl h
    by_cases h0 : l = []
    · subst h0
      rw [decR_nil] at h
      cases h; simp
    · cases hp : pieceS l with
      | none => rw [decR_none h0 hp] at h; cases h
      | some y =>
        obtain ⟨k, p, r⟩ := y
        have hlt := piece_lt hp
        rw [decR_step hp] at h
        cases hr : decR r with
        | none => rw [hr] at h; cases h
        | some z =>
          rw [hr] at h
          cases h
          have := ih r z (by omega) hr
          simp only [List.length_cons]
          omega
def firstP (l : List Nat) : Int := ((l.getD 0 0 * 256 + l.getD 1 0 : Nat) : Int)
open Classical in
/-- Decode's fork, if the bytes are a load. -/
noncomputable def decFS (l : List Nat) : Option (List ByteArray × List Int) :=
  if 504 < l.length ∨ l.length < 2 then none else match decR (l.drop 2) with
    | none => none
    | some (ks, ps) => if mayF ks (firstP l :: ps) then some (ks, firstP l :: ps) else none
theorem decFS_out {l : List Nat} (h : 504 < l.length ∨ l.length < 2) : decFS l = none := by unfold decFS; rw [if_pos h]
theorem decFS_none {l : List Nat} (h : decR (l.drop 2) = none) : decFS l = none := by
  unfold decFS; rw [h]; split <;> rfl
theorem decFS_not {l : List Nat} {ks : List ByteArray} {ps : List Int} (h : decR (l.drop 2) = some (ks, ps)) (hm : ¬ mayF ks (firstP l :: ps)) : decFS l = none := by
  unfold decFS; rw [h]; simp only; rw [if_neg hm]; split <;> rfl
theorem decFS_some {l : List Nat} {ks : List ByteArray} {ps : List Int} (h1 : l.length ≤ 504) (h2 : 2 ≤ l.length) (h : decR (l.drop 2) = some (ks, ps)) (hm : mayF ks (firstP l :: ps)) : decFS l = some (ks, firstP l :: ps) := by
  unfold decFS; rw [if_neg (by omega), h]; simp only; rw [if_pos hm]
theorem decFS_may {l : List Nat} {x : List ByteArray × List Int} (h : decFS l = some x) : mayF x.1 x.2 := by
  unfold decFS at h
  split at h
  · cases h
  split at h
  · cases h
  split at h
  · rename_i hm
    cases h; exact hm
  · cases h
/-- Decode's keys, pages and its error. -/
noncomputable def decFK (l : List Nat) : List ByteArray := match decFS l with
  | none => []
  | some x => x.1
noncomputable def decFI (l : List Nat) : List Int := match decFS l with
  | none => []
  | some x => x.2
noncomputable def decFE (l : List Nat) : Nat := match decFS l with
  | none => 3
  | some _ => 0
theorem decF_no {l : List Nat} (h : decFS l = none) : decFK l = [] ∧ decFI l = [] ∧ decFE l = 3 := by unfold decFK decFI decFE; rw [h]; exact ⟨rfl, rfl, rfl⟩
theorem decF_yes {l : List Nat} {ks : List ByteArray} {is : List Int} (h : decFS l = some (ks, is)) : decFK l = ks ∧ decFI l = is ∧ decFE l = 0 := by unfold decFK decFI decFE; rw [h]; exact ⟨rfl, rfl, rfl⟩

/-! ### What was encoded is decoded -/
theorem putF_two (ks : List ByteArray) (is : List Int) : ∀ k, ∃ m, putF ks is k = twoP (ia is 0) ++ m
  | 0 => ⟨[], by rw [List.append_nil]; rfl⟩
  | k + 1 => by
    obtain ⟨m, hm⟩ := putF_two ks is k
    exact ⟨m ++ pcF (sa ks k) (ia is (k + 1)), by rw [putF, hm, List.append_assoc]⟩
theorem two_drop (p : Int) (m : List Nat) : (twoP p ++ m).drop 2 = m := rfl
theorem two_first {p : Int} (h : 2 ≤ p ∧ p ≤ 1023) (m : List Nat) : firstP (twoP p ++ m) = p := by
  show ((p.toNat / 256 % 256 * 256 + p.toNat % 256 : Nat) : Int) = p; omega
theorem drop_two_app {l m : List Nat} (h : 2 ≤ l.length) : (l ++ m).drop 2 = l.drop 2 ++ m := List.drop_append_of_le_length h
theorem decR_put {ks : List ByteArray} {is : List Int} (h : mayF ks is) : ∀ k, k ≤ ks.length → decR ((putF ks is k).drop 2) = some (ks.take k, (is.drop 1).take k)
  | 0, _ => rfl
  | k + 1, hk => by
    obtain ⟨hK, hP, h1, hl⟩ := h
    have ih := decR_put ⟨hK, hP, h1, hl⟩ k (by omega)
    obtain ⟨m, hm⟩ := putF_two ks is k
    have e := piece_put (hK k (by omega)).1 (hP (k + 1) (by omega)).1 []
    rw [List.append_nil] at e
    have e2 := decR_step e
    rw [decR_nil] at e2
    rw [putF, drop_two_app (by rw [hm, List.length_append]; show 2 ≤ 2 + _; omega), decR_app _ _ _ _ (Nat.le_refl _) ih, e2]
    have e3 : (is.drop 1).take (k + 1) = (is.drop 1).take k ++ [ia is (k + 1)] := by
      rw [List.take_succ_eq_append_getElem (by rw [List.length_drop]; omega)]
      simp only [List.getElem_drop, ia, List.getD]
      rw [List.getElem?_eq_getElem (by omega)]
      simp [Nat.add_comm]
    rw [sa_take ks k (by omega), e3]
    rfl
theorem is_cons {is : List Int} (h : 1 ≤ is.length) : ia is 0 :: is.drop 1 = is := by
  cases is with
  | nil => simp at h
  | cons x r => rfl
theorem decFS_load {ks : List ByteArray} {is : List Int} (h : mayF ks is) (hl : (forkS ks is).length ≤ 504) : decFS (forkS ks is) = some (ks, is) := by
  have e := decR_put h ks.length (Nat.le_refl _)
  have h4 := h.2.2.2
  rw [List.take_of_length_le (Nat.le_refl _), List.take_of_length_le (by rw [List.length_drop]; omega)] at e
  obtain ⟨m, hm⟩ := putF_two ks is ks.length
  have hf : firstP (forkS ks is) = ia is 0 := by unfold forkS; rw [hm]; exact two_first (h.2.1 0 (by omega)).1 m
  have h2 : 2 ≤ (forkS ks is).length := by unfold forkS; rw [hm, List.length_append]; show 2 ≤ 2 + _; omega
  have hc := is_cons (is := is) (by omega)
  have := decFS_some hl h2 e (by rw [hf, hc]; exact h)
  rw [hf, hc] at this
  exact this
theorem pcF_cut (k : ByteArray) (p : Int) : (pcF k p).take ((pcF k p).length - 1) = vb k.size ++ (bn k ++ [p.toNat / 256 % 256]) := by
  have e : pcF k p = (vb k.size ++ (bn k ++ [p.toNat / 256 % 256])) ++ [p.toNat % 256] := by
    unfold pcF twoP; simp only [List.append_assoc]; rfl
  rw [e]
  rw [show ((vb k.size ++ (bn k ++ [p.toNat / 256 % 256])) ++ [p.toNat % 256]).length - 1 = (vb k.size ++ (bn k ++ [p.toNat / 256 % 256])).length by rw [List.length_append]; rfl]
  exact List.take_left
theorem pcF_pos (k : ByteArray) (p : Int) : 2 ≤ (pcF k p).length := by
  unfold pcF
  rw [List.length_append, List.length_append]
  show 2 ≤ _ + (_ + 2); omega
theorem decFS_cut {ks : List ByteArray} {is : List Int} (h : mayF ks is) : decFS ((forkS ks is).take ((forkS ks is).length - 1)) = none := by
  obtain ⟨n, hn⟩ : ∃ n, ks.length = n + 1 := ⟨ks.length - 1, by have := h.2.2.1; omega⟩
  have hl := h.2.2.2
  apply decFS_none
  obtain ⟨m, hm⟩ := putF_two ks is n
  have hp := pcF_pos (sa ks n) (ia is (n + 1))
  have e : (forkS ks is).take ((forkS ks is).length - 1) = putF ks is n ++ (pcF (sa ks n) (ia is (n + 1))).take ((pcF (sa ks n) (ia is (n + 1))).length - 1) := by
    unfold forkS
    rw [hn, putF, List.length_append, List.take_append]
    rw [List.take_of_length_le (by omega)]
    congr 2
    omega
  rw [e, drop_two_app (by rw [hm, List.length_append]; show 2 ≤ 2 + _; omega), decR_app _ _ _ _ (Nat.le_refl _) (decR_put h n (by omega)), pcF_cut]
  rw [decR_none (by simp) (piece_half (h.1 n (by omega)).1 _)]
  rfl

/-! ### A key's way -/
def wayS : List ByteArray → ByteArray → Nat
  | [], _ => 0
  | c :: r, key => if blt key c = true then 0 else wayS r key + 1
theorem wayS_le : ∀ (cs : List ByteArray) (key : ByteArray), wayS cs key ≤ cs.length
  | [], _ => Nat.le_refl _
  | c :: r, key => by
    have := wayS_le r key
    unfold wayS
    split
    · exact Nat.zero_le _
    · rw [List.length_cons]; omega
theorem wayS_lt : ∀ (cs : List ByteArray) (key : ByteArray) (i : Nat), i < wayS cs key → blt key (sa cs i) = false
  | [], _, i, h => by simp [wayS] at h
  | c :: r, key, i, h => by
    unfold wayS at h
    split at h
    · omega
    · rename_i h1
      cases i with
      | zero => show blt key c = false; simpa using h1
      | succ i => exact wayS_lt r key i (by omega)
theorem wayS_at : ∀ (cs : List ByteArray) (key : ByteArray), wayS cs key < cs.length → blt key (sa cs (wayS cs key)) = true
  | [], _, h => by simp at h
  | c :: r, key, h => by
    unfold wayS at h ⊢
    split
    · rename_i h1
      exact h1
    · rename_i h1
      rw [if_neg h1, List.length_cons] at h
      exact wayS_at r key (by omega)
theorem wayS_ge {cs : List ByteArray} (ha : keysF cs) (key : ByteArray) (i : Nat) (hi : wayS cs key ≤ i) (hl : i < cs.length) : blt key (sa cs i) = true := by
  have h1 := wayS_at cs key (by omega)
  rcases Nat.lt_or_ge (wayS cs key) i with h2 | h2
  · exact blt_trans h1 (keys_lt ha i _ h2 hl)
  · obtain rfl : i = wayS cs key := by omega
    exact h1
end Go.Proofs.YtbgkjniagedcnaaGreatDoor
namespace Go.Proofs.YtbgkjniagedcnaaGreatDoor
open Go Go.RowKit

/-- An entry; ch: the pages on which its value lies (none: it lies nowhere). -/
structure En where
  k : ByteArray
  v : ByteArray
  ch : List Nat
instance : Inhabited En := ⟨⟨ByteArray.empty, ByteArray.empty, []⟩⟩
/-- The entry at a place. -/
def ea (es : List En) (i : Nat) : En := es.getD i default
theorem ea_app_at (A M : List En) (i : Nat) : ea (A ++ M) (A.length + i) = ea M i := by
  unfold ea; simp only [List.getD]; rw [List.getElem?_append_right (by omega), Nat.add_sub_cancel_left]
theorem ea_app_lt (A M : List En) (i : Nat) (h : i < A.length) : ea (A ++ M) i = ea A i := by
  unfold ea; simp [List.getD, List.getElem?_append_left h]
theorem ea_cons (e : En) (r : List En) (i : Nat) : ea (e :: r) (i + 1) = ea r i := rfl
theorem ea_mem {es : List En} {i : Nat} (h : i < es.length) : ea es i ∈ es := by
  unfold ea; simp [List.getD, h]
theorem ea_take (es : List En) (k : Nat) (h : k < es.length) : es.take (k + 1) = es.take k ++ [ea es k] := by
  rw [List.take_succ_eq_append_getElem h]; simp [ea, List.getD, h]
theorem ea_drop (es : List En) (k : Nat) (h : k < es.length) : es.drop k = ea es k :: es.drop (k + 1) := by
  rw [List.drop_eq_getElem_cons h]; simp [ea, List.getD, h]
abbrev SB := Option ByteArray
theorem blt_asym {a b : ByteArray} (h : blt a b = true) : blt b a = false := by rw [blt_iff] at h; rw [blt_not]; grind
theorem blt_ne {a b : ByteArray} (h : blt a b = true) : (a.toList == b.toList) = false := by
  rw [blt_iff] at h
  rw [beq_eq_false_iff_ne, Lib.toList_data, Lib.toList_data]
  intro e
  have e2 : bl a = bl b := e
  rw [e2] at h; grind
theorem blt_ne' {a b : ByteArray} (h : blt a b = true) : (b.toList == a.toList) = false := by
  rw [blt_iff] at h
  rw [beq_eq_false_iff_ne, Lib.toList_data, Lib.toList_data]
  intro e
  have e2 : bl b = bl a := e
  rw [e2] at h; grind
theorem beq_bytes {a b : ByteArray} (h : (a.toList == b.toList) = true) : a = b := by
  rw [beq_iff_eq, Lib.toList_data, Lib.toList_data] at h; exact bl_inj h
theorem beq_self (a : ByteArray) : (a.toList == a.toList) = true := by simp
theorem blt_tri {a b : ByteArray} (h : blt a b = false) (h2 : (a.toList == b.toList) = false) : blt b a = true := by
  rw [blt_not] at h; rw [beq_eq_false_iff_ne, Lib.toList_data, Lib.toList_data] at h2; rw [blt_iff]; grind
theorem blt_le {a b c : ByteArray} (h : blt b a = false) (k : blt b c = true) : blt a c = true := by
  rw [blt_not] at h; rw [blt_iff] at *; grind
theorem ble_lt {a b c : ByteArray} (h : blt a b = true) (k : blt c b = false) : blt a c = true := by
  rw [blt_not] at k; rw [blt_iff] at *; grind
theorem ble_trans {a b c : ByteArray} (h : blt b a = false) (k : blt c b = false) : blt c a = false := by
  rw [blt_not] at *; grind

/-! ### A key's place, what is put there -/
def fE : List En → ByteArray → Nat
  | [], _ => 0
  | e :: r, key => if blt e.k key = true then fE r key + 1 else 0
def isE : List En → ByteArray → Bool
  | [], _ => false
  | e :: r, key => if blt e.k key = true then isE r key else e.k.toList == key.toList
def goneE (es : List En) (key : ByteArray) : Nat := if isE es key = true then 1 else 0
def rep (es : List En) (key : ByteArray) (o : List En) : List En := es.take (fE es key) ++ (o ++ es.drop (fE es key + goneE es key))
/-- The value of a key, or none. -/
def getE (es : List En) (key : ByteArray) : ByteArray := if isE es key = true then (ea es (fE es key)).v else ByteArray.empty
theorem fE_le : ∀ (es : List En) (key : ByteArray), fE es key + goneE es key ≤ es.length
  | [], key => by simp [fE, goneE, isE]
  | e :: r, key => by
    have h1 := fE_le r key
    have e1 : fE (e :: r) key = if blt e.k key = true then fE r key + 1 else 0 := rfl
    have e2 : isE (e :: r) key = if blt e.k key = true then isE r key else e.k.toList == key.toList := rfl
    unfold goneE at *
    rw [e1, e2]
    cases h : blt e.k key
    · simp only [Bool.false_eq_true, if_false, List.length_cons]; split <;> omega
    · simp only [if_true, List.length_cons]; omega
theorem fE_lt : ∀ (es : List En) (key : ByteArray) (i : Nat), i < fE es key → blt (ea es i).k key = true
  | [], _, i, h => by simp [fE] at h
  | e :: r, key, i, h => by
    unfold fE at h
    cases h2 : blt e.k key
    · rw [h2] at h; simp at h
    · rw [h2] at h
      simp only [if_true] at h
      cases i with
      | zero => exact h2
      | succ i => exact fE_lt r key i (by omega)
theorem fE_at : ∀ (es : List En) (key : ByteArray), fE es key < es.length → blt (ea es (fE es key)).k key = false
  | [], _, h => by simp [fE] at h
  | e :: r, key, h => by
    unfold fE at h ⊢
    cases h2 : blt e.k key
    · simp only [Bool.false_eq_true, if_false]; exact h2
    · rw [h2] at h
      simp only [if_true, List.length_cons] at h ⊢
      exact fE_at r key (by omega)
theorem isE_eq : ∀ (es : List En) (key : ByteArray), isE es key = (decide (fE es key < es.length) && ((ea es (fE es key)).k.toList == key.toList))
  | [], key => by simp [isE, fE]
  | e :: r, key => by
    unfold isE fE
    cases h2 : blt e.k key
    · simp only [Bool.false_eq_true, if_false]
      have : ea (e :: r) 0 = e := rfl
      rw [this]; simp
    · simp only [if_true]
      rw [ea_cons, isE_eq r key]
      simp
def srt (es : List En) : Prop := es.Pairwise (fun a b => blt a.k b.k = true)
theorem srt_at {es : List En} (hs : srt es) {i j : Nat} (hij : i < j) (hj : j < es.length) : blt (ea es i).k (ea es j).k = true := by
  have h := List.pairwise_iff_getElem.1 hs i j (by omega) hj hij
  have e1 : ea es i = es[i] := by unfold ea; simp [List.getD, show i < es.length by omega]
  have e2 : ea es j = es[j] := by unfold ea; simp [List.getD, hj]
  rw [e1, e2]; exact h
theorem fE_ge {es : List En} (hs : srt es) (key : ByteArray) (i : Nat) (hi : fE es key ≤ i) (hl : i < es.length) : blt (ea es i).k key = false := by
  have h1 := fE_at es key (by omega)
  rcases Nat.lt_or_ge (fE es key) i with h2 | h2
  · have h3 := srt_at hs h2 hl
    have h4 := blt_asym h3
    exact ble_trans h1 h4
  · obtain rfl : i = fE es key := by omega
    exact h1
theorem fE_take : ∀ (es : List En) (key : ByteArray), ∀ e ∈ es.take (fE es key), blt e.k key = true
  | [], key, e, h => by simp at h
  | x :: r, key, e, h => by
    unfold fE at h
    cases h2 : blt x.k key
    · rw [h2] at h; simp at h
    · rw [h2] at h
      simp only [if_true, List.take_succ_cons, List.mem_cons] at h
      rcases h with rfl | h
      · exact h2
      · exact fE_take r key e h
theorem fE_drop : ∀ (es : List En) (key : ByteArray), srt es → ∀ e ∈ es.drop (fE es key + goneE es key), blt key e.k = true
  | [], key, _, e, h => by simp at h
  | x :: r, key, hs, e, h => by
    have hs' := List.pairwise_cons.1 hs
    unfold fE goneE isE at h
    cases h2 : blt x.k key
    · rw [h2] at h
      simp only [Bool.false_eq_true, if_false] at h
      cases h3 : (x.k.toList == key.toList)
      · rw [h3] at h
        simp only [Bool.false_eq_true, if_false, Nat.add_zero, List.drop_zero, List.mem_cons] at h
        have h4 := blt_tri h2 h3
        rcases h with rfl | h
        · exact h4
        · exact blt_trans h4 (hs'.1 e h)
      · rw [h3] at h
        simp only [if_true, Nat.zero_add, List.drop_succ_cons, List.drop_zero] at h
        rw [← beq_bytes h3]
        exact hs'.1 e h
    · rw [h2] at h
      simp only [if_true] at h
      rw [show fE r key + 1 + (if isE r key = true then 1 else 0) = (fE r key + goneE r key) + 1 by unfold goneE; omega, List.drop_succ_cons] at h
      exact fE_drop r key hs'.2 e h
theorem fE_left {A : List En} {key : ByteArray} (hA : ∀ e ∈ A, blt e.k key = true) (M : List En) : fE (A ++ M) key = A.length + fE M key ∧ isE (A ++ M) key = isE M key := by
  induction A with
  | nil => simp
  | cons a r ih =>
    have h1 := hA a (by simp)
    have h2 := ih (fun e he => hA e (by simp [he]))
    constructor
    · rw [List.cons_append, fE, if_pos h1, h2.1, List.length_cons]; omega
    · rw [List.cons_append, isE, if_pos h1, h2.2]
theorem fE_right {B : List En} {key : ByteArray} (hB : ∀ e ∈ B, blt key e.k = true) : ∀ M : List En, fE (M ++ B) key = fE M key ∧ isE (M ++ B) key = isE M key
  | [] => by
    cases B with
    | nil => simp
    | cons b r =>
      have h1 := hB b (by simp)
      have h2 := blt_asym h1
      have h3 := blt_ne' h1
      constructor
      · simp [fE, h2]
      · simp [isE, h2, h3]
  | m :: r => by
    have h := fE_right hB r
    constructor
    · rw [List.cons_append, fE, fE, h.1]
    · rw [List.cons_append, isE, isE, h.2]
theorem fE_mid {A B : List En} {key : ByteArray} (hA : ∀ e ∈ A, blt e.k key = true) (hB : ∀ e ∈ B, blt key e.k = true) (M : List En) : fE (A ++ (M ++ B)) key = A.length + fE M key ∧ isE (A ++ (M ++ B)) key = isE M key := by
  have h1 := fE_left hA (M ++ B)
  have h2 := fE_right hB M
  exact ⟨by rw [h1.1, h2.1], by rw [h1.2, h2.2]⟩
theorem rep_mid {A B : List En} {key : ByteArray} (hA : ∀ e ∈ A, blt e.k key = true) (hB : ∀ e ∈ B, blt key e.k = true) (M o : List En) : rep (A ++ (M ++ B)) key o = A ++ (rep M key o ++ B) := by
  have h := fE_mid hA hB M
  have hl := fE_le M key
  unfold rep goneE at *
  rw [h.1, h.2]
  have e1 : (A ++ (M ++ B)).take (A.length + fE M key) = A ++ M.take (fE M key) := by
    rw [List.take_length_add_append, List.take_append_of_le_length (by omega)]
  have e2 : (A ++ (M ++ B)).drop (A.length + fE M key + (if isE M key = true then 1 else 0)) = M.drop (fE M key + (if isE M key = true then 1 else 0)) ++ B := by
    rw [Nat.add_assoc, List.drop_length_add_append, List.drop_append_of_le_length (by omega)]
  rw [e1, e2]; simp only [List.append_assoc]
theorem getE_mid {A B : List En} {key : ByteArray} (hA : ∀ e ∈ A, blt e.k key = true) (hB : ∀ e ∈ B, blt key e.k = true) (M : List En) : getE (A ++ (M ++ B)) key = getE M key := by
  have h := fE_mid hA hB M
  have hl := fE_le M key
  unfold getE goneE at *
  rw [h.1, h.2]
  by_cases h2 : isE M key = true
  · rw [if_pos h2, if_pos h2, ea_app_at, ea_app_lt _ _ _ (by rw [if_pos h2] at hl; omega)]
  · rw [if_neg h2, if_neg h2]
/-- What may be put in a key's place. -/
def oneO (key : ByteArray) (o : List En) : Prop := o = [] ∨ ∃ v, o = [⟨key, v, []⟩]
theorem mem_rep {es : List En} {key : ByteArray} {o : List En} {e : En} (h : e ∈ rep es key o) : e ∈ es ∨ e ∈ o := by
  unfold rep at h
  simp only [List.mem_append] at h
  rcases h with h | h | h
  · exact .inl (List.mem_of_mem_take h)
  · exact .inr h
  · exact .inl (List.mem_of_mem_drop h)
theorem srt_rep {es : List En} {key : ByteArray} {o : List En} (hs : srt es) (ho : oneO key o) : srt (rep es key o) := by
  unfold rep srt
  have h1 := fE_take es key
  have h2 := fE_drop es key hs
  rw [List.pairwise_append, List.pairwise_append]
  refine ⟨hs.take, ⟨?_, hs.drop, ?_⟩, ?_⟩
  · rcases ho with rfl | ⟨v, rfl⟩ <;> simp
  · intro a ha b hb
    rcases ho with rfl | ⟨v, rfl⟩
    · cases ha
    · simp only [List.mem_singleton] at ha
      subst ha; exact h2 b hb
  · intro a ha b hb
    rcases List.mem_append.1 hb with hb | hb
    · rcases ho with rfl | ⟨v, rfl⟩
      · cases hb
      · simp only [List.mem_singleton] at hb
        subst hb; exact h1 a ha
    · exact blt_trans (h1 a ha) (h2 b hb)
theorem rep_len (es : List En) (key : ByteArray) (o : List En) : (rep es key o).length + goneE es key = es.length + o.length := by
  have := fE_le es key
  unfold rep
  simp only [List.length_append, List.length_take, List.length_drop]; omega

/-! ### Sizes -/
def okE (e : En) : Prop := okK e.k = true ∧ e.v.size ≤ 2048
def szE (e : En) : Nat := sizeS e.k (e.v.size : Int)
def szs (es : List En) : Nat := (es.map szE).sum
def leafSz (es : List En) : Nat := vs es.length + szs es
def kss (ks : List ByteArray) : Nat := (ks.map (fun k => 3 + k.size)).sum
def brSz (ks : List ByteArray) : Nat := 2 + kss ks
theorem szE_range {e : En} (h : okE e) : 3 ≤ szE e ∧ szE e ≤ 106 := by
  have h1 := okK_size h.1
  have h2 := h.2
  unfold szE sizeS
  rw [vs_small (show e.k.size < 128 by omega), show ((e.v.size : Int)).toNat = e.v.size from rfl]
  by_cases h3 : e.v.size ≤ 64
  · rw [if_pos (by omega), vs_small (by omega)]; omega
  · rw [if_neg (by omega)]
    have h4 : vs e.v.size ≤ 2 := vs_pow 2 _ (by omega) (by omega)
    have := vs_pos e.v.size
    omega
theorem szs_app (a b : List En) : szs (a ++ b) = szs a + szs b := by unfold szs; rw [List.map_append, List.sum_append]
theorem szs_cons (e : En) (b : List En) : szs (e :: b) = szE e + szs b := by unfold szs; simp
theorem szs_range : ∀ {es : List En}, (∀ e ∈ es, okE e) → 3 * es.length ≤ szs es ∧ szs es ≤ 106 * es.length
  | [], _ => by simp [szs]
  | e :: r, h => by
    have h1 := szE_range (h e (by simp))
    have h2 := szs_range (es := r) (fun x hx => h x (by simp [hx]))
    rw [szs_cons, List.length_cons]; omega
theorem kss_app (a b : List ByteArray) : kss (a ++ b) = kss a + kss b := by unfold kss; rw [List.map_append, List.sum_append]
theorem kss_cons (k : ByteArray) (b : List ByteArray) : kss (k :: b) = 3 + k.size + kss b := by unfold kss; simp
theorem kss_range : ∀ {ks : List ByteArray}, (∀ k ∈ ks, okK k = true) → 4 * ks.length ≤ kss ks ∧ kss ks ≤ 43 * ks.length
  | [], _ => by simp [kss]
  | k :: r, h => by
    have h1 := okK_size (h k (by simp))
    have h2 := kss_range (ks := r) (fun x hx => h x (by simp [hx]))
    rw [kss_cons, List.length_cons]; omega
/-- The sizes as the program lists them. -/
def szI (es : List En) : List Int := es.map fun e => ((szE e : Nat) : Int)
def ksI (ks : List ByteArray) : List Int := ks.map fun k => ((3 + k.size : Nat) : Int)
theorem sum_nat (l : List Nat) : (l.map (fun n : Nat => (n : Int))).sum = ((l.sum : Nat) : Int) := by
  induction l with
  | nil => rfl
  | cons a r ih => rw [List.map_cons, List.sum_cons, List.sum_cons, ih]; omega
theorem pf_szI (es : List En) (a : Nat) : pf (szI es) a = ((szs (es.take a) : Nat) : Int) := by
  unfold pf szI szs
  rw [← sum_nat, ← List.map_take, List.map_map]; rfl
theorem pf_ksI (ks : List ByteArray) (a : Nat) : pf (ksI ks) a = ((kss (ks.take a) : Nat) : Int) := by
  unfold pf ksI kss
  rw [← sum_nat, ← List.map_take, List.map_map]; rfl
theorem szI_at (es : List En) (i : Nat) (h : i < es.length) : ia (szI es) i = ((szE (ea es i) : Nat) : Int) := by
  unfold ia szI ea; simp [List.getD, h]
theorem ksI_at (ks : List ByteArray) (i : Nat) (h : i < ks.length) : ia (ksI ks) i = ((3 + (sa ks i).size : Nat) : Int) := by
  unfold ia ksI sa; simp [List.getD, h]
/-- Of things of 1 to 112 bytes, from 503 to 700 together, beside two bytes at most: the place lies in the middle. -/
theorem mids {l : List Int} (b : Int) (hb : 0 ≤ b ∧ b ≤ 2) (hs : ∀ i, i < l.length → 1 ≤ ia l i ∧ ia l i ≤ 112) (hn : l.length ≤ 1000) (h1 : 503 ≤ pf l l.length) (h2 : pf l l.length ≤ 700) :
    spE l b = 0 ∧ ∃ a : Nat, spN l b = (a : Int) ∧ 1 ≤ a ∧ a < l.length ∧ 180 ≤ pf l a ∧ pf l a ≤ 410 ∧ 180 ≤ pf l l.length - pf l a ∧ pf l l.length - pf l a ≤ 410 := by
  have hok : okTo l l.length := fun i hi => (okI_iff _).2 (by have := hs i hi; omega)
  obtain ⟨a, ha1, ha2, ha3, ha4⟩ := mid_place hs ((pf l l.length - 111) / 2) (by omega) l.length (Nat.le_refl _) (by omega)
  have hz := pf_zero l
  have ha0 : 1 ≤ a := by
    rcases Nat.eq_zero_or_pos a with h | h
    · subst h; omega
    · exact h
  have han : a < l.length := by
    rcases Nat.lt_or_ge a l.length with h | h
    · exact h
    · obtain rfl : a = l.length := by omega
      omega
  have hbr := bst_range l (l.length - 2)
  have hbl := bst_least l (l.length - 2) a ha0 (by omega)
  have hga : gr l a ≤ 406 ∧ 2 * gr l a ≤ pf l l.length + 113 := by unfold gr; omega
  have hc : canB l b = true := (canB_iff l b).2 ⟨by omega, by omega, (okI_iff b).2 (by omega), hok⟩
  have hy := sp_yes hc (by omega)
  have hgb : gr l (bst l (l.length - 2)) = max (pf l (bst l (l.length - 2))) (pf l l.length - pf l (bst l (l.length - 2))) := rfl
  exact ⟨hy.2, bst l (l.length - 2), hy.1, hbr.1, by omega, by omega, by omega, by omega, by omega⟩

/-! ### Entries without their pages -/
def En.bare (e : En) : En := ⟨e.k, e.v, []⟩
def bare (es : List En) : List En := es.map En.bare
theorem bare_len (es : List En) : (bare es).length = es.length := by unfold bare; simp
theorem bare_app (a b : List En) : bare (a ++ b) = bare a ++ bare b := by unfold bare; simp
theorem bare_bare (es : List En) : bare (bare es) = bare es := by unfold bare; rw [List.map_map]; rfl
theorem bare_take (es : List En) (k : Nat) : bare (es.take k) = (bare es).take k := by unfold bare; rw [List.map_take]
theorem bare_drop (es : List En) (k : Nat) : bare (es.drop k) = (bare es).drop k := by unfold bare; rw [List.map_drop]
theorem ea_bare (es : List En) (i : Nat) : ea (bare es) i = (ea es i).bare := by
  unfold ea bare
  simp only [List.getD, List.getElem?_map]
  cases es[i]? <;> rfl
theorem fE_bare : ∀ (es : List En) (key : ByteArray), fE (bare es) key = fE es key ∧ isE (bare es) key = isE es key
  | [], _ => ⟨rfl, rfl⟩
  | e :: r, key => by
    have h := fE_bare r key
    have e1 : bare (e :: r) = e.bare :: bare r := rfl
    rw [e1]
    unfold fE isE
    rw [h.1, h.2]
    exact ⟨rfl, rfl⟩
theorem getE_bare (es : List En) (key : ByteArray) : getE (bare es) key = getE es key := by
  unfold getE
  rw [(fE_bare es key).1, (fE_bare es key).2, ea_bare]; rfl
theorem rep_bare (es : List En) (key : ByteArray) (o : List En) : bare (rep es key o) = rep (bare es) key (bare o) := by
  unfold rep goneE
  rw [(fE_bare es key).1, (fE_bare es key).2, bare_app, bare_app, bare_take, bare_drop]
theorem srt_bare {es : List En} (h : srt es) : srt (bare es) := by
  unfold srt bare
  rw [List.pairwise_map]
  exact h
theorem okE_bare {es : List En} (h : ∀ x ∈ es, okE x) : ∀ x ∈ bare es, okE x := fun x hx => by
  unfold bare at hx
  rw [List.mem_map] at hx
  obtain ⟨y, hy, rfl⟩ := hx
  exact h y hy
theorem bare_nil {es : List En} : bare es = [] ↔ es = [] := by unfold bare; simp
theorem bare_own {es : List En} (h : ∀ x ∈ es, x.ch = []) : bare es = es := by
  unfold bare
  conv => rhs; rw [← List.map_id es]
  refine List.map_congr_left (fun x hx => ?_)
  have := h x hx
  cases x with
  | mk k v c => simp only at this; rw [this]; rfl

/-! ### Bounds -/
def ltO : SB → SB → Prop
  | some a, some b => blt a b = true
  | _, _ => True
def geO : SB → ByteArray → Prop
  | some a, k => blt k a = false
  | none, _ => True
def ltK : ByteArray → SB → Prop
  | k, some b => blt k b = true
  | _, none => True
def ins (lo hi : SB) (k : ByteArray) : Prop := geO lo k ∧ ltK k hi
theorem ltO_trans {a c : SB} {b : ByteArray} (h : ltO a (some b)) (k : ltO (some b) c) : ltO a c := by
  cases a with
  | none => trivial
  | some a => cases c with
    | none => trivial
    | some c => exact blt_trans h k
theorem ins_left {lo hi : SB} {m k : ByteArray} (h : ins lo (some m) k) (hm : ltO (some m) hi) : ins lo hi k := by
  refine ⟨h.1, ?_⟩
  cases hi with
  | none => trivial
  | some b => exact blt_trans h.2 hm
theorem ins_right {lo hi : SB} {m k : ByteArray} (h : ins (some m) hi k) (hm : ltO lo (some m)) : ins lo hi k := by
  refine ⟨?_, h.2⟩
  cases lo with
  | none => trivial
  | some a => exact blt_asym (ble_lt hm h.1)
theorem ltO_of {lo hi : SB} {k : ByteArray} (h : ins lo hi k) : ltO lo hi := by
  cases lo with
  | none => trivial
  | some a => cases hi with
    | none => trivial
    | some b => exact blt_le h.1 h.2

/-! ### A row of kids, with the keys between -/
def KRow {β : Type} (G : SB → SB → Nat → β → Prop) : List ByteArray → SB → SB → List Nat → List β → Prop
  | [], lo, hi, ps, ess => ∃ p e, ps = [p] ∧ ess = [e] ∧ G lo hi p e
  | k :: ks, lo, hi, ps, ess => ∃ p ps' e ess', ps = p :: ps' ∧ ess = e :: ess' ∧ G lo (some k) p e ∧ okK k = true ∧ KRow G ks (some k) hi ps' ess'
section
variable {β : Type} {G : SB → SB → Nat → β → Prop}
theorem KRow.len : ∀ {ks : List ByteArray} {lo hi : SB} {ps : List Nat} {ess : List β}, KRow G ks lo hi ps ess → ps.length = ks.length + 1 ∧ ess.length = ks.length + 1
  | [], _, _, _, _, h => by obtain ⟨p, e, rfl, rfl, _⟩ := h; exact ⟨rfl, rfl⟩
  | k :: ks, _, _, _, _, h => by
    obtain ⟨p, ps', e, ess', rfl, rfl, _, _, h⟩ := h
    have := KRow.len h
    simp only [List.length_cons]; omega
theorem KRow.mono {G' : SB → SB → Nat → β → Prop} (hG : ∀ lo hi p e, G lo hi p e → G' lo hi p e) : ∀ {ks : List ByteArray} {lo hi : SB} {ps : List Nat} {ess : List β}, KRow G ks lo hi ps ess → KRow G' ks lo hi ps ess
  | [], _, _, _, _, h => by obtain ⟨p, e, rfl, rfl, h⟩ := h; exact ⟨p, e, rfl, rfl, hG _ _ _ _ h⟩
  | k :: ks, _, _, _, _, h => by
    obtain ⟨p, ps', e, ess', rfl, rfl, h1, h2, h⟩ := h
    exact ⟨p, ps', e, ess', rfl, rfl, hG _ _ _ _ h1, h2, KRow.mono hG h⟩
theorem KRow.append : ∀ {ks : List ByteArray} {lo hi : SB} {ps : List Nat} {ess : List β} {k : ByteArray} {ks2 : List ByteArray} {ps2 : List Nat} {ess2 : List β},
    KRow G ks lo (some k) ps ess → okK k = true → KRow G ks2 (some k) hi ps2 ess2 → KRow G (ks ++ k :: ks2) lo hi (ps ++ ps2) (ess ++ ess2)
  | [], _, _, _, _, _, _, _, _, h, hk, h2 => by
    obtain ⟨p, e, rfl, rfl, h⟩ := h
    exact ⟨p, _, e, _, rfl, rfl, h, hk, h2⟩
  | x :: ks, _, _, _, _, _, _, _, _, h, hk, h2 => by
    obtain ⟨p, ps', e, ess', rfl, rfl, h1, h3, h⟩ := h
    exact ⟨p, _, e, _, rfl, rfl, h1, h3, KRow.append h hk h2⟩
theorem KRow.split : ∀ {ks : List ByteArray} {lo hi : SB} {ps : List Nat} {ess : List β} {i : Nat}, KRow G ks lo hi ps ess → i < ks.length →
    KRow G (ks.take i) lo (some (sa ks i)) (ps.take (i + 1)) (ess.take (i + 1)) ∧ okK (sa ks i) = true ∧ KRow G (ks.drop (i + 1)) (some (sa ks i)) hi (ps.drop (i + 1)) (ess.drop (i + 1))
  | [], _, _, _, _, _, _, hi => by simp at hi
  | k :: ks, _, _, _, _, 0, h, _ => by
    obtain ⟨p, ps', e, ess', rfl, rfl, h1, h3, h⟩ := h
    exact ⟨⟨p, e, rfl, rfl, h1⟩, h3, h⟩
  | k :: ks, _, _, _, _, i + 1, h, hi => by
    obtain ⟨p, ps', e, ess', rfl, rfl, h1, h3, h⟩ := h
    obtain ⟨a, b, c⟩ := KRow.split (i := i) h (by simpa using hi)
    exact ⟨⟨p, _, e, _, rfl, rfl, h1, h3, a⟩, b, c⟩
def lob (lo : SB) (ks : List ByteArray) (i : Nat) : SB := if i = 0 then lo else some (sa ks (i - 1))
def hib (hi : SB) (ks : List ByteArray) (j : Nat) : SB := if j < ks.length then some (sa ks j) else hi
theorem sa_drop (ks : List ByteArray) (k : Nat) (h : k < ks.length) : ks.drop k = sa ks k :: ks.drop (k + 1) := by
  rw [List.drop_eq_getElem_cons h]; simp [sa, List.getD, h]
theorem KRow.right {ks : List ByteArray} {lo hi : SB} {ps : List Nat} {ess : List β} {j : Nat} (h : KRow G ks lo hi ps ess) (hj : j ≤ ks.length) :
    KRow G (ks.take j) lo (hib hi ks j) (ps.take (j + 1)) (ess.take (j + 1)) ∧
    ∀ lo' ks' ps' ess', KRow G ks' lo' (hib hi ks j) ps' ess' → KRow G (ks' ++ ks.drop j) lo' hi (ps' ++ ps.drop (j + 1)) (ess' ++ ess.drop (j + 1)) := by
  have hl := h.len
  unfold hib
  rcases Nat.lt_or_ge j ks.length with h1 | h1
  · rw [if_pos h1]
    obtain ⟨a, b, c⟩ := h.split h1
    refine ⟨a, fun lo' ks' ps' ess' h2 => ?_⟩
    rw [sa_drop ks j h1]
    exact h2.append b c
  · rw [if_neg (by omega), List.take_of_length_le h1, List.take_of_length_le (by omega), List.take_of_length_le (by omega)]
    refine ⟨h, fun lo' ks' ps' ess' h2 => ?_⟩
    rw [List.drop_of_length_le h1, List.drop_of_length_le (by omega), List.drop_of_length_le (by omega), List.append_nil, List.append_nil, List.append_nil]
    exact h2
theorem KRow.left {ks : List ByteArray} {lo hi : SB} {ps : List Nat} {ess : List β} {i : Nat} (h : KRow G ks lo hi ps ess) (hi' : i ≤ ks.length) :
    KRow G (ks.drop i) (lob lo ks i) hi (ps.drop i) (ess.drop i) ∧
    ∀ hi2 ks' ps' ess', KRow G ks' (lob lo ks i) hi2 ps' ess' → KRow G (ks.take i ++ ks') lo hi2 (ps.take i ++ ps') (ess.take i ++ ess') := by
  cases i with
  | zero =>
    have e : lob lo ks 0 = lo := rfl
    rw [e]
    exact ⟨h, fun _ _ _ _ h2 => h2⟩
  | succ i =>
    obtain ⟨a, b, c⟩ := h.split (i := i) (by omega)
    have e : lob lo ks (i + 1) = some (sa ks i) := rfl
    rw [e]
    refine ⟨c, fun hi2 ks' ps' ess' h2 => ?_⟩
    rw [sa_take ks i (by omega), List.append_assoc]
    exact a.append b h2
/-- The kids from one place to another one, and what comes in their place. -/
theorem KRow.cut {ks : List ByteArray} {lo hi : SB} {ps : List Nat} {ess : List β} {i j : Nat} (h : KRow G ks lo hi ps ess) (hij : i ≤ j) (hj : j ≤ ks.length) :
    KRow G ((ks.take j).drop i) (lob lo ks i) (hib hi ks j) ((ps.take (j + 1)).drop i) ((ess.take (j + 1)).drop i) ∧
    ∀ ks' ps' ess', KRow G ks' (lob lo ks i) (hib hi ks j) ps' ess' → KRow G (ks.take i ++ (ks' ++ ks.drop j)) lo hi (ps.take i ++ (ps' ++ ps.drop (j + 1))) (ess.take i ++ (ess' ++ ess.drop (j + 1))) := by
  have hR := h.right hj
  have hL := h.left (i := i) (by omega)
  have hRL := hR.1.left (i := i) (by rw [List.length_take]; omega)
  have e : lob lo (ks.take j) i = lob lo ks i := by
    unfold lob
    by_cases h0 : i = 0
    · rw [if_pos h0, if_pos h0]
    · rw [if_neg h0, if_neg h0]
      have : sa (ks.take j) (i - 1) = sa ks (i - 1) := by unfold sa; simp [List.getD, show i - 1 < j by omega]
      rw [this]
  rw [e] at hRL
  exact ⟨hRL.1, fun ks' ps' ess' h2 => hL.2 _ _ _ _ (hR.2 _ _ _ _ h2)⟩
/-- The same row seen otherwise. -/
theorem KRow.map {γ : Type} {G' : SB → SB → Nat → γ → Prop} (f : β → γ) (hG : ∀ lo hi p e, G lo hi p e → G' lo hi p (f e)) : ∀ {ks : List ByteArray} {lo hi : SB} {ps : List Nat} {ess : List β}, KRow G ks lo hi ps ess → KRow G' ks lo hi ps (ess.map f)
  | [], _, _, _, _, h => by obtain ⟨p, e, rfl, rfl, h⟩ := h; exact ⟨p, f e, rfl, rfl, hG _ _ _ _ h⟩
  | k :: ks, _, _, _, _, h => by
    obtain ⟨p, ps', e, ess', rfl, rfl, h1, h2, h⟩ := h
    exact ⟨p, ps', f e, ess'.map f, rfl, rfl, hG _ _ _ _ h1, h2, KRow.map f hG h⟩
/-- Each of a row. -/
theorem KRow.all {P : β → Prop} (hG : ∀ lo hi p e, G lo hi p e → P e) : ∀ {ks : List ByteArray} {lo hi : SB} {ps : List Nat} {ess : List β}, KRow G ks lo hi ps ess → ∀ e ∈ ess, P e
  | [], _, _, _, _, h => by
    obtain ⟨p, e, rfl, rfl, h⟩ := h
    intro x hx
    rw [List.mem_singleton] at hx
    rw [hx]; exact hG _ _ _ _ h
  | k :: ks, _, _, _, _, h => by
    obtain ⟨p, ps', e, ess', rfl, rfl, h1, h2, h⟩ := h
    intro x hx
    rcases List.mem_cons.1 hx with hx | hx
    · rw [hx]; exact hG _ _ _ _ h1
    · exact KRow.all hG h x hx
end
section
variable {G : SB → SB → Nat → List En → Prop}
/-- What G says of a kid holds of the whole row. -/
theorem KRow.facts (hG : ∀ lo hi p e, G lo hi p e → ltO lo hi ∧ srt e ∧ ∀ x ∈ e, okE x ∧ ins lo hi x.k) : ∀ {ks : List ByteArray} {lo hi : SB} {ps : List Nat} {ess : List (List En)}, KRow G ks lo hi ps ess →
    ltO lo hi ∧ srt ess.flatten ∧ (∀ x ∈ ess.flatten, okE x ∧ ins lo hi x.k) ∧ ∀ k ∈ ks, okK k = true
  | [], _, _, _, _, h => by
    obtain ⟨p, e, rfl, rfl, h⟩ := h
    have := hG _ _ _ _ h
    refine ⟨this.1, ?_, ?_, by simp⟩
    · simpa using this.2.1
    · simpa using this.2.2
  | k :: ks, lo, hi, _, _, h => by
    obtain ⟨p, ps', e, ess', rfl, rfl, h1, h3, h⟩ := h
    have a := hG _ _ _ _ h1
    have b := KRow.facts hG h
    refine ⟨ltO_trans a.1 b.1, ?_, ?_, ?_⟩
    · rw [List.flatten_cons]
      unfold srt
      rw [List.pairwise_append]
      refine ⟨a.2.1, b.2.1, fun x hx y hy => ?_⟩
      have h5 := (a.2.2 x hx).2.2
      have h6 := (b.2.2.1 y hy).2.1
      exact ble_lt h5 h6
    · intro x hx
      rw [List.flatten_cons, List.mem_append] at hx
      rcases hx with hx | hx
      · exact ⟨(a.2.2 x hx).1, ins_left (a.2.2 x hx).2 b.1⟩
      · exact ⟨(b.2.2.1 x hx).1, ins_right (b.2.2.1 x hx).2 a.1⟩
    · intro x hx
      rcases List.mem_cons.1 hx with rfl | hx
      · exact h3
      · exact b.2.2.2 x hx
theorem KRow.count {m : Nat} (hG : ∀ lo hi p e, G lo hi p e → m ≤ e.length) : ∀ {ks : List ByteArray} {lo hi : SB} {ps : List Nat} {ess : List (List En)}, KRow G ks lo hi ps ess → m * (ks.length + 1) ≤ ess.flatten.length
  | [], _, _, _, _, h => by
    obtain ⟨p, e, rfl, rfl, h⟩ := h
    have := hG _ _ _ _ h
    simpa using this
  | k :: ks, lo, hi, _, _, h => by
    obtain ⟨p, ps', e, ess', rfl, rfl, h1, h3, h⟩ := h
    have a := hG _ _ _ _ h1
    have b := KRow.count hG h
    rw [List.flatten_cons, List.length_append, List.length_cons, Nat.mul_add, Nat.mul_one]; omega
theorem KRow.keys (hG : ∀ lo hi p e, G lo hi p e → ltO lo hi ∧ srt e ∧ ∀ x ∈ e, okE x ∧ ins lo hi x.k) {ks : List ByteArray} {lo hi : SB} {ps : List Nat} {ess : List (List En)} (h : KRow G ks lo hi ps ess) : keysF ks := fun i hi => by
  have hk := (h.split hi).2.1
  refine ⟨hk, ?_⟩
  unfold lastK
  by_cases h0 : i = 0
  · rw [if_pos h0]; exact blt_empty (okK_size hk).1
  · rw [if_neg h0]
    have h1 := (h.split (i := i - 1) (by omega)).2.2
    rw [show i - 1 + 1 = i by omega, sa_drop ks i hi] at h1
    obtain ⟨p, ps', e, ess', _, _, h2, _, _⟩ := h1
    exact (hG _ _ _ _ h2).1
/-- The kid on a key's way. -/
theorem KRow.way (hG : ∀ lo hi p e, G lo hi p e → ltO lo hi ∧ srt e ∧ ∀ x ∈ e, okE x ∧ ins lo hi x.k) {ks : List ByteArray} {lo hi : SB} {ps : List Nat} {ess : List (List En)} (h : KRow G ks lo hi ps ess) {key : ByteArray} (hk : ins lo hi key) :
    ins (lob lo ks (wayS ks key)) (hib hi ks (wayS ks key)) key ∧ (∀ x ∈ (ess.take (wayS ks key)).flatten, blt x.k key = true) ∧ (∀ x ∈ (ess.drop (wayS ks key + 1)).flatten, blt key x.k = true) := by
  have hw := wayS_le ks key
  refine ⟨⟨?_, ?_⟩, ?_, ?_⟩
  · unfold lob
    by_cases h0 : wayS ks key = 0
    · rw [if_pos h0]; exact hk.1
    · rw [if_neg h0]; exact wayS_lt ks key _ (by omega)
  · unfold hib
    by_cases h0 : wayS ks key < ks.length
    · rw [if_pos h0]; exact wayS_at ks key h0
    · rw [if_neg h0]; exact hk.2
  · intro x hx
    cases h0 : wayS ks key with
    | zero => rw [h0] at hx; simp at hx
    | succ i =>
      rw [h0] at hx
      have h1 := (h.split (i := i) (by omega)).1
      have h2 := (h1.facts hG).2.2.1 x hx
      have h3 : blt key (sa ks i) = false := wayS_lt ks key i (by omega)
      exact ble_lt h2.2.2 h3
  · intro x hx
    rcases Nat.lt_or_ge (wayS ks key) ks.length with h0 | h0
    · have h1 := (h.split h0).2.2
      have h2 := (h1.facts hG).2.2.1 x hx
      exact ble_lt (wayS_at ks key h0) h2.2.1
    · rw [List.drop_of_length_le (by have := h.len; omega)] at hx
      simp at hx
end

/-! ### Trees with the pages on which their nodes lie (0: nowhere) -/
inductive Tr where
  | leaf (pg : Nat) (cs : List En)
  | bran (pg : Nat) (ks : List ByteArray) (ts : List Tr)
def Tr.pg : Tr → Nat
  | .leaf pg _ => pg
  | .bran pg _ _ => pg
def Tr.sz : Tr → Nat
  | .leaf _ cs => leafSz cs
  | .bran _ ks _ => brSz ks
def Tr.kids : Tr → List Tr
  | .leaf _ _ => []
  | .bran _ _ ts => ts
mutual
/-- All entries. -/
def Tr.es : Tr → List En
  | .leaf _ cs => cs
  | .bran _ _ ts => esL ts
def esL : List Tr → List En
  | [] => []
  | t :: r => t.es ++ esL r
end
mutual
/-- The pages of nodes. -/
def Tr.pgs : Tr → List Nat
  | .leaf pg _ => if pg = 0 then [] else [pg]
  | .bran pg _ ts => (if pg = 0 then [] else [pg]) ++ pgsL ts
def pgsL : List Tr → List Nat
  | [] => []
  | t :: r => t.pgs ++ pgsL r
end
mutual
/-- How many nodes lie nowhere. -/
def Tr.nw : Tr → Nat
  | .leaf pg _ => if pg = 0 then 1 else 0
  | .bran pg _ ts => (if pg = 0 then 1 else 0) + nwL ts
def nwL : List Tr → Nat
  | [] => 0
  | t :: r => t.nw + nwL r
end
mutual
/-- Of each node that lies somewhere. -/
def Tr.on (Q : Tr → Prop) : Tr → Prop
  | .leaf pg cs => pg ≠ 0 → Q (.leaf pg cs)
  | .bran pg ks ts => (pg ≠ 0 → Q (.bran pg ks ts)) ∧ onL Q ts
def onL (Q : Tr → Prop) : List Tr → Prop
  | [] => True
  | t :: r => t.on Q ∧ onL Q r
end
theorem esL_flat : ∀ ts, esL ts = (ts.map Tr.es).flatten
  | [] => by simp [esL]
  | t :: r => by rw [esL, esL_flat r]; simp
theorem esL_app (a b : List Tr) : esL (a ++ b) = esL a ++ esL b := by rw [esL_flat, esL_flat, esL_flat, List.map_append, List.flatten_append]
theorem esL_one (t : Tr) : esL [t] = t.es := by simp [esL]
theorem pgsL_app : ∀ (a b : List Tr), pgsL (a ++ b) = pgsL a ++ pgsL b
  | [], b => by simp [pgsL]
  | t :: r, b => by rw [List.cons_append, pgsL, pgsL, pgsL_app r b, List.append_assoc]
theorem nwL_app : ∀ (a b : List Tr), nwL (a ++ b) = nwL a + nwL b
  | [], b => by simp [nwL]
  | t :: r, b => by rw [List.cons_append, nwL, nwL, nwL_app r b]; omega
theorem onL_app {Q : Tr → Prop} : ∀ (a b : List Tr), onL Q (a ++ b) ↔ onL Q a ∧ onL Q b
  | [], b => by simp [onL]
  | t :: r, b => by rw [List.cons_append, onL, onL, onL_app r b, and_assoc]
theorem onL_one {Q : Tr → Prop} (t : Tr) : onL Q [t] ↔ t.on Q := by simp [onL]
theorem Tr.es_kids (t : Tr) (pg : Nat) (ks : List ByteArray) (ts : List Tr) (h : t = .bran pg ks ts) : t.es = esL ts := by rw [h, Tr.es]
theorem Tr.pgs_eq (t : Tr) : t.pgs = (if t.pg = 0 then [] else [t.pg]) ++ pgsL t.kids := by
  cases t with
  | leaf pg cs => rw [Tr.pgs, Tr.kids, pgsL, List.append_nil]; rfl
  | bran pg ks ts => rw [Tr.pgs]; rfl
theorem Tr.nw_eq (t : Tr) : t.nw = (if t.pg = 0 then 1 else 0) + nwL t.kids := by
  cases t with
  | leaf pg cs => rw [Tr.nw, Tr.kids, nwL, Nat.add_zero]; rfl
  | bran pg ks ts => rw [Tr.nw]; rfl
theorem Tr.on_kids {Q : Tr → Prop} (t : Tr) (h : t.on Q) : onL Q t.kids := by
  cases t with
  | leaf pg cs => simp [Tr.kids, onL]
  | bran pg ks ts => rw [Tr.on] at h; exact h.2
theorem Tr.on_new {Q : Tr → Prop} (t : Tr) (h : t.pg = 0) (h2 : onL Q t.kids) : t.on Q := by
  cases t with
  | leaf pg cs => rw [Tr.on]; intro h3; exact absurd h h3
  | bran pg ks ts => rw [Tr.on]; exact ⟨fun h3 => absurd h h3, h2⟩
/-- What lies somewhere comes from there; of what does not there are so many more at most. -/
structure Fr (a b : List Tr) (n : Nat) : Prop where
  pg : ∀ p, (pgsL b).count p ≤ (pgsL a).count p
  nw : nwL b ≤ nwL a + n
  on : ∀ Q, onL Q a → onL Q b
theorem Fr.refl (a : List Tr) : Fr a a 0 := ⟨fun _ => Nat.le_refl _, Nat.le_refl _, fun _ h => h⟩
theorem Fr.trans {a b c : List Tr} {n m : Nat} (h : Fr a b n) (k : Fr b c m) : Fr a c (n + m) := ⟨fun p => Nat.le_trans (k.pg p) (h.pg p), by have := h.nw; have := k.nw; omega, fun Q q => k.on Q (h.on Q q)⟩
theorem Fr.mono {a b : List Tr} {n m : Nat} (h : Fr a b n) (hn : n ≤ m) : Fr a b m := ⟨h.pg, by have := h.nw; omega, h.on⟩
theorem Fr.app {a b a2 b2 : List Tr} {n m : Nat} (h : Fr a b n) (k : Fr a2 b2 m) : Fr (a ++ a2) (b ++ b2) (n + m) :=
  ⟨fun p => by rw [pgsL_app, pgsL_app, List.count_append, List.count_append]; exact Nat.add_le_add (h.pg p) (k.pg p), by rw [nwL_app, nwL_app]; have := h.nw; have := k.nw; omega, fun Q q => by rw [onL_app] at q ⊢; exact ⟨h.on Q q.1, k.on Q q.2⟩⟩
/-- The kids of a node come from it. -/
theorem Fr.kids (t : Tr) : Fr [t] t.kids 0 := by
  refine ⟨fun p => ?_, ?_, fun Q q => ?_⟩
  · rw [pgsL, pgsL, List.append_nil, Tr.pgs_eq, List.count_append]; omega
  · rw [nwL, nwL, Nat.add_zero, Tr.nw_eq]; omega
  · rw [onL_one] at q; exact t.on_kids q
/-- A new node over kids. -/
theorem Fr.new {a : List Tr} {t : Tr} {n : Nat} (h : Fr a t.kids n) (h0 : t.pg = 0) : Fr a [t] (n + 1) := by
  refine ⟨fun p => ?_, ?_, fun Q q => ?_⟩
  · rw [pgsL, pgsL, List.append_nil, Tr.pgs_eq, if_pos h0, List.nil_append]; exact h.pg p
  · rw [nwL, nwL, Nat.add_zero, Tr.nw_eq, if_pos h0]; have := h.nw; omega
  · rw [onL_one]; exact t.on_new h0 (h.on Q q)
/-- The kids of a new node. -/
theorem nw_new {t : Tr} (h0 : t.pg = 0) : t.nw = nwL t.kids + 1 := by rw [Tr.nw_eq, if_pos h0]; omega
end Go.Proofs.YtbgkjniagedcnaaGreatDoor
