/-
  Forks and loads of branches, as functions on lists: what both sides answer, and what the laws ask of it. No program.
-/
import Derived.Test.YtmcbdkmpelkemaaDoorKeysMathZ
import Derived.Test.YtmcbdkmpelkemaaDoorTextsZ
namespace Go.Proofs.YtmcbdkmpelkemaaDoor
open Go Go.RowKit

/-- The key ahead of a place, or the empty text. -/
def lastK (ks : List ByteArray) (k : Nat) : ByteArray := if k = 0 then ByteArray.empty else sa ks (k - 1)
/-- May the first k keys be, the first k pages? -/
def keysTo (ks : List ByteArray) (k : Nat) : Prop := ∀ i, i < k → okK (sa ks i) = true ∧ blt (lastK ks i) (sa ks i) = true
def freshAt (is : List Int) (i : Nat) : Prop := ∀ j, j < i → ia is j ≠ ia is i
def pagesTo (is : List Int) (k : Nat) : Prop := ∀ i, i < k → (2 ≤ ia is i ∧ ia is i ≤ 1023) ∧ freshAt is i
def keysF (ks : List ByteArray) : Prop := keysTo ks ks.length
def pagesF (is : List Int) : Prop := pagesTo is is.length
def mayF (ks : List ByteArray) (is : List Int) : Prop := keysF ks ∧ pagesF is ∧ 1 ≤ ks.length ∧ is.length = ks.length + 1
theorem okK_size {k : ByteArray} (h : okK k = true) : 1 ≤ k.size ∧ k.size ≤ 40 := by
  unfold okK at h; simp at h; exact h
theorem blt_empty {k : ByteArray} (h : 1 ≤ k.size) : blt ByteArray.empty k = true := by
  rw [blt_iff]
  have e := bl_size k
  show [] < bl k
  cases h2 : bl k with
  | nil => rw [h2] at e; simp at e; omega
  | cons x r => exact List.nil_lt_cons x r
theorem blt_none {k : ByteArray} (h : k.size = 0) : blt ByteArray.empty k = false := by
  rw [empty_of k h]; exact blt_self _
theorem keysTo_succ {ks : List ByteArray} {k : Nat} (h : keysTo ks k) (h1 : okK (sa ks k) = true) (h2 : blt (lastK ks k) (sa ks k) = true) : keysTo ks (k + 1) := fun i hi => by
  rcases Nat.lt_or_ge i k with h3 | h3
  · exact h i h3
  · obtain rfl : i = k := by omega
    exact ⟨h1, h2⟩
theorem pagesTo_succ {is : List Int} {k : Nat} (h : pagesTo is k) (h1 : 2 ≤ ia is k ∧ ia is k ≤ 1023) (h2 : freshAt is k) : pagesTo is (k + 1) := fun i hi => by
  rcases Nat.lt_or_ge i k with h3 | h3
  · exact h i h3
  · obtain rfl : i = k := by omega
    exact ⟨h1, h2⟩
theorem not_keys {ks : List ByteArray} {k : Nat} (hk : k < ks.length) (h : okK (sa ks k) = false ∨ blt (lastK ks k) (sa ks k) = false) : ¬ keysF ks := fun ha => by
  have := ha k hk
  rcases h with h | h
  · rw [h] at this; cases this.1
  · rw [h] at this; cases this.2
theorem not_pages {is : List Int} {k : Nat} (hk : k < is.length) (h : ¬ (2 ≤ ia is k ∧ ia is k ≤ 1023) ∨ ¬ freshAt is k) : ¬ pagesF is := fun ha => by
  have := ha k hk
  rcases h with h | h
  · exact h this.1
  · exact h this.2
theorem lastK_succ (ks : List ByteArray) (k : Nat) : lastK ks (k + 1) = sa ks k := by
  unfold lastK; rw [if_neg (by omega), Nat.add_sub_cancel]
/-- The keys ascend. -/
theorem keys_asc {ks : List ByteArray} (h : keysF ks) (i : Nat) (h0 : 0 < i) (hi : i < ks.length) : blt (sa ks (i - 1)) (sa ks i) = true := by
  have := (h i hi).2
  unfold lastK at this; rwa [if_neg (by omega)] at this
theorem keys_lt {ks : List ByteArray} (h : keysF ks) : ∀ (j i : Nat), i < j → j < ks.length → blt (sa ks i) (sa ks j) = true
  | 0, i, h1, _ => by omega
  | j + 1, i, h1, hj => by
    have h2 := keys_asc h (j + 1) (by omega) hj
    rw [Nat.add_sub_cancel] at h2
    rcases Nat.lt_or_ge i j with h3 | h3
    · exact blt_trans (keys_lt h j i h3 (by omega)) h2
    · obtain rfl : i = j := by omega
      exact h2

/-! ### Loads -/
/-- A page's bytes; a key's and its page's; those of the first k. -/
def twoP (p : Int) : List Nat := [p.toNat / 256 % 256, p.toNat % 256]
def pcF (k : ByteArray) (p : Int) : List Nat := vb k.size ++ (bn k ++ twoP p)
def putF (ks : List ByteArray) (is : List Int) : Nat → List Nat
  | 0 => twoP (ia is 0)
  | k + 1 => putF ks is k ++ pcF (sa ks k) (ia is (k + 1))
def forkS (ks : List ByteArray) (is : List Int) : List Nat := putF ks is ks.length
theorem twoP_b8 (p : Int) : B8 (twoP p) := fun x hx => by
  unfold twoP at hx; simp at hx; omega
theorem pcF_b8 (k : ByteArray) (p : Int) : B8 (pcF k p) := (vb_b8 _).append ((bn_b8 _).append (twoP_b8 p))
theorem putF_b8 (ks : List ByteArray) (is : List Int) : ∀ k, B8 (putF ks is k)
  | 0 => twoP_b8 _
  | k + 1 => (putF_b8 ks is k).append (pcF_b8 _ _)
theorem pcF_len (k : ByteArray) (p : Int) (h : k.size ≤ 127) : (pcF k p).length = 3 + k.size := by
  have e : (vb k.size).length = 1 := vs_small (by omega)
  unfold pcF
  rw [List.length_append, List.length_append, bn_len, e]
  show 1 + (k.size + 2) = _; omega
/-- How many bytes a fork of such keys takes: its first k. -/
def sizeTo (ks : List ByteArray) : Nat → Nat
  | 0 => 2
  | k + 1 => sizeTo ks k + (3 + (sa ks k).size)
theorem putF_len {ks : List ByteArray} {is : List Int} (h : ∀ i, i < ks.length → (sa ks i).size ≤ 127) : ∀ k, k ≤ ks.length → (putF ks is k).length = sizeTo ks k
  | 0, _ => rfl
  | k + 1, hk => by
    rw [putF, List.length_append, putF_len h k (by omega), pcF_len _ _ (h k (by omega)), sizeTo]
theorem keys_small {ks : List ByteArray} (h : keysF ks) : ∀ i, i < ks.length → (sa ks i).size ≤ 127 := fun i hi => by
  have := okK_size (h i hi).1; omega
theorem fork_len {ks : List ByteArray} {is : List Int} (h : keysF ks) : (forkS ks is).length = sizeTo ks ks.length := putF_len (keys_small h) _ (Nat.le_refl _)
theorem sizeTo_le {ks : List ByteArray} (h : keysF ks) : ∀ k, k ≤ ks.length → sizeTo ks k ≤ 2 + 43 * k
  | 0, _ => by rw [sizeTo]; omega
  | k + 1, hk => by
    have := okK_size (h k (by omega)).1
    have := sizeTo_le h k (by omega)
    rw [sizeTo]; omega
theorem sizeTo_mono (ks : List ByteArray) : ∀ (m k : Nat), k ≤ m → sizeTo ks k ≤ sizeTo ks m
  | 0, k, h => by obtain rfl : k = 0 := by omega
                  exact Nat.le_refl _
  | m + 1, k, h => by
    rcases Nat.lt_or_ge k (m + 1) with h1 | h1
    · have := sizeTo_mono ks m k (by omega)
      show _ ≤ sizeTo ks m + _; omega
    · obtain rfl : k = m + 1 := by omega
      exact Nat.le_refl _
open Classical in
/-- Encode's error and its bytes. -/
noncomputable def encFE (ks : List ByteArray) (is : List Int) : Nat := if mayF ks is then (if (forkS ks is).length ≤ 504 then 0 else 5) else 1
noncomputable def encFB (ks : List ByteArray) (is : List Int) : List Nat := if encFE ks is = 0 then forkS ks is else []
theorem encF_1 {ks : List ByteArray} {is : List Int} (h : ¬ mayF ks is) : encFE ks is = 1 ∧ encFB ks is = [] := by
  have : encFE ks is = 1 := by unfold encFE; rw [if_neg h]
  exact ⟨this, by unfold encFB; rw [this]; rfl⟩
theorem encF_5 {ks : List ByteArray} {is : List Int} (h : mayF ks is) (h3 : 504 < (forkS ks is).length) : encFE ks is = 5 ∧ encFB ks is = [] := by
  have : encFE ks is = 5 := by unfold encFE; rw [if_pos h, if_neg (by omega)]
  exact ⟨this, by unfold encFB; rw [this]; rfl⟩
theorem encF_0 {ks : List ByteArray} {is : List Int} (h : mayF ks is) (h3 : (forkS ks is).length ≤ 504) : encFE ks is = 0 ∧ encFB ks is = forkS ks is := by
  have : encFE ks is = 0 := by unfold encFE; rw [if_pos h, if_pos h3]
  exact ⟨this, by unfold encFB; rw [this]; rfl⟩

/-! ### Decode -/
/-- The next key and its page, and what is left. -/
def pieceS (l : List Nat) : Option (ByteArray × Int × List Nat) :=
  let B := bytesS ⟨l, false⟩ 40
  if B.2.wr = true then none
  else if B.2.l.length < 2 then none else some (bstr B.1, ((B.2.l.getD 0 0 * 256 + B.2.l.getD 1 0 : Nat) : Int), B.2.l.drop 2)
theorem piece_wr {l : List Nat} (h : (bytesS ⟨l, false⟩ 40).2.wr = true) : pieceS l = none := by unfold pieceS; simp only; rw [if_pos h]
theorem piece_short {l : List Nat} (h : (bytesS ⟨l, false⟩ 40).2.l.length < 2) : pieceS l = none := by
  unfold pieceS; simp only
  by_cases hw : (bytesS ⟨l, false⟩ 40).2.wr = true
  · rw [if_pos hw]
  · rw [if_neg hw, if_pos h]
theorem piece_ok {l : List Nat} (h : (bytesS ⟨l, false⟩ 40).2.wr = false) (h2 : 2 ≤ (bytesS ⟨l, false⟩ 40).2.l.length) :
    pieceS l = some (bstr (bytesS ⟨l, false⟩ 40).1, (((bytesS ⟨l, false⟩ 40).2.l.getD 0 0 * 256 + (bytesS ⟨l, false⟩ 40).2.l.getD 1 0 : Nat) : Int), (bytesS ⟨l, false⟩ 40).2.l.drop 2) := by
  unfold pieceS; simp only
  rw [if_neg (by rw [h]; simp), if_neg (by omega)]
theorem bytesS_nil (m : Nat) (b : Bool) : bytesS ⟨[], b⟩ m = ([], ⟨[], true⟩) := bytesS_miss (fun h => by rw [numS_nil m (S := ⟨[], b⟩) rfl] at h; cases h.1)
theorem piece_nil : pieceS [] = none := piece_wr (by rw [bytesS_nil])
theorem bytesS_left {S : RS} {m : Nat} (h : (bytesS S m).2.wr = false) : (bytesS S m).2.l.length < S.l.length := by
  obtain ⟨h1, h2, e⟩ := bytesS_ok h
  obtain ⟨e2, h3, _⟩ := numS_ok h1
  have hl := gt_len S.l h3
  rw [e]
  show (List.drop _ _).length < _
  rw [List.length_drop, e2]
  show (List.drop _ _).length - _ < _
  rw [List.length_drop]
  omega
theorem piece_lt {l r : List Nat} {k : ByteArray} {p : Int} (h : pieceS l = some (k, p, r)) : r.length + 2 < l.length := by
  cases hw : (bytesS ⟨l, false⟩ 40).2.wr with
  | true => rw [piece_wr hw] at h; cases h
  | false =>
    rcases Nat.lt_or_ge (bytesS ⟨l, false⟩ 40).2.l.length 2 with h2 | h2
    · rw [piece_short h2] at h; cases h
    · rw [piece_ok hw h2] at h
      cases h
      have := bytesS_left hw
      rw [List.length_drop]
      show _ < l.length
      have h3 : (bytesS ⟨l, false⟩ 40).2.l.length < l.length := this
      omega
theorem piece_ext {l r : List Nat} {k : ByteArray} {p : Int} (x : List Nat) (h : pieceS l = some (k, p, r)) : pieceS (l ++ x) = some (k, p, r ++ x) := by
  cases hw : (bytesS ⟨l, false⟩ 40).2.wr with
  | true => rw [piece_wr hw] at h; cases h
  | false =>
    rcases Nat.lt_or_ge (bytesS ⟨l, false⟩ 40).2.l.length 2 with h2 | h2
    · rw [piece_short h2] at h; cases h
    · rw [piece_ok hw h2] at h
      have e1 := bytesS_ext x false hw
      simp only at e1
      rw [piece_ok (by rw [e1]) (by rw [e1]; show 2 ≤ (_ ++ x).length; rw [List.length_append]; omega), e1]
      simp only
      cases h
      rw [List.drop_append_of_le_length h2, getD_app _ _ _ (by omega), getD_app _ _ _ (by omega)]
theorem piece_put {k : ByteArray} {p : Int} (hk : okK k = true) (hp : 2 ≤ p ∧ p ≤ 1023) (r : List Nat) : pieceS (pcF k p ++ r) = some (k, p, r) := by
  have h1 := okK_size hk
  have e : pcF k p ++ r = vb (bn k).length ++ (bn k ++ (twoP p ++ r)) := by
    unfold pcF; rw [bn_len]; simp only [List.append_assoc]
  have e1 := bytesS_put (bn k) (twoP p ++ r) false 40 (by rw [bn_len]; omega) (by rw [bn_len]; omega)
  rw [e, piece_ok (by rw [e1]) (by rw [e1]; show 2 ≤ (twoP p ++ r).length; rw [List.length_append]; show 2 ≤ 2 + _; omega), e1]
  simp only
  have e3 : ((twoP p ++ r).getD 0 0 * 256 + (twoP p ++ r).getD 1 0 : Nat) = p.toNat := by
    show p.toNat / 256 % 256 * 256 + p.toNat % 256 = _; omega
  have e4 : ((p.toNat : Nat) : Int) = p := by omega
  rw [e3, e4, bstr_bn]
  rfl
theorem piece_half {k : ByteArray} (hk : okK k = true) (x : Nat) : pieceS (vb k.size ++ (bn k ++ [x])) = none := by
  have h1 := okK_size hk
  have e1 := bytesS_put (bn k) [x] false 40 (by rw [bn_len]; omega) (by rw [bn_len]; omega)
  rw [bn_len] at e1
  exact piece_short (by rw [e1]; show 1 < 2; omega)
/-- All of the keys and pages, with so much fuel. -/
def decF : Nat → List Nat → Option (List ByteArray × List Int)
  | 0, l => if l = [] then some ([], []) else none
  | f + 1, l => if l = [] then some ([], []) else match pieceS l with
    | none => none
    | some (k, p, r) => (decF f r).map fun x => (k :: x.1, p :: x.2)
theorem decF_nil (f : Nat) : decF f [] = some ([], []) := by cases f <;> rfl
theorem decF_fuel : ∀ (f g : Nat) (l : List Nat), l.length ≤ f → l.length ≤ g → decF f l = decF g l
  | 0, g, l, hf, _ => by
    obtain rfl : l = [] := List.eq_nil_of_length_eq_zero (by omega)
    rw [decF_nil, decF_nil]
  | f + 1, 0, l, _, hg => by
    obtain rfl : l = [] := List.eq_nil_of_length_eq_zero (by omega)
    rw [decF_nil, decF_nil]
  | f + 1, g + 1, l, hf, hg => by
    rw [decF, decF]
    split
    · rfl
    · cases h : pieceS l with
      | none => rfl
      | some x =>
        obtain ⟨k, p, r⟩ := x
        have := piece_lt h
        simp only
        rw [decF_fuel f g r (by omega) (by omega)]
def decR (l : List Nat) : Option (List ByteArray × List Int) := decF l.length l
theorem decR_nil : decR [] = some ([], []) := rfl
theorem decR_none {l : List Nat} (h0 : l ≠ []) (h : pieceS l = none) : decR l = none := by
  unfold decR
  cases hl : l.length with
  | zero => exact absurd (List.eq_nil_of_length_eq_zero hl) h0
  | succ f => rw [decF, if_neg h0, h]
theorem decR_step {l r : List Nat} {k : ByteArray} {p : Int} (h : pieceS l = some (k, p, r)) : decR l = (decR r).map fun x => (k :: x.1, p :: x.2) := by
  have hlt := piece_lt h
  unfold decR
  cases hl : l.length with
  | zero => omega
  | succ f =>
    have h0 : l ≠ [] := fun e => by rw [e] at hl; cases hl
    rw [decF, if_neg h0, h]
    simp only
    rw [decF_fuel f r.length r (by omega) (Nat.le_refl _)]
theorem decR_app (n : Nat) : ∀ (l m : List Nat) (x : List ByteArray × List Int), l.length ≤ n → decR l = some x → decR (l ++ m) = (decR m).map fun y => (x.1 ++ y.1, x.2 ++ y.2) := by
  induction n with
  | zero =>
    intro l m x hl h
    obtain rfl : l = [] := List.eq_nil_of_length_eq_zero (by omega)
    rw [decR_nil] at h
    cases h
    rw [List.nil_append]
    cases decR m <;> rfl
  | succ n ih =>
    intro l m x hl h
    by_cases h0 : l = []
    · subst h0
      rw [decR_nil] at h
      cases h
      rw [List.nil_append]
      cases decR m <;> rfl
    · cases hp : pieceS l with
      | none => rw [decR_none h0 hp] at h; cases h
      | some y =>
        obtain ⟨k, p, r⟩ := y
        have hlt := piece_lt hp
        rw [decR_step hp] at h
        cases hr : decR r with
        | none => rw [hr] at h; cases h
        | some z =>
          rw [hr] at h
          cases h
          rw [decR_step (piece_ext m hp), ih r m z (by omega) hr]
          cases decR m <;> rfl
/-- No more keys than bytes. -/
theorem decR_count (n : Nat) : ∀ (l : List Nat) (x : List ByteArray × List Int), l.length ≤ n → decR l = some x → x.1.length ≤ l.length := by
  induction n with
  | zero =>
    intro l x hl h
    obtain rfl : l = [] := List.eq_nil_of_length_eq_zero (by omega)
    rw [decR_nil] at h
    cases h; simp
  | succ n ih =>
    intro l x hl h
    by_cases h0 : l = []
    · subst h0
      rw [decR_nil] at h
      cases h; simp
    · cases hp : pieceS l with
      | none => rw [decR_none h0 hp] at h; cases h
      | some y =>
        obtain ⟨k, p, r⟩ := y
        have hlt := piece_lt hp
        rw [decR_step hp] at h
        cases hr : decR r with
        | none => rw [hr] at h; cases h
        | some z =>
          rw [hr] at h
          cases h
          have := ih r z (by omega) hr
          simp only [List.length_cons]
          omega
def firstP (l : List Nat) : Int := ((l.getD 0 0 * 256 + l.getD 1 0 : Nat) : Int)
open Classical in
/-- Decode's fork, if the bytes are a load. -/
noncomputable def decFS (l : List Nat) : Option (List ByteArray × List Int) :=
  if 504 < l.length ∨ l.length < 2 then none else match decR (l.drop 2) with
    | none => none
    | some (ks, ps) => if mayF ks (firstP l :: ps) then some (ks, firstP l :: ps) else none
theorem decFS_out {l : List Nat} (h : 504 < l.length ∨ l.length < 2) : decFS l = none := by unfold decFS; rw [if_pos h]
theorem decFS_none {l : List Nat} (h : decR (l.drop 2) = none) : decFS l = none := by
  unfold decFS; rw [h]; split <;> rfl
theorem decFS_not {l : List Nat} {ks : List ByteArray} {ps : List Int} (h : decR (l.drop 2) = some (ks, ps)) (hm : ¬ mayF ks (firstP l :: ps)) : decFS l = none := by
  unfold decFS; rw [h]; simp only; rw [if_neg hm]; split <;> rfl
theorem decFS_some {l : List Nat} {ks : List ByteArray} {ps : List Int} (h1 : l.length ≤ 504) (h2 : 2 ≤ l.length) (h : decR (l.drop 2) = some (ks, ps)) (hm : mayF ks (firstP l :: ps)) : decFS l = some (ks, firstP l :: ps) := by
  unfold decFS; rw [if_neg (by omega), h]; simp only; rw [if_pos hm]
theorem decFS_may {l : List Nat} {x : List ByteArray × List Int} (h : decFS l = some x) : mayF x.1 x.2 := by
  unfold decFS at h
  split at h
  · cases h
  split at h
  · cases h
  split at h
  · rename_i hm
    cases h; exact hm
  · cases h
/-- Decode's keys, pages and its error. -/
noncomputable def decFK (l : List Nat) : List ByteArray := match decFS l with
  | none => []
  | some x => x.1
noncomputable def decFI (l : List Nat) : List Int := match decFS l with
  | none => []
  | some x => x.2
noncomputable def decFE (l : List Nat) : Nat := match decFS l with
  | none => 3
  | some _ => 0
theorem decF_no {l : List Nat} (h : decFS l = none) : decFK l = [] ∧ decFI l = [] ∧ decFE l = 3 := by unfold decFK decFI decFE; rw [h]; exact ⟨rfl, rfl, rfl⟩
theorem decF_yes {l : List Nat} {ks : List ByteArray} {is : List Int} (h : decFS l = some (ks, is)) : decFK l = ks ∧ decFI l = is ∧ decFE l = 0 := by unfold decFK decFI decFE; rw [h]; exact ⟨rfl, rfl, rfl⟩

/-! ### What was encoded is decoded -/
theorem putF_two (ks : List ByteArray) (is : List Int) : ∀ k, ∃ m, putF ks is k = twoP (ia is 0) ++ m
  | 0 => ⟨[], by rw [List.append_nil]; rfl⟩
  | k + 1 => by
    obtain ⟨m, hm⟩ := putF_two ks is k
    exact ⟨m ++ pcF (sa ks k) (ia is (k + 1)), by rw [putF, hm, List.append_assoc]⟩
theorem two_drop (p : Int) (m : List Nat) : (twoP p ++ m).drop 2 = m := rfl
theorem two_first {p : Int} (h : 2 ≤ p ∧ p ≤ 1023) (m : List Nat) : firstP (twoP p ++ m) = p := by
  show ((p.toNat / 256 % 256 * 256 + p.toNat % 256 : Nat) : Int) = p; omega
theorem drop_two_app {l m : List Nat} (h : 2 ≤ l.length) : (l ++ m).drop 2 = l.drop 2 ++ m := List.drop_append_of_le_length h
theorem decR_put {ks : List ByteArray} {is : List Int} (h : mayF ks is) : ∀ k, k ≤ ks.length → decR ((putF ks is k).drop 2) = some (ks.take k, (is.drop 1).take k)
  | 0, _ => rfl
  | k + 1, hk => by
    obtain ⟨hK, hP, h1, hl⟩ := h
    have ih := decR_put ⟨hK, hP, h1, hl⟩ k (by omega)
    obtain ⟨m, hm⟩ := putF_two ks is k
    have e := piece_put (hK k (by omega)).1 (hP (k + 1) (by omega)).1 []
    rw [List.append_nil] at e
    have e2 := decR_step e
    rw [decR_nil] at e2
    rw [putF, drop_two_app (by rw [hm, List.length_append]; show 2 ≤ 2 + _; omega), decR_app _ _ _ _ (Nat.le_refl _) ih, e2]
    have e3 : (is.drop 1).take (k + 1) = (is.drop 1).take k ++ [ia is (k + 1)] := by
      rw [List.take_succ_eq_append_getElem (by rw [List.length_drop]; omega)]
      simp only [List.getElem_drop, ia, List.getD]
      rw [List.getElem?_eq_getElem (by omega)]
      simp [Nat.add_comm]
    rw [sa_take ks k (by omega), e3]
    rfl
theorem is_cons {is : List Int} (h : 1 ≤ is.length) : ia is 0 :: is.drop 1 = is := by
  cases is with
  | nil => simp at h
  | cons x r => rfl
theorem decFS_load {ks : List ByteArray} {is : List Int} (h : mayF ks is) (hl : (forkS ks is).length ≤ 504) : decFS (forkS ks is) = some (ks, is) := by
  have e := decR_put h ks.length (Nat.le_refl _)
  have h4 := h.2.2.2
  rw [List.take_of_length_le (Nat.le_refl _), List.take_of_length_le (by rw [List.length_drop]; omega)] at e
  obtain ⟨m, hm⟩ := putF_two ks is ks.length
  have hf : firstP (forkS ks is) = ia is 0 := by unfold forkS; rw [hm]; exact two_first (h.2.1 0 (by omega)).1 m
  have h2 : 2 ≤ (forkS ks is).length := by unfold forkS; rw [hm, List.length_append]; show 2 ≤ 2 + _; omega
  have hc := is_cons (is := is) (by omega)
  have := decFS_some hl h2 e (by rw [hf, hc]; exact h)
  rw [hf, hc] at this
  exact this
theorem pcF_cut (k : ByteArray) (p : Int) : (pcF k p).take ((pcF k p).length - 1) = vb k.size ++ (bn k ++ [p.toNat / 256 % 256]) := by
  have e : pcF k p = (vb k.size ++ (bn k ++ [p.toNat / 256 % 256])) ++ [p.toNat % 256] := by
    unfold pcF twoP; simp only [List.append_assoc]; rfl
  rw [e]
  rw [show ((vb k.size ++ (bn k ++ [p.toNat / 256 % 256])) ++ [p.toNat % 256]).length - 1 = (vb k.size ++ (bn k ++ [p.toNat / 256 % 256])).length by rw [List.length_append]; rfl]
  exact List.take_left
theorem pcF_pos (k : ByteArray) (p : Int) : 2 ≤ (pcF k p).length := by
  unfold pcF
  rw [List.length_append, List.length_append]
  show 2 ≤ _ + (_ + 2); omega
theorem decFS_cut {ks : List ByteArray} {is : List Int} (h : mayF ks is) : decFS ((forkS ks is).take ((forkS ks is).length - 1)) = none := by
  obtain ⟨n, hn⟩ : ∃ n, ks.length = n + 1 := ⟨ks.length - 1, by have := h.2.2.1; omega⟩
  have hl := h.2.2.2
  apply decFS_none
  obtain ⟨m, hm⟩ := putF_two ks is n
  have hp := pcF_pos (sa ks n) (ia is (n + 1))
  have e : (forkS ks is).take ((forkS ks is).length - 1) = putF ks is n ++ (pcF (sa ks n) (ia is (n + 1))).take ((pcF (sa ks n) (ia is (n + 1))).length - 1) := by
    unfold forkS
    rw [hn, putF, List.length_append, List.take_append]
    rw [List.take_of_length_le (by omega)]
    congr 2
    omega
  rw [e, drop_two_app (by rw [hm, List.length_append]; show 2 ≤ 2 + _; omega), decR_app _ _ _ _ (Nat.le_refl _) (decR_put h n (by omega)), pcF_cut]
  rw [decR_none (by simp) (piece_half (h.1 n (by omega)).1 _)]
  rfl

/-! ### A key's way -/
def wayS : List ByteArray → ByteArray → Nat
  | [], _ => 0
  | c :: r, key => if blt key c = true then 0 else wayS r key + 1
theorem wayS_le : ∀ (cs : List ByteArray) (key : ByteArray), wayS cs key ≤ cs.length
  | [], _ => Nat.le_refl _
  | c :: r, key => by
    have := wayS_le r key
    unfold wayS
    split
    · exact Nat.zero_le _
    · rw [List.length_cons]; omega
theorem wayS_lt : ∀ (cs : List ByteArray) (key : ByteArray) (i : Nat), i < wayS cs key → blt key (sa cs i) = false
  | [], _, i, h => by simp [wayS] at h
  | c :: r, key, i, h => by
    unfold wayS at h
    split at h
    · omega
    · rename_i h1
      cases i with
      | zero => show blt key c = false; simpa using h1
      | succ i => exact wayS_lt r key i (by omega)
theorem wayS_at : ∀ (cs : List ByteArray) (key : ByteArray), wayS cs key < cs.length → blt key (sa cs (wayS cs key)) = true
  | [], _, h => by simp at h
  | c :: r, key, h => by
    unfold wayS at h ⊢
    split
    · rename_i h1
      exact h1
    · rename_i h1
      rw [if_neg h1, List.length_cons] at h
      exact wayS_at r key (by omega)
theorem wayS_ge {cs : List ByteArray} (ha : keysF cs) (key : ByteArray) (i : Nat) (hi : wayS cs key ≤ i) (hl : i < cs.length) : blt key (sa cs i) = true := by
  have h1 := wayS_at cs key (by omega)
  rcases Nat.lt_or_ge (wayS cs key) i with h2 | h2
  · exact blt_trans h1 (keys_lt ha i _ h2 hl)
  · obtain rfl : i = wayS cs key := by omega
    exact h1
end Go.Proofs.YtmcbdkmpelkemaaDoor
