/-
  Cells and loads of leaves, as functions on lists: what both sides answer, and what the laws ask of it. No program.
-/
import Derived.Test.YthkephndhhhacaaDoorPackMath
import Derived.Test.YthkephndhhhacaaDoorKeysMath
import Derived.Test.YthkephndhhhacaaDoorMath2
namespace Go.Proofs.YthkephndhhhacaaDoor
open Go Go.RowKit

/-! ### A text's bytes -/
def bn (s : ByteArray) : List Nat := (bl s).map UInt8.toNat
theorem bl_size (s : ByteArray) : (bl s).length = s.size := by
  show s.data.toList.length = s.data.size; simp
theorem bn_len (s : ByteArray) : (bn s).length = s.size := by unfold bn; rw [List.length_map, bl_size]
theorem bn_b8 (s : ByteArray) : B8 (bn s) := fun x hx => by
  unfold bn at hx
  obtain ⟨y, _, rfl⟩ := List.mem_map.1 hx
  exact UInt8.toNat_lt y
theorem bstr_data (l : List Nat) : bl (bstr l) = l.map fun x => UInt8.ofNat x := by
  unfold bstr
  rw [show bl (strOfNums (l.map fun x : Nat => (x : Int))) = (strOfNums (l.map fun x : Nat => (x : Int))).data.toList from rfl, strOfNums_data, List.map_map]
  apply List.map_congr_left
  intro x _
  simp
theorem bstr_bn (s : ByteArray) : bstr (bn s) = s := by
  apply bl_inj
  rw [bstr_data]
  unfold bn
  rw [List.map_map]
  conv => rhs; rw [← List.map_id (bl s)]
  apply List.map_congr_left
  intro x _
  simp
theorem bn_bstr {l : List Nat} (h : B8 l) : bn (bstr l) = l := by
  unfold bn
  rw [bstr_data, List.map_map]
  conv => rhs; rw [← List.map_id l]
  apply List.map_congr_left
  intro x hx
  have := h x hx
  simp [Nat.mod_eq_of_lt this]

/-! ### Cells -/
structure Ce where
  k : ByteArray
  v : ByteArray
  n : Int
  p : Int
instance : Inhabited Ce := ⟨⟨ByteArray.empty, ByteArray.empty, 0, 0⟩⟩
/-- The cell at a place. -/
def ca (cs : List Ce) (i : Nat) : Ce := cs.getD i default
def plB (c : Ce) : Bool := if c.n ≤ 64 then decide ((c.v.size : Int) = c.n ∧ c.p = 0) else decide (c.v.size = 0 ∧ 2 ≤ c.p ∧ c.p ≤ 1023)
def mayB (c : Ce) : Bool := okK c.k && (decide (c.n ≤ 2048) && plB c)
theorem may_n0 {c : Ce} (h : mayB c = true) : 0 ≤ c.n := by
  unfold mayB plB at h
  by_cases h1 : c.n ≤ 64
  · simp [h1] at h; omega
  · omega
theorem may_n {c : Ce} (h : mayB c = true) : c.n ≤ 2048 := by
  unfold mayB at h; simp at h; exact h.2.1
theorem may_k {c : Ce} (h : mayB c = true) : 1 ≤ c.k.size ∧ c.k.size ≤ 40 := by
  unfold mayB okK at h; simp at h; exact h.1
theorem may_in {c : Ce} (h : mayB c = true) (h1 : c.n ≤ 64) : (c.v.size : Int) = c.n ∧ c.p = 0 := by
  unfold mayB plB at h; simp [h1] at h; exact h.2.2
theorem may_out {c : Ce} (h : mayB c = true) (h1 : ¬ c.n ≤ 64) : c.v.size = 0 ∧ 2 ≤ c.p ∧ c.p ≤ 1023 := by
  unfold mayB plB at h; simp [h1] at h; exact ⟨by rw [h.2.2.1]; rfl, h.2.2.2⟩
def tailS (c : Ce) : List Nat := if c.n ≤ 64 then bn c.v else [c.p.toNat / 256 % 256, c.p.toNat % 256]
/-- A cell's bytes. -/
def oneS (c : Ce) : List Nat := vb c.k.size ++ (bn c.k ++ (vb c.n.toNat ++ tailS c))
def sizeS (k : ByteArray) (n : Int) : Nat := vs k.size + k.size + vs n.toNat + (if n ≤ 64 then n.toNat else 2)
theorem one_len {c : Ce} (h : mayB c = true) : (oneS c).length = sizeS c.k c.n := by
  have e1 : (vb c.k.size).length = vs c.k.size := rfl
  have e2 : (vb c.n.toNat).length = vs c.n.toNat := rfl
  unfold oneS sizeS tailS
  rw [List.length_append, List.length_append, List.length_append, bn_len, e1, e2]
  by_cases h1 : c.n ≤ 64
  · have := may_in h h1
    rw [if_pos h1, if_pos h1, bn_len]; omega
  · rw [if_neg h1, if_neg h1]; simp; omega
theorem tail_b8 (c : Ce) : B8 (tailS c) := by
  unfold tailS
  split
  · exact bn_b8 _
  · intro x hx; simp at hx; omega
theorem one_b8 (c : Ce) : B8 (oneS c) := (vb_b8 _).append ((bn_b8 _).append ((vb_b8 _).append (tail_b8 c)))
theorem one_pos (c : Ce) : 1 ≤ (oneS c).length := by
  have e1 : (vb c.k.size).length = vs c.k.size := rfl
  have := vs_pos c.k.size
  unfold oneS
  rw [List.length_append]; omega
theorem size_le {c : Ce} (h : mayB c = true) : sizeS c.k c.n ≤ 124 := by
  have := may_k h
  have := may_n h
  have h0 := may_n0 h
  have h1 : vs c.k.size ≤ 10 := vs_le (by omega)
  have h2 : vs c.n.toNat ≤ 10 := vs_le (by omega)
  unfold sizeS
  split <;> omega
def body : List Ce → List Nat
  | [] => []
  | c :: r => oneS c ++ body r
theorem body_snoc (cs : List Ce) (c : Ce) : body (cs ++ [c]) = body cs ++ oneS c := by
  induction cs with
  | nil => simp [body]
  | cons x r ih => rw [List.cons_append, body, ih, body, List.append_assoc]
theorem body_b8 : ∀ cs : List Ce, B8 (body cs)
  | [] => B8.nil
  | c :: r => (one_b8 c).append (body_b8 r)
theorem body_pos : ∀ cs : List Ce, cs.length ≤ (body cs).length
  | [] => Nat.le_refl _
  | c :: r => by
    have := one_pos c
    have := body_pos r
    rw [body, List.length_append, List.length_cons]; omega
def loadS (cs : List Ce) : List Nat := vb cs.length ++ body cs
theorem load_b8 (cs : List Ce) : B8 (loadS cs) := (vb_b8 _).append (body_b8 cs)
theorem load_len (cs : List Ce) : (loadS cs).length = vs cs.length + (body cs).length := by
  unfold loadS; rw [List.length_append]; rfl
/-- The size of the first k cells. -/
def sums (cs : List Ce) (k : Nat) : Nat := (body (cs.take k)).length
theorem take_ca (cs : List Ce) (k : Nat) (h : k < cs.length) : cs.take (k + 1) = cs.take k ++ [ca cs k] := by
  rw [List.take_succ_eq_append_getElem h]; simp [ca, List.getD, h]
theorem body_succ (cs : List Ce) (k : Nat) (h : k < cs.length) : body (cs.take (k + 1)) = body (cs.take k) ++ oneS (ca cs k) := by
  rw [take_ca cs k h, body_snoc]
theorem sums_succ (cs : List Ce) (k : Nat) (h : k < cs.length) : sums cs (k + 1) = sums cs k + (oneS (ca cs k)).length := by
  unfold sums; rw [body_succ cs k h, List.length_append]
theorem sums_all (cs : List Ce) (k : Nat) (h : cs.length ≤ k) : sums cs k = (body cs).length := by unfold sums; rw [List.take_of_length_le h]
theorem ca_mem (cs : List Ce) (i : Nat) (h : i < cs.length) : ca cs i ∈ cs := by
  unfold ca; simp [List.getD, h]
/-- May all be? -/
def allMay (cs : List Ce) : Prop := ∀ i, i < cs.length → mayB (ca cs i) = true
/-- Do the first k keys ascend? -/
def ascTo (cs : List Ce) (k : Nat) : Prop := ∀ i, 0 < i → i < k → blt (ca cs (i - 1)).k (ca cs i).k = true
def asc (cs : List Ce) : Prop := ascTo cs cs.length
theorem ascTo_succ {cs : List Ce} {k : Nat} (h : ascTo cs k) (h1 : 0 < k → blt (ca cs (k - 1)).k (ca cs k).k = true) : ascTo cs (k + 1) := fun i h0 hi => by
  rcases Nat.lt_or_ge i k with h2 | h2
  · exact h i h0 h2
  · obtain rfl : i = k := by omega
    exact h1 h0
theorem not_asc {cs : List Ce} {k : Nat} (h0 : 0 < k) (hk : k < cs.length) (h : blt (ca cs (k - 1)).k (ca cs k).k = false) : ¬ asc cs := fun ha => by
  have := ha k h0 hk
  rw [h] at this; cases this
theorem sums_le {cs : List Ce} (h : allMay cs) (k : Nat) (hk : k ≤ cs.length) : sums cs k ≤ 124 * k := by
  induction k with
  | zero => show (body (cs.take 0)).length ≤ _; simp [body]
  | succ k ih =>
    have h1 := one_len (h k (by omega))
    have h2 := size_le (h k (by omega))
    rw [sums_succ cs k (by omega)]
    have := ih (by omega)
    omega
theorem sums_mono (cs : List Ce) (k : Nat) : sums cs k ≤ (body cs).length := by
  unfold sums
  have h := congrArg List.length (congrArg body (List.take_append_drop k cs))
  have : ∀ a b : List Ce, body (a ++ b) = body a ++ body b := fun a b => by
    induction a with
    | nil => rfl
    | cons x r ih => rw [List.cons_append, body, ih, body, List.append_assoc]
  rw [this, List.length_append] at h
  omega
open Classical in
/-- Encode's error. -/
noncomputable def encE (cs : List Ce) : Nat := if allMay cs then (if asc cs then (if (loadS cs).length ≤ 504 then 0 else 5) else 14) else 1
noncomputable def encB (cs : List Ce) : List Nat := if encE cs = 0 then loadS cs else []
theorem enc_1 {cs : List Ce} (h : ¬ allMay cs) : encE cs = 1 ∧ encB cs = [] := by
  have : encE cs = 1 := by unfold encE; rw [if_neg h]
  exact ⟨this, by unfold encB; rw [this]; rfl⟩
theorem enc_14 {cs : List Ce} (h : allMay cs) (h2 : ¬ asc cs) : encE cs = 14 ∧ encB cs = [] := by
  have : encE cs = 14 := by unfold encE; rw [if_pos h, if_neg h2]
  exact ⟨this, by unfold encB; rw [this]; rfl⟩
theorem enc_5 {cs : List Ce} (h : allMay cs) (h2 : asc cs) (h3 : 504 < (loadS cs).length) : encE cs = 5 ∧ encB cs = [] := by
  have : encE cs = 5 := by unfold encE; rw [if_pos h, if_pos h2, if_neg (by omega)]
  exact ⟨this, by unfold encB; rw [this]; rfl⟩
theorem enc_0 {cs : List Ce} (h : allMay cs) (h2 : asc cs) (h3 : (loadS cs).length ≤ 504) : encE cs = 0 ∧ encB cs = loadS cs := by
  have : encE cs = 0 := by unfold encE; rw [if_pos h, if_pos h2, if_pos h3]
  exact ⟨this, by unfold encB; rw [this]; rfl⟩
theorem encE_cases (cs : List Ce) : (encE cs = 1 ∧ encB cs = [] ∧ ¬ allMay cs) ∨ (encE cs = 14 ∧ encB cs = [] ∧ allMay cs ∧ ¬ asc cs) ∨ (encE cs = 5 ∧ encB cs = [] ∧ allMay cs ∧ asc cs ∧ 504 < (loadS cs).length) ∨ (encE cs = 0 ∧ encB cs = loadS cs ∧ allMay cs ∧ asc cs ∧ (loadS cs).length ≤ 504) := by
  by_cases h : allMay cs
  · by_cases h2 : asc cs
    · rcases Nat.lt_or_ge 504 (loadS cs).length with h3 | h3
      · exact .inr (.inr (.inl ⟨(enc_5 h h2 h3).1, (enc_5 h h2 h3).2, h, h2, h3⟩))
      · exact .inr (.inr (.inr ⟨(enc_0 h h2 h3).1, (enc_0 h h2 h3).2, h, h2, h3⟩))
    · exact .inr (.inl ⟨(enc_14 h h2).1, (enc_14 h h2).2, h, h2⟩)
  · exact .inl ⟨(enc_1 h).1, (enc_1 h).2, h⟩

/-! ### Decode -/
/-- The next cell, and what is left. -/
def cellS (l : List Nat) : Option (Ce × List Nat) :=
  let B := bytesS ⟨l, false⟩ 40
  let N := numS B.2 2048
  if N.2.wr = true then none
  else if N.1 ≤ 64 then (if N.1 ≤ N.2.l.length then some (⟨bstr B.1, bstr (N.2.l.take N.1), N.1, 0⟩, N.2.l.drop N.1) else none)
  else if 2 ≤ N.2.l.length then some (⟨bstr B.1, ByteArray.empty, N.1, (N.2.l.getD 0 0 * 256 + N.2.l.getD 1 0 : Nat)⟩, N.2.l.drop 2) else none
/-- That many cells. -/
def decN : Nat → List Nat → Option (List Ce × List Nat)
  | 0, l => some ([], l)
  | n + 1, l => match decN n l with
    | none => none
    | some (cs, r) => match cellS r with
      | none => none
      | some (c, r2) => if mayB c = true then some (cs ++ [c], r2) else none
theorem decN_none {n m : Nat} {l : List Nat} (h : decN n l = none) (hm : n ≤ m) : decN m l = none := by
  induction m with
  | zero => obtain rfl : n = 0 := by omega
            exact h
  | succ m ih =>
    rcases Nat.lt_or_ge n (m + 1) with h1 | h1
    · rw [decN, ih (by omega)]
    · obtain rfl : n = m + 1 := by omega
      exact h
theorem decN_len {n : Nat} {l r : List Nat} {cs : List Ce} (h : decN n l = some (cs, r)) : cs.length = n := by
  induction n generalizing cs r with
  | zero => rw [decN] at h; cases h; rfl
  | succ n ih =>
    rw [decN] at h
    split at h
    · cases h
    · rename_i cs1 r1 h1
      split at h
      · cases h
      · split at h
        · cases h
          rw [List.length_append, ih h1]; rfl
        · cases h
theorem decN_succ {n : Nat} {l r r2 : List Nat} {cs : List Ce} {c : Ce} (h : decN n l = some (cs, r)) (hc : cellS r = some (c, r2)) (hm : mayB c = true) : decN (n + 1) l = some (cs ++ [c], r2) := by
  rw [decN, h]; simp only [hc, hm, if_true]
theorem decN_stop {n : Nat} {l r : List Nat} {cs : List Ce} (h : decN n l = some (cs, r)) (hc : cellS r = none) : decN (n + 1) l = none := by
  rw [decN, h]; simp only [hc]
theorem decN_not {n : Nat} {l r r2 : List Nat} {cs : List Ce} {c : Ce} (h : decN n l = some (cs, r)) (hc : cellS r = some (c, r2)) (hm : mayB c = false) : decN (n + 1) l = none := by
  rw [decN, h]; simp only [hc, hm]; rfl
/-- The first cells stay. -/
theorem decN_take {n m : Nat} {l r r2 : List Nat} {cs cs2 : List Ce} (h : decN n l = some (cs, r)) (h2 : decN m l = some (cs2, r2)) (hm : n ≤ m) : cs2.take n = cs := by
  induction m generalizing cs2 r2 with
  | zero =>
    obtain rfl : n = 0 := by omega
    rw [decN] at h; cases h; rfl
  | succ m ih =>
    rcases Nat.lt_or_ge n (m + 1) with h1 | h1
    · rw [decN] at h2
      split at h2
      · cases h2
      · rename_i cs1 r1 h3
        split at h2
        · cases h2
        · split at h2
          · cases h2
            have hl := decN_len h3
            rw [List.take_append_of_le_length (by omega)]
            exact ih h3 (by omega)
          · cases h2
    · obtain rfl : n = m + 1 := by omega
      rw [h] at h2
      cases h2
      have hl := decN_len h
      rw [List.take_of_length_le (by omega)]
theorem decN_may {n : Nat} {l r : List Nat} {cs : List Ce} (h : decN n l = some (cs, r)) : ∀ c, c ∈ cs → mayB c = true := by
  induction n generalizing cs r with
  | zero => rw [decN] at h; cases h; intro c hc; cases hc
  | succ n ih =>
    rw [decN] at h
    split at h
    · cases h
    · rename_i cs1 r1 h1
      split at h
      · cases h
      · split at h
        · rename_i hm
          cases h
          intro c hc
          rcases List.mem_append.1 hc with h2 | h2
          · exact ih h1 c h2
          · simp at h2; subst h2; exact hm
        · cases h
open Classical in
/-- Decode's cells, if the bytes are a load. -/
noncomputable def decS (l : List Nat) : Option (List Ce) :=
  if 504 < l.length then none else if (numS ⟨l, false⟩ 504).2.wr = true then none else match decN (numS ⟨l, false⟩ 504).1 (numS ⟨l, false⟩ 504).2.l with
    | none => none
    | some (cs, r) => if r = [] ∧ asc cs then some cs else none
theorem decS_long {l : List Nat} (h : 504 < l.length) : decS l = none := by unfold decS; rw [if_pos h]
theorem decS_wr {l : List Nat} (h : (numS ⟨l, false⟩ 504).2.wr = true) : decS l = none := by
  unfold decS
  by_cases h1 : 504 < l.length
  · rw [if_pos h1]
  · rw [if_neg h1, if_pos h]
theorem decS_none {l : List Nat} {k : Nat} (h : decN k (numS ⟨l, false⟩ 504).2.l = none) (hk : k ≤ (numS ⟨l, false⟩ 504).1) : decS l = none := by
  have := decN_none h hk
  unfold decS
  rw [this]
  split
  · rfl
  · split <;> rfl
theorem decS_not {l r : List Nat} {cs : List Ce} {k : Nat} (h : decN k (numS ⟨l, false⟩ 504).2.l = some (cs, r)) (hk : k ≤ (numS ⟨l, false⟩ 504).1) (hn : ¬ asc cs) : decS l = none := by
  unfold decS
  split
  · rfl
  split
  · rfl
  cases hd : decN (numS ⟨l, false⟩ 504).1 (numS ⟨l, false⟩ 504).2.l with
  | none => rfl
  | some x =>
    obtain ⟨cs2, r2⟩ := x
    have e := decN_take h hd hk
    have hl := decN_len h
    simp only
    rw [if_neg]
    rintro ⟨_, ha⟩
    refine hn fun i h0 hi => ?_
    have hl2 := decN_len hd
    have e1 : ∀ j, j < k → ca cs j = ca cs2 j := fun j hj => by
      unfold ca; rw [← e]; simp [List.getD, hj]
    rw [e1 i (by omega), e1 (i - 1) (by omega)]
    exact ha i h0 (by omega)
theorem decS_end {l r : List Nat} {cs : List Ce} (h1 : l.length ≤ 504) (h2 : (numS ⟨l, false⟩ 504).2.wr = false) (h : decN (numS ⟨l, false⟩ 504).1 (numS ⟨l, false⟩ 504).2.l = some (cs, r)) :
    (r = [] → asc cs → decS l = some cs) ∧ (r ≠ [] → decS l = none) ∧ (¬ asc cs → decS l = none) := by
  unfold decS
  rw [if_neg (by omega), if_neg (by rw [h2]; simp), h]
  simp only
  refine ⟨fun h3 h4 => by rw [if_pos ⟨h3, h4⟩], fun h3 => by rw [if_neg (fun h => h3 h.1)], fun h3 => by rw [if_neg (fun h => h3 h.2)]⟩
theorem decS_some {l : List Nat} {cs : List Ce} (h : decS l = some cs) : l.length ≤ 504 ∧ (numS ⟨l, false⟩ 504).2.wr = false ∧ decN (numS ⟨l, false⟩ 504).1 (numS ⟨l, false⟩ 504).2.l = some (cs, []) ∧ asc cs := by
  unfold decS at h
  split at h
  · cases h
  rename_i h1
  split at h
  · cases h
  rename_i h2
  split at h
  · cases h
  rename_i cs1 r h3
  split at h
  · rename_i h4
    cases h
    refine ⟨by omega, by simpa using h2, ?_, h4.2⟩
    rw [h3, h4.1]
  · cases h
end Go.Proofs.YthkephndhhhacaaDoor
