/-
  Stretches of pages: what the program's and the document's calls tell of them. No program.
-/
import Derived.Lib.Hide
namespace Go.Proofs.YtcimhcibkbbkdaaDoor

/-- A stretch: from which on, and how many. -/
structure Xt where
  f : Int
  m : Int
instance : Inhabited Xt := ⟨⟨0, 0⟩⟩
def xt (l : List Xt) (i : Nat) : Xt := l.getD i ⟨0, 0⟩
theorem xt_take (l : List Xt) (k : Nat) (h : k < l.length) : l.take (k + 1) = l.take k ++ [xt l k] := by
  rw [List.take_succ_eq_append_getElem h]; simp [xt, List.getD, h]
theorem xt_drop (l : List Xt) (k : Nat) (h : k < l.length) : l.drop k = xt l k :: l.drop (k + 1) := by
  rw [List.drop_eq_getElem_cons h]; simp [xt, List.getD, h]
theorem xt_mem (l : List Xt) (k : Nat) (h : k < l.length) : xt l k ∈ l := by
  have : xt l k = l[k] := by simp [xt, List.getD, h]
  rw [this]; exact List.getElem_mem h
theorem xt_at (l : List Xt) (i : Nat) (h : i < l.length) : l[i]? = some (xt l i) := by simp [xt, List.getD, h]
/-- A stretch has pages, and none but those of so many. -/
def xinB (p : Int) (x : Xt) : Bool := decide (0 ≤ x.f) && decide (1 ≤ x.m) && decide (x.m ≤ p - x.f)
def XInP (p : Int) (x : Xt) : Prop := 0 ≤ x.f ∧ 1 ≤ x.m ∧ x.m ≤ p - x.f
theorem xinB_iff (p : Int) (x : Xt) : xinB p x = true ↔ XInP p x := by
  unfold xinB XInP
  simp only [Bool.and_eq_true, decide_eq_true_eq, and_assoc]
def xfarB (x y : Xt) : Bool := decide (x.f + x.m ≤ y.f) || decide (y.f + y.m ≤ x.f)
def XFar (x y : Xt) : Prop := x.f + x.m ≤ y.f ∨ y.f + y.m ≤ x.f
theorem xfarB_iff (x y : Xt) : xfarB x y = true ↔ XFar x y := by
  unfold xfarB XFar
  simp only [Bool.or_eq_true, decide_eq_true_eq]
theorem XFar.symm {x y : Xt} (h : XFar x y) : XFar y x := Or.symm h
def xparB : List Xt → Bool
  | [] => true
  | x :: r => r.all (xfarB x) && xparB r
theorem xparB_iff : ∀ l : List Xt, xparB l = true ↔ l.Pairwise XFar
  | [] => by simp [xparB]
  | x :: r => by
    rw [xparB, List.pairwise_cons, Bool.and_eq_true, xparB_iff r, List.all_eq_true]
    constructor
    · rintro ⟨h1, h2⟩; exact ⟨fun y hy => (xfarB_iff x y).1 (h1 y hy), h2⟩
    · rintro ⟨h1, h2⟩; exact ⟨fun y hy => (xfarB_iff x y).2 (h1 y hy), h2⟩
/-- Stretches may be, of so many pages. -/
def xmayB (l : List Xt) (p : Int) : Bool := decide (1 ≤ p) && decide (p ≤ 1024) && l.all (xinB p) && xparB l
structure XMay (l : List Xt) (p : Int) : Prop where
  lo : 1 ≤ p
  hi : p ≤ 1024
  ins : ∀ x ∈ l, XInP p x
  par : l.Pairwise XFar
theorem xmayB_iff (l : List Xt) (p : Int) : xmayB l p = true ↔ XMay l p := by
  unfold xmayB
  simp only [Bool.and_eq_true, decide_eq_true_eq, xparB_iff, List.all_eq_true]
  constructor
  · rintro ⟨⟨⟨h1, h2⟩, h3⟩, h4⟩; exact ⟨h1, h2, fun x hx => (xinB_iff p x).1 (h3 x hx), h4⟩
  · rintro ⟨h1, h2, h3, h4⟩; exact ⟨⟨⟨h1, h2⟩, fun x hx => (xinB_iff p x).2 (h3 x hx)⟩, h4⟩
theorem XMay.mono {l : List Xt} {p q : Int} (h : XMay l p) (hq : p ≤ q) (hq2 : q ≤ 1024) : XMay l q :=
  ⟨by have := h.lo; omega, hq2, fun x hx => by obtain ⟨a, b, c⟩ := h.ins x hx; exact ⟨a, b, by omega⟩, h.par⟩
theorem XMay.perm {l m : List Xt} {p : Int} (h : XMay l p) (hp : l.Perm m) : XMay m p :=
  ⟨h.lo, h.hi, fun x hx => h.ins x (hp.mem_iff.2 hx), (hp.pairwise_iff (fun h => h.symm)).1 h.par⟩
/-- How many pages. -/
def xsumM : List Xt → Int
  | [] => 0
  | x :: r => x.m + xsumM r
theorem xsumM_app : ∀ a b : List Xt, xsumM (a ++ b) = xsumM a + xsumM b
  | [], b => by simp [xsumM]
  | x :: r, b => by rw [List.cons_append, xsumM, xsumM, xsumM_app r b]; omega
theorem xsumM_perm {a b : List Xt} (h : a.Perm b) : xsumM a = xsumM b := by
  induction h with
  | nil => rfl
  | cons x _ ih => simp only [xsumM, ih]
  | swap x y l => simp only [xsumM]; omega
  | trans _ _ h1 h2 => exact h1.trans h2
theorem xsumM_pos : ∀ (l : List Xt), (∀ x ∈ l, 0 ≤ x.m) → 0 ≤ xsumM l
  | [], _ => by simp [xsumM]
  | x :: r, h => by
    have h1 := h x (by simp)
    have h2 := xsumM_pos r (fun y hy => h y (by simp [hy]))
    rw [xsumM]; omega
/-- Stretches that are in order. -/
abbrev XAsc (l : List Xt) : Prop := l.Pairwise fun x y => x.f ≤ y.f
abbrev XRow (l : List Xt) : Prop := l.Pairwise fun x y => x.f + x.m ≤ y.f
theorem XRow.asc : ∀ {l : List Xt}, XRow l → (∀ x ∈ l, 0 ≤ x.m) → XAsc l
  | [], _, _ => List.Pairwise.nil
  | x :: r, h, hm => by
    obtain ⟨h1, h2⟩ := List.pairwise_cons.1 h
    refine List.pairwise_cons.2 ⟨fun y hy => ?_, XRow.asc h2 (fun y hy => hm y (by simp [hy]))⟩
    have := h1 y hy
    have := hm x (by simp)
    omega
theorem XRow.far {l : List Xt} (h : XRow l) : l.Pairwise XFar := h.imp fun h => .inl h
theorem XAsc.row : ∀ {l : List Xt}, XAsc l → (∀ x ∈ l, 1 ≤ x.m) → l.Pairwise XFar → XRow l
  | [], _, _, _ => List.Pairwise.nil
  | x :: r, h, hm, hf => by
    obtain ⟨h1, h2⟩ := List.pairwise_cons.1 h
    obtain ⟨f1, f2⟩ := List.pairwise_cons.1 hf
    refine List.pairwise_cons.2 ⟨fun y hy => ?_, XAsc.row h2 (fun y hy => hm y (by simp [hy])) f2⟩
    have := h1 y hy
    have := hm y (by simp [hy])
    rcases f1 y hy with h | h <;> omega
/-- None of those that are in order has a page of the next one. -/
def xapF : Int → List Xt → Bool
  | _, [] => true
  | a, x :: r => !decide (x.f < a) && xapF (x.f + x.m) r
theorem xapF_iff : ∀ (l : List Xt) (a : Int), (∀ x ∈ l, 0 ≤ x.m) → (xapF a l = true ↔ (∀ x ∈ l, a ≤ x.f) ∧ XRow l)
  | [], a, _ => by simp [xapF]
  | x :: r, a, hm => by
    have hx := hm x (by simp)
    rw [xapF, Bool.and_eq_true, xapF_iff r (x.f + x.m) (fun y hy => hm y (by simp [hy])), Bool.not_eq_true', decide_eq_false_iff_not]
    constructor
    · rintro ⟨h1, h2, h3⟩
      refine ⟨fun y hy => ?_, List.pairwise_cons.2 ⟨h2, h3⟩⟩
      rcases List.mem_cons.1 hy with rfl | hy
      · omega
      · have := h2 y hy; omega
    · rintro ⟨h1, h2⟩
      obtain ⟨h3, h4⟩ := List.pairwise_cons.1 h2
      exact ⟨by have := h1 x (by simp); omega, h3, h4⟩
theorem xapF_par {l l' : List Xt} {p : Int} (hp : l'.Perm l) (hs : XAsc l') (hi : l.all (xinB p) = true) : xapF 0 l' = xparB l := by
  have hin : ∀ x ∈ l', XInP p x := fun x hx => (xinB_iff p x).1 (List.all_eq_true.1 hi x (hp.mem_iff.1 hx))
  have h1 := xapF_iff l' 0 (fun x hx => by have := (hin x hx).2.1; omega)
  have h2 : xapF 0 l' = true ↔ xparB l = true := by
    rw [h1, xparB_iff, ← hp.pairwise_iff (R := XFar) (fun h => h.symm)]
    constructor
    · rintro ⟨_, h⟩; exact h.far
    · intro h; exact ⟨fun x hx => (hin x hx).1, hs.row (fun x hx => (hin x hx).2.1) h⟩
  cases h3 : xapF 0 l' <;> cases h4 : xparB l <;> simp_all
theorem XRow.sum : ∀ {l : List Xt} {a p : Int}, XRow l → (∀ x ∈ l, a ≤ x.f ∧ 1 ≤ x.m ∧ x.f + x.m ≤ p) → a ≤ p → xsumM l ≤ p - a
  | [], a, p, _, _, h => by simp only [xsumM]; omega
  | x :: r, a, p, h, hin, hap => by
    obtain ⟨h1, h2⟩ := List.pairwise_cons.1 h
    have hx := hin x (by simp)
    have := XRow.sum (a := x.f + x.m) (p := p) h2 (fun y hy => by have := hin y (by simp [hy]); have := h1 y hy; omega) (by omega)
    rw [xsumM]; omega
/-- Stretches in order. -/
theorem xasc_ex (l : List Xt) : ∃ l' : List Xt, l'.Perm l ∧ XAsc l' := by
  refine ⟨l.mergeSort (fun x y => decide (x.f ≤ y.f)), List.mergeSort_perm _ _, ?_⟩
  exact (List.pairwise_mergeSort (le := fun x y : Xt => decide (x.f ≤ y.f)) (fun a b c h1 h2 => by simp at *; omega) (fun a b => by simp; omega) l).imp (fun h => by simpa using h)
theorem XMay.row {l l' : List Xt} {p : Int} (h : XMay l p) (hp : l'.Perm l) (hs : XAsc l') : XRow l' ∧ ∀ x ∈ l', XInP p x :=
  ⟨hs.row (fun x hx => (h.ins x (hp.mem_iff.1 hx)).2.1) ((hp.pairwise_iff (fun h => h.symm)).2 h.par), fun x hx => h.ins x (hp.mem_iff.1 hx)⟩
theorem XMay.sum {l : List Xt} {p : Int} (h : XMay l p) : 0 ≤ xsumM l ∧ xsumM l ≤ p := by
  obtain ⟨l', hp, hs⟩ := xasc_ex l
  obtain ⟨h1, h2⟩ := h.row hp hs
  have h3 := XRow.sum (a := 0) (p := p) h1 (fun x hx => by obtain ⟨a, b, c⟩ := h2 x hx; omega) (by have := h.lo; omega)
  rw [← xsumM_perm hp]
  exact ⟨xsumM_pos l' (fun x hx => by have := (h2 x hx).2.1; omega), by omega⟩
/-- How many pages there are. -/
def xmanS (l : List Xt) : Int := if xmayB l 1024 = true then xsumM l else 0
/-- Where the page of a number lies. -/
def xpgF : List Xt → Int → Option Int
  | [], _ => none
  | x :: r, n => if n < x.m then some (x.f + n) else xpgF r (n - x.m)
def xpgV (l : List Xt) (n : Int) : Int := if xmayB l 1024 = true then (if n < 0 then 0 else (xpgF l n).getD 0) else 0
def xpgE (l : List Xt) (n : Int) : Int := if xmayB l 1024 = true then (if n < 0 then 2 else if (xpgF l n).isSome = true then 0 else 2) else 1
/-- The number of a page. -/
def xnuF : List Xt → Int → Int → Option Int
  | [], _, _ => none
  | x :: r, a, p => if x.f ≤ p ∧ p < x.f + x.m then some (a + p - x.f) else xnuF r (a + x.m) p
def xnuV (l : List Xt) (p : Int) : Int := if xmayB l 1024 = true then (xnuF l 0 p).getD 0 else 0
def xnuE (l : List Xt) (p : Int) : Int := if xmayB l 1024 = true then (if (xnuF l 0 p).isSome = true then 0 else 2) else 1
/-- So many pages from one on. -/
def xcel : Nat → Int → List Int
  | 0, _ => []
  | k + 1, f => f :: xcel k (f + 1)
theorem xcel_len : ∀ (k : Nat) (f : Int), (xcel k f).length = k
  | 0, _ => rfl
  | k + 1, f => by rw [xcel, List.length_cons, xcel_len k]
theorem xcel_app : ∀ (j k : Nat) (f : Int), xcel (j + k) f = xcel j f ++ xcel k (f + j)
  | 0, k, f => by simp [xcel]
  | j + 1, k, f => by
    rw [show j + 1 + k = (j + k) + 1 by omega, xcel, xcel, List.cons_append, xcel_app j k]
    rw [show f + 1 + (j : Int) = f + ((j + 1 : Nat) : Int) by omega]
theorem xcel_succ (k : Nat) (f : Int) : xcel (k + 1) f = xcel k f ++ [f + k] := by rw [xcel_app]; rfl
theorem xcel_mem : ∀ (k : Nat) (f i : Int), i ∈ xcel k f ↔ f ≤ i ∧ i < f + k
  | 0, f, i => by simp [xcel]
  | k + 1, f, i => by rw [xcel, List.mem_cons, xcel_mem k]; omega
theorem xcel_get : ∀ (k : Nat) (f : Int) (i : Nat), i < k → (xcel k f)[i]? = some (f + i)
  | 0, _, _, h => by omega
  | k + 1, f, 0, _ => by simp [xcel]
  | k + 1, f, i + 1, h => by
    rw [xcel, List.getElem?_cons_succ, xcel_get k (f + 1) i (by omega)]
    congr 1; omega
/-- All pages, in the order of their numbers. -/
def xflat : List Xt → List Int
  | [] => []
  | x :: r => xcel x.m.toNat x.f ++ xflat r
theorem xflat_app : ∀ a b : List Xt, xflat (a ++ b) = xflat a ++ xflat b
  | [], b => by simp [xflat]
  | x :: r, b => by rw [List.cons_append, xflat, xflat, xflat_app r b, List.append_assoc]
theorem xflat_len : ∀ (l : List Xt), (∀ x ∈ l, 0 ≤ x.m) → ((xflat l).length : Int) = xsumM l
  | [], _ => rfl
  | x :: r, h => by
    have h1 := h x (by simp)
    have h2 := xflat_len r (fun y hy => h y (by simp [hy]))
    rw [xflat, List.length_append, xcel_len, xsumM]; omega
theorem xpgF_flat : ∀ (l : List Xt) (n : Int), (∀ x ∈ l, 0 ≤ x.m) → 0 ≤ n → xpgF l n = (xflat l)[n.toNat]?
  | [], n, _, _ => by simp [xpgF, xflat]
  | x :: r, n, h, hn => by
    have h1 := h x (by simp)
    rw [xpgF, xflat]
    by_cases h2 : n < x.m
    · rw [if_pos h2, List.getElem?_append_left (by rw [xcel_len]; omega), xcel_get _ _ _ (by omega)]
      congr 2; omega
    · rw [if_neg h2, List.getElem?_append_right (by rw [xcel_len]; omega), xcel_len, xpgF_flat r (n - x.m) (fun y hy => h y (by simp [hy])) (by omega)]
      congr 1; omega
/-- At which place a number stands first. -/
def xfiF : List Int → Int → Int → Option Int
  | [], _, _ => none
  | y :: r, a, p => if y = p then some a else xfiF r (a + 1) p
theorem xfiF_cel : ∀ (k : Nat) (f a p : Int) (r : List Int), xfiF (xcel k f ++ r) a p = if f ≤ p ∧ p < f + k then some (a + p - f) else xfiF r (a + k) p
  | 0, f, a, p, r => by
    rw [if_neg (by omega)]
    show xfiF r a p = xfiF r (a + 0) p
    rw [show a + 0 = a by omega]
  | k + 1, f, a, p, r => by
    rw [xcel, List.cons_append, xfiF, xfiF_cel k]
    by_cases h1 : f = p
    · rw [if_pos h1, if_pos (by omega)]; congr 1; omega
    · rw [if_neg h1]
      by_cases h2 : f + 1 ≤ p ∧ p < f + 1 + k
      · rw [if_pos h2, if_pos (by omega)]; congr 1; omega
      · rw [if_neg h2, if_neg (by omega)]; congr 1; omega
theorem xfiF_flat : ∀ (l : List Xt) (a p : Int), (∀ x ∈ l, 0 ≤ x.m) → xfiF (xflat l) a p = xnuF l a p
  | [], _, _, _ => rfl
  | x :: r, a, p, h => by
    have h1 := h x (by simp)
    rw [xflat, xfiF_cel, xnuF, show ((x.m.toNat : Nat) : Int) = x.m by omega, xfiF_flat r (a + x.m) p (fun y hy => h y (by simp [hy]))]
/-- A page is of a stretch. -/
def xcovB (l : List Xt) (i : Int) : Bool := l.any fun x => decide (x.f ≤ i) && decide (i < x.f + x.m)
theorem xcovB_iff (l : List Xt) (i : Int) : xcovB l i = true ↔ ∃ x ∈ l, x.f ≤ i ∧ i < x.f + x.m := by
  unfold xcovB
  simp only [List.any_eq_true, Bool.and_eq_true, decide_eq_true_eq]
theorem xcovB_perm {l m : List Xt} (h : l.Perm m) (i : Int) : xcovB l i = xcovB m i := by
  have : xcovB l i = true ↔ xcovB m i = true := by
    rw [xcovB_iff, xcovB_iff]
    constructor
    · rintro ⟨x, hx, h1⟩; exact ⟨x, h.mem_iff.1 hx, h1⟩
    · rintro ⟨x, hx, h1⟩; exact ⟨x, h.mem_iff.2 hx, h1⟩
  cases h3 : xcovB l i <;> cases h4 : xcovB m i <;> simp_all
theorem xcovB_app (l m : List Xt) (i : Int) : xcovB (l ++ m) i = (xcovB l i || xcovB m i) := by unfold xcovB; rw [List.any_append]
/-- One and nought, by a test. -/
def xmrow (n : Nat) (P : Int → Bool) : List Int := (List.range n).map fun i : Nat => if P (i : Int) = true then 1 else 0
theorem xmrow_len (n : Nat) (P : Int → Bool) : (xmrow n P).length = n := by simp [xmrow]
theorem xmrow_get (n : Nat) (P : Int → Bool) (i : Nat) (h : i < n) : (xmrow n P)[i]? = some (if P (i : Int) = true then 1 else 0) := by
  simp [xmrow, h]
theorem xmrow_none (n : Nat) : xmrow n (fun _ => false) = List.replicate n 0 := by
  refine List.ext_getElem? fun i => ?_
  rcases Nat.lt_or_ge i n with h | h
  · rw [xmrow_get _ _ _ h]; simp [h]
  · rw [List.getElem?_eq_none (by rw [xmrow_len]; exact h), List.getElem?_eq_none (by simp; exact h)]
theorem xmrow_ext {n : Nat} {P Q : Int → Bool} (h : ∀ i, P i = Q i) : xmrow n P = xmrow n Q := by rw [show P = Q from funext h]
theorem xmrow_set (n : Nat) (P : Int → Bool) (i : Nat) : (xmrow n P).set i 1 = xmrow n (fun k => P k || decide (k = (i : Int))) := by
  refine List.ext_getElem? fun j => ?_
  rcases Nat.lt_or_ge j n with h | h
  · rw [List.getElem?_set, xmrow_get _ _ _ h, xmrow_get _ _ _ h, xmrow_len]
    by_cases e : i = j
    · subst e; simp [h]
    · rw [if_neg e]
      have : decide ((j : Int) = (i : Int)) = false := decide_eq_false (by omega)
      rw [this, Bool.or_false]
  · rw [List.getElem?_eq_none (by rw [List.length_set, xmrow_len]; exact h), List.getElem?_eq_none (by rw [xmrow_len]; exact h)]
/-- Those marked so far: those of some stretches, and of one the first ones. -/
def xpart (l : List Xt) (x : Xt) (j : Int) (i : Int) : Bool := xcovB l i || (decide (x.f ≤ i) && decide (i < x.f + j))
theorem xpart_0 (l : List Xt) (x : Xt) (i : Int) : xpart l x 0 i = xcovB l i := by
  unfold xpart
  have : (decide (x.f ≤ i) && decide (i < x.f + 0)) = false := by
    rw [Bool.and_eq_false_iff, decide_eq_false_iff_not, decide_eq_false_iff_not]; omega
  rw [this, Bool.or_false]
theorem xpart_step (l : List Xt) (x : Xt) (j i : Int) (hj : 0 ≤ j) : (xpart l x j i || decide (i = x.f + j)) = xpart l x (j + 1) i := by
  unfold xpart
  rw [Bool.or_assoc]
  congr 1
  rw [Bool.eq_iff_iff]
  simp only [Bool.or_eq_true, Bool.and_eq_true, decide_eq_true_eq]
  omega
theorem xpart_all (l : List Xt) (x : Xt) (i : Int) : xpart l x x.m i = xcovB (l ++ [x]) i := by
  rw [xcovB_app]; unfold xpart xcovB; simp
theorem xpart_not (l : List Xt) (x : Xt) (j : Int) : xpart l x j (x.f + j) = xcovB l (x.f + j) := by
  unfold xpart
  have : (decide (x.f ≤ x.f + j) && decide (x.f + j < x.f + j)) = false := by
    rw [Bool.and_eq_false_iff, decide_eq_false_iff_not, decide_eq_false_iff_not]; omega
  rw [this, Bool.or_false]
theorem XMay.snoc {l : List Xt} {p : Int} {x : Xt} (h : XMay l p) (h0 : 0 ≤ x.f) (h1 : 1 ≤ x.m) (hj : ∀ j, 0 ≤ j → j < x.m → x.f + j < p ∧ xcovB l (x.f + j) = false) : XMay (l ++ [x]) p := by
  refine ⟨h.lo, h.hi, fun y hy => ?_, List.pairwise_append.2 ⟨h.par, List.pairwise_singleton _ _, fun y hy z hz => ?_⟩⟩
  · rcases List.mem_append.1 hy with hy | hy
    · exact h.ins y hy
    · rw [List.mem_singleton.1 hy]
      exact ⟨h0, h1, by have := (hj (x.m - 1) (by omega) (by omega)).1; omega⟩
  · rw [List.mem_singleton.1 hz]
    have hy1 := (h.ins y hy).2.1
    rcases Int.lt_or_le (y.f + y.m) (x.f + 1) with h2 | h2
    · exact .inl (by omega)
    · rcases Int.lt_or_le (x.f + x.m) (y.f + 1) with h3 | h3
      · exact .inr (by omega)
      · exfalso
        have hc : ∀ j, 0 ≤ j → j < x.m → y.f ≤ x.f + j → x.f + j < y.f + y.m → False := fun j a b c d => by
          have := (hj j a b).2
          have h4 := (xcovB_iff l (x.f + j)).2 ⟨y, hy, c, d⟩
          rw [this] at h4; cases h4
        rcases Int.lt_or_le x.f y.f with h4 | h4
        · exact hc (y.f - x.f) (by omega) (by omega) (by omega) (by omega)
        · exact hc 0 (by omega) (by omega) (by omega) (by omega)
theorem xmay_not_in {l : List Xt} {p : Int} {x : Xt} (hx : x ∈ l) (h : ¬ XInP p x) : xmayB l p = false := by
  cases h2 : xmayB l p
  · rfl
  · exact absurd (((xmayB_iff l p).1 h2).ins x hx) h
theorem xmay_not_cov {l : List Xt} {p : Int} (k : Nat) (hk : k < l.length) (j : Int) (hj : 0 ≤ j) (hj2 : j < (xt l k).m) (hc : xcovB (l.take k) ((xt l k).f + j) = true) : xmayB l p = false := by
  cases h2 : xmayB l p
  · rfl
  · exfalso
    have hm := (xmayB_iff l p).1 h2
    obtain ⟨y, hy, h3, h4⟩ := (xcovB_iff _ _).1 hc
    have hpar := hm.par
    rw [← List.take_append_drop k l, List.pairwise_append] at hpar
    have := hpar.2.2 y hy (xt l k) (by rw [xt_drop l k hk]; simp)
    rcases this with h | h <;> omega
theorem xmay_take {l : List Xt} {p : Int} (h : xmayB l p = true) (k : Nat) : XMay (l.take k) p := by
  have hm := (xmayB_iff l p).1 h
  exact ⟨hm.lo, hm.hi, fun x hx => hm.ins x (List.mem_of_mem_take hx), hm.par.sublist (List.take_sublist _ _)⟩
end Go.Proofs.YtcimhcibkbbkdaaDoor
