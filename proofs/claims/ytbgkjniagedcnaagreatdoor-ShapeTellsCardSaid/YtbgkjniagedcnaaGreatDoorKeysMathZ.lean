/-
  Keys and spans of keys, as functions on texts: what both sides answer, and what the laws ask of it. No program.
  Cells and loads of leaves, as functions on lists: what both sides answer, and what the laws ask of it. No program.
  What was encoded is decoded; no load begins another one; a key's place. What the program's reader takes. No program.
-/
import Derived.Sort.Walk0
import Derived.Lib.MinMaxS
import Derived.Below
import Derived.Test.YtbgkjniagedcnaaGreatDoorMath1Z
import Derived.Test.YtbgkjniagedcnaaGreatDoorMemZ
namespace Go.Proofs.YtbgkjniagedcnaaGreatDoor
open Go

/-- Does a text stand ahead of another one? -/
def blt (a b : ByteArray) : Bool := Op.bytesLess a.toList b.toList
abbrev bl (s : ByteArray) : List UInt8 := s.data.toList
theorem blt_eq (a b : ByteArray) : blt a b = decide (bl a < bl b) := by
  unfold blt; rw [bytesLess_eq, Lib.toList_data, Lib.toList_data]
theorem blt_iff (a b : ByteArray) : blt a b = true ↔ bl a < bl b := by rw [blt_eq]; simp
theorem blt_not (a b : ByteArray) : blt a b = false ↔ ¬ bl a < bl b := by rw [blt_eq]; simp
theorem bl_inj {a b : ByteArray} (h : bl a = bl b) : a = b := by
  obtain ⟨⟨x⟩⟩ := a; obtain ⟨⟨y⟩⟩ := b
  simp at h; rw [h]
/-- 'not above' as the model has it. -/
theorem ble_eq (a b : ByteArray) : (Op.bytesLess a.toList b.toList || a.toList == b.toList) = !blt b a := by
  rw [blt_eq, bytesLess_eq, Lib.toList_data, Lib.toList_data, Bool.eq_iff_iff]
  simp
  constructor
  · rintro (h | h) <;> grind
  · intro h
    by_cases h2 : a.data.toList < b.data.toList
    · exact .inl h2
    · right
      have : a.data.toList = b.data.toList := by grind
      exact (congrArg ByteArray.data (bl_inj this) : _)
structure Sp where
  lo : ByteArray
  hi : ByteArray
  op : Bool
def Sp.v (s : Sp) : Value := .agg #[.string s.lo, .string s.hi, .bool s.op]
def hasS (s : Sp) (k : ByteArray) : Bool := !blt k s.lo && (s.op || blt k s.hi)
def empS (s : Sp) : Bool := !s.op && !blt s.lo s.hi
def endS (a b : Sp) : Bool := b.op || (!a.op && !blt b.hi a.hi)
def withS (a b : Sp) : Bool := empS a || (!empS b && (!blt a.lo b.lo && endS a b))
def maxB (x y : ByteArray) : ByteArray := if blt x y then y else x
def minB (x y : ByteArray) : ByteArray := if blt y x then y else x
def meetHi (a b : Sp) : ByteArray := if a.op then (if b.op then ByteArray.empty else b.hi) else if b.op then a.hi else minB a.hi b.hi
def meetS (a b : Sp) : Sp := ⟨maxB a.lo b.lo, meetHi a b, a.op && b.op⟩
/-- The least text above all that begin with it, if there is one. -/
def nxt : List UInt8 → Option (List UInt8)
  | [] => none
  | c :: r => match nxt r with
    | some h => some (c :: h)
    | none => if c = 255 then none else some [c + 1]
theorem nxt_cons (c : UInt8) (r : List UInt8) : nxt (c :: r) = match nxt r with
    | some h => some (c :: h)
    | none => if c = 255 then none else some [c + 1] := rfl
def strL (l : List UInt8) : ByteArray := ⟨l.toArray⟩
theorem bl_strL (l : List UInt8) : bl (strL l) = l := rfl
def ofS (p : ByteArray) : Sp := match nxt (bl p) with
  | none => ⟨p, ByteArray.empty, true⟩
  | some h => ⟨p, strL h, false⟩
def begS (s p : ByteArray) : Bool := decide (bl p <+: bl s)
def nextS (k : ByteArray) : ByteArray := k ++ ⟨#[0]⟩

theorem maxB_eq (x y : ByteArray) : Lib.maxS x y = maxB x y := by
  unfold Lib.maxS maxB; rw [blt_eq]; simp
theorem minB_eq (x y : ByteArray) : Lib.minS x y = minB x y := by
  unfold Lib.minS minB
  cases h : blt y x with
  | true =>
    have h1 := (blt_iff _ _).1 h
    rw [if_neg (by rintro (h2 | h2) <;> grind), if_pos rfl]
  | false =>
    have h1 := (blt_not _ _).1 h
    have h3 : bl x < bl y ∨ bl x = bl y := by
      by_cases h2 : bl x < bl y
      · exact .inl h2
      · exact .inr (by grind)
    rw [if_pos h3]; rfl

theorem lt_cons (a b : UInt8) (x y : List UInt8) : a :: x < b :: y ↔ a < b ∨ a = b ∧ x < y := List.cons_lt_cons_iff
theorem pre_cons (a b : UInt8) (x y : List UInt8) : a :: x <+: b :: y ↔ a = b ∧ x <+: y := List.cons_prefix_cons
theorem u8_lt_add (c : UInt8) (h : c ≠ 255) : c < c + 1 := by
  have h2 : c.toNat ≠ 255 := fun e => h (UInt8.toNat_inj.1 e)
  have := c.toNat_lt
  rw [UInt8.lt_iff_toNat_lt, UInt8.toNat_add]; simp; omega
theorem u8_lt_add_iff (c x : UInt8) (h : c ≠ 255) : x < c + 1 ↔ x < c ∨ x = c := by
  have h2 : c.toNat ≠ 255 := fun e => h (UInt8.toNat_inj.1 e)
  have := c.toNat_lt
  rw [UInt8.lt_iff_toNat_lt, UInt8.lt_iff_toNat_lt, UInt8.toNat_add, ← UInt8.toNat_inj]; simp; omega
theorem u8_not_lt_255 (x : UInt8) : ¬ 255 < x := by
  have := x.toNat_lt
  rw [UInt8.lt_iff_toNat_lt]; simp; omega
theorem u8_lt_255 (x : UInt8) (h : x ≠ 255) : x < 255 := by
  have h2 : x.toNat ≠ 255 := fun e => h (UInt8.toNat_inj.1 e)
  have := x.toNat_lt
  rw [UInt8.lt_iff_toNat_lt]; simp; omega
theorem nxt_pre : ∀ (p k : List UInt8), (match nxt p with | none => ¬ k < p | some h => ¬ k < p ∧ k < h) ↔ p <+: k
  | [], k => by simp [nxt]
  | c :: r, [] => by
    have h1 : ([] : List UInt8) < c :: r := List.nil_lt_cons c r
    have h2 : ¬ c :: r <+: [] := by simp
    cases nxt (c :: r) <;> simp [h1, h2]
  | c :: r, x :: t => by
    have ih := nxt_pre r t
    rw [pre_cons, ← ih, nxt_cons]
    cases hn : nxt r with
    | some h =>
      simp only [lt_cons]
      constructor
      · rintro ⟨h1, h2⟩
        have : x = c := by grind
        subst this
        exact ⟨rfl, fun h3 => h1 (.inr ⟨rfl, h3⟩), by rcases h2 with h2 | h2; grind; exact h2.2⟩
      · rintro ⟨rfl, h1, h2⟩
        exact ⟨by rintro (h3 | h3); grind; exact h1 h3.2, .inr ⟨rfl, h2⟩⟩
    | none =>
      by_cases hc : c = 255
      · simp only [if_pos hc, lt_cons]
        subst hc
        constructor
        · intro h1
          by_cases hx : x = 255
          · exact ⟨hx.symm, fun h3 => h1 (.inr ⟨hx, h3⟩)⟩
          · exact absurd (.inl (u8_lt_255 x hx)) h1
        · rintro ⟨rfl, h1⟩ (h3 | h3)
          · exact u8_not_lt_255 _ h3
          · exact h1 h3.2
      · simp only [if_neg hc, lt_cons]
        have hnl : ¬ t < [] := List.not_lt_nil t
        rw [u8_lt_add_iff c x hc]
        constructor
        · rintro ⟨h1, h2⟩
          have : x = c := by grind
          subst this
          exact ⟨rfl, fun h3 => h1 (.inr ⟨rfl, h3⟩)⟩
        · rintro ⟨rfl, h1⟩
          exact ⟨by rintro (h3 | h3); grind; exact h1 h3.2, .inl (.inr rfl)⟩
theorem nxt_app : ∀ (p k h : List UInt8), nxt p = some h → ∃ h', nxt (p ++ k) = some h' ∧ ¬ h < h'
  | [], _, _, hp => by cases hp
  | c :: r, k, h, hp => by
    rw [nxt_cons] at hp
    rw [List.cons_append, nxt_cons]
    cases hn : nxt r with
    | some h0 =>
      rw [hn] at hp
      obtain ⟨h', e, hl⟩ := nxt_app r k h0 hn
      cases hp
      rw [e]
      refine ⟨_, rfl, ?_⟩
      rw [lt_cons]
      rintro (h3 | h3)
      · grind
      · exact hl h3.2
    | none =>
      rw [hn] at hp
      by_cases hc : c = 255
      · simp only [if_pos hc] at hp; cases hp
      · simp only [if_neg hc] at hp
        cases hp
        cases hn2 : nxt (r ++ k) with
        | some h' =>
          refine ⟨_, rfl, ?_⟩
          rw [lt_cons]
          have := u8_lt_add c hc
          rintro (h3 | h3) <;> grind
        | none =>
          exact ⟨[c + 1], by simp only [if_neg hc], by grind⟩
theorem has_of (p k : ByteArray) : hasS (ofS p) k = begS k p := by
  have h := nxt_pre (bl p) (bl k)
  unfold hasS ofS begS
  rw [Bool.eq_iff_iff, decide_eq_true_iff, ← h]
  cases nxt (bl p) with
  | none => simp [blt_not]
  | some x => simp [blt_not, blt_iff, bl_strL]
theorem emp_of (p : ByteArray) : empS (ofS p) = false := by
  have h := (nxt_pre (bl p) (bl p)).2 (List.prefix_refl _)
  unfold empS ofS
  cases hn : nxt (bl p) with
  | none => rfl
  | some x =>
    rw [hn] at h
    have : blt p (strL x) = true := (blt_iff _ _).2 h.2
    simp [this]
theorem bl_app (p k : ByteArray) : bl (p ++ k) = bl p ++ bl k := by
  show (p ++ k).data.toList = _
  rw [ByteArray.data_append, Array.toList_append]
theorem with_of (p k : ByteArray) : withS (ofS (p ++ k)) (ofS p) = true := by
  have h := (nxt_pre (bl p) (bl (p ++ k))).2 (by rw [bl_app]; exact List.prefix_append _ _)
  unfold withS
  rw [emp_of, emp_of]
  unfold endS ofS
  cases hn : nxt (bl p) with
  | none =>
    rw [hn] at h
    have h1 : blt (p ++ k) p = false := (blt_not _ _).2 h
    cases nxt (bl (p ++ k)) <;> simp [h1]
  | some x =>
    rw [hn] at h
    obtain ⟨x', e, hl⟩ := nxt_app (bl p) (bl k) x hn
    have h1 : blt (p ++ k) p = false := (blt_not _ _).2 h.1
    have h2 : blt (strL x) (strL x') = false := (blt_not _ _).2 hl
    rw [bl_app, e]
    simp [h1, h2]
theorem has_meet (x y : Sp) (k : ByteArray) : hasS (meetS x y) k = (hasS x k && hasS y k) := by
  unfold hasS meetS meetHi maxB minB
  simp only [blt_eq]
  cases x.op <;> cases y.op <;> simp <;> split <;> (try split) <;> rw [Bool.eq_iff_iff] <;> simp <;> grind
theorem with_has (x y : Sp) (k : ByteArray) (h1 : withS x y = true) (h2 : hasS x k = true) : hasS y k = true := by
  revert h1 h2
  unfold withS hasS empS endS
  simp only [blt_eq]
  cases x.op <;> cases y.op <;> simp <;> grind
theorem emp_has (x : Sp) (k : ByteArray) (h1 : empS x = true) : hasS x k = false := by
  revert h1
  unfold hasS empS
  simp only [blt_eq]
  cases x.op <;> simp <;> grind
theorem nemp_has (x : Sp) (h1 : empS x = false) : hasS x x.lo = true := by
  revert h1
  unfold hasS empS
  simp only [blt_eq]
  cases x.op <;> simp <;> grind
theorem lt_app_zero : ∀ l : List UInt8, l < l ++ [0]
  | [] => by simp
  | c :: r => by rw [List.cons_append, lt_cons]; exact .inr ⟨rfl, lt_app_zero r⟩
theorem none_between : ∀ l p : List UInt8, l < p → ¬ p < l ++ [0]
  | [], [], h => absurd h (by simp)
  | [], x :: t, _ => by
    rw [List.nil_append, lt_cons]
    rintro (h | h)
    · rw [UInt8.lt_iff_toNat_lt] at h; simp at h
    · exact absurd h.2 (by simp)
  | c :: r, [], h => absurd h (by simp)
  | c :: r, x :: t, h => by
    rw [lt_cons] at h
    rw [List.cons_append, lt_cons]
    rintro (h2 | ⟨rfl, h2⟩)
    · rcases h with h | h <;> grind
    · rcases h with h | h
      · grind
      · exact none_between r t h.2 h2
theorem next_lt (k : ByteArray) : blt k (nextS k) = true := by
  rw [blt_iff]; unfold nextS; rw [bl_app]; exact lt_app_zero _
theorem next_none (k p : ByteArray) : (blt k p && blt p (nextS k)) = false := by
  rw [Bool.eq_false_iff]
  intro h
  rw [Bool.and_eq_true, blt_iff, blt_iff] at h
  unfold nextS at h
  rw [bl_app] at h
  exact none_between _ _ h.1 h.2
theorem with_trans (x y z : Sp) (h1 : withS x y = true) (h2 : withS y z = true) : withS x z = true := by
  revert h1 h2
  unfold withS empS endS
  simp only [blt_eq]
  cases x.op <;> cases y.op <;> cases z.op <;> simp <;> grind
theorem with_refl (x : Sp) : withS x x = true := by
  unfold withS empS endS
  simp only [blt_eq]
  cases x.op <;> simp <;> grind
theorem with_emp (x y : Sp) (h : empS x = true) : withS x y = true := by
  unfold withS; rw [h]; rfl
theorem meet_left (x y : Sp) : withS (meetS x y) x = true := by
  unfold withS empS endS meetS meetHi maxB minB
  simp only [blt_eq]
  cases x.op <;> cases y.op <;> simp <;> split <;> (try split) <;> grind
theorem meet_right (x y : Sp) : withS (meetS x y) y = true := by
  unfold withS empS endS meetS meetHi maxB minB
  simp only [blt_eq]
  cases x.op <;> cases y.op <;> simp <;> split <;> (try split) <;> grind
theorem meet_great (x y z : Sp) (h1 : withS z x = true) (h2 : withS z y = true) : withS z (meetS x y) = true := by
  revert h1 h2
  unfold withS empS endS meetS meetHi maxB minB
  simp only [blt_eq]
  cases x.op <;> cases y.op <;> cases z.op <;> simp <;> split <;> (try split) <;> grind
/-- May a text be a key? -/
def okK (k : ByteArray) : Bool := decide (1 ≤ k.size ∧ k.size ≤ 40)
end Go.Proofs.YtbgkjniagedcnaaGreatDoor
namespace Go.Proofs.YtbgkjniagedcnaaGreatDoor
open Go Go.RowKit

/-! ### A text's bytes -/
def bn (s : ByteArray) : List Nat := (bl s).map UInt8.toNat
theorem bl_size (s : ByteArray) : (bl s).length = s.size := by
  show s.data.toList.length = s.data.size; simp
theorem bn_len (s : ByteArray) : (bn s).length = s.size := by unfold bn; rw [List.length_map, bl_size]
theorem bn_b8 (s : ByteArray) : B8 (bn s) := fun x hx => by
  unfold bn at hx
  obtain ⟨y, _, rfl⟩ := List.mem_map.1 hx
  exact UInt8.toNat_lt y
theorem bstr_data (l : List Nat) : bl (bstr l) = l.map fun x => UInt8.ofNat x := by
  unfold bstr
  rw [show bl (strOfNums (l.map fun x : Nat => (x : Int))) = (strOfNums (l.map fun x : Nat => (x : Int))).data.toList from rfl, strOfNums_data, List.map_map]
  apply List.map_congr_left
  intro x _
  simp
theorem bstr_bn (s : ByteArray) : bstr (bn s) = s := by
  apply bl_inj
  rw [bstr_data]
  unfold bn
  rw [List.map_map]
  conv => rhs; rw [← List.map_id (bl s)]
  apply List.map_congr_left
  intro x _
  simp
theorem bn_bstr {l : List Nat} (h : B8 l) : bn (bstr l) = l := by
  unfold bn
  rw [bstr_data, List.map_map]
  conv => rhs; rw [← List.map_id l]
  apply List.map_congr_left
  intro x hx
  have := h x hx
  simp [Nat.mod_eq_of_lt this]

/-! ### Cells -/
structure Ce where
  k : ByteArray
  v : ByteArray
  n : Int
  p : Int
instance : Inhabited Ce := ⟨⟨ByteArray.empty, ByteArray.empty, 0, 0⟩⟩
/-- The cell at a place. -/
def ca (cs : List Ce) (i : Nat) : Ce := cs.getD i default
def plB (c : Ce) : Bool := if c.n ≤ 64 then decide ((c.v.size : Int) = c.n ∧ c.p = 0) else decide (c.v.size = 0 ∧ 2 ≤ c.p ∧ c.p ≤ 1023)
def mayB (c : Ce) : Bool := okK c.k && (decide (c.n ≤ 2048) && plB c)
theorem may_n0 {c : Ce} (h : mayB c = true) : 0 ≤ c.n := by
  unfold mayB plB at h
  by_cases h1 : c.n ≤ 64
  · simp [h1] at h; omega
  · omega
theorem may_n {c : Ce} (h : mayB c = true) : c.n ≤ 2048 := by
  unfold mayB at h; simp at h; exact h.2.1
theorem may_k {c : Ce} (h : mayB c = true) : 1 ≤ c.k.size ∧ c.k.size ≤ 40 := by
  unfold mayB okK at h; simp at h; exact h.1
theorem may_in {c : Ce} (h : mayB c = true) (h1 : c.n ≤ 64) : (c.v.size : Int) = c.n ∧ c.p = 0 := by
  unfold mayB plB at h; simp [h1] at h; exact h.2.2
theorem may_out {c : Ce} (h : mayB c = true) (h1 : ¬ c.n ≤ 64) : c.v.size = 0 ∧ 2 ≤ c.p ∧ c.p ≤ 1023 := by
  unfold mayB plB at h; simp [h1] at h; exact ⟨by rw [h.2.2.1]; rfl, h.2.2.2⟩
def tailS (c : Ce) : List Nat := if c.n ≤ 64 then bn c.v else [c.p.toNat / 256 % 256, c.p.toNat % 256]
/-- A cell's bytes. -/
def oneS (c : Ce) : List Nat := vb c.k.size ++ (bn c.k ++ (vb c.n.toNat ++ tailS c))
def sizeS (k : ByteArray) (n : Int) : Nat := vs k.size + k.size + vs n.toNat + (if n ≤ 64 then n.toNat else 2)
theorem one_len {c : Ce} (h : mayB c = true) : (oneS c).length = sizeS c.k c.n := by
  have e1 : (vb c.k.size).length = vs c.k.size := rfl
  have e2 : (vb c.n.toNat).length = vs c.n.toNat := rfl
  unfold oneS sizeS tailS
  rw [List.length_append, List.length_append, List.length_append, bn_len, e1, e2]
  by_cases h1 : c.n ≤ 64
  · have := may_in h h1
    rw [if_pos h1, if_pos h1, bn_len]; omega
  · rw [if_neg h1, if_neg h1]; simp; omega
theorem tail_b8 (c : Ce) : B8 (tailS c) := by
  unfold tailS
  split
  · exact bn_b8 _
  · intro x hx; simp at hx; omega
theorem one_b8 (c : Ce) : B8 (oneS c) := (vb_b8 _).append ((bn_b8 _).append ((vb_b8 _).append (tail_b8 c)))
theorem one_pos (c : Ce) : 1 ≤ (oneS c).length := by
  have e1 : (vb c.k.size).length = vs c.k.size := rfl
  have := vs_pos c.k.size
  unfold oneS
  rw [List.length_append]; omega
theorem size_le {c : Ce} (h : mayB c = true) : sizeS c.k c.n ≤ 124 := by
  have := may_k h
  have := may_n h
  have h0 := may_n0 h
  have h1 : vs c.k.size ≤ 10 := vs_le (by omega)
  have h2 : vs c.n.toNat ≤ 10 := vs_le (by omega)
  unfold sizeS
  split <;> omega
def body : List Ce → List Nat
  | [] => []
  | c :: r => oneS c ++ body r
theorem body_snoc (cs : List Ce) (c : Ce) : body (cs ++ [c]) = body cs ++ oneS c := by
  induction cs with
  | nil => simp [body]
  | cons x r ih => rw [List.cons_append, body, ih, body, List.append_assoc]
theorem body_b8 : ∀ cs : List Ce, B8 (body cs)
  | [] => B8.nil
  | c :: r => (one_b8 c).append (body_b8 r)
theorem body_pos : ∀ cs : List Ce, cs.length ≤ (body cs).length
  | [] => Nat.le_refl _
  | c :: r => by
    have := one_pos c
    have := body_pos r
    rw [body, List.length_append, List.length_cons]; omega
def loadS (cs : List Ce) : List Nat := vb cs.length ++ body cs
theorem load_b8 (cs : List Ce) : B8 (loadS cs) := (vb_b8 _).append (body_b8 cs)
theorem load_len (cs : List Ce) : (loadS cs).length = vs cs.length + (body cs).length := by
  unfold loadS; rw [List.length_append]; rfl
/-- The size of the first k cells. -/
def sums (cs : List Ce) (k : Nat) : Nat := (body (cs.take k)).length
theorem take_ca (cs : List Ce) (k : Nat) (h : k < cs.length) : cs.take (k + 1) = cs.take k ++ [ca cs k] := by
  rw [List.take_succ_eq_append_getElem h]; simp [ca, List.getD, h]
theorem body_succ (cs : List Ce) (k : Nat) (h : k < cs.length) : body (cs.take (k + 1)) = body (cs.take k) ++ oneS (ca cs k) := by
  rw [take_ca cs k h, body_snoc]
theorem sums_succ (cs : List Ce) (k : Nat) (h : k < cs.length) : sums cs (k + 1) = sums cs k + (oneS (ca cs k)).length := by
  unfold sums; rw [body_succ cs k h, List.length_append]
theorem sums_all (cs : List Ce) (k : Nat) (h : cs.length ≤ k) : sums cs k = (body cs).length := by unfold sums; rw [List.take_of_length_le h]
theorem ca_mem (cs : List Ce) (i : Nat) (h : i < cs.length) : ca cs i ∈ cs := by
  unfold ca; simp [List.getD, h]
/-- May all be? -/
def allMay (cs : List Ce) : Prop := ∀ i, i < cs.length → mayB (ca cs i) = true
/-- Do the first k keys ascend? -/
def ascTo (cs : List Ce) (k : Nat) : Prop := ∀ i, 0 < i → i < k → blt (ca cs (i - 1)).k (ca cs i).k = true
def asc (cs : List Ce) : Prop := ascTo cs cs.length
theorem ascTo_succ {cs : List Ce} {k : Nat} (h : ascTo cs k) (h1 : 0 < k → blt (ca cs (k - 1)).k (ca cs k).k = true) : ascTo cs (k + 1) := fun i h0 hi => by
  rcases Nat.lt_or_ge i k with h2 | h2
  · exact h i h0 h2
  · obtain rfl : i = k := by omega
    exact h1 h0
theorem not_asc {cs : List Ce} {k : Nat} (h0 : 0 < k) (hk : k < cs.length) (h : blt (ca cs (k - 1)).k (ca cs k).k = false) : ¬ asc cs := fun ha => by
  have := ha k h0 hk
  rw [h] at this; cases this
theorem sums_le {cs : List Ce} (h : allMay cs) (k : Nat) (hk : k ≤ cs.length) : sums cs k ≤ 124 * k := by
  induction k with
  | zero => show (body (cs.take 0)).length ≤ _; simp [body]
  | succ k ih =>
    have h1 := one_len (h k (by omega))
    have h2 := size_le (h k (by omega))
    rw [sums_succ cs k (by omega)]
    have := ih (by omega)
    omega
theorem sums_mono (cs : List Ce) (k : Nat) : sums cs k ≤ (body cs).length := by
  unfold sums
  have h := congrArg List.length (congrArg body (List.take_append_drop k cs))
  have : ∀ a b : List Ce, body (a ++ b) = body a ++ body b := fun a b => by
    induction a with
    | nil => rfl
    | cons x r ih => rw [List.cons_append, body, ih, body, List.append_assoc]
  rw [this, List.length_append] at h
  omega
open Classical in
/-- Encode's error. -/
noncomputable def encE (cs : List Ce) : Nat := if allMay cs then (if asc cs then (if (loadS cs).length ≤ 504 then 0 else 5) else 14) else 1
noncomputable def encB (cs : List Ce) : List Nat := if encE cs = 0 then loadS cs else []
theorem enc_1 {cs : List Ce} (h : ¬ allMay cs) : encE cs = 1 ∧ encB cs = [] := by
  have : encE cs = 1 := by unfold encE; rw [if_neg h]
  exact ⟨this, by unfold encB; rw [this]; rfl⟩
theorem enc_14 {cs : List Ce} (h : allMay cs) (h2 : ¬ asc cs) : encE cs = 14 ∧ encB cs = [] := by
  have : encE cs = 14 := by unfold encE; rw [if_pos h, if_neg h2]
  exact ⟨this, by unfold encB; rw [this]; rfl⟩
theorem enc_5 {cs : List Ce} (h : allMay cs) (h2 : asc cs) (h3 : 504 < (loadS cs).length) : encE cs = 5 ∧ encB cs = [] := by
  have : encE cs = 5 := by unfold encE; rw [if_pos h, if_pos h2, if_neg (by omega)]
  exact ⟨this, by unfold encB; rw [this]; rfl⟩
theorem enc_0 {cs : List Ce} (h : allMay cs) (h2 : asc cs) (h3 : (loadS cs).length ≤ 504) : encE cs = 0 ∧ encB cs = loadS cs := by
  have : encE cs = 0 := by unfold encE; rw [if_pos h, if_pos h2, if_pos h3]
  exact ⟨this, by unfold encB; rw [this]; rfl⟩
theorem encE_cases (cs : List Ce) : (encE cs = 1 ∧ encB cs = [] ∧ ¬ allMay cs) ∨ (encE cs = 14 ∧ encB cs = [] ∧ allMay cs ∧ ¬ asc cs) ∨ (encE cs = 5 ∧ encB cs = [] ∧ allMay cs ∧ asc cs ∧ 504 < (loadS cs).length) ∨ (encE cs = 0 ∧ encB cs = loadS cs ∧ allMay cs ∧ asc cs ∧ (loadS cs).length ≤ 504) := by
  by_cases h : allMay cs
  · by_cases h2 : asc cs
    · rcases Nat.lt_or_ge 504 (loadS cs).length with h3 | h3
      · exact .inr (.inr (.inl ⟨(enc_5 h h2 h3).1, (enc_5 h h2 h3).2, h, h2, h3⟩))
      · exact .inr (.inr (.inr ⟨(enc_0 h h2 h3).1, (enc_0 h h2 h3).2, h, h2, h3⟩))
    · exact .inr (.inl ⟨(enc_14 h h2).1, (enc_14 h h2).2, h, h2⟩)
  · exact .inl ⟨(enc_1 h).1, (enc_1 h).2, h⟩

/-! ### Decode -/
/-- The next cell, and what is left. -/
def cellS (l : List Nat) : Option (Ce × List Nat) :=
  let B := bytesS ⟨l, false⟩ 40
  let N := numS B.2 2048
  if N.2.wr = true then none
  else if N.1 ≤ 64 then (if N.1 ≤ N.2.l.length then some (⟨bstr B.1, bstr (N.2.l.take N.1), N.1, 0⟩, N.2.l.drop N.1) else none)
  else if 2 ≤ N.2.l.length then some (⟨bstr B.1, ByteArray.empty, N.1, (N.2.l.getD 0 0 * 256 + N.2.l.getD 1 0 : Nat)⟩, N.2.l.drop 2) else none
/-- That many cells. -/
def decN : Nat → List Nat → Option (List Ce × List Nat)
  | 0, l => some ([], l)
  | n + 1, l => match decN n l with
    | none => none
    | some (cs, r) => match cellS r with
      | none => none
      | some (c, r2) => if mayB c = true then some (cs ++ [c], r2) else none
theorem decN_none {n m : Nat} {l : List Nat} (h : decN n l = none) (hm : n ≤ m) : decN m l = none := by
  induction m with
  | zero => obtain rfl : n = 0 := by omega
            exact h
  | succ m ih =>
    rcases Nat.lt_or_ge n (m + 1) with h1 | h1
    · rw [decN, ih (by omega)]
    · obtain rfl : n = m + 1 := by omega
      exact h
theorem decN_len {n : Nat} {l r : List Nat} {cs : List Ce} (h : decN n l = some (cs, r)) : cs.length = n := by
  induction n generalizing cs r with
  | zero => rw [decN] at h; cases h; rfl
  | succ n ih =>
    rw [decN] at h
    split at h
    · cases h
    · rename_i cs1 r1 h1
      split at h
      · cases h
      · split at h
        · cases h
          rw [List.length_append, ih h1]; rfl
        · cases h
theorem decN_succ {n : Nat} {l r r2 : List Nat} {cs : List Ce} {c : Ce} (h : decN n l = some (cs, r)) (hc : cellS r = some (c, r2)) (hm : mayB c = true) : decN (n + 1) l = some (cs ++ [c], r2) := by
  rw [decN, h]; simp only [hc, hm, if_true]
theorem decN_stop {n : Nat} {l r : List Nat} {cs : List Ce} (h : decN n l = some (cs, r)) (hc : cellS r = none) : decN (n + 1) l = none := by
  rw [decN, h]; simp only [hc]
theorem decN_not {n : Nat} {l r r2 : List Nat} {cs : List Ce} {c : Ce} (h : decN n l = some (cs, r)) (hc : cellS r = some (c, r2)) (hm : mayB c = false) : decN (n + 1) l = none := by
  rw [decN, h]; simp only [hc, hm]; rfl
/-- The first cells stay. -/
theorem decN_take {n m : Nat} {l r r2 : List Nat} {cs cs2 : List Ce} (h : decN n l = some (cs, r)) (h2 : decN m l = some (cs2, r2)) (hm : n ≤ m) : cs2.take n = cs := by
  induction m generalizing cs2 r2 with
  | zero =>
    obtain rfl : n = 0 := by omega
    rw [decN] at h; cases h; rfl
  | succ m ih =>
    rcases Nat.lt_or_ge n (m + 1) with h1 | h1
    · rw [decN] at h2
      split at h2
      · cases h2
      · rename_i cs1 r1 h3
        split at h2
        · cases h2
        · split at h2
          · cases h2
            have hl := decN_len h3
            rw [List.take_append_of_le_length (by omega)]
            exact ih h3 (by omega)
          · cases h2
    · obtain rfl : n = m + 1 := by omega
      rw [h] at h2
      cases h2
      have hl := decN_len h
      rw [List.take_of_length_le (by omega)]
theorem decN_may {n : Nat} {l r : List Nat} {cs : List Ce} (h : decN n l = some (cs, r)) : ∀ c, c ∈ cs → mayB c = true := by
  induction n generalizing cs r with
  | zero => rw [decN] at h; cases h; intro c hc; cases hc
  | succ n ih =>
    rw [decN] at h
    split at h
    · cases h
    · rename_i cs1 r1 h1
      split at h
      · cases h
      · split at h
        · rename_i hm
          cases h
          intro c hc
          rcases List.mem_append.1 hc with h2 | h2
          · exact ih h1 c h2
          · simp at h2; subst h2; exact hm
        · cases h
open Classical in
/-- Decode's cells, if the bytes are a load. -/
noncomputable def decS (l : List Nat) : Option (List Ce) :=
  if 504 < l.length then none else if (numS ⟨l, false⟩ 504).2.wr = true then none else match decN (numS ⟨l, false⟩ 504).1 (numS ⟨l, false⟩ 504).2.l with
    | none => none
    | some (cs, r) => if r = [] ∧ asc cs then some cs else none
theorem decS_long {l : List Nat} (h : 504 < l.length) : decS l = none := by unfold decS; rw [if_pos h]
theorem decS_wr {l : List Nat} (h : (numS ⟨l, false⟩ 504).2.wr = true) : decS l = none := by
  unfold decS
  by_cases h1 : 504 < l.length
  · rw [if_pos h1]
  · rw [if_neg h1, if_pos h]
theorem decS_none {l : List Nat} {k : Nat} (h : decN k (numS ⟨l, false⟩ 504).2.l = none) (hk : k ≤ (numS ⟨l, false⟩ 504).1) : decS l = none := by
  have := decN_none h hk
  unfold decS
  rw [this]
  split
  · rfl
  · split <;> rfl
theorem decS_not {l r : List Nat} {cs : List Ce} {k : Nat} (h : decN k (numS ⟨l, false⟩ 504).2.l = some (cs, r)) (hk : k ≤ (numS ⟨l, false⟩ 504).1) (hn : ¬ asc cs) : decS l = none := by
  unfold decS
  split
  · rfl
  split
  · rfl
  cases hd : decN (numS ⟨l, false⟩ 504).1 (numS ⟨l, false⟩ 504).2.l with
  | none => rfl
  | some x =>
    obtain ⟨cs2, r2⟩ := x
    have e := decN_take h hd hk
    have hl := decN_len h
    simp only
    rw [if_neg]
    rintro ⟨_, ha⟩
    refine hn fun i h0 hi => ?_
    have hl2 := decN_len hd
    have e1 : ∀ j, j < k → ca cs j = ca cs2 j := fun j hj => by
      unfold ca; rw [← e]; simp [List.getD, hj]
    rw [e1 i (by omega), e1 (i - 1) (by omega)]
    exact ha i h0 (by omega)
theorem decS_end {l r : List Nat} {cs : List Ce} (h1 : l.length ≤ 504) (h2 : (numS ⟨l, false⟩ 504).2.wr = false) (h : decN (numS ⟨l, false⟩ 504).1 (numS ⟨l, false⟩ 504).2.l = some (cs, r)) :
    (r = [] → asc cs → decS l = some cs) ∧ (r ≠ [] → decS l = none) ∧ (¬ asc cs → decS l = none) := by
  unfold decS
  rw [if_neg (by omega), if_neg (by rw [h2]; simp), h]
  simp only
  refine ⟨fun h3 h4 => by rw [if_pos ⟨h3, h4⟩], fun h3 => by rw [if_neg (fun h => h3 h.1)], fun h3 => by rw [if_neg (fun h => h3 h.2)]⟩
theorem decS_some {l : List Nat} {cs : List Ce} (h : decS l = some cs) : l.length ≤ 504 ∧ (numS ⟨l, false⟩ 504).2.wr = false ∧ decN (numS ⟨l, false⟩ 504).1 (numS ⟨l, false⟩ 504).2.l = some (cs, []) ∧ asc cs := by
  unfold decS at h
  split at h
  · cases h
  rename_i h1
  split at h
  · cases h
  rename_i h2
  split at h
  · cases h
  rename_i cs1 r h3
  split at h
  · rename_i h4
    cases h
    refine ⟨by omega, by simpa using h2, ?_, h4.2⟩
    rw [h3, h4.1]
  · cases h
end Go.Proofs.YtbgkjniagedcnaaGreatDoor
namespace Go.Proofs.YtbgkjniagedcnaaGreatDoor
open Go Go.RowKit

/-! ### More bytes behind -/
theorem lead_app : ∀ (l x : List Nat), lead l ≤ lead (l ++ x)
  | [], _ => Nat.zero_le _
  | y :: r, x => by
    have := lead_app r x
    rw [List.cons_append]
    unfold lead
    split <;> omega
theorem gt_ext {l : List Nat} (x : List Nat) (h : (gt l).2.2 = 0) : gt (l ++ x) = gt l := by
  have hl := gt_len l h
  have hc : ¬ (9 ≤ lead l ∧ 1 < l.getD 9 0) := fun hx => by rw [gt_range hx.1 hx.2] at h; cases h
  have h2 : ¬ l.length ≤ lead l := fun hx => by
    have h3 : (gt l).2.2 = 6 := by unfold gt; rw [if_neg hc, if_pos hx]
    omega
  have h3 : ¬ (0 < lead l ∧ l.getD (lead l) 0 = 0) := fun hx => by
    have h3 : (gt l).2.2 = 3 := by unfold gt; rw [if_neg hc, if_neg h2, if_pos hx]
    omega
  have e : gt l = (valR (l.take (lead l + 1)), lead l + 1, 0) := by unfold gt; rw [if_neg hc, if_neg h2, if_neg h3]
  have h9 : lead l ≤ 9 := by
    rcases Nat.lt_or_ge 9 (lead l) with h4 | h4
    · have := lead_ge l 9 h4; omega
    · exact h4
  rw [e]
  have g := getD_left l x (lead l) (by omega)
  have := lead_at l (by omega)
  have e2 := gt_hit (l := l ++ x) (k := lead l) (lead_app l x) (by rw [List.length_append]; omega) h9 (by rw [g]; exact this) (fun hk => by rw [g]; rw [hk] at hc ⊢; omega) (fun h0 => by rw [g]; omega)
  rw [e2, List.take_append_of_le_length (by omega)]
theorem numS_ext {S : RS} {m : Nat} (x : List Nat) (b : Bool) (h : (numS S m).2.wr = false) : numS ⟨S.l ++ x, b⟩ m = ((numS S m).1, ⟨(numS S m).2.l ++ x, false⟩) := by
  obtain ⟨e, h1, h2⟩ := numS_ok h
  have e2 := gt_ext x h1
  have hl := gt_len _ h1
  rw [numS_hit (by show (gt (S.l ++ x)).2.2 = 0; rw [e2]; exact h1) (by show (gt (S.l ++ x)).1 ≤ m; rw [e2]; exact h2), e]
  show ((gt (S.l ++ x)).1, RS.mk ((S.l ++ x).drop (gt (S.l ++ x)).2.1) false) = _
  rw [e2, List.drop_append_of_le_length hl.2.1]
theorem bytesS_ok {S : RS} {m : Nat} (h : (bytesS S m).2.wr = false) : (numS S m).2.wr = false ∧ (numS S m).1 ≤ (numS S m).2.l.length ∧ bytesS S m = ((numS S m).2.l.take (numS S m).1, ⟨(numS S m).2.l.drop (numS S m).1, false⟩) := by
  by_cases hc : (numS S m).2.wr = false ∧ (numS S m).1 ≤ (numS S m).2.l.length
  · exact ⟨hc.1, hc.2, bytesS_hit hc.1 hc.2⟩
  · rw [bytesS_miss hc] at h; cases h
theorem bytesS_wr {S : RS} {m : Nat} (h : (bytesS S m).2.wr = true) : bytesS S m = ([], ⟨[], true⟩) := by
  by_cases hc : (numS S m).2.wr = false ∧ (numS S m).1 ≤ (numS S m).2.l.length
  · rw [bytesS_hit hc.1 hc.2] at h; cases h
  · exact bytesS_miss hc
theorem bytesS_ext {S : RS} {m : Nat} (x : List Nat) (b : Bool) (h : (bytesS S m).2.wr = false) : bytesS ⟨S.l ++ x, b⟩ m = ((bytesS S m).1, ⟨(bytesS S m).2.l ++ x, false⟩) := by
  obtain ⟨h1, h2, e⟩ := bytesS_ok h
  have e2 := numS_ext x b h1
  rw [bytesS_hit (by rw [e2]) (by rw [e2]; show _ ≤ (_ ++ x).length; rw [List.length_append]; omega), e, e2]
  show ((_ ++ x).take _, RS.mk ((_ ++ x).drop _) false) = _
  rw [List.take_append_of_le_length h2, List.drop_append_of_le_length h2]
theorem cellS_bytes {l r : List Nat} {c : Ce} (h : cellS l = some (c, r)) : (bytesS ⟨l, false⟩ 40).2.wr = false ∧ (numS (bytesS ⟨l, false⟩ 40).2 2048).2.wr = false := by
  have h2 : (numS (bytesS ⟨l, false⟩ 40).2 2048).2.wr = false := by
    cases hw : (numS (bytesS ⟨l, false⟩ 40).2 2048).2.wr with
    | false => rfl
    | true => unfold cellS at h; simp only [hw, if_true] at h; cases h
  refine ⟨?_, h2⟩
  cases hw : (bytesS ⟨l, false⟩ 40).2.wr with
  | false => rfl
  | true =>
    rw [bytesS_wr hw] at h2
    have := numS_nil 2048 (S := ⟨[], true⟩) rfl
    rw [this] at h2
    cases h2
theorem getD_app (l x : List Nat) (i : Nat) (h : i < l.length) : (l ++ x).getD i 0 = l.getD i 0 := getD_left l x i h
theorem cellS_ext {l r : List Nat} {c : Ce} (x : List Nat) (h : cellS l = some (c, r)) : cellS (l ++ x) = some (c, r ++ x) := by
  obtain ⟨h1, h2⟩ := cellS_bytes h
  have e1 := bytesS_ext x false h1
  have e2 := numS_ext x false h2
  unfold cellS at h ⊢
  simp only at e1 e2 h ⊢
  rw [h2] at h
  rw [e1]
  simp only at e2 ⊢
  rw [e2]
  simp only [Bool.false_eq_true, if_false] at h ⊢
  generalize (numS (bytesS ⟨l, false⟩ 40).2 2048).1 = n at *
  generalize (numS (bytesS ⟨l, false⟩ 40).2 2048).2.l = q at *
  by_cases hn : n ≤ 64
  · rw [if_pos hn] at h ⊢
    by_cases hq : n ≤ q.length
    · rw [if_pos hq] at h
      cases h
      rw [if_pos (by rw [List.length_append]; omega), List.take_append_of_le_length hq, List.drop_append_of_le_length hq]
    · rw [if_neg hq] at h; cases h
  · rw [if_neg hn] at h ⊢
    by_cases hq : 2 ≤ q.length
    · rw [if_pos hq] at h
      cases h
      rw [if_pos (by rw [List.length_append]; omega), List.drop_append_of_le_length hq, getD_app _ _ _ (by omega), getD_app _ _ _ (by omega)]
    · rw [if_neg hq] at h; cases h
theorem decN_ext {n : Nat} {l r : List Nat} {cs : List Ce} (x : List Nat) (h : decN n l = some (cs, r)) : decN n (l ++ x) = some (cs, r ++ x) := by
  induction n generalizing cs r with
  | zero => rw [decN] at h ⊢; cases h; rfl
  | succ n ih =>
    rw [decN] at h
    split at h
    · cases h
    · rename_i cs1 r1 h1
      split at h
      · cases h
      · rename_i c r2 h2
        split at h
        · rename_i hm
          cases h
          exact decN_succ (ih h1) (cellS_ext x h2) hm
        · cases h
theorem decS_ext {l x : List Nat} {cs : List Ce} (h : decS l = some cs) (hx : x ≠ []) : decS (l ++ x) = none := by
  obtain ⟨h1, h2, h3, _⟩ := decS_some h
  rcases Nat.lt_or_ge 504 (l ++ x).length with h4 | h4
  · exact decS_long h4
  · have e := numS_ext x false h2
    have e3 := decN_ext x h3
    simp only at e
    have := decS_end (l := l ++ x) h4 (by rw [e]) (by rw [e]; exact e3)
    exact this.2.1 (by simpa using hx)

/-! ### What was encoded is decoded -/
theorem empty_of (s : ByteArray) (h : s.size = 0) : s = ByteArray.empty := by
  apply bl_inj
  have := bl_size s
  rw [h] at this
  rw [List.eq_nil_of_length_eq_zero this]; rfl
theorem cellS_put {c : Ce} (h : mayB c = true) (r : List Nat) : cellS (oneS c ++ r) = some (c, r) := by
  obtain ⟨k, v, n, p⟩ := c
  have hk := may_k h
  have hn0 := may_n0 h
  have hn := may_n h
  have e : oneS ⟨k, v, n, p⟩ ++ r = vb (bn k).length ++ (bn k ++ (vb n.toNat ++ (tailS ⟨k, v, n, p⟩ ++ r))) := by
    unfold oneS; rw [bn_len]; simp only [List.append_assoc]
  have e1 := bytesS_put (bn k) (vb n.toNat ++ (tailS ⟨k, v, n, p⟩ ++ r)) false 40 (by rw [bn_len]; simp only at hk; omega) (by rw [bn_len]; simp only at hk; omega)
  have e2 := numS_put n.toNat 2048 (tailS ⟨k, v, n, p⟩ ++ r) false (by simp only at hn; omega) (by simp only at hn; omega)
  rw [e]
  unfold cellS
  simp only [e1, e2, Bool.false_eq_true, if_false]
  simp only at hn0 hn
  by_cases h1 : n ≤ 64
  · have h2 := may_in h h1
    simp only at h2
    have et : tailS ⟨k, v, n, p⟩ = bn v := by unfold tailS; rw [if_pos h1]
    have el : (bn v).length = n.toNat := by rw [bn_len]; omega
    rw [et, if_pos (by omega), if_pos (by rw [List.length_append]; omega), ← el, List.take_left, List.drop_left, bstr_bn, bstr_bn]
    have e3 : (((bn v).length : Nat) : Int) = n := by rw [el]; omega
    rw [e3, h2.2]
  · have h2 := may_out h h1
    simp only at h2
    have et : tailS ⟨k, v, n, p⟩ = [p.toNat / 256 % 256, p.toNat % 256] := by unfold tailS; rw [if_neg h1]
    rw [et, if_neg (by omega), if_pos (by simp), bstr_bn, empty_of v h2.1]
    have e3 : (([p.toNat / 256 % 256, p.toNat % 256] ++ r).getD 0 0 * 256 + ([p.toNat / 256 % 256, p.toNat % 256] ++ r).getD 1 0 : Nat) = p.toNat := by
      show p.toNat / 256 % 256 * 256 + p.toNat % 256 = _; omega
    have e4 : ((p.toNat : Nat) : Int) = p := by omega
    have e5 : ((n.toNat : Nat) : Int) = n := by omega
    rw [e3, e4, e5]
    rfl
theorem drop_ca (cs : List Ce) (k : Nat) (h : k < cs.length) : cs.drop k = ca cs k :: cs.drop (k + 1) := by
  rw [List.drop_eq_getElem_cons h]; simp [ca, List.getD, h]
theorem decN_put {cs : List Ce} (h : allMay cs) (r : List Nat) (k : Nat) (hk : k ≤ cs.length) : decN k (body cs ++ r) = some (cs.take k, body (cs.drop k) ++ r) := by
  induction k with
  | zero => rw [decN]; rfl
  | succ k ih =>
    have h1 := ih (by omega)
    have e : body (cs.drop k) ++ r = oneS (ca cs k) ++ (body (cs.drop (k + 1)) ++ r) := by rw [drop_ca cs k (by omega), body, List.append_assoc]
    rw [take_ca cs k (by omega)]
    exact decN_succ h1 (by rw [e]; exact cellS_put (h k (by omega)) _) (h k (by omega))
theorem decS_load {cs : List Ce} (h : allMay cs) (ha : asc cs) (hl : (loadS cs).length ≤ 504) : decS (loadS cs) = some cs := by
  have hb := body_pos cs
  have hll := load_len cs
  have e := numS_put cs.length 504 (body cs) false (by omega) (by omega)
  have e2 := decN_put h [] cs.length (Nat.le_refl _)
  rw [List.append_nil, List.append_nil, List.take_of_length_le (Nat.le_refl _), List.drop_of_length_le (Nat.le_refl _)] at e2
  have := decS_end (l := loadS cs) (r := []) (cs := cs) hl (by unfold loadS; rw [e]) (by unfold loadS; rw [e]; exact e2)
  exact this.1 rfl ha
theorem decS_cut {l : List Nat} {cs : List Ce} (h : decS l = some cs) (h0 : 0 < l.length) : decS (l.take (l.length - 1)) = none := by
  cases h1 : decS (l.take (l.length - 1)) with
  | none => rfl
  | some cs2 =>
    have h2 := decS_ext (x := l.drop (l.length - 1)) h1 (fun hx => by have := congrArg List.length hx; rw [List.length_drop] at this; simp at this; omega)
    rw [List.take_append_drop, h] at h2
    cases h2
theorem load_pos (cs : List Ce) : 0 < (loadS cs).length := by
  have := load_len cs
  have := vs_pos cs.length
  omega

/-! ### A key's place -/
theorem blt_trans {a b c : ByteArray} (h : blt a b = true) (k : blt b c = true) : blt a c = true := by
  rw [blt_iff] at *; grind
theorem blt_self (a : ByteArray) : blt a a = false := by rw [blt_not]; grind
def findS : List Ce → ByteArray → Nat
  | [], _ => 0
  | c :: r, key => if blt c.k key = true then findS r key + 1 else 0
theorem findS_le : ∀ (cs : List Ce) (key : ByteArray), findS cs key ≤ cs.length
  | [], _ => Nat.le_refl _
  | c :: r, key => by
    have := findS_le r key
    unfold findS
    split
    · rw [List.length_cons]; omega
    · exact Nat.zero_le _
theorem findS_lt : ∀ (cs : List Ce) (key : ByteArray) (i : Nat), i < findS cs key → blt (ca cs i).k key = true
  | [], _, i, h => by simp [findS] at h
  | c :: r, key, i, h => by
    unfold findS at h
    split at h
    · rename_i h1
      cases i with
      | zero => exact h1
      | succ i => exact findS_lt r key i (by omega)
    · omega
theorem findS_at : ∀ (cs : List Ce) (key : ByteArray), findS cs key < cs.length → blt (ca cs (findS cs key)).k key = false
  | [], _, h => by simp at h
  | c :: r, key, h => by
    unfold findS at h ⊢
    split
    · rename_i h1
      rw [if_pos h1, List.length_cons] at h
      exact findS_at r key (by omega)
    · rename_i h1
      have : ca (c :: r) 0 = c := rfl
      rw [this]; simpa using h1
theorem asc_lt {cs : List Ce} (ha : asc cs) : ∀ (j i : Nat), i < j → j < cs.length → blt (ca cs i).k (ca cs j).k = true
  | 0, i, h, _ => by omega
  | j + 1, i, h, hj => by
    have h1 := ha (j + 1) (by omega) hj
    rw [Nat.add_sub_cancel] at h1
    rcases Nat.lt_or_ge i j with h2 | h2
    · exact blt_trans (asc_lt ha j i h2 (by omega)) h1
    · obtain rfl : i = j := by omega
      exact h1
theorem findS_ge {cs : List Ce} (ha : asc cs) (key : ByteArray) (i : Nat) (hi : findS cs key ≤ i) (hl : i < cs.length) : blt (ca cs i).k key = false := by
  have h1 := findS_at cs key (by omega)
  rcases Nat.lt_or_ge (findS cs key) i with h2 | h2
  · have h3 := asc_lt ha i _ h2 hl
    cases h4 : blt (ca cs i).k key with
    | false => rfl
    | true => rw [blt_trans h3 h4] at h1; cases h1
  · obtain rfl : i = findS cs key := by omega
    exact h1
theorem findS_key {cs : List Ce} (ha : asc cs) (i : Nat) (hi : i < cs.length) : findS cs (ca cs i).k = i := by
  rcases Nat.lt_or_ge (findS cs (ca cs i).k) i with h | h
  · have h1 := findS_at cs (ca cs i).k (by omega)
    rw [asc_lt ha i _ h hi] at h1; cases h1
  · rcases Nat.lt_or_ge i (findS cs (ca cs i).k) with h2 | h2
    · have h1 := findS_lt cs (ca cs i).k i h2
      rw [blt_self] at h1; cases h1
    · omega
def isAt (cs : List Ce) (key : ByteArray) : Bool := decide (findS cs key < cs.length) && ((ca cs (findS cs key)).k.toList == key.toList)
theorem isAt_key {cs : List Ce} (ha : asc cs) (i : Nat) (hi : i < cs.length) : isAt cs (ca cs i).k = true := by
  unfold isAt; rw [findS_key ha i hi]; simp [hi]
theorem asc_nil : asc [] := fun i _ h => by simp at h

/-! ### What the program's reader takes -/
def plainS (S : RS) : Nat → List Nat × RS
  | 0 => ([], S)
  | n + 1 => ((plainS S n).1 ++ [(byteS (plainS S n).2).1], (byteS (plainS S n).2).2)
theorem plainS_len (S : RS) : ∀ n, (plainS S n).1.length = n
  | 0 => rfl
  | n + 1 => by rw [plainS, List.length_append, plainS_len S n]; rfl
theorem plainS_ok (l : List Nat) : ∀ n, n ≤ l.length → plainS ⟨l, false⟩ n = (l.take n, ⟨l.drop n, false⟩)
  | 0, _ => rfl
  | n + 1, h => by
    have h1 := plainS_ok l n (by omega)
    have hne : l.drop n ≠ [] := fun hx => by have := congrArg List.length hx; rw [List.length_drop] at this; simp at this; omega
    rw [plainS, h1, byteS_cons hne]
    simp only
    rw [List.drop_drop, List.take_succ_eq_append_getElem (by omega : n < l.length)]
    simp [List.getD, List.getElem?_drop, show n < l.length by omega]
theorem plainS_short (S : RS) : ∀ n, S.l.length < n → (plainS S n).2 = ⟨[], true⟩
  | 0, h => by omega
  | n + 1, h => by
    have key : ∀ m, S.l.length ≤ m → (plainS S m).2.l = [] := by
      intro m
      induction m with
      | zero => intro hm; show S.l = []; exact List.eq_nil_of_length_eq_zero (by omega)
      | succ m ih =>
        intro hm
        rw [plainS]
        by_cases h0 : (plainS S m).2.l = []
        · rw [byteS_nil h0]
        · rw [byteS_cons h0]
          show (plainS S m).2.l.drop 1 = []
          have hd : ∀ m, m ≤ S.l.length → (plainS S m).2.l = S.l.drop m := by
            intro m
            induction m with
            | zero => intro _; rfl
            | succ m ih2 =>
              intro hm
              rw [plainS]
              have h3 := ih2 (by omega)
              have hne : (plainS S m).2.l ≠ [] := fun hx => by rw [h3] at hx; have := congrArg List.length hx; rw [List.length_drop] at this; simp at this; omega
              rw [byteS_cons hne]
              show (plainS S m).2.l.drop 1 = _
              rw [h3, List.drop_drop]
          rcases Nat.lt_or_ge m S.l.length with h4 | h4
          · rw [hd m (by omega), List.drop_drop]
            exact List.drop_of_length_le (by omega)
          · exact absurd (ih h4) h0
    rw [plainS, byteS_nil (key n (by omega))]
def tkS (S : RS) : Ce × RS :=
  let B := bytesS S 40
  let N := numS B.2 2048
  if N.1 ≤ 64 then (⟨bstr B.1, bstr (plainS N.2 N.1).1, N.1, 0⟩, (plainS N.2 N.1).2)
  else (⟨bstr B.1, ByteArray.empty, N.1, (numL (plainS N.2 2).1 : Nat)⟩, (plainS N.2 2).2)
theorem tk_some {l r : List Nat} {c : Ce} (h : cellS l = some (c, r)) : tkS ⟨l, false⟩ = (c, ⟨r, false⟩) := by
  obtain ⟨_, h2⟩ := cellS_bytes h
  unfold cellS at h
  unfold tkS
  simp only at h ⊢
  rw [h2] at h
  have rs : ∀ x : RS, x.wr = false → x = ⟨x.l, false⟩ := by rintro ⟨a, b⟩ h; cases h; rfl
  have e := rs _ h2
  rw [e]
  generalize (numS (bytesS ⟨l, false⟩ 40).2 2048).1 = n at *
  generalize (numS (bytesS ⟨l, false⟩ 40).2 2048).2.l = q at *
  simp only [Bool.false_eq_true, if_false] at h
  by_cases hn : n ≤ 64
  · rw [if_pos hn] at h ⊢
    by_cases hq : n ≤ q.length
    · rw [if_pos hq] at h
      cases h
      rw [plainS_ok q n hq]
    · rw [if_neg hq] at h; cases h
  · rw [if_neg hn] at h ⊢
    by_cases hq : 2 ≤ q.length
    · rw [if_pos hq] at h
      cases h
      rw [plainS_ok q 2 hq]
      have : numL (q.take 2) = q.getD 0 0 * 256 + q.getD 1 0 := by
        match q, hq with
        | a :: b :: t, _ => show (0 * 256 + a) * 256 + b = _; simp
      rw [this]
    · rw [if_neg hq] at h; cases h
theorem tk_none {l : List Nat} (h : cellS l = none) : (tkS ⟨l, false⟩).2.wr = true := by
  unfold cellS at h
  unfold tkS
  simp only at h ⊢
  cases hw : (numS (bytesS ⟨l, false⟩ 40).2 2048).2.wr with
  | true =>
    rw [numS_wr hw]
    rfl
  | false =>
    rw [hw] at h
    simp only [Bool.false_eq_true, if_false] at h
    by_cases hn : (numS (bytesS ⟨l, false⟩ 40).2 2048).1 ≤ 64
    · rw [if_pos hn] at h ⊢
      by_cases hq : (numS (bytesS ⟨l, false⟩ 40).2 2048).1 ≤ (numS (bytesS ⟨l, false⟩ 40).2 2048).2.l.length
      · rw [if_pos hq] at h; cases h
      · simp only; rw [plainS_short _ _ (by omega)]
    · rw [if_neg hn] at h ⊢
      by_cases hq : 2 ≤ (numS (bytesS ⟨l, false⟩ 40).2 2048).2.l.length
      · rw [if_pos hq] at h; cases h
      · simp only; rw [plainS_short _ _ (by omega)]
theorem tk_wr (b : Bool) : mayB (tkS ⟨[], b⟩).1 = false := by
  have e : bytesS ⟨[], b⟩ 40 = ([], ⟨[], true⟩) := bytesS_miss (fun h => by rw [numS_nil 40 (S := ⟨[], b⟩) rfl] at h; cases h.1)
  unfold tkS mayB
  simp only [e]
  have : ∀ c : Ce, c.k = bstr [] → okK c.k = false := fun c h => by rw [h]; rfl
  split <;> rw [this _ rfl] <;> rfl
end Go.Proofs.YtbgkjniagedcnaaGreatDoor
