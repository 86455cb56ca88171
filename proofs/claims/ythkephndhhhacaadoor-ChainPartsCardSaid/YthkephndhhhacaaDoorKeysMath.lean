/-
  Keys and spans of keys, as functions on texts: what both sides answer, and what the laws ask of it. No program.
-/
import Derived.Sort.Walk0
import Derived.Lib.MinMaxS
import Derived.Below
namespace Go.Proofs.YthkephndhhhacaaDoor
open Go

/-- Does a text stand ahead of another one? -/
def blt (a b : ByteArray) : Bool := Op.bytesLess a.toList b.toList
abbrev bl (s : ByteArray) : List UInt8 := s.data.toList
theorem blt_eq (a b : ByteArray) : blt a b = decide (bl a < bl b) := by
  unfold blt; rw [bytesLess_eq, Lib.toList_data, Lib.toList_data]
theorem blt_iff (a b : ByteArray) : blt a b = true ↔ bl a < bl b := by rw [blt_eq]; simp
theorem blt_not (a b : ByteArray) : blt a b = false ↔ ¬ bl a < bl b := by rw [blt_eq]; simp
theorem bl_inj {a b : ByteArray} (h : bl a = bl b) : a = b := by
  obtain ⟨⟨x⟩⟩ := a; obtain ⟨⟨y⟩⟩ := b
  simp at h; rw [h]
/-- 'not above' as the model has it. -/
theorem ble_eq (a b : ByteArray) : (Op.bytesLess a.toList b.toList || a.toList == b.toList) = !blt b a := by
  rw [blt_eq, bytesLess_eq, Lib.toList_data, Lib.toList_data, Bool.eq_iff_iff]
  simp
  constructor
  · rintro (h | h) <;> grind
  · intro h
    by_cases h2 : a.data.toList < b.data.toList
    · exact .inl h2
    · right
      have : a.data.toList = b.data.toList := by grind
      exact (congrArg ByteArray.data (bl_inj this) : _)
structure Sp where
  lo : ByteArray
  hi : ByteArray
  op : Bool
def Sp.v (s : Sp) : Value := .agg #[.string s.lo, .string s.hi, .bool s.op]
def hasS (s : Sp) (k : ByteArray) : Bool := !blt k s.lo && (s.op || blt k s.hi)
def empS (s : Sp) : Bool := !s.op && !blt s.lo s.hi
def endS (a b : Sp) : Bool := b.op || (!a.op && !blt b.hi a.hi)
def withS (a b : Sp) : Bool := empS a || (!empS b && (!blt a.lo b.lo && endS a b))
def maxB (x y : ByteArray) : ByteArray := if blt x y then y else x
def minB (x y : ByteArray) : ByteArray := if blt y x then y else x
def meetHi (a b : Sp) : ByteArray := if a.op then (if b.op then ByteArray.empty else b.hi) else if b.op then a.hi else minB a.hi b.hi
def meetS (a b : Sp) : Sp := ⟨maxB a.lo b.lo, meetHi a b, a.op && b.op⟩
/-- The least text above all that begin with it, if there is one. -/
def nxt : List UInt8 → Option (List UInt8)
  | [] => none
  | c :: r => match nxt r with
    | some h => some (c :: h)
    | none => if c = 255 then none else some [c + 1]
theorem nxt_cons (c : UInt8) (r : List UInt8) : nxt (c :: r) = match nxt r with
    | some h => some (c :: h)
    | none => if c = 255 then none else some [c + 1] := rfl
def strL (l : List UInt8) : ByteArray := ⟨l.toArray⟩
theorem bl_strL (l : List UInt8) : bl (strL l) = l := rfl
def ofS (p : ByteArray) : Sp := match nxt (bl p) with
  | none => ⟨p, ByteArray.empty, true⟩
  | some h => ⟨p, strL h, false⟩
def begS (s p : ByteArray) : Bool := decide (bl p <+: bl s)
def nextS (k : ByteArray) : ByteArray := k ++ ⟨#[0]⟩

theorem maxB_eq (x y : ByteArray) : Lib.maxS x y = maxB x y := by
  unfold Lib.maxS maxB; rw [blt_eq]; simp
theorem minB_eq (x y : ByteArray) : Lib.minS x y = minB x y := by
  unfold Lib.minS minB
  cases h : blt y x with
  | true =>
    have h1 := (blt_iff _ _).1 h
    rw [if_neg (by rintro (h2 | h2) <;> grind), if_pos rfl]
  | false =>
    have h1 := (blt_not _ _).1 h
    have h3 : bl x < bl y ∨ bl x = bl y := by
      by_cases h2 : bl x < bl y
      · exact .inl h2
      · exact .inr (by grind)
    rw [if_pos h3]; rfl

theorem lt_cons (a b : UInt8) (x y : List UInt8) : a :: x < b :: y ↔ a < b ∨ a = b ∧ x < y := List.cons_lt_cons_iff
theorem pre_cons (a b : UInt8) (x y : List UInt8) : a :: x <+: b :: y ↔ a = b ∧ x <+: y := List.cons_prefix_cons
theorem u8_lt_add (c : UInt8) (h : c ≠ 255) : c < c + 1 := by
  have h2 : c.toNat ≠ 255 := fun e => h (UInt8.toNat_inj.1 e)
  have := c.toNat_lt
  rw [UInt8.lt_iff_toNat_lt, UInt8.toNat_add]; simp; omega
theorem u8_lt_add_iff (c x : UInt8) (h : c ≠ 255) : x < c + 1 ↔ x < c ∨ x = c := by
  have h2 : c.toNat ≠ 255 := fun e => h (UInt8.toNat_inj.1 e)
  have := c.toNat_lt
  rw [UInt8.lt_iff_toNat_lt, UInt8.lt_iff_toNat_lt, UInt8.toNat_add, ← UInt8.toNat_inj]; simp; omega
theorem u8_not_lt_255 (x : UInt8) : ¬ 255 < x := by
  have := x.toNat_lt
  rw [UInt8.lt_iff_toNat_lt]; simp; omega
theorem u8_lt_255 (x : UInt8) (h : x ≠ 255) : x < 255 := by
  have h2 : x.toNat ≠ 255 := fun e => h (UInt8.toNat_inj.1 e)
  have := x.toNat_lt
  rw [UInt8.lt_iff_toNat_lt]; simp; omega
theorem nxt_pre : ∀ (p k : List UInt8), (match nxt p with | none => ¬ k < p | some h => ¬ k < p ∧ k < h) ↔ p <+: k
  | [], k => by simp [nxt]
  | c :: r, [] => by
    have h1 : ([] : List UInt8) < c :: r := List.nil_lt_cons c r
    have h2 : ¬ c :: r <+: [] := by simp
    cases nxt (c :: r) <;> simp [h1, h2]
  | c :: r, x :: t => by
    have ih := nxt_pre r t
    rw [pre_cons, ← ih, nxt_cons]
    cases hn : nxt r with
    | some h =>
      simp only [lt_cons]
      constructor
      · rintro ⟨h1, h2⟩
        have : x = c := by grind
        subst this
        exact ⟨rfl, fun h3 => h1 (.inr ⟨rfl, h3⟩), by rcases h2 with h2 | h2; grind; exact h2.2⟩
      · rintro ⟨rfl, h1, h2⟩
        exact ⟨by rintro (h3 | h3); grind; exact h1 h3.2, .inr ⟨rfl, h2⟩⟩
    | none =>
      by_cases hc : c = 255
      · simp only [if_pos hc, lt_cons]
        subst hc
        constructor
        · intro h1
          by_cases hx : x = 255
          · exact ⟨hx.symm, fun h3 => h1 (.inr ⟨hx, h3⟩)⟩
          · exact absurd (.inl (u8_lt_255 x hx)) h1
        · rintro ⟨rfl, h1⟩ (h3 | h3)
          · exact u8_not_lt_255 _ h3
          · exact h1 h3.2
      · simp only [if_neg hc, lt_cons]
        have hnl : ¬ t < [] := List.not_lt_nil t
        rw [u8_lt_add_iff c x hc]
        constructor
        · rintro ⟨h1, h2⟩
          have : x = c := by grind
          subst this
          exact ⟨rfl, fun h3 => h1 (.inr ⟨rfl, h3⟩)⟩
        · rintro ⟨rfl, h1⟩
          exact ⟨by rintro (h3 | h3); grind; exact h1 h3.2, .inl (.inr rfl)⟩
theorem nxt_app : ∀ (p k h : List UInt8), nxt p = some h → ∃ h', nxt (p ++ k) = some h' ∧ ¬ h < h'
  | [], _, _, hp => by cases hp
  | c :: r, k, h, hp => by
    rw [nxt_cons] at hp
    rw [List.cons_append, nxt_cons]
    cases hn : nxt r with
    | some h0 =>
      rw [hn] at hp
      obtain ⟨h', e, hl⟩ := nxt_app r k h0 hn
      cases hp
      rw [e]
      refine ⟨_, rfl, ?_⟩
      rw [lt_cons]
      rintro (h3 | h3)
      · grind
      · exact hl h3.2
    | none =>
      rw [hn] at hp
      by_cases hc : c = 255
      · simp only [if_pos hc] at hp; cases hp
      · simp only [if_neg hc] at hp
        cases hp
        cases hn2 : nxt (r ++ k) with
        | some h' =>
          refine ⟨_, rfl, ?_⟩
          rw [lt_cons]
          have := u8_lt_add c hc
          rintro (h3 | h3) <;> grind
        | none =>
          exact ⟨[c + 1], by simp only [if_neg hc], by grind⟩
theorem has_of (p k : ByteArray) : hasS (ofS p) k = begS k p := by
  have h := nxt_pre (bl p) (bl k)
  unfold hasS ofS begS
  rw [Bool.eq_iff_iff, decide_eq_true_iff, ← h]
  cases nxt (bl p) with
  | none => simp [blt_not]
  | some x => simp [blt_not, blt_iff, bl_strL]
theorem emp_of (p : ByteArray) : empS (ofS p) = false := by
  have h := (nxt_pre (bl p) (bl p)).2 (List.prefix_refl _)
  unfold empS ofS
  cases hn : nxt (bl p) with
  | none => rfl
  | some x =>
    rw [hn] at h
    have : blt p (strL x) = true := (blt_iff _ _).2 h.2
    simp [this]
theorem bl_app (p k : ByteArray) : bl (p ++ k) = bl p ++ bl k := by
  show (p ++ k).data.toList = _
  rw [ByteArray.data_append, Array.toList_append]
theorem with_of (p k : ByteArray) : withS (ofS (p ++ k)) (ofS p) = true := by
  have h := (nxt_pre (bl p) (bl (p ++ k))).2 (by rw [bl_app]; exact List.prefix_append _ _)
  unfold withS
  rw [emp_of, emp_of]
  unfold endS ofS
  cases hn : nxt (bl p) with
  | none =>
    rw [hn] at h
    have h1 : blt (p ++ k) p = false := (blt_not _ _).2 h
    cases nxt (bl (p ++ k)) <;> simp [h1]
  | some x =>
    rw [hn] at h
    obtain ⟨x', e, hl⟩ := nxt_app (bl p) (bl k) x hn
    have h1 : blt (p ++ k) p = false := (blt_not _ _).2 h.1
    have h2 : blt (strL x) (strL x') = false := (blt_not _ _).2 hl
    rw [bl_app, e]
    simp [h1, h2]
theorem has_meet (x y : Sp) (k : ByteArray) : hasS (meetS x y) k = (hasS x k && hasS y k) := by
  unfold hasS meetS meetHi maxB minB
  simp only [blt_eq]
  cases x.op <;> cases y.op <;> simp <;> split <;> (try split) <;> rw [Bool.eq_iff_iff] <;> simp <;> grind
theorem with_has (x y : Sp) (k : ByteArray) (h1 : withS x y = true) (h2 : hasS x k = true) : hasS y k = true := by
  revert h1 h2
  unfold withS hasS empS endS
  simp only [blt_eq]
  cases x.op <;> cases y.op <;> simp <;> grind
theorem emp_has (x : Sp) (k : ByteArray) (h1 : empS x = true) : hasS x k = false := by
  revert h1
  unfold hasS empS
  simp only [blt_eq]
  cases x.op <;> simp <;> grind
theorem nemp_has (x : Sp) (h1 : empS x = false) : hasS x x.lo = true := by
  revert h1
  unfold hasS empS
  simp only [blt_eq]
  cases x.op <;> simp <;> grind
theorem lt_app_zero : ∀ l : List UInt8, l < l ++ [0]
  | [] => by simp
  | c :: r => by rw [List.cons_append, lt_cons]; exact .inr ⟨rfl, lt_app_zero r⟩
theorem none_between : ∀ l p : List UInt8, l < p → ¬ p < l ++ [0]
  | [], [], h => absurd h (by simp)
  | [], x :: t, _ => by
    rw [List.nil_append, lt_cons]
    rintro (h | h)
    · rw [UInt8.lt_iff_toNat_lt] at h; simp at h
    · exact absurd h.2 (by simp)
  | c :: r, [], h => absurd h (by simp)
  | c :: r, x :: t, h => by
    rw [lt_cons] at h
    rw [List.cons_append, lt_cons]
    rintro (h2 | ⟨rfl, h2⟩)
    · rcases h with h | h <;> grind
    · rcases h with h | h
      · grind
      · exact none_between r t h.2 h2
theorem next_lt (k : ByteArray) : blt k (nextS k) = true := by
  rw [blt_iff]; unfold nextS; rw [bl_app]; exact lt_app_zero _
theorem next_none (k p : ByteArray) : (blt k p && blt p (nextS k)) = false := by
  rw [Bool.eq_false_iff]
  intro h
  rw [Bool.and_eq_true, blt_iff, blt_iff] at h
  unfold nextS at h
  rw [bl_app] at h
  exact none_between _ _ h.1 h.2
theorem with_trans (x y z : Sp) (h1 : withS x y = true) (h2 : withS y z = true) : withS x z = true := by
  revert h1 h2
  unfold withS empS endS
  simp only [blt_eq]
  cases x.op <;> cases y.op <;> cases z.op <;> simp <;> grind
theorem with_refl (x : Sp) : withS x x = true := by
  unfold withS empS endS
  simp only [blt_eq]
  cases x.op <;> simp <;> grind
theorem with_emp (x y : Sp) (h : empS x = true) : withS x y = true := by
  unfold withS; rw [h]; rfl
theorem meet_left (x y : Sp) : withS (meetS x y) x = true := by
  unfold withS empS endS meetS meetHi maxB minB
  simp only [blt_eq]
  cases x.op <;> cases y.op <;> simp <;> split <;> (try split) <;> grind
theorem meet_right (x y : Sp) : withS (meetS x y) y = true := by
  unfold withS empS endS meetS meetHi maxB minB
  simp only [blt_eq]
  cases x.op <;> cases y.op <;> simp <;> split <;> (try split) <;> grind
theorem meet_great (x y z : Sp) (h1 : withS z x = true) (h2 : withS z y = true) : withS z (meetS x y) = true := by
  revert h1 h2
  unfold withS empS endS meetS meetHi maxB minB
  simp only [blt_eq]
  cases x.op <;> cases y.op <;> cases z.op <;> simp <;> split <;> (try split) <;> grind
/-- May a text be a key? -/
def okK (k : ByteArray) : Bool := decide (1 ≤ k.size ∧ k.size ≤ 40)
end Go.Proofs.YthkephndhhhacaaDoor
