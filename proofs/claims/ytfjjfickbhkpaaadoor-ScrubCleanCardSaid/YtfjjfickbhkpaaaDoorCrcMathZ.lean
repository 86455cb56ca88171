/-
  The sum of 32 bits, bit by bit, in plain numbers: it is linear, and one step can be turned back. No program.
-/
import Derived.Test.YtfjjfickbhkpaaaDoorMemZ
namespace Go.Proofs.YtfjjfickbhkpaaaDoor
open Go.RowKit

/-- What is xored where a bit went. -/
def pol : BitVec 32 := 2197175160#32
/-- One bit. -/
def st (x : BitVec 32) : BitVec 32 := (x >>> 1) ^^^ (if x.getLsbD 0 then pol else 0#32)
def st4 (x : BitVec 32) : BitVec 32 := st (st (st (st x)))
/-- One byte. -/
def byt (x : BitVec 32) (c : Nat) : BitVec 32 := st4 (st4 (x ^^^ BitVec.ofNat 32 c))
def run (x : BitVec 32) (l : List Nat) : BitVec 32 := l.foldl byt x
/-- Of what had sum s, and l behind it. -/
def more (s : BitVec 32) (l : List Nat) : BitVec 32 := ~~~ (run (~~~ s) l)

theorem st_xor (x y : BitVec 32) : st (x ^^^ y) = st x ^^^ st y := by
  unfold st
  rw [BitVec.ushiftRight_xor_distrib, BitVec.getLsbD_xor]
  cases x.getLsbD 0 <;> cases y.getLsbD 0 <;> simp
  · ac_rfl
  · ac_rfl
  · rw [show x >>> 1 ^^^ pol ^^^ (y >>> 1 ^^^ pol) = x >>> 1 ^^^ y >>> 1 ^^^ (pol ^^^ pol) by ac_rfl, BitVec.xor_self, BitVec.xor_zero]
theorem st_zero : st 0#32 = 0#32 := by decide
theorem st_inj0 (x : BitVec 32) (h : st x = 0#32) : x = 0#32 := by
  unfold st at h
  have e0 : x.getLsbD 0 = decide (x.toNat % 2 = 1) := by simp [BitVec.getLsbD, Nat.testBit_zero]
  rw [e0] at h
  by_cases h1 : x.toNat % 2 = 1
  · simp only [h1, decide_true, if_true] at h
    have h2 := congrArg (· ^^^ pol) h
    simp only [BitVec.xor_assoc, BitVec.xor_self, BitVec.xor_zero, BitVec.zero_xor] at h2
    have h3 := congrArg BitVec.toNat h2
    rw [BitVec.toNat_ushiftRight, Nat.shiftRight_eq_div_pow] at h3
    have h4 : pol.toNat = 2197175160 := rfl
    have := x.isLt
    omega
  · simp only [h1, decide_false] at h
    have h3 := congrArg BitVec.toNat h
    simp [Nat.shiftRight_eq_div_pow] at h3
    apply BitVec.eq_of_toNat_eq
    show x.toNat = 0
    omega
theorem xor_eq_zero {x y : BitVec 32} (h : x ^^^ y = 0#32) : x = y := by
  have := congrArg (· ^^^ y) h
  simpa [BitVec.xor_assoc] using this
theorem st_inj {x y : BitVec 32} (h : st x = st y) : x = y := by
  apply xor_eq_zero
  apply st_inj0
  rw [st_xor, h, BitVec.xor_self]
theorem st4_inj {x y : BitVec 32} (h : st4 x = st4 y) : x = y := st_inj (st_inj (st_inj (st_inj h)))
theorem st4_xor (x y : BitVec 32) : st4 (x ^^^ y) = st4 x ^^^ st4 y := by unfold st4; simp only [st_xor]
theorem byt_inj {x y : BitVec 32} {c d : Nat} (h : byt x c = byt y d) : x ^^^ BitVec.ofNat 32 c = y ^^^ BitVec.ofNat 32 d := st4_inj (st4_inj h)
theorem byt_left {x y : BitVec 32} {c : Nat} (h : byt x c = byt y c) : x = y := by
  have := congrArg (· ^^^ BitVec.ofNat 32 c) (byt_inj h)
  simpa [BitVec.xor_assoc] using this
theorem run_inj (l : List Nat) {x y : BitVec 32} (h : run x l = run y l) : x = y := by
  induction l generalizing x y with
  | nil => exact h
  | cons c r ih => exact byt_left (ih (x := byt x c) (y := byt y c) h)
theorem run_append (x : BitVec 32) (l m : List Nat) : run x (l ++ m) = run (run x l) m := by simp [run]
theorem more_append (s : BitVec 32) (l m : List Nat) : more s (l ++ m) = more (more s l) m := by
  unfold more; rw [run_append, BitVec.not_not]
theorem not_inj {x y : BitVec 32} (h : ~~~ x = ~~~ y) : x = y := by
  have := congrArg (~~~ ·) h
  simpa using this
/-- With one byte another the sum is another. -/
theorem more_set (s : BitVec 32) (l : List Nat) (i c : Nat) (hi : i < l.length) (hb : B8 l) (hc : c < 256) (hne : c ≠ l.getD i 0) : more s (l.set i c) ≠ more s l := by
  intro h
  have h1 := not_inj h
  have e1 : l.set i c = l.take i ++ c :: l.drop (i + 1) := List.set_eq_take_append_cons_drop .. |>.trans (by rw [if_pos hi])
  have e2 : l = l.take i ++ l.getD i 0 :: l.drop (i + 1) := by
    have : l.getD i 0 = l[i] := by simp [hi]
    rw [this, List.getElem_cons_drop, List.take_append_drop]
  rw [e1] at h1
  rw [show run (~~~ s) l = run (~~~ s) (l.take i ++ l.getD i 0 :: l.drop (i + 1)) by rw [← e2]] at h1
  rw [run_append, run_append] at h1
  have h2 : run (byt (run (~~~ s) (l.take i)) c) (l.drop (i + 1)) = run (byt (run (~~~ s) (l.take i)) (l.getD i 0)) (l.drop (i + 1)) := h1
  have h3 := byt_inj (run_inj _ h2)
  have h4 := congrArg (run (~~~ s) (l.take i) ^^^ ·) h3
  simp only [← BitVec.xor_assoc, BitVec.xor_self, BitVec.zero_xor] at h4
  have h5 := congrArg BitVec.toNat h4
  have := hb.get i
  rw [BitVec.toNat_ofNat, BitVec.toNat_ofNat, Nat.mod_eq_of_lt (by omega), Nat.mod_eq_of_lt (by omega)] at h5
  exact hne h5
/-- Of three texts as long, xored. -/
def xor3 (a b c : List Nat) : Nat → List Nat
  | 0 => []
  | n + 1 => xor3 a b c n ++ [a.getD n 0 ^^^ b.getD n 0 ^^^ c.getD n 0]
theorem take_snoc (l : List Nat) (n : Nat) (h : n < l.length) : l.take (n + 1) = l.take n ++ [l.getD n 0] := by
  rw [List.take_succ_eq_append_getElem h]; simp [h]
theorem run_snoc (x : BitVec 32) (l : List Nat) (c : Nat) : run x (l ++ [c]) = byt (run x l) c := by rw [run_append]; rfl
theorem byt_xor3 (x y z : BitVec 32) (a b c : Nat) : byt (x ^^^ y ^^^ z) (a ^^^ b ^^^ c) = byt x a ^^^ byt y b ^^^ byt z c := by
  unfold byt
  rw [← st4_xor, ← st4_xor, ← st4_xor, ← st4_xor]
  congr 2
  have e : BitVec.ofNat 32 (a ^^^ b ^^^ c) = BitVec.ofNat 32 a ^^^ BitVec.ofNat 32 b ^^^ BitVec.ofNat 32 c := by
    apply BitVec.eq_of_toNat_eq
    simp only [BitVec.toNat_ofNat, BitVec.toNat_xor, Nat.xor_mod_two_pow]
  rw [e]
  ac_rfl
theorem run_xor3 (x : BitVec 32) (a b c : List Nat) (n : Nat) (ha : n ≤ a.length) (hb : n ≤ b.length) (hc : n ≤ c.length) :
    run x (xor3 a b c n) = run x (a.take n) ^^^ run x (b.take n) ^^^ run x (c.take n) := by
  induction n with
  | zero => simp [xor3, run]
  | succ n ih =>
    rw [take_snoc a n ha, take_snoc b n hb, take_snoc c n hc]
    show run x (xor3 a b c n ++ [a.getD n 0 ^^^ b.getD n 0 ^^^ c.getD n 0]) = _
    rw [run_snoc, run_snoc, run_snoc, run_snoc, ih (by omega) (by omega) (by omega), byt_xor3]
theorem more_xor3 (a b c : List Nat) (n : Nat) (ha : n ≤ a.length) (hb : n ≤ b.length) (hc : n ≤ c.length) :
    more 0#32 (xor3 a b c n) = more 0#32 (a.take n) ^^^ more 0#32 (b.take n) ^^^ more 0#32 (c.take n) := by
  unfold more
  rw [run_xor3 _ _ _ _ _ ha hb hc]
  generalize run (~~~ 0#32) (a.take n) = x
  generalize run (~~~ 0#32) (b.take n) = y
  generalize run (~~~ 0#32) (c.take n) = z
  ext i hi
  simp

/-! ### In whole numbers, as a program has them -/
theorem xor_u32_nat (a b : Nat) (ha : a < 4294967296) (hb : b < 4294967296) : bits .xor .u32 (a : Int) (b : Int) = ((a ^^^ b : Nat) : Int) := by
  have hx : a ^^^ b < 2 ^ 32 := Nat.xor_lt_two_pow (by omega) (by omega)
  have h1 : (BitVec.ofInt 32 (a : Int)).toNat = a := by
    rw [BitVec.ofInt_natCast, BitVec.toNat_ofNat]; exact Nat.mod_eq_of_lt (by omega)
  have h2 : (BitVec.ofInt 32 (b : Int)).toNat = b := by
    rw [BitVec.ofInt_natCast, BitVec.toNat_ofNat]; exact Nat.mod_eq_of_lt (by omega)
  have hw : ∀ n : Int, IntKind.u32.wrap n = n % 4294967296 := fun n => by simp [IntKind.wrap, IntKind.bits, IntKind.signed]
  show IntKind.u32.wrap ((BitVec.ofInt 32 (a : Int) ^^^ BitVec.ofInt 32 (b : Int)).toNat : Int) = _
  rw [BitVec.toNat_xor, h1, h2, hw]
  omega
theorem and15_nat (a : Nat) (ha : a < 4294967296) : bits .and .u32 (a : Int) 15 = ((a % 16 : Nat) : Int) := by
  have h1 : (BitVec.ofInt 32 (a : Int)).toNat = a := by
    rw [BitVec.ofInt_natCast, BitVec.toNat_ofNat]; exact Nat.mod_eq_of_lt (by omega)
  have h2 : (BitVec.ofInt 32 (15 : Int)).toNat = 2 ^ 4 - 1 := rfl
  have hw : ∀ n : Int, IntKind.u32.wrap n = n % 4294967296 := fun n => by simp [IntKind.wrap, IntKind.bits, IntKind.signed]
  show IntKind.u32.wrap ((BitVec.ofInt 32 (a : Int) &&& BitVec.ofInt 32 15).toNat : Int) = _
  rw [BitVec.toNat_and, h1, h2, Nat.and_two_pow_sub_one_eq_mod, hw]
  omega
theorem xor_bv (x y : BitVec 32) : bits .xor .u32 ((x.toNat : Nat) : Int) ((y.toNat : Nat) : Int) = (((x ^^^ y).toNat : Nat) : Int) := by
  rw [xor_u32_nat _ _ x.isLt y.isLt, BitVec.toNat_xor]
theorem st_nat (x : BitVec 32) : (st x).toNat = if x.toNat % 2 = 1 then (x.toNat / 2) ^^^ 2197175160 else x.toNat / 2 := by
  unfold st
  have e0 : x.getLsbD 0 = decide (x.toNat % 2 = 1) := by simp [BitVec.getLsbD, Nat.testBit_zero]
  rw [e0, BitVec.toNat_xor, BitVec.toNat_ushiftRight, Nat.shiftRight_eq_div_pow]
  by_cases h : x.toNat % 2 = 1
  · simp only [h, decide_true, if_true]; rfl
  · simp [h]
theorem not_nat (x : BitVec 32) : (~~~ x).toNat = 4294967295 - x.toNat := by rw [BitVec.toNat_not]
theorem not_bv (x : BitVec 32) : bits .xor .u32 IntKind.u32.max ((x.toNat : Nat) : Int) = (((~~~ x).toNat : Nat) : Int) := by
  have e : IntKind.u32.max = (((BitVec.allOnes 32).toNat : Nat) : Int) := by decide
  rw [e, xor_bv, BitVec.allOnes_xor]
/-- What four bits are worth. -/
def worths : List Nat := (List.range 16).map fun k => (st4 (BitVec.ofNat 32 k)).toNat
theorem worths_get (k : Nat) (h : k < 16) : worths.getD k 0 = (st4 (BitVec.ofNat 32 k)).toNat := by simp [worths, h]
theorem st_even (x : BitVec 32) (h : x.toNat % 2 = 0) : (st x).toNat = x.toNat / 2 := by rw [st_nat, if_neg (by omega)]
theorem st4_high (x : BitVec 32) (h : x.toNat % 16 = 0) : (st4 x).toNat = x.toNat / 16 := by
  unfold st4
  have h1 := st_even x (by omega)
  have h2 := st_even (st x) (by omega)
  have h3 := st_even (st (st x)) (by omega)
  have h4 := st_even (st (st (st x))) (by omega)
  omega
theorem nibble_xor (p q : Nat) (h : q < 16) : q ^^^ p * 16 = p * 16 + q := by
  have h1 := Nat.two_pow_add_eq_or_of_lt (i := 4) (b := q) (by omega) p
  have e2 : 2 ^ 4 * p ^^^ q = 2 ^ 4 * p ||| q := by
    apply Nat.eq_of_testBit_eq
    intro i
    rw [Nat.testBit_xor, Nat.testBit_or, Nat.testBit_two_pow_mul]
    by_cases hi : 4 ≤ i
    · have h2 : (2 : Nat) ^ 4 ≤ 2 ^ i := Nat.pow_le_pow_right (by decide) hi
      have : q.testBit i = false := Nat.testBit_lt_two_pow (by omega)
      simp [this]
    · simp [hi]
  rw [Nat.xor_comm, Nat.mul_comm p 16, show 16 * p = 2 ^ 4 * p by omega, e2, ← h1]
theorem st4_split (x : BitVec 32) : st4 x = st4 (BitVec.ofNat 32 (x.toNat % 16)) ^^^ BitVec.ofNat 32 (x.toNat / 16) := by
  have hx : x = BitVec.ofNat 32 (x.toNat % 16) ^^^ BitVec.ofNat 32 (x.toNat / 16 * 16) := by
    apply BitVec.eq_of_toNat_eq
    have := x.isLt
    rw [BitVec.toNat_xor, BitVec.toNat_ofNat, BitVec.toNat_ofNat, Nat.mod_eq_of_lt (a := x.toNat % 16) (by omega), Nat.mod_eq_of_lt (a := x.toNat / 16 * 16) (by omega), nibble_xor _ _ (by omega)]
    omega
  have hh : st4 (BitVec.ofNat 32 (x.toNat / 16 * 16)) = BitVec.ofNat 32 (x.toNat / 16) := by
    apply BitVec.eq_of_toNat_eq
    have hx := x.isLt
    have e : (BitVec.ofNat 32 (x.toNat / 16 * 16)).toNat = x.toNat / 16 * 16 := by rw [BitVec.toNat_ofNat, Nat.mod_eq_of_lt (by omega)]
    rw [st4_high _ (by omega), e, BitVec.toNat_ofNat, Nat.mod_eq_of_lt (by omega)]
    omega
  conv => lhs; rw [hx]
  rw [st4_xor, hh]
/-- One half of a byte, by the worths. -/
theorem worth_step (x : BitVec 32) : bits .xor .u32 ((worths.getD (x.toNat % 16) 0 : Nat) : Int) ((x.toNat / 16 : Nat) : Int) = ((st4 x).toNat : Int) := by
  have hx := x.isLt
  rw [worths_get _ (by omega), xor_u32_nat _ _ (st4 _).isLt (by omega), st4_split x, BitVec.toNat_xor]
  rw [BitVec.toNat_ofNat (x := x.toNat / 16), Nat.mod_eq_of_lt (a := x.toNat / 16) (by omega)]
theorem xor_byte (x : BitVec 32) (c : Nat) (hc : c < 256) : bits .xor .u32 ((x.toNat : Nat) : Int) (c : Int) = (((x ^^^ BitVec.ofNat 32 c).toNat : Nat) : Int) := by
  have hx := x.isLt
  rw [xor_u32_nat _ _ x.isLt (by omega), BitVec.toNat_xor, BitVec.toNat_ofNat, Nat.mod_eq_of_lt (a := c) (by omega)]
theorem more_digits : more 0#32 [49, 50, 51, 52, 53, 54, 55, 56, 57] = 3808858755#32 := by decide +kernel
theorem numL_four (t : List Nat) (h : t.length = 4) : numL t = ((t.getD 0 0 * 256 + t.getD 1 0) * 256 + t.getD 2 0) * 256 + t.getD 3 0 := by
  obtain ⟨a, b, c, d, rfl⟩ : ∃ a b c d, t = [a, b, c, d] := by
    match t, h with
    | [a, b, c, d], _ => exact ⟨a, b, c, d, rfl⟩
  simp [numL]
theorem B8.set {l : List Nat} (h : B8 l) (i x : Nat) (hx : x < 256) : B8 (l.set i x) := fun y hy => by
  rcases List.mem_or_eq_of_mem_set hy with h1 | h1
  · exact h y h1
  · omega
theorem getD_set (l : List Nat) (i j x : Nat) (hi : i < l.length) : (l.set i x).getD j 0 = if i = j then x else l.getD j 0 := by
  simp only [List.getD, List.getElem?_set]
  split
  · rename_i h; subst h; rfl
  · rfl
/-- With one digit another a number of four bytes is another. -/
theorem numL_set_ne (t : List Nat) (h4 : t.length = 4) (hb : B8 t) (j y : Nat) (hj : j < 4) (hne : y ≠ t.getD j 0) : numL (t.set j y) ≠ numL t := by
  rw [numL_four _ (by rw [List.length_set]; exact h4), numL_four t h4]
  simp only [getD_set t j _ y (by omega)]
  have b0 := hb.get 0
  have b1 := hb.get 1
  have b2 := hb.get 2
  have b3 := hb.get 3
  have hj4 : j = 0 ∨ j = 1 ∨ j = 2 ∨ j = 3 := by omega
  rcases hj4 with rfl | rfl | rfl | rfl
  · rw [if_pos rfl, if_neg (by decide), if_neg (by decide), if_neg (by decide)]; omega
  · rw [if_neg (by decide), if_pos rfl, if_neg (by decide), if_neg (by decide)]; omega
  · rw [if_neg (by decide), if_neg (by decide), if_pos rfl, if_neg (by decide)]; omega
  · rw [if_neg (by decide), if_neg (by decide), if_neg (by decide), if_pos rfl]; omega
/-- A text and its sum behind it, one byte of all another: the sum is not that. -/
theorem turned (m t : List Nat) (i y : Nat) (h4 : t.length = 4) (hb : B8 (m ++ t)) (hy : y < 256) (hi : i < m.length + 4) (hne : y ≠ (m ++ t).getD i 0) (hs : numL t = (more 0#32 m).toNat) :
    ∃ m' t', (m ++ t).set i y = m' ++ t' ∧ m'.length = m.length ∧ t'.length = 4 ∧ decide (numL t' = (more 0#32 m').toNat) = false := by
  have hbm : B8 m := fun x hx => hb x (List.mem_append_left _ hx)
  have hbt : B8 t := fun x hx => hb x (List.mem_append_right _ hx)
  by_cases him : i < m.length
  · rw [show (m ++ t).getD i 0 = m.getD i 0 by simp [List.getD, List.getElem?_append_left him]] at hne
    refine ⟨m.set i y, t, List.set_append_left _ _ him, List.length_set, h4, ?_⟩
    rw [decide_eq_false_iff_not, hs]
    intro h
    exact more_set 0#32 m i y him hbm hy hne (BitVec.eq_of_toNat_eq h.symm)
  · obtain ⟨j, rfl⟩ : ∃ j, i = m.length + j := ⟨i - m.length, by omega⟩
    rw [show (m ++ t).getD (m.length + j) 0 = t.getD j 0 by simp [List.getD, List.getElem?_append_right]] at hne
    refine ⟨m, t.set j y, ?_, rfl, by rw [List.length_set]; exact h4, ?_⟩
    · rw [List.set_append_right _ _ (by omega), Nat.add_sub_cancel_left]
    · rw [decide_eq_false_iff_not, ← hs]
      exact numL_set_ne t h4 hbt j y (by omega) hne
/-- A bit that is turned makes another byte. -/
theorem xor_bit_ne (x k : Nat) : x ^^^ 2 ^ k ≠ x := by
  intro h
  have h1 := congrArg (x ^^^ ·) h
  simp only [← Nat.xor_assoc, Nat.xor_self, Nat.zero_xor] at h1
  have : 0 < 2 ^ k := Nat.pow_pos (by decide)
  omega
theorem xor_u8_nat (a b : Nat) (ha : a < 256) (hb : b < 256) : bits .xor .u8 (a : Int) (b : Int) = ((a ^^^ b : Nat) : Int) := by
  have hx : a ^^^ b < 2 ^ 8 := Nat.xor_lt_two_pow (by omega) (by omega)
  have h1 : (BitVec.ofInt 8 (a : Int)).toNat = a := by
    rw [BitVec.ofInt_natCast, BitVec.toNat_ofNat]; exact Nat.mod_eq_of_lt (by omega)
  have h2 : (BitVec.ofInt 8 (b : Int)).toNat = b := by
    rw [BitVec.ofInt_natCast, BitVec.toNat_ofNat]; exact Nat.mod_eq_of_lt (by omega)
  have hw : ∀ n : Int, IntKind.u8.wrap n = n % 256 := fun n => by simp [IntKind.wrap, IntKind.bits, IntKind.signed]
  show IntKind.u8.wrap ((BitVec.ofInt 8 (a : Int) ^^^ BitVec.ofInt 8 (b : Int)).toNat : Int) = _
  rw [BitVec.toNat_xor, h1, h2, hw]
  omega
theorem xor_u8_lt (a b : Nat) (ha : a < 256) (hb : b < 256) : a ^^^ b < 256 := Nat.xor_lt_two_pow (n := 8) (by omega) (by omega)
end Go.Proofs.YtfjjfickbhkpaaaDoor
