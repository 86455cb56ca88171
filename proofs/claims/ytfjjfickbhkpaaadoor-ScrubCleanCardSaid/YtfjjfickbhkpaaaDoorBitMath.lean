/-
  Sets of numbers below 1,024 as rules: their words, how many there are, which; no program.
-/
import Derived.Test.YtfjjfickbhkpaaaDoorMath1
namespace Go.Proofs.YtfjjfickbhkpaaaDoor
open Go Go.RowKit

/-- The first k bits that a rule tells, as a number. -/
def wf (f : Nat → Bool) : Nat → Nat
  | 0 => 0
  | k + 1 => wf f k ||| (if f k = true then 2 ^ k else 0)
theorem wf_lt (f : Nat → Bool) : ∀ k, wf f k < 2 ^ k
  | 0 => by simp [wf]
  | k + 1 => by
    have h := wf_lt f k
    have e : 2 ^ (k + 1) = 2 * 2 ^ k := by rw [Nat.pow_succ]; omega
    refine Nat.or_lt_two_pow (by omega) ?_
    split <;> omega
theorem wf_bit (f : Nat → Bool) : ∀ k i, (wf f k).testBit i = (decide (i < k) && f i)
  | 0, i => by simp [wf]
  | k + 1, i => by
    rw [wf, Nat.testBit_or, wf_bit f k i]
    by_cases h : i = k
    · subst h
      cases hf : f i <;> simp
    · have h2 : decide (i < k + 1) = decide (i < k) := by rw [Bool.eq_iff_iff, decide_eq_true_iff, decide_eq_true_iff]; omega
      rw [h2]
      cases hf : f k
      · simp
      · have h3 : (2 ^ k).testBit i = false := by rw [Nat.testBit_two_pow]; exact decide_eq_false (fun x => h x.symm)
        simp [h3]
/-- The word of that number. -/
def wd (f : Nat → Bool) (k : Nat) : Nat := wf (fun i => f (64 * k + i)) 64
theorem wd_lt (f : Nat → Bool) (k : Nat) : wd f k < 18446744073709551616 := wf_lt _ 64
theorem wd_bit (f : Nat → Bool) (k i : Nat) (h : i < 64) : (wd f k).testBit i = f (64 * k + i) := by
  rw [wd, wf_bit]; simp [h]
theorem bit_big {v : Nat} (h : v < 18446744073709551616) {i : Nat} (hi : 64 ≤ i) : v.testBit i = false := by
  apply Nat.testBit_lt_two_pow
  have : 2 ^ 64 ≤ 2 ^ i := Nat.pow_le_pow_right (by decide) hi
  have e : 2 ^ 64 = 18446744073709551616 := by decide
  omega
theorem wd_of {f : Nat → Bool} {k v : Nat} (hv : v < 18446744073709551616) (h : ∀ i, i < 64 → v.testBit i = f (64 * k + i)) : v = wd f k := by
  apply Nat.eq_of_testBit_eq
  intro i
  by_cases hi : i < 64
  · rw [h i hi, wd_bit f k i hi]
  · rw [bit_big hv (by omega), bit_big (wd_lt f k) (by omega)]
theorem wd_ext {f g : Nat → Bool} {k : Nat} (h : ∀ i, i < 64 → f (64 * k + i) = g (64 * k + i)) : wd f k = wd g k :=
  wd_of (wd_lt f k) (fun i hi => by rw [wd_bit f k i hi]; exact h i hi)
theorem wd_and (f g : Nat → Bool) (k : Nat) : wd f k &&& wd g k = wd (fun m => f m && g m) k :=
  wd_of (Nat.lt_of_le_of_lt Nat.and_le_left (wd_lt f k)) (fun i hi => by rw [Nat.testBit_and, wd_bit f k i hi, wd_bit g k i hi])
theorem wd_or (f g : Nat → Bool) (k : Nat) : wd f k ||| wd g k = wd (fun m => f m || g m) k :=
  wd_of (Nat.or_lt_two_pow (n := 64) (wd_lt f k) (wd_lt g k)) (fun i hi => by rw [Nat.testBit_or, wd_bit f k i hi, wd_bit g k i hi])
theorem not_bit {v : Nat} (hv : v < 18446744073709551616) (i : Nat) (hi : i < 64) : (18446744073709551615 - v).testBit i = !v.testBit i := by
  have e : 18446744073709551615 - v = 2 ^ 64 - (v + 1) := by omega
  rw [e, Nat.testBit_two_pow_sub_succ (n := 64) hv]
  simp [hi]
theorem wd_less (f g : Nat → Bool) (k : Nat) : wd f k &&& (18446744073709551615 - wd g k) = wd (fun m => f m && !g m) k :=
  wd_of (Nat.lt_of_le_of_lt Nat.and_le_left (wd_lt f k)) (fun i hi => by rw [Nat.testBit_and, wd_bit f k i hi, not_bit (wd_lt g k) i hi, wd_bit g k i hi])
/-- The lowest bits, so many. -/
theorem wd_low (n k : Nat) : 2 ^ (min (n - 64 * k) 64) - 1 = wd (fun m => decide (m < n)) k := by
  have h : 2 ^ (min (n - 64 * k) 64) ≤ 2 ^ 64 := Nat.pow_le_pow_right (by decide) (Nat.min_le_right _ _)
  have hp : 0 < 2 ^ (min (n - 64 * k) 64) := Nat.pow_pos (by decide)
  refine wd_of (by have : (2 : Nat) ^ 64 = 18446744073709551616 := by decide
                   omega) (fun i hi => ?_)
  rw [Nat.testBit_two_pow_sub_one, Bool.eq_iff_iff, decide_eq_true_iff, decide_eq_true_iff]
  omega

/-! ### Sets as cells -/
/-- A set's words, in memory. -/
def sc (f : Nat → Bool) : Array Value := ((List.range 16).map (fun k => Value.int .u64 (wd f k : Nat))).toArray
theorem sc_size (f : Nat → Bool) : (sc f).size = 16 := by simp [sc]
theorem sc_get (f : Nat → Bool) (k : Nat) (h : k < 16) : (sc f)[k]? = some (.int .u64 (wd f k : Nat)) := by
  simp [sc, h]
theorem sc_ext {f g : Nat → Bool} (h : ∀ m, m < 1024 → f m = g m) : sc f = sc g := by
  unfold sc
  congr 1
  apply List.map_congr_left
  intro k hk
  rw [wd_ext (fun i hi => h _ (by have := List.mem_range.1 hk; omega))]
theorem sc_inj {f g : Nat → Bool} (h : sc f = sc g) (m : Nat) (hm : m < 1024) : f m = g m := by
  have h1 := sc_get f (m / 64) (by omega)
  rw [h, sc_get g (m / 64) (by omega)] at h1
  simp only [Option.some.injEq, Value.int.injEq, true_and] at h1
  have h2 := wd_bit f (m / 64) (m % 64) (by omega)
  rw [← Int.ofNat.inj h1, wd_bit g (m / 64) (m % 64) (by omega)] at h2
  rw [show 64 * (m / 64) + m % 64 = m by omega] at h2
  exact h2.symm
theorem sc_list {ws : List Nat} (hl : ws.length = 16) (hb : ∀ n ∈ ws, n < 18446744073709551616) :
    (ws.map (fun n => Value.int .u64 (n : Nat))).toArray = sc (fun m => (ws.getD (m / 64) 0).testBit (m % 64)) := by
  unfold sc
  congr 1
  apply List.ext_getElem?
  intro k
  by_cases h : k < 16
  · have h2 : ws[k]? = some (ws[k]'(by omega)) := List.getElem?_eq_getElem (by omega)
    rw [List.getElem?_map, h2, List.getElem?_map, List.getElem?_range h]
    simp only [Option.map_some, Option.some.injEq, Value.int.injEq, true_and]
    congr 1
    refine wd_of (hb _ (List.getElem_mem _)) (fun i hi => ?_)
    have e1 : (64 * k + i) / 64 = k := by omega
    have e2 : (64 * k + i) % 64 = i := by omega
    rw [e1, e2, List.getD_eq_getElem?_getD, h2]
    rfl
  · rw [List.getElem?_eq_none (by simp; omega), List.getElem?_eq_none (by simp; omega)]
theorem sc_set (f : Nat → Bool) (k v : Nat) (hk : k < 16) (hv : v < 18446744073709551616) :
    (sc f).setIfInBounds k (.int .u64 (v : Nat)) = sc (fun m => if m / 64 = k then v.testBit (m % 64) else f m) := by
  apply Array.ext_getElem?
  intro i
  rw [Array.getElem?_setIfInBounds]
  by_cases h : i < 16
  · rw [sc_get _ i h, sc_get _ i h, sc_size]
    by_cases e : k = i
    · subst e
      rw [if_pos rfl, if_pos hk]
      have : v = wd (fun m => if m / 64 = k then v.testBit (m % 64) else f m) k := wd_of hv (fun i hi => by
        show v.testBit i = (if (64 * k + i) / 64 = k then v.testBit ((64 * k + i) % 64) else f (64 * k + i))
        rw [if_pos (by omega), show (64 * k + i) % 64 = i by omega])
      rw [← this]
    · rw [if_neg e]
      congr 3
      exact wd_ext (fun j hj => by
        show f (64 * i + j) = (if (64 * i + j) / 64 = k then v.testBit ((64 * i + j) % 64) else f (64 * i + j))
        rw [if_neg (by omega)])
  · rw [Array.getElem?_eq_none (by rw [sc_size]; omega), Array.getElem?_eq_none (by rw [sc_size]; omega)]
    rw [sc_size, if_neg (by omega)]
/-- A set's word is stored anew: the rule that it then has. -/
theorem sc_put (f g : Nat → Bool) (k v : Nat) (hk : k < 16) (hv : v = wd g k) (ho : ∀ m, m < 1024 → m / 64 ≠ k → f m = g m) :
    (sc f).setIfInBounds k (.int .u64 (v : Nat)) = sc g := by
  rw [sc_set f k v hk (by rw [hv]; exact wd_lt g k)]
  refine sc_ext (fun m hm => ?_)
  by_cases e : m / 64 = k
  · rw [if_pos e, hv, wd_bit g k _ (by omega), ← e, show 64 * (m / 64) + m % 64 = m by omega]
  · rw [if_neg e]; exact ho m hm e
/-- A list of yes and no, in memory. -/
def bc (f : Nat → Bool) : Array Value := ((List.range 1024).map (fun k => Value.bool (f k))).toArray
theorem bc_size (f : Nat → Bool) : (bc f).size = 1024 := by rw [bc, List.size_toArray, List.length_map, List.length_range]
theorem bc_get (f : Nat → Bool) (k : Nat) (h : k < 1024) : (bc f)[k]? = some (.bool (f k)) := by
  rw [bc, List.getElem?_toArray, List.getElem?_map, List.getElem?_range h]; rfl
theorem bc_ext {f g : Nat → Bool} (h : ∀ m, m < 1024 → f m = g m) : bc f = bc g := by
  unfold bc
  exact congrArg List.toArray (List.map_congr_left fun k hk => by rw [h k (List.mem_range.1 hk)])
theorem bc_set (f : Nat → Bool) (k : Nat) (b : Bool) (hk : k < 1024) : (bc f).setIfInBounds k (.bool b) = bc (fun m => if m = k then b else f m) := by
  apply Array.ext_getElem?
  intro i
  rw [Array.getElem?_setIfInBounds]
  by_cases h : i < 1024
  · rw [bc_get _ i h, bc_get _ i h, bc_size]
    by_cases e : k = i
    · subst e; rw [if_pos rfl, if_pos hk, if_pos rfl]
    · rw [if_neg e, if_neg (fun x => e x.symm)]
  · rw [Array.getElem?_eq_none (by rw [bc_size]; omega), Array.getElem?_eq_none (by rw [bc_size]; omega)]
    rw [bc_size, if_neg (by omega)]

/-! ### How many, and which -/
/-- How many numbers below k. -/
def cnt (f : Nat → Bool) : Nat → Nat
  | 0 => 0
  | k + 1 => cnt f k + (f k).toNat
theorem cnt_le (f : Nat → Bool) : ∀ k, cnt f k ≤ k
  | 0 => Nat.le_refl _
  | k + 1 => by
    have := cnt_le f k
    have : (f k).toNat ≤ 1 := Bool.toNat_le _
    rw [cnt]; omega
theorem cnt_ext {f g : Nat → Bool} : ∀ {k : Nat}, (∀ m, m < k → f m = g m) → cnt f k = cnt g k
  | 0, _ => rfl
  | k + 1, h => by rw [cnt, cnt, cnt_ext (fun m hm => h m (by omega)), h k (by omega)]
theorem cnt_add (f : Nat → Bool) (a : Nat) : ∀ b, cnt f (a + b) = cnt f a + cnt (fun i => f (a + i)) b
  | 0 => rfl
  | b + 1 => by rw [← Nat.add_assoc, cnt, cnt, cnt_add f a b]; omega
theorem cnt_first (f : Nat → Bool) (k : Nat) : cnt f (k + 1) = (f 0).toNat + cnt (fun i => f (i + 1)) k := by
  rw [Nat.add_comm k 1, cnt_add f 1 k]
  have : cnt f 1 = (f 0).toNat := by rw [cnt, cnt]; omega
  rw [this]
  congr 1
  exact cnt_ext (fun m _ => by rw [Nat.add_comm])
theorem cnt_mono (f : Nat → Bool) {a b : Nat} (h : a ≤ b) : cnt f a ≤ cnt f b := by
  obtain ⟨c, rfl⟩ : ∃ c, b = a + c := ⟨b - a, by omega⟩
  rw [cnt_add]; omega
theorem cnt_lt {f : Nat → Bool} {a b : Nat} (hf : f a = true) (h : a < b) : cnt f a < cnt f b := by
  have := cnt_mono f (show a + 1 ≤ b from h)
  rw [cnt, hf] at this
  simp at this; omega
theorem popF_cnt : ∀ k v, popF k v = cnt (fun i => v.testBit i) k
  | 0, _ => rfl
  | k + 1, v => by
    rw [popF, popF_cnt k, cnt_first]
    congr 1
    · rw [Nat.testBit_zero]
      rcases Nat.mod_two_eq_zero_or_one v with h | h <;> simp [h]
    · exact cnt_ext (fun m _ => by rw [Nat.testBit_succ])
theorem pop_wd (f : Nat → Bool) (k : Nat) : cnt f (64 * k) + pop (wd f k) = cnt f (64 * (k + 1)) := by
  rw [show 64 * (k + 1) = 64 * k + 64 by omega, cnt_add, pop, popF_cnt]
  congr 1
  exact cnt_ext (fun m hm => wd_bit f k m hm)
theorem pop_le64 (v : Nat) : pop v ≤ 64 := pop_le v 64
theorem cnt_and_or (f g : Nat → Bool) : ∀ k, cnt (fun m => f m && g m) k + cnt (fun m => f m || g m) k = cnt f k + cnt g k
  | 0 => rfl
  | k + 1 => by
    have := cnt_and_or f g k
    simp only [cnt]
    have e : (f k && g k).toNat + (f k || g k).toNat = (f k).toNat + (g k).toNat := by cases f k <;> cases g k <;> rfl
    omega
theorem cnt_part (f g : Nat → Bool) : ∀ k, cnt (fun m => f m && g m) k + cnt (fun m => f m && !g m) k = cnt f k
  | 0 => rfl
  | k + 1 => by
    have := cnt_part f g k
    simp only [cnt]
    have e : (f k && g k).toNat + (f k && !g k).toNat = (f k).toNat := by cases f k <;> cases g k <;> rfl
    omega
theorem cnt_below (n : Nat) : ∀ k, cnt (fun m => decide (m < n)) k = min n k
  | 0 => by rw [cnt]; omega
  | k + 1 => by
    rw [cnt, cnt_below n k]
    by_cases h : k < n
    · rw [decide_eq_true h]; simp; omega
    · rw [decide_eq_false h]; simp; omega
theorem cnt_cut (f : Nat → Bool) (n : Nat) : ∀ k, n ≤ k → cnt (fun m => f m && decide (m < n)) k = cnt f n := by
  intro k hk
  obtain ⟨c, rfl⟩ : ∃ c, k = n + c := ⟨k - n, by omega⟩
  clear hk
  induction c with
  | zero => exact cnt_ext (fun m hm => by rw [decide_eq_true (by omega), Bool.and_true])
  | succ c ih =>
    rw [← Nat.add_assoc, cnt, ih]
    have : decide (n + c < n) = false := decide_eq_false (by omega)
    rw [this]; simp
/-- Which numbers below k, ascending. -/
def els (f : Nat → Bool) : Nat → List Nat
  | 0 => []
  | k + 1 => els f k ++ (if f k = true then [k] else [])
theorem els_len (f : Nat → Bool) : ∀ k, (els f k).length = cnt f k
  | 0 => rfl
  | k + 1 => by rw [els, cnt, List.length_append, els_len f k]; cases f k <;> rfl
theorem els_ext {f g : Nat → Bool} : ∀ {k : Nat}, (∀ m, m < k → f m = g m) → els f k = els g k
  | 0, _ => rfl
  | k + 1, h => by rw [els, els, els_ext (fun m hm => h m (by omega)), h k (by omega)]
theorem els_none (f : Nat → Bool) (a : Nat) : ∀ b, (∀ i, i < b → f (a + i) = false) → els f (a + b) = els f a
  | 0, _ => rfl
  | b + 1, h => by
    rw [← Nat.add_assoc, els, els_none f a b (fun i hi => h i (by omega)), h b (by omega)]
    simp
theorem els_one (f : Nat → Bool) (a b : Nat) (h : ∀ i, i < b → f (a + i) = false) (hf : f (a + b) = true) : els f (a + b + 1) = els f a ++ [a + b] := by
  rw [els, els_none f a b h, hf]; simp
/-- The number at a place among them. -/
def el (f : Nat → Bool) (i : Nat) : Nat := (els f 1024).getD i 0
theorem els_at (f : Nat → Bool) : ∀ k i, i < cnt f k → ∃ x, (els f k)[i]? = some x ∧ f x = true ∧ cnt f x = i ∧ x < k
  | 0, i, h => by rw [cnt] at h; omega
  | k + 1, i, h => by
    rw [cnt] at h
    by_cases hi : i < cnt f k
    · obtain ⟨x, h1, h2, h3, h4⟩ := els_at f k i hi
      refine ⟨x, ?_, h2, h3, by omega⟩
      rw [els, List.getElem?_append_left (by rw [els_len]; exact hi)]; exact h1
    · cases hf : f k with
      | false => rw [hf] at h; simp at h; omega
      | true =>
        rw [hf] at h
        have : i = cnt f k := by simp at h; omega
        refine ⟨k, ?_, hf, this.symm, by omega⟩
        rw [els, hf, if_pos rfl, List.getElem?_append_right (by rw [els_len]; omega), els_len, this]; simp
theorem el_get (f : Nat → Bool) (i : Nat) (h : i < cnt f 1024) : (els f 1024)[i]? = some (el f i) ∧ f (el f i) = true ∧ cnt f (el f i) = i ∧ el f i < 1024 := by
  obtain ⟨x, h1, h2, h3, h4⟩ := els_at f 1024 i h
  have e : el f i = x := by rw [el, List.getD_eq_getElem?_getD, h1]; rfl
  rw [e]; exact ⟨h1, h2, h3, h4⟩
theorem el_only {f : Nat → Bool} {i m : Nat} (h : i < cnt f 1024) (hf : f m = true) (hc : cnt f m = i) : m = el f i := by
  obtain ⟨_, h2, h3, _⟩ := el_get f i h
  rcases Nat.lt_trichotomy m (el f i) with h4 | h4 | h4
  · have := cnt_lt hf h4; omega
  · exact h4
  · have := cnt_lt h2 h4; omega
theorem el_asc {f : Nat → Bool} {i j : Nat} (hj : j < cnt f 1024) (h : i < j) : el f i < el f j := by
  obtain ⟨_, h2, h3, _⟩ := el_get f i (by omega)
  obtain ⟨_, h5, h6, _⟩ := el_get f j hj
  rcases Nat.lt_or_ge (el f i) (el f j) with h4 | h4
  · exact h4
  · have := cnt_mono f h4; omega

/-! ### The lowest bit -/
theorem low_bit (v : Nat) (h0 : 0 < v) (hv : v < 18446744073709551616) :
    Lib.ctzFrom 64 v < 64 ∧ v.testBit (Lib.ctzFrom 64 v) = true ∧ (∀ u, u < Lib.ctzFrom 64 v → v.testBit u = false) ∧ (∀ u, (v &&& (v - 1)).testBit u = (v.testBit u && !decide (u = Lib.ctzFrom 64 v))) := by
  obtain ⟨m, hm, hk⟩ := Lib.ctzFrom_spec 64 v h0 hv
  generalize Lib.ctzFrom 64 v = t at *
  have hb : ∀ u, v.testBit u = (decide (t ≤ u) && (2 * m + 1).testBit (u - t)) := fun u => by rw [hm, Nat.testBit_two_pow_mul]
  have h1 : v - 1 = 2 ^ t * (2 * m) + (2 ^ t - 1) := by
    have hp : 0 < 2 ^ t := Nat.pow_pos (by decide)
    rw [hm, Nat.mul_add, Nat.mul_one]
    omega
  have hc : ∀ u, (v - 1).testBit u = if u < t then true else (2 * m).testBit (u - t) := fun u => by
    have hp : 0 < 2 ^ t := Nat.pow_pos (by decide)
    rw [h1, Nat.testBit_two_pow_mul_add _ (by omega), Nat.testBit_two_pow_sub_one]
    by_cases h : u < t
    · rw [if_pos h, if_pos h, decide_eq_true h]
    · rw [if_neg h, if_neg h]
  refine ⟨hk, ?_, fun u hu => ?_, fun u => ?_⟩
  · rw [hb]; simp
  · rw [hb, decide_eq_false (by omega)]; rfl
  · rw [Nat.testBit_and, hc, hb]
    by_cases h : u < t
    · rw [decide_eq_false (by omega)]; simp
    · rw [if_neg h, decide_eq_true (show t ≤ u by omega)]
      by_cases e : u = t
      · subst e; simp
      · obtain ⟨j, rfl⟩ : ∃ j, u = t + (j + 1) := ⟨u - t - 1, by omega⟩
        rw [show t + (j + 1) - t = j + 1 by omega, Nat.testBit_succ, Nat.testBit_succ, show (2 * m) / 2 = m by omega, show (2 * m + 1) / 2 = m by omega, decide_eq_false e]
        simp
/-- A word without its first bits. -/
def wh (f : Nat → Bool) (k j : Nat) : Nat := wf (fun t => decide (j ≤ t) && f (64 * k + t)) 64
theorem wh_lt (f : Nat → Bool) (k j : Nat) : wh f k j < 18446744073709551616 := wf_lt _ 64
theorem wh_bit (f : Nat → Bool) (k j i : Nat) : (wh f k j).testBit i = (decide (i < 64) && (decide (j ≤ i) && f (64 * k + i))) := by rw [wh, wf_bit]
theorem wh_zero (f : Nat → Bool) (k : Nat) : wh f k 0 = wd f k := by
  have : (fun t => decide (0 ≤ t) && f (64 * k + t)) = fun t => f (64 * k + t) := by funext t; simp
  rw [wh, wd, this]
theorem wh_done {f : Nat → Bool} {k j : Nat} (hj : j ≤ 64) (h : wh f k j = 0) : els f (64 * k + j) = els f (64 * (k + 1)) := by
  have e : 64 * (k + 1) = (64 * k + j) + (64 - j) := by omega
  rw [e, els_none f (64 * k + j) (64 - j)]
  intro i hi
  have := wh_bit f k j (j + i)
  rw [h, Nat.zero_testBit, decide_eq_true (show j + i < 64 by omega), decide_eq_true (show j ≤ j + i by omega)] at this
  rw [Nat.add_assoc]
  simpa using this.symm
theorem wh_next {f : Nat → Bool} {k j : Nat} (h : 0 < wh f k j) :
    ∃ t, Lib.ctzFrom 64 (wh f k j) = t ∧ j ≤ t ∧ t < 64 ∧ f (64 * k + t) = true ∧ els f (64 * k + (t + 1)) = els f (64 * k + j) ++ [64 * k + t] ∧ wh f k j &&& (wh f k j - 1) = wh f k (t + 1) := by
  obtain ⟨h1, h2, h3, h4⟩ := low_bit _ h (wh_lt f k j)
  refine ⟨_, rfl, ?_⟩
  generalize Lib.ctzFrom 64 (wh f k j) = t at *
  rw [wh_bit] at h2
  simp only [Bool.and_eq_true, decide_eq_true_iff] at h2
  obtain ⟨_, h5, h6⟩ := h2
  refine ⟨h5, h1, h6, ?_, ?_⟩
  · obtain ⟨b, rfl⟩ : ∃ b, t = j + b := ⟨t - j, by omega⟩
    rw [show 64 * k + (j + b + 1) = (64 * k + j) + b + 1 by omega, els_one f (64 * k + j) b ?_ (by rw [Nat.add_assoc]; exact h6), Nat.add_assoc]
    intro i hi
    have := h3 (j + i) (by omega)
    rw [wh_bit, decide_eq_true (show j + i < 64 by omega), decide_eq_true (show j ≤ j + i by omega)] at this
    rw [Nat.add_assoc]
    simpa using this
  · apply Nat.eq_of_testBit_eq
    intro u
    rw [h4 u, wh_bit, wh_bit]
    by_cases e : u = t
    · subst e
      rw [decide_eq_false (show ¬ u + 1 ≤ u by omega)]
      simp
    · rw [decide_eq_false e]
      by_cases h7 : t + 1 ≤ u
      · rw [decide_eq_true (show j ≤ u by omega), decide_eq_true h7]; simp
      · rw [decide_eq_false h7]
        by_cases h8 : j ≤ u
        · have h9 := h3 u (by omega)
          rw [wh_bit, decide_eq_true h8] at h9
          rw [decide_eq_true h8]
          simpa using h9
        · rw [decide_eq_false h8]; simp
end Go.Proofs.YtfjjfickbhkpaaaDoor

