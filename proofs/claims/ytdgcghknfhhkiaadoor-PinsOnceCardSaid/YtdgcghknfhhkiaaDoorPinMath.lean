/-
  Readers: lists of them, whether they may be, where one stands, what all hold, the least number. No program.
-/
import Derived.Test.YtdgcghknfhhkiaaDoorBitMath
namespace Go.Proofs.YtdgcghknfhhkiaaDoor
open Go Go.RowKit

/-- A reader: its number, its commit, its pages. -/
structure Pn where
  id : Nat
  sq : Nat
  pg : Nat → Bool
def pn0 : Pn := ⟨0, 0, fun _ => false⟩
def pn (l : List Pn) (i : Nat) : Pn := l.getD i pn0
theorem pn_at (l : List Pn) (i : Nat) (h : i < l.length) : l[i]? = some (pn l i) := by
  unfold pn; rw [List.getD_eq_getElem?_getD, List.getElem?_eq_getElem h]; rfl
theorem pn_drop (l : List Pn) (k : Nat) (h : k < l.length) : l.drop k = pn l k :: l.drop (k + 1) := by
  rw [List.drop_eq_getElem_cons h]; congr 1
  have := pn_at l k h; rw [List.getElem?_eq_getElem h] at this; exact Option.some.inj this
theorem pn_take (l : List Pn) (k : Nat) (h : k < l.length) : l.take (k + 1) = l.take k ++ [pn l k] := by
  rw [List.take_add_one, pn_at l k h]; rfl
theorem pn_mem (l : List Pn) (k : Nat) (h : k < l.length) : pn l k ∈ l := List.mem_of_getElem? (pn_at l k h)
theorem pn_of_mem {l : List Pn} {p : Pn} (h : p ∈ l) : ∃ k, k < l.length ∧ pn l k = p := by
  obtain ⟨k, hk, rfl⟩ := List.getElem_of_mem h
  refine ⟨k, hk, ?_⟩
  have := pn_at l k hk; rw [List.getElem?_eq_getElem hk] at this; exact (Option.some.inj this).symm
theorem pn_app_left (l m : List Pn) (k : Nat) (h : k < l.length) : pn (l ++ m) k = pn l k := by
  unfold pn; rw [List.getD_eq_getElem?_getD, List.getD_eq_getElem?_getD, List.getElem?_append_left h]
theorem pn_app_last (l : List Pn) (x : Pn) : pn (l ++ [x]) l.length = x := by
  unfold pn; rw [List.getD_eq_getElem?_getD, List.getElem?_append_right (Nat.le_refl _), Nat.sub_self]; rfl
/-- Numbers of 64 bits. -/
def POK (p : Pn) : Prop := p.id < 18446744073709551616 ∧ p.sq < 18446744073709551616
theorem pok_0 : POK pn0 := ⟨by decide, by decide⟩
theorem pok_pn {l : List Pn} (h : ∀ p ∈ l, POK p) (k : Nat) : POK (pn l k) := by
  by_cases hk : k < l.length
  · exact h _ (pn_mem l k hk)
  · have : pn l k = pn0 := by unfold pn; rw [List.getD_eq_getElem?_getD, List.getElem?_eq_none (by omega)]; rfl
    rw [this]; exact pok_0
/-- The cells of a reader. -/
def pv (p : Pn) : Array Value := #[.int .u64 (p.id : Nat), .int .u64 (p.sq : Nat)] ++ sc p.pg
theorem pv_size (p : Pn) : (pv p).size = 18 := by unfold pv; rw [Array.size_append, sc_size]; rfl
theorem pv_0 (p : Pn) : (pv p)[0]? = some (.int .u64 (p.id : Nat)) := by
  unfold pv; rw [Array.getElem?_append_left (by simp)]; rfl
theorem pv_1 (p : Pn) : (pv p)[1]? = some (.int .u64 (p.sq : Nat)) := by
  unfold pv; rw [Array.getElem?_append_left (by simp)]; rfl
theorem pv_w (p : Pn) (k : Nat) (h : k < 16) : (pv p)[2 + k]? = some (.int .u64 (wd p.pg k : Nat)) := by
  unfold pv; rw [Array.getElem?_append_right (by simp)]
  rw [show (2 + k) - (#[Value.int .u64 (p.id : Nat), Value.int .u64 (p.sq : Nat)] : Array Value).size = k by simp]
  exact sc_get _ _ h
/-! ### Whether readers may be -/
def pasB : Nat → List Pn → Nat → Bool
  | _, [], _ => true
  | a, p :: r, g => decide (a < p.id) && (decide (p.id ≤ g) && pasB p.id r g)
def pmayB (l : List Pn) (N : Nat) : Bool := decide (l.length ≤ 8) && (decide (N ≤ 4611686018427387904) && pasB 0 l N)
structure PAsc (a : Nat) (l : List Pn) (g : Nat) : Prop where
  lo : ∀ p ∈ l, a < p.id
  hi : ∀ p ∈ l, p.id ≤ g
  asc : ∀ i j, i < j → j < l.length → (pn l i).id < (pn l j).id
theorem pasB_iff : ∀ (a : Nat) (l : List Pn) (g : Nat), pasB a l g = true ↔ PAsc a l g
  | a, [], g => ⟨fun _ => ⟨fun p h => (by cases h), fun p h => (by cases h), fun i j _ h => (by simp at h)⟩, fun _ => rfl⟩
  | a, p :: r, g => by
    rw [pasB, Bool.and_eq_true, Bool.and_eq_true, decide_eq_true_iff, decide_eq_true_iff, pasB_iff p.id r g]
    constructor
    · rintro ⟨h1, h2, h3⟩
      refine ⟨fun q hq => ?_, fun q hq => ?_, fun i j hij hj => ?_⟩
      · rcases List.mem_cons.1 hq with rfl | hq
        · exact h1
        · exact Nat.lt_trans h1 (h3.lo q hq)
      · rcases List.mem_cons.1 hq with rfl | hq
        · exact h2
        · exact h3.hi q hq
      · obtain ⟨j, rfl⟩ : ∃ j', j = j' + 1 := ⟨j - 1, by omega⟩
        have hj' : j < r.length := by simpa using hj
        cases i with
        | zero => exact h3.lo _ (pn_mem r j hj')
        | succ i => exact h3.asc i j (by omega) hj'
    · rintro ⟨h1, h2, h3⟩
      refine ⟨h1 p (by simp), h2 p (by simp), fun q hq => ?_, fun q hq => h2 q (by simp [hq]), fun i j hij hj => h3 (i + 1) (j + 1) (by omega) (by simp; omega)⟩
      obtain ⟨k, hk, rfl⟩ := pn_of_mem hq
      exact h3 0 (k + 1) (by omega) (by simp; omega)
structure PMay (l : List Pn) (N : Nat) : Prop where
  few : l.length ≤ 8
  hi : N ≤ 4611686018427387904
  asc : PAsc 0 l N
theorem pmayB_iff (l : List Pn) (N : Nat) : pmayB l N = true ↔ PMay l N := by
  unfold pmayB
  rw [Bool.and_eq_true, Bool.and_eq_true, decide_eq_true_iff, decide_eq_true_iff, pasB_iff]
  exact ⟨fun ⟨a, b, c⟩ => ⟨a, b, c⟩, fun h => ⟨h.few, h.hi, h.asc⟩⟩
theorem PMay.nil {N : Nat} (h : N ≤ 4611686018427387904) : PMay [] N := ⟨by simp, h, (pasB_iff 0 [] N).1 rfl⟩
/-- A reader more. -/
theorem PMay.put {l : List Pn} {N : Nat} (h : PMay l N) (hl : l.length < 8) (hN : N < 4611686018427387904) (s : Nat) (f : Nat → Bool) : PMay (l ++ [⟨N + 1, s, f⟩]) (N + 1) := by
  refine ⟨by simp; omega, by omega, ?_, ?_, ?_⟩
  · intro p hp
    rcases List.mem_append.1 hp with hp | hp
    · exact h.asc.lo p hp
    · obtain rfl := List.mem_singleton.1 hp; simp
  · intro p hp
    rcases List.mem_append.1 hp with hp | hp
    · exact Nat.le_succ_of_le (h.asc.hi p hp)
    · obtain rfl := List.mem_singleton.1 hp; simp
  · intro i j hij hj
    rw [List.length_append] at hj
    have hj' : j < l.length + 1 := hj
    rw [pn_app_left l _ i (by omega)]
    by_cases hjl : j < l.length
    · rw [pn_app_left l _ j hjl]; exact h.asc.asc i j hij hjl
    · obtain rfl : j = l.length := by omega
      rw [pn_app_last]
      have := h.asc.hi _ (pn_mem l i hij)
      show (pn l i).id < N + 1
      omega
/-! ### Where a reader stands -/
def pfi (d : Nat) : List Pn → Nat → Int
  | [], _ => -1
  | p :: r, i => if p.id = d then (i : Int) else pfi d r (i + 1)
theorem pfi_drop (d : Nat) (l : List Pn) (k : Nat) (h : k < l.length) (m : Nat) : pfi d (l.drop k) m = if (pn l k).id = d then (m : Int) else pfi d (l.drop (k + 1)) (m + 1) := by
  rw [pn_drop l k h]; rfl
theorem pfi_way (d : Nat) : ∀ (l : List Pn) (i : Nat), (pfi d l i = -1 ∧ ∀ p ∈ l, p.id ≠ d) ∨ ∃ k, k < l.length ∧ pfi d l i = ((i + k : Nat) : Int) ∧ (pn l k).id = d ∧ ∀ j, j < k → (pn l j).id ≠ d
  | [], i => .inl ⟨rfl, fun p h => (by cases h)⟩
  | p :: r, i => by
    by_cases h : p.id = d
    · exact .inr ⟨0, by simp, by rw [pfi, if_pos h]; rfl, h, fun j hj => by omega⟩
    · rcases pfi_way d r (i + 1) with ⟨h1, h2⟩ | ⟨k, h1, h2, h3, h4⟩
      · refine .inl ⟨by rw [pfi, if_neg h, h1], fun q hq => ?_⟩
        rcases List.mem_cons.1 hq with rfl | hq
        · exact h
        · exact h2 q hq
      · refine .inr ⟨k + 1, by simp; omega, by rw [pfi, if_neg h, h2]; congr 1; omega, h3, fun j hj => ?_⟩
        cases j with
        | zero => exact h
        | succ j => exact h4 j (by omega)
/-- Without the reader at a place. -/
def pdel (l : List Pn) (k : Nat) : List Pn := l.take k ++ l.drop (k + 1)
theorem pdel_len (l : List Pn) (k : Nat) (h : k < l.length) : (pdel l k).length = l.length - 1 := by
  unfold pdel; rw [List.length_append, List.length_take, List.length_drop]; omega
theorem pn_pdel (l : List Pn) (k i : Nat) (h : k < l.length) : pn (pdel l k) i = if i < k then pn l i else pn l (i + 1) := by
  unfold pn pdel
  rw [List.getD_eq_getElem?_getD]
  by_cases hi : i < k
  · rw [if_pos hi, List.getElem?_append_left (by rw [List.length_take]; omega), List.getElem?_take, if_pos hi, List.getD_eq_getElem?_getD]
  · rw [if_neg hi, List.getElem?_append_right (by rw [List.length_take]; omega), List.getElem?_drop, List.length_take, Nat.min_eq_left (by omega), List.getD_eq_getElem?_getD]
    congr 2; omega
theorem pdel_mem {l : List Pn} {k : Nat} {p : Pn} (h : p ∈ pdel l k) : p ∈ l := by
  unfold pdel at h
  rcases List.mem_append.1 h with h | h
  · exact List.mem_of_mem_take h
  · exact List.mem_of_mem_drop h
theorem PMay.del {l : List Pn} {N : Nat} (h : PMay l N) (k : Nat) (hk : k < l.length) : PMay (pdel l k) N := by
  have hlen := pdel_len l k hk
  refine ⟨by rw [hlen]; have := h.few; omega, h.hi, fun p hp => h.asc.lo p (pdel_mem hp), fun p hp => h.asc.hi p (pdel_mem hp), fun i j hij hj => ?_⟩
  rw [hlen] at hj
  rw [pn_pdel l k i hk, pn_pdel l k j hk]
  split
  · split
    · exact h.asc.asc i j hij (by omega)
    · exact h.asc.asc i (j + 1) (by omega) (by omega)
  · split
    · omega
    · exact h.asc.asc (i + 1) (j + 1) (by omega) (by omega)
theorem PAsc.inj {a g : Nat} {l : List Pn} (h : PAsc a l g) {i j : Nat} (hi : i < l.length) (hj : j < l.length) (e : (pn l i).id = (pn l j).id) : i = j := by
  rcases Nat.lt_trichotomy i j with h1 | h1 | h1
  · have := h.asc i j h1 hj; omega
  · exact h1
  · have := h.asc j i h1 hi; omega
/-- It is found where it stands. -/
theorem PAsc.find {a g : Nat} {l : List Pn} (h : PAsc a l g) (k : Nat) (hk : k < l.length) : pfi (pn l k).id l 0 = (k : Int) := by
  rcases pfi_way (pn l k).id l 0 with ⟨_, h2⟩ | ⟨j, h1, h2, h3, _⟩
  · exact absurd rfl (h2 _ (pn_mem l k hk))
  · obtain rfl := h.inj h1 hk h3
    rw [h2, Nat.zero_add]
/-- All but those of a number. -/
def pbut (d : Nat) (l : List Pn) : List Pn := l.filter (fun p => p.id != d)
theorem pbut_take (d : Nat) (l : List Pn) (k : Nat) (h : k < l.length) : pbut d (l.take (k + 1)) = if (pn l k).id = d then pbut d (l.take k) else pbut d (l.take k) ++ [pn l k] := by
  unfold pbut
  rw [pn_take l k h, List.filter_append]
  by_cases e : (pn l k).id = d
  · rw [if_pos e, List.filter_cons_of_neg (by simp [e]), List.filter_nil, List.append_nil]
  · rw [if_neg e, List.filter_cons_of_pos (by simp [e]), List.filter_nil]
theorem PAsc.but {a g : Nat} {l : List Pn} (h : PAsc a l g) (k : Nat) (hk : k < l.length) : pbut (pn l k).id l = pdel l k := by
  have e : l = l.take k ++ (pn l k :: l.drop (k + 1)) := by rw [← pn_drop l k hk, List.take_append_drop]
  unfold pbut pdel
  obtain ⟨D, hD⟩ : ∃ D, (pn l k).id = D := ⟨_, rfl⟩
  have e3 : l.filter (fun p => p.id != D) = (l.take k).filter (fun p => p.id != D) ++ (l.drop (k + 1)).filter (fun p => p.id != D) := by
    conv => lhs; rw [e]
    rw [List.filter_append, List.filter_cons_of_neg (by simp [hD])]
  rw [hD, e3]
  congr 1
  · apply List.filter_eq_self.2
    intro p hp
    obtain ⟨i, hi, rfl⟩ := List.getElem_of_mem hp
    have hi2 : i < k := by rw [List.length_take] at hi; omega
    have := h.asc i k hi2 hk
    have e2 : (l.take k)[i] = pn l i := by
      have h1 := pn_at l i (by omega)
      rw [List.getElem?_eq_getElem (by omega)] at h1
      rw [List.getElem_take]; exact Option.some.inj h1
    rw [e2]; simp; omega
  · apply List.filter_eq_self.2
    intro p hp
    obtain ⟨i, hi, rfl⟩ := List.getElem_of_mem hp
    have hi2 : k + 1 + i < l.length := by rw [List.length_drop] at hi; omega
    have := h.asc k (k + 1 + i) (by omega) hi2
    have e2 : (l.drop (k + 1))[i] = pn l (k + 1 + i) := by
      have h1 := pn_at l (k + 1 + i) hi2
      rw [List.getElem?_eq_getElem hi2] at h1
      rw [List.getElem_drop]; exact Option.some.inj h1
    rw [e2]; simp; omega
/-! ### What all hold, the least commit -/
def heldR (l : List Pn) (m : Nat) : Bool := l.any (fun p => p.pg m)
theorem held_take (l : List Pn) (k : Nat) (h : k < l.length) : (fun m => heldR (l.take k) m || (pn l k).pg m) = heldR (l.take (k + 1)) := by
  funext m; unfold heldR; rw [pn_take l k h, List.any_append]; simp
theorem held_zero (l : List Pn) : heldR (l.take 0) = fun _ => false := by funext m; rfl
theorem held_app (l : List Pn) (x : Pn) : heldR (l ++ [x]) = fun m => heldR l m || x.pg m := by funext m; unfold heldR; rw [List.any_append]; simp
def oldR : Nat → List Pn → Nat
  | a, [] => a
  | a, p :: r => oldR (min a p.sq) r
def oldT : List Pn → Nat
  | [] => 0
  | p :: r => oldR p.sq r
theorem oldR_le : ∀ (a : Nat) (l : List Pn), oldR a l ≤ a ∧ ∀ p ∈ l, oldR a l ≤ p.sq
  | a, [] => ⟨Nat.le_refl _, fun p h => (by cases h)⟩
  | a, p :: r => by
    obtain ⟨h1, h2⟩ := oldR_le (min a p.sq) r
    refine ⟨by rw [oldR]; omega, fun q hq => ?_⟩
    rcases List.mem_cons.1 hq with rfl | hq
    · rw [oldR]; omega
    · exact h2 q hq
theorem oldT_le (l : List Pn) (p : Pn) (h : p ∈ l) : oldT l ≤ p.sq := by
  cases l with
  | nil => cases h
  | cons q r =>
    rcases List.mem_cons.1 h with rfl | h
    · exact (oldR_le _ _).1
    · exact (oldR_le _ _).2 p h
theorem oldT_first (l : List Pn) (h : 0 < l.length) : oldT l = oldR (pn l 0).sq (l.drop 1) := by
  cases l with
  | nil => simp at h
  | cons q r => rfl
theorem oldR_drop (a : Nat) (l : List Pn) (k : Nat) (h : k < l.length) : oldR a (l.drop k) = oldR (min a (pn l k).sq) (l.drop (k + 1)) := by
  rw [pn_drop l k h]; rfl
theorem oldR_end (a : Nat) (l : List Pn) (k : Nat) (h : l.length ≤ k) : oldR a (l.drop k) = a := by rw [List.drop_of_length_le h]; rfl
/-! ### What the calls answer -/
def opE (l : List Pn) (N : Nat) : Int := if pmayB l N = true then (if l.length = 8 ∨ N = 4611686018427387904 then 7 else 0) else 1
def opL (l : List Pn) (N s : Nat) (f : Nat → Bool) : List Pn := if opE l N = 0 then l ++ [⟨N + 1, s, f⟩] else []
def opN (l : List Pn) (N : Nat) : Nat := if opE l N = 0 then N + 1 else 0
def fiE (l : List Pn) (N d : Nat) : Int := if pmayB l N = true then (if 0 ≤ pfi d l 0 then 0 else 6) else 1
def clL (l : List Pn) (N d : Nat) : List Pn := if fiE l N d = 0 then pdel l (pfi d l 0).toNat else []
def clN (l : List Pn) (N d : Nat) : Nat := if fiE l N d = 0 then N else 0
def gtP (l : List Pn) (N d : Nat) : Pn := if fiE l N d = 0 then pn l (pfi d l 0).toNat else pn0
theorem opE_yes {l : List Pn} {N : Nat} (h : PMay l N) (hl : l.length < 8) (hN : N < 4611686018427387904) : opE l N = 0 := by
  unfold opE; rw [if_pos ((pmayB_iff l N).2 h), if_neg (by omega)]
theorem opE_full {l : List Pn} {N : Nat} (h : PMay l N) (hl : l.length = 8 ∨ N = 4611686018427387904) : opE l N = 7 := by
  unfold opE; rw [if_pos ((pmayB_iff l N).2 h), if_pos hl]
theorem opE_arg {l : List Pn} {N : Nat} (h : pmayB l N = false) : opE l N = 1 := by
  unfold opE; rw [if_neg (by rw [h]; decide)]
theorem fiE_arg {l : List Pn} {N d : Nat} (h : pmayB l N = false) : fiE l N d = 1 := by
  unfold fiE; rw [if_neg (by rw [h]; decide)]
theorem fiE_none {l : List Pn} {N d : Nat} (h : pmayB l N = true) (hf : pfi d l 0 = -1) : fiE l N d = 6 := by
  unfold fiE; rw [if_pos h, hf, if_neg (by decide)]
theorem fiE_at {l : List Pn} {N d k : Nat} (h : pmayB l N = true) (hf : pfi d l 0 = (k : Int)) : fiE l N d = 0 := by
  unfold fiE; rw [if_pos h, hf, if_pos (by omega)]
end Go.Proofs.YtdgcghknfhhkiaaDoor
