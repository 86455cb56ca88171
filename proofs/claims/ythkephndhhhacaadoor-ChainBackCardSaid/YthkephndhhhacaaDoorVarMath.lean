/-
  Numbers as few bytes: seven bits a byte, the lowest first; what bytes tell; zigzag. No program.
-/
import Derived.Test.YthkephndhhhacaaDoorMath1
import Derived.Test.YthkephndhhhacaaDoorMath2
namespace Go.Proofs.YthkephndhhhacaaDoor
open Go.RowKit

/-- A number's bytes, with a bound on how many follow. -/
def vbF : Nat → Nat → List Nat
  | 0, v => [v]
  | f + 1, v => if v < 128 then [v] else (v % 128 + 128) :: vbF f (v / 128)
/-- A number's bytes: seven bits each, the lowest first. -/
def vb (v : Nat) : List Nat := vbF v v
theorem vbF_any : ∀ f g v, v ≤ f → v ≤ g → vbF f v = vbF g v
  | 0, 0, v, _, _ => rfl
  | 0, g + 1, v, h, _ => by
    obtain rfl : v = 0 := by omega
    simp [vbF]
  | f + 1, 0, v, _, h => by
    obtain rfl : v = 0 := by omega
    simp [vbF]
  | f + 1, g + 1, v, h1, h2 => by
    unfold vbF
    by_cases h : v < 128
    · rw [if_pos h, if_pos h]
    · rw [if_neg h, if_neg h, vbF_any f g (v / 128) (by omega) (by omega)]
theorem vb_small {v : Nat} (h : v < 128) : vb v = [v] := by
  unfold vb
  cases v with
  | zero => rfl
  | succ n => unfold vbF; rw [if_pos h]
theorem vb_big {v : Nat} (h : 128 ≤ v) : vb v = (v % 128 + 128) :: vb (v / 128) := by
  obtain ⟨n, rfl⟩ : ∃ n, v = n + 1 := ⟨v - 1, by omega⟩
  show vbF (n + 1) (n + 1) = _ :: vbF _ _
  rw [vbF, if_neg (by omega), vbF_any n ((n + 1) / 128) ((n + 1) / 128) (by omega) (Nat.le_refl _)]
/-- How many bytes a number has. -/
def vs (v : Nat) : Nat := (vb v).length
theorem vs_small {v : Nat} (h : v < 128) : vs v = 1 := by unfold vs; rw [vb_small h]; rfl
theorem vs_big {v : Nat} (h : 128 ≤ v) : vs v = vs (v / 128) + 1 := by unfold vs; rw [vb_big h]; rfl
theorem vs_pos (v : Nat) : 1 ≤ vs v := by
  rcases Nat.lt_or_ge v 128 with h | h
  · rw [vs_small h]; exact Nat.le_refl _
  · rw [vs_big h]; omega
theorem vb_b8 (v : Nat) : B8 (vb v) := by
  induction v using Nat.strongRecOn with
  | _ v ih =>
    rcases Nat.lt_or_ge v 128 with h | h
    · rw [vb_small h]; exact B8.one (by omega)
    · rw [vb_big h]
      intro x hx
      rcases List.mem_cons.1 hx with rfl | hx
      · omega
      · exact ih (v / 128) (by omega) x hx
theorem vs_pow : ∀ k v, v < 128 ^ k → 1 ≤ k → vs v ≤ k
  | 0, v, _, h => by omega
  | k + 1, v, h, _ => by
    rcases Nat.lt_or_ge v 128 with hv | hv
    · rw [vs_small hv]; omega
    · rw [vs_big hv]
      have hk : 1 ≤ k := by
        cases k with
        | zero => simp at h; omega
        | succ k => omega
      have := vs_pow k (v / 128) (by rw [Nat.pow_succ] at h; omega) hk
      omega
theorem vs_le {v : Nat} (h : v < 18446744073709551616) : vs v ≤ 10 := vs_pow 10 v (by omega) (by omega)
theorem vs_mono : ∀ u v, v ≤ u → vs v ≤ vs u := by
  intro u
  induction u using Nat.strongRecOn with
  | _ u ih =>
    intro v h
    rcases Nat.lt_or_ge v 128 with hv | hv
    · rw [vs_small hv]; exact vs_pos u
    · rw [vs_big hv, vs_big (show 128 ≤ u by omega)]
      have := ih (u / 128) (by omega) (v / 128) (by omega)
      omega
/-- The place of the highest bit, over seven. -/
theorem vs_top : ∀ k v, v / 2 ^ k = 1 → vs v = k / 7 + 1 := by
  intro k
  induction k using Nat.strongRecOn with
  | _ k ih =>
    intro v h
    have hp : 0 < 2 ^ k := Nat.pow_pos (by decide)
    rcases Nat.lt_or_ge k 7 with hk | hk
    · have hv : v < 128 := by
        have h1 : 2 ^ k ≤ 2 ^ 6 := Nat.pow_le_pow_right (by decide) (by omega)
        have h2 := Nat.div_add_mod v (2 ^ k)
        have h3 := Nat.mod_lt v hp
        rw [h] at h2
        omega
      rw [vs_small hv]; omega
    · obtain ⟨j, rfl⟩ : ∃ j, k = j + 7 := ⟨k - 7, by omega⟩
      have hj : v / 128 / 2 ^ j = 1 := by
        rw [Nat.div_div_eq_div_mul, show 128 * 2 ^ j = 2 ^ (j + 7) by rw [Nat.pow_add]; omega]; exact h
      have hv : 128 ≤ v := by
        rcases Nat.lt_or_ge v 128 with h1 | h1
        · rw [Nat.div_eq_of_lt h1, Nat.zero_div] at hj; omega
        · exact h1
      rw [vs_big hv, ih j (by omega) _ hj]
      omega
theorem vs_odd (v : Nat) : vs (v / 2 * 2 + 1) = vs v := by
  rcases Nat.lt_or_ge v 128 with h | h
  · rw [vs_small h, vs_small (by omega)]
  · rw [vs_big h, vs_big (by omega), show (v / 2 * 2 + 1) / 128 = v / 128 by omega]

/-! ### What bytes tell -/
/-- The number of bytes, seven bits each, the lowest first. -/
def valR : List Nat → Nat
  | [] => 0
  | x :: r => x % 128 + 128 * valR r
theorem valR_lt : ∀ l : List Nat, valR l < 128 ^ l.length
  | [] => by simp [valR]
  | x :: r => by
    have := valR_lt r
    rw [valR, List.length_cons, Nat.pow_succ]
    have : 128 * (valR r + 1) ≤ 128 * 128 ^ r.length := Nat.mul_le_mul_left _ this
    omega
theorem valR_snoc : ∀ (l : List Nat) (x : Nat), valR (l ++ [x]) = valR l + x % 128 * 128 ^ l.length
  | [], x => by simp [valR]
  | y :: r, x => by
    rw [List.cons_append, valR, valR, valR_snoc r x, List.length_cons, Nat.pow_succ, Nat.mul_add, Nat.mul_comm (128 ^ r.length) 128, Nat.mul_left_comm 128]
    omega
theorem valR_take_succ (l : List Nat) (k : Nat) (h : k < l.length) : valR (l.take (k + 1)) = valR (l.take k) + l.getD k 0 % 128 * 128 ^ k := by
  have : l.take (k + 1) = l.take k ++ [l.getD k 0] := by
    rw [List.take_succ_eq_append_getElem h]; simp [h]
  rw [this, valR_snoc, List.length_take, Nat.min_eq_left (by omega)]
theorem valR_take_lt (l : List Nat) (k : Nat) : valR (l.take k) < 128 ^ k := by
  have h := valR_lt (l.take k)
  exact Nat.lt_of_lt_of_le h (Nat.pow_le_pow_right (by decide) (by rw [List.length_take]; omega))
/-- How many bytes there are ahead of the first one below 128. -/
def lead : List Nat → Nat
  | [] => 0
  | x :: r => if x < 128 then 0 else lead r + 1
theorem lead_le : ∀ l, lead l ≤ l.length
  | [] => Nat.le_refl _
  | x :: r => by
    have := lead_le r
    unfold lead
    split
    · omega
    · rw [List.length_cons]; omega
theorem lead_ge : ∀ l i, i < lead l → 128 ≤ l.getD i 0
  | [], i, h => by simp [lead] at h
  | x :: r, i, h => by
    unfold lead at h
    split at h
    · omega
    · cases i with
      | zero => simp; omega
      | succ i => simpa using lead_ge r i (by omega)
theorem lead_at : ∀ l, lead l < l.length → l.getD (lead l) 0 < 128
  | [], h => by simp [lead] at h
  | x :: r, h => by
    unfold lead at h ⊢
    split
    · simpa
    · rename_i hx
      rw [if_neg hx, List.length_cons] at h
      simpa using lead_at r (by omega)
theorem lead_next {l : List Nat} {k : Nat} (hk : k ≤ lead l) (h : k < l.length) (hc : 128 ≤ l.getD k 0) : k + 1 ≤ lead l := by
  rcases Nat.lt_or_ge k (lead l) with h1 | h1
  · exact h1
  · obtain rfl : k = lead l := by omega
    have := lead_at l h
    omega
theorem lead_here {l : List Nat} {k : Nat} (hk : k ≤ lead l) (hc : l.getD k 0 < 128) : lead l = k := by
  rcases Nat.lt_or_ge k (lead l) with h1 | h1
  · have := lead_ge l k h1; omega
  · omega
/-- The number, how many bytes it has, and the error's number. -/
def gt (l : List Nat) : Nat × Nat × Nat :=
  if 9 ≤ lead l ∧ 1 < l.getD 9 0 then (0, 0, 2)
  else if l.length ≤ lead l then (0, 0, 6)
  else if 0 < lead l ∧ l.getD (lead l) 0 = 0 then (0, 0, 3)
  else (valR (l.take (lead l + 1)), lead l + 1, 0)
theorem gt_range {l : List Nat} (h : 9 ≤ lead l) (h1 : 1 < l.getD 9 0) : gt l = (0, 0, 2) := by unfold gt; rw [if_pos ⟨h, h1⟩]
theorem gt_none {l : List Nat} {k : Nat} (hk : k ≤ lead l) (hl : k = l.length) (h9 : k ≤ 9) : gt l = (0, 0, 6) := by
  have h0 : l.getD 9 0 = 0 := by simp [show l.length ≤ 9 by omega]
  unfold gt; rw [if_neg (by omega), if_pos (by omega)]
theorem gt_form {l : List Nat} {k : Nat} (hk : k ≤ lead l) (hl : k < l.length) (h9 : k ≤ 9) (hc : l.getD k 0 = 0) (h0 : 0 < k) : gt l = (0, 0, 3) := by
  have e := lead_here hk (by omega)
  unfold gt
  rw [e, if_neg (fun h => by have : k = 9 := by omega
                             subst this; omega), if_neg (by omega), if_pos ⟨h0, hc⟩]
theorem gt_hit {l : List Nat} {k : Nat} (hk : k ≤ lead l) (hl : k < l.length) (h9 : k ≤ 9) (hc : l.getD k 0 < 128) (h1 : k = 9 → l.getD k 0 ≤ 1) (h0 : 0 < k → l.getD k 0 ≠ 0) : gt l = (valR (l.take (k + 1)), k + 1, 0) := by
  have e := lead_here hk hc
  unfold gt
  rw [e, if_neg (fun h => by have h9 : k = 9 := by omega
                             have := h1 h9
                             subst h9; omega), if_neg (by omega), if_neg (fun h => h0 h.1 h.2)]
/-- Each answer of Get, as it is found. -/
theorem gt_cases (l : List Nat) : gt l = (0, 0, 2) ∨ gt l = (0, 0, 6) ∨ gt l = (0, 0, 3) ∨ gt l = (valR (l.take (lead l + 1)), lead l + 1, 0) := by
  unfold gt
  split
  · exact .inl rfl
  split
  · exact .inr (.inl rfl)
  split
  · exact .inr (.inr (.inl rfl))
  · exact .inr (.inr (.inr rfl))

/-! ### A number's bytes are got -/
theorem vb_lead : ∀ v r, lead (vb v ++ r) + 1 = vs v := by
  intro v
  induction v using Nat.strongRecOn with
  | _ v ih =>
    intro r
    rcases Nat.lt_or_ge v 128 with h | h
    · rw [vs_small h, vb_small h]; simp [lead, h]
    · rw [vs_big h, vb_big h, ← ih (v / 128) (by omega) r, List.cons_append, lead, if_neg (by omega)]
theorem vb_val : ∀ v, valR (vb v) = v := by
  intro v
  induction v using Nat.strongRecOn with
  | _ v ih =>
    rcases Nat.lt_or_ge v 128 with h | h
    · rw [vb_small h]; simp [valR]; omega
    · rw [vb_big h, valR, ih (v / 128) (by omega)]; omega
/-- The last byte: it is not 0, but of 0; it is below 128. -/
theorem vb_last : ∀ v, (vb v).getD (vs v - 1) 0 < 128 ∧ (1 < vs v → (vb v).getD (vs v - 1) 0 ≠ 0) := by
  intro v
  induction v using Nat.strongRecOn with
  | _ v ih =>
    rcases Nat.lt_or_ge v 128 with h | h
    · rw [vs_small h, vb_small h]; exact ⟨by simpa, fun h => by omega⟩
    · have := ih (v / 128) (by omega)
      have hp := vs_pos (v / 128)
      rw [vs_big h, vb_big h]
      obtain ⟨n, hn⟩ : ∃ n, vs (v / 128) = n + 1 := ⟨vs (v / 128) - 1, by omega⟩
      rw [hn] at this ⊢
      simp only [Nat.add_sub_cancel, List.getD_cons_succ] at this ⊢
      refine ⟨this.1, fun _ => ?_⟩
      rcases Nat.eq_zero_or_pos n with h0 | h0
      · subst h0
        rcases Nat.lt_or_ge (v / 128) 128 with h1 | h1
        · rw [vb_small h1]; simp; omega
        · rw [vs_big h1] at hn
          have := vs_pos (v / 128 / 128); omega
      · exact this.2 (by omega)
theorem vb_hi : ∀ k v, vs v = k + 1 → (vb v).getD k 0 = v / 128 ^ k := by
  intro k
  induction k with
  | zero =>
    intro v h
    rcases Nat.lt_or_ge v 128 with h1 | h1
    · rw [vb_small h1]; simp
    · rw [vs_big h1] at h; have := vs_pos (v / 128); omega
  | succ k ih =>
    intro v h
    rcases Nat.lt_or_ge v 128 with h1 | h1
    · rw [vs_small h1] at h; omega
    · rw [vs_big h1] at h
      rw [vb_big h1, List.getD_cons_succ, ih (v / 128) (by omega), Nat.div_div_eq_div_mul, Nat.pow_succ, Nat.mul_comm 128]
theorem getD_left (l r : List Nat) (i : Nat) (h : i < l.length) : (l ++ r).getD i 0 = l.getD i 0 := by simp [List.getD, List.getElem?_append_left h]
theorem gt_vb (v : Nat) (r : List Nat) (h : v < 18446744073709551616) : gt (vb v ++ r) = (v, vs v, 0) := by
  have hl := vb_lead v r
  have hs := vs_le h
  have hp := vs_pos v
  have hlen : vs v = (vb v).length := rfl
  have hlast := vb_last v
  have hd : (vb v ++ r).getD (lead (vb v ++ r)) 0 = (vb v).getD (vs v - 1) 0 := by
    rw [getD_left _ _ _ (by omega), show lead (vb v ++ r) = vs v - 1 by omega]
  have hv : valR ((vb v ++ r).take (lead (vb v ++ r) + 1)) = v := by
    rw [hl, hlen, List.take_left]; exact vb_val v
  rw [gt_hit (Nat.le_refl _) (by rw [List.length_append]; omega) (by omega) (by rw [hd]; exact hlast.1) (fun h9 => ?_) (fun h0 => ?_), hv, hl]
  · rw [hd, show vs v - 1 = 9 by omega, vb_hi 9 v (by omega)]
    omega
  · rw [hd]; exact hlast.2 (by omega)
/-- A number's bytes without the last one are none's. -/
theorem gt_cut (v : Nat) (h : v < 18446744073709551616) : gt ((vb v).take (vs v - 1)) = (0, 0, 6) := by
  have hs := vs_le h
  have hp := vs_pos v
  have hl := vb_lead v []
  rw [List.append_nil] at hl
  have hlen : ((vb v).take (vs v - 1)).length = vs v - 1 := by rw [List.length_take]; show min _ (vs v) = _; omega
  refine gt_none (k := vs v - 1) ?_ hlen.symm (by omega)
  rcases Nat.lt_or_ge (lead ((vb v).take (vs v - 1))) (vs v - 1) with h1 | h1
  · have h2 := lead_at _ (by rw [hlen]; exact h1)
    have h3 := lead_ge (vb v) (lead ((vb v).take (vs v - 1))) (by omega)
    rw [show ((vb v).take (vs v - 1)).getD (lead ((vb v).take (vs v - 1))) 0 = (vb v).getD (lead ((vb v).take (vs v - 1))) 0 by simp [List.getD, h1]] at h2
    omega
  · exact h1
/-- No number's bytes begin those of another one. -/
theorem vb_apart (a b : Nat) (r : List Nat) (ha : a < 18446744073709551616) (hb : b < 18446744073709551616) (h : vb b = vb a ++ r) : a = b := by
  have h1 := gt_vb b [] hb
  rw [List.append_nil, h, gt_vb a r ha] at h1
  exact (Prod.mk.inj h1).1
theorem gt_val_lt (l : List Nat) : (gt l).1 < 18446744073709551616 := by
  unfold gt
  split
  · decide
  rename_i h1
  split
  · decide
  rename_i h2
  split
  · decide
  show valR (l.take (lead l + 1)) < _
  rw [valR_take_succ l (lead l) (by omega)]
  have hlt := valR_take_lt l (lead l)
  have hat := lead_at l (by omega)
  rcases Nat.lt_or_ge (lead l) 9 with h9 | h9
  · have hp : 128 ^ lead l ≤ 128 ^ 8 := Nat.pow_le_pow_right (by decide) (by omega)
    have : l.getD (lead l) 0 % 128 * 128 ^ lead l ≤ 127 * 128 ^ lead l := Nat.mul_le_mul_right _ (by omega)
    omega
  · have h10 : lead l = 9 := by
      rcases Nat.lt_or_ge 9 (lead l) with h | h
      · have := lead_ge l 9 h; omega
      · omega
    rw [h10] at hlt hat ⊢
    have h3 : l.getD 9 0 ≤ 1 := by omega
    have : l.getD 9 0 % 128 * 128 ^ 9 ≤ 1 * 128 ^ 9 := Nat.mul_le_mul_right _ (by omega)
    omega

/-! ### Zigzag -/
/-- Twice n, or 0 less twice n, less 1. -/
def zg (n : Int) : Nat := (if 0 ≤ n then 2 * n else -2 * n - 1).toNat
def zgb (v : Nat) : Int := if v % 2 = 0 then (v / 2 : Nat) else -((v / 2 : Nat) : Int) - 1
theorem zg_zgb (v : Nat) : zg (zgb v) = v := by
  unfold zg zgb
  split <;> split <;> omega
theorem zgb_zg (n : Int) : zgb (zg n) = n := by
  unfold zg zgb
  split <;> split <;> omega
end Go.Proofs.YthkephndhhhacaaDoor
