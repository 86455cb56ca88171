/-
  What the laws of a device write, and what they note beside it.
-/
import Derived.Test.YtbkjaifpgknadaaDoorSure4
namespace Go.Proofs.YtbkjaifpgknadaaDoor
open Go Go.RowKit Go.Maps

/-- Sectors written, one behind the other. -/
def wsF (g : Secs) (l : List (Nat × Nat)) : Secs := l.foldl (fun g p => upd g (p.1 % 32) (some (secOf p.2))) g
/-- The bytes noted. -/
def lbl (b : List Nat) (l : List (Nat × Nat)) : List Nat := l.foldl (fun b p => b.set (p.1 % 32) p.2) b
def P8 (l : List (Nat × Nat)) : Prop := ∀ p ∈ l, p.1 < 256 ∧ p.2 < 256
theorem take_snocP (l : List (Nat × Nat)) (k : Nat) (h : k < l.length) : l.take (k + 1) = l.take k ++ [l.getD k (0, 0)] := by
  rw [List.take_succ_eq_append_getElem h, List.getD_eq_getElem?_getD, List.getElem?_eq_getElem h]; rfl
theorem wsF_snoc (g : Secs) (l : List (Nat × Nat)) (p : Nat × Nat) : wsF g (l ++ [p]) = upd (wsF g l) (p.1 % 32) (some (secOf p.2)) := by simp [wsF]
theorem lbl_snoc (b : List Nat) (l : List (Nat × Nat)) (p : Nat × Nat) : lbl b (l ++ [p]) = (lbl b l).set (p.1 % 32) p.2 := by simp [lbl]
theorem lbl_len (b : List Nat) : ∀ l, (lbl b l).length = b.length := by
  intro l
  unfold lbl
  induction l generalizing b with
  | nil => rfl
  | cons p l ih => rw [List.foldl_cons, ih, List.length_set]
theorem P8.get {l : List (Nat × Nat)} (h : P8 l) (k : Nat) : (l.getD k (0, 0)).1 < 256 ∧ (l.getD k (0, 0)).2 < 256 := by
  by_cases hk : k < l.length
  · rw [List.getD_eq_getElem?_getD, List.getElem?_eq_getElem hk]; exact h _ (List.getElem_mem hk)
  · rw [List.getD_eq_getElem?_getD, List.getElem?_eq_none (by omega)]; simp
theorem lbl_b8 {b : List Nat} (hb : B8 b) : ∀ {l : List (Nat × Nat)}, P8 l → B8 (lbl b l) := by
  intro l
  unfold lbl
  induction l generalizing b with
  | nil => intro _; exact hb
  | cons p l ih =>
    intro hp
    rw [List.foldl_cons]
    refine ih (fun x hx => ?_) (fun q hq => hp q (by simp [hq]))
    rcases List.mem_or_eq_of_mem_set hx with h1 | h1
    · exact hb x h1
    · rw [h1]; exact (hp p (by simp)).2
/-- Each sector is its noted byte, and noughts, or is not there and noughts are noted. -/
def Rl (g : Secs) (L : List Nat) : Prop := ∀ n, n < 32 → (g n).getD zeros = secOf (L.getD n 0)
theorem rl_start : Rl (fun _ => none) (List.replicate 32 0) := by
  intro n hn
  have : (List.replicate 32 0).getD n 0 = 0 := by
    rw [List.getD_eq_getElem?_getD, List.getElem?_replicate, if_pos hn]; rfl
  rw [this, secOf_zero]; rfl
theorem rl_step {g : Secs} {L : List Nat} (h : Rl g L) (hL : L.length = 32) (m c : Nat) (hm : m < 32) : Rl (upd g m (some (secOf c))) (L.set m c) := by
  intro n hn
  unfold upd
  by_cases e : n = m
  · subst e
    rw [if_pos rfl, List.getD_eq_getElem?_getD, List.getElem?_set_self (by omega)]; rfl
  · rw [if_neg e, h n hn, List.getD_eq_getElem?_getD, List.getD_eq_getElem?_getD, List.getElem?_set_ne (fun e' => e e'.symm)]
theorem rl_take {g : Secs} {L : List Nat} (h : Rl g L) (hL : L.length = 32) (l : List (Nat × Nat)) : ∀ k, Rl (wsF g (l.take k)) (lbl L (l.take k))
  | 0 => by simpa [wsF, lbl] using h
  | k + 1 => by
    by_cases hk : k < l.length
    · rw [take_snocP l k hk, wsF_snoc, lbl_snoc]
      exact rl_step (rl_take h hL l k) (by rw [lbl_len, hL]) _ _ (Nat.mod_lt _ (by omega))
    · rw [List.take_of_length_le (by omega)]
      have := rl_take h hL l k
      rwa [List.take_of_length_le (by omega)] at this
theorem rl_all {g : Secs} {L : List Nat} (h : Rl g L) (hL : L.length = 32) (l : List (Nat × Nat)) : Rl (wsF g l) (lbl L l) := by
  have := rl_take h hL l l.length
  rwa [List.take_length] at this
/-- What waits is its noted byte. -/
def Rw (g : Secs) (L : List Nat) : Prop := ∀ n x, g n = some x → n < 32 ∧ x = secOf (L.getD n 0)
theorem rw_start (L : List Nat) : Rw (fun _ => none) L := fun n x h => by cases h
theorem rw_step {g : Secs} {L : List Nat} (h : Rw g L) (hL : L.length = 32) (m c : Nat) (hm : m < 32) : Rw (upd g m (some (secOf c))) (L.set m c) := by
  intro n x hx
  unfold upd at hx
  by_cases e : n = m
  · subst e
    rw [if_pos rfl] at hx
    cases hx
    exact ⟨hm, by rw [List.getD_eq_getElem?_getD, List.getElem?_set_self (by omega)]; rfl⟩
  · rw [if_neg e] at hx
    have := h n x hx
    refine ⟨this.1, ?_⟩
    rw [List.getD_eq_getElem?_getD, List.getElem?_set_ne (fun e' => e e'.symm), ← List.getD_eq_getElem?_getD]
    exact this.2
theorem rw_take {g : Secs} {L : List Nat} (h : Rw g L) (hL : L.length = 32) (l : List (Nat × Nat)) : ∀ k, Rw (wsF g (l.take k)) (lbl L (l.take k))
  | 0 => by simpa [wsF, lbl] using h
  | k + 1 => by
    by_cases hk : k < l.length
    · rw [take_snocP l k hk, wsF_snoc, lbl_snoc]
      exact rw_step (rw_take h hL l k) (by rw [lbl_len, hL]) _ _ (Nat.mod_lt _ (by omega))
    · rw [List.take_of_length_le (by omega)]
      have := rw_take h hL l k
      rwa [List.take_of_length_le (by omega)] at this
/-- A write on a device that is neither armed nor down. -/
theorem wr_free (S : DS) (ha : S.armed = false) (hd : S.down = false) (n : Nat) (hn : n < 8 * S.pages) (l : List Nat) (hl : l.length = 64) : wrS S (n : Int) l = (0, { S with waits := upd S.waits n (some l) }) := by
  have h1 : amongE S (n : Int) ((8 * S.pages : Nat) : Int) = 0 := by unfold amongE; rw [if_neg (by rw [hd]; simp), if_neg (by omega)]
  have h2 : stepS S = (0, S) := by unfold stepS; rw [if_pos ha]
  unfold wrS
  rw [if_pos h1, if_pos hl, h2]
  simp
/-- A write on a device that was armed, and has had i steps. -/
def armedS (S : DS) (g : Secs) (arm i : Nat) : DS := { S with waits := g, armed := true, left := ((arm - i : Nat) : Int), down := decide (arm < i) }
theorem wr_armed (S : DS) (g : Secs) (arm i n : Nat) (hn : n < 8 * S.pages) (l : List Nat) (hl : l.length = 64) :
    ∃ g', wrS (armedS S g arm i) (n : Int) l = (if i < arm then 0 else 9, armedS S g' arm (i + 1)) := by
  by_cases h1 : arm < i
  · refine ⟨g, ?_⟩
    have e1 : amongE (armedS S g arm i) (n : Int) ((8 * (armedS S g arm i).pages : Nat) : Int) = 9 := by unfold amongE; rw [if_pos (by simp [armedS, h1])]
    unfold wrS
    rw [if_neg (by rw [e1]; decide), e1, if_neg (by omega)]
    congr 1
    unfold armedS
    rw [show arm - (i + 1) = arm - i by omega, show decide (arm < i + 1) = decide (arm < i) by simp; omega]
  · have e1 : amongE (armedS S g arm i) (n : Int) ((8 * (armedS S g arm i).pages : Nat) : Int) = 0 := by
      unfold amongE; rw [if_neg (by simp [armedS]; omega), if_neg (by simp only [armedS]; omega)]
    by_cases h2 : i < arm
    · refine ⟨upd g n (some l), ?_⟩
      have e2 : stepS (armedS S g arm i) = (0, armedS S g arm (i + 1)) := by
        unfold stepS
        rw [if_neg (by simp [armedS]), if_neg (by simp only [armedS]; omega)]
        congr 1
        unfold armedS
        rw [show ((arm - i : Nat) : Int) - 1 = ((arm - (i + 1) : Nat) : Int) by omega, show decide (arm < i + 1) = decide (arm < i) by simp; omega]
      unfold wrS
      rw [if_pos e1, if_pos hl, e2, if_pos rfl, if_pos h2]
      rfl
    · refine ⟨g, ?_⟩
      have e2 : stepS (armedS S g arm i) = (9, armedS S g arm (i + 1)) := by
        unfold stepS
        rw [if_neg (by simp [armedS]), if_pos (by simp only [armedS]; omega)]
        congr 1
        unfold armedS
        rw [show arm - (i + 1) = arm - i by omega, show decide (arm < i + 1) = true by simp; omega]
      unfold wrS
      rw [if_pos e1, if_pos hl, e2, if_neg (by show ¬ (9 : Int) = 0; decide), if_neg h2]
end Go.Proofs.YtbkjaifpgknadaaDoor
