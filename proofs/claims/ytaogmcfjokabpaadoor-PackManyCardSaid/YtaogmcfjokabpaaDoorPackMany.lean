/-
  PackMany: fields one behind the other, as lists; a slice of slices of bytes, read. No program.
-/
import Derived.Test.YtaogmcfjokabpaaDoorCat
import Derived.Test.YtaogmcfjokabpaaDoorPackMath
namespace Go.Proofs.YtaogmcfjokabpaaDoor
open Go Go.RowKit

/-- Fields of bytes, one behind the other. -/
def pk : List (List Nat) → List Nat
  | [] => []
  | l :: r => vb l.length ++ (l ++ pk r)
theorem pk_snoc (es : List (List Nat)) (l : List Nat) : pk (es ++ [l]) = pk es ++ vb l.length ++ l := by
  induction es with
  | nil => simp [pk]
  | cons x r ih => rw [List.cons_append, pk, ih, pk]; simp only [List.append_assoc]
theorem pk_b8 {es : List (List Nat)} (h : ∀ i, i < es.length → B8 (es.getD i [])) : B8 (pk es) := by
  induction es with
  | nil => exact B8.nil
  | cons x r ih =>
    rw [pk]
    exact (vb_b8 _).append ((h 0 (by simp)).append (ih (fun i hi => h (i + 1) (by simpa using hi))))
theorem take_snoc (es : List (List Nat)) (k : Nat) (h : k < es.length) : es.take (k + 1) = es.take k ++ [es.getD k []] := by
  rw [List.take_succ_eq_append_getElem h]; simp [List.getD, h]
theorem pk_succ (es : List (List Nat)) (k : Nat) (h : k < es.length) : pk (es.take (k + 1)) = pk (es.take k) ++ vb (es.getD k []).length ++ es.getD k [] := by
  rw [take_snoc es k h, pk_snoc]
theorem drop_cons (es : List (List Nat)) (K j : Nat) (hj : j < K) (hK : K ≤ es.length) : (es.take K).drop j = es.getD j [] :: (es.take K).drop (j + 1) := by
  rw [List.drop_eq_getElem_cons (by rw [List.length_take]; omega)]
  congr 1
  rw [List.getElem_take]
  simp [List.getD, show j < es.length by omega]
theorem pk_drop (es : List (List Nat)) (K j : Nat) (hj : j < K) (hK : K ≤ es.length) : pk ((es.take K).drop j) = vb (es.getD j []).length ++ (es.getD j [] ++ pk ((es.take K).drop (j + 1))) := by
  rw [drop_cons es K j hj hK, pk]
theorem pk_end (es : List (List Nat)) (K : Nat) : pk ((es.take K).drop K) = [] := by
  rw [List.drop_of_length_le (by rw [List.length_take]; omega)]; rfl
/-- The loops' head. -/
def condP (es : List (List Nat)) (j : Nat) : Prop := j < es.length ∧ j < 20 ∧ catLen es j + min (es.getD j []).length 500 < 500
/-- A slice of slices of bytes. -/
def LSrc (w : World) (a : Option Addr) (es : List (List Nat)) : Prop := 0 < es.length → ∃ g o, a = some ⟨g, o, none⟩ ∧ ∀ i, i < es.length →
  ∃ ad c, w.cell? ⟨g, o + i, none⟩ = some (.slice ad (es.getD i []).length c) ∧ Src w ad (es.getD i []) ∧ (ad = none → c = 0) ∧ B8 (es.getD i []) ∧ (es.getD i []).length ≤ c ∧ c ≤ maxLen
theorem LSrc.below {w w' : World} {a : Option Addr} {es : List (List Nat)} (h : LSrc w a es) (hb : Below w.heap.size w w') : LSrc w' a es := fun h0 => by
  obtain ⟨g, o, rfl, hc⟩ := h h0
  refine ⟨g, o, rfl, fun i hi => ?_⟩
  obtain ⟨ad, c, h1, h2, h3⟩ := hc i hi
  exact ⟨ad, c, by rw [hb.cell (p := ⟨g, o + i, none⟩) (block_lt_of_cell h1)]; exact h1, h2.below hb (Nat.le_refl _), h3⟩
theorem LSrc.b8 {w : World} {a : Option Addr} {es : List (List Nat)} (h : LSrc w a es) : ∀ i, i < es.length → B8 (es.getD i []) := fun i hi => by
  obtain ⟨g, o, _, hc⟩ := h (by omega)
  obtain ⟨_, _, _, _, _, h3, _⟩ := hc i hi
  exact h3
theorem pk_take_b8 {es : List (List Nat)} (h : ∀ i, i < es.length → B8 (es.getD i [])) (k : Nat) : B8 (pk (es.take k)) := by
  refine pk_b8 fun i hi => ?_
  rw [List.length_take] at hi
  have e : (es.take k).getD i [] = es.getD i [] := by simp [List.getD, show i < k by omega]
  rw [e]; exact h i (by omega)
end Go.Proofs.YtaogmcfjokabpaaDoor
