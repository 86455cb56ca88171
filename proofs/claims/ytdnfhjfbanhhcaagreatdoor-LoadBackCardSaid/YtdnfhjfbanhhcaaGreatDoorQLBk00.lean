/-
  Names of the kit, made short.
-/
import Derived.Lib.Hide
import Derived.Below
namespace Go.Proofs.YtdnfhjfbanhhcaaGreatDoor
open Go Go.RowKit
theorem zh {p : Prop} (h : p) : Hid p := Lib.hid h
theorem zs0 {α : Type} (xs : List α) (i : Nat) (x : α) : xs.toArray.setIfInBounds i x = (xs.set i x).toArray := List.setIfInBounds_toArray xs i x
theorem zs1 {α : Type} (x y : α) (xs : List α) : (x :: xs).set 0 y = y :: xs := rfl
theorem zs2 {α : Type} (x y : α) (xs : List α) (n : Nat) : (x :: xs).set (n + 1) y = x :: xs.set n y := rfl
theorem zlr (n : Nat) : n ≤ n := Nat.le_refl n
theorem zdf {p : Prop} [Decidable p] (h : ¬ p) : decide p = false := decide_eq_false h
theorem zla {α : Type} {a b : List α} : (a ++ b).length = a.length + b.length := List.length_append
theorem zlk {α : Type} {i : Nat} {l : List α} : (l.take i).length = min i l.length := List.length_take
theorem zld {α : Type} {i : Nat} {l : List α} : (l.drop i).length = l.length - i := List.length_drop
theorem zlw {α : Type} {i : Nat} {l : List α} (h : l.length ≤ i) : l.take i = l := List.take_of_length_le h
theorem zag {α : Type} {xs : Array α} {i : Nat} {a : α} : xs[i]? = some a ↔ ∃ h : i < xs.size, xs[i] = a := Array.getElem?_eq_some_iff
theorem znt {n m k : Nat} (a : n ≤ m) (b : m ≤ k) : n ≤ k := Nat.le_trans a b
theorem zng (a b : Nat) : a < b ∨ a ≥ b := Nat.lt_or_ge a b
theorem zai {a b : Prop} (x : a) (y : b) : a ∧ b := ⟨x, y⟩
theorem zbr (B : Nat) (w : World) : Below B w w := Below.refl B w
theorem zdt {p : Prop} [Decidable p] (h : p) : decide p = true := decide_eq_true h
end Go.Proofs.YtdnfhjfbanhhcaaGreatDoor
