/-
  An argument that is a slice of ints, opened.
-/
import Derived.Test.YtbgebjejgbcadaaDoorPages
import Derived.Test.YtbgebjejgbcadaaDoorOpen
import Derived.Deep.Slices
import Derived.Deep.Grids
namespace Go.Proofs.YtbgebjejgbcadaaDoor
open Go.ChangeShapes Go.WideShapes Go.RowKit Go.Deep

theorem fkInt : Tryd.prog.cellsOf 3 = 1 := by kernel_rfl
theorem fk_one (l : List Value) (h : l.length = 1) : ∃ a, l = [a] := by
  match l, h with
  | [a], _ => exact ⟨a, rfl⟩
theorem range_map_ia (f : Nat → Int) (n i : Nat) (h : i < n) : ia ((List.range n).map f) i = f i := by
  unfold ia
  rw [List.getD_eq_getElem?_getD, List.getElem?_map, List.getElem?_range h]; rfl
theorem add_zero' (ad : Addr) : ad.add 0 = ad := by simp [Addr.add]
set_option maxRecDepth 100000 in
theorem open_pages1 {H : Type} {enc : TypeId × Value → H} {W : World} {v : Value} {fuel : Nat} {x : DataW H × List MemPlace}
    (hf : DataW.trod enc Tryd.prog W 0 (fun _ => true) true fuel 22 [v] = some x) :
    ∃ (a : Option Addr) (is : List Int) (c : Nat), v = .slice a is.length c ∧ PgS W a is ∧ is.length ≤ c ∧ c ≤ maxLen := by
  rcases open_slice Tryd.underlying22 hf with ⟨hcs, _⟩ | ⟨ad, len, cap, m, n, D, Pl, hcs, _, hl, hm, hmm, _, hx⟩
  · simp only [List.cons.injEq, and_true] at hcs
    subst hcs
    exact ⟨none, [], 0, rfl, PgS.nil _ _, Nat.le_refl _, by unfold maxLen; omega⟩
  · simp only [List.cons.injEq, and_true] at hcs
    subst hcs
    simp only [if_true] at hmm
    rw [fkInt] at hx
    obtain ⟨f, hf'⟩ := choose_lt (α := Int) (n := len) (p := fun i y => W.cell? (ad.add (i * 1)) = some (.int .i64 y)) (fun i hi => by
      obtain ⟨cs', h1, h2⟩ := hx i (by omega)
      obtain ⟨_, hlen, hcell⟩ := World.cells?_some h1
      obtain ⟨u, rfl⟩ := fk_one cs' hlen
      obtain ⟨y, hy, _, _⟩ := DataW.trod_int Tryd.underlying3 h2
      have e0 := hcell 0 (by omega)
      rw [add_zero'] at e0
      simp at e0 hy
      exact ⟨y, by rw [Nat.mul_one, e0, hy]⟩)
    refine ⟨some ad, (List.range len).map f, cap, by simp, ?_, by simp; exact hl, hm⟩
    intro h0
    simp at h0
    obtain ⟨b, o, spot⟩ := ad
    have hspot : spot = none := by
      have := hf' 0 (by omega)
      simpa [Addr.add] using World.cell?_spot this
    subst hspot
    refine ⟨b, o, rfl, fun i hi => ?_⟩
    simp at hi
    rw [range_map_ia _ _ _ hi]
    have h3 := hf' i hi
    rw [addr_add, Nat.mul_one] at h3
    exact h3
theorem open_ints1 {H : Type} {enc : TypeId × Value → H} {W : World} {base : Nat} {v : Value} {d : DataW H} {p : List MemPlace}
    (hok : Value.okWide Tryd.prog W .any base 22 v) (hj : DataW.Trod enc Tryd.prog W 0 (fun _ => true) true 22 v d p) :
    ∃ (a : Option Addr) (is : List Int) (c : Nat), v = .slice a is.length c ∧ PgS W a is ∧ is.length ≤ c ∧ c ≤ maxLen := by
  obtain ⟨a0, len0, cap0, rfl⟩ := okWide_slice Tryd.underlying22 hok
  obtain ⟨fuel, hf⟩ := hj
  exact open_pages1 hf
end Go.Proofs.YtbgebjejgbcadaaDoor
