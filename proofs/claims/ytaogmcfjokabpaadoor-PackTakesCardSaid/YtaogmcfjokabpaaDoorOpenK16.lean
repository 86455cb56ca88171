/-
  An argument that is a slice of pairs of int16, opened.
-/
import Derived.Test.YtaogmcfjokabpaaDoorLawPTakes
import Derived.Test.YtaogmcfjokabpaaDoorOpen
import Derived.Deep.Slices
import Derived.Deep.Grids
namespace Go.Proofs.YtaogmcfjokabpaaDoor
open Go.ChangeShapes Go.WideShapes Go.RowKit Go.Deep

abbrev QT : TypeId := 23
theorem i16_cells : Tryd.prog.cellsOf 41 = 1 := by kernel_rfl
theorem k16_cells : Tryd.prog.cellsOf 42 = 2 := by kernel_rfl
theorem pair_list (l : List Value) (h : l.length = 2) : ∃ a b, l = [a, b] := by
  match l, h with
  | [a, b], _ => exact ⟨a, b, rfl⟩
set_option maxRecDepth 100000 in
theorem open_k16 {H : Type} {enc : TypeId × Value → H} {W : World} {ad : Addr} {n : Nat} {cs : List Value} {x : DataW H × List MemPlace} (hc : W.cells? 0 ad 2 = some cs) (h : DataW.trod enc Tryd.prog W 0 (fun _ => true) true n 42 cs = some x) :
    ∃ p : Int × Int, (-32768 ≤ p.1 ∧ p.1 ≤ 32767 ∧ -32768 ≤ p.2 ∧ p.2 ≤ 32767) ∧ W.cell? ad = some (.int .i16 p.1) ∧ W.cell? (ad.add 1) = some (.int .i16 p.2) := by
  obtain ⟨_, hlen, hcell⟩ := World.cells?_some hc
  obtain ⟨u, v, rfl⟩ := pair_list cs hlen
  obtain ⟨xs, m, _, _, _, hxl, hx⟩ := DataW.trod_array Tryd.underlying42 h
  have h0 := hx 0 (by omega)
  have h1 := hx 1 (by omega)
  rw [i16_cells] at h0 h1
  rw [List.getElem?_eq_getElem (by omega)] at h0 h1
  obtain ⟨a, ha, _, wa⟩ := DataW.trod_int Tryd.underlying41 h0
  obtain ⟨b, hb, _, wb⟩ := DataW.trod_int Tryd.underlying41 h1
  simp at ha hb
  subst ha
  subst hb
  have ba := bounds_i16 wa
  have bb := bounds_i16 wb
  have e0 := hcell 0 (by omega)
  have e1 := hcell 1 (by omega)
  simp at e0 e1
  have : ad.add 0 = ad := by simp [Addr.add]
  rw [this] at e0
  exact ⟨(a, b), ⟨by simp only; omega, by simp only; omega, by simp only; omega, by simp only; omega⟩, e0, e1⟩
theorem range_map_getD {α : Type} (f : Nat → α) (z : α) (n i : Nat) (h : i < n) : ((List.range n).map f).getD i z = f i := by
  rw [List.getD_eq_getElem?_getD, List.getElem?_map, List.getElem?_range h]; rfl
set_option maxRecDepth 100000 in
theorem open_k16s {H : Type} {enc : TypeId × Value → H} {W : World} {base : Nat} {v : Value} {d : DataW H} {p : List MemPlace}
    (hok : Value.okWide Tryd.prog W .any base QT v) (hj : DataW.Trod enc Tryd.prog W 0 (fun _ => true) true QT v d p) :
    ∃ (a : Option Addr) (l : List (Int × Int)) (c : Nat), v = .slice a l.length c ∧ K16 l ∧ KSrc W a l ∧ l.length ≤ c ∧ c ≤ maxLen := by
  obtain ⟨a0, len0, cap0, rfl⟩ := okWide_slice Tryd.underlying23 hok
  obtain ⟨fuel, hf⟩ := hj
  rcases open_slice Tryd.underlying23 hf with ⟨hcs, _⟩ | ⟨ad, len, cap, m, n, D, Pl, hcs, _, hl, hm, hmm, _, hx⟩
  · simp only [Value.cells, List.cons.injEq, Value.slice.injEq, and_true] at hcs
    obtain ⟨rfl, rfl, rfl⟩ := hcs
    exact ⟨none, [], 0, rfl, (fun i h => by simp at h), (fun h => by cases h), Nat.le_refl _, by unfold maxLen; omega⟩
  · simp only [Value.cells, List.cons.injEq, Value.slice.injEq, and_true] at hcs
    obtain ⟨rfl, rfl, rfl⟩ := hcs
    simp only [if_true] at hmm
    rw [k16_cells] at hx
    obtain ⟨f, hf'⟩ := choose_lt (α := Int × Int) (n := len0) (p := fun i q => (-32768 ≤ q.1 ∧ q.1 ≤ 32767 ∧ -32768 ≤ q.2 ∧ q.2 ≤ 32767) ∧ W.cell? (ad.add (i * 2)) = some (.int .i16 q.1) ∧ W.cell? ((ad.add (i * 2)).add 1) = some (.int .i16 q.2)) (fun i hi => by
      obtain ⟨cs', h1, h2⟩ := hx i (by omega)
      exact open_k16 h1 h2)
    refine ⟨some ad, (List.range len0).map f, cap0, by simp, ?_, ?_, by simp; exact hl, hm⟩
    · intro i hi
      simp at hi
      rw [range_map_getD _ _ _ _ hi]
      exact (hf' i hi).1
    · intro h0
      simp at h0
      obtain ⟨b, o, spot⟩ := ad
      have hspot : spot = none := by
        have := (hf' 0 (by omega)).2.1
        simpa [Addr.add] using World.cell?_spot this
      subst hspot
      refine ⟨b, o, rfl, fun i hi => ?_⟩
      simp at hi
      rw [range_map_getD _ _ _ _ hi]
      have h3 := (hf' i hi).2
      rw [addr_add, addr_add] at h3
      exact h3
end Go.Proofs.YtaogmcfjokabpaaDoor
