/-
  An argument that is a slice of pairs of bytes, opened.
-/
import Derived.Test.YtdgcghknfhhkiaaDoorPinState
import Derived.ProofKit
import Derived.OpenShut
import Derived.Deep.Slices
import Derived.Deep.Grids
namespace Go.Proofs.YtdgcghknfhhkiaaDoor
open Go.ChangeShapes Go.WideShapes Go.RowKit Go.Deep

theorem laidOut : laidOutB Tryd.prog = true := by kernel_rfl
theorem q8_cells : Tryd.prog.cellsOf 5 = 1 := by kernel_rfl
abbrev QT : TypeId := 60
theorem pair_cells : Tryd.prog.cellsOf 62 = 2 := by kernel_rfl
theorem pair_list (l : List Value) (h : l.length = 2) : ∃ a b, l = [a, b] := by
  match l, h with
  | [a, b], _ => exact ⟨a, b, rfl⟩
set_option maxRecDepth 100000 in
theorem open_pair {H : Type} {enc : TypeId × Value → H} {W : World} {ad : Addr} {n : Nat} {cs : List Value} {x : DataW H × List MemPlace} (hc : W.cells? 0 ad 2 = some cs) (h : DataW.trod enc Tryd.prog W 0 (fun _ => true) true n 62 cs = some x) :
    ∃ p : Nat × Nat, p.1 < 256 ∧ p.2 < 256 ∧ W.cell? ad = some (.int .u8 (p.1 : Int)) ∧ W.cell? (ad.add 1) = some (.int .u8 (p.2 : Int)) := by
  obtain ⟨_, hlen, hcell⟩ := World.cells?_some hc
  obtain ⟨u, v, rfl⟩ := pair_list cs hlen
  obtain ⟨xs, m, _, _, _, hxl, hx⟩ := DataW.trod_array Tryd.underlying62 h
  have h0 := hx 0 (by omega)
  have h1 := hx 1 (by omega)
  rw [q8_cells] at h0 h1
  rw [List.getElem?_eq_getElem (by omega)] at h0 h1
  obtain ⟨a, ha, _, wa⟩ := DataW.trod_int Tryd.underlying5 h0
  obtain ⟨b, hb, _, wb⟩ := DataW.trod_int Tryd.underlying5 h1
  simp at ha hb
  subst ha
  subst hb
  have ba := bounds_u8 wa
  have bb := bounds_u8 wb
  have e0 := hcell 0 (by omega)
  have e1 := hcell 1 (by omega)
  simp at e0 e1
  refine ⟨(a.toNat, b.toNat), by simp only; omega, by simp only; omega, ?_, ?_⟩
  · have : ad.add 0 = ad := by simp [Addr.add]
    rw [this] at e0
    rw [e0]; simp only; congr 2; omega
  · rw [e1]; simp only; congr 2; omega
theorem range_map_getD {α : Type} (f : Nat → α) (z : α) (n i : Nat) (h : i < n) : ((List.range n).map f).getD i z = f i := by
  rw [List.getD_eq_getElem?_getD, List.getElem?_map, List.getElem?_range h]; rfl
set_option maxRecDepth 100000 in
theorem open_qairs {H : Type} {enc : TypeId × Value → H} {W : World} {base : Nat} {v : Value} {d : DataW H} {p : List MemPlace}
    (hok : Value.okWide Tryd.prog W .any base QT v) (hj : DataW.Trod enc Tryd.prog W 0 (fun _ => true) true QT v d p) :
    ∃ (a : Option Addr) (l : List (Nat × Nat)) (c : Nat), v = .slice a l.length c ∧ (∀ p ∈ l, p.1 < 256 ∧ p.2 < 256) ∧ QS W a l ∧ l.length ≤ c ∧ c ≤ maxLen := by
  obtain ⟨a0, len0, cap0, rfl⟩ := okWide_slice Tryd.underlying60 hok
  obtain ⟨fuel, hf⟩ := hj
  rcases open_slice Tryd.underlying60 hf with ⟨hcs, _⟩ | ⟨ad, len, cap, m, n, D, Pl, hcs, _, hl, hm, hmm, _, hx⟩
  · simp only [Value.cells, List.cons.injEq, Value.slice.injEq, and_true] at hcs
    obtain ⟨rfl, rfl, rfl⟩ := hcs
    exact ⟨none, [], 0, rfl, (fun _ h => by cases h), (fun h => by cases h), Nat.le_refl _, by unfold maxLen; omega⟩
  · simp only [Value.cells, List.cons.injEq, Value.slice.injEq, and_true] at hcs
    obtain ⟨rfl, rfl, rfl⟩ := hcs
    simp only [if_true] at hmm
    rw [pair_cells] at hx
    obtain ⟨f, hf'⟩ := choose_lt (α := Nat × Nat) (n := len0) (p := fun i q => q.1 < 256 ∧ q.2 < 256 ∧ W.cell? (ad.add (i * 2)) = some (.int .u8 (q.1 : Int)) ∧ W.cell? ((ad.add (i * 2)).add 1) = some (.int .u8 (q.2 : Int))) (fun i hi => by
      obtain ⟨cs', h1, h2⟩ := hx i (by omega)
      exact open_pair h1 h2)
    refine ⟨some ad, (List.range len0).map f, cap0, by simp, ?_, ?_, by simp; exact hl, hm⟩
    · intro q hq
      obtain ⟨i, hi, rfl⟩ := List.mem_map.1 hq
      have := hf' i (List.mem_range.1 hi)
      exact ⟨this.1, this.2.1⟩
    · intro h0
      simp at h0
      obtain ⟨b, o, spot⟩ := ad
      have hspot : spot = none := by
        have := (hf' 0 (by omega)).2.2.1
        simpa [Addr.add] using World.cell?_spot this
      subst hspot
      refine ⟨b, o, rfl, fun i hi => ?_⟩
      simp at hi
      rw [range_map_getD _ _ _ _ hi]
      have h3 := (hf' i hi).2.2
      rw [addr_add, addr_add] at h3
      exact h3
end Go.Proofs.YtdgcghknfhhkiaaDoor
