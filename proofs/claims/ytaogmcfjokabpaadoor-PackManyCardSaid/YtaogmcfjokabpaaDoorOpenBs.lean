/-
  An argument that is a slice of slices of bytes, opened.
-/
import Derived.Test.YtaogmcfjokabpaaDoorPackMany
import Derived.Test.YtaogmcfjokabpaaDoorOpen
import Derived.Deep.Slices
import Derived.Deep.Grids
namespace Go.Proofs.YtaogmcfjokabpaaDoor
open Go.ChangeShapes Go.WideShapes Go.RowKit Go.Deep

theorem bt_cells : Tryd.prog.cellsOf 22 = 1 := by kernel_rfl
set_option maxRecDepth 100000 in
theorem open_bytes1 {H : Type} {enc : TypeId × Value → H} {W : World} {v : Value} {fuel : Nat} {x : DataW H × List MemPlace}
    (hf : DataW.trod enc Tryd.prog W 0 (fun _ => true) true fuel 22 [v] = some x) :
    ∃ (a : Option Addr) (l : List Nat) (c : Nat), v = .slice a l.length c ∧ Src W a l ∧ (a = none → c = 0) ∧ B8 l ∧ l.length ≤ c ∧ c ≤ maxLen := by
  rcases open_ints Tryd.underlying22 Tryd.underlying5 (by kernel_rfl) hf with ⟨hcs, _⟩ | ⟨x, l, c, zs, hcs, _, hl, hm, hz, _, hcell, hwz⟩
  · simp only [List.cons.injEq, and_true] at hcs
    subst hcs
    exact ⟨none, [], 0, rfl, Src.nil _ _, fun _ => rfl, B8.nil, Nat.le_refl _, by unfold maxLen; omega⟩
  · simp only [List.cons.injEq, and_true] at hcs
    subst hcs
    have hzl : zs.length = c := by simpa using hz
    have hln : ((zs.take l).map Int.toNat).length = l := by rw [List.length_map, List.length_take]; omega
    refine ⟨some x, (zs.take l).map Int.toNat, c, by rw [hln], ?_, (fun h => by cases h), ?_, by rw [hln]; exact hl, hm⟩
    · intro h0
      rw [hln] at h0
      obtain ⟨b, o, spot⟩ := x
      have hspot : spot = none := by
        have := hcell 0 (by omega)
        simpa [Addr.add] using World.cell?_spot this
      subst hspot
      refine ⟨b, o, rfl, fun i hi => ?_⟩
      rw [hln] at hi
      have hc := hcell i (by omega)
      rw [addr_add] at hc
      rw [hc]
      have hi2 : i < zs.length := by omega
      have hb := bounds_u8 (hwz zs[i] (List.getElem_mem hi2))
      have e1 : zs.getD i 0 = zs[i] := by simp [List.getD, hi2]
      have e2 : ((zs.take l).map Int.toNat).getD i 0 = zs[i].toNat := by
        rw [List.getD_eq_getElem?_getD, List.getElem?_map, List.getElem?_take_of_lt hi, List.getElem?_eq_getElem hi2]; rfl
      rw [e1, e2]
      congr 2
      omega
    · intro y hy
      obtain ⟨z, hz1, rfl⟩ := List.mem_map.1 hy
      have := bounds_u8 (hwz z (List.mem_of_mem_take hz1))
      omega
theorem one_list (l : List Value) (h : l.length = 1) : ∃ a, l = [a] := by
  match l, h with
  | [a], _ => exact ⟨a, rfl⟩
theorem range_map_getL {α : Type} (f : Nat → α) (z : α) (n i : Nat) (h : i < n) : ((List.range n).map f).getD i z = f i := by
  rw [List.getD_eq_getElem?_getD, List.getElem?_map, List.getElem?_range h]; rfl
set_option maxRecDepth 100000 in
theorem open_bytess {H : Type} {enc : TypeId × Value → H} {W : World} {base : Nat} {v : Value} {d : DataW H} {p : List MemPlace}
    (hok : Value.okWide Tryd.prog W .any base 52 v) (hj : DataW.Trod enc Tryd.prog W 0 (fun _ => true) true 52 v d p) :
    ∃ (a : Option Addr) (es : List (List Nat)) (c : Nat), v = .slice a es.length c ∧ LSrc W a es ∧ es.length ≤ c ∧ c ≤ maxLen := by
  obtain ⟨a0, len0, cap0, rfl⟩ := okWide_slice Tryd.underlying52 hok
  obtain ⟨fuel, hf⟩ := hj
  rcases open_slice Tryd.underlying52 hf with ⟨hcs, _⟩ | ⟨ad, len, cap, m, n, D, Pl, hcs, _, hl, hm, hmm, _, hx⟩
  · simp only [Value.cells, List.cons.injEq, Value.slice.injEq, and_true] at hcs
    obtain ⟨rfl, rfl, rfl⟩ := hcs
    exact ⟨none, [], 0, rfl, (fun h => by cases h), Nat.le_refl _, by unfold maxLen; omega⟩
  · simp only [Value.cells, List.cons.injEq, Value.slice.injEq, and_true] at hcs
    obtain ⟨rfl, rfl, rfl⟩ := hcs
    simp only [if_true] at hmm
    rw [bt_cells] at hx
    obtain ⟨f, hf'⟩ := choose_lt (α := List Nat) (n := len0) (p := fun i l => ∃ a c, W.cell? (ad.add (i * 1)) = some (.slice a l.length c) ∧ Src W a l ∧ (a = none → c = 0) ∧ B8 l ∧ l.length ≤ c ∧ c ≤ maxLen) (fun i hi => by
      obtain ⟨cs', h1, h2⟩ := hx i (by omega)
      obtain ⟨_, hlen, hcell⟩ := World.cells?_some h1
      obtain ⟨u, rfl⟩ := one_list cs' hlen
      obtain ⟨a, l, c, rfl, h3⟩ := open_bytes1 h2
      have e0 := hcell 0 (by omega)
      have ez : (ad.add (i * 1)).add 0 = ad.add (i * 1) := by simp [Addr.add]
      rw [ez] at e0
      exact ⟨l, a, c, by simpa using e0, h3⟩)
    refine ⟨some ad, (List.range len0).map f, cap0, by simp, ?_, by simp; exact hl, hm⟩
    intro h0
    simp at h0
    obtain ⟨b, o, spot⟩ := ad
    have hspot : spot = none := by
      obtain ⟨a, c, h1, _⟩ := hf' 0 (by omega)
      simpa [Addr.add] using World.cell?_spot h1
    subst hspot
    refine ⟨b, o, rfl, fun i hi => ?_⟩
    simp at hi
    rw [range_map_getL _ _ _ _ hi]
    obtain ⟨a, c, h1, h2⟩ := hf' i hi
    rw [addr_add, Nat.mul_one] at h1
    exact ⟨a, c, h1, h2⟩
end Go.Proofs.YtaogmcfjokabpaaDoor
