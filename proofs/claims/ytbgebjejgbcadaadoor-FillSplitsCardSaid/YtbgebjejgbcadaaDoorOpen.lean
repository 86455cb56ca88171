/-
  An argument that is a slice of bytes, opened: its address, its bytes.
-/
import Derived.Test.YtbgebjejgbcadaaDoorProg
import Derived.Test.YtbgebjejgbcadaaDoorMath2
import Derived.WalkKit
import Derived.ProofKit
import Derived.OpenShut
import Derived.Below
namespace Go.Proofs.YtbgebjejgbcadaaDoor
open Go.ChangeShapes Go.WideShapes Go.RowKit

theorem laidOut : laidOutB Tryd.prog = true := by kernel_rfl
theorem bytes8 : Tryd.prog.bytesOf 5 = 1 := by kernel_rfl
set_option maxRecDepth 100000 in
theorem open_bytes {H : Type} {enc : TypeId × Value → H} {W : World} {base : Nat} {v : Value} {d : DataW H} {p : List MemPlace}
    (hok : Value.okWide Tryd.prog W .any base 34 v) (hj : DataW.Trod enc Tryd.prog W 0 (fun _ => true) true 34 v d p) :
    ∃ (a : Option Addr) (l : List Nat) (c : Nat), v = .slice a l.length c ∧ B8 l ∧ Src W a l ∧ (a = none → c = 0) ∧ l.length ≤ c ∧ c ≤ maxLen ∧ ((∀ n ∈ d.weights Tryd.prog 34, n ≤ reachBytes) → c ≤ 140737488351232) := by
  obtain ⟨a0, len0, cap0, rfl⟩ := okWide_slice Tryd.underlying34 hok
  obtain ⟨fuel, hf⟩ := hj
  rcases open_ints Tryd.underlying34 Tryd.underlying5 (by kernel_rfl) hf with ⟨hcs, _⟩ | ⟨x, l, c, zs, hcs, _, hl, hm, hz, hd, hcell, hwz⟩
  · simp only [Value.cells, List.cons.injEq, Value.slice.injEq, and_true] at hcs
    obtain ⟨rfl, rfl, rfl⟩ := hcs
    exact ⟨none, [], 0, rfl, B8.nil, Src.nil _ _, fun _ => rfl, Nat.le_refl _, by unfold maxLen; omega, fun _ => by omega⟩
  · simp only [Value.cells, List.cons.injEq, Value.slice.injEq, and_true] at hcs
    obtain ⟨rfl, rfl, rfl⟩ := hcs
    have hzl : zs.length = cap0 := by simpa using hz
    have hln : ((zs.take len0).map Int.toNat).length = len0 := by rw [List.length_map, List.length_take]; omega
    refine ⟨some x, (zs.take len0).map Int.toNat, cap0, by rw [hln], ?_, ?_, fun h => (by cases h), by rw [hln]; exact hl, hm, ?_⟩
    · intro y hy
      obtain ⟨z, hz1, rfl⟩ := List.mem_map.1 hy
      have := bounds_u8 (hwz z (List.mem_of_mem_take hz1))
      omega
    · intro h0
      rw [hln] at h0
      obtain ⟨b, o, spot⟩ := x
      have hspot : spot = none := by
        have := hcell 0 (by omega)
        simpa [Addr.add] using World.cell?_spot this
      subst hspot
      refine ⟨b, o, rfl, fun i hi => ?_⟩
      rw [hln] at hi
      have hc := hcell i (by omega)
      rw [addr_add] at hc
      rw [hc]
      have hi2 : i < zs.length := by omega
      have hb := bounds_u8 (hwz zs[i] (List.getElem_mem hi2))
      have e1 : zs.getD i 0 = zs[i] := by simp [List.getD, hi2]
      have e2 : ((zs.take len0).map Int.toNat).getD i 0 = zs[i].toNat := by
        rw [List.getD_eq_getElem?_getD, List.getElem?_map, List.getElem?_take_of_lt hi, List.getElem?_eq_getElem hi2]; rfl
      rw [e1, e2]
      congr 2
      omega
    · intro hw
      simp only [Prod.mk.injEq] at hd
      obtain ⟨rfl, _⟩ := hd
      have hu := Tryd.underlying34
      have := hw (((lits .u8 (zs.take len0)).length + (lits .u8 (zs.drop len0)).length) * Tryd.prog.bytesOf 5) (by rw [DataW.weights, hu]; exact List.mem_cons_self ..)
      rw [bytes8] at this
      simp only [lits, List.length_map, List.length_take, List.length_drop, reachBytes] at this
      omega
end Go.Proofs.YtbgebjejgbcadaaDoor
