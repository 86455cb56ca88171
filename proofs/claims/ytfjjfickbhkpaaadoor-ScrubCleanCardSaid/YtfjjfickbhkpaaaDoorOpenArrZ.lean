/-
  An argument that is an array of two bytes, opened.
-/
import Derived.Test.YtfjjfickbhkpaaaDoorProg
import Derived.Test.YtfjjfickbhkpaaaDoorMemZ
import Derived.Deep.Slices
import Derived.Deep.Grids
namespace Go.Proofs.YtfjjfickbhkpaaaDoor
open Go.ChangeShapes Go.WideShapes Go.RowKit Go.Deep

theorem u8Cells : Tryd.prog.cellsOf 5 = 1 := by kernel_rfl
theorem arr2Cells : Tryd.prog.cellsOf 35 = 2 := by kernel_rfl
theorem arr2_list (l : List Value) (h : l.length = 2) : ∃ a b, l = [a, b] := by
  match l, h with
  | [a, b], _ => exact ⟨a, b, rfl⟩
set_option maxRecDepth 100000 in
theorem open_arr2 {H : Type} {enc : TypeId × Value → H} {W : World} {base : Nat} {v : Value} {d : DataW H} {p : List MemPlace}
    (hok : Value.okWide Tryd.prog W .any base 35 v) (hj : DataW.Trod enc Tryd.prog W 0 (fun _ => true) true 35 v d p) :
    ∃ x y : Nat, v = .agg #[.int .u8 x, .int .u8 y] ∧ x < 256 ∧ y < 256 := by
  simp only [Value.okWide, Tryd.underlying35] at hok
  obtain ⟨cs, rfl, hsz, _⟩ := hok
  rw [arr2Cells] at hsz
  obtain ⟨fuel, hf⟩ := hj
  obtain ⟨u, t, hl⟩ := arr2_list cs.toList (by simpa using hsz)
  have hcs : (Value.agg cs).cells.toList = [u, t] := hl
  rw [hcs] at hf
  obtain ⟨xs, m, _, _, _, hxl, hx⟩ := DataW.trod_array Tryd.underlying35 hf
  have h0 := hx 0 (by omega)
  have h1 := hx 1 (by omega)
  rw [u8Cells] at h0 h1
  rw [List.getElem?_eq_getElem (by omega)] at h0 h1
  obtain ⟨a, ha, _, wa⟩ := DataW.trod_int Tryd.underlying5 h0
  obtain ⟨b, hb, _, wb⟩ := DataW.trod_int Tryd.underlying5 h1
  simp at ha hb
  subst ha
  subst hb
  have ba := bounds_u8 wa
  have bb := bounds_u8 wb
  refine ⟨a.toNat, b.toNat, ?_, by omega, by omega⟩
  have : cs = #[.int .u8 a, .int .u8 b] := Array.toList_inj.1 hl
  rw [this]
  congr 3
  · congr 1; omega
  · congr 2; omega
end Go.Proofs.YtfjjfickbhkpaaaDoor
