/-
  A string's bytes: '[]byte(s)', as a new row.
-/
import Derived.Test.YthkephndhhhacaaDoorProg
import Derived.Test.YthkephndhhhacaaDoorLeafMath
import Derived.Test.YthkephndhhhacaaDoorBy
import Derived.WalkKit
import Derived.Lib.ConvBytes
namespace Go.Proofs.YthkephndhhhacaaDoor
open Go Go.RowKit

theorem conv_str (w : World) (s : ByteArray) (hs : s.size ≤ 1099511627776) : ∃ g c w1, (convert 9 22 (.string s)).run Tryd.prog w = .ok (.slice (some ⟨g, 0, none⟩) s.size c) w1 ∧ Src w1 (some ⟨g, 0, none⟩) (bn s) ∧ s.size ≤ c ∧ c ≤ maxLen ∧ Below w.heap.size w w1 := by
  refine ⟨w.heap.size, grownCap w s.size 0 5, Lib.bytesWorld w 5 s, ?_, ?_, ?_, ?_, ⟨rfl, rfl, rfl, by rw [Lib.bytesWorld_size]; omega, fun j hj => Lib.bytesWorld_at_old w _ _ j hj⟩⟩
  · exact Lib.run_convert_string_bytes w _ _ _ s Tryd.underlying9 Tryd.underlying22 Tryd.underlying5
  · have hcs : Cs (Lib.bytesWorld w 5 s) w.heap.size 0 (bn s) := fun i hi => by
      rw [bn_len] at hi
      rw [Nat.zero_add, Lib.bytesWorld_cell w 5 s i hi]
      unfold bn
      have hi2 : i < s.data.toList.length := by simpa using hi
      congr 2
      rw [List.getD_eq_getElem?_getD, List.getD_eq_getElem?_getD, List.getElem?_map, show (bl s) = s.data.toList from rfl, List.getElem?_eq_getElem hi2]
      rfl
    exact hcs.src
  · have := grownCap_ge w s.size 0 5; omega
  · exact grownCap_le_maxLen w s.size 0 5 (by unfold maxLen; omega)
end Go.Proofs.YthkephndhhhacaaDoor
