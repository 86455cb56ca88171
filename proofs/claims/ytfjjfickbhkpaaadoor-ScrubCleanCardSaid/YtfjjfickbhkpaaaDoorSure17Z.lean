/-
  The law's sure.
-/
import Derived.Test.YtfjjfickbhkpaaaDoorBit6Z
import Derived.Test.YtfjjfickbhkpaaaDoorBit2oZ
import Derived.Test.YtfjjfickbhkpaaaDoorBelowZ
import Derived.Test.YtfjjfickbhkpaaaDoorAsZ
namespace Go.Proofs.YtfjjfickbhkpaaaDoor
open Go Go.RowKit

def zS (m : Nat) : Bool := withR (belowR 3) 70 m
theorem zS_cnt : cnt zS 1024 = 4 := by decide +kernel
theorem zT_cnt : cnt (takeR zS 2) 1024 = 2 := by decide +kernel
theorem zS_wd : wd zS 1 = 64 := by decide +kernel
theorem zS_el : el zS 1 = 1 := (el_only (f := zS) (i := 1) (m := 1) (by rw [zS_cnt]; omega) (by decide +kernel) (by decide +kernel)).symm
theorem zS_ia : ia (eI zS 1024) 1 = 1 := by rw [eI_ia zS 1 (by rw [zS_cnt]; omega), zS_el]; rfl
theorem zS_len : (eI zS 1024).length = 4 := (eI_len zS 1024).trans zS_cnt
theorem zS_tk (l : List Int) (h : ia l 1 = 1) (h4 : l.length = 4) : (l.take 2).length = 2 ∧ ia (l.take 2) 1 = 1 := by
  refine ⟨by rw [List.length_take, h4]; rfl, ?_⟩
  rw [← h, ia, ia, List.getD_eq_getElem?_getD, List.getD_eq_getElem?_getD, List.getElem?_take, if_pos (by omega)]
end Go.Proofs.YtfjjfickbhkpaaaDoor
