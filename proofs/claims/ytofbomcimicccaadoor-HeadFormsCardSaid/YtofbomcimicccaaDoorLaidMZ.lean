/-
  What the listed package-level variables hold: out of the rows' condition, the cells that the walks read; and a world that meets it.
-/
import Derived.Test.YtofbomcimicccaaDoorRows
import Derived.Test.YtofbomcimicccaaDoorAsZ
import Derived.Test.YtofbomcimicccaaDoorCrc0Z
import Derived.Test.YtofbomcimicccaaDoorHdRowZ
import Derived.Lib.LaidTab
import Derived.LaidLaws
import Derived.LaidHandle
import Derived.ChangeBears2
namespace Go.Proofs.YtofbomcimicccaaDoor
open Go.RowKit

theorem laidOwn : ownKnob Tryd.prog.godebug = none := by kernel_rfl
theorem laidEt : Tryd.prog.globalNamed "errors.errorType" = some 1 := by kernel_rfl
theorem laidRt : (Tryd.prog.cutTypes.find? (·.1 == "internal/reflectlite.rtype")).map (·.2) = some 105 := by kernel_rfl
theorem laidRow : ((List.range 148).filter fun t => Tryd.prog.rowNamed t [101, 114, 114, 111, 114]) = [28] := by kernel_rfl
theorem laidSize : Tryd.prog.types.size = 148 := by kernel_rfl
abbrev laidList {H : Type} : List (String × DataW H) := [("errors.errorType", Rows.laid_errors_errorType), ("warren/crc.worth", Rows.laid_warren_crc_worth), ("warren/head.most", Rows.laid_warren_head_most)]
theorem laid_parts {W : World} (h : laidMetH Tryd.prog laidList W) : laidMet Tryd.prog [("warren/crc.worth", Rows.laid_warren_crc_worth), ("warren/head.most", Rows.laid_warren_head_most)] W ∧ handlesMet Tryd.prog [("errors.errorType", Rows.laid_errors_errorType)] W := h
theorem hg_of_laid {W : World} (h : laidMetH Tryd.prog laidList W) : Hg W := by
  obtain ⟨name, u, ty, e1, e2, e3, e4, e5⟩ := (laid_parts h).2 _ (List.mem_singleton.2 rfl)
  have en : name = [101, 114, 114, 111, 114] := (Option.some.inj e1).symm
  subst en
  obtain rfl := Option.some.inj (laidRt.symm.trans e2)
  have hm : ty ∈ (List.range 148).filter fun t => Tryd.prog.rowNamed t [101, 114, 114, 111, 114] := List.mem_filter.2 ⟨List.mem_range.2 (by rw [← laidSize]; exact e3), e4⟩
  rw [laidRow] at hm
  obtain rfl := List.mem_singleton.1 hm
  have hh : typeHandle Tryd.prog 28 = .pointer (some ⟨3, 28, none⟩) := by kernel_rfl
  rw [hh] at e5
  have := World.var?_cell laidEt e5 0
  unfold Hg
  simpa using this
theorem worths_eq : (worths.map fun n : Nat => (n : Int)) = [0, 274646895, 549293790, 820201905, 1098587580, 1361435347, 1640403810, 1905808397, 2197175160, 2460548119, 2722870694, 2987750089, 3280807620, 3553878443, 3811616794, 4084100981] := by decide +kernel
theorem laidTabIs {H : Type} : (Rows.laid_warren_crc_worth : DataW H) = Lib.tabData .u32 (worths.map fun n : Nat => (n : Int)) := by rw [worths_eq]; rfl
theorem worth_of_laid {W : World} (h : laidMetH Tryd.prog laidList W) : WorthIn W := by
  have h1 := (laid_parts h).1
  rw [laidTabIs] at h1
  have ht := Lib.tabIs_of_head (P := Tryd.prog) (g := 2) (t := 119) (e := 77) (n := 16) (by kernel_rfl) (by kernel_rfl) Tryd.underlying119 Tryd.underlying77 (by kernel_rfl) (by kernel_rfl) h1
  intro j hj
  have := ht.cell (g := 2) (by kernel_rfl) j (by simpa [worths] using hj)
  rw [this]
  congr 2
  have hj' : j < worths.length := by simpa [worths] using hj
  simp [List.getD, hj']

theorem laidMet_tail {P : Program} {x : String × DataW Unit} {r : List (String × DataW Unit)} {W : World} (h : laidMet P (x :: r) W) : laidMet P r W := by
  obtain ⟨ps, ⟨g, t, cs, fuel, p, q, _, _, _, _, hr, rfl⟩, hn, hc⟩ := h
  exact ⟨q, hr, (List.nodup_append.1 hn).2.1, fun b off hm => hc b off (List.mem_append_right _ hm)⟩
def mosts : List Nat := [4611686018427387904, 4611686018427387904, 4611686018427387904, 1023, 4096]
theorem mosts_eq : (mosts.map fun n : Nat => (n : Int)) = [4611686018427387904, 4611686018427387904, 4611686018427387904, 1023, 4096] := by decide +kernel
theorem laidMostIs {H : Type} : (Rows.laid_warren_head_most : DataW H) = Lib.tabData .u64 (mosts.map fun n : Nat => (n : Int)) := by rw [mosts_eq]; rfl
theorem mosts_ms (k : Nat) (h : k < 5) : mosts.getD k 0 = msP k := by
  match k, h with
  | 0, _ => rfl
  | 1, _ => rfl
  | 2, _ => rfl
  | 3, _ => rfl
  | 4, _ => rfl
  | n + 5, h => omega
theorem most_of_laid {W : World} (h : laidMetH Tryd.prog laidList W) : MostIn W := by
  have h1 := laidMet_tail (laid_parts h).1
  rw [laidMostIs] at h1
  have ht := Lib.tabIs_of_head (P := Tryd.prog) (g := 0) (t := 52) (e := 22) (n := 5) (by kernel_rfl) (by kernel_rfl) Tryd.underlying52 Tryd.underlying22 (by kernel_rfl) (by kernel_rfl) h1
  intro k hk
  have := ht.cell (g := 0) (by kernel_rfl) k (by simpa [mosts] using hk)
  rw [this, ← mosts_ms k hk]
  congr 2
  have hk' : k < mosts.length := by simpa [mosts] using hk
  simp [List.getD, hk']

/-- A world that meets the condition: the settled one, the variables' cells laid. -/
noncomputable def laidWorld (os : Os) : World :=
  let w0 := World.holding Tryd.prog os ⟨#[], #[], []⟩
  { w0 with heap := ((w0.heap.modify 1 fun
      | .cells _ t frozen => .cells #[.iface 105 (.agg #[.pointer (some ⟨3, 28, none⟩)])] t frozen
      | o => o).modify 2 fun
      | .cells _ t frozen => .cells (worths.map fun n : Nat => Value.int .u32 (n : Int)).toArray t frozen
      | o => o).modify 0 fun
      | .cells _ t frozen => .cells (mosts.map fun n : Nat => Value.int .u64 (n : Int)).toArray t frozen
      | o => o }
theorem laidWorld_met (os : Os) (args : Array Value) : laidMetH Tryd.prog laidList ((laidWorld os).forCall (fun _ _ => 0) ⟨#[], args, []⟩).memory :=
  laidMetH_of_parts (laidMet_of_run' 8 (by kernel_rfl) (by kernel_rfl)) (by kernel_rfl)
end Go.Proofs.YtofbomcimicccaaDoor
