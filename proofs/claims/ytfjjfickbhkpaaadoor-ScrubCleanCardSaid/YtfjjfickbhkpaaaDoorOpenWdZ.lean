/-
  An argument that is an array of sixteen words, opened.
-/
import Derived.Test.YtfjjfickbhkpaaaDoorLaidOut
import Derived.Test.YtfjjfickbhkpaaaDoorArrZ
import Derived.ProofKit
import Derived.OpenShut
import Derived.Below
import Derived.Deep.Slices
import Derived.Deep.Grids
namespace Go.Proofs.YtfjjfickbhkpaaaDoor
open Go.ChangeShapes Go.WideShapes Go.RowKit Go.Deep

theorem wdCells : Tryd.prog.cellsOf 23 = 1 := by kernel_rfl
theorem wd16Cells : Tryd.prog.cellsOf 24 = 16 := by kernel_rfl
theorem words_of (l : List Value) (h : l.length = 16) (hx : ∀ i, i < 16 → ∃ n : Nat, l[i]? = some (.int .u64 n) ∧ n < 18446744073709551616) : ∃ ws : List Nat, l = ws.map (fun n : Nat => Value.int .u64 n) ∧ ws.length = 16 ∧ ∀ n ∈ ws, n < 18446744073709551616 := by
  refine ⟨l.map (fun v => match v with | .int _ x => x.toNat | _ => 0), ?_, by rw [List.length_map, h], ?_⟩
  · apply List.ext_getElem?
    intro i
    by_cases hi : i < 16
    · obtain ⟨n, h1, _⟩ := hx i hi
      rw [List.getElem?_map, List.getElem?_map, h1]
      rfl
    · rw [List.getElem?_eq_none (by omega), List.getElem?_eq_none (by rw [List.length_map, List.length_map]; omega)]
  · intro n hn
    rw [List.mem_map] at hn
    obtain ⟨v, hv, rfl⟩ := hn
    obtain ⟨i, hi, rfl⟩ := List.getElem_of_mem hv
    obtain ⟨n, h1, h2⟩ := hx i (by omega)
    rw [List.getElem?_eq_getElem hi] at h1
    rw [Option.some.inj h1]
    exact h2
set_option maxRecDepth 100000 in
theorem open_words {H : Type} {enc : TypeId × Value → H} {W : World} {base : Nat} {v : Value} {d : DataW H} {p : List MemPlace}
    (hok : Value.okWide Tryd.prog W .any base 24 v) (hj : DataW.Trod enc Tryd.prog W 0 (fun _ => true) true 24 v d p) :
    ∃ f : Nat → Bool, v = .agg (sc f) := by
  simp only [Value.okWide, Tryd.underlying24] at hok
  obtain ⟨cs, rfl, hsz, _⟩ := hok
  rw [wd16Cells] at hsz
  obtain ⟨fuel, hf⟩ := hj
  have hlen : cs.toList.length = 16 := by simpa using hsz
  have hcs : (Value.agg cs).cells.toList = cs.toList := rfl
  rw [hcs] at hf
  obtain ⟨l, hl⟩ : ∃ l, cs.toList = l := ⟨_, rfl⟩
  rw [hl] at hf hlen
  obtain ⟨xs, m, _, _, _, hxl, hx⟩ := DataW.trod_array Tryd.underlying24 hf
  obtain ⟨ws, e1, e2, e3⟩ := words_of l hlen (fun i hi => by
    have h0 := hx i (by omega)
    rw [wdCells] at h0
    rw [List.getElem?_eq_getElem (by omega)] at h0
    obtain ⟨a, ha, _, wa⟩ := DataW.trod_int Tryd.underlying23 h0
    have ba := bounds_u64 wa
    rw [Nat.mul_one, List.drop_eq_getElem_cons (by omega)] at ha
    simp only [List.take_succ_cons, List.take_zero, List.cons.injEq, and_true] at ha
    refine ⟨a.toNat, ?_, by omega⟩
    rw [List.getElem?_eq_getElem (by omega), ha]
    congr 2
    omega)
  have h := sc_list e2 e3
  rw [← e1, ← hl, Array.toArray_toList] at h
  exact ⟨_, congrArg Value.agg h⟩
end Go.Proofs.YtfjjfickbhkpaaaDoor
