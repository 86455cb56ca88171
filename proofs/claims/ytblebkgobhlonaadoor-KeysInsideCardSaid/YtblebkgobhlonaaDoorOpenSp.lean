/-
  Arguments that are spans, or two texts, opened.
-/
import Derived.Test.YtblebkgobhlonaaDoorProg
import Derived.Test.YtblebkgobhlonaaDoorOpen
import Derived.Deep.Slices
import Derived.Deep.Grids
namespace Go.Proofs.YtblebkgobhlonaaDoor
open Go.ChangeShapes Go.WideShapes Go.RowKit Go.Deep

abbrev RSPO : TypeId := 23
abbrev S2T : TypeId := 43
theorem spStr : Tryd.prog.cellsOf 9 = 1 := by kernel_rfl
theorem spBool : Tryd.prog.cellsOf 4 = 1 := by kernel_rfl
theorem spCells : Tryd.prog.cellsOf RSPO = 3 := by kernel_rfl
theorem s2Cells : Tryd.prog.cellsOf S2T = 2 := by kernel_rfl
theorem three_list (l : List Value) (h : l.length = 3) : ∃ a b c, l = [a, b, c] := by
  match l, h with
  | [a, b, c], _ => exact ⟨a, b, c, rfl⟩
theorem two_list (l : List Value) (h : l.length = 2) : ∃ a b, l = [a, b] := by
  match l, h with
  | [a, b], _ => exact ⟨a, b, rfl⟩
set_option maxRecDepth 100000 in
theorem open_span {H : Type} {enc : TypeId × Value → H} {W : World} {base : Nat} {v : Value} {d : DataW H} {p : List MemPlace}
    (hok : Value.okWide Tryd.prog W .any base RSPO v) (hj : DataW.Trod enc Tryd.prog W 0 (fun _ => true) true RSPO v d p) :
    ∃ (lo hi : ByteArray) (op : Bool), v = .agg #[.string lo, .string hi, .bool op] := by
  simp only [Value.okWide, Tryd.underlying23] at hok
  obtain ⟨cs, rfl, hsz, _⟩ := hok
  rw [spCells] at hsz
  obtain ⟨fuel, hf⟩ := hj
  obtain ⟨u, t, z, hl⟩ := three_list cs.toList (by simpa using hsz)
  have hcs : (Value.agg cs).cells.toList = [u, t, z] := hl
  rw [hcs] at hf
  obtain ⟨xs, m, _, _, _, hxl, hx⟩ := DataW.trod_struct Tryd.underlying23 hf
  have h0 := hx 0 { name := "Lo", type := 9, offset := 0, embedded := false, tag := "", pkgPath := "", byteOffset := 0 } rfl
  have h1 := hx 1 { name := "Hi", type := 9, offset := 1, embedded := false, tag := "", pkgPath := "", byteOffset := 16 } rfl
  have h2 := hx 2 { name := "Open", type := 4, offset := 2, embedded := false, tag := "", pkgPath := "", byteOffset := 32 } rfl
  dsimp only at h0 h1 h2
  simp only [spStr, spBool, List.drop_zero, List.drop_succ_cons, List.take_succ_cons, List.take_zero] at h0 h1 h2
  have hxl' : xs.length = 3 := hxl
  rw [List.getElem?_eq_getElem (by omega)] at h0 h1 h2
  obtain ⟨a, ha, _⟩ := DataW.trod_string Tryd.underlying9 h0
  obtain ⟨b, hb, _⟩ := DataW.trod_string Tryd.underlying9 h1
  obtain ⟨c, hc, _⟩ := DataW.trod_bool Tryd.underlying4 h2
  simp at ha hb hc
  subst ha hb hc
  refine ⟨a, b, c, ?_⟩
  have : cs = #[.string a, .string b, .bool c] := Array.toList_inj.1 hl
  rw [this]
set_option maxRecDepth 100000 in
theorem open_strs2 {H : Type} {enc : TypeId × Value → H} {W : World} {base : Nat} {v : Value} {d : DataW H} {p : List MemPlace}
    (hok : Value.okWide Tryd.prog W .any base S2T v) (hj : DataW.Trod enc Tryd.prog W 0 (fun _ => true) true S2T v d p) :
    ∃ x y : ByteArray, v = .agg #[.string x, .string y] := by
  simp only [Value.okWide, Tryd.underlying43] at hok
  obtain ⟨cs, rfl, hsz, _⟩ := hok
  rw [s2Cells] at hsz
  obtain ⟨fuel, hf⟩ := hj
  obtain ⟨u, t, hl⟩ := two_list cs.toList (by simpa using hsz)
  have hcs : (Value.agg cs).cells.toList = [u, t] := hl
  rw [hcs] at hf
  obtain ⟨xs, m, _, _, _, hxl, hx⟩ := DataW.trod_array Tryd.underlying43 hf
  have h0 := hx 0 (by omega)
  have h1 := hx 1 (by omega)
  rw [spStr] at h0 h1
  rw [List.getElem?_eq_getElem (by omega)] at h0 h1
  obtain ⟨a, ha, _⟩ := DataW.trod_string Tryd.underlying9 h0
  obtain ⟨b, hb, _⟩ := DataW.trod_string Tryd.underlying9 h1
  simp at ha hb
  subst ha
  subst hb
  refine ⟨a, b, ?_⟩
  have : cs = #[.string a, .string b] := Array.toList_inj.1 hl
  rw [this]
end Go.Proofs.YtblebkgobhlonaaDoor
