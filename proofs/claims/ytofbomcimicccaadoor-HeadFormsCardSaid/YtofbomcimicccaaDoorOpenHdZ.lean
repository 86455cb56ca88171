/-
  Arguments opened: a head.
-/
import Derived.Test.YtofbomcimicccaaDoorMemZ
import Derived.Test.YtofbomcimicccaaDoorHdRowZ
namespace Go.Proofs.YtofbomcimicccaaDoor
open Go.ChangeShapes Go.WideShapes Go.RowKit Go.Deep

theorem hdCells : Tryd.prog.cellsOf RHT = 5 := by kernel_rfl
theorem u64Cells : Tryd.prog.cellsOf 22 = 1 := by kernel_rfl
theorem intCells : Tryd.prog.cellsOf 3 = 1 := by kernel_rfl
theorem five_list (l : List Value) (h : l.length = 5) : ∃ a b c d e, l = [a, b, c, d, e] := by
  match l, h with
  | [a, b, c, d, e], _ => exact ⟨a, b, c, d, e, rfl⟩
set_option maxRecDepth 100000 in
theorem open_hd {H : Type} {enc : TypeId × Value → H} {W : World} {base : Nat} {v : Value} {d : DataW H} {p : List MemPlace}
    (hok : Value.okWide Tryd.prog W .any base RHT v) (hj : DataW.Trod enc Tryd.prog W 0 (fun _ => true) true RHT v d p) :
    ∃ h : Hd, v = .agg (hv h) ∧ h.Fit := by
  simp only [Value.okWide, Tryd.underlying24] at hok
  obtain ⟨cs, rfl, hsz, _⟩ := hok
  rw [hdCells] at hsz
  obtain ⟨fuel, hf⟩ := hj
  obtain ⟨u0, u1, u2, u3, u4, hl⟩ := five_list cs.toList (by simpa using hsz)
  have hcs : (Value.agg cs).cells.toList = [u0, u1, u2, u3, u4] := hl
  rw [hcs] at hf
  obtain ⟨xs, m, _, _, _, hxl, hx⟩ := DataW.trod_struct Tryd.underlying24 hf
  have h0 := hx 0 { name := "Seq", type := 22, offset := 0, embedded := false, tag := "", pkgPath := "", byteOffset := 0 } rfl
  have h1 := hx 1 { name := "Tenant", type := 22, offset := 1, embedded := false, tag := "", pkgPath := "", byteOffset := 8 } rfl
  have h2 := hx 2 { name := "Gen", type := 22, offset := 2, embedded := false, tag := "", pkgPath := "", byteOffset := 16 } rfl
  have h3 := hx 3 { name := "Root", type := 3, offset := 3, embedded := false, tag := "", pkgPath := "", byteOffset := 24 } rfl
  have h4 := hx 4 { name := "Entries", type := 3, offset := 4, embedded := false, tag := "", pkgPath := "", byteOffset := 32 } rfl
  dsimp only at h0 h1 h2 h3 h4
  simp only [u64Cells, intCells, List.drop_zero, List.drop_succ_cons, List.take_succ_cons, List.take_zero, List.take_nil] at h0 h1 h2 h3 h4
  have hxl' : xs.length = 5 := hxl
  rw [List.getElem?_eq_getElem (by omega)] at h0 h1 h2 h3 h4
  obtain ⟨a, ha, _, wa⟩ := DataW.trod_int Tryd.underlying22 h0
  obtain ⟨b, hb, _, wb⟩ := DataW.trod_int Tryd.underlying22 h1
  obtain ⟨c, hc, _, wc⟩ := DataW.trod_int Tryd.underlying22 h2
  obtain ⟨r, hr, _, wr⟩ := DataW.trod_int Tryd.underlying3 h3
  obtain ⟨e, he, _, we⟩ := DataW.trod_int Tryd.underlying3 h4
  simp at ha hb hc hr he
  subst ha hb hc hr he
  have ba := bounds_u64 wa
  have bb := bounds_u64 wb
  have bc := bounds_u64 wc
  have br := bounds_i64 wr
  have be := bounds_i64 we
  refine ⟨⟨a.toNat, b.toNat, c.toNat, r, e⟩, ?_, ⟨by dsimp only; omega, by dsimp only; omega, by dsimp only; omega, by dsimp only; omega, by dsimp only; omega, by dsimp only; omega, by dsimp only; omega⟩⟩
  have h5 : cs = #[.int .u64 a, .int .u64 b, .int .u64 c, .int .i64 r, .int .i64 e] := Array.toList_inj.1 hl
  rw [h5]
  unfold hv
  dsimp only
  rw [Int.toNat_of_nonneg ba.1, Int.toNat_of_nonneg bb.1, Int.toNat_of_nonneg bc.1]
end Go.Proofs.YtofbomcimicccaaDoor
