/-
  Moves, in memory: a kind, a key, a number.
  Arguments opened: a move, a slice of moves.
-/
import Derived.Test.YtggibbgohhpfpaaDoorNodeZ
import Derived.Test.YtggibbgohhpfpaaDoorMemZ
namespace Go.Proofs.YtggibbgohhpfpaaDoor
open Go Go.RowKit

abbrev MVT : TypeId := 48
structure Mv where
  x : Int
  k : ByteArray
  t : Nat
instance : Inhabited Mv := ⟨⟨0, ByteArray.empty, 0⟩⟩
def mva (l : List Mv) (i : Nat) : Mv := l.getD i default
def mvOk (y : Mv) : Prop := (-9223372036854775808 ≤ y.x ∧ y.x ≤ 9223372036854775807) ∧ y.t < 65536
/-- A slice that reads as these moves. -/
def MS (w : World) (a : Option Addr) (l : List Mv) : Prop := 0 < l.length → ∃ g o, a = some ⟨g, o, none⟩ ∧ ∀ i, i < l.length → (w.cell? ⟨g, o + i * 3, none⟩ = some (.int .i64 (mva l i).x) ∧ w.cell? ⟨g, o + i * 3 + 1, none⟩ = some (.string (mva l i).k) ∧ w.cell? ⟨g, o + i * 3 + 2, none⟩ = some (.int .u16 (mva l i).t)) ∧ mvOk (mva l i)
theorem MS.below {w w' : World} {a : Option Addr} {l : List Mv} {B : Nat} (h : MS w a l) (hb : Below B w w') (hB : w.heap.size ≤ B) : MS w' a l := fun h0 => by
  obtain ⟨g, o, rfl, hc⟩ := h h0
  refine ⟨g, o, rfl, fun i hi => ?_⟩
  obtain ⟨⟨h1, h2, h3⟩, h4⟩ := hc i hi
  have hl := Nat.lt_of_lt_of_le (block_lt_of_cell h1) hB
  exact ⟨⟨by rw [hb.cell (p := ⟨g, o + i * 3, none⟩) hl]; exact h1, by rw [hb.cell (p := ⟨g, o + i * 3 + 1, none⟩) hl]; exact h2, by rw [hb.cell (p := ⟨g, o + i * 3 + 2, none⟩) hl]; exact h3⟩, h4⟩
/-- A block that holds a move. -/
def MB (w : World) (b : Nat) (x : Int) (k : ByteArray) (t : Nat) : Prop := w.heap[b]? = some (.cells #[.int .i64 x, .string k, .int .u16 t] MVT (0, 0))
section
variable {w w' : World} {b t : Nat} {x : Int} {k : ByteArray}
theorem MB.c0 (h : MB w b x k t) : w.cell? ⟨b, 0, none⟩ = some (.int .i64 x) := by
  have h' : w.heap[b]? = _ := h
  simp [World.cell?, h']
theorem MB.c1 (h : MB w b x k t) : w.cell? ⟨b, 1, none⟩ = some (.string k) := by
  have h' : w.heap[b]? = _ := h
  simp [World.cell?, h']
theorem MB.c2 (h : MB w b x k t) : w.cell? ⟨b, 2, none⟩ = some (.int .u16 t) := by
  have h' : w.heap[b]? = _ := h
  simp [World.cell?, h']
theorem MB.lt (h : MB w b x k t) : b < w.heap.size := (Array.getElem?_eq_some_iff.1 h).1
theorem MB.ext (h : MB w b x k t) (hb : Below w.heap.size w w') : MB w' b x k t := (hb.block b h.lt).trans h
end
end Go.Proofs.YtggibbgohhpfpaaDoor
namespace Go.Proofs.YtggibbgohhpfpaaDoor
open Go.ChangeShapes Go.WideShapes Go.RowKit Go.Deep

theorem mvCells : Tryd.prog.cellsOf MVT = 3 := by kernel_rfl
set_option maxRecDepth 100000 in
theorem open_mv1 {H : Type} {enc : TypeId × Value → H} {W : World} {ad : Addr} {n : Nat} {cs : List Value} {x : DataW H × List MemPlace} (hc : W.cells? 0 ad 3 = some cs) (h : DataW.trod enc Tryd.prog W 0 (fun _ => true) true n MVT cs = some x) :
    ∃ y : Mv, mvOk y ∧ ∀ j v, ([Value.int .i64 y.x, .string y.k, .int .u16 y.t] : List Value)[j]? = some v → W.cell? (ad.add j) = some v := by
  obtain ⟨_, hlen, hcell⟩ := World.cells?_some hc
  obtain ⟨v0, v1, v2, rfl⟩ := three_list cs hlen
  obtain ⟨xs, m, _, _, _, hxl, hx⟩ := DataW.trod_struct Tryd.underlying48 h
  have h0 := hx 0 { name := "Kind", type := 3, offset := 0, embedded := false, tag := "", pkgPath := "", byteOffset := 0 } rfl
  have h1 := hx 1 { name := "Key", type := 9, offset := 1, embedded := false, tag := "", pkgPath := "", byteOffset := 8 } rfl
  have h2 := hx 2 { name := "At", type := 22, offset := 2, embedded := false, tag := "", pkgPath := "", byteOffset := 24 } rfl
  dsimp only at h0 h1 h2
  simp only [spStr, spInt, u16Cells, List.drop_zero, List.drop_succ_cons, List.take_succ_cons, List.take_zero] at h0 h1 h2
  have hxl' : xs.length = 3 := hxl
  rw [List.getElem?_eq_getElem (by omega)] at h0 h1 h2
  obtain ⟨z, hz, _, wz⟩ := DataW.trod_int Tryd.underlying3 h0
  obtain ⟨a, ha, _⟩ := DataW.trod_string Tryd.underlying9 h1
  obtain ⟨b, hb, _, wb⟩ := DataW.trod_int Tryd.underlying22 h2
  simp at hz ha hb
  subst hz ha
  have bz := bounds_i64 wz
  have bb := bounds_u16 wb
  obtain ⟨b, rfl⟩ := Int.eq_ofNat_of_zero_le bb.1
  subst hb
  refine ⟨⟨z, a, b⟩, ⟨bz, by show b < 65536; omega⟩, fun j v hv => ?_⟩
  have hj : j < 3 := by
    have := (List.getElem?_eq_some_iff.1 hv).1; simpa using this
  have e := hcell j hj
  rcases j with _ | _ | _ | j
  · simp at hv; rw [e, ← hv]; rfl
  · simp at hv; rw [e, ← hv]; rfl
  · simp at hv; rw [e, ← hv]; rfl
  · omega
theorem range_map_mva (f : Nat → Mv) (n i : Nat) (h : i < n) : mva ((List.range n).map f) i = f i := by
  unfold mva
  rw [List.getD_eq_getElem?_getD, List.getElem?_map, List.getElem?_range h]; rfl
set_option maxRecDepth 100000 in
theorem open_mvs {H : Type} {enc : TypeId × Value → H} {W : World} {base : Nat} {v : Value} {d : DataW H} {p : List MemPlace}
    (hok : Value.okWide Tryd.prog W .any base 26 v) (hj : DataW.Trod enc Tryd.prog W 0 (fun _ => true) true 26 v d p) :
    ∃ (a : Option Addr) (l : List Mv) (c : Nat), v = .slice a l.length c ∧ MS W a l ∧ l.length ≤ c ∧ c ≤ maxLen := by
  obtain ⟨a0, len0, cap0, rfl⟩ := okWide_slice Tryd.underlying26 hok
  obtain ⟨fuel, hf⟩ := hj
  rcases open_slice Tryd.underlying26 hf with ⟨hcs, _⟩ | ⟨ad, len, cap, m, n, D, Pl, hcs, _, hl, hm, hmm, hd, hx⟩
  · simp only [Value.cells, List.cons.injEq, Value.slice.injEq, and_true] at hcs
    obtain ⟨rfl, rfl, rfl⟩ := hcs
    exact ⟨none, [], 0, rfl, (fun h => by cases h), Nat.le_refl _, by unfold maxLen; omega⟩
  · simp only [Value.cells, List.cons.injEq, Value.slice.injEq, and_true] at hcs
    obtain ⟨rfl, rfl, rfl⟩ := hcs
    simp only [if_true] at hmm
    rw [mvCells] at hx
    obtain ⟨f, hf'⟩ := choose_lt (α := Mv) (n := len0) (p := fun i y => mvOk y ∧ ∀ j v, ([Value.int .i64 y.x, .string y.k, .int .u16 y.t] : List Value)[j]? = some v → W.cell? ((ad.add (i * 3)).add j) = some v) (fun i hi => by
      obtain ⟨cs', h1, h2⟩ := hx i (by omega)
      exact open_mv1 h1 h2)
    refine ⟨some ad, (List.range len0).map f, cap0, by simp, ?_, by simp; exact hl, hm⟩
    intro h0
    simp at h0
    obtain ⟨b, o, spot⟩ := ad
    have hspot : spot = none := by
      have := (hf' 0 (by omega)).2 0 _ rfl
      simpa [Addr.add] using World.cell?_spot this
    subst hspot
    refine ⟨b, o, rfl, fun i hi => ?_⟩
    simp at hi
    rw [range_map_mva _ _ _ hi]
    have h3 := (hf' i hi).2
    have h4 : ∀ j v, ([Value.int .i64 (f i).x, .string (f i).k, .int .u16 (f i).t] : List Value)[j]? = some v → W.cell? ⟨b, o + i * 3 + j, none⟩ = some v := fun j v hv => by
      have := h3 j v hv
      rwa [addr_add, addr_add] at this
    exact ⟨⟨h4 0 _ rfl, h4 1 _ rfl, h4 2 _ rfl⟩, (hf' i hi).1⟩
set_option maxRecDepth 100000 in
theorem open_mv {H : Type} {enc : TypeId × Value → H} {W : World} {base : Nat} {v : Value} {d : DataW H} {p : List MemPlace}
    (hok : Value.okWide Tryd.prog W .any base MVT v) (hj : DataW.Trod enc Tryd.prog W 0 (fun _ => true) true MVT v d p) :
    ∃ y : Mv, v = .agg #[.int .i64 y.x, .string y.k, .int .u16 y.t] ∧ mvOk y := by
  simp only [Value.okWide, Tryd.underlying48] at hok
  obtain ⟨cs, rfl, hsz, _⟩ := hok
  rw [mvCells] at hsz
  obtain ⟨fuel, hf⟩ := hj
  obtain ⟨u, t, z, hl⟩ := three_list cs.toList (by simpa using hsz)
  have hcs : (Value.agg cs).cells.toList = [u, t, z] := hl
  rw [hcs] at hf
  obtain ⟨xs, m, _, _, _, hxl, hx⟩ := DataW.trod_struct Tryd.underlying48 hf
  have h0 := hx 0 { name := "Kind", type := 3, offset := 0, embedded := false, tag := "", pkgPath := "", byteOffset := 0 } rfl
  have h1 := hx 1 { name := "Key", type := 9, offset := 1, embedded := false, tag := "", pkgPath := "", byteOffset := 8 } rfl
  have h2 := hx 2 { name := "At", type := 22, offset := 2, embedded := false, tag := "", pkgPath := "", byteOffset := 24 } rfl
  dsimp only at h0 h1 h2
  simp only [spStr, spInt, u16Cells, List.drop_zero, List.drop_succ_cons, List.take_succ_cons, List.take_zero] at h0 h1 h2
  have hxl' : xs.length = 3 := hxl
  rw [List.getElem?_eq_getElem (by omega)] at h0 h1 h2
  obtain ⟨z, hz, _, wz⟩ := DataW.trod_int Tryd.underlying3 h0
  obtain ⟨a, ha, _⟩ := DataW.trod_string Tryd.underlying9 h1
  obtain ⟨b, hb, _, wb⟩ := DataW.trod_int Tryd.underlying22 h2
  simp at hz ha hb
  subst hz ha
  have bz := bounds_i64 wz
  have bb := bounds_u16 wb
  obtain ⟨b, rfl⟩ := Int.eq_ofNat_of_zero_le bb.1
  subst hb
  refine ⟨⟨z, a, b⟩, ?_, ⟨bz, by show b < 65536; omega⟩⟩
  have : cs = #[.int .i64 z, .string a, .int .u16 b] := Array.toList_inj.1 hl
  rw [this]
end Go.Proofs.YtggibbgohhpfpaaDoor
