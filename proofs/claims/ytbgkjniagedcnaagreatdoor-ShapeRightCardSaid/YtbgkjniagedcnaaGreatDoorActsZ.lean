/-
  Slices of things done, in memory: a kind, a key, a value.
  Arguments opened: an array of two numbers, a slice of entries, a slice of things done.
-/
import Derived.Test.YtbgkjniagedcnaaGreatDoorNodeZ
import Derived.Test.YtbgkjniagedcnaaGreatDoorMemZ
import Derived.Deep.Slices
import Derived.Deep.Grids
namespace Go.Proofs.YtbgkjniagedcnaaGreatDoor
open Go Go.RowKit

abbrev ACT : TypeId := 50
structure Ac where
  x : Int
  k : ByteArray
  v : ByteArray
instance : Inhabited Ac := ⟨⟨0, ByteArray.empty, ByteArray.empty⟩⟩
def aca (l : List Ac) (i : Nat) : Ac := l.getD i default
/-- A slice that reads as these acts. -/
def AS (w : World) (a : Option Addr) (l : List Ac) : Prop := 0 < l.length → ∃ g o, a = some ⟨g, o, none⟩ ∧ ∀ i, i < l.length → w.cell? ⟨g, o + i * 3, none⟩ = some (.int .i64 (aca l i).x) ∧ w.cell? ⟨g, o + i * 3 + 1, none⟩ = some (.string (aca l i).k) ∧ w.cell? ⟨g, o + i * 3 + 2, none⟩ = some (.string (aca l i).v)
theorem AS.below {w w' : World} {a : Option Addr} {l : List Ac} {B : Nat} (h : AS w a l) (hb : Below B w w') (hB : w.heap.size ≤ B) : AS w' a l := fun h0 => by
  obtain ⟨g, o, rfl, hc⟩ := h h0
  refine ⟨g, o, rfl, fun i hi => ?_⟩
  obtain ⟨h1, h2, h3⟩ := hc i hi
  have hl := Nat.lt_of_lt_of_le (block_lt_of_cell h1) hB
  exact ⟨by rw [hb.cell (p := ⟨g, o + i * 3, none⟩) hl]; exact h1, by rw [hb.cell (p := ⟨g, o + i * 3 + 1, none⟩) hl]; exact h2, by rw [hb.cell (p := ⟨g, o + i * 3 + 2, none⟩) hl]; exact h3⟩
end Go.Proofs.YtbgkjniagedcnaaGreatDoor
namespace Go.Proofs.YtbgkjniagedcnaaGreatDoor
open Go.ChangeShapes Go.WideShapes Go.RowKit Go.Deep

theorem strCells1 : Tryz.prog.cellsOf 9 = 1 := by kernel_rfl
theorem intCells1 : Tryz.prog.cellsOf 3 = 1 := by kernel_rfl
theorem entCells : Tryz.prog.cellsOf RET = 2 := by kernel_rfl
theorem actCells : Tryz.prog.cellsOf ACT = 3 := by kernel_rfl
theorem three_list (l : List Value) (h : l.length = 3) : ∃ a b c, l = [a, b, c] := by
  match l, h with
  | [a, b, c], _ => exact ⟨a, b, c, rfl⟩
set_option maxRecDepth 100000 in
set_option maxRecDepth 100000 in
theorem open_ent {H : Type} {enc : TypeId × Value → H} {W : World} {ad : Addr} {n : Nat} {cs : List Value} {x : DataW H × List MemPlace} (hc : W.cells? 0 ad 2 = some cs) (h : DataW.trod enc Tryz.prog W 0 (fun _ => true) true n RET cs = some x) :
    ∃ y : En, ∀ j v, ([Value.string y.k, .string y.v] : List Value)[j]? = some v → W.cell? (ad.add j) = some v := by
  obtain ⟨_, hlen, hcell⟩ := World.cells?_some hc
  obtain ⟨v0, v1, rfl⟩ := two_list cs hlen
  obtain ⟨xs, m, _, _, _, hxl, hx⟩ := DataW.trod_struct Tryz.underlying33 h
  have h0 := hx 0 { name := "Key", type := 9, offset := 0, embedded := false, tag := "", pkgPath := "", byteOffset := 0 } rfl
  have h1 := hx 1 { name := "Value", type := 9, offset := 1, embedded := false, tag := "", pkgPath := "", byteOffset := 16 } rfl
  dsimp only at h0 h1
  simp only [strCells1, List.drop_zero, List.drop_succ_cons, List.take_succ_cons, List.take_zero] at h0 h1
  have hxl' : xs.length = 2 := hxl
  rw [List.getElem?_eq_getElem (by omega)] at h0 h1
  obtain ⟨a, ha, _⟩ := DataW.trod_string Tryz.underlying9 h0
  obtain ⟨b, hb, _⟩ := DataW.trod_string Tryz.underlying9 h1
  simp at ha hb
  subst ha hb
  refine ⟨⟨a, b, []⟩, fun j v hv => ?_⟩
  have hj : j < 2 := by
    have := (List.getElem?_eq_some_iff.1 hv).1; simpa using this
  have e := hcell j hj
  rcases j with _ | _ | j
  · simp at hv; rw [e, ← hv]; rfl
  · simp at hv; rw [e, ← hv]; rfl
  · omega
theorem range_map_ea (f : Nat → En) (n i : Nat) (h : i < n) : ea ((List.range n).map f) i = f i := by
  unfold ea
  rw [List.getD_eq_getElem?_getD, List.getElem?_map, List.getElem?_range h]; rfl
set_option maxRecDepth 100000 in
theorem open_ents {H : Type} {enc : TypeId × Value → H} {W : World} {base : Nat} {v : Value} {d : DataW H} {p : List MemPlace}
    (hok : Value.okWide Tryz.prog W .any base SRET v) (hj : DataW.Trod enc Tryz.prog W 0 (fun _ => true) true SRET v d p) :
    ∃ (a : Option Addr) (es : List En) (c : Nat), v = .slice a es.length c ∧ (0 < es.length → ES entA W a es) ∧ es.length ≤ c ∧ c ≤ maxLen := by
  obtain ⟨a0, len0, cap0, rfl⟩ := okWide_slice Tryz.underlying24 hok
  obtain ⟨fuel, hf⟩ := hj
  rcases open_slice Tryz.underlying24 hf with ⟨hcs, _⟩ | ⟨ad, len, cap, m, n, D, Pl, hcs, _, hl, hm, hmm, hd, hx⟩
  · simp only [Value.cells, List.cons.injEq, Value.slice.injEq, and_true] at hcs
    obtain ⟨rfl, rfl, rfl⟩ := hcs
    exact ⟨none, [], 0, rfl, fun _ => ES.nil _, Nat.le_refl _, by unfold maxLen; omega⟩
  · simp only [Value.cells, List.cons.injEq, Value.slice.injEq, and_true] at hcs
    obtain ⟨rfl, rfl, rfl⟩ := hcs
    simp only [if_true] at hmm
    rw [entCells] at hx
    obtain ⟨f, hf'⟩ := choose_lt (α := En) (n := len0) (p := fun i y => ∀ j v, ([Value.string y.k, .string y.v] : List Value)[j]? = some v → W.cell? ((ad.add (i * 2)).add j) = some v) (fun i hi => by
      obtain ⟨cs', h1, h2⟩ := hx i (by omega)
      exact open_ent h1 h2)
    refine ⟨some ad, (List.range len0).map f, cap0, by simp, ?_, by simp; exact hl, hm⟩
    intro h0
    simp at h0
    obtain ⟨b, o, spot⟩ := ad
    have hspot : spot = none := by
      have := hf' 0 (by omega) 0 _ rfl
      simpa [Addr.add] using World.cell?_spot this
    subst hspot
    refine ES.of_entsA (by simp; omega) (fun i hi => ?_)
    simp at hi
    rw [range_map_ea _ _ _ hi]
    have h3 := hf' i hi
    have h4 : ∀ j v, ([Value.string (f i).k, .string (f i).v] : List Value)[j]? = some v → W.cell? ⟨b, o + i * 2 + j, none⟩ = some v := fun j v hv => by
      have := h3 j v hv
      rwa [addr_add, addr_add] at this
    exact ⟨h4 0 _ rfl, h4 1 _ rfl⟩
set_option maxRecDepth 100000 in
theorem open_ac {H : Type} {enc : TypeId × Value → H} {W : World} {ad : Addr} {n : Nat} {cs : List Value} {x : DataW H × List MemPlace} (hc : W.cells? 0 ad 3 = some cs) (h : DataW.trod enc Tryz.prog W 0 (fun _ => true) true n ACT cs = some x) :
    ∃ y : Ac, ∀ j v, ([Value.int .i64 y.x, .string y.k, .string y.v] : List Value)[j]? = some v → W.cell? (ad.add j) = some v := by
  obtain ⟨_, hlen, hcell⟩ := World.cells?_some hc
  obtain ⟨v0, v1, v2, rfl⟩ := three_list cs hlen
  obtain ⟨xs, m, _, _, _, hxl, hx⟩ := DataW.trod_struct Tryz.underlying50 h
  have h0 := hx 0 { name := "Kind", type := 3, offset := 0, embedded := false, tag := "", pkgPath := "", byteOffset := 0 } rfl
  have h1 := hx 1 { name := "Key", type := 9, offset := 1, embedded := false, tag := "", pkgPath := "", byteOffset := 8 } rfl
  have h2 := hx 2 { name := "Value", type := 9, offset := 2, embedded := false, tag := "", pkgPath := "", byteOffset := 24 } rfl
  dsimp only at h0 h1 h2
  simp only [strCells1, intCells1, List.drop_zero, List.drop_succ_cons, List.take_succ_cons, List.take_zero] at h0 h1 h2
  have hxl' : xs.length = 3 := hxl
  rw [List.getElem?_eq_getElem (by omega)] at h0 h1 h2
  obtain ⟨z, hz, _, _⟩ := DataW.trod_int Tryz.underlying3 h0
  obtain ⟨a, ha, _⟩ := DataW.trod_string Tryz.underlying9 h1
  obtain ⟨b, hb, _⟩ := DataW.trod_string Tryz.underlying9 h2
  simp at hz ha hb
  subst hz ha hb
  refine ⟨⟨z, a, b⟩, fun j v hv => ?_⟩
  have hj : j < 3 := by
    have := (List.getElem?_eq_some_iff.1 hv).1; simpa using this
  have e := hcell j hj
  rcases j with _ | _ | _ | j
  · simp at hv; rw [e, ← hv]; rfl
  · simp at hv; rw [e, ← hv]; rfl
  · simp at hv; rw [e, ← hv]; rfl
  · omega
theorem range_map_aca (f : Nat → Ac) (n i : Nat) (h : i < n) : aca ((List.range n).map f) i = f i := by
  unfold aca
  rw [List.getD_eq_getElem?_getD, List.getElem?_map, List.getElem?_range h]; rfl
set_option maxRecDepth 100000 in
theorem open_acs {H : Type} {enc : TypeId × Value → H} {W : World} {base : Nat} {v : Value} {d : DataW H} {p : List MemPlace}
    (hok : Value.okWide Tryz.prog W .any base 48 v) (hj : DataW.Trod enc Tryz.prog W 0 (fun _ => true) true 48 v d p) :
    ∃ (a : Option Addr) (l : List Ac) (c : Nat), v = .slice a l.length c ∧ AS W a l ∧ l.length ≤ c ∧ c ≤ maxLen := by
  obtain ⟨a0, len0, cap0, rfl⟩ := okWide_slice Tryz.underlying48 hok
  obtain ⟨fuel, hf⟩ := hj
  rcases open_slice Tryz.underlying48 hf with ⟨hcs, _⟩ | ⟨ad, len, cap, m, n, D, Pl, hcs, _, hl, hm, hmm, hd, hx⟩
  · simp only [Value.cells, List.cons.injEq, Value.slice.injEq, and_true] at hcs
    obtain ⟨rfl, rfl, rfl⟩ := hcs
    exact ⟨none, [], 0, rfl, (fun h => by cases h), Nat.le_refl _, by unfold maxLen; omega⟩
  · simp only [Value.cells, List.cons.injEq, Value.slice.injEq, and_true] at hcs
    obtain ⟨rfl, rfl, rfl⟩ := hcs
    simp only [if_true] at hmm
    rw [actCells] at hx
    obtain ⟨f, hf'⟩ := choose_lt (α := Ac) (n := len0) (p := fun i y => ∀ j v, ([Value.int .i64 y.x, .string y.k, .string y.v] : List Value)[j]? = some v → W.cell? ((ad.add (i * 3)).add j) = some v) (fun i hi => by
      obtain ⟨cs', h1, h2⟩ := hx i (by omega)
      exact open_ac h1 h2)
    refine ⟨some ad, (List.range len0).map f, cap0, by simp, ?_, by simp; exact hl, hm⟩
    intro h0
    simp at h0
    obtain ⟨b, o, spot⟩ := ad
    have hspot : spot = none := by
      have := hf' 0 (by omega) 0 _ rfl
      simpa [Addr.add] using World.cell?_spot this
    subst hspot
    refine ⟨b, o, rfl, fun i hi => ?_⟩
    simp at hi
    rw [range_map_aca _ _ _ hi]
    have h3 := hf' i hi
    have h4 : ∀ j v, ([Value.int .i64 (f i).x, .string (f i).k, .string (f i).v] : List Value)[j]? = some v → W.cell? ⟨b, o + i * 3 + j, none⟩ = some v := fun j v hv => by
      have := h3 j v hv
      rwa [addr_add, addr_add] at this
    exact ⟨h4 0 _ rfl, h4 1 _ rfl, h4 2 _ rfl⟩
end Go.Proofs.YtbgkjniagedcnaaGreatDoor
