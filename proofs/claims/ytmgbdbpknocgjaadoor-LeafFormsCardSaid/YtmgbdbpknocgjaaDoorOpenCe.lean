/-
  An argument that is a slice of cells, opened.
-/
import Derived.Test.YtmgbdbpknocgjaaDoorCells
import Derived.Test.YtmgbdbpknocgjaaDoorOpen
import Derived.Deep.Slices
import Derived.Deep.Grids
namespace Go.Proofs.YtmgbdbpknocgjaaDoor
open Go.ChangeShapes Go.WideShapes Go.RowKit Go.Deep

abbrev RCS : TypeId := 22
theorem cellsStr : Tryd.prog.cellsOf 9 = 1 := by kernel_rfl
theorem cellsInt : Tryd.prog.cellsOf 3 = 1 := by kernel_rfl
theorem cellsRc : Tryd.prog.cellsOf RCT = 4 := by kernel_rfl
theorem bytesRc : Tryd.prog.bytesOf RCT = 48 := by kernel_rfl
theorem four_cells (l : List Value) (h : l.length = 4) : ∃ a b c d, l = [a, b, c, d] := by
  match l, h with
  | [a, b, c, d], _ => exact ⟨a, b, c, d, rfl⟩
set_option maxRecDepth 100000 in
theorem open_cell {H : Type} {enc : TypeId × Value → H} {W : World} {ad : Addr} {n : Nat} {cs : List Value} {x : DataW H × List MemPlace} (hc : W.cells? 0 ad 4 = some cs) (h : DataW.trod enc Tryd.prog W 0 (fun _ => true) true n RCT cs = some x) :
    ∃ y : Ce, ∀ j v, ([Value.string y.k, .string y.v, .int .i64 y.n, .int .i64 y.p] : List Value)[j]? = some v → W.cell? (ad.add j) = some v := by
  obtain ⟨_, hlen, hcell⟩ := World.cells?_some hc
  obtain ⟨v0, v1, v2, v3, rfl⟩ := four_cells cs hlen
  obtain ⟨xs, m, _, _, _, hxl, hx⟩ := DataW.trod_struct Tryd.underlying26 h
  have h0 := hx 0 { name := "Key", type := 9, offset := 0, embedded := false, tag := "", pkgPath := "", byteOffset := 0 } rfl
  have h1 := hx 1 { name := "Value", type := 9, offset := 1, embedded := false, tag := "", pkgPath := "", byteOffset := 16 } rfl
  have h2 := hx 2 { name := "Long", type := 3, offset := 2, embedded := false, tag := "", pkgPath := "", byteOffset := 32 } rfl
  have h3 := hx 3 { name := "Page", type := 3, offset := 3, embedded := false, tag := "", pkgPath := "", byteOffset := 40 } rfl
  dsimp only at h0 h1 h2 h3
  simp only [cellsStr, cellsInt, List.drop_zero, List.drop_succ_cons, List.take_succ_cons, List.take_zero] at h0 h1 h2 h3
  have hxl' : xs.length = 4 := hxl
  rw [List.getElem?_eq_getElem (by omega)] at h0 h1 h2 h3
  obtain ⟨a, ha, _⟩ := DataW.trod_string Tryd.underlying9 h0
  obtain ⟨b, hb, _⟩ := DataW.trod_string Tryd.underlying9 h1
  obtain ⟨c, hcc, _, _⟩ := DataW.trod_int Tryd.underlying3 h2
  obtain ⟨d, hd, _, _⟩ := DataW.trod_int Tryd.underlying3 h3
  simp at ha hb hcc hd
  subst ha hb hcc hd
  refine ⟨⟨a, b, c, d⟩, fun j v hv => ?_⟩
  have hj : j < 4 := by
    have := (List.getElem?_eq_some_iff.1 hv).1; simpa using this
  have e := hcell j hj
  rcases j with _ | _ | _ | _ | j
  · simp at hv; rw [e, ← hv]; rfl
  · simp at hv; rw [e, ← hv]; rfl
  · simp at hv; rw [e, ← hv]; rfl
  · simp at hv; rw [e, ← hv]; rfl
  · omega
theorem range_map_ca (f : Nat → Ce) (n i : Nat) (h : i < n) : ca ((List.range n).map f) i = f i := by
  unfold ca
  rw [List.getD_eq_getElem?_getD, List.getElem?_map, List.getElem?_range h]; rfl
set_option maxRecDepth 100000 in
theorem open_cells {H : Type} {enc : TypeId × Value → H} {W : World} {base : Nat} {v : Value} {d : DataW H} {p : List MemPlace}
    (hok : Value.okWide Tryd.prog W .any base RCS v) (hj : DataW.Trod enc Tryd.prog W 0 (fun _ => true) true RCS v d p) :
    ∃ (a : Option Addr) (cs : List Ce) (c : Nat), v = .slice a cs.length c ∧ CSrc W a cs ∧ cs.length ≤ c ∧ c ≤ maxLen ∧ ((∀ n ∈ d.weights Tryd.prog RCS, n ≤ reachBytes) → c * 48 ≤ 140737488351232) := by
  obtain ⟨a0, len0, cap0, rfl⟩ := okWide_slice Tryd.underlying22 hok
  obtain ⟨fuel, hf⟩ := hj
  rcases open_slice Tryd.underlying22 hf with ⟨hcs, _⟩ | ⟨ad, len, cap, m, n, D, Pl, hcs, _, hl, hm, hmm, hd, hx⟩
  · simp only [Value.cells, List.cons.injEq, Value.slice.injEq, and_true] at hcs
    obtain ⟨rfl, rfl, rfl⟩ := hcs
    exact ⟨none, [], 0, rfl, CSrc.nil _ _, Nat.le_refl _, by unfold maxLen; omega, fun _ => by omega⟩
  · simp only [Value.cells, List.cons.injEq, Value.slice.injEq, and_true] at hcs
    obtain ⟨rfl, rfl, rfl⟩ := hcs
    simp only [if_true] at hmm
    rw [cellsRc] at hx
    obtain ⟨f, hf'⟩ := choose_lt (α := Ce) (n := len0) (p := fun i y => ∀ j v, ([Value.string y.k, .string y.v, .int .i64 y.n, .int .i64 y.p] : List Value)[j]? = some v → W.cell? ((ad.add (i * 4)).add j) = some v) (fun i hi => by
      obtain ⟨cs', h1, h2⟩ := hx i (by omega)
      exact open_cell h1 h2)
    refine ⟨some ad, (List.range len0).map f, cap0, by simp, ?_, by simp; exact hl, hm, ?_⟩
    · intro h0
      simp at h0
      obtain ⟨b, o, spot⟩ := ad
      have hspot : spot = none := by
        have := hf' 0 (by omega) 0 _ rfl
        simpa [Addr.add] using World.cell?_spot this
      subst hspot
      refine ⟨b, o, rfl, fun i hi => ?_⟩
      simp at hi
      rw [range_map_ca _ _ _ hi]
      have h3 := hf' i hi
      have h4 : ∀ j v, ([Value.string (f i).k, .string (f i).v, .int .i64 (f i).n, .int .i64 (f i).p] : List Value)[j]? = some v → W.cell? ⟨b, o + i * 4 + j, none⟩ = some v := fun j v hv => by
        have := h3 j v hv
        rwa [addr_add, addr_add] at this
      exact ⟨h4 0 _ rfl, h4 1 _ rfl, h4 2 _ rfl, h4 3 _ rfl⟩
    · intro hw
      simp only [Prod.mk.injEq] at hd
      obtain ⟨rfl, _⟩ := hd
      have hu := Tryd.underlying22
      have := hw ((((List.range len0).map D).length + ((List.range (m - len0)).map fun j => D (len0 + j)).length) * Tryd.prog.bytesOf RCT) (by rw [DataW.weights, hu]; exact List.mem_cons_self ..)
      rw [bytesRc] at this
      simp only [List.length_map, List.length_range, reachBytes] at this
      omega
end Go.Proofs.YtmgbdbpknocgjaaDoor
