/-
  An argument that is a slice of stretches, opened.
-/
import Derived.Test.YtcimhcibkbbkdaaDoorExt1
import Derived.WalkKit
import Derived.ProofKit
import Derived.OpenShut
import Derived.Below
import Derived.Deep.Slices
import Derived.Deep.Grids
namespace Go.Proofs.YtcimhcibkbbkdaaDoor
open Go.ChangeShapes Go.WideShapes Go.RowKit Go.Deep

theorem laidOut : laidOutB Tryd.prog = true := by kernel_rfl
theorem exInt : Tryd.prog.cellsOf 3 = 1 := by kernel_rfl
theorem exRx : Tryd.prog.cellsOf RXT = 2 := by kernel_rfl
theorem exBy : Tryd.prog.bytesOf RXT = 16 := by kernel_rfl
theorem two_of (l : List Value) (h : l.length = 2) : ∃ a b, l = [a, b] := by
  match l, h with
  | [a, b], _ => exact ⟨a, b, rfl⟩
set_option maxRecDepth 100000 in
theorem open_ext1 {H : Type} {enc : TypeId × Value → H} {W : World} {ad : Addr} {n : Nat} {cs : List Value} {x : DataW H × List MemPlace} (hc : W.cells? 0 ad 2 = some cs) (h : DataW.trod enc Tryd.prog W 0 (fun _ => true) true n RXT cs = some x) :
    ∃ y : Xt, XOK y ∧ ∀ j v, ([Value.int .i64 y.f, .int .i64 y.m] : List Value)[j]? = some v → W.cell? (ad.add j) = some v := by
  obtain ⟨_, hlen, hcell⟩ := World.cells?_some hc
  obtain ⟨v0, v1, rfl⟩ := two_of cs hlen
  obtain ⟨xs, m, _, _, _, hxl, hx⟩ := DataW.trod_struct Tryd.underlying51 h
  have h0 := hx 0 { name := "From", type := 3, offset := 0, embedded := false, tag := "", pkgPath := "", byteOffset := 0 } rfl
  have h1 := hx 1 { name := "Many", type := 3, offset := 1, embedded := false, tag := "", pkgPath := "", byteOffset := 8 } rfl
  dsimp only at h0 h1
  simp only [exInt, List.drop_zero, List.drop_succ_cons, List.take_succ_cons, List.take_zero] at h0 h1
  have hxl' : xs.length = 2 := hxl
  rw [List.getElem?_eq_getElem (by omega)] at h0 h1
  obtain ⟨a, ha, _, wa⟩ := DataW.trod_int Tryd.underlying3 h0
  obtain ⟨b, hb, _, wb⟩ := DataW.trod_int Tryd.underlying3 h1
  simp at ha hb
  subst ha hb
  have ba := bounds_i64 wa
  have bb := bounds_i64 wb
  refine ⟨⟨a, b⟩, ⟨ba.1, ba.2, bb.1, bb.2⟩, fun j v hv => ?_⟩
  have hj : j < 2 := by
    have := (List.getElem?_eq_some_iff.1 hv).1; simpa using this
  have e := hcell j hj
  rcases j with _ | _ | j
  · simp at hv; rw [e, ← hv]; rfl
  · simp at hv; rw [e, ← hv]; rfl
  · omega
theorem range_map_xt (f : Nat → Xt) (n i : Nat) (h : i < n) : xt ((List.range n).map f) i = f i := by
  unfold xt
  rw [List.getD_eq_getElem?_getD, List.getElem?_map, List.getElem?_range h]; rfl
set_option maxRecDepth 100000 in
theorem open_exts {H : Type} {enc : TypeId × Value → H} {W : World} {base : Nat} {v : Value} {d : DataW H} {p : List MemPlace}
    (hok : Value.okWide Tryd.prog W .any base SRXT v) (hj : DataW.Trod enc Tryd.prog W 0 (fun _ => true) true SRXT v d p) :
    ∃ (a : Option Addr) (l : List Xt) (c : Nat), v = .slice a l.length c ∧ XV W (.slice a l.length c) l ∧ (∀ x ∈ l, XOK x) ∧ l.length ≤ c ∧ ((∀ n ∈ d.weights Tryd.prog SRXT, n ≤ reachBytes) → c * 16 ≤ 140737488351232) := by
  obtain ⟨a0, len0, cap0, rfl⟩ := okWide_slice Tryd.underlying22 hok
  obtain ⟨fuel, hf⟩ := hj
  rcases open_slice Tryd.underlying22 hf with ⟨hcs, _⟩ | ⟨ad, len, cap, m, n, D, Pl, hcs, _, hl, hm, hmm, hd, hx⟩
  · simp only [Value.cells, List.cons.injEq, Value.slice.injEq, and_true] at hcs
    obtain ⟨rfl, rfl, rfl⟩ := hcs
    exact ⟨none, [], 0, rfl, ⟨none, 0, rfl, fun h => (by cases h), Nat.le_refl _, by unfold maxLen; omega⟩, fun x hx => (by simp at hx), Nat.le_refl _, fun _ => by omega⟩
  · simp only [Value.cells, List.cons.injEq, Value.slice.injEq, and_true] at hcs
    obtain ⟨rfl, rfl, rfl⟩ := hcs
    simp only [if_true] at hmm
    rw [exRx] at hx
    obtain ⟨f, hf'⟩ := choose_lt (α := Xt) (n := len0) (p := fun i y => XOK y ∧ ∀ j v, ([Value.int .i64 y.f, .int .i64 y.m] : List Value)[j]? = some v → W.cell? ((ad.add (i * 2)).add j) = some v) (fun i hi => by
      obtain ⟨cs', h1, h2⟩ := hx i (by omega)
      exact open_ext1 h1 h2)
    have hxs : XS W (some ad) ((List.range len0).map f) := by
      intro h0
      simp at h0
      obtain ⟨b, o, spot⟩ := ad
      have hspot : spot = none := by
        have := (hf' 0 (by omega)).2 0 _ rfl
        simpa [Addr.add] using World.cell?_spot this
      subst hspot
      refine ES.of_xts (by simp; omega) fun i hi => ?_
      simp at hi
      rw [range_map_xt _ _ _ hi]
      have h3 := (hf' i hi).2
      have h4 : ∀ j v, ([Value.int .i64 (f i).f, .int .i64 (f i).m] : List Value)[j]? = some v → W.cell? ⟨b, o + i * 2 + j, none⟩ = some v := fun j v hv => by
        have := h3 j v hv
        rwa [addr_add, addr_add] at this
      exact ⟨h4 0 _ rfl, h4 1 _ rfl⟩
    refine ⟨some ad, (List.range len0).map f, cap0, by simp, ⟨some ad, cap0, rfl, hxs, by simp; exact hl, hm⟩, fun x hx => ?_, by simp; exact hl, ?_⟩
    · obtain ⟨i, hi, rfl⟩ := List.mem_map.1 hx
      exact (hf' i (List.mem_range.1 hi)).1
    · intro hw
      simp only [Prod.mk.injEq] at hd
      obtain ⟨rfl, _⟩ := hd
      have hu := Tryd.underlying22
      have := hw ((((List.range len0).map D).length + ((List.range (m - len0)).map fun j => D (len0 + j)).length) * Tryd.prog.bytesOf RXT) (by rw [DataW.weights, hu]; exact List.mem_cons_self ..)
      rw [exBy] at this
      simp only [List.length_map, List.length_range, reachBytes] at this
      omega
end Go.Proofs.YtcimhcibkbbkdaaDoor
