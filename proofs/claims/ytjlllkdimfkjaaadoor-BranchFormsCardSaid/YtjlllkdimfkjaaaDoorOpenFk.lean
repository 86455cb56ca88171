/-
  An argument that is a fork, opened: a struct of a slice of texts and a slice of ints.
-/
import Derived.Test.YtjlllkdimfkjaaaDoorStrs
import Derived.Test.YtjlllkdimfkjaaaDoorOpen
import Derived.Deep.Slices
import Derived.Deep.Grids
namespace Go.Proofs.YtjlllkdimfkjaaaDoor
open Go.ChangeShapes Go.WideShapes Go.RowKit Go.Deep

abbrev RFKO : TypeId := 25
theorem fkStr : Tryd.prog.cellsOf 9 = 1 := by kernel_rfl
theorem fkInt : Tryd.prog.cellsOf 3 = 1 := by kernel_rfl
theorem fkStrs : Tryd.prog.cellsOf 22 = 1 := by kernel_rfl
theorem fkInts : Tryd.prog.cellsOf 23 = 1 := by kernel_rfl
theorem fkCells : Tryd.prog.cellsOf RFKO = 2 := by kernel_rfl
theorem fk_two (l : List Value) (h : l.length = 2) : ∃ a b, l = [a, b] := by
  match l, h with
  | [a, b], _ => exact ⟨a, b, rfl⟩
theorem fk_one (l : List Value) (h : l.length = 1) : ∃ a, l = [a] := by
  match l, h with
  | [a], _ => exact ⟨a, rfl⟩
theorem range_map_sa (f : Nat → ByteArray) (n i : Nat) (h : i < n) : sa ((List.range n).map f) i = f i := by
  unfold sa
  rw [List.getD_eq_getElem?_getD, List.getElem?_map, List.getElem?_range h]; rfl
theorem range_map_ia (f : Nat → Int) (n i : Nat) (h : i < n) : ia ((List.range n).map f) i = f i := by
  unfold ia
  rw [List.getD_eq_getElem?_getD, List.getElem?_map, List.getElem?_range h]; rfl
theorem add_zero' (ad : Addr) : ad.add 0 = ad := by simp [Addr.add]
set_option maxRecDepth 100000 in
theorem open_texts1 {H : Type} {enc : TypeId × Value → H} {W : World} {v : Value} {fuel : Nat} {x : DataW H × List MemPlace}
    (hf : DataW.trod enc Tryd.prog W 0 (fun _ => true) true fuel 22 [v] = some x) :
    ∃ (a : Option Addr) (ks : List ByteArray) (c : Nat), v = .slice a ks.length c ∧ TxS W a ks ∧ ks.length ≤ c ∧ c ≤ maxLen := by
  rcases open_slice Tryd.underlying22 hf with ⟨hcs, _⟩ | ⟨ad, len, cap, m, n, D, Pl, hcs, _, hl, hm, hmm, _, hx⟩
  · simp only [List.cons.injEq, and_true] at hcs
    subst hcs
    exact ⟨none, [], 0, rfl, TxS.nil _ _, Nat.le_refl _, by unfold maxLen; omega⟩
  · simp only [List.cons.injEq, and_true] at hcs
    subst hcs
    simp only [if_true] at hmm
    rw [fkStr] at hx
    obtain ⟨f, hf'⟩ := choose_lt (α := ByteArray) (n := len) (p := fun i y => W.cell? (ad.add (i * 1)) = some (.string y)) (fun i hi => by
      obtain ⟨cs', h1, h2⟩ := hx i (by omega)
      obtain ⟨_, hlen, hcell⟩ := World.cells?_some h1
      obtain ⟨u, rfl⟩ := fk_one cs' hlen
      obtain ⟨y, hy, _⟩ := DataW.trod_string Tryd.underlying9 h2
      have e0 := hcell 0 (by omega)
      rw [add_zero'] at e0
      simp at e0 hy
      exact ⟨y, by rw [Nat.mul_one, e0, hy]⟩)
    refine ⟨some ad, (List.range len).map f, cap, by simp, ?_, by simp; exact hl, hm⟩
    intro h0
    simp at h0
    obtain ⟨b, o, spot⟩ := ad
    have hspot : spot = none := by
      have := hf' 0 (by omega)
      simpa [Addr.add] using World.cell?_spot this
    subst hspot
    refine ⟨b, o, rfl, fun i hi => ?_⟩
    simp at hi
    rw [range_map_sa _ _ _ hi]
    have h3 := hf' i hi
    rw [addr_add, Nat.mul_one] at h3
    exact h3
set_option maxRecDepth 100000 in
theorem open_pages1 {H : Type} {enc : TypeId × Value → H} {W : World} {v : Value} {fuel : Nat} {x : DataW H × List MemPlace}
    (hf : DataW.trod enc Tryd.prog W 0 (fun _ => true) true fuel 23 [v] = some x) :
    ∃ (a : Option Addr) (is : List Int) (c : Nat), v = .slice a is.length c ∧ PgS W a is ∧ is.length ≤ c ∧ c ≤ maxLen := by
  rcases open_slice Tryd.underlying23 hf with ⟨hcs, _⟩ | ⟨ad, len, cap, m, n, D, Pl, hcs, _, hl, hm, hmm, _, hx⟩
  · simp only [List.cons.injEq, and_true] at hcs
    subst hcs
    exact ⟨none, [], 0, rfl, PgS.nil _ _, Nat.le_refl _, by unfold maxLen; omega⟩
  · simp only [List.cons.injEq, and_true] at hcs
    subst hcs
    simp only [if_true] at hmm
    rw [fkInt] at hx
    obtain ⟨f, hf'⟩ := choose_lt (α := Int) (n := len) (p := fun i y => W.cell? (ad.add (i * 1)) = some (.int .i64 y)) (fun i hi => by
      obtain ⟨cs', h1, h2⟩ := hx i (by omega)
      obtain ⟨_, hlen, hcell⟩ := World.cells?_some h1
      obtain ⟨u, rfl⟩ := fk_one cs' hlen
      obtain ⟨y, hy, _, _⟩ := DataW.trod_int Tryd.underlying3 h2
      have e0 := hcell 0 (by omega)
      rw [add_zero'] at e0
      simp at e0 hy
      exact ⟨y, by rw [Nat.mul_one, e0, hy]⟩)
    refine ⟨some ad, (List.range len).map f, cap, by simp, ?_, by simp; exact hl, hm⟩
    intro h0
    simp at h0
    obtain ⟨b, o, spot⟩ := ad
    have hspot : spot = none := by
      have := hf' 0 (by omega)
      simpa [Addr.add] using World.cell?_spot this
    subst hspot
    refine ⟨b, o, rfl, fun i hi => ?_⟩
    simp at hi
    rw [range_map_ia _ _ _ hi]
    have h3 := hf' i hi
    rw [addr_add, Nat.mul_one] at h3
    exact h3
set_option maxRecDepth 100000 in
theorem open_fork {H : Type} {enc : TypeId × Value → H} {W : World} {base : Nat} {v : Value} {d : DataW H} {p : List MemPlace}
    (hok : Value.okWide Tryd.prog W .any base RFKO v) (hj : DataW.Trod enc Tryd.prog W 0 (fun _ => true) true RFKO v d p) :
    ∃ (a b : Option Addr) (ks : List ByteArray) (is : List Int) (c e : Nat), v = .agg #[.slice a ks.length c, .slice b is.length e] ∧ TxS W a ks ∧ PgS W b is ∧ ks.length ≤ maxLen ∧ is.length ≤ maxLen := by
  simp only [Value.okWide, Tryd.underlying25] at hok
  obtain ⟨cs, rfl, hsz, _⟩ := hok
  rw [fkCells] at hsz
  obtain ⟨fuel, hf⟩ := hj
  obtain ⟨u, t, hl⟩ := fk_two cs.toList (by simpa using hsz)
  have hcs : (Value.agg cs).cells.toList = [u, t] := hl
  rw [hcs] at hf
  obtain ⟨xs, m, _, _, _, hxl, hx⟩ := DataW.trod_struct Tryd.underlying25 hf
  have h0 := hx 0 { name := "Keys", type := 22, offset := 0, embedded := false, tag := "", pkgPath := "", byteOffset := 0 } rfl
  have h1 := hx 1 { name := "Kids", type := 23, offset := 1, embedded := false, tag := "", pkgPath := "", byteOffset := 24 } rfl
  dsimp only at h0 h1
  simp only [fkStrs, fkInts, List.drop_zero, List.drop_succ_cons, List.take_succ_cons, List.take_zero] at h0 h1
  have hxl' : xs.length = 2 := hxl
  rw [List.getElem?_eq_getElem (by omega)] at h0 h1
  obtain ⟨a, ks, c, rfl, hk, hkc, hcm⟩ := open_texts1 h0
  obtain ⟨b, is, e, rfl, hi, hic, hem⟩ := open_pages1 h1
  refine ⟨a, b, ks, is, c, e, ?_, hk, hi, Nat.le_trans hkc hcm, Nat.le_trans hic hem⟩
  have : cs = #[.slice a ks.length c, .slice b is.length e] := Array.toList_inj.1 hl
  rw [this]
end Go.Proofs.YtjlllkdimfkjaaaDoor
