/-
  An argument that is readers, opened: a struct of a number and a slice of structs that hold an array.
-/
import Derived.Test.YtdgcghknfhhkiaaDoorOpenWd
import Derived.Test.YtdgcghknfhhkiaaDoorPinRow
import Derived.SizedLaws
namespace Go.Proofs.YtdgcghknfhhkiaaDoor
open Go.ChangeShapes Go.WideShapes Go.RowKit Go.Deep

instance : Inhabited Pn := ⟨pn0⟩
theorem pnCells : Tryd.prog.cellsOf RPT = 18 := by kernel_rfl
theorem pnBy : Tryd.prog.bytesOf RPT = 144 := by kernel_rfl
theorem psCells : Tryd.prog.cellsOf RPS = 2 := by kernel_rfl
theorem plCells : Tryd.prog.cellsOf SRPT = 1 := by kernel_rfl
theorem take_one {l : List Value} {k : Nat} {x : Value} (h : (l.drop k).take 1 = [x]) : l[k]? = some x := by
  have := congrArg (fun (m : List Value) => m[0]?) h
  simpa [List.getElem?_take, List.getElem?_drop] using this
set_option maxRecDepth 100000 in
/-- Sixteen cells that are words. -/
theorem open_wordsL {H : Type} {enc : TypeId × Value → H} {W : World} {n : Nat} {l : List Value} {x : DataW H × List MemPlace} (hlen : l.length = 16)
    (hf : DataW.trod enc Tryd.prog W 0 (fun _ => true) true n 26 l = some x) : ∃ f : Nat → Bool, l.toArray = sc f := by
  obtain ⟨xs, m, _, _, _, hxl, hx⟩ := DataW.trod_array Tryd.underlying26 hf
  obtain ⟨ws, e1, e2, e3⟩ := words_of l hlen (fun i hi => by
    have h0 := hx i (by omega)
    rw [wdCells] at h0
    rw [List.getElem?_eq_getElem (by omega)] at h0
    obtain ⟨a, ha, _, wa⟩ := DataW.trod_int Tryd.underlying22 h0
    have ba := bounds_u64 wa
    rw [Nat.mul_one, List.drop_eq_getElem_cons (by omega)] at ha
    simp only [List.take_succ_cons, List.take_zero, List.cons.injEq, and_true] at ha
    refine ⟨a.toNat, ?_, by omega⟩
    rw [List.getElem?_eq_getElem (by omega), ha]
    congr 2
    omega)
  have h := sc_list e2 e3
  rw [← e1] at h
  exact ⟨_, h⟩
set_option maxRecDepth 100000 in
theorem open_pin1 {H : Type} {enc : TypeId × Value → H} {W : World} {ad : Addr} {n : Nat} {cs : List Value} {x : DataW H × List MemPlace} (hc : W.cells? 0 ad 18 = some cs) (h : DataW.trod enc Tryd.prog W 0 (fun _ => true) true n RPT cs = some x) :
    ∃ y : Pn, ∀ j v, (pv y)[j]? = some v → W.cell? (ad.add j) = some v := by
  obtain ⟨_, hlen, hcell⟩ := World.cells?_some hc
  obtain ⟨xs, m, _, _, _, hxl, hx⟩ := DataW.trod_struct Tryd.underlying48 h
  have h0 := hx 0 { name := "ID", type := 22, offset := 0, embedded := false, tag := "", pkgPath := "", byteOffset := 0 } rfl
  have h1 := hx 1 { name := "Seq", type := 22, offset := 1, embedded := false, tag := "", pkgPath := "", byteOffset := 8 } rfl
  have h2 := hx 2 { name := "Pages", type := 26, offset := 2, embedded := false, tag := "", pkgPath := "", byteOffset := 16 } rfl
  dsimp only at h0 h1 h2
  have hxl' : xs.length = 3 := hxl
  rw [wdCells, List.getElem?_eq_getElem (by omega)] at h0 h1
  rw [wd16Cells, List.getElem?_eq_getElem (by omega)] at h2
  obtain ⟨a, ha, _, wa⟩ := DataW.trod_int Tryd.underlying22 h0
  obtain ⟨b, hb, _, wb⟩ := DataW.trod_int Tryd.underlying22 h1
  have ba := bounds_u64 wa
  have bb := bounds_u64 wb
  have ca := take_one ha
  have cb := take_one hb
  have hl2 : (cs.drop 2).take 16 = cs.drop 2 := List.take_of_length_le (by rw [List.length_drop, hlen]; exact Nat.le_refl _)
  rw [hl2] at h2
  obtain ⟨f, hf⟩ := open_wordsL (by rw [List.length_drop, hlen]) h2
  refine ⟨⟨a.toNat, b.toNat, f⟩, fun j v hv => ?_⟩
  have hj : j < 18 := by have := (Array.getElem?_eq_some_iff.1 hv).1; rwa [pv_size] at this
  have e := hcell j hj
  rw [e]
  rcases j with _ | _ | j
  · rw [pv_0] at hv
    rw [ca, ← hv]; congr 2; show a = ((a.toNat : Nat) : Int); omega
  · rw [pv_1] at hv
    rw [cb, ← hv]; congr 2; show b = ((b.toNat : Nat) : Int); omega
  · rw [show j + 1 + 1 = 2 + j by omega] at hv ⊢
    rw [pv_w _ j (by omega), ← sc_get f j (by omega)] at hv
    have := congrArg (fun (m : Array Value) => m[j]?) hf
    simp only [List.getElem?_toArray, List.getElem?_drop] at this
    rw [this]; exact hv
theorem range_map_pn (f : Nat → Pn) (n i : Nat) (h : i < n) : pn ((List.range n).map f) i = f i := by
  unfold pn
  rw [List.getD_eq_getElem?_getD, List.getElem?_map, List.getElem?_range h]; rfl
/-- A row of readers, by its places. -/
theorem ES.of_pins {w : World} {g o : Nat} {l : List Pn} (h0 : 0 < l.length) (h : ∀ i, i < l.length → At w g (o + i * 18) (pv (pn l i))) : ES pinE w (some ⟨g, o, none⟩) l := by
  have hb : RT w g pinE.ty := by
    have h1 := (h 0 h0).id
    unfold World.cell? at h1
    cases hg : w.heap[g]? with
    | none => simp [hg] at h1
    | some x =>
      cases x with
      | cells A T fz => exact ⟨A, T, fz, hg, rfl⟩
      | _ => simp [hg] at h1
  refine .inr ⟨g, o, rfl, hb, fun j u hu => ?_⟩
  have hj : j < l.length * 18 := by have := (List.getElem?_eq_some_iff.1 hu).1; rwa [Elt.row_len] at this
  have hi : j / 18 < l.length := by omega
  have e := pinE.row_at l (j / 18) (j % 18) _ (pn_at l (j / 18) hi) (Nat.mod_lt _ (by decide))
  have hsz : pinE.sz = 18 := rfl
  rw [hsz, show j / 18 * 18 + j % 18 = j by omega, hu] at e
  have := h (j / 18) hi (j % 18) u (by
    have e2 : (pinE.enc (pn l (j / 18)))[j % 18]? = (pv (pn l (j / 18)))[j % 18]? := by
      show (pv (pn l (j / 18))).toList[j % 18]? = _
      simp
    rw [← e2, ← e])
  rwa [show o + j / 18 * 18 + j % 18 = o + j by omega] at this
set_option maxRecDepth 100000 in
theorem open_pins {H : Type} {enc : TypeId × Value → H} {W : World} {base : Nat} {v : Value} {d : DataW H} {p : List MemPlace}
    (hok : Value.okWide Tryd.prog W .any base RPS v) (hj : DataW.Trod enc Tryd.prog W 0 (fun _ => true) true RPS v d p) :
    ∃ (N : Nat) (a : Option Addr) (l : List Pn) (c : Nat), v = .agg #[.int .u64 (N : Nat), .slice a l.length c] ∧ PA W a l ∧ l.length ≤ c ∧ c ≤ maxLen ∧ ((∀ n ∈ d.weights Tryd.prog RPS, n ≤ reachBytes) → c * 144 ≤ 140737488351232) := by
  simp only [Value.okWide, Tryd.underlying25] at hok
  obtain ⟨cs, rfl, hsz, _⟩ := hok
  rw [psCells] at hsz
  obtain ⟨fuel, hf⟩ := hj
  obtain ⟨u, t, hl⟩ : ∃ u t, cs.toList = [u, t] := by
    have h2 : cs.toList.length = 2 := by simpa using hsz
    match cs.toList, h2 with
    | [a, b], _ => exact ⟨a, b, rfl⟩
  have hcs : (Value.agg cs).cells.toList = [u, t] := hl
  rw [hcs] at hf
  obtain ⟨xs, m, _, hxd, _, hxl, hx⟩ := DataW.trod_struct Tryd.underlying25 hf
  have h0 := hx 0 { name := "Next", type := 22, offset := 0, embedded := false, tag := "", pkgPath := "", byteOffset := 0 } rfl
  have h1 := hx 1 { name := "L", type := SRPT, offset := 1, embedded := false, tag := "", pkgPath := "", byteOffset := 8 } rfl
  dsimp only at h0 h1
  simp only [wdCells, plCells, List.drop_zero, List.drop_succ_cons, List.take_succ_cons, List.take_zero] at h0 h1
  have hxl' : xs.length = 2 := hxl
  rw [List.getElem?_eq_getElem (by omega)] at h0 h1
  obtain ⟨N, hN, _, wN⟩ := DataW.trod_int Tryd.underlying22 h0
  have bN := bounds_u64 wN
  simp at hN
  subst hN
  simp only [Prod.mk.injEq] at hxd
  have hd := hxd.1
  have hcN : (N : Int) = ((N.toNat : Nat) : Int) := by omega
  have hagg : ∀ z : Value, cs.toList = [.int .u64 N, z] → cs = #[.int .u64 ((N.toNat : Nat) : Int), z] := fun z hz => by
    rw [← hcN]; exact Array.toList_inj.1 hz
  have hwt : (∀ n ∈ d.weights Tryd.prog RPS, n ≤ reachBytes) → ∀ n ∈ (xs[1]'(by omega)).1.weights Tryd.prog SRPT, n ≤ reachBytes := fun hw n hn => by
    refine hw n ?_
    rw [hd, DataW.weights, Tryd.underlying25]
    exact DataW.weights_mem_each (j := 1) (t := SRPT) rfl (by simp [List.getElem?_eq_getElem (show 1 < xs.length by omega)]) n hn
  rcases open_slice Tryd.underlying23 h1 with ⟨hcs2, _⟩ | ⟨ad, len, cap, m2, n2, D, Pl, hcs2, _, hl2, hm2, hmm, hd2, hx2⟩
  · simp only [List.cons.injEq, and_true] at hcs2
    subst hcs2
    exact ⟨N.toNat, none, [], 0, by rw [hagg _ hl]; rfl, fun h => (by simp at h), Nat.le_refl _, by unfold maxLen; omega, fun _ => by omega⟩
  · simp only [List.cons.injEq, and_true] at hcs2
    subst hcs2
    simp only [if_true] at hmm
    rw [pnCells] at hx2
    obtain ⟨f, hf'⟩ := choose_lt (α := Pn) (n := len) (p := fun i y => ∀ j v, (pv y)[j]? = some v → W.cell? ((ad.add (i * 18)).add j) = some v) (fun i hi => by
      obtain ⟨cs', h3, h4⟩ := hx2 i (by omega)
      exact open_pin1 h3 h4)
    have hpa : PA W (some ad) ((List.range len).map f) := by
      intro h0
      simp at h0
      obtain ⟨b, o, spot⟩ := ad
      have hspot : spot = none := by
        have := hf' 0 (by omega) 0 _ (pv_0 _)
        simpa [Addr.add] using World.cell?_spot this
      subst hspot
      refine ES.of_pins (by simp; omega) fun i hi j u hu => ?_
      simp at hi
      rw [range_map_pn _ _ _ hi] at hu
      have h3 := hf' i hi j u hu
      rwa [addr_add, addr_add] at h3
    refine ⟨N.toNat, some ad, (List.range len).map f, cap, by rw [hagg _ hl]; simp, hpa, by simp; exact hl2, hm2, fun hw => ?_⟩
    have hw2 := hwt hw
    rw [hd2] at hw2
    have hu := Tryd.underlying23
    have := hw2 ((((List.range len).map D).length + ((List.range (m2 - len)).map fun j => D (len + j)).length) * Tryd.prog.bytesOf RPT) (by rw [DataW.weights, hu]; exact List.mem_cons_self ..)
    rw [pnBy] at this
    simp only [List.length_map, List.length_range, reachBytes] at this
    omega
end Go.Proofs.YtdgcghknfhhkiaaDoor
