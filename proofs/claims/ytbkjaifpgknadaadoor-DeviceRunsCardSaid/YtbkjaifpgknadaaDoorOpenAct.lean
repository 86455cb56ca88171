/-
  An argument that is a slice of things done, opened.
-/
import Derived.Test.YtbkjaifpgknadaaDoorRuns2
import Derived.Test.YtbkjaifpgknadaaDoorOpenDev
namespace Go.Proofs.YtbkjaifpgknadaaDoor
open Go.ChangeShapes Go.WideShapes Go.RowKit Go.Deep

instance : Inhabited ActD := ⟨⟨0, 0, none, [], 0, none, [], 0⟩⟩
theorem cells_ac : Tryd.prog.cellsOf AC = 4 := by kernel_rfl
theorem cells_int : Tryd.prog.cellsOf 3 = 1 := by kernel_rfl
theorem cells_bt : Tryd.prog.cellsOf BT = 1 := by kernel_rfl
theorem cells_bl : Tryd.prog.cellsOf BLT = 1 := by kernel_rfl
theorem four_list (l : List Value) (h : l.length = 4) : ∃ a b c d, l = [a, b, c, d] := by
  match l, h with
  | [a, b, c, d], _ => exact ⟨a, b, c, d, rfl⟩
set_option maxRecDepth 100000 in
theorem open_bytes0 {H : Type} {enc : TypeId × Value → H} {W : World} {v : Value} {fuel : Nat} {x : DataW H × List MemPlace}
    (hf : DataW.trod enc Tryd.prog W 0 (fun _ => true) true fuel BT [v] = some x) :
    ∃ (a : Option Addr) (l : List Nat) (c : Nat), v = .slice a l.length c ∧ B8 l ∧ Src W a l ∧ l.length ≤ c ∧ c ≤ maxLen := by
  rcases open_ints Tryd.underlying26 Tryd.underlying5 (by kernel_rfl) hf with ⟨hcs, _⟩ | ⟨x, l, c, zs, hcs, _, hl, hm, hz, _, hcell, hwz⟩
  · simp only [List.cons.injEq, and_true] at hcs
    subst hcs
    exact ⟨none, [], 0, rfl, B8.nil, Src.nil _ _, Nat.le_refl _, by unfold maxLen; omega⟩
  · simp only [List.cons.injEq, and_true] at hcs
    subst hcs
    have hzl : zs.length = c := by simpa using hz
    have hln : ((zs.take l).map Int.toNat).length = l := by rw [List.length_map, List.length_take]; omega
    refine ⟨some x, (zs.take l).map Int.toNat, c, by rw [hln], ?_, ?_, by rw [hln]; exact hl, hm⟩
    · intro y hy
      obtain ⟨z, hz1, rfl⟩ := List.mem_map.1 hy
      have := bounds_u8 (hwz z (List.mem_of_mem_take hz1))
      omega
    · intro h0
      rw [hln] at h0
      obtain ⟨b, o, spot⟩ := x
      have hspot : spot = none := by
        have := hcell 0 (by omega)
        simpa [Addr.add] using World.cell?_spot this
      subst hspot
      refine ⟨b, o, rfl, fun i hi => ?_⟩
      rw [hln] at hi
      have hc := hcell i (by omega)
      rw [addr_add] at hc
      rw [hc]
      have hi2 : i < zs.length := by omega
      have hb := bounds_u8 (hwz zs[i] (List.getElem_mem hi2))
      have e1 : zs.getD i 0 = zs[i] := by simp [List.getD, hi2]
      have e2 : ((zs.take l).map Int.toNat).getD i 0 = zs[i].toNat := by
        rw [List.getD_eq_getElem?_getD, List.getElem?_map, List.getElem?_take_of_lt hi, List.getElem?_eq_getElem hi2]; rfl
      rw [e1, e2]
      congr 2
      omega
set_option maxRecDepth 100000 in
theorem open_bsrc0 {H : Type} {enc : TypeId × Value → H} {W : World} {v : Value} {fuel : Nat} {x : DataW H × List MemPlace}
    (hf : DataW.trod enc Tryd.prog W 0 (fun _ => true) true fuel BLT [v] = some x) :
    ∃ (a : Option Addr) (l : List Bool) (c : Nat), v = .slice a l.length c ∧ BSrc W a l := by
  rcases open_bools Tryd.underlying41 Tryd.underlying4 (by kernel_rfl) hf with ⟨hcs, _⟩ | ⟨ad, len, cap, B, hcs, _, hl, hm, _, hx⟩
  · simp only [List.cons.injEq, and_true] at hcs
    subst hcs
    exact ⟨none, [], 0, rfl, (fun h => by cases h)⟩
  · simp only [List.cons.injEq, and_true] at hcs
    subst hcs
    refine ⟨some ad, (List.range len).map B, cap, by simp, ?_⟩
    intro h0
    simp at h0
    obtain ⟨b, o, spot⟩ := ad
    have hspot : spot = none := by
      have := hx 0 (by omega)
      simpa [Addr.add] using World.cell?_spot this
    subst hspot
    refine ⟨b, o, rfl, fun i hi => ?_⟩
    simp at hi
    have h3 := hx i (by omega)
    rw [addr_add] at h3
    rw [h3]
    unfold kp
    rw [range_map_getD _ _ _ _ hi]
set_option maxRecDepth 100000 in
theorem open_act {H : Type} {enc : TypeId × Value → H} {W : World} {ad : Addr} {n : Nat} {cs : List Value} {x : DataW H × List MemPlace} (hc : W.cells? 0 ad 4 = some cs) (h : DataW.trod enc Tryd.prog W 0 (fun _ => true) true n AC cs = some x) :
    ∃ y : ActD, AOk W y ∧ ∀ j v, (acs y)[j]? = some v → W.cell? (ad.add j) = some v := by
  obtain ⟨_, hlen, hcell⟩ := World.cells?_some hc
  obtain ⟨v0, v1, v2, v3, rfl⟩ := four_list cs hlen
  obtain ⟨xs, m, _, _, _, hxl, hx⟩ := DataW.trod_struct Tryd.underlying47 h
  have h0 := hx 0 { name := "Kind", type := 3, offset := 0, embedded := false, tag := "", pkgPath := "", byteOffset := 0 } rfl
  have h1 := hx 1 { name := "N", type := 3, offset := 1, embedded := false, tag := "", pkgPath := "", byteOffset := 8 } rfl
  have h2 := hx 2 { name := "B", type := BT, offset := 2, embedded := false, tag := "", pkgPath := "", byteOffset := 16 } rfl
  have h3 := hx 3 { name := "Keep", type := BLT, offset := 3, embedded := false, tag := "", pkgPath := "", byteOffset := 40 } rfl
  dsimp only at h0 h1 h2 h3
  simp only [cells_int, cells_bt, cells_bl, List.drop_zero, List.drop_succ_cons, List.take_succ_cons, List.take_zero] at h0 h1 h2 h3
  have hxl' : xs.length = 4 := hxl
  rw [List.getElem?_eq_getElem (by omega)] at h0 h1 h2 h3
  obtain ⟨a, ha, _, wa⟩ := DataW.trod_int Tryd.underlying3 h0
  obtain ⟨b, hb, _, wb⟩ := DataW.trod_int Tryd.underlying3 h1
  simp at ha hb
  subst ha
  subst hb
  have bb := bounds_i64 wb
  obtain ⟨p2, l2, c2, rfl, h82, hs2, hlc2, hcm2⟩ := open_bytes0 h2
  obtain ⟨p3, l3, c3, rfl, hs3⟩ := open_bsrc0 h3
  refine ⟨⟨a, b, p2, l2, c2, p3, l3, c3⟩, ⟨bb.1, by have := bb.2; show b ≤ _; omega, hs2, h82, hlc2, hcm2, hs3⟩, fun j v hv => ?_⟩
  have hj : j < 4 := (Array.getElem?_eq_some_iff.1 hv).1
  have e := hcell j hj
  rcases j with _ | _ | _ | _ | j
  · simp [acs] at hv; rw [e, ← hv]; rfl
  · simp [acs] at hv; rw [e, ← hv]; rfl
  · simp [acs] at hv; rw [e, ← hv]; rfl
  · simp [acs] at hv; rw [e, ← hv]; rfl
  · omega
set_option maxRecDepth 100000 in
theorem open_acts {H : Type} {enc : TypeId × Value → H} {W : World} {base : Nat} {v : Value} {d : DataW H} {p : List MemPlace}
    (hok : Value.okWide Tryd.prog W .any base 22 v) (hj : DataW.Trod enc Tryd.prog W 0 (fun _ => true) true 22 v d p) :
    ∃ (a : Option Addr) (l : List ActD) (c : Nat), v = .slice a l.length c ∧ ASrc W a l ∧ l.length ≤ c ∧ c ≤ maxLen := by
  obtain ⟨a0, len0, cap0, rfl⟩ := okWide_slice Tryd.underlying22 hok
  obtain ⟨fuel, hf⟩ := hj
  rcases open_slice Tryd.underlying22 hf with ⟨hcs, _⟩ | ⟨ad, len, cap, m, n, D, Pl, hcs, _, hl, hm, hmm, _, hx⟩
  · simp only [Value.cells, List.cons.injEq, Value.slice.injEq, and_true] at hcs
    obtain ⟨rfl, rfl, rfl⟩ := hcs
    exact ⟨none, [], 0, rfl, (fun h => by cases h), Nat.le_refl _, by unfold maxLen; omega⟩
  · simp only [Value.cells, List.cons.injEq, Value.slice.injEq, and_true] at hcs
    obtain ⟨rfl, rfl, rfl⟩ := hcs
    simp only [if_true] at hmm
    rw [cells_ac] at hx
    obtain ⟨f, hf'⟩ := choose_lt (α := ActD) (n := len0) (p := fun i y => AOk W y ∧ ∀ j v, (acs y)[j]? = some v → W.cell? ((ad.add (i * 4)).add j) = some v) (fun i hi => by
      obtain ⟨cs', h1, h2⟩ := hx i (by omega)
      exact open_act h1 h2)
    refine ⟨some ad, (List.range len0).map f, cap0, by simp, ?_, by simp; exact hl, hm⟩
    intro h0
    simp at h0
    obtain ⟨b, o, spot⟩ := ad
    have hspot : spot = none := by
      have := (hf' 0 (by omega)).2 0 _ rfl
      simpa [Addr.add] using World.cell?_spot this
    subst hspot
    refine ⟨b, o, rfl, fun i y hy => ?_⟩
    rw [List.getElem?_map] at hy
    obtain ⟨i', hi', rfl⟩ := Option.map_eq_some_iff.1 hy
    have hil : i < len0 := by
      have := (List.getElem?_eq_some_iff.1 hi').1; simpa using this
    rw [List.getElem?_range hil] at hi'
    cases hi'
    have h3 := hf' i hil
    refine ⟨h3.1, fun j v hv => ?_⟩
    have h4 := h3.2 j v hv
    rw [addr_add, addr_add] at h4
    exact h4
end Go.Proofs.YtbkjaifpgknadaaDoor
