/-
  An argument that is a slice of slices of bytes, opened as pages.
-/
import Derived.Test.YtfjjfickbhkpaaaDoorBAZ
import Derived.Test.YtfjjfickbhkpaaaDoorMemZ
import Derived.Deep.Slices
import Derived.Deep.Grids
namespace Go.Proofs.YtfjjfickbhkpaaaDoor
open Go.ChangeShapes Go.WideShapes Go.RowKit Go.Deep

theorem btp_cells : Tryd.prog.cellsOf 26 = 1 := by kernel_rfl
theorem btp_bytes : Tryd.prog.bytesOf 26 = 24 := by kernel_rfl
theorem weights_all {H : Type} {P : Program} {e : TypeId} {d : DataW H} {m : Nat} (hm : m ∈ d.weights P e) : ∀ l : List (DataW H), d ∈ l → m ∈ DataW.weightsAll P e l
  | [], h => by cases h
  | x :: r, h => by
    rw [DataW.weightsAll, List.mem_append]
    rcases List.mem_cons.1 h with rfl | h
    · exact .inl hm
    · exact .inr (weights_all hm r h)
set_option maxRecDepth 100000 in
theorem open_page1 {H : Type} {enc : TypeId × Value → H} {W : World} {v : Value} {fuel : Nat} {x : DataW H × List MemPlace}
    (hf : DataW.trod enc Tryd.prog W 0 (fun _ => true) true fuel 26 [v] = some x) :
    ∃ (l : List Nat) (ad : Option Addr) (m cc : Nat), v = .slice ad m cc ∧ (ad = none → cc = 0) ∧ ((∀ n ∈ x.1.weights Tryd.prog 26, n ≤ reachBytes) → BA W v l) := by
  rcases open_ints Tryd.underlying26 Tryd.underlying5 (by kernel_rfl) hf with ⟨hcs, _⟩ | ⟨x0, l, c, zs, hcs, _, hl, hm, hz, hd, hcell, hwz⟩
  · simp only [List.cons.injEq, and_true] at hcs
    subst hcs
    exact ⟨[], none, 0, 0, rfl, fun _ => rfl, fun _ => BA.none W⟩
  · simp only [List.cons.injEq, and_true] at hcs
    subst hcs
    have hzl : zs.length = c := by simpa using hz
    have hln : ((zs.take l).map Int.toNat).length = l := by rw [List.length_map, List.length_take]; omega
    refine ⟨(zs.take l).map Int.toNat, some x0, l, c, rfl, fun h => (by cases h), fun hw => ⟨⟨some x0, c, by rw [hln], ?_, by rw [hln]; exact hl, ?_⟩, ?_⟩⟩
    · intro h0
      rw [hln] at h0
      obtain ⟨b, o, spot⟩ := x0
      have hspot : spot = none := by
        have := hcell 0 (by omega)
        simpa [Addr.add] using World.cell?_spot this
      subst hspot
      refine ⟨b, o, rfl, fun i hi => ?_⟩
      rw [hln] at hi
      have hc := hcell i (by omega)
      rw [addr_add] at hc
      rw [hc]
      have hi2 : i < zs.length := by omega
      have hb := bounds_u8 (hwz zs[i] (List.getElem_mem hi2))
      have e1 : zs.getD i 0 = zs[i] := by simp [List.getD, hi2]
      have e2 : ((zs.take l).map Int.toNat).getD i 0 = zs[i].toNat := by
        rw [List.getD_eq_getElem?_getD, List.getElem?_map, List.getElem?_take_of_lt hi, List.getElem?_eq_getElem hi2]; rfl
      rw [e1, e2]
      congr 2
      omega
    · subst hd
      have hu := Tryd.underlying26
      have := hw (((lits .u8 (zs.take l)).length + (lits .u8 (zs.drop l)).length) * Tryd.prog.bytesOf 5) (by rw [DataW.weights, hu]; exact List.mem_cons_self ..)
      rw [bytes8] at this
      simp only [lits, List.length_map, List.length_take, List.length_drop, reachBytes] at this
      omega
    · intro y hy
      obtain ⟨z, hz1, rfl⟩ := List.mem_map.1 hy
      have := bounds_u8 (hwz z (List.mem_of_mem_take hz1))
      omega
set_option maxRecDepth 100000 in
theorem open_pgs {H : Type} {enc : TypeId × Value → H} {W : World} {base : Nat} {v : Value} {d : DataW H} {p : List MemPlace}
    (hok : Value.okWide Tryd.prog W .any base 22 v) (hj : DataW.Trod enc Tryd.prog W 0 (fun _ => true) true 22 v d p) :
    ∃ (a : Option Addr) (P : List (List Nat)) (c : Nat), v = .slice a P.length c ∧ P.length ≤ c ∧ c ≤ maxLen ∧ ((∀ n ∈ d.weights Tryd.prog 22, n ≤ reachBytes) → PgZ W a P ∧ c * 24 ≤ 140737488351232) := by
  obtain ⟨a0, len0, cap0, rfl⟩ := okWide_slice Tryd.underlying22 hok
  obtain ⟨fuel, hf⟩ := hj
  rcases open_slice Tryd.underlying22 hf with ⟨hcs, _⟩ | ⟨ad, len, cap, m, n, D, Pl, hcs, _, hl, hm, hmm, hd, hx⟩
  · simp only [Value.cells, List.cons.injEq, Value.slice.injEq, and_true] at hcs
    obtain ⟨rfl, rfl, rfl⟩ := hcs
    exact ⟨none, [], 0, rfl, Nat.le_refl _, by unfold maxLen; omega, fun _ => ⟨fun i hi => absurd hi (Nat.not_lt_zero i), by omega⟩⟩
  · simp only [Value.cells, List.cons.injEq, Value.slice.injEq, and_true] at hcs
    obtain ⟨rfl, rfl, rfl⟩ := hcs
    simp only [if_true] at hmm
    rw [btp_cells] at hx
    simp only [Prod.mk.injEq] at hd
    obtain ⟨rfl, _⟩ := hd
    have hu := Tryd.underlying22
    obtain ⟨f, hf'⟩ := choose_lt (α := List Nat) (n := len0) (p := fun i l => ∃ u, W.cell? (ad.add (i * 1)) = some u ∧ (∃ (d : Option Addr) (m cc : Nat), u = .slice d m cc ∧ (d = none → cc = 0)) ∧ ((∀ n ∈ (D i).weights Tryd.prog 26, n ≤ reachBytes) → BA W u l)) (fun i hi => by
      obtain ⟨cs', h1, h2⟩ := hx i (by omega)
      obtain ⟨_, hlen, hcell⟩ := World.cells?_some h1
      obtain ⟨u, rfl⟩ : ∃ u, cs' = [u] := by
        match cs', hlen with
        | [u], _ => exact ⟨u, rfl⟩
      obtain ⟨l, d3, m3, c3, h4, h5, h3⟩ := open_page1 h2
      have e0 := hcell 0 (by omega)
      have ez : (ad.add (i * 1)).add 0 = ad.add (i * 1) := by simp [Addr.add]
      rw [ez] at e0
      exact ⟨l, u, by simpa using e0, ⟨d3, m3, c3, h4, h5⟩, h3⟩)
    refine ⟨some ad, (List.range len0).map f, cap0, by simp, by simp; exact hl, hm, fun hw => ⟨?_, ?_⟩⟩
    · intro i hi
      simp at hi
      have e : ((List.range len0).map f).getD i [] = f i := by
        rw [List.getD_eq_getElem?_getD, List.getElem?_map, List.getElem?_range hi]; rfl
      rw [e]
      obtain ⟨u, h1, ⟨d3, m3, c3, rfl, h5⟩, h2⟩ := hf' i hi
      obtain ⟨b, o, spot⟩ := ad
      have hspot : spot = none := by
        obtain ⟨u9, h9, _, _⟩ := hf' 0 (by omega)
        simpa [Addr.add] using World.cell?_spot h9
      subst hspot
      rw [addr_add, Nat.mul_one] at h1
      refine ⟨b, o, d3, m3, c3, rfl, h1, h5, h2 fun q hq => hw q ?_⟩
      rw [DataW.weights, hu]
      refine List.mem_cons_of_mem _ (List.mem_append_left _ (weights_all hq _ ?_))
      exact List.mem_map.2 ⟨i, List.mem_range.2 hi, rfl⟩
    · have := hw ((((List.range len0).map D).length + ((List.range (m - len0)).map fun j => D (len0 + j)).length) * Tryd.prog.bytesOf 26) (by rw [DataW.weights, hu]; exact List.mem_cons_self ..)
      rw [btp_bytes] at this
      simp only [List.length_map, List.length_range, reachBytes] at this
      omega
end Go.Proofs.YtfjjfickbhkpaaaDoor
