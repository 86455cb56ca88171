/-
  slices.SortFunc at stretches, by their first pages; extent's ordered.
-/
import Derived.Test.YtcimhcibkbbkdaaDoorSortF
import Derived.Test.YtcimhcibkbbkdaaDoorExtMem
import Derived.Shelf.SlSortCmp.NoneTotal
namespace Go.Proofs.YtcimhcibkbbkdaaDoor
open Go Go.RowKit Go.Shelf Go.Sort

/-- The cells of a list, flat. -/
theorem xflatK (l : List Xt) : flatK xtE.enc 2 l.toArray = (xtE.row l).toArray := by
  refine ext_get! (by simp [Elt.row_len]; rfl) fun t ht => ?_
  have ht' : t < l.length * 2 := by simpa using ht
  rw [get_flatK _ _ _ t (by simpa using ht')]
  have e := xt_at l (t / 2) (by omega)
  have h1 := xtE.row_at l (t / 2) (t % 2) _ e (Nat.mod_lt _ (by decide))
  rw [show xtE.sz = 2 from rfl, show t / 2 * 2 + t % 2 = t by omega] at h1
  have h2 : (l.toArray)[t / 2]! = xt l (t / 2) := by
    simp [xt, List.getD, show t / 2 < l.length by omega]
  rw [h2]
  have h3 : t % 2 < (xtE.enc (xt l (t / 2))).length := Nat.mod_lt _ (by decide)
  have h4 : t < (xtE.row l).length := by rw [Elt.row_len]; exact ht'
  rw [getElem!_pos (xtE.enc (xt l (t / 2))) (t % 2) h3, getElem!_pos (xtE.row l).toArray t (by simpa using h4)]
  rw [List.getElem?_eq_getElem h3, List.getElem?_eq_getElem h4] at h1
  simpa using h1.symm
theorem xltLo (x y : Xt) : ltOf (fun x y : Xt => Lib.compareInt x.f y.f) x y = decide (x.f < y.f) := by
  unfold ltOf Lib.compareInt
  by_cases h1 : x.f < y.f
  · simp [h1]
  · by_cases h2 : y.f < x.f <;> simp [h1, h2]
/-- By the first pages: a strict weak order. -/
theorem xswo : SWO (ltOf fun x y : Xt => Lib.compareInt x.f y.f) where
  irrefl x := by rw [xltLo]; simp
  trans x y z h1 h2 := by rw [xltLo] at *; simp at *; omega
  ntrans x y z h1 h2 := by rw [xltLo] at *; simp at *; omega
set_option maxHeartbeats 1000000 in
/-- The closure, in whatever world. -/
theorem xcmp_any (x y : Xt) (W : World) : Calls Tryd.prog 32 #[.agg #[.int .i64 x.f, .int .i64 x.m], .agg #[.int .i64 y.f, .int .i64 y.m]] W fun e w' => e = .returned (.int .i64 (Lib.compareInt x.f y.f)) ∧ ∃ q os', w' = grow (W.drewN q) os' := by
  have hcon := fun W' => AnyG.cmp_Compare_int laysCmp x.f y.f W'
  change ∀ W', Calls Tryd.prog 33 _ _ _ at hcon
  generalize Lib.compareInt x.f y.f = r at hcon ⊢
  go_enter Tryd.func32, Tryd.ntmps32
  go_wp2_with (go_at_call 33; refine (hcon _).mono ?_; rintro e w' ⟨rfl, rfl⟩)
  go_ret
  exact ⟨rfl, 0, _, by rw [alloc_eq_grow, alloc_eq_grow, grow_grow]; rfl⟩
theorem xcmp_lays (blk off size : Nat) (w : World) : CmpLays Tryd.prog 32 #[] xtE.enc 2 (fun x y => Lib.compareInt x.f y.f) blk off size w :=
  fun _ _ _ _ x y => xcmp_any x y _
theorem xtake_put (cur F : Array Value) (h : F.size ≤ cur.size) : (putCells id 0 F cur).toList.take F.size = F.toList := by
  apply List.ext_getElem?
  intro j
  by_cases hj : j < F.size
  · rw [List.getElem?_take_of_lt hj, Array.getElem?_toList]
    simp [putCells, hj, show j < cur.size by omega]
  · rw [List.getElem?_take_eq_none (by omega), List.getElem?_eq_none (by simp; omega)]
abbrev xbyF : Value := .func (.func 32) #[] #[]
set_option maxHeartbeats 1000000 in
/-- The sort, of a row of one's own. -/
theorem xsort_any (v : Value) (l : List Xt) (w : World) (B : Nat) (hown : w.ownsRow B XT 2 v l.length (xtE.row l)) (hl : l.length * 16 ≤ 140737488355328) :
    Calls Tryd.prog 31 #[v, xbyF] w fun e w' => e = .returned (.tuple #[]) ∧ ∃ l' : List Xt, l'.Perm l ∧ XAsc l' ∧ w'.ownsRow B XT 2 v l'.length (xtE.row l') ∧ Below B w w' := by
  have hnone : ∀ p cap, Calls Tryd.prog 31 #[.slice p 0 cap, xbyF] w fun e w' => e = .returned (.tuple #[]) ∧ w' = w := fun p cap => AnyF.slices_SortFunc_none (P := Tryd.prog) (ρ := laysSortF_ren) { laysSortF with } p cap xbyF w
  rcases hown.2 with ⟨rfl, h0⟩ | ⟨g, cap, cur, rfl, hbg, hg, hnc, hcm, hcs, htake⟩
  · refine (hnone none 0).mono fun e w' ⟨he, hw⟩ => ?_
    subst hw
    exact ⟨he, l, List.Perm.refl _, by rw [List.eq_nil_of_length_eq_zero h0]; exact List.Pairwise.nil, hown, Below.refl _ _⟩
  · rcases Nat.eq_zero_or_pos l.length with h0 | h0
    · have hn := hnone (some ⟨g, 0, none⟩) cap
      rw [h0] at hown ⊢
      refine hn.mono fun e w' ⟨he, hw⟩ => ?_
      subst hw
      exact ⟨he, l, List.Perm.refl _, by rw [List.eq_nil_of_length_eq_zero h0]; exact List.Pairwise.nil, by rw [h0]; exact hown, Below.refl _ _⟩
    · have hlt : g < w.heap.size := (Array.getElem?_eq_some_iff.1 hg).1
      have hrl : (xtE.row l).length = l.length * 2 := Elt.row_len xtE l
      have hH : HoldsK xtE.enc 2 w g 0 l.toArray := by
        unfold HoldsK
        rw [xflatK]
        intro j hj
        have hj' : j < l.length * 2 := by simpa [hrl] using hj
        refine ⟨?_, by simp [World.frozen?, hg]⟩
        have h1 := hown.cellAt j hj'
        rw [Nat.zero_add, h1]
        simp [hrl, hj']
      have eg : ∀ args w, (callFunc 32 args).run Tryd.prog w = .ok (.enter 32 args) w := enters_of Tryd.func32 (by kernel_rfl) rfl
      have hcon := AnyQ.slices_SortFunc laysSortF 2 Tryd.isAgg53 Tryd.sizeOf53 xtE.enc (fun _ => rfl) xtE.one (fun x y => Lib.compareInt x.f y.f) xswo 32 #[] g 0 cap l.toArray w eg (xcmp_lays g 0 _ w) hH hlt (by simp; omega)
      change Calls Tryd.prog 31 _ _ _ at hcon
      rw [List.size_toArray] at hcon
      refine hcon.mono fun e w' ⟨he, d', n, os, hp, hs, hw⟩ => ?_
      obtain ⟨hsz, _, hperm⟩ := hp
      have hd : d'.size = l.length := by simpa using hsz
      rw [Array.extract_eq_self_of_le (by omega), Array.extract_eq_self_of_le (by simp)] at hperm
      refine ⟨he, d'.toList, by simpa using hperm, ?_, ?_, ?_⟩
      · rw [XAsc, List.pairwise_iff_getElem]
        intro i j hi hj hij
        simp at hi hj
        have h1 := hs i j (Nat.zero_le _) hij (by omega)
        rw [xltLo, getElem!_pos d' j (by omega), getElem!_pos d' i (by omega)] at h1
        simp at h1
        simpa using h1
      · have hw2 : w' = grow (Go.Sort.putRow id (Sort.ahead w n) g 0 (xtE.row d'.toList).toArray) os := by
          rw [hw]; unfold sortWorldK putRowK
          rw [← xflatK]
        have hr2 : (xtE.row d'.toList).length = l.length * 2 := by rw [Elt.row_len]; simp [hd]; rfl
        have hdl : d'.toList.length = l.length := by simp [hd]
        rw [hdl]
        refine ⟨hr2, .inr ⟨g, cap, putCells id 0 (xtE.row d'.toList).toArray cur, rfl, hbg, ?_, hnc, hcm, by simp [putCells, hcs], ?_⟩⟩
        · rw [hw2, heap_grow_old _ _ (by simpa [Go.Sort.putRow, mapBlock, Sort.ahead] using hlt)]
          simp [Go.Sort.putRow, mapBlock, Sort.ahead, Array.getElem?_modify, hg, onCells]
        · have h5 := xtake_put cur (xtE.row d'.toList).toArray (by
            rw [List.size_toArray, hr2, hcs]; exact Nat.mul_le_mul_right _ hnc)
          rw [List.size_toArray, hr2, List.toList_toArray] at h5
          exact h5
      · have hw2 : w' = grow (Go.Sort.putRow id (Sort.ahead w n) g 0 (xtE.row d'.toList).toArray) os := by
          rw [hw]; unfold sortWorldK putRowK
          rw [← xflatK]
        have hgr : w.grownBy w' (some g) := by
          rw [hw2]
          refine ⟨rfl, rfl, rfl, by simp [Go.Sort.putRow, mapBlock, Sort.ahead], fun k hk hne => ?_⟩
          rw [heap_grow_old _ _ (by simpa [Go.Sort.putRow, mapBlock, Sort.ahead] using hk)]
          have : g ≠ k := fun e => hne (by rw [e])
          simp [Go.Sort.putRow, mapBlock, Sort.ahead, Array.getElem?_modify, this]
        exact ((Below.refl B w).grown hgr) (by omega) (fun k hk => by cases hk; exact hbg)
end Go.Proofs.YtcimhcibkbbkdaaDoor
