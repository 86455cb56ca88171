/-
  KeysMeets: the law's walk.
-/
import Derived.Test.YtblebkgobhlonaaDoorKeysReg
namespace Go.Proofs.YtblebkgobhlonaaDoor
open Go Go.RowKit

/-- Two texts' row. -/
def TwoIn (w : World) (b : Nat) (x y : ByteArray) : Prop := w.heap[b]? = some (.cells #[.string x, .string y] 43 (0, 0))
theorem TwoIn.c0 {w : World} {b : Nat} {x y : ByteArray} (h : TwoIn w b x y) : w.cell? ⟨b, 0, none⟩ = some (.string x) := by
  have h' : w.heap[b]? = _ := h
  simp [World.cell?, h']
theorem TwoIn.c1 {w : World} {b : Nat} {x y : ByteArray} (h : TwoIn w b x y) : w.cell? ⟨b, 1, none⟩ = some (.string y) := by
  have h' : w.heap[b]? = _ := h
  simp [World.cell?, h']
theorem TwoIn.lt {w : World} {b : Nat} {x y : ByteArray} (h : TwoIn w b x y) : b < w.heap.size := (Array.getElem?_eq_some_iff.1 h).1
theorem boxes_new (w : World) (a b : Sp) (x y : ByteArray) (w1 : World) (hw : w1 = (((w.alloc (.cells #[.string a.lo, .string a.hi, .bool a.op] RSP)).alloc (.cells #[.string b.lo, .string b.hi, .bool b.op] RSP)).alloc (.cells #[.string x, .string y] 43))) :
    (SpIn w1 w.heap.size RSP a ∧ SpIn w1 (w.heap.size + 1) RSP b ∧ Below w.heap.size w w1) ∧ TwoIn w1 (w.heap.size + 1 + 1) x y := by
  subst hw
  have h2 := two_spans w RSP a b
  have hb2 := two_below w (.cells #[.string a.lo, .string a.hi, .bool a.op] RSP) (.cells #[.string b.lo, .string b.hi, .bool b.op] RSP)
  refine ⟨⟨h2.1.stay _, h2.2.stay _, hb2.alloc hb2.size _⟩, ?_⟩
  have := heap_alloc_new ((w.alloc (.cells #[.string a.lo, .string a.hi, .bool a.op] RSP)).alloc (.cells #[.string b.lo, .string b.hi, .bool b.op] RSP)) (.cells #[.string x, .string y] 43)
  rw [show ((w.alloc (.cells #[.string a.lo, .string a.hi, .bool a.op] RSP)).alloc (.cells #[.string b.lo, .string b.hi, .bool b.op] RSP)).heap.size = w.heap.size + 1 + 1 by simp] at this
  exact this
theorem bl_less {a b : ByteArray} {V : Bool} (h : blt a b = V) : Op.bytesLess a.toList b.toList = V := h
set_option maxRecDepth 100000 in
set_option maxHeartbeats 4000000 in
theorem meets_any (lo hi lo2 hi2 key pre : ByteArray) (op op2 : Bool) (w : World) (hg : Hg w) :
    Calls Tryd.prog 4 #[.agg #[.string lo, .string hi, .bool op], .agg #[.string lo2, .string hi2, .bool op2], .agg #[.string key, .string pre]] w fun e w' => e = .returned (.bool true) ∧ Below w.heap.size w w' := by
  have HG := Lib.hid hg
  clear hg
  go_enter Tryd.func4, Tryd.ntmps4
  go_wp2_with fail
  obtain ⟨w1, hw1⟩ : ∃ w1, w1 = (((w.alloc (.cells #[.string lo, .string hi, .bool op] RSP)).alloc (.cells #[.string lo2, .string hi2, .bool op2] RSP)).alloc (.cells #[.string key, .string pre] 43)) := ⟨_, rfl⟩
  obtain ⟨hs, hst⟩ := boxes_new w ⟨lo, hi, op⟩ ⟨lo2, hi2, op2⟩ key pre w1 hw1
  have Hs := Lib.hid hs
  have Hst := Lib.hid hst
  rw [← hw1]
  clear hw1 hs hst
  obtain ⟨G, hG⟩ : ∃ G, G = w1.heap.size := ⟨_, rfl⟩
  have LG := Lib.hid hG
  clear hG
  refine wp_region_gs (F := fun i => G ≤ i) (.rd 0 (.rd 1 (.rd 2 (.rd 3 (.rd 4 (.rd 5 (.two 6 (.call 7 (.call 8 (.call 9 (.rd 10 (.rd 11 .done))))) 7 (.call 6 (.call 8 (.call 9 (.rd 10 (.rd 11 .done)))))))))))) (by kernel_rfl) (by kernel_rfl) (by kernel_rfl) (by kernel_rfl) (fun _ _ _ _ _ h => h) ?_
  have ta : ∀ w', Turn (fun i => G ≤ i) w1.drew w' → SpIn w' w.heap.size RSP ⟨lo, hi, op⟩ := fun w' t => t.hg Hs.out.1 (by have := Hs.out.1.lt; have := LG.out; omega)
  have tb : ∀ w', Turn (fun i => G ≤ i) w1.drew w' → SpIn w' (w.heap.size + 1) RSP ⟨lo2, hi2, op2⟩ := fun w' t => t.hg Hs.out.2.1 (by have := Hs.out.2.1.lt; have := LG.out; omega)
  have Ht := Lib.hid (And.intro ta tb)
  have a0 := fun w' t => (ta w' t).c0
  have a1 := fun w' t => (ta w' t).c1
  have a2 := fun w' t => (ta w' t).c2
  have b0 := fun w' t => (tb w' t).c0
  have b1 := fun w' t => (tb w' t).c1
  have b2 := fun w' t => (tb w' t).c2
  dsimp only at a0 a1 a2 b0 b1 b2
  clear ta tb
  have k0 : ∀ w', Turn (fun i => G ≤ i) w1.drew w' → w'.cell? ⟨w.heap.size + 1 + 1, 0, none⟩ = some (.string key) := fun w' t => TwoIn.c0 (t.hg Hst.out (by have := Hst.out.lt; have := LG.out; omega))
  have k1 : ∀ w', Turn (fun i => G ≤ i) w1.drew w' → w'.cell? ⟨w.heap.size + 1 + 1, 1, none⟩ = some (.string pre) := fun w' t => TwoIn.c1 (t.hg Hst.out (by have := Hst.out.lt; have := LG.out; omega))
  iterate 6 (refine wpGs_read (o := ⟨_, _, _, _, _, _⟩) (v := ?_) rfl (by rfl) ?_ ?_; rotate_left; (intro w' hw'; go_simp; with_reducible rfl); simp only [Act.put, List.setIfInBounds_toArray, List.set_cons_zero, List.set_cons_succ])
  clear k0 k1
  clear a0 a1 a2 b0 b1 b2
  apply share
  case h =>
    intro share_k
    have T0 : Hid (Turn (fun i => G ≤ i) w1.drew w1.drew) := Turn.refl _ _
    refine ⟨?_, ?_⟩
    · refine stepS_call (o := ⟨_, _, _, _, _, _⟩) rfl (by rfl) (fun K hK => ?_)
      go_simp
      refine hK _ _ ((Turn.refl _ _).alloc _) ?_
      clear hK K
      obtain ⟨r1, hr1⟩ : ∃ r1, r1 = (w1.alloc (.cells #[.string ⟨#[]⟩, .string ⟨#[]⟩, .bool false] SPT)).drew := ⟨_, rfl⟩
      have Na : Hid (SpIn r1 w1.heap.size SPT Z0) := by rw [hr1]; exact SpIn.new _ SPT Z0
      have T1 : Hid (Turn (fun i => G ≤ i) w1.drew r1) := by rw [hr1]; exact T0.out.alloc _
      have E1 : Hid (G ≤ w1.heap.size) := Nat.le_of_eq LG.out
      rw [← hr1]
      clear hr1 T0
      obtain ⟨px, hpx⟩ : ∃ p, p = w1.heap.size := ⟨_, rfl⟩
      rw [← hpx] at Na E1 ⊢
      have Px : Hid (G ≤ px) := E1.out
      clear hpx E1
      have Lx : Hid (px < r1.heap.size) := Na.out.lt
      refine stepS_call (o := ⟨_, _, _, _, _, _⟩) rfl (by rfl) (fun K hK => ?_)
      go_simp
      refine hK _ _ ((Turn.refl _ _).alloc _) ?_
      clear hK K
      obtain ⟨r2, hr2⟩ : ∃ r2, r2 = (r1.alloc (.cells #[.string ⟨#[]⟩, .string ⟨#[]⟩, .bool false] SPT)) := ⟨_, rfl⟩
      have Nb : Hid (SpIn r2 r1.heap.size SPT Z0) := by rw [hr2]; exact SpIn.new _ SPT Z0
      replace Na : Hid (SpIn r2 px SPT Z0) := by rw [hr2]; exact Na.out.stay _
      have T2 : Hid (Turn (fun i => G ≤ i) w1.drew r2) := by rw [hr2]; exact T1.out.alloc _
      have E2 : Hid (G ≤ r1.heap.size) := Nat.le_trans (Nat.le_of_eq LG.out) T1.out.size
      rw [← hr2]
      clear hr2 T1
      obtain ⟨py, hpy⟩ : ∃ p, p = r1.heap.size := ⟨_, rfl⟩
      rw [← hpy] at Nb E2 ⊢
      have Py : Hid (G ≤ py) := E2.out
      have Dxy : Hid (px ≠ py) := by have h := Lx.out; rw [← hpy] at h; exact Nat.ne_of_lt h
      clear hpy E2 Lx
      have Lx : Hid (px < r2.heap.size) := Na.out.lt
      have Ly : Hid (py < r2.heap.size) := Nb.out.lt
      clear Lx Ly
      have c0 := Na.out.c0
      have c1 := Na.out.c1
      have c2 := Na.out.c2
      have fz := Na.out.fz
      unfold Z0 at c0 c1 c2
      dsimp only at c0 c1 c2
      refine stepS_call (o := ⟨_, _, _, _, _, _⟩) rfl (by rfl) (fun K hK => ?_)
      go_simp
      clear c0 c1 c2 fz
      refine hK _ _ (filled_turn (s := ⟨lo, hi, op⟩) (Turn.refl _ _) Px.out) ?_
      clear hK K
      obtain ⟨r3, hr3⟩ : ∃ r3, r3 = filled r2 px ⟨lo, hi, op⟩ := ⟨_, rfl⟩
      unfold filled at hr3
      dsimp only at hr3
      rw [← hr3]
      replace Na : Hid (SpIn r3 px SPT ⟨lo, hi, op⟩) := by rw [hr3]; exact Na.out.filled ⟨lo, hi, op⟩
      replace Nb : Hid (SpIn r3 py SPT Z0) := by rw [hr3]; exact Nb.out.filledOther (s2 := ⟨lo, hi, op⟩) Dxy.out
      have T3 : Hid (Turn (fun i => G ≤ i) w1.drew r3) := by rw [hr3]; exact filled_turn (s := ⟨lo, hi, op⟩) T2.out Px.out
      clear hr3 T2
      have c0 := Nb.out.c0
      have c1 := Nb.out.c1
      have c2 := Nb.out.c2
      have fz := Nb.out.fz
      unfold Z0 at c0 c1 c2
      dsimp only at c0 c1 c2
      refine stepS_call (o := ⟨_, _, _, _, _, _⟩) rfl (by rfl) (fun K hK => ?_)
      go_simp
      clear c0 c1 c2 fz
      refine hK _ _ (filled_turn (s := ⟨lo2, hi2, op2⟩) (Turn.refl _ _) Py.out) ?_
      clear hK K
      obtain ⟨r4, hr4⟩ : ∃ r4, r4 = filled r3 py ⟨lo2, hi2, op2⟩ := ⟨_, rfl⟩
      unfold filled at hr4
      dsimp only at hr4
      rw [← hr4]
      replace Nb : Hid (SpIn r4 py SPT ⟨lo2, hi2, op2⟩) := by rw [hr4]; exact Nb.out.filled ⟨lo2, hi2, op2⟩
      replace Na : Hid (SpIn r4 px SPT ⟨lo, hi, op⟩) := by rw [hr4]; exact Na.out.filledOther (s2 := ⟨lo2, hi2, op2⟩) (Ne.symm Dxy.out)
      have T4 : Hid (Turn (fun i => G ≤ i) w1.drew r4) := by rw [hr4]; exact filled_turn (s := ⟨lo2, hi2, op2⟩) T3.out Py.out
      clear hr4 T3
      iterate 2 (refine wpGs_read (o := ⟨_, _, _, _, _, _⟩) (v := ?_) rfl (by rfl) ?_ ?_; rotate_left; (intro w' hw'; go_simp; with_reducible rfl); simp only [Act.put, List.setIfInBounds_toArray, List.set_cons_zero, List.set_cons_succ])
      have Ba := Lib.hid (Ht.out.1 r4 T4.out)
      have Bb := Lib.hid (Ht.out.2 r4 T4.out)
      have Hbel : Hid (Below w.heap.size w r4) := Hs.out.2.2.drew.trans ((T4.out.below (B := G) (Nat.le_of_eq LG.out) (fun i h => h)).mono (by rw [LG.out]; exact Hs.out.2.2.size))
      clear T4 Px Py Dxy
      generalize r4 = v0 at *
      refine wpGs_done ?_
      revert Hbel
      revert Bb
      revert Ba
      revert Nb
      revert Na
      revert v0
      revert py
      revert px
      exact share_k
    · refine stepS_call (o := ⟨_, _, _, _, _, _⟩) rfl (by rfl) (fun K hK => ?_)
      go_simp
      refine hK _ _ ((Turn.refl _ _).alloc _) ?_
      clear hK K
      obtain ⟨r1, hr1⟩ : ∃ r1, r1 = (w1.alloc (.cells #[.string ⟨#[]⟩, .string ⟨#[]⟩, .bool false] SPT)).drew := ⟨_, rfl⟩
      have Nb : Hid (SpIn r1 w1.heap.size SPT Z0) := by rw [hr1]; exact SpIn.new _ SPT Z0
      have T1 : Hid (Turn (fun i => G ≤ i) w1.drew r1) := by rw [hr1]; exact T0.out.alloc _
      have E1 : Hid (G ≤ w1.heap.size) := Nat.le_of_eq LG.out
      rw [← hr1]
      clear hr1 T0
      obtain ⟨py, hpy⟩ : ∃ p, p = w1.heap.size := ⟨_, rfl⟩
      rw [← hpy] at Nb E1 ⊢
      have Py : Hid (G ≤ py) := E1.out
      clear hpy E1
      have Ly : Hid (py < r1.heap.size) := Nb.out.lt
      refine stepS_call (o := ⟨_, _, _, _, _, _⟩) rfl (by rfl) (fun K hK => ?_)
      go_simp
      refine hK _ _ ((Turn.refl _ _).alloc _) ?_
      clear hK K
      obtain ⟨r2, hr2⟩ : ∃ r2, r2 = (r1.alloc (.cells #[.string ⟨#[]⟩, .string ⟨#[]⟩, .bool false] SPT)) := ⟨_, rfl⟩
      have Na : Hid (SpIn r2 r1.heap.size SPT Z0) := by rw [hr2]; exact SpIn.new _ SPT Z0
      replace Nb : Hid (SpIn r2 py SPT Z0) := by rw [hr2]; exact Nb.out.stay _
      have T2 : Hid (Turn (fun i => G ≤ i) w1.drew r2) := by rw [hr2]; exact T1.out.alloc _
      have E2 : Hid (G ≤ r1.heap.size) := Nat.le_trans (Nat.le_of_eq LG.out) T1.out.size
      rw [← hr2]
      clear hr2 T1
      obtain ⟨px, hpx⟩ : ∃ p, p = r1.heap.size := ⟨_, rfl⟩
      rw [← hpx] at Na E2 ⊢
      have Px : Hid (G ≤ px) := E2.out
      have Dyx : Hid (py ≠ px) := by have h := Ly.out; rw [← hpx] at h; exact Nat.ne_of_lt h
      clear hpx E2 Ly
      have Ly : Hid (py < r2.heap.size) := Nb.out.lt
      have Lx : Hid (px < r2.heap.size) := Na.out.lt
      clear Ly Lx
      have c0 := Na.out.c0
      have c1 := Na.out.c1
      have c2 := Na.out.c2
      have fz := Na.out.fz
      unfold Z0 at c0 c1 c2
      dsimp only at c0 c1 c2
      refine stepS_call (o := ⟨_, _, _, _, _, _⟩) rfl (by rfl) (fun K hK => ?_)
      go_simp
      clear c0 c1 c2 fz
      refine hK _ _ (filled_turn (s := ⟨lo, hi, op⟩) (Turn.refl _ _) Px.out) ?_
      clear hK K
      obtain ⟨r3, hr3⟩ : ∃ r3, r3 = filled r2 px ⟨lo, hi, op⟩ := ⟨_, rfl⟩
      unfold filled at hr3
      dsimp only at hr3
      rw [← hr3]
      replace Na : Hid (SpIn r3 px SPT ⟨lo, hi, op⟩) := by rw [hr3]; exact Na.out.filled ⟨lo, hi, op⟩
      replace Nb : Hid (SpIn r3 py SPT Z0) := by rw [hr3]; exact Nb.out.filledOther (s2 := ⟨lo, hi, op⟩) (Ne.symm Dyx.out)
      have T3 : Hid (Turn (fun i => G ≤ i) w1.drew r3) := by rw [hr3]; exact filled_turn (s := ⟨lo, hi, op⟩) T2.out Px.out
      clear hr3 T2
      have c0 := Nb.out.c0
      have c1 := Nb.out.c1
      have c2 := Nb.out.c2
      have fz := Nb.out.fz
      unfold Z0 at c0 c1 c2
      dsimp only at c0 c1 c2
      refine stepS_call (o := ⟨_, _, _, _, _, _⟩) rfl (by rfl) (fun K hK => ?_)
      go_simp
      clear c0 c1 c2 fz
      refine hK _ _ (filled_turn (s := ⟨lo2, hi2, op2⟩) (Turn.refl _ _) Py.out) ?_
      clear hK K
      obtain ⟨r4, hr4⟩ : ∃ r4, r4 = filled r3 py ⟨lo2, hi2, op2⟩ := ⟨_, rfl⟩
      unfold filled at hr4
      dsimp only at hr4
      rw [← hr4]
      replace Nb : Hid (SpIn r4 py SPT ⟨lo2, hi2, op2⟩) := by rw [hr4]; exact Nb.out.filled ⟨lo2, hi2, op2⟩
      replace Na : Hid (SpIn r4 px SPT ⟨lo, hi, op⟩) := by rw [hr4]; exact Na.out.filledOther (s2 := ⟨lo2, hi2, op2⟩) Dyx.out
      have T4 : Hid (Turn (fun i => G ≤ i) w1.drew r4) := by rw [hr4]; exact filled_turn (s := ⟨lo2, hi2, op2⟩) T3.out Py.out
      clear hr4 T3
      iterate 2 (refine wpGs_read (o := ⟨_, _, _, _, _, _⟩) (v := ?_) rfl (by rfl) ?_ ?_; rotate_left; (intro w' hw'; go_simp; with_reducible rfl); simp only [Act.put, List.setIfInBounds_toArray, List.set_cons_zero, List.set_cons_succ])
      have Ba := Lib.hid (Ht.out.1 r4 T4.out)
      have Bb := Lib.hid (Ht.out.2 r4 T4.out)
      have Hbel : Hid (Below w.heap.size w r4) := Hs.out.2.2.drew.trans ((T4.out.below (B := G) (Nat.le_of_eq LG.out) (fun i h => h)).mono (by rw [LG.out]; exact Hs.out.2.2.size))
      clear T4 Px Py Dyx
      generalize r4 = v0 at *
      refine wpGs_done ?_
      revert Hbel
      revert Bb
      revert Ba
      revert Nb
      revert Na
      revert v0
      revert py
      revert px
      exact share_k
  case k =>
    intro px py v0 Na Nb Ba Bb Hbel
    clear LG Ht Hs
    have a0 := Ba.out.c0
    have a1 := Ba.out.c1
    have b0 := Bb.out.c0
    have b1 := Bb.out.c1
    dsimp only at a0 a1 b0 b1
    clear Ba Bb
    go_wp2_with fail
    cases hV : longS [lo, hi, lo2, hi2, key, pre] with
    | true =>
      refine (long_new _ _ _ _ _ _ [lo, hi, lo2, hi2, key, pre] true (by simp) rfl rfl (by simp) hV).mono ?_
      rintro e v ⟨rfl, hb⟩
      replace Hbel := Lib.hid (Hbel.out.trans (hb.mono Hbel.out.size))
      clear hb hV a0 a1 b0 b1
      go_wp2_with fail
      refine (sure_any _ (HG.out.below Hbel.out)).mono ?_
      rintro e v2 ⟨rfl, hb⟩
      replace Hbel := Lib.hid (Hbel.out.trans (hb.mono Hbel.out.size))
      clear hb
      go_wp2_with fail
      go_ret
      exact ⟨rfl, Hbel.out⟩
    | false =>
      refine (long_new _ _ _ _ _ _ [lo, hi, lo2, hi2, key, pre] false (by simp) rfl rfl (by simp) hV).mono ?_
      rintro e v ⟨rfl, hb⟩
      have z5 := long_not hV (s := key) (by simp)
      have z6 := long_not hV (s := pre) (by simp)
      replace Hbel := Lib.hid (Hbel.out.trans (hb.mono Hbel.out.size))
      replace Na := Lib.hid (Na.out.ext hb)
      replace Nb := Lib.hid (Nb.out.ext hb)
      clear hb hV a0 a1 b0 b1
      go_wp2_with fail
      have HM := Lib.hid (has_meet ⟨lo, hi, op⟩ ⟨lo2, hi2, op2⟩ key)
      have HWH := Lib.hid (with_has ⟨lo, hi, op⟩ ⟨lo2, hi2, op2⟩ key)
      have HEH := Lib.hid (emp_has ⟨lo, hi, op⟩ key)
      have HNE := Lib.hid (nemp_has ⟨lo, hi, op⟩)
      have HHO := Lib.hid (has_of pre key)
      have HNL := Lib.hid (next_lt key)
      have HNN := Lib.hid (next_none key pre)
      have HWO := Lib.hid (with_of pre key)
      cases hX : hasS ⟨lo, hi, op⟩ key with
      | true =>
        cases hW : withS ⟨lo, hi, op⟩ ⟨lo2, hi2, op2⟩ with
        | true =>
          cases hP : blt key pre with
          | true => as_aux_lemma =>
            have hE : empS ⟨lo, hi, op⟩ = false := by
              cases h : empS ⟨lo, hi, op⟩ with
              | false => rfl
              | true => rw [HEH.out h] at hX; cases hX
            have hY : hasS ⟨lo2, hi2, op2⟩ key = true := HWH.out hW hX
            have hM : hasS (meetS ⟨lo, hi, op⟩ ⟨lo2, hi2, op2⟩) key = true := by rw [HM.out, hX, hY]; rfl
            obtain ⟨⟨ml, mh, mo⟩, hme⟩ : ∃ s, meetS ⟨lo, hi, op⟩ ⟨lo2, hi2, op2⟩ = s := ⟨_, rfl⟩
            rw [hme] at hM
            have hL : hasS ⟨lo, hi, op⟩ lo = true := HNE.out hE
            obtain ⟨HV, hH⟩ : ∃ V, begS key pre = V := ⟨_, rfl⟩
            have hHO := HHO.out.trans hH
            obtain ⟨⟨ol, oh, oo⟩, hof⟩ : ∃ s, ofS pre = s := ⟨_, rfl⟩
            rw [hof] at hHO
            obtain ⟨PK, hPK⟩ : ∃ s, pre ++ key = s := ⟨_, rfl⟩
            have hWO := HWO.out
            rw [hPK, hof] at hWO
            have zpk : PK.size ≤ 600 := by rw [← hPK, ByteArray.size_append]; omega
            obtain ⟨⟨ql, qh, qo⟩, hqf⟩ : ∃ s, ofS PK = s := ⟨_, rfl⟩
            rw [hqf] at hWO
            obtain ⟨NV, hN⟩ : ∃ N, nextS key = N := ⟨_, rfl⟩
            have hNL := HNL.out
            have hNN := HNN.out
            rw [hN] at hNL hNN
            have hQ : blt pre NV = false := by rw [hP] at hNN; simpa using hNN
            have HC := Lib.hid (And.intro hX (And.intro hW (And.intro hE (And.intro hY (And.intro hM (And.intro hme (And.intro hL (And.intro hH (And.intro hHO (And.intro hof (And.intro hPK (And.intro hWO (And.intro hqf (And.intro hN (And.intro hNL (And.intro hP hQ))))))))))))))))
            clear hX hW hE hY hM hme hL hH hHO hof hPK hWO hqf hN hNL hP hQ hNN HM HWH HEH HNE HHO HNL HNN HWO
            refine wp_region_gr [(0, true), (2, true), (4, true), (5, true), (1, false), (3, false), (6, false), (7, true), (8, true), (9, true), (10, true), (12, true), (14, true), (15, true), (11, false), (13, false), (16, false), (17, true), (18, true), (19, true), (20, false), (21, true), (22, true), (23, true)] (by kernel_rfl) (by kernel_rfl) (by kernel_rfl) (by kernel_rfl) (fun _ _ _ _ _ h => h) ?_
            replace Hbel := Lib.hid Hbel.out.drew
            replace Na : Hid (SpIn v.drew px SPT ⟨lo, hi, op⟩) := Na.out
            replace Nb : Hid (SpIn v.drew py SPT ⟨lo2, hi2, op2⟩) := Nb.out
            generalize v.drew = g0 at *
            have x0 : ∀ w', Ext g0 w' → w'.cell? ⟨px, 0, none⟩ = some (.string lo) := fun w' h => (Na.out.ext h).c0
            have x1 : ∀ w', Ext g0 w' → w'.cell? ⟨px, 1, none⟩ = some (.string hi) := fun w' h => (Na.out.ext h).c1
            have x2 : ∀ w', Ext g0 w' → w'.cell? ⟨px, 2, none⟩ = some (.bool op) := fun w' h => (Na.out.ext h).c2
            have y0 : ∀ w', Ext g0 w' → w'.cell? ⟨py, 0, none⟩ = some (.string lo2) := fun w' h => (Nb.out.ext h).c0
            have y1 : ∀ w', Ext g0 w' → w'.cell? ⟨py, 1, none⟩ = some (.string hi2) := fun w' h => (Nb.out.ext h).c1
            have y2 : ∀ w', Ext g0 w' → w'.cell? ⟨py, 2, none⟩ = some (.bool op2) := fun w' h => (Nb.out.ext h).c2
            iterate 4 (refine wpGr_read (o := ⟨_, _, _, _, _, _⟩) (v := ?_) rfl (by rfl) ?_ ?_; rotate_left; (intro w' hw'; go_simp; with_reducible rfl); simp only [Act.put, List.setIfInBounds_toArray, List.set_cons_zero, List.set_cons_succ])
            refine wpGr_call (o := ⟨_, _, _, _, _, _⟩) rfl (by rfl) (fun K hK => ?_)
            go_simp
            refine (of_at _ ⟨ol, oh, oo⟩ _ (by omega) HC.out.2.2.2.2.2.2.2.2.2.1).mono ?_
            rintro e g1 ⟨rfl, hb⟩
            refine hK _ _ hb ?_
            clear hK K
            clear x0 x1 x2 y0 y1 y2
            replace Hbel := Lib.hid (Hbel.out.trans (hb.mono Hbel.out.size))
            replace Na := Lib.hid (Na.out.ext hb)
            replace Nb := Lib.hid (Nb.out.ext hb)
            clear hb
            have x0 : ∀ w', Ext g1 w' → w'.cell? ⟨px, 0, none⟩ = some (.string lo) := fun w' h => (Na.out.ext h).c0
            have x1 : ∀ w', Ext g1 w' → w'.cell? ⟨px, 1, none⟩ = some (.string hi) := fun w' h => (Na.out.ext h).c1
            have x2 : ∀ w', Ext g1 w' → w'.cell? ⟨px, 2, none⟩ = some (.bool op) := fun w' h => (Na.out.ext h).c2
            have y0 : ∀ w', Ext g1 w' → w'.cell? ⟨py, 0, none⟩ = some (.string lo2) := fun w' h => (Nb.out.ext h).c0
            have y1 : ∀ w', Ext g1 w' → w'.cell? ⟨py, 1, none⟩ = some (.string hi2) := fun w' h => (Nb.out.ext h).c1
            have y2 : ∀ w', Ext g1 w' → w'.cell? ⟨py, 2, none⟩ = some (.bool op2) := fun w' h => (Nb.out.ext h).c2
            dsimp only
            refine wpGr_call (o := ⟨_, _, _, _, _, _⟩) rfl (by rfl) (fun K hK => ?_)
            go_simp
            refine (has_at _ _ _ _ HV _ HC.out.2.2.2.2.2.2.2.2.1).mono ?_
            rintro e g2 ⟨rfl, hb⟩
            refine hK _ _ hb ?_
            clear hK K
            clear x0 x1 x2 y0 y1 y2
            replace Hbel := Lib.hid (Hbel.out.trans (hb.mono Hbel.out.size))
            replace Na := Lib.hid (Na.out.ext hb)
            replace Nb := Lib.hid (Nb.out.ext hb)
            clear hb
            have x0 : ∀ w', Ext g2 w' → w'.cell? ⟨px, 0, none⟩ = some (.string lo) := fun w' h => (Na.out.ext h).c0
            have x1 : ∀ w', Ext g2 w' → w'.cell? ⟨px, 1, none⟩ = some (.string hi) := fun w' h => (Na.out.ext h).c1
            have x2 : ∀ w', Ext g2 w' → w'.cell? ⟨px, 2, none⟩ = some (.bool op) := fun w' h => (Na.out.ext h).c2
            have y0 : ∀ w', Ext g2 w' → w'.cell? ⟨py, 0, none⟩ = some (.string lo2) := fun w' h => (Nb.out.ext h).c0
            have y1 : ∀ w', Ext g2 w' → w'.cell? ⟨py, 1, none⟩ = some (.string hi2) := fun w' h => (Nb.out.ext h).c1
            have y2 : ∀ w', Ext g2 w' → w'.cell? ⟨py, 2, none⟩ = some (.bool op2) := fun w' h => (Nb.out.ext h).c2
            refine wpGr_call (o := ⟨_, _, _, _, _, _⟩) rfl (by rfl) (fun K hK => ?_)
            go_simp
            refine (begins_at _ _ HV _ HC.out.2.2.2.2.2.2.2.1).mono ?_
            rintro e w' ⟨rfl, rfl⟩
            refine hK _ _ (Ext.refl _) ?_
            clear hK K
            iterate 7 (refine wpGr_read (o := ⟨_, _, _, _, _, _⟩) (v := ?_) rfl (by rfl) ?_ ?_; rotate_left; (intro w' hw'; go_simp; with_reducible rfl); simp only [Act.put, List.setIfInBounds_toArray, List.set_cons_zero, List.set_cons_succ])
            refine wpGr_call (o := ⟨_, _, _, _, _, _⟩) rfl (by rfl) (fun K hK => ?_)
            go_simp
            refine (meet_at ⟨lo, hi, op⟩ ⟨lo2, hi2, op2⟩ ⟨ml, mh, mo⟩ _ HC.out.2.2.2.2.2.1).mono ?_
            rintro e g3 ⟨rfl, hb⟩
            refine hK _ _ hb ?_
            clear hK K
            clear x0 x1 x2 y0 y1 y2
            replace Hbel := Lib.hid (Hbel.out.trans (hb.mono Hbel.out.size))
            replace Na := Lib.hid (Na.out.ext hb)
            replace Nb := Lib.hid (Nb.out.ext hb)
            clear hb
            have x0 : ∀ w', Ext g3 w' → w'.cell? ⟨px, 0, none⟩ = some (.string lo) := fun w' h => (Na.out.ext h).c0
            have x1 : ∀ w', Ext g3 w' → w'.cell? ⟨px, 1, none⟩ = some (.string hi) := fun w' h => (Na.out.ext h).c1
            have x2 : ∀ w', Ext g3 w' → w'.cell? ⟨px, 2, none⟩ = some (.bool op) := fun w' h => (Na.out.ext h).c2
            have y0 : ∀ w', Ext g3 w' → w'.cell? ⟨py, 0, none⟩ = some (.string lo2) := fun w' h => (Nb.out.ext h).c0
            have y1 : ∀ w', Ext g3 w' → w'.cell? ⟨py, 1, none⟩ = some (.string hi2) := fun w' h => (Nb.out.ext h).c1
            have y2 : ∀ w', Ext g3 w' → w'.cell? ⟨py, 2, none⟩ = some (.bool op2) := fun w' h => (Nb.out.ext h).c2
            dsimp only
            refine wpGr_call (o := ⟨_, _, _, _, _, _⟩) rfl (by rfl) (fun K hK => ?_)
            go_simp
            refine (has_at _ _ _ _ true _ HC.out.2.2.2.2.1).mono ?_
            rintro e g4 ⟨rfl, hb⟩
            refine hK _ _ hb ?_
            clear hK K
            clear x0 x1 x2 y0 y1 y2
            replace Hbel := Lib.hid (Hbel.out.trans (hb.mono Hbel.out.size))
            replace Na := Lib.hid (Na.out.ext hb)
            replace Nb := Lib.hid (Nb.out.ext hb)
            clear hb
            have x0 : ∀ w', Ext g4 w' → w'.cell? ⟨px, 0, none⟩ = some (.string lo) := fun w' h => (Na.out.ext h).c0
            have x1 : ∀ w', Ext g4 w' → w'.cell? ⟨px, 1, none⟩ = some (.string hi) := fun w' h => (Na.out.ext h).c1
            have x2 : ∀ w', Ext g4 w' → w'.cell? ⟨px, 2, none⟩ = some (.bool op) := fun w' h => (Na.out.ext h).c2
            have y0 : ∀ w', Ext g4 w' → w'.cell? ⟨py, 0, none⟩ = some (.string lo2) := fun w' h => (Nb.out.ext h).c0
            have y1 : ∀ w', Ext g4 w' → w'.cell? ⟨py, 1, none⟩ = some (.string hi2) := fun w' h => (Nb.out.ext h).c1
            have y2 : ∀ w', Ext g4 w' → w'.cell? ⟨py, 2, none⟩ = some (.bool op2) := fun w' h => (Nb.out.ext h).c2
            refine wpGr_call (o := ⟨_, _, _, _, _, _⟩) rfl (by rfl) (fun K hK => ?_)
            go_simp
            refine (has_at _ _ _ _ true _ HC.out.1).mono ?_
            rintro e g5 ⟨rfl, hb⟩
            refine hK _ _ hb ?_
            clear hK K
            clear x0 x1 x2 y0 y1 y2
            replace Hbel := Lib.hid (Hbel.out.trans (hb.mono Hbel.out.size))
            replace Na := Lib.hid (Na.out.ext hb)
            replace Nb := Lib.hid (Nb.out.ext hb)
            clear hb
            have x0 : ∀ w', Ext g5 w' → w'.cell? ⟨px, 0, none⟩ = some (.string lo) := fun w' h => (Na.out.ext h).c0
            have x1 : ∀ w', Ext g5 w' → w'.cell? ⟨px, 1, none⟩ = some (.string hi) := fun w' h => (Na.out.ext h).c1
            have x2 : ∀ w', Ext g5 w' → w'.cell? ⟨px, 2, none⟩ = some (.bool op) := fun w' h => (Na.out.ext h).c2
            have y0 : ∀ w', Ext g5 w' → w'.cell? ⟨py, 0, none⟩ = some (.string lo2) := fun w' h => (Nb.out.ext h).c0
            have y1 : ∀ w', Ext g5 w' → w'.cell? ⟨py, 1, none⟩ = some (.string hi2) := fun w' h => (Nb.out.ext h).c1
            have y2 : ∀ w', Ext g5 w' → w'.cell? ⟨py, 2, none⟩ = some (.bool op2) := fun w' h => (Nb.out.ext h).c2
            iterate 1 (refine wpGr_read (o := ⟨_, _, _, _, _, _⟩) (v := ?_) rfl (by rfl) ?_ ?_; rotate_left; (intro w' hw'; go_simp; with_reducible rfl); simp only [Act.put, List.setIfInBounds_toArray, List.set_cons_zero, List.set_cons_succ])
            iterate 2 (refine wpGr_read (o := ⟨_, _, _, _, _, _⟩) (v := ?_) rfl (by rfl) ?_ ?_; rotate_left; (intro w' hw'; go_simp; with_reducible rfl); simp only [Act.put, List.setIfInBounds_toArray, List.set_cons_zero, List.set_cons_succ])
            refine wpGr_call (o := ⟨_, _, _, _, _, _⟩) rfl (by rfl) (fun K hK => ?_)
            go_simp
            refine (has_at _ _ _ _ true _ HC.out.2.2.2.1).mono ?_
            rintro e g6 ⟨rfl, hb⟩
            refine hK _ _ hb ?_
            clear hK K
            clear x0 x1 x2 y0 y1 y2
            replace Hbel := Lib.hid (Hbel.out.trans (hb.mono Hbel.out.size))
            replace Na := Lib.hid (Na.out.ext hb)
            replace Nb := Lib.hid (Nb.out.ext hb)
            clear hb
            have x0 : ∀ w', Ext g6 w' → w'.cell? ⟨px, 0, none⟩ = some (.string lo) := fun w' h => (Na.out.ext h).c0
            have x1 : ∀ w', Ext g6 w' → w'.cell? ⟨px, 1, none⟩ = some (.string hi) := fun w' h => (Na.out.ext h).c1
            have x2 : ∀ w', Ext g6 w' → w'.cell? ⟨px, 2, none⟩ = some (.bool op) := fun w' h => (Na.out.ext h).c2
            have y0 : ∀ w', Ext g6 w' → w'.cell? ⟨py, 0, none⟩ = some (.string lo2) := fun w' h => (Nb.out.ext h).c0
            have y1 : ∀ w', Ext g6 w' → w'.cell? ⟨py, 1, none⟩ = some (.string hi2) := fun w' h => (Nb.out.ext h).c1
            have y2 : ∀ w', Ext g6 w' → w'.cell? ⟨py, 2, none⟩ = some (.bool op2) := fun w' h => (Nb.out.ext h).c2
            iterate 3 (refine wpGr_read (o := ⟨_, _, _, _, _, _⟩) (v := ?_) rfl (by rfl) ?_ ?_; rotate_left; (intro w' hw'; go_simp; with_reducible rfl); simp only [Act.put, List.setIfInBounds_toArray, List.set_cons_zero, List.set_cons_succ])
            clear x0 x1 x2 y0 y1 y2
            refine wpGr_done ?_
            have x0 := Na.out.c0
            have x1 := Na.out.c1
            have x2 := Na.out.c2
            have y0 := Nb.out.c0
            have y1 := Nb.out.c1
            have y2 := Nb.out.c2
            dsimp only at x0 x1 x2 y0 y1 y2
            go_wp2_with fail
            refine (with_at ⟨lo, hi, op⟩ ⟨lo2, hi2, op2⟩ true _ HC.out.2.1).mono ?_
            rintro e k1 ⟨rfl, hb⟩
            clear x0 x1 x2 y0 y1 y2
            replace Hbel := Lib.hid (Hbel.out.trans (hb.mono Hbel.out.size))
            replace Na := Lib.hid (Na.out.ext hb)
            replace Nb := Lib.hid (Nb.out.ext hb)
            clear hb
            have x0 := Na.out.c0
            have x1 := Na.out.c1
            have x2 := Na.out.c2
            have y0 := Nb.out.c0
            have y1 := Nb.out.c1
            have y2 := Nb.out.c2
            dsimp only at x0 x1 x2 y0 y1 y2
            go_wp2_with fail
            refine (has_at _ _ _ _ true _ HC.out.1).mono ?_
            rintro e k2 ⟨rfl, hb⟩
            clear x0 x1 x2 y0 y1 y2
            replace Hbel := Lib.hid (Hbel.out.trans (hb.mono Hbel.out.size))
            replace Na := Lib.hid (Na.out.ext hb)
            replace Nb := Lib.hid (Nb.out.ext hb)
            clear hb
            have x0 := Na.out.c0
            have x1 := Na.out.c1
            have x2 := Na.out.c2
            have y0 := Nb.out.c0
            have y1 := Nb.out.c1
            have y2 := Nb.out.c2
            dsimp only at x0 x1 x2 y0 y1 y2
            go_wp2_with fail
            refine (has_at _ _ _ _ true _ HC.out.2.2.2.1).mono ?_
            rintro e k3 ⟨rfl, hb⟩
            clear x0 x1 x2 y0 y1 y2
            replace Hbel := Lib.hid (Hbel.out.trans (hb.mono Hbel.out.size))
            replace Na := Lib.hid (Na.out.ext hb)
            replace Nb := Lib.hid (Nb.out.ext hb)
            clear hb
            have x0 := Na.out.c0
            have x1 := Na.out.c1
            have x2 := Na.out.c2
            have y0 := Nb.out.c0
            have y1 := Nb.out.c1
            have y2 := Nb.out.c2
            dsimp only at x0 x1 x2 y0 y1 y2
            go_wp2_with fail
            refine (emp_at _ _ _ false _ HC.out.2.2.1).mono ?_
            rintro e k4 ⟨rfl, hb⟩
            clear x0 x1 x2 y0 y1 y2
            replace Hbel := Lib.hid (Hbel.out.trans (hb.mono Hbel.out.size))
            replace Na := Lib.hid (Na.out.ext hb)
            replace Nb := Lib.hid (Nb.out.ext hb)
            clear hb
            have x0 := Na.out.c0
            have x1 := Na.out.c1
            have x2 := Na.out.c2
            have y0 := Nb.out.c0
            have y1 := Nb.out.c1
            have y2 := Nb.out.c2
            dsimp only at x0 x1 x2 y0 y1 y2
            go_wp2_with fail
            refine (emp_at _ _ _ false _ HC.out.2.2.1).mono ?_
            rintro e k5 ⟨rfl, hb⟩
            clear x0 x1 x2 y0 y1 y2
            replace Hbel := Lib.hid (Hbel.out.trans (hb.mono Hbel.out.size))
            replace Na := Lib.hid (Na.out.ext hb)
            replace Nb := Lib.hid (Nb.out.ext hb)
            clear hb
            have x0 := Na.out.c0
            have x1 := Na.out.c1
            have x2 := Na.out.c2
            have y0 := Nb.out.c0
            have y1 := Nb.out.c1
            have y2 := Nb.out.c2
            dsimp only at x0 x1 x2 y0 y1 y2
            go_wp2_with fail
            refine (has_at _ _ _ _ true _ HC.out.2.2.2.2.2.2.1).mono ?_
            rintro e k6 ⟨rfl, hb⟩
            clear x0 x1 x2 y0 y1 y2
            replace Hbel := Lib.hid (Hbel.out.trans (hb.mono Hbel.out.size))
            replace Na := Lib.hid (Na.out.ext hb)
            replace Nb := Lib.hid (Nb.out.ext hb)
            clear hb
            have x0 := Na.out.c0
            have x1 := Na.out.c1
            have x2 := Na.out.c2
            have y0 := Nb.out.c0
            have y1 := Nb.out.c1
            have y2 := Nb.out.c2
            dsimp only at x0 x1 x2 y0 y1 y2
            go_wp2_with fail
            refine (next_at _ NV _ (by omega) HC.out.2.2.2.2.2.2.2.2.2.2.2.2.2.1).mono ?_
            rintro e w' ⟨rfl, rfl⟩
            have l1 := bl_less HC.out.2.2.2.2.2.2.2.2.2.2.2.2.2.2.1
            have l2 := bl_less HC.out.2.2.2.2.2.2.2.2.2.2.2.2.2.2.2.1
            have l3 := bl_less HC.out.2.2.2.2.2.2.2.2.2.2.2.2.2.2.2.2
            have n1 : ¬ (9223372036854775807 < pre.size + key.size) := by omega
            have n2 : pre ++ key = PK := HC.out.2.2.2.2.2.2.2.2.2.2.1
            go_wp2_with fail
            refine (of_at _ ⟨ql, qh, qo⟩ _ (by omega) HC.out.2.2.2.2.2.2.2.2.2.2.2.2.1).mono ?_
            rintro e k7 ⟨rfl, hb⟩
            clear x0 x1 x2 y0 y1 y2
            replace Hbel := Lib.hid (Hbel.out.trans (hb.mono Hbel.out.size))
            replace Na := Lib.hid (Na.out.ext hb)
            replace Nb := Lib.hid (Nb.out.ext hb)
            clear hb
            have x0 := Na.out.c0
            have x1 := Na.out.c1
            have x2 := Na.out.c2
            have y0 := Nb.out.c0
            have y1 := Nb.out.c1
            have y2 := Nb.out.c2
            dsimp only at x0 x1 x2 y0 y1 y2
            dsimp only
            go_wp2_with fail
            refine (of_at _ ⟨ol, oh, oo⟩ _ (by omega) HC.out.2.2.2.2.2.2.2.2.2.1).mono ?_
            rintro e k8 ⟨rfl, hb⟩
            clear x0 x1 x2 y0 y1 y2
            replace Hbel := Lib.hid (Hbel.out.trans (hb.mono Hbel.out.size))
            replace Na := Lib.hid (Na.out.ext hb)
            replace Nb := Lib.hid (Nb.out.ext hb)
            clear hb
            have x0 := Na.out.c0
            have x1 := Na.out.c1
            have x2 := Na.out.c2
            have y0 := Nb.out.c0
            have y1 := Nb.out.c1
            have y2 := Nb.out.c2
            dsimp only at x0 x1 x2 y0 y1 y2
            dsimp only
            go_wp2_with fail
            refine (with_at ⟨ql, qh, qo⟩ ⟨ol, oh, oo⟩ true _ HC.out.2.2.2.2.2.2.2.2.2.2.2.1).mono ?_
            rintro e k9 ⟨rfl, hb⟩
            clear x0 x1 x2 y0 y1 y2
            replace Hbel := Lib.hid (Hbel.out.trans (hb.mono Hbel.out.size))
            replace Na := Lib.hid (Na.out.ext hb)
            replace Nb := Lib.hid (Nb.out.ext hb)
            clear hb
            have x0 := Na.out.c0
            have x1 := Na.out.c1
            have x2 := Na.out.c2
            have y0 := Nb.out.c0
            have y1 := Nb.out.c1
            have y2 := Nb.out.c2
            dsimp only at x0 x1 x2 y0 y1 y2
            go_wp2_with fail
            refine (sure_any _ (HG.out.below Hbel.out)).mono ?_
            rintro e k10 ⟨rfl, hb⟩
            clear x0 x1 x2 y0 y1 y2
            replace Hbel := Lib.hid (Hbel.out.trans (hb.mono Hbel.out.size))
            replace Na := Lib.hid (Na.out.ext hb)
            replace Nb := Lib.hid (Nb.out.ext hb)
            clear hb
            have x0 := Na.out.c0
            have x1 := Na.out.c1
            have x2 := Na.out.c2
            have y0 := Nb.out.c0
            have y1 := Nb.out.c1
            have y2 := Nb.out.c2
            dsimp only at x0 x1 x2 y0 y1 y2
            go_wp2_with fail
            go_ret
            exact ⟨rfl, Hbel.out⟩
          | false => as_aux_lemma =>
            have hE : empS ⟨lo, hi, op⟩ = false := by
              cases h : empS ⟨lo, hi, op⟩ with
              | false => rfl
              | true => rw [HEH.out h] at hX; cases hX
            have hY : hasS ⟨lo2, hi2, op2⟩ key = true := HWH.out hW hX
            have hM : hasS (meetS ⟨lo, hi, op⟩ ⟨lo2, hi2, op2⟩) key = true := by rw [HM.out, hX, hY]; rfl
            obtain ⟨⟨ml, mh, mo⟩, hme⟩ : ∃ s, meetS ⟨lo, hi, op⟩ ⟨lo2, hi2, op2⟩ = s := ⟨_, rfl⟩
            rw [hme] at hM
            have hL : hasS ⟨lo, hi, op⟩ lo = true := HNE.out hE
            obtain ⟨HV, hH⟩ : ∃ V, begS key pre = V := ⟨_, rfl⟩
            have hHO := HHO.out.trans hH
            obtain ⟨⟨ol, oh, oo⟩, hof⟩ : ∃ s, ofS pre = s := ⟨_, rfl⟩
            rw [hof] at hHO
            obtain ⟨PK, hPK⟩ : ∃ s, pre ++ key = s := ⟨_, rfl⟩
            have hWO := HWO.out
            rw [hPK, hof] at hWO
            have zpk : PK.size ≤ 600 := by rw [← hPK, ByteArray.size_append]; omega
            obtain ⟨⟨ql, qh, qo⟩, hqf⟩ : ∃ s, ofS PK = s := ⟨_, rfl⟩
            rw [hqf] at hWO
            obtain ⟨NV, hN⟩ : ∃ N, nextS key = N := ⟨_, rfl⟩
            have hNL := HNL.out
            have hNN := HNN.out
            rw [hN] at hNL hNN
            have hQ := hP
            have HC := Lib.hid (And.intro hX (And.intro hW (And.intro hE (And.intro hY (And.intro hM (And.intro hme (And.intro hL (And.intro hH (And.intro hHO (And.intro hof (And.intro hPK (And.intro hWO (And.intro hqf (And.intro hN (And.intro hNL (And.intro hP hQ))))))))))))))))
            clear hX hW hE hY hM hme hL hH hHO hof hPK hWO hqf hN hNL hP hQ hNN HM HWH HEH HNE HHO HNL HNN HWO
            refine wp_region_gr [(0, true), (2, true), (4, true), (5, true), (1, false), (3, false), (6, false), (7, true), (8, true), (9, true), (10, true), (12, true), (14, true), (15, true), (11, false), (13, false), (16, false), (17, true), (18, true), (19, true), (20, false), (21, true), (22, true), (23, true)] (by kernel_rfl) (by kernel_rfl) (by kernel_rfl) (by kernel_rfl) (fun _ _ _ _ _ h => h) ?_
            replace Hbel := Lib.hid Hbel.out.drew
            replace Na : Hid (SpIn v.drew px SPT ⟨lo, hi, op⟩) := Na.out
            replace Nb : Hid (SpIn v.drew py SPT ⟨lo2, hi2, op2⟩) := Nb.out
            generalize v.drew = g0 at *
            have x0 : ∀ w', Ext g0 w' → w'.cell? ⟨px, 0, none⟩ = some (.string lo) := fun w' h => (Na.out.ext h).c0
            have x1 : ∀ w', Ext g0 w' → w'.cell? ⟨px, 1, none⟩ = some (.string hi) := fun w' h => (Na.out.ext h).c1
            have x2 : ∀ w', Ext g0 w' → w'.cell? ⟨px, 2, none⟩ = some (.bool op) := fun w' h => (Na.out.ext h).c2
            have y0 : ∀ w', Ext g0 w' → w'.cell? ⟨py, 0, none⟩ = some (.string lo2) := fun w' h => (Nb.out.ext h).c0
            have y1 : ∀ w', Ext g0 w' → w'.cell? ⟨py, 1, none⟩ = some (.string hi2) := fun w' h => (Nb.out.ext h).c1
            have y2 : ∀ w', Ext g0 w' → w'.cell? ⟨py, 2, none⟩ = some (.bool op2) := fun w' h => (Nb.out.ext h).c2
            iterate 4 (refine wpGr_read (o := ⟨_, _, _, _, _, _⟩) (v := ?_) rfl (by rfl) ?_ ?_; rotate_left; (intro w' hw'; go_simp; with_reducible rfl); simp only [Act.put, List.setIfInBounds_toArray, List.set_cons_zero, List.set_cons_succ])
            refine wpGr_call (o := ⟨_, _, _, _, _, _⟩) rfl (by rfl) (fun K hK => ?_)
            go_simp
            refine (of_at _ ⟨ol, oh, oo⟩ _ (by omega) HC.out.2.2.2.2.2.2.2.2.2.1).mono ?_
            rintro e g1 ⟨rfl, hb⟩
            refine hK _ _ hb ?_
            clear hK K
            clear x0 x1 x2 y0 y1 y2
            replace Hbel := Lib.hid (Hbel.out.trans (hb.mono Hbel.out.size))
            replace Na := Lib.hid (Na.out.ext hb)
            replace Nb := Lib.hid (Nb.out.ext hb)
            clear hb
            have x0 : ∀ w', Ext g1 w' → w'.cell? ⟨px, 0, none⟩ = some (.string lo) := fun w' h => (Na.out.ext h).c0
            have x1 : ∀ w', Ext g1 w' → w'.cell? ⟨px, 1, none⟩ = some (.string hi) := fun w' h => (Na.out.ext h).c1
            have x2 : ∀ w', Ext g1 w' → w'.cell? ⟨px, 2, none⟩ = some (.bool op) := fun w' h => (Na.out.ext h).c2
            have y0 : ∀ w', Ext g1 w' → w'.cell? ⟨py, 0, none⟩ = some (.string lo2) := fun w' h => (Nb.out.ext h).c0
            have y1 : ∀ w', Ext g1 w' → w'.cell? ⟨py, 1, none⟩ = some (.string hi2) := fun w' h => (Nb.out.ext h).c1
            have y2 : ∀ w', Ext g1 w' → w'.cell? ⟨py, 2, none⟩ = some (.bool op2) := fun w' h => (Nb.out.ext h).c2
            dsimp only
            refine wpGr_call (o := ⟨_, _, _, _, _, _⟩) rfl (by rfl) (fun K hK => ?_)
            go_simp
            refine (has_at _ _ _ _ HV _ HC.out.2.2.2.2.2.2.2.2.1).mono ?_
            rintro e g2 ⟨rfl, hb⟩
            refine hK _ _ hb ?_
            clear hK K
            clear x0 x1 x2 y0 y1 y2
            replace Hbel := Lib.hid (Hbel.out.trans (hb.mono Hbel.out.size))
            replace Na := Lib.hid (Na.out.ext hb)
            replace Nb := Lib.hid (Nb.out.ext hb)
            clear hb
            have x0 : ∀ w', Ext g2 w' → w'.cell? ⟨px, 0, none⟩ = some (.string lo) := fun w' h => (Na.out.ext h).c0
            have x1 : ∀ w', Ext g2 w' → w'.cell? ⟨px, 1, none⟩ = some (.string hi) := fun w' h => (Na.out.ext h).c1
            have x2 : ∀ w', Ext g2 w' → w'.cell? ⟨px, 2, none⟩ = some (.bool op) := fun w' h => (Na.out.ext h).c2
            have y0 : ∀ w', Ext g2 w' → w'.cell? ⟨py, 0, none⟩ = some (.string lo2) := fun w' h => (Nb.out.ext h).c0
            have y1 : ∀ w', Ext g2 w' → w'.cell? ⟨py, 1, none⟩ = some (.string hi2) := fun w' h => (Nb.out.ext h).c1
            have y2 : ∀ w', Ext g2 w' → w'.cell? ⟨py, 2, none⟩ = some (.bool op2) := fun w' h => (Nb.out.ext h).c2
            refine wpGr_call (o := ⟨_, _, _, _, _, _⟩) rfl (by rfl) (fun K hK => ?_)
            go_simp
            refine (begins_at _ _ HV _ HC.out.2.2.2.2.2.2.2.1).mono ?_
            rintro e w' ⟨rfl, rfl⟩
            refine hK _ _ (Ext.refl _) ?_
            clear hK K
            iterate 7 (refine wpGr_read (o := ⟨_, _, _, _, _, _⟩) (v := ?_) rfl (by rfl) ?_ ?_; rotate_left; (intro w' hw'; go_simp; with_reducible rfl); simp only [Act.put, List.setIfInBounds_toArray, List.set_cons_zero, List.set_cons_succ])
            refine wpGr_call (o := ⟨_, _, _, _, _, _⟩) rfl (by rfl) (fun K hK => ?_)
            go_simp
            refine (meet_at ⟨lo, hi, op⟩ ⟨lo2, hi2, op2⟩ ⟨ml, mh, mo⟩ _ HC.out.2.2.2.2.2.1).mono ?_
            rintro e g3 ⟨rfl, hb⟩
            refine hK _ _ hb ?_
            clear hK K
            clear x0 x1 x2 y0 y1 y2
            replace Hbel := Lib.hid (Hbel.out.trans (hb.mono Hbel.out.size))
            replace Na := Lib.hid (Na.out.ext hb)
            replace Nb := Lib.hid (Nb.out.ext hb)
            clear hb
            have x0 : ∀ w', Ext g3 w' → w'.cell? ⟨px, 0, none⟩ = some (.string lo) := fun w' h => (Na.out.ext h).c0
            have x1 : ∀ w', Ext g3 w' → w'.cell? ⟨px, 1, none⟩ = some (.string hi) := fun w' h => (Na.out.ext h).c1
            have x2 : ∀ w', Ext g3 w' → w'.cell? ⟨px, 2, none⟩ = some (.bool op) := fun w' h => (Na.out.ext h).c2
            have y0 : ∀ w', Ext g3 w' → w'.cell? ⟨py, 0, none⟩ = some (.string lo2) := fun w' h => (Nb.out.ext h).c0
            have y1 : ∀ w', Ext g3 w' → w'.cell? ⟨py, 1, none⟩ = some (.string hi2) := fun w' h => (Nb.out.ext h).c1
            have y2 : ∀ w', Ext g3 w' → w'.cell? ⟨py, 2, none⟩ = some (.bool op2) := fun w' h => (Nb.out.ext h).c2
            dsimp only
            refine wpGr_call (o := ⟨_, _, _, _, _, _⟩) rfl (by rfl) (fun K hK => ?_)
            go_simp
            refine (has_at _ _ _ _ true _ HC.out.2.2.2.2.1).mono ?_
            rintro e g4 ⟨rfl, hb⟩
            refine hK _ _ hb ?_
            clear hK K
            clear x0 x1 x2 y0 y1 y2
            replace Hbel := Lib.hid (Hbel.out.trans (hb.mono Hbel.out.size))
            replace Na := Lib.hid (Na.out.ext hb)
            replace Nb := Lib.hid (Nb.out.ext hb)
            clear hb
            have x0 : ∀ w', Ext g4 w' → w'.cell? ⟨px, 0, none⟩ = some (.string lo) := fun w' h => (Na.out.ext h).c0
            have x1 : ∀ w', Ext g4 w' → w'.cell? ⟨px, 1, none⟩ = some (.string hi) := fun w' h => (Na.out.ext h).c1
            have x2 : ∀ w', Ext g4 w' → w'.cell? ⟨px, 2, none⟩ = some (.bool op) := fun w' h => (Na.out.ext h).c2
            have y0 : ∀ w', Ext g4 w' → w'.cell? ⟨py, 0, none⟩ = some (.string lo2) := fun w' h => (Nb.out.ext h).c0
            have y1 : ∀ w', Ext g4 w' → w'.cell? ⟨py, 1, none⟩ = some (.string hi2) := fun w' h => (Nb.out.ext h).c1
            have y2 : ∀ w', Ext g4 w' → w'.cell? ⟨py, 2, none⟩ = some (.bool op2) := fun w' h => (Nb.out.ext h).c2
            refine wpGr_call (o := ⟨_, _, _, _, _, _⟩) rfl (by rfl) (fun K hK => ?_)
            go_simp
            refine (has_at _ _ _ _ true _ HC.out.1).mono ?_
            rintro e g5 ⟨rfl, hb⟩
            refine hK _ _ hb ?_
            clear hK K
            clear x0 x1 x2 y0 y1 y2
            replace Hbel := Lib.hid (Hbel.out.trans (hb.mono Hbel.out.size))
            replace Na := Lib.hid (Na.out.ext hb)
            replace Nb := Lib.hid (Nb.out.ext hb)
            clear hb
            have x0 : ∀ w', Ext g5 w' → w'.cell? ⟨px, 0, none⟩ = some (.string lo) := fun w' h => (Na.out.ext h).c0
            have x1 : ∀ w', Ext g5 w' → w'.cell? ⟨px, 1, none⟩ = some (.string hi) := fun w' h => (Na.out.ext h).c1
            have x2 : ∀ w', Ext g5 w' → w'.cell? ⟨px, 2, none⟩ = some (.bool op) := fun w' h => (Na.out.ext h).c2
            have y0 : ∀ w', Ext g5 w' → w'.cell? ⟨py, 0, none⟩ = some (.string lo2) := fun w' h => (Nb.out.ext h).c0
            have y1 : ∀ w', Ext g5 w' → w'.cell? ⟨py, 1, none⟩ = some (.string hi2) := fun w' h => (Nb.out.ext h).c1
            have y2 : ∀ w', Ext g5 w' → w'.cell? ⟨py, 2, none⟩ = some (.bool op2) := fun w' h => (Nb.out.ext h).c2
            iterate 1 (refine wpGr_read (o := ⟨_, _, _, _, _, _⟩) (v := ?_) rfl (by rfl) ?_ ?_; rotate_left; (intro w' hw'; go_simp; with_reducible rfl); simp only [Act.put, List.setIfInBounds_toArray, List.set_cons_zero, List.set_cons_succ])
            iterate 2 (refine wpGr_read (o := ⟨_, _, _, _, _, _⟩) (v := ?_) rfl (by rfl) ?_ ?_; rotate_left; (intro w' hw'; go_simp; with_reducible rfl); simp only [Act.put, List.setIfInBounds_toArray, List.set_cons_zero, List.set_cons_succ])
            refine wpGr_call (o := ⟨_, _, _, _, _, _⟩) rfl (by rfl) (fun K hK => ?_)
            go_simp
            refine (has_at _ _ _ _ true _ HC.out.2.2.2.1).mono ?_
            rintro e g6 ⟨rfl, hb⟩
            refine hK _ _ hb ?_
            clear hK K
            clear x0 x1 x2 y0 y1 y2
            replace Hbel := Lib.hid (Hbel.out.trans (hb.mono Hbel.out.size))
            replace Na := Lib.hid (Na.out.ext hb)
            replace Nb := Lib.hid (Nb.out.ext hb)
            clear hb
            have x0 : ∀ w', Ext g6 w' → w'.cell? ⟨px, 0, none⟩ = some (.string lo) := fun w' h => (Na.out.ext h).c0
            have x1 : ∀ w', Ext g6 w' → w'.cell? ⟨px, 1, none⟩ = some (.string hi) := fun w' h => (Na.out.ext h).c1
            have x2 : ∀ w', Ext g6 w' → w'.cell? ⟨px, 2, none⟩ = some (.bool op) := fun w' h => (Na.out.ext h).c2
            have y0 : ∀ w', Ext g6 w' → w'.cell? ⟨py, 0, none⟩ = some (.string lo2) := fun w' h => (Nb.out.ext h).c0
            have y1 : ∀ w', Ext g6 w' → w'.cell? ⟨py, 1, none⟩ = some (.string hi2) := fun w' h => (Nb.out.ext h).c1
            have y2 : ∀ w', Ext g6 w' → w'.cell? ⟨py, 2, none⟩ = some (.bool op2) := fun w' h => (Nb.out.ext h).c2
            iterate 3 (refine wpGr_read (o := ⟨_, _, _, _, _, _⟩) (v := ?_) rfl (by rfl) ?_ ?_; rotate_left; (intro w' hw'; go_simp; with_reducible rfl); simp only [Act.put, List.setIfInBounds_toArray, List.set_cons_zero, List.set_cons_succ])
            clear x0 x1 x2 y0 y1 y2
            refine wpGr_done ?_
            have x0 := Na.out.c0
            have x1 := Na.out.c1
            have x2 := Na.out.c2
            have y0 := Nb.out.c0
            have y1 := Nb.out.c1
            have y2 := Nb.out.c2
            dsimp only at x0 x1 x2 y0 y1 y2
            go_wp2_with fail
            refine (with_at ⟨lo, hi, op⟩ ⟨lo2, hi2, op2⟩ true _ HC.out.2.1).mono ?_
            rintro e k1 ⟨rfl, hb⟩
            clear x0 x1 x2 y0 y1 y2
            replace Hbel := Lib.hid (Hbel.out.trans (hb.mono Hbel.out.size))
            replace Na := Lib.hid (Na.out.ext hb)
            replace Nb := Lib.hid (Nb.out.ext hb)
            clear hb
            have x0 := Na.out.c0
            have x1 := Na.out.c1
            have x2 := Na.out.c2
            have y0 := Nb.out.c0
            have y1 := Nb.out.c1
            have y2 := Nb.out.c2
            dsimp only at x0 x1 x2 y0 y1 y2
            go_wp2_with fail
            refine (has_at _ _ _ _ true _ HC.out.1).mono ?_
            rintro e k2 ⟨rfl, hb⟩
            clear x0 x1 x2 y0 y1 y2
            replace Hbel := Lib.hid (Hbel.out.trans (hb.mono Hbel.out.size))
            replace Na := Lib.hid (Na.out.ext hb)
            replace Nb := Lib.hid (Nb.out.ext hb)
            clear hb
            have x0 := Na.out.c0
            have x1 := Na.out.c1
            have x2 := Na.out.c2
            have y0 := Nb.out.c0
            have y1 := Nb.out.c1
            have y2 := Nb.out.c2
            dsimp only at x0 x1 x2 y0 y1 y2
            go_wp2_with fail
            refine (has_at _ _ _ _ true _ HC.out.2.2.2.1).mono ?_
            rintro e k3 ⟨rfl, hb⟩
            clear x0 x1 x2 y0 y1 y2
            replace Hbel := Lib.hid (Hbel.out.trans (hb.mono Hbel.out.size))
            replace Na := Lib.hid (Na.out.ext hb)
            replace Nb := Lib.hid (Nb.out.ext hb)
            clear hb
            have x0 := Na.out.c0
            have x1 := Na.out.c1
            have x2 := Na.out.c2
            have y0 := Nb.out.c0
            have y1 := Nb.out.c1
            have y2 := Nb.out.c2
            dsimp only at x0 x1 x2 y0 y1 y2
            go_wp2_with fail
            refine (emp_at _ _ _ false _ HC.out.2.2.1).mono ?_
            rintro e k4 ⟨rfl, hb⟩
            clear x0 x1 x2 y0 y1 y2
            replace Hbel := Lib.hid (Hbel.out.trans (hb.mono Hbel.out.size))
            replace Na := Lib.hid (Na.out.ext hb)
            replace Nb := Lib.hid (Nb.out.ext hb)
            clear hb
            have x0 := Na.out.c0
            have x1 := Na.out.c1
            have x2 := Na.out.c2
            have y0 := Nb.out.c0
            have y1 := Nb.out.c1
            have y2 := Nb.out.c2
            dsimp only at x0 x1 x2 y0 y1 y2
            go_wp2_with fail
            refine (emp_at _ _ _ false _ HC.out.2.2.1).mono ?_
            rintro e k5 ⟨rfl, hb⟩
            clear x0 x1 x2 y0 y1 y2
            replace Hbel := Lib.hid (Hbel.out.trans (hb.mono Hbel.out.size))
            replace Na := Lib.hid (Na.out.ext hb)
            replace Nb := Lib.hid (Nb.out.ext hb)
            clear hb
            have x0 := Na.out.c0
            have x1 := Na.out.c1
            have x2 := Na.out.c2
            have y0 := Nb.out.c0
            have y1 := Nb.out.c1
            have y2 := Nb.out.c2
            dsimp only at x0 x1 x2 y0 y1 y2
            go_wp2_with fail
            refine (has_at _ _ _ _ true _ HC.out.2.2.2.2.2.2.1).mono ?_
            rintro e k6 ⟨rfl, hb⟩
            clear x0 x1 x2 y0 y1 y2
            replace Hbel := Lib.hid (Hbel.out.trans (hb.mono Hbel.out.size))
            replace Na := Lib.hid (Na.out.ext hb)
            replace Nb := Lib.hid (Nb.out.ext hb)
            clear hb
            have x0 := Na.out.c0
            have x1 := Na.out.c1
            have x2 := Na.out.c2
            have y0 := Nb.out.c0
            have y1 := Nb.out.c1
            have y2 := Nb.out.c2
            dsimp only at x0 x1 x2 y0 y1 y2
            go_wp2_with fail
            refine (next_at _ NV _ (by omega) HC.out.2.2.2.2.2.2.2.2.2.2.2.2.2.1).mono ?_
            rintro e w' ⟨rfl, rfl⟩
            have l1 := bl_less HC.out.2.2.2.2.2.2.2.2.2.2.2.2.2.2.1
            have l2 := bl_less HC.out.2.2.2.2.2.2.2.2.2.2.2.2.2.2.2.1
            have n1 : ¬ (9223372036854775807 < pre.size + key.size) := by omega
            have n2 : pre ++ key = PK := HC.out.2.2.2.2.2.2.2.2.2.2.1
            go_wp2_with fail
            refine (of_at _ ⟨ql, qh, qo⟩ _ (by omega) HC.out.2.2.2.2.2.2.2.2.2.2.2.2.1).mono ?_
            rintro e k7 ⟨rfl, hb⟩
            clear x0 x1 x2 y0 y1 y2
            replace Hbel := Lib.hid (Hbel.out.trans (hb.mono Hbel.out.size))
            replace Na := Lib.hid (Na.out.ext hb)
            replace Nb := Lib.hid (Nb.out.ext hb)
            clear hb
            have x0 := Na.out.c0
            have x1 := Na.out.c1
            have x2 := Na.out.c2
            have y0 := Nb.out.c0
            have y1 := Nb.out.c1
            have y2 := Nb.out.c2
            dsimp only at x0 x1 x2 y0 y1 y2
            dsimp only
            go_wp2_with fail
            refine (of_at _ ⟨ol, oh, oo⟩ _ (by omega) HC.out.2.2.2.2.2.2.2.2.2.1).mono ?_
            rintro e k8 ⟨rfl, hb⟩
            clear x0 x1 x2 y0 y1 y2
            replace Hbel := Lib.hid (Hbel.out.trans (hb.mono Hbel.out.size))
            replace Na := Lib.hid (Na.out.ext hb)
            replace Nb := Lib.hid (Nb.out.ext hb)
            clear hb
            have x0 := Na.out.c0
            have x1 := Na.out.c1
            have x2 := Na.out.c2
            have y0 := Nb.out.c0
            have y1 := Nb.out.c1
            have y2 := Nb.out.c2
            dsimp only at x0 x1 x2 y0 y1 y2
            dsimp only
            go_wp2_with fail
            refine (with_at ⟨ql, qh, qo⟩ ⟨ol, oh, oo⟩ true _ HC.out.2.2.2.2.2.2.2.2.2.2.2.1).mono ?_
            rintro e k9 ⟨rfl, hb⟩
            clear x0 x1 x2 y0 y1 y2
            replace Hbel := Lib.hid (Hbel.out.trans (hb.mono Hbel.out.size))
            replace Na := Lib.hid (Na.out.ext hb)
            replace Nb := Lib.hid (Nb.out.ext hb)
            clear hb
            have x0 := Na.out.c0
            have x1 := Na.out.c1
            have x2 := Na.out.c2
            have y0 := Nb.out.c0
            have y1 := Nb.out.c1
            have y2 := Nb.out.c2
            dsimp only at x0 x1 x2 y0 y1 y2
            go_wp2_with fail
            refine (sure_any _ (HG.out.below Hbel.out)).mono ?_
            rintro e k10 ⟨rfl, hb⟩
            clear x0 x1 x2 y0 y1 y2
            replace Hbel := Lib.hid (Hbel.out.trans (hb.mono Hbel.out.size))
            replace Na := Lib.hid (Na.out.ext hb)
            replace Nb := Lib.hid (Nb.out.ext hb)
            clear hb
            have x0 := Na.out.c0
            have x1 := Na.out.c1
            have x2 := Na.out.c2
            have y0 := Nb.out.c0
            have y1 := Nb.out.c1
            have y2 := Nb.out.c2
            dsimp only at x0 x1 x2 y0 y1 y2
            go_wp2_with fail
            go_ret
            exact ⟨rfl, Hbel.out⟩
        | false =>
          cases hP : blt key pre with
          | true => as_aux_lemma =>
            have hE : empS ⟨lo, hi, op⟩ = false := by
              cases h : empS ⟨lo, hi, op⟩ with
              | false => rfl
              | true => rw [HEH.out h] at hX; cases hX
            obtain ⟨YV, hY⟩ : ∃ V, hasS ⟨lo2, hi2, op2⟩ key = V := ⟨_, rfl⟩
            have hM : hasS (meetS ⟨lo, hi, op⟩ ⟨lo2, hi2, op2⟩) key = YV := by rw [HM.out, hX, hY]; rfl
            obtain ⟨⟨ml, mh, mo⟩, hme⟩ : ∃ s, meetS ⟨lo, hi, op⟩ ⟨lo2, hi2, op2⟩ = s := ⟨_, rfl⟩
            rw [hme] at hM
            have hL : hasS ⟨lo, hi, op⟩ lo = true := HNE.out hE
            obtain ⟨HV, hH⟩ : ∃ V, begS key pre = V := ⟨_, rfl⟩
            have hHO := HHO.out.trans hH
            obtain ⟨⟨ol, oh, oo⟩, hof⟩ : ∃ s, ofS pre = s := ⟨_, rfl⟩
            rw [hof] at hHO
            obtain ⟨PK, hPK⟩ : ∃ s, pre ++ key = s := ⟨_, rfl⟩
            have hWO := HWO.out
            rw [hPK, hof] at hWO
            have zpk : PK.size ≤ 600 := by rw [← hPK, ByteArray.size_append]; omega
            obtain ⟨⟨ql, qh, qo⟩, hqf⟩ : ∃ s, ofS PK = s := ⟨_, rfl⟩
            rw [hqf] at hWO
            obtain ⟨NV, hN⟩ : ∃ N, nextS key = N := ⟨_, rfl⟩
            have hNL := HNL.out
            have hNN := HNN.out
            rw [hN] at hNL hNN
            have hQ : blt pre NV = false := by rw [hP] at hNN; simpa using hNN
            have HC := Lib.hid (And.intro hX (And.intro hW (And.intro hE (And.intro hY (And.intro hM (And.intro hme (And.intro hL (And.intro hH (And.intro hHO (And.intro hof (And.intro hPK (And.intro hWO (And.intro hqf (And.intro hN (And.intro hNL (And.intro hP hQ))))))))))))))))
            clear hX hW hE hY hM hme hL hH hHO hof hPK hWO hqf hN hNL hP hQ hNN HM HWH HEH HNE HHO HNL HNN HWO
            refine wp_region_gr [(0, true), (2, true), (4, true), (5, true), (1, false), (3, false), (6, false), (7, true), (8, true), (9, true), (10, true), (12, true), (14, true), (15, true), (11, false), (13, false), (16, false), (17, true), (18, true), (19, true), (20, false), (21, true), (22, true), (23, true)] (by kernel_rfl) (by kernel_rfl) (by kernel_rfl) (by kernel_rfl) (fun _ _ _ _ _ h => h) ?_
            replace Hbel := Lib.hid Hbel.out.drew
            replace Na : Hid (SpIn v.drew px SPT ⟨lo, hi, op⟩) := Na.out
            replace Nb : Hid (SpIn v.drew py SPT ⟨lo2, hi2, op2⟩) := Nb.out
            generalize v.drew = g0 at *
            have x0 : ∀ w', Ext g0 w' → w'.cell? ⟨px, 0, none⟩ = some (.string lo) := fun w' h => (Na.out.ext h).c0
            have x1 : ∀ w', Ext g0 w' → w'.cell? ⟨px, 1, none⟩ = some (.string hi) := fun w' h => (Na.out.ext h).c1
            have x2 : ∀ w', Ext g0 w' → w'.cell? ⟨px, 2, none⟩ = some (.bool op) := fun w' h => (Na.out.ext h).c2
            have y0 : ∀ w', Ext g0 w' → w'.cell? ⟨py, 0, none⟩ = some (.string lo2) := fun w' h => (Nb.out.ext h).c0
            have y1 : ∀ w', Ext g0 w' → w'.cell? ⟨py, 1, none⟩ = some (.string hi2) := fun w' h => (Nb.out.ext h).c1
            have y2 : ∀ w', Ext g0 w' → w'.cell? ⟨py, 2, none⟩ = some (.bool op2) := fun w' h => (Nb.out.ext h).c2
            iterate 4 (refine wpGr_read (o := ⟨_, _, _, _, _, _⟩) (v := ?_) rfl (by rfl) ?_ ?_; rotate_left; (intro w' hw'; go_simp; with_reducible rfl); simp only [Act.put, List.setIfInBounds_toArray, List.set_cons_zero, List.set_cons_succ])
            refine wpGr_call (o := ⟨_, _, _, _, _, _⟩) rfl (by rfl) (fun K hK => ?_)
            go_simp
            refine (of_at _ ⟨ol, oh, oo⟩ _ (by omega) HC.out.2.2.2.2.2.2.2.2.2.1).mono ?_
            rintro e g1 ⟨rfl, hb⟩
            refine hK _ _ hb ?_
            clear hK K
            clear x0 x1 x2 y0 y1 y2
            replace Hbel := Lib.hid (Hbel.out.trans (hb.mono Hbel.out.size))
            replace Na := Lib.hid (Na.out.ext hb)
            replace Nb := Lib.hid (Nb.out.ext hb)
            clear hb
            have x0 : ∀ w', Ext g1 w' → w'.cell? ⟨px, 0, none⟩ = some (.string lo) := fun w' h => (Na.out.ext h).c0
            have x1 : ∀ w', Ext g1 w' → w'.cell? ⟨px, 1, none⟩ = some (.string hi) := fun w' h => (Na.out.ext h).c1
            have x2 : ∀ w', Ext g1 w' → w'.cell? ⟨px, 2, none⟩ = some (.bool op) := fun w' h => (Na.out.ext h).c2
            have y0 : ∀ w', Ext g1 w' → w'.cell? ⟨py, 0, none⟩ = some (.string lo2) := fun w' h => (Nb.out.ext h).c0
            have y1 : ∀ w', Ext g1 w' → w'.cell? ⟨py, 1, none⟩ = some (.string hi2) := fun w' h => (Nb.out.ext h).c1
            have y2 : ∀ w', Ext g1 w' → w'.cell? ⟨py, 2, none⟩ = some (.bool op2) := fun w' h => (Nb.out.ext h).c2
            dsimp only
            refine wpGr_call (o := ⟨_, _, _, _, _, _⟩) rfl (by rfl) (fun K hK => ?_)
            go_simp
            refine (has_at _ _ _ _ HV _ HC.out.2.2.2.2.2.2.2.2.1).mono ?_
            rintro e g2 ⟨rfl, hb⟩
            refine hK _ _ hb ?_
            clear hK K
            clear x0 x1 x2 y0 y1 y2
            replace Hbel := Lib.hid (Hbel.out.trans (hb.mono Hbel.out.size))
            replace Na := Lib.hid (Na.out.ext hb)
            replace Nb := Lib.hid (Nb.out.ext hb)
            clear hb
            have x0 : ∀ w', Ext g2 w' → w'.cell? ⟨px, 0, none⟩ = some (.string lo) := fun w' h => (Na.out.ext h).c0
            have x1 : ∀ w', Ext g2 w' → w'.cell? ⟨px, 1, none⟩ = some (.string hi) := fun w' h => (Na.out.ext h).c1
            have x2 : ∀ w', Ext g2 w' → w'.cell? ⟨px, 2, none⟩ = some (.bool op) := fun w' h => (Na.out.ext h).c2
            have y0 : ∀ w', Ext g2 w' → w'.cell? ⟨py, 0, none⟩ = some (.string lo2) := fun w' h => (Nb.out.ext h).c0
            have y1 : ∀ w', Ext g2 w' → w'.cell? ⟨py, 1, none⟩ = some (.string hi2) := fun w' h => (Nb.out.ext h).c1
            have y2 : ∀ w', Ext g2 w' → w'.cell? ⟨py, 2, none⟩ = some (.bool op2) := fun w' h => (Nb.out.ext h).c2
            refine wpGr_call (o := ⟨_, _, _, _, _, _⟩) rfl (by rfl) (fun K hK => ?_)
            go_simp
            refine (begins_at _ _ HV _ HC.out.2.2.2.2.2.2.2.1).mono ?_
            rintro e w' ⟨rfl, rfl⟩
            refine hK _ _ (Ext.refl _) ?_
            clear hK K
            iterate 7 (refine wpGr_read (o := ⟨_, _, _, _, _, _⟩) (v := ?_) rfl (by rfl) ?_ ?_; rotate_left; (intro w' hw'; go_simp; with_reducible rfl); simp only [Act.put, List.setIfInBounds_toArray, List.set_cons_zero, List.set_cons_succ])
            refine wpGr_call (o := ⟨_, _, _, _, _, _⟩) rfl (by rfl) (fun K hK => ?_)
            go_simp
            refine (meet_at ⟨lo, hi, op⟩ ⟨lo2, hi2, op2⟩ ⟨ml, mh, mo⟩ _ HC.out.2.2.2.2.2.1).mono ?_
            rintro e g3 ⟨rfl, hb⟩
            refine hK _ _ hb ?_
            clear hK K
            clear x0 x1 x2 y0 y1 y2
            replace Hbel := Lib.hid (Hbel.out.trans (hb.mono Hbel.out.size))
            replace Na := Lib.hid (Na.out.ext hb)
            replace Nb := Lib.hid (Nb.out.ext hb)
            clear hb
            have x0 : ∀ w', Ext g3 w' → w'.cell? ⟨px, 0, none⟩ = some (.string lo) := fun w' h => (Na.out.ext h).c0
            have x1 : ∀ w', Ext g3 w' → w'.cell? ⟨px, 1, none⟩ = some (.string hi) := fun w' h => (Na.out.ext h).c1
            have x2 : ∀ w', Ext g3 w' → w'.cell? ⟨px, 2, none⟩ = some (.bool op) := fun w' h => (Na.out.ext h).c2
            have y0 : ∀ w', Ext g3 w' → w'.cell? ⟨py, 0, none⟩ = some (.string lo2) := fun w' h => (Nb.out.ext h).c0
            have y1 : ∀ w', Ext g3 w' → w'.cell? ⟨py, 1, none⟩ = some (.string hi2) := fun w' h => (Nb.out.ext h).c1
            have y2 : ∀ w', Ext g3 w' → w'.cell? ⟨py, 2, none⟩ = some (.bool op2) := fun w' h => (Nb.out.ext h).c2
            dsimp only
            refine wpGr_call (o := ⟨_, _, _, _, _, _⟩) rfl (by rfl) (fun K hK => ?_)
            go_simp
            refine (has_at _ _ _ _ YV _ HC.out.2.2.2.2.1).mono ?_
            rintro e g4 ⟨rfl, hb⟩
            refine hK _ _ hb ?_
            clear hK K
            clear x0 x1 x2 y0 y1 y2
            replace Hbel := Lib.hid (Hbel.out.trans (hb.mono Hbel.out.size))
            replace Na := Lib.hid (Na.out.ext hb)
            replace Nb := Lib.hid (Nb.out.ext hb)
            clear hb
            have x0 : ∀ w', Ext g4 w' → w'.cell? ⟨px, 0, none⟩ = some (.string lo) := fun w' h => (Na.out.ext h).c0
            have x1 : ∀ w', Ext g4 w' → w'.cell? ⟨px, 1, none⟩ = some (.string hi) := fun w' h => (Na.out.ext h).c1
            have x2 : ∀ w', Ext g4 w' → w'.cell? ⟨px, 2, none⟩ = some (.bool op) := fun w' h => (Na.out.ext h).c2
            have y0 : ∀ w', Ext g4 w' → w'.cell? ⟨py, 0, none⟩ = some (.string lo2) := fun w' h => (Nb.out.ext h).c0
            have y1 : ∀ w', Ext g4 w' → w'.cell? ⟨py, 1, none⟩ = some (.string hi2) := fun w' h => (Nb.out.ext h).c1
            have y2 : ∀ w', Ext g4 w' → w'.cell? ⟨py, 2, none⟩ = some (.bool op2) := fun w' h => (Nb.out.ext h).c2
            refine wpGr_call (o := ⟨_, _, _, _, _, _⟩) rfl (by rfl) (fun K hK => ?_)
            go_simp
            refine (has_at _ _ _ _ true _ HC.out.1).mono ?_
            rintro e g5 ⟨rfl, hb⟩
            refine hK _ _ hb ?_
            clear hK K
            clear x0 x1 x2 y0 y1 y2
            replace Hbel := Lib.hid (Hbel.out.trans (hb.mono Hbel.out.size))
            replace Na := Lib.hid (Na.out.ext hb)
            replace Nb := Lib.hid (Nb.out.ext hb)
            clear hb
            have x0 : ∀ w', Ext g5 w' → w'.cell? ⟨px, 0, none⟩ = some (.string lo) := fun w' h => (Na.out.ext h).c0
            have x1 : ∀ w', Ext g5 w' → w'.cell? ⟨px, 1, none⟩ = some (.string hi) := fun w' h => (Na.out.ext h).c1
            have x2 : ∀ w', Ext g5 w' → w'.cell? ⟨px, 2, none⟩ = some (.bool op) := fun w' h => (Na.out.ext h).c2
            have y0 : ∀ w', Ext g5 w' → w'.cell? ⟨py, 0, none⟩ = some (.string lo2) := fun w' h => (Nb.out.ext h).c0
            have y1 : ∀ w', Ext g5 w' → w'.cell? ⟨py, 1, none⟩ = some (.string hi2) := fun w' h => (Nb.out.ext h).c1
            have y2 : ∀ w', Ext g5 w' → w'.cell? ⟨py, 2, none⟩ = some (.bool op2) := fun w' h => (Nb.out.ext h).c2
            iterate 1 (refine wpGr_read (o := ⟨_, _, _, _, _, _⟩) (v := ?_) rfl (by rfl) ?_ ?_; rotate_left; (intro w' hw'; go_simp; with_reducible rfl); simp only [Act.put, List.setIfInBounds_toArray, List.set_cons_zero, List.set_cons_succ])
            iterate 2 (refine wpGr_read (o := ⟨_, _, _, _, _, _⟩) (v := ?_) rfl (by rfl) ?_ ?_; rotate_left; (intro w' hw'; go_simp; with_reducible rfl); simp only [Act.put, List.setIfInBounds_toArray, List.set_cons_zero, List.set_cons_succ])
            refine wpGr_call (o := ⟨_, _, _, _, _, _⟩) rfl (by rfl) (fun K hK => ?_)
            go_simp
            refine (has_at _ _ _ _ YV _ HC.out.2.2.2.1).mono ?_
            rintro e g6 ⟨rfl, hb⟩
            refine hK _ _ hb ?_
            clear hK K
            clear x0 x1 x2 y0 y1 y2
            replace Hbel := Lib.hid (Hbel.out.trans (hb.mono Hbel.out.size))
            replace Na := Lib.hid (Na.out.ext hb)
            replace Nb := Lib.hid (Nb.out.ext hb)
            clear hb
            have x0 : ∀ w', Ext g6 w' → w'.cell? ⟨px, 0, none⟩ = some (.string lo) := fun w' h => (Na.out.ext h).c0
            have x1 : ∀ w', Ext g6 w' → w'.cell? ⟨px, 1, none⟩ = some (.string hi) := fun w' h => (Na.out.ext h).c1
            have x2 : ∀ w', Ext g6 w' → w'.cell? ⟨px, 2, none⟩ = some (.bool op) := fun w' h => (Na.out.ext h).c2
            have y0 : ∀ w', Ext g6 w' → w'.cell? ⟨py, 0, none⟩ = some (.string lo2) := fun w' h => (Nb.out.ext h).c0
            have y1 : ∀ w', Ext g6 w' → w'.cell? ⟨py, 1, none⟩ = some (.string hi2) := fun w' h => (Nb.out.ext h).c1
            have y2 : ∀ w', Ext g6 w' → w'.cell? ⟨py, 2, none⟩ = some (.bool op2) := fun w' h => (Nb.out.ext h).c2
            iterate 3 (refine wpGr_read (o := ⟨_, _, _, _, _, _⟩) (v := ?_) rfl (by rfl) ?_ ?_; rotate_left; (intro w' hw'; go_simp; with_reducible rfl); simp only [Act.put, List.setIfInBounds_toArray, List.set_cons_zero, List.set_cons_succ])
            clear x0 x1 x2 y0 y1 y2
            refine wpGr_done ?_
            have x0 := Na.out.c0
            have x1 := Na.out.c1
            have x2 := Na.out.c2
            have y0 := Nb.out.c0
            have y1 := Nb.out.c1
            have y2 := Nb.out.c2
            dsimp only at x0 x1 x2 y0 y1 y2
            go_wp2_with fail
            refine (with_at ⟨lo, hi, op⟩ ⟨lo2, hi2, op2⟩ false _ HC.out.2.1).mono ?_
            rintro e k1 ⟨rfl, hb⟩
            clear x0 x1 x2 y0 y1 y2
            replace Hbel := Lib.hid (Hbel.out.trans (hb.mono Hbel.out.size))
            replace Na := Lib.hid (Na.out.ext hb)
            replace Nb := Lib.hid (Nb.out.ext hb)
            clear hb
            have x0 := Na.out.c0
            have x1 := Na.out.c1
            have x2 := Na.out.c2
            have y0 := Nb.out.c0
            have y1 := Nb.out.c1
            have y2 := Nb.out.c2
            dsimp only at x0 x1 x2 y0 y1 y2
            go_wp2_with fail
            refine (emp_at _ _ _ false _ HC.out.2.2.1).mono ?_
            rintro e k2 ⟨rfl, hb⟩
            clear x0 x1 x2 y0 y1 y2
            replace Hbel := Lib.hid (Hbel.out.trans (hb.mono Hbel.out.size))
            replace Na := Lib.hid (Na.out.ext hb)
            replace Nb := Lib.hid (Nb.out.ext hb)
            clear hb
            have x0 := Na.out.c0
            have x1 := Na.out.c1
            have x2 := Na.out.c2
            have y0 := Nb.out.c0
            have y1 := Nb.out.c1
            have y2 := Nb.out.c2
            dsimp only at x0 x1 x2 y0 y1 y2
            go_wp2_with fail
            refine (emp_at _ _ _ false _ HC.out.2.2.1).mono ?_
            rintro e k3 ⟨rfl, hb⟩
            clear x0 x1 x2 y0 y1 y2
            replace Hbel := Lib.hid (Hbel.out.trans (hb.mono Hbel.out.size))
            replace Na := Lib.hid (Na.out.ext hb)
            replace Nb := Lib.hid (Nb.out.ext hb)
            clear hb
            have x0 := Na.out.c0
            have x1 := Na.out.c1
            have x2 := Na.out.c2
            have y0 := Nb.out.c0
            have y1 := Nb.out.c1
            have y2 := Nb.out.c2
            dsimp only at x0 x1 x2 y0 y1 y2
            go_wp2_with fail
            refine (has_at _ _ _ _ true _ HC.out.2.2.2.2.2.2.1).mono ?_
            rintro e k4 ⟨rfl, hb⟩
            clear x0 x1 x2 y0 y1 y2
            replace Hbel := Lib.hid (Hbel.out.trans (hb.mono Hbel.out.size))
            replace Na := Lib.hid (Na.out.ext hb)
            replace Nb := Lib.hid (Nb.out.ext hb)
            clear hb
            have x0 := Na.out.c0
            have x1 := Na.out.c1
            have x2 := Na.out.c2
            have y0 := Nb.out.c0
            have y1 := Nb.out.c1
            have y2 := Nb.out.c2
            dsimp only at x0 x1 x2 y0 y1 y2
            go_wp2_with fail
            refine (next_at _ NV _ (by omega) HC.out.2.2.2.2.2.2.2.2.2.2.2.2.2.1).mono ?_
            rintro e w' ⟨rfl, rfl⟩
            have l1 := bl_less HC.out.2.2.2.2.2.2.2.2.2.2.2.2.2.2.1
            have l2 := bl_less HC.out.2.2.2.2.2.2.2.2.2.2.2.2.2.2.2.1
            have l3 := bl_less HC.out.2.2.2.2.2.2.2.2.2.2.2.2.2.2.2.2
            have n1 : ¬ (9223372036854775807 < pre.size + key.size) := by omega
            have n2 : pre ++ key = PK := HC.out.2.2.2.2.2.2.2.2.2.2.1
            go_wp2_with fail
            refine (of_at _ ⟨ql, qh, qo⟩ _ (by omega) HC.out.2.2.2.2.2.2.2.2.2.2.2.2.1).mono ?_
            rintro e k5 ⟨rfl, hb⟩
            clear x0 x1 x2 y0 y1 y2
            replace Hbel := Lib.hid (Hbel.out.trans (hb.mono Hbel.out.size))
            replace Na := Lib.hid (Na.out.ext hb)
            replace Nb := Lib.hid (Nb.out.ext hb)
            clear hb
            have x0 := Na.out.c0
            have x1 := Na.out.c1
            have x2 := Na.out.c2
            have y0 := Nb.out.c0
            have y1 := Nb.out.c1
            have y2 := Nb.out.c2
            dsimp only at x0 x1 x2 y0 y1 y2
            dsimp only
            go_wp2_with fail
            refine (of_at _ ⟨ol, oh, oo⟩ _ (by omega) HC.out.2.2.2.2.2.2.2.2.2.1).mono ?_
            rintro e k6 ⟨rfl, hb⟩
            clear x0 x1 x2 y0 y1 y2
            replace Hbel := Lib.hid (Hbel.out.trans (hb.mono Hbel.out.size))
            replace Na := Lib.hid (Na.out.ext hb)
            replace Nb := Lib.hid (Nb.out.ext hb)
            clear hb
            have x0 := Na.out.c0
            have x1 := Na.out.c1
            have x2 := Na.out.c2
            have y0 := Nb.out.c0
            have y1 := Nb.out.c1
            have y2 := Nb.out.c2
            dsimp only at x0 x1 x2 y0 y1 y2
            dsimp only
            go_wp2_with fail
            refine (with_at ⟨ql, qh, qo⟩ ⟨ol, oh, oo⟩ true _ HC.out.2.2.2.2.2.2.2.2.2.2.2.1).mono ?_
            rintro e k7 ⟨rfl, hb⟩
            clear x0 x1 x2 y0 y1 y2
            replace Hbel := Lib.hid (Hbel.out.trans (hb.mono Hbel.out.size))
            replace Na := Lib.hid (Na.out.ext hb)
            replace Nb := Lib.hid (Nb.out.ext hb)
            clear hb
            have x0 := Na.out.c0
            have x1 := Na.out.c1
            have x2 := Na.out.c2
            have y0 := Nb.out.c0
            have y1 := Nb.out.c1
            have y2 := Nb.out.c2
            dsimp only at x0 x1 x2 y0 y1 y2
            go_wp2_with fail
            refine (sure_any _ (HG.out.below Hbel.out)).mono ?_
            rintro e k8 ⟨rfl, hb⟩
            clear x0 x1 x2 y0 y1 y2
            replace Hbel := Lib.hid (Hbel.out.trans (hb.mono Hbel.out.size))
            replace Na := Lib.hid (Na.out.ext hb)
            replace Nb := Lib.hid (Nb.out.ext hb)
            clear hb
            have x0 := Na.out.c0
            have x1 := Na.out.c1
            have x2 := Na.out.c2
            have y0 := Nb.out.c0
            have y1 := Nb.out.c1
            have y2 := Nb.out.c2
            dsimp only at x0 x1 x2 y0 y1 y2
            go_wp2_with fail
            go_ret
            exact ⟨rfl, Hbel.out⟩
          | false => as_aux_lemma =>
            have hE : empS ⟨lo, hi, op⟩ = false := by
              cases h : empS ⟨lo, hi, op⟩ with
              | false => rfl
              | true => rw [HEH.out h] at hX; cases hX
            obtain ⟨YV, hY⟩ : ∃ V, hasS ⟨lo2, hi2, op2⟩ key = V := ⟨_, rfl⟩
            have hM : hasS (meetS ⟨lo, hi, op⟩ ⟨lo2, hi2, op2⟩) key = YV := by rw [HM.out, hX, hY]; rfl
            obtain ⟨⟨ml, mh, mo⟩, hme⟩ : ∃ s, meetS ⟨lo, hi, op⟩ ⟨lo2, hi2, op2⟩ = s := ⟨_, rfl⟩
            rw [hme] at hM
            have hL : hasS ⟨lo, hi, op⟩ lo = true := HNE.out hE
            obtain ⟨HV, hH⟩ : ∃ V, begS key pre = V := ⟨_, rfl⟩
            have hHO := HHO.out.trans hH
            obtain ⟨⟨ol, oh, oo⟩, hof⟩ : ∃ s, ofS pre = s := ⟨_, rfl⟩
            rw [hof] at hHO
            obtain ⟨PK, hPK⟩ : ∃ s, pre ++ key = s := ⟨_, rfl⟩
            have hWO := HWO.out
            rw [hPK, hof] at hWO
            have zpk : PK.size ≤ 600 := by rw [← hPK, ByteArray.size_append]; omega
            obtain ⟨⟨ql, qh, qo⟩, hqf⟩ : ∃ s, ofS PK = s := ⟨_, rfl⟩
            rw [hqf] at hWO
            obtain ⟨NV, hN⟩ : ∃ N, nextS key = N := ⟨_, rfl⟩
            have hNL := HNL.out
            have hNN := HNN.out
            rw [hN] at hNL hNN
            have hQ := hP
            have HC := Lib.hid (And.intro hX (And.intro hW (And.intro hE (And.intro hY (And.intro hM (And.intro hme (And.intro hL (And.intro hH (And.intro hHO (And.intro hof (And.intro hPK (And.intro hWO (And.intro hqf (And.intro hN (And.intro hNL (And.intro hP hQ))))))))))))))))
            clear hX hW hE hY hM hme hL hH hHO hof hPK hWO hqf hN hNL hP hQ hNN HM HWH HEH HNE HHO HNL HNN HWO
            refine wp_region_gr [(0, true), (2, true), (4, true), (5, true), (1, false), (3, false), (6, false), (7, true), (8, true), (9, true), (10, true), (12, true), (14, true), (15, true), (11, false), (13, false), (16, false), (17, true), (18, true), (19, true), (20, false), (21, true), (22, true), (23, true)] (by kernel_rfl) (by kernel_rfl) (by kernel_rfl) (by kernel_rfl) (fun _ _ _ _ _ h => h) ?_
            replace Hbel := Lib.hid Hbel.out.drew
            replace Na : Hid (SpIn v.drew px SPT ⟨lo, hi, op⟩) := Na.out
            replace Nb : Hid (SpIn v.drew py SPT ⟨lo2, hi2, op2⟩) := Nb.out
            generalize v.drew = g0 at *
            have x0 : ∀ w', Ext g0 w' → w'.cell? ⟨px, 0, none⟩ = some (.string lo) := fun w' h => (Na.out.ext h).c0
            have x1 : ∀ w', Ext g0 w' → w'.cell? ⟨px, 1, none⟩ = some (.string hi) := fun w' h => (Na.out.ext h).c1
            have x2 : ∀ w', Ext g0 w' → w'.cell? ⟨px, 2, none⟩ = some (.bool op) := fun w' h => (Na.out.ext h).c2
            have y0 : ∀ w', Ext g0 w' → w'.cell? ⟨py, 0, none⟩ = some (.string lo2) := fun w' h => (Nb.out.ext h).c0
            have y1 : ∀ w', Ext g0 w' → w'.cell? ⟨py, 1, none⟩ = some (.string hi2) := fun w' h => (Nb.out.ext h).c1
            have y2 : ∀ w', Ext g0 w' → w'.cell? ⟨py, 2, none⟩ = some (.bool op2) := fun w' h => (Nb.out.ext h).c2
            iterate 4 (refine wpGr_read (o := ⟨_, _, _, _, _, _⟩) (v := ?_) rfl (by rfl) ?_ ?_; rotate_left; (intro w' hw'; go_simp; with_reducible rfl); simp only [Act.put, List.setIfInBounds_toArray, List.set_cons_zero, List.set_cons_succ])
            refine wpGr_call (o := ⟨_, _, _, _, _, _⟩) rfl (by rfl) (fun K hK => ?_)
            go_simp
            refine (of_at _ ⟨ol, oh, oo⟩ _ (by omega) HC.out.2.2.2.2.2.2.2.2.2.1).mono ?_
            rintro e g1 ⟨rfl, hb⟩
            refine hK _ _ hb ?_
            clear hK K
            clear x0 x1 x2 y0 y1 y2
            replace Hbel := Lib.hid (Hbel.out.trans (hb.mono Hbel.out.size))
            replace Na := Lib.hid (Na.out.ext hb)
            replace Nb := Lib.hid (Nb.out.ext hb)
            clear hb
            have x0 : ∀ w', Ext g1 w' → w'.cell? ⟨px, 0, none⟩ = some (.string lo) := fun w' h => (Na.out.ext h).c0
            have x1 : ∀ w', Ext g1 w' → w'.cell? ⟨px, 1, none⟩ = some (.string hi) := fun w' h => (Na.out.ext h).c1
            have x2 : ∀ w', Ext g1 w' → w'.cell? ⟨px, 2, none⟩ = some (.bool op) := fun w' h => (Na.out.ext h).c2
            have y0 : ∀ w', Ext g1 w' → w'.cell? ⟨py, 0, none⟩ = some (.string lo2) := fun w' h => (Nb.out.ext h).c0
            have y1 : ∀ w', Ext g1 w' → w'.cell? ⟨py, 1, none⟩ = some (.string hi2) := fun w' h => (Nb.out.ext h).c1
            have y2 : ∀ w', Ext g1 w' → w'.cell? ⟨py, 2, none⟩ = some (.bool op2) := fun w' h => (Nb.out.ext h).c2
            dsimp only
            refine wpGr_call (o := ⟨_, _, _, _, _, _⟩) rfl (by rfl) (fun K hK => ?_)
            go_simp
            refine (has_at _ _ _ _ HV _ HC.out.2.2.2.2.2.2.2.2.1).mono ?_
            rintro e g2 ⟨rfl, hb⟩
            refine hK _ _ hb ?_
            clear hK K
            clear x0 x1 x2 y0 y1 y2
            replace Hbel := Lib.hid (Hbel.out.trans (hb.mono Hbel.out.size))
            replace Na := Lib.hid (Na.out.ext hb)
            replace Nb := Lib.hid (Nb.out.ext hb)
            clear hb
            have x0 : ∀ w', Ext g2 w' → w'.cell? ⟨px, 0, none⟩ = some (.string lo) := fun w' h => (Na.out.ext h).c0
            have x1 : ∀ w', Ext g2 w' → w'.cell? ⟨px, 1, none⟩ = some (.string hi) := fun w' h => (Na.out.ext h).c1
            have x2 : ∀ w', Ext g2 w' → w'.cell? ⟨px, 2, none⟩ = some (.bool op) := fun w' h => (Na.out.ext h).c2
            have y0 : ∀ w', Ext g2 w' → w'.cell? ⟨py, 0, none⟩ = some (.string lo2) := fun w' h => (Nb.out.ext h).c0
            have y1 : ∀ w', Ext g2 w' → w'.cell? ⟨py, 1, none⟩ = some (.string hi2) := fun w' h => (Nb.out.ext h).c1
            have y2 : ∀ w', Ext g2 w' → w'.cell? ⟨py, 2, none⟩ = some (.bool op2) := fun w' h => (Nb.out.ext h).c2
            refine wpGr_call (o := ⟨_, _, _, _, _, _⟩) rfl (by rfl) (fun K hK => ?_)
            go_simp
            refine (begins_at _ _ HV _ HC.out.2.2.2.2.2.2.2.1).mono ?_
            rintro e w' ⟨rfl, rfl⟩
            refine hK _ _ (Ext.refl _) ?_
            clear hK K
            iterate 7 (refine wpGr_read (o := ⟨_, _, _, _, _, _⟩) (v := ?_) rfl (by rfl) ?_ ?_; rotate_left; (intro w' hw'; go_simp; with_reducible rfl); simp only [Act.put, List.setIfInBounds_toArray, List.set_cons_zero, List.set_cons_succ])
            refine wpGr_call (o := ⟨_, _, _, _, _, _⟩) rfl (by rfl) (fun K hK => ?_)
            go_simp
            refine (meet_at ⟨lo, hi, op⟩ ⟨lo2, hi2, op2⟩ ⟨ml, mh, mo⟩ _ HC.out.2.2.2.2.2.1).mono ?_
            rintro e g3 ⟨rfl, hb⟩
            refine hK _ _ hb ?_
            clear hK K
            clear x0 x1 x2 y0 y1 y2
            replace Hbel := Lib.hid (Hbel.out.trans (hb.mono Hbel.out.size))
            replace Na := Lib.hid (Na.out.ext hb)
            replace Nb := Lib.hid (Nb.out.ext hb)
            clear hb
            have x0 : ∀ w', Ext g3 w' → w'.cell? ⟨px, 0, none⟩ = some (.string lo) := fun w' h => (Na.out.ext h).c0
            have x1 : ∀ w', Ext g3 w' → w'.cell? ⟨px, 1, none⟩ = some (.string hi) := fun w' h => (Na.out.ext h).c1
            have x2 : ∀ w', Ext g3 w' → w'.cell? ⟨px, 2, none⟩ = some (.bool op) := fun w' h => (Na.out.ext h).c2
            have y0 : ∀ w', Ext g3 w' → w'.cell? ⟨py, 0, none⟩ = some (.string lo2) := fun w' h => (Nb.out.ext h).c0
            have y1 : ∀ w', Ext g3 w' → w'.cell? ⟨py, 1, none⟩ = some (.string hi2) := fun w' h => (Nb.out.ext h).c1
            have y2 : ∀ w', Ext g3 w' → w'.cell? ⟨py, 2, none⟩ = some (.bool op2) := fun w' h => (Nb.out.ext h).c2
            dsimp only
            refine wpGr_call (o := ⟨_, _, _, _, _, _⟩) rfl (by rfl) (fun K hK => ?_)
            go_simp
            refine (has_at _ _ _ _ YV _ HC.out.2.2.2.2.1).mono ?_
            rintro e g4 ⟨rfl, hb⟩
            refine hK _ _ hb ?_
            clear hK K
            clear x0 x1 x2 y0 y1 y2
            replace Hbel := Lib.hid (Hbel.out.trans (hb.mono Hbel.out.size))
            replace Na := Lib.hid (Na.out.ext hb)
            replace Nb := Lib.hid (Nb.out.ext hb)
            clear hb
            have x0 : ∀ w', Ext g4 w' → w'.cell? ⟨px, 0, none⟩ = some (.string lo) := fun w' h => (Na.out.ext h).c0
            have x1 : ∀ w', Ext g4 w' → w'.cell? ⟨px, 1, none⟩ = some (.string hi) := fun w' h => (Na.out.ext h).c1
            have x2 : ∀ w', Ext g4 w' → w'.cell? ⟨px, 2, none⟩ = some (.bool op) := fun w' h => (Na.out.ext h).c2
            have y0 : ∀ w', Ext g4 w' → w'.cell? ⟨py, 0, none⟩ = some (.string lo2) := fun w' h => (Nb.out.ext h).c0
            have y1 : ∀ w', Ext g4 w' → w'.cell? ⟨py, 1, none⟩ = some (.string hi2) := fun w' h => (Nb.out.ext h).c1
            have y2 : ∀ w', Ext g4 w' → w'.cell? ⟨py, 2, none⟩ = some (.bool op2) := fun w' h => (Nb.out.ext h).c2
            refine wpGr_call (o := ⟨_, _, _, _, _, _⟩) rfl (by rfl) (fun K hK => ?_)
            go_simp
            refine (has_at _ _ _ _ true _ HC.out.1).mono ?_
            rintro e g5 ⟨rfl, hb⟩
            refine hK _ _ hb ?_
            clear hK K
            clear x0 x1 x2 y0 y1 y2
            replace Hbel := Lib.hid (Hbel.out.trans (hb.mono Hbel.out.size))
            replace Na := Lib.hid (Na.out.ext hb)
            replace Nb := Lib.hid (Nb.out.ext hb)
            clear hb
            have x0 : ∀ w', Ext g5 w' → w'.cell? ⟨px, 0, none⟩ = some (.string lo) := fun w' h => (Na.out.ext h).c0
            have x1 : ∀ w', Ext g5 w' → w'.cell? ⟨px, 1, none⟩ = some (.string hi) := fun w' h => (Na.out.ext h).c1
            have x2 : ∀ w', Ext g5 w' → w'.cell? ⟨px, 2, none⟩ = some (.bool op) := fun w' h => (Na.out.ext h).c2
            have y0 : ∀ w', Ext g5 w' → w'.cell? ⟨py, 0, none⟩ = some (.string lo2) := fun w' h => (Nb.out.ext h).c0
            have y1 : ∀ w', Ext g5 w' → w'.cell? ⟨py, 1, none⟩ = some (.string hi2) := fun w' h => (Nb.out.ext h).c1
            have y2 : ∀ w', Ext g5 w' → w'.cell? ⟨py, 2, none⟩ = some (.bool op2) := fun w' h => (Nb.out.ext h).c2
            iterate 1 (refine wpGr_read (o := ⟨_, _, _, _, _, _⟩) (v := ?_) rfl (by rfl) ?_ ?_; rotate_left; (intro w' hw'; go_simp; with_reducible rfl); simp only [Act.put, List.setIfInBounds_toArray, List.set_cons_zero, List.set_cons_succ])
            iterate 2 (refine wpGr_read (o := ⟨_, _, _, _, _, _⟩) (v := ?_) rfl (by rfl) ?_ ?_; rotate_left; (intro w' hw'; go_simp; with_reducible rfl); simp only [Act.put, List.setIfInBounds_toArray, List.set_cons_zero, List.set_cons_succ])
            refine wpGr_call (o := ⟨_, _, _, _, _, _⟩) rfl (by rfl) (fun K hK => ?_)
            go_simp
            refine (has_at _ _ _ _ YV _ HC.out.2.2.2.1).mono ?_
            rintro e g6 ⟨rfl, hb⟩
            refine hK _ _ hb ?_
            clear hK K
            clear x0 x1 x2 y0 y1 y2
            replace Hbel := Lib.hid (Hbel.out.trans (hb.mono Hbel.out.size))
            replace Na := Lib.hid (Na.out.ext hb)
            replace Nb := Lib.hid (Nb.out.ext hb)
            clear hb
            have x0 : ∀ w', Ext g6 w' → w'.cell? ⟨px, 0, none⟩ = some (.string lo) := fun w' h => (Na.out.ext h).c0
            have x1 : ∀ w', Ext g6 w' → w'.cell? ⟨px, 1, none⟩ = some (.string hi) := fun w' h => (Na.out.ext h).c1
            have x2 : ∀ w', Ext g6 w' → w'.cell? ⟨px, 2, none⟩ = some (.bool op) := fun w' h => (Na.out.ext h).c2
            have y0 : ∀ w', Ext g6 w' → w'.cell? ⟨py, 0, none⟩ = some (.string lo2) := fun w' h => (Nb.out.ext h).c0
            have y1 : ∀ w', Ext g6 w' → w'.cell? ⟨py, 1, none⟩ = some (.string hi2) := fun w' h => (Nb.out.ext h).c1
            have y2 : ∀ w', Ext g6 w' → w'.cell? ⟨py, 2, none⟩ = some (.bool op2) := fun w' h => (Nb.out.ext h).c2
            iterate 3 (refine wpGr_read (o := ⟨_, _, _, _, _, _⟩) (v := ?_) rfl (by rfl) ?_ ?_; rotate_left; (intro w' hw'; go_simp; with_reducible rfl); simp only [Act.put, List.setIfInBounds_toArray, List.set_cons_zero, List.set_cons_succ])
            clear x0 x1 x2 y0 y1 y2
            refine wpGr_done ?_
            have x0 := Na.out.c0
            have x1 := Na.out.c1
            have x2 := Na.out.c2
            have y0 := Nb.out.c0
            have y1 := Nb.out.c1
            have y2 := Nb.out.c2
            dsimp only at x0 x1 x2 y0 y1 y2
            go_wp2_with fail
            refine (with_at ⟨lo, hi, op⟩ ⟨lo2, hi2, op2⟩ false _ HC.out.2.1).mono ?_
            rintro e k1 ⟨rfl, hb⟩
            clear x0 x1 x2 y0 y1 y2
            replace Hbel := Lib.hid (Hbel.out.trans (hb.mono Hbel.out.size))
            replace Na := Lib.hid (Na.out.ext hb)
            replace Nb := Lib.hid (Nb.out.ext hb)
            clear hb
            have x0 := Na.out.c0
            have x1 := Na.out.c1
            have x2 := Na.out.c2
            have y0 := Nb.out.c0
            have y1 := Nb.out.c1
            have y2 := Nb.out.c2
            dsimp only at x0 x1 x2 y0 y1 y2
            go_wp2_with fail
            refine (emp_at _ _ _ false _ HC.out.2.2.1).mono ?_
            rintro e k2 ⟨rfl, hb⟩
            clear x0 x1 x2 y0 y1 y2
            replace Hbel := Lib.hid (Hbel.out.trans (hb.mono Hbel.out.size))
            replace Na := Lib.hid (Na.out.ext hb)
            replace Nb := Lib.hid (Nb.out.ext hb)
            clear hb
            have x0 := Na.out.c0
            have x1 := Na.out.c1
            have x2 := Na.out.c2
            have y0 := Nb.out.c0
            have y1 := Nb.out.c1
            have y2 := Nb.out.c2
            dsimp only at x0 x1 x2 y0 y1 y2
            go_wp2_with fail
            refine (emp_at _ _ _ false _ HC.out.2.2.1).mono ?_
            rintro e k3 ⟨rfl, hb⟩
            clear x0 x1 x2 y0 y1 y2
            replace Hbel := Lib.hid (Hbel.out.trans (hb.mono Hbel.out.size))
            replace Na := Lib.hid (Na.out.ext hb)
            replace Nb := Lib.hid (Nb.out.ext hb)
            clear hb
            have x0 := Na.out.c0
            have x1 := Na.out.c1
            have x2 := Na.out.c2
            have y0 := Nb.out.c0
            have y1 := Nb.out.c1
            have y2 := Nb.out.c2
            dsimp only at x0 x1 x2 y0 y1 y2
            go_wp2_with fail
            refine (has_at _ _ _ _ true _ HC.out.2.2.2.2.2.2.1).mono ?_
            rintro e k4 ⟨rfl, hb⟩
            clear x0 x1 x2 y0 y1 y2
            replace Hbel := Lib.hid (Hbel.out.trans (hb.mono Hbel.out.size))
            replace Na := Lib.hid (Na.out.ext hb)
            replace Nb := Lib.hid (Nb.out.ext hb)
            clear hb
            have x0 := Na.out.c0
            have x1 := Na.out.c1
            have x2 := Na.out.c2
            have y0 := Nb.out.c0
            have y1 := Nb.out.c1
            have y2 := Nb.out.c2
            dsimp only at x0 x1 x2 y0 y1 y2
            go_wp2_with fail
            refine (next_at _ NV _ (by omega) HC.out.2.2.2.2.2.2.2.2.2.2.2.2.2.1).mono ?_
            rintro e w' ⟨rfl, rfl⟩
            have l1 := bl_less HC.out.2.2.2.2.2.2.2.2.2.2.2.2.2.2.1
            have l2 := bl_less HC.out.2.2.2.2.2.2.2.2.2.2.2.2.2.2.2.1
            have n1 : ¬ (9223372036854775807 < pre.size + key.size) := by omega
            have n2 : pre ++ key = PK := HC.out.2.2.2.2.2.2.2.2.2.2.1
            go_wp2_with fail
            refine (of_at _ ⟨ql, qh, qo⟩ _ (by omega) HC.out.2.2.2.2.2.2.2.2.2.2.2.2.1).mono ?_
            rintro e k5 ⟨rfl, hb⟩
            clear x0 x1 x2 y0 y1 y2
            replace Hbel := Lib.hid (Hbel.out.trans (hb.mono Hbel.out.size))
            replace Na := Lib.hid (Na.out.ext hb)
            replace Nb := Lib.hid (Nb.out.ext hb)
            clear hb
            have x0 := Na.out.c0
            have x1 := Na.out.c1
            have x2 := Na.out.c2
            have y0 := Nb.out.c0
            have y1 := Nb.out.c1
            have y2 := Nb.out.c2
            dsimp only at x0 x1 x2 y0 y1 y2
            dsimp only
            go_wp2_with fail
            refine (of_at _ ⟨ol, oh, oo⟩ _ (by omega) HC.out.2.2.2.2.2.2.2.2.2.1).mono ?_
            rintro e k6 ⟨rfl, hb⟩
            clear x0 x1 x2 y0 y1 y2
            replace Hbel := Lib.hid (Hbel.out.trans (hb.mono Hbel.out.size))
            replace Na := Lib.hid (Na.out.ext hb)
            replace Nb := Lib.hid (Nb.out.ext hb)
            clear hb
            have x0 := Na.out.c0
            have x1 := Na.out.c1
            have x2 := Na.out.c2
            have y0 := Nb.out.c0
            have y1 := Nb.out.c1
            have y2 := Nb.out.c2
            dsimp only at x0 x1 x2 y0 y1 y2
            dsimp only
            go_wp2_with fail
            refine (with_at ⟨ql, qh, qo⟩ ⟨ol, oh, oo⟩ true _ HC.out.2.2.2.2.2.2.2.2.2.2.2.1).mono ?_
            rintro e k7 ⟨rfl, hb⟩
            clear x0 x1 x2 y0 y1 y2
            replace Hbel := Lib.hid (Hbel.out.trans (hb.mono Hbel.out.size))
            replace Na := Lib.hid (Na.out.ext hb)
            replace Nb := Lib.hid (Nb.out.ext hb)
            clear hb
            have x0 := Na.out.c0
            have x1 := Na.out.c1
            have x2 := Na.out.c2
            have y0 := Nb.out.c0
            have y1 := Nb.out.c1
            have y2 := Nb.out.c2
            dsimp only at x0 x1 x2 y0 y1 y2
            go_wp2_with fail
            refine (sure_any _ (HG.out.below Hbel.out)).mono ?_
            rintro e k8 ⟨rfl, hb⟩
            clear x0 x1 x2 y0 y1 y2
            replace Hbel := Lib.hid (Hbel.out.trans (hb.mono Hbel.out.size))
            replace Na := Lib.hid (Na.out.ext hb)
            replace Nb := Lib.hid (Nb.out.ext hb)
            clear hb
            have x0 := Na.out.c0
            have x1 := Na.out.c1
            have x2 := Na.out.c2
            have y0 := Nb.out.c0
            have y1 := Nb.out.c1
            have y2 := Nb.out.c2
            dsimp only at x0 x1 x2 y0 y1 y2
            go_wp2_with fail
            go_ret
            exact ⟨rfl, Hbel.out⟩
      | false =>
        cases hE : empS ⟨lo, hi, op⟩ with
        | true =>
          cases hW : withS ⟨lo, hi, op⟩ ⟨lo2, hi2, op2⟩ with
          | true =>
            cases hP : blt key pre with
            | true => as_aux_lemma =>
              have hM : hasS (meetS ⟨lo, hi, op⟩ ⟨lo2, hi2, op2⟩) key = false := by rw [HM.out, hX]; rfl
              have hY := hX
              obtain ⟨⟨ml, mh, mo⟩, hme⟩ : ∃ s, meetS ⟨lo, hi, op⟩ ⟨lo2, hi2, op2⟩ = s := ⟨_, rfl⟩
              rw [hme] at hM
              have hL := hX
              obtain ⟨HV, hH⟩ : ∃ V, begS key pre = V := ⟨_, rfl⟩
              have hHO := HHO.out.trans hH
              obtain ⟨⟨ol, oh, oo⟩, hof⟩ : ∃ s, ofS pre = s := ⟨_, rfl⟩
              rw [hof] at hHO
              obtain ⟨PK, hPK⟩ : ∃ s, pre ++ key = s := ⟨_, rfl⟩
              have hWO := HWO.out
              rw [hPK, hof] at hWO
              have zpk : PK.size ≤ 600 := by rw [← hPK, ByteArray.size_append]; omega
              obtain ⟨⟨ql, qh, qo⟩, hqf⟩ : ∃ s, ofS PK = s := ⟨_, rfl⟩
              rw [hqf] at hWO
              obtain ⟨NV, hN⟩ : ∃ N, nextS key = N := ⟨_, rfl⟩
              have hNL := HNL.out
              have hNN := HNN.out
              rw [hN] at hNL hNN
              have hQ : blt pre NV = false := by rw [hP] at hNN; simpa using hNN
              have HC := Lib.hid (And.intro hX (And.intro hW (And.intro hE (And.intro hY (And.intro hM (And.intro hme (And.intro hL (And.intro hH (And.intro hHO (And.intro hof (And.intro hPK (And.intro hWO (And.intro hqf (And.intro hN (And.intro hNL (And.intro hP hQ))))))))))))))))
              clear hX hW hE hY hM hme hL hH hHO hof hPK hWO hqf hN hNL hP hQ hNN HM HWH HEH HNE HHO HNL HNN HWO
              refine wp_region_gr [(0, true), (2, true), (4, true), (5, true), (1, false), (3, false), (6, false), (7, true), (8, true), (9, true), (10, true), (12, true), (14, true), (15, true), (11, false), (13, false), (16, false), (17, true), (18, true), (19, true), (20, false), (21, true), (22, true), (23, true)] (by kernel_rfl) (by kernel_rfl) (by kernel_rfl) (by kernel_rfl) (fun _ _ _ _ _ h => h) ?_
              replace Hbel := Lib.hid Hbel.out.drew
              replace Na : Hid (SpIn v.drew px SPT ⟨lo, hi, op⟩) := Na.out
              replace Nb : Hid (SpIn v.drew py SPT ⟨lo2, hi2, op2⟩) := Nb.out
              generalize v.drew = g0 at *
              have x0 : ∀ w', Ext g0 w' → w'.cell? ⟨px, 0, none⟩ = some (.string lo) := fun w' h => (Na.out.ext h).c0
              have x1 : ∀ w', Ext g0 w' → w'.cell? ⟨px, 1, none⟩ = some (.string hi) := fun w' h => (Na.out.ext h).c1
              have x2 : ∀ w', Ext g0 w' → w'.cell? ⟨px, 2, none⟩ = some (.bool op) := fun w' h => (Na.out.ext h).c2
              have y0 : ∀ w', Ext g0 w' → w'.cell? ⟨py, 0, none⟩ = some (.string lo2) := fun w' h => (Nb.out.ext h).c0
              have y1 : ∀ w', Ext g0 w' → w'.cell? ⟨py, 1, none⟩ = some (.string hi2) := fun w' h => (Nb.out.ext h).c1
              have y2 : ∀ w', Ext g0 w' → w'.cell? ⟨py, 2, none⟩ = some (.bool op2) := fun w' h => (Nb.out.ext h).c2
              iterate 4 (refine wpGr_read (o := ⟨_, _, _, _, _, _⟩) (v := ?_) rfl (by rfl) ?_ ?_; rotate_left; (intro w' hw'; go_simp; with_reducible rfl); simp only [Act.put, List.setIfInBounds_toArray, List.set_cons_zero, List.set_cons_succ])
              refine wpGr_call (o := ⟨_, _, _, _, _, _⟩) rfl (by rfl) (fun K hK => ?_)
              go_simp
              refine (of_at _ ⟨ol, oh, oo⟩ _ (by omega) HC.out.2.2.2.2.2.2.2.2.2.1).mono ?_
              rintro e g1 ⟨rfl, hb⟩
              refine hK _ _ hb ?_
              clear hK K
              clear x0 x1 x2 y0 y1 y2
              replace Hbel := Lib.hid (Hbel.out.trans (hb.mono Hbel.out.size))
              replace Na := Lib.hid (Na.out.ext hb)
              replace Nb := Lib.hid (Nb.out.ext hb)
              clear hb
              have x0 : ∀ w', Ext g1 w' → w'.cell? ⟨px, 0, none⟩ = some (.string lo) := fun w' h => (Na.out.ext h).c0
              have x1 : ∀ w', Ext g1 w' → w'.cell? ⟨px, 1, none⟩ = some (.string hi) := fun w' h => (Na.out.ext h).c1
              have x2 : ∀ w', Ext g1 w' → w'.cell? ⟨px, 2, none⟩ = some (.bool op) := fun w' h => (Na.out.ext h).c2
              have y0 : ∀ w', Ext g1 w' → w'.cell? ⟨py, 0, none⟩ = some (.string lo2) := fun w' h => (Nb.out.ext h).c0
              have y1 : ∀ w', Ext g1 w' → w'.cell? ⟨py, 1, none⟩ = some (.string hi2) := fun w' h => (Nb.out.ext h).c1
              have y2 : ∀ w', Ext g1 w' → w'.cell? ⟨py, 2, none⟩ = some (.bool op2) := fun w' h => (Nb.out.ext h).c2
              dsimp only
              refine wpGr_call (o := ⟨_, _, _, _, _, _⟩) rfl (by rfl) (fun K hK => ?_)
              go_simp
              refine (has_at _ _ _ _ HV _ HC.out.2.2.2.2.2.2.2.2.1).mono ?_
              rintro e g2 ⟨rfl, hb⟩
              refine hK _ _ hb ?_
              clear hK K
              clear x0 x1 x2 y0 y1 y2
              replace Hbel := Lib.hid (Hbel.out.trans (hb.mono Hbel.out.size))
              replace Na := Lib.hid (Na.out.ext hb)
              replace Nb := Lib.hid (Nb.out.ext hb)
              clear hb
              have x0 : ∀ w', Ext g2 w' → w'.cell? ⟨px, 0, none⟩ = some (.string lo) := fun w' h => (Na.out.ext h).c0
              have x1 : ∀ w', Ext g2 w' → w'.cell? ⟨px, 1, none⟩ = some (.string hi) := fun w' h => (Na.out.ext h).c1
              have x2 : ∀ w', Ext g2 w' → w'.cell? ⟨px, 2, none⟩ = some (.bool op) := fun w' h => (Na.out.ext h).c2
              have y0 : ∀ w', Ext g2 w' → w'.cell? ⟨py, 0, none⟩ = some (.string lo2) := fun w' h => (Nb.out.ext h).c0
              have y1 : ∀ w', Ext g2 w' → w'.cell? ⟨py, 1, none⟩ = some (.string hi2) := fun w' h => (Nb.out.ext h).c1
              have y2 : ∀ w', Ext g2 w' → w'.cell? ⟨py, 2, none⟩ = some (.bool op2) := fun w' h => (Nb.out.ext h).c2
              refine wpGr_call (o := ⟨_, _, _, _, _, _⟩) rfl (by rfl) (fun K hK => ?_)
              go_simp
              refine (begins_at _ _ HV _ HC.out.2.2.2.2.2.2.2.1).mono ?_
              rintro e w' ⟨rfl, rfl⟩
              refine hK _ _ (Ext.refl _) ?_
              clear hK K
              iterate 7 (refine wpGr_read (o := ⟨_, _, _, _, _, _⟩) (v := ?_) rfl (by rfl) ?_ ?_; rotate_left; (intro w' hw'; go_simp; with_reducible rfl); simp only [Act.put, List.setIfInBounds_toArray, List.set_cons_zero, List.set_cons_succ])
              refine wpGr_call (o := ⟨_, _, _, _, _, _⟩) rfl (by rfl) (fun K hK => ?_)
              go_simp
              refine (meet_at ⟨lo, hi, op⟩ ⟨lo2, hi2, op2⟩ ⟨ml, mh, mo⟩ _ HC.out.2.2.2.2.2.1).mono ?_
              rintro e g3 ⟨rfl, hb⟩
              refine hK _ _ hb ?_
              clear hK K
              clear x0 x1 x2 y0 y1 y2
              replace Hbel := Lib.hid (Hbel.out.trans (hb.mono Hbel.out.size))
              replace Na := Lib.hid (Na.out.ext hb)
              replace Nb := Lib.hid (Nb.out.ext hb)
              clear hb
              have x0 : ∀ w', Ext g3 w' → w'.cell? ⟨px, 0, none⟩ = some (.string lo) := fun w' h => (Na.out.ext h).c0
              have x1 : ∀ w', Ext g3 w' → w'.cell? ⟨px, 1, none⟩ = some (.string hi) := fun w' h => (Na.out.ext h).c1
              have x2 : ∀ w', Ext g3 w' → w'.cell? ⟨px, 2, none⟩ = some (.bool op) := fun w' h => (Na.out.ext h).c2
              have y0 : ∀ w', Ext g3 w' → w'.cell? ⟨py, 0, none⟩ = some (.string lo2) := fun w' h => (Nb.out.ext h).c0
              have y1 : ∀ w', Ext g3 w' → w'.cell? ⟨py, 1, none⟩ = some (.string hi2) := fun w' h => (Nb.out.ext h).c1
              have y2 : ∀ w', Ext g3 w' → w'.cell? ⟨py, 2, none⟩ = some (.bool op2) := fun w' h => (Nb.out.ext h).c2
              dsimp only
              refine wpGr_call (o := ⟨_, _, _, _, _, _⟩) rfl (by rfl) (fun K hK => ?_)
              go_simp
              refine (has_at _ _ _ _ false _ HC.out.2.2.2.2.1).mono ?_
              rintro e g4 ⟨rfl, hb⟩
              refine hK _ _ hb ?_
              clear hK K
              clear x0 x1 x2 y0 y1 y2
              replace Hbel := Lib.hid (Hbel.out.trans (hb.mono Hbel.out.size))
              replace Na := Lib.hid (Na.out.ext hb)
              replace Nb := Lib.hid (Nb.out.ext hb)
              clear hb
              have x0 : ∀ w', Ext g4 w' → w'.cell? ⟨px, 0, none⟩ = some (.string lo) := fun w' h => (Na.out.ext h).c0
              have x1 : ∀ w', Ext g4 w' → w'.cell? ⟨px, 1, none⟩ = some (.string hi) := fun w' h => (Na.out.ext h).c1
              have x2 : ∀ w', Ext g4 w' → w'.cell? ⟨px, 2, none⟩ = some (.bool op) := fun w' h => (Na.out.ext h).c2
              have y0 : ∀ w', Ext g4 w' → w'.cell? ⟨py, 0, none⟩ = some (.string lo2) := fun w' h => (Nb.out.ext h).c0
              have y1 : ∀ w', Ext g4 w' → w'.cell? ⟨py, 1, none⟩ = some (.string hi2) := fun w' h => (Nb.out.ext h).c1
              have y2 : ∀ w', Ext g4 w' → w'.cell? ⟨py, 2, none⟩ = some (.bool op2) := fun w' h => (Nb.out.ext h).c2
              refine wpGr_call (o := ⟨_, _, _, _, _, _⟩) rfl (by rfl) (fun K hK => ?_)
              go_simp
              refine (has_at _ _ _ _ false _ HC.out.1).mono ?_
              rintro e g5 ⟨rfl, hb⟩
              refine hK _ _ hb ?_
              clear hK K
              clear x0 x1 x2 y0 y1 y2
              replace Hbel := Lib.hid (Hbel.out.trans (hb.mono Hbel.out.size))
              replace Na := Lib.hid (Na.out.ext hb)
              replace Nb := Lib.hid (Nb.out.ext hb)
              clear hb
              have x0 : ∀ w', Ext g5 w' → w'.cell? ⟨px, 0, none⟩ = some (.string lo) := fun w' h => (Na.out.ext h).c0
              have x1 : ∀ w', Ext g5 w' → w'.cell? ⟨px, 1, none⟩ = some (.string hi) := fun w' h => (Na.out.ext h).c1
              have x2 : ∀ w', Ext g5 w' → w'.cell? ⟨px, 2, none⟩ = some (.bool op) := fun w' h => (Na.out.ext h).c2
              have y0 : ∀ w', Ext g5 w' → w'.cell? ⟨py, 0, none⟩ = some (.string lo2) := fun w' h => (Nb.out.ext h).c0
              have y1 : ∀ w', Ext g5 w' → w'.cell? ⟨py, 1, none⟩ = some (.string hi2) := fun w' h => (Nb.out.ext h).c1
              have y2 : ∀ w', Ext g5 w' → w'.cell? ⟨py, 2, none⟩ = some (.bool op2) := fun w' h => (Nb.out.ext h).c2
              iterate 1 (refine wpGr_read (o := ⟨_, _, _, _, _, _⟩) (v := ?_) rfl (by rfl) ?_ ?_; rotate_left; (intro w' hw'; go_simp; with_reducible rfl); simp only [Act.put, List.setIfInBounds_toArray, List.set_cons_zero, List.set_cons_succ])
              iterate 2 (refine wpGr_skip (o := ⟨_, _, _, _, _, _⟩) rfl (by rfl) ?_; simp only [Act.put, List.setIfInBounds_toArray, List.set_cons_zero, List.set_cons_succ])
              refine wpGr_skipCall (o := ⟨_, _, _, _, _, _⟩) rfl (by rfl) ?_
              simp only [Act.put, List.setIfInBounds_toArray, List.set_cons_zero, List.set_cons_succ]
              iterate 3 (refine wpGr_read (o := ⟨_, _, _, _, _, _⟩) (v := ?_) rfl (by rfl) ?_ ?_; rotate_left; (intro w' hw'; go_simp; with_reducible rfl); simp only [Act.put, List.setIfInBounds_toArray, List.set_cons_zero, List.set_cons_succ])
              clear x0 x1 x2 y0 y1 y2
              refine wpGr_done ?_
              have x0 := Na.out.c0
              have x1 := Na.out.c1
              have x2 := Na.out.c2
              have y0 := Nb.out.c0
              have y1 := Nb.out.c1
              have y2 := Nb.out.c2
              dsimp only at x0 x1 x2 y0 y1 y2
              go_wp2_with fail
              refine (with_at ⟨lo, hi, op⟩ ⟨lo2, hi2, op2⟩ true _ HC.out.2.1).mono ?_
              rintro e k1 ⟨rfl, hb⟩
              clear x0 x1 x2 y0 y1 y2
              replace Hbel := Lib.hid (Hbel.out.trans (hb.mono Hbel.out.size))
              replace Na := Lib.hid (Na.out.ext hb)
              replace Nb := Lib.hid (Nb.out.ext hb)
              clear hb
              have x0 := Na.out.c0
              have x1 := Na.out.c1
              have x2 := Na.out.c2
              have y0 := Nb.out.c0
              have y1 := Nb.out.c1
              have y2 := Nb.out.c2
              dsimp only at x0 x1 x2 y0 y1 y2
              go_wp2_with fail
              refine (has_at _ _ _ _ false _ HC.out.1).mono ?_
              rintro e k2 ⟨rfl, hb⟩
              clear x0 x1 x2 y0 y1 y2
              replace Hbel := Lib.hid (Hbel.out.trans (hb.mono Hbel.out.size))
              replace Na := Lib.hid (Na.out.ext hb)
              replace Nb := Lib.hid (Nb.out.ext hb)
              clear hb
              have x0 := Na.out.c0
              have x1 := Na.out.c1
              have x2 := Na.out.c2
              have y0 := Nb.out.c0
              have y1 := Nb.out.c1
              have y2 := Nb.out.c2
              dsimp only at x0 x1 x2 y0 y1 y2
              go_wp2_with fail
              refine (emp_at _ _ _ true _ HC.out.2.2.1).mono ?_
              rintro e k3 ⟨rfl, hb⟩
              clear x0 x1 x2 y0 y1 y2
              replace Hbel := Lib.hid (Hbel.out.trans (hb.mono Hbel.out.size))
              replace Na := Lib.hid (Na.out.ext hb)
              replace Nb := Lib.hid (Nb.out.ext hb)
              clear hb
              have x0 := Na.out.c0
              have x1 := Na.out.c1
              have x2 := Na.out.c2
              have y0 := Nb.out.c0
              have y1 := Nb.out.c1
              have y2 := Nb.out.c2
              dsimp only at x0 x1 x2 y0 y1 y2
              go_wp2_with fail
              refine (has_at _ _ _ _ false _ HC.out.1).mono ?_
              rintro e k4 ⟨rfl, hb⟩
              clear x0 x1 x2 y0 y1 y2
              replace Hbel := Lib.hid (Hbel.out.trans (hb.mono Hbel.out.size))
              replace Na := Lib.hid (Na.out.ext hb)
              replace Nb := Lib.hid (Nb.out.ext hb)
              clear hb
              have x0 := Na.out.c0
              have x1 := Na.out.c1
              have x2 := Na.out.c2
              have y0 := Nb.out.c0
              have y1 := Nb.out.c1
              have y2 := Nb.out.c2
              dsimp only at x0 x1 x2 y0 y1 y2
              go_wp2_with fail
              refine (emp_at _ _ _ true _ HC.out.2.2.1).mono ?_
              rintro e k5 ⟨rfl, hb⟩
              clear x0 x1 x2 y0 y1 y2
              replace Hbel := Lib.hid (Hbel.out.trans (hb.mono Hbel.out.size))
              replace Na := Lib.hid (Na.out.ext hb)
              replace Nb := Lib.hid (Nb.out.ext hb)
              clear hb
              have x0 := Na.out.c0
              have x1 := Na.out.c1
              have x2 := Na.out.c2
              have y0 := Nb.out.c0
              have y1 := Nb.out.c1
              have y2 := Nb.out.c2
              dsimp only at x0 x1 x2 y0 y1 y2
              go_wp2_with fail
              refine (next_at _ NV _ (by omega) HC.out.2.2.2.2.2.2.2.2.2.2.2.2.2.1).mono ?_
              rintro e w' ⟨rfl, rfl⟩
              have l1 := bl_less HC.out.2.2.2.2.2.2.2.2.2.2.2.2.2.2.1
              have l2 := bl_less HC.out.2.2.2.2.2.2.2.2.2.2.2.2.2.2.2.1
              have l3 := bl_less HC.out.2.2.2.2.2.2.2.2.2.2.2.2.2.2.2.2
              have n1 : ¬ (9223372036854775807 < pre.size + key.size) := by omega
              have n2 : pre ++ key = PK := HC.out.2.2.2.2.2.2.2.2.2.2.1
              go_wp2_with fail
              refine (of_at _ ⟨ql, qh, qo⟩ _ (by omega) HC.out.2.2.2.2.2.2.2.2.2.2.2.2.1).mono ?_
              rintro e k6 ⟨rfl, hb⟩
              clear x0 x1 x2 y0 y1 y2
              replace Hbel := Lib.hid (Hbel.out.trans (hb.mono Hbel.out.size))
              replace Na := Lib.hid (Na.out.ext hb)
              replace Nb := Lib.hid (Nb.out.ext hb)
              clear hb
              have x0 := Na.out.c0
              have x1 := Na.out.c1
              have x2 := Na.out.c2
              have y0 := Nb.out.c0
              have y1 := Nb.out.c1
              have y2 := Nb.out.c2
              dsimp only at x0 x1 x2 y0 y1 y2
              dsimp only
              go_wp2_with fail
              refine (of_at _ ⟨ol, oh, oo⟩ _ (by omega) HC.out.2.2.2.2.2.2.2.2.2.1).mono ?_
              rintro e k7 ⟨rfl, hb⟩
              clear x0 x1 x2 y0 y1 y2
              replace Hbel := Lib.hid (Hbel.out.trans (hb.mono Hbel.out.size))
              replace Na := Lib.hid (Na.out.ext hb)
              replace Nb := Lib.hid (Nb.out.ext hb)
              clear hb
              have x0 := Na.out.c0
              have x1 := Na.out.c1
              have x2 := Na.out.c2
              have y0 := Nb.out.c0
              have y1 := Nb.out.c1
              have y2 := Nb.out.c2
              dsimp only at x0 x1 x2 y0 y1 y2
              dsimp only
              go_wp2_with fail
              refine (with_at ⟨ql, qh, qo⟩ ⟨ol, oh, oo⟩ true _ HC.out.2.2.2.2.2.2.2.2.2.2.2.1).mono ?_
              rintro e k8 ⟨rfl, hb⟩
              clear x0 x1 x2 y0 y1 y2
              replace Hbel := Lib.hid (Hbel.out.trans (hb.mono Hbel.out.size))
              replace Na := Lib.hid (Na.out.ext hb)
              replace Nb := Lib.hid (Nb.out.ext hb)
              clear hb
              have x0 := Na.out.c0
              have x1 := Na.out.c1
              have x2 := Na.out.c2
              have y0 := Nb.out.c0
              have y1 := Nb.out.c1
              have y2 := Nb.out.c2
              dsimp only at x0 x1 x2 y0 y1 y2
              go_wp2_with fail
              refine (sure_any _ (HG.out.below Hbel.out)).mono ?_
              rintro e k9 ⟨rfl, hb⟩
              clear x0 x1 x2 y0 y1 y2
              replace Hbel := Lib.hid (Hbel.out.trans (hb.mono Hbel.out.size))
              replace Na := Lib.hid (Na.out.ext hb)
              replace Nb := Lib.hid (Nb.out.ext hb)
              clear hb
              have x0 := Na.out.c0
              have x1 := Na.out.c1
              have x2 := Na.out.c2
              have y0 := Nb.out.c0
              have y1 := Nb.out.c1
              have y2 := Nb.out.c2
              dsimp only at x0 x1 x2 y0 y1 y2
              go_wp2_with fail
              go_ret
              exact ⟨rfl, Hbel.out⟩
            | false => as_aux_lemma =>
              have hM : hasS (meetS ⟨lo, hi, op⟩ ⟨lo2, hi2, op2⟩) key = false := by rw [HM.out, hX]; rfl
              have hY := hX
              obtain ⟨⟨ml, mh, mo⟩, hme⟩ : ∃ s, meetS ⟨lo, hi, op⟩ ⟨lo2, hi2, op2⟩ = s := ⟨_, rfl⟩
              rw [hme] at hM
              have hL := hX
              obtain ⟨HV, hH⟩ : ∃ V, begS key pre = V := ⟨_, rfl⟩
              have hHO := HHO.out.trans hH
              obtain ⟨⟨ol, oh, oo⟩, hof⟩ : ∃ s, ofS pre = s := ⟨_, rfl⟩
              rw [hof] at hHO
              obtain ⟨PK, hPK⟩ : ∃ s, pre ++ key = s := ⟨_, rfl⟩
              have hWO := HWO.out
              rw [hPK, hof] at hWO
              have zpk : PK.size ≤ 600 := by rw [← hPK, ByteArray.size_append]; omega
              obtain ⟨⟨ql, qh, qo⟩, hqf⟩ : ∃ s, ofS PK = s := ⟨_, rfl⟩
              rw [hqf] at hWO
              obtain ⟨NV, hN⟩ : ∃ N, nextS key = N := ⟨_, rfl⟩
              have hNL := HNL.out
              have hNN := HNN.out
              rw [hN] at hNL hNN
              have hQ := hP
              have HC := Lib.hid (And.intro hX (And.intro hW (And.intro hE (And.intro hY (And.intro hM (And.intro hme (And.intro hL (And.intro hH (And.intro hHO (And.intro hof (And.intro hPK (And.intro hWO (And.intro hqf (And.intro hN (And.intro hNL (And.intro hP hQ))))))))))))))))
              clear hX hW hE hY hM hme hL hH hHO hof hPK hWO hqf hN hNL hP hQ hNN HM HWH HEH HNE HHO HNL HNN HWO
              refine wp_region_gr [(0, true), (2, true), (4, true), (5, true), (1, false), (3, false), (6, false), (7, true), (8, true), (9, true), (10, true), (12, true), (14, true), (15, true), (11, false), (13, false), (16, false), (17, true), (18, true), (19, true), (20, false), (21, true), (22, true), (23, true)] (by kernel_rfl) (by kernel_rfl) (by kernel_rfl) (by kernel_rfl) (fun _ _ _ _ _ h => h) ?_
              replace Hbel := Lib.hid Hbel.out.drew
              replace Na : Hid (SpIn v.drew px SPT ⟨lo, hi, op⟩) := Na.out
              replace Nb : Hid (SpIn v.drew py SPT ⟨lo2, hi2, op2⟩) := Nb.out
              generalize v.drew = g0 at *
              have x0 : ∀ w', Ext g0 w' → w'.cell? ⟨px, 0, none⟩ = some (.string lo) := fun w' h => (Na.out.ext h).c0
              have x1 : ∀ w', Ext g0 w' → w'.cell? ⟨px, 1, none⟩ = some (.string hi) := fun w' h => (Na.out.ext h).c1
              have x2 : ∀ w', Ext g0 w' → w'.cell? ⟨px, 2, none⟩ = some (.bool op) := fun w' h => (Na.out.ext h).c2
              have y0 : ∀ w', Ext g0 w' → w'.cell? ⟨py, 0, none⟩ = some (.string lo2) := fun w' h => (Nb.out.ext h).c0
              have y1 : ∀ w', Ext g0 w' → w'.cell? ⟨py, 1, none⟩ = some (.string hi2) := fun w' h => (Nb.out.ext h).c1
              have y2 : ∀ w', Ext g0 w' → w'.cell? ⟨py, 2, none⟩ = some (.bool op2) := fun w' h => (Nb.out.ext h).c2
              iterate 4 (refine wpGr_read (o := ⟨_, _, _, _, _, _⟩) (v := ?_) rfl (by rfl) ?_ ?_; rotate_left; (intro w' hw'; go_simp; with_reducible rfl); simp only [Act.put, List.setIfInBounds_toArray, List.set_cons_zero, List.set_cons_succ])
              refine wpGr_call (o := ⟨_, _, _, _, _, _⟩) rfl (by rfl) (fun K hK => ?_)
              go_simp
              refine (of_at _ ⟨ol, oh, oo⟩ _ (by omega) HC.out.2.2.2.2.2.2.2.2.2.1).mono ?_
              rintro e g1 ⟨rfl, hb⟩
              refine hK _ _ hb ?_
              clear hK K
              clear x0 x1 x2 y0 y1 y2
              replace Hbel := Lib.hid (Hbel.out.trans (hb.mono Hbel.out.size))
              replace Na := Lib.hid (Na.out.ext hb)
              replace Nb := Lib.hid (Nb.out.ext hb)
              clear hb
              have x0 : ∀ w', Ext g1 w' → w'.cell? ⟨px, 0, none⟩ = some (.string lo) := fun w' h => (Na.out.ext h).c0
              have x1 : ∀ w', Ext g1 w' → w'.cell? ⟨px, 1, none⟩ = some (.string hi) := fun w' h => (Na.out.ext h).c1
              have x2 : ∀ w', Ext g1 w' → w'.cell? ⟨px, 2, none⟩ = some (.bool op) := fun w' h => (Na.out.ext h).c2
              have y0 : ∀ w', Ext g1 w' → w'.cell? ⟨py, 0, none⟩ = some (.string lo2) := fun w' h => (Nb.out.ext h).c0
              have y1 : ∀ w', Ext g1 w' → w'.cell? ⟨py, 1, none⟩ = some (.string hi2) := fun w' h => (Nb.out.ext h).c1
              have y2 : ∀ w', Ext g1 w' → w'.cell? ⟨py, 2, none⟩ = some (.bool op2) := fun w' h => (Nb.out.ext h).c2
              dsimp only
              refine wpGr_call (o := ⟨_, _, _, _, _, _⟩) rfl (by rfl) (fun K hK => ?_)
              go_simp
              refine (has_at _ _ _ _ HV _ HC.out.2.2.2.2.2.2.2.2.1).mono ?_
              rintro e g2 ⟨rfl, hb⟩
              refine hK _ _ hb ?_
              clear hK K
              clear x0 x1 x2 y0 y1 y2
              replace Hbel := Lib.hid (Hbel.out.trans (hb.mono Hbel.out.size))
              replace Na := Lib.hid (Na.out.ext hb)
              replace Nb := Lib.hid (Nb.out.ext hb)
              clear hb
              have x0 : ∀ w', Ext g2 w' → w'.cell? ⟨px, 0, none⟩ = some (.string lo) := fun w' h => (Na.out.ext h).c0
              have x1 : ∀ w', Ext g2 w' → w'.cell? ⟨px, 1, none⟩ = some (.string hi) := fun w' h => (Na.out.ext h).c1
              have x2 : ∀ w', Ext g2 w' → w'.cell? ⟨px, 2, none⟩ = some (.bool op) := fun w' h => (Na.out.ext h).c2
              have y0 : ∀ w', Ext g2 w' → w'.cell? ⟨py, 0, none⟩ = some (.string lo2) := fun w' h => (Nb.out.ext h).c0
              have y1 : ∀ w', Ext g2 w' → w'.cell? ⟨py, 1, none⟩ = some (.string hi2) := fun w' h => (Nb.out.ext h).c1
              have y2 : ∀ w', Ext g2 w' → w'.cell? ⟨py, 2, none⟩ = some (.bool op2) := fun w' h => (Nb.out.ext h).c2
              refine wpGr_call (o := ⟨_, _, _, _, _, _⟩) rfl (by rfl) (fun K hK => ?_)
              go_simp
              refine (begins_at _ _ HV _ HC.out.2.2.2.2.2.2.2.1).mono ?_
              rintro e w' ⟨rfl, rfl⟩
              refine hK _ _ (Ext.refl _) ?_
              clear hK K
              iterate 7 (refine wpGr_read (o := ⟨_, _, _, _, _, _⟩) (v := ?_) rfl (by rfl) ?_ ?_; rotate_left; (intro w' hw'; go_simp; with_reducible rfl); simp only [Act.put, List.setIfInBounds_toArray, List.set_cons_zero, List.set_cons_succ])
              refine wpGr_call (o := ⟨_, _, _, _, _, _⟩) rfl (by rfl) (fun K hK => ?_)
              go_simp
              refine (meet_at ⟨lo, hi, op⟩ ⟨lo2, hi2, op2⟩ ⟨ml, mh, mo⟩ _ HC.out.2.2.2.2.2.1).mono ?_
              rintro e g3 ⟨rfl, hb⟩
              refine hK _ _ hb ?_
              clear hK K
              clear x0 x1 x2 y0 y1 y2
              replace Hbel := Lib.hid (Hbel.out.trans (hb.mono Hbel.out.size))
              replace Na := Lib.hid (Na.out.ext hb)
              replace Nb := Lib.hid (Nb.out.ext hb)
              clear hb
              have x0 : ∀ w', Ext g3 w' → w'.cell? ⟨px, 0, none⟩ = some (.string lo) := fun w' h => (Na.out.ext h).c0
              have x1 : ∀ w', Ext g3 w' → w'.cell? ⟨px, 1, none⟩ = some (.string hi) := fun w' h => (Na.out.ext h).c1
              have x2 : ∀ w', Ext g3 w' → w'.cell? ⟨px, 2, none⟩ = some (.bool op) := fun w' h => (Na.out.ext h).c2
              have y0 : ∀ w', Ext g3 w' → w'.cell? ⟨py, 0, none⟩ = some (.string lo2) := fun w' h => (Nb.out.ext h).c0
              have y1 : ∀ w', Ext g3 w' → w'.cell? ⟨py, 1, none⟩ = some (.string hi2) := fun w' h => (Nb.out.ext h).c1
              have y2 : ∀ w', Ext g3 w' → w'.cell? ⟨py, 2, none⟩ = some (.bool op2) := fun w' h => (Nb.out.ext h).c2
              dsimp only
              refine wpGr_call (o := ⟨_, _, _, _, _, _⟩) rfl (by rfl) (fun K hK => ?_)
              go_simp
              refine (has_at _ _ _ _ false _ HC.out.2.2.2.2.1).mono ?_
              rintro e g4 ⟨rfl, hb⟩
              refine hK _ _ hb ?_
              clear hK K
              clear x0 x1 x2 y0 y1 y2
              replace Hbel := Lib.hid (Hbel.out.trans (hb.mono Hbel.out.size))
              replace Na := Lib.hid (Na.out.ext hb)
              replace Nb := Lib.hid (Nb.out.ext hb)
              clear hb
              have x0 : ∀ w', Ext g4 w' → w'.cell? ⟨px, 0, none⟩ = some (.string lo) := fun w' h => (Na.out.ext h).c0
              have x1 : ∀ w', Ext g4 w' → w'.cell? ⟨px, 1, none⟩ = some (.string hi) := fun w' h => (Na.out.ext h).c1
              have x2 : ∀ w', Ext g4 w' → w'.cell? ⟨px, 2, none⟩ = some (.bool op) := fun w' h => (Na.out.ext h).c2
              have y0 : ∀ w', Ext g4 w' → w'.cell? ⟨py, 0, none⟩ = some (.string lo2) := fun w' h => (Nb.out.ext h).c0
              have y1 : ∀ w', Ext g4 w' → w'.cell? ⟨py, 1, none⟩ = some (.string hi2) := fun w' h => (Nb.out.ext h).c1
              have y2 : ∀ w', Ext g4 w' → w'.cell? ⟨py, 2, none⟩ = some (.bool op2) := fun w' h => (Nb.out.ext h).c2
              refine wpGr_call (o := ⟨_, _, _, _, _, _⟩) rfl (by rfl) (fun K hK => ?_)
              go_simp
              refine (has_at _ _ _ _ false _ HC.out.1).mono ?_
              rintro e g5 ⟨rfl, hb⟩
              refine hK _ _ hb ?_
              clear hK K
              clear x0 x1 x2 y0 y1 y2
              replace Hbel := Lib.hid (Hbel.out.trans (hb.mono Hbel.out.size))
              replace Na := Lib.hid (Na.out.ext hb)
              replace Nb := Lib.hid (Nb.out.ext hb)
              clear hb
              have x0 : ∀ w', Ext g5 w' → w'.cell? ⟨px, 0, none⟩ = some (.string lo) := fun w' h => (Na.out.ext h).c0
              have x1 : ∀ w', Ext g5 w' → w'.cell? ⟨px, 1, none⟩ = some (.string hi) := fun w' h => (Na.out.ext h).c1
              have x2 : ∀ w', Ext g5 w' → w'.cell? ⟨px, 2, none⟩ = some (.bool op) := fun w' h => (Na.out.ext h).c2
              have y0 : ∀ w', Ext g5 w' → w'.cell? ⟨py, 0, none⟩ = some (.string lo2) := fun w' h => (Nb.out.ext h).c0
              have y1 : ∀ w', Ext g5 w' → w'.cell? ⟨py, 1, none⟩ = some (.string hi2) := fun w' h => (Nb.out.ext h).c1
              have y2 : ∀ w', Ext g5 w' → w'.cell? ⟨py, 2, none⟩ = some (.bool op2) := fun w' h => (Nb.out.ext h).c2
              iterate 1 (refine wpGr_read (o := ⟨_, _, _, _, _, _⟩) (v := ?_) rfl (by rfl) ?_ ?_; rotate_left; (intro w' hw'; go_simp; with_reducible rfl); simp only [Act.put, List.setIfInBounds_toArray, List.set_cons_zero, List.set_cons_succ])
              iterate 2 (refine wpGr_skip (o := ⟨_, _, _, _, _, _⟩) rfl (by rfl) ?_; simp only [Act.put, List.setIfInBounds_toArray, List.set_cons_zero, List.set_cons_succ])
              refine wpGr_skipCall (o := ⟨_, _, _, _, _, _⟩) rfl (by rfl) ?_
              simp only [Act.put, List.setIfInBounds_toArray, List.set_cons_zero, List.set_cons_succ]
              iterate 3 (refine wpGr_read (o := ⟨_, _, _, _, _, _⟩) (v := ?_) rfl (by rfl) ?_ ?_; rotate_left; (intro w' hw'; go_simp; with_reducible rfl); simp only [Act.put, List.setIfInBounds_toArray, List.set_cons_zero, List.set_cons_succ])
              clear x0 x1 x2 y0 y1 y2
              refine wpGr_done ?_
              have x0 := Na.out.c0
              have x1 := Na.out.c1
              have x2 := Na.out.c2
              have y0 := Nb.out.c0
              have y1 := Nb.out.c1
              have y2 := Nb.out.c2
              dsimp only at x0 x1 x2 y0 y1 y2
              go_wp2_with fail
              refine (with_at ⟨lo, hi, op⟩ ⟨lo2, hi2, op2⟩ true _ HC.out.2.1).mono ?_
              rintro e k1 ⟨rfl, hb⟩
              clear x0 x1 x2 y0 y1 y2
              replace Hbel := Lib.hid (Hbel.out.trans (hb.mono Hbel.out.size))
              replace Na := Lib.hid (Na.out.ext hb)
              replace Nb := Lib.hid (Nb.out.ext hb)
              clear hb
              have x0 := Na.out.c0
              have x1 := Na.out.c1
              have x2 := Na.out.c2
              have y0 := Nb.out.c0
              have y1 := Nb.out.c1
              have y2 := Nb.out.c2
              dsimp only at x0 x1 x2 y0 y1 y2
              go_wp2_with fail
              refine (has_at _ _ _ _ false _ HC.out.1).mono ?_
              rintro e k2 ⟨rfl, hb⟩
              clear x0 x1 x2 y0 y1 y2
              replace Hbel := Lib.hid (Hbel.out.trans (hb.mono Hbel.out.size))
              replace Na := Lib.hid (Na.out.ext hb)
              replace Nb := Lib.hid (Nb.out.ext hb)
              clear hb
              have x0 := Na.out.c0
              have x1 := Na.out.c1
              have x2 := Na.out.c2
              have y0 := Nb.out.c0
              have y1 := Nb.out.c1
              have y2 := Nb.out.c2
              dsimp only at x0 x1 x2 y0 y1 y2
              go_wp2_with fail
              refine (emp_at _ _ _ true _ HC.out.2.2.1).mono ?_
              rintro e k3 ⟨rfl, hb⟩
              clear x0 x1 x2 y0 y1 y2
              replace Hbel := Lib.hid (Hbel.out.trans (hb.mono Hbel.out.size))
              replace Na := Lib.hid (Na.out.ext hb)
              replace Nb := Lib.hid (Nb.out.ext hb)
              clear hb
              have x0 := Na.out.c0
              have x1 := Na.out.c1
              have x2 := Na.out.c2
              have y0 := Nb.out.c0
              have y1 := Nb.out.c1
              have y2 := Nb.out.c2
              dsimp only at x0 x1 x2 y0 y1 y2
              go_wp2_with fail
              refine (has_at _ _ _ _ false _ HC.out.1).mono ?_
              rintro e k4 ⟨rfl, hb⟩
              clear x0 x1 x2 y0 y1 y2
              replace Hbel := Lib.hid (Hbel.out.trans (hb.mono Hbel.out.size))
              replace Na := Lib.hid (Na.out.ext hb)
              replace Nb := Lib.hid (Nb.out.ext hb)
              clear hb
              have x0 := Na.out.c0
              have x1 := Na.out.c1
              have x2 := Na.out.c2
              have y0 := Nb.out.c0
              have y1 := Nb.out.c1
              have y2 := Nb.out.c2
              dsimp only at x0 x1 x2 y0 y1 y2
              go_wp2_with fail
              refine (emp_at _ _ _ true _ HC.out.2.2.1).mono ?_
              rintro e k5 ⟨rfl, hb⟩
              clear x0 x1 x2 y0 y1 y2
              replace Hbel := Lib.hid (Hbel.out.trans (hb.mono Hbel.out.size))
              replace Na := Lib.hid (Na.out.ext hb)
              replace Nb := Lib.hid (Nb.out.ext hb)
              clear hb
              have x0 := Na.out.c0
              have x1 := Na.out.c1
              have x2 := Na.out.c2
              have y0 := Nb.out.c0
              have y1 := Nb.out.c1
              have y2 := Nb.out.c2
              dsimp only at x0 x1 x2 y0 y1 y2
              go_wp2_with fail
              refine (next_at _ NV _ (by omega) HC.out.2.2.2.2.2.2.2.2.2.2.2.2.2.1).mono ?_
              rintro e w' ⟨rfl, rfl⟩
              have l1 := bl_less HC.out.2.2.2.2.2.2.2.2.2.2.2.2.2.2.1
              have l2 := bl_less HC.out.2.2.2.2.2.2.2.2.2.2.2.2.2.2.2.1
              have n1 : ¬ (9223372036854775807 < pre.size + key.size) := by omega
              have n2 : pre ++ key = PK := HC.out.2.2.2.2.2.2.2.2.2.2.1
              go_wp2_with fail
              refine (of_at _ ⟨ql, qh, qo⟩ _ (by omega) HC.out.2.2.2.2.2.2.2.2.2.2.2.2.1).mono ?_
              rintro e k6 ⟨rfl, hb⟩
              clear x0 x1 x2 y0 y1 y2
              replace Hbel := Lib.hid (Hbel.out.trans (hb.mono Hbel.out.size))
              replace Na := Lib.hid (Na.out.ext hb)
              replace Nb := Lib.hid (Nb.out.ext hb)
              clear hb
              have x0 := Na.out.c0
              have x1 := Na.out.c1
              have x2 := Na.out.c2
              have y0 := Nb.out.c0
              have y1 := Nb.out.c1
              have y2 := Nb.out.c2
              dsimp only at x0 x1 x2 y0 y1 y2
              dsimp only
              go_wp2_with fail
              refine (of_at _ ⟨ol, oh, oo⟩ _ (by omega) HC.out.2.2.2.2.2.2.2.2.2.1).mono ?_
              rintro e k7 ⟨rfl, hb⟩
              clear x0 x1 x2 y0 y1 y2
              replace Hbel := Lib.hid (Hbel.out.trans (hb.mono Hbel.out.size))
              replace Na := Lib.hid (Na.out.ext hb)
              replace Nb := Lib.hid (Nb.out.ext hb)
              clear hb
              have x0 := Na.out.c0
              have x1 := Na.out.c1
              have x2 := Na.out.c2
              have y0 := Nb.out.c0
              have y1 := Nb.out.c1
              have y2 := Nb.out.c2
              dsimp only at x0 x1 x2 y0 y1 y2
              dsimp only
              go_wp2_with fail
              refine (with_at ⟨ql, qh, qo⟩ ⟨ol, oh, oo⟩ true _ HC.out.2.2.2.2.2.2.2.2.2.2.2.1).mono ?_
              rintro e k8 ⟨rfl, hb⟩
              clear x0 x1 x2 y0 y1 y2
              replace Hbel := Lib.hid (Hbel.out.trans (hb.mono Hbel.out.size))
              replace Na := Lib.hid (Na.out.ext hb)
              replace Nb := Lib.hid (Nb.out.ext hb)
              clear hb
              have x0 := Na.out.c0
              have x1 := Na.out.c1
              have x2 := Na.out.c2
              have y0 := Nb.out.c0
              have y1 := Nb.out.c1
              have y2 := Nb.out.c2
              dsimp only at x0 x1 x2 y0 y1 y2
              go_wp2_with fail
              refine (sure_any _ (HG.out.below Hbel.out)).mono ?_
              rintro e k9 ⟨rfl, hb⟩
              clear x0 x1 x2 y0 y1 y2
              replace Hbel := Lib.hid (Hbel.out.trans (hb.mono Hbel.out.size))
              replace Na := Lib.hid (Na.out.ext hb)
              replace Nb := Lib.hid (Nb.out.ext hb)
              clear hb
              have x0 := Na.out.c0
              have x1 := Na.out.c1
              have x2 := Na.out.c2
              have y0 := Nb.out.c0
              have y1 := Nb.out.c1
              have y2 := Nb.out.c2
              dsimp only at x0 x1 x2 y0 y1 y2
              go_wp2_with fail
              go_ret
              exact ⟨rfl, Hbel.out⟩
          | false =>
            cases hP : blt key pre with
            | true => as_aux_lemma =>
              have hM : hasS (meetS ⟨lo, hi, op⟩ ⟨lo2, hi2, op2⟩) key = false := by rw [HM.out, hX]; rfl
              have hY := hX
              obtain ⟨⟨ml, mh, mo⟩, hme⟩ : ∃ s, meetS ⟨lo, hi, op⟩ ⟨lo2, hi2, op2⟩ = s := ⟨_, rfl⟩
              rw [hme] at hM
              have hL := hX
              obtain ⟨HV, hH⟩ : ∃ V, begS key pre = V := ⟨_, rfl⟩
              have hHO := HHO.out.trans hH
              obtain ⟨⟨ol, oh, oo⟩, hof⟩ : ∃ s, ofS pre = s := ⟨_, rfl⟩
              rw [hof] at hHO
              obtain ⟨PK, hPK⟩ : ∃ s, pre ++ key = s := ⟨_, rfl⟩
              have hWO := HWO.out
              rw [hPK, hof] at hWO
              have zpk : PK.size ≤ 600 := by rw [← hPK, ByteArray.size_append]; omega
              obtain ⟨⟨ql, qh, qo⟩, hqf⟩ : ∃ s, ofS PK = s := ⟨_, rfl⟩
              rw [hqf] at hWO
              obtain ⟨NV, hN⟩ : ∃ N, nextS key = N := ⟨_, rfl⟩
              have hNL := HNL.out
              have hNN := HNN.out
              rw [hN] at hNL hNN
              have hQ : blt pre NV = false := by rw [hP] at hNN; simpa using hNN
              have HC := Lib.hid (And.intro hX (And.intro hW (And.intro hE (And.intro hY (And.intro hM (And.intro hme (And.intro hL (And.intro hH (And.intro hHO (And.intro hof (And.intro hPK (And.intro hWO (And.intro hqf (And.intro hN (And.intro hNL (And.intro hP hQ))))))))))))))))
              clear hX hW hE hY hM hme hL hH hHO hof hPK hWO hqf hN hNL hP hQ hNN HM HWH HEH HNE HHO HNL HNN HWO
              refine wp_region_gr [(0, true), (2, true), (4, true), (5, true), (1, false), (3, false), (6, false), (7, true), (8, true), (9, true), (10, true), (12, true), (14, true), (15, true), (11, false), (13, false), (16, false), (17, true), (18, true), (19, true), (20, false), (21, true), (22, true), (23, true)] (by kernel_rfl) (by kernel_rfl) (by kernel_rfl) (by kernel_rfl) (fun _ _ _ _ _ h => h) ?_
              replace Hbel := Lib.hid Hbel.out.drew
              replace Na : Hid (SpIn v.drew px SPT ⟨lo, hi, op⟩) := Na.out
              replace Nb : Hid (SpIn v.drew py SPT ⟨lo2, hi2, op2⟩) := Nb.out
              generalize v.drew = g0 at *
              have x0 : ∀ w', Ext g0 w' → w'.cell? ⟨px, 0, none⟩ = some (.string lo) := fun w' h => (Na.out.ext h).c0
              have x1 : ∀ w', Ext g0 w' → w'.cell? ⟨px, 1, none⟩ = some (.string hi) := fun w' h => (Na.out.ext h).c1
              have x2 : ∀ w', Ext g0 w' → w'.cell? ⟨px, 2, none⟩ = some (.bool op) := fun w' h => (Na.out.ext h).c2
              have y0 : ∀ w', Ext g0 w' → w'.cell? ⟨py, 0, none⟩ = some (.string lo2) := fun w' h => (Nb.out.ext h).c0
              have y1 : ∀ w', Ext g0 w' → w'.cell? ⟨py, 1, none⟩ = some (.string hi2) := fun w' h => (Nb.out.ext h).c1
              have y2 : ∀ w', Ext g0 w' → w'.cell? ⟨py, 2, none⟩ = some (.bool op2) := fun w' h => (Nb.out.ext h).c2
              iterate 4 (refine wpGr_read (o := ⟨_, _, _, _, _, _⟩) (v := ?_) rfl (by rfl) ?_ ?_; rotate_left; (intro w' hw'; go_simp; with_reducible rfl); simp only [Act.put, List.setIfInBounds_toArray, List.set_cons_zero, List.set_cons_succ])
              refine wpGr_call (o := ⟨_, _, _, _, _, _⟩) rfl (by rfl) (fun K hK => ?_)
              go_simp
              refine (of_at _ ⟨ol, oh, oo⟩ _ (by omega) HC.out.2.2.2.2.2.2.2.2.2.1).mono ?_
              rintro e g1 ⟨rfl, hb⟩
              refine hK _ _ hb ?_
              clear hK K
              clear x0 x1 x2 y0 y1 y2
              replace Hbel := Lib.hid (Hbel.out.trans (hb.mono Hbel.out.size))
              replace Na := Lib.hid (Na.out.ext hb)
              replace Nb := Lib.hid (Nb.out.ext hb)
              clear hb
              have x0 : ∀ w', Ext g1 w' → w'.cell? ⟨px, 0, none⟩ = some (.string lo) := fun w' h => (Na.out.ext h).c0
              have x1 : ∀ w', Ext g1 w' → w'.cell? ⟨px, 1, none⟩ = some (.string hi) := fun w' h => (Na.out.ext h).c1
              have x2 : ∀ w', Ext g1 w' → w'.cell? ⟨px, 2, none⟩ = some (.bool op) := fun w' h => (Na.out.ext h).c2
              have y0 : ∀ w', Ext g1 w' → w'.cell? ⟨py, 0, none⟩ = some (.string lo2) := fun w' h => (Nb.out.ext h).c0
              have y1 : ∀ w', Ext g1 w' → w'.cell? ⟨py, 1, none⟩ = some (.string hi2) := fun w' h => (Nb.out.ext h).c1
              have y2 : ∀ w', Ext g1 w' → w'.cell? ⟨py, 2, none⟩ = some (.bool op2) := fun w' h => (Nb.out.ext h).c2
              dsimp only
              refine wpGr_call (o := ⟨_, _, _, _, _, _⟩) rfl (by rfl) (fun K hK => ?_)
              go_simp
              refine (has_at _ _ _ _ HV _ HC.out.2.2.2.2.2.2.2.2.1).mono ?_
              rintro e g2 ⟨rfl, hb⟩
              refine hK _ _ hb ?_
              clear hK K
              clear x0 x1 x2 y0 y1 y2
              replace Hbel := Lib.hid (Hbel.out.trans (hb.mono Hbel.out.size))
              replace Na := Lib.hid (Na.out.ext hb)
              replace Nb := Lib.hid (Nb.out.ext hb)
              clear hb
              have x0 : ∀ w', Ext g2 w' → w'.cell? ⟨px, 0, none⟩ = some (.string lo) := fun w' h => (Na.out.ext h).c0
              have x1 : ∀ w', Ext g2 w' → w'.cell? ⟨px, 1, none⟩ = some (.string hi) := fun w' h => (Na.out.ext h).c1
              have x2 : ∀ w', Ext g2 w' → w'.cell? ⟨px, 2, none⟩ = some (.bool op) := fun w' h => (Na.out.ext h).c2
              have y0 : ∀ w', Ext g2 w' → w'.cell? ⟨py, 0, none⟩ = some (.string lo2) := fun w' h => (Nb.out.ext h).c0
              have y1 : ∀ w', Ext g2 w' → w'.cell? ⟨py, 1, none⟩ = some (.string hi2) := fun w' h => (Nb.out.ext h).c1
              have y2 : ∀ w', Ext g2 w' → w'.cell? ⟨py, 2, none⟩ = some (.bool op2) := fun w' h => (Nb.out.ext h).c2
              refine wpGr_call (o := ⟨_, _, _, _, _, _⟩) rfl (by rfl) (fun K hK => ?_)
              go_simp
              refine (begins_at _ _ HV _ HC.out.2.2.2.2.2.2.2.1).mono ?_
              rintro e w' ⟨rfl, rfl⟩
              refine hK _ _ (Ext.refl _) ?_
              clear hK K
              iterate 7 (refine wpGr_read (o := ⟨_, _, _, _, _, _⟩) (v := ?_) rfl (by rfl) ?_ ?_; rotate_left; (intro w' hw'; go_simp; with_reducible rfl); simp only [Act.put, List.setIfInBounds_toArray, List.set_cons_zero, List.set_cons_succ])
              refine wpGr_call (o := ⟨_, _, _, _, _, _⟩) rfl (by rfl) (fun K hK => ?_)
              go_simp
              refine (meet_at ⟨lo, hi, op⟩ ⟨lo2, hi2, op2⟩ ⟨ml, mh, mo⟩ _ HC.out.2.2.2.2.2.1).mono ?_
              rintro e g3 ⟨rfl, hb⟩
              refine hK _ _ hb ?_
              clear hK K
              clear x0 x1 x2 y0 y1 y2
              replace Hbel := Lib.hid (Hbel.out.trans (hb.mono Hbel.out.size))
              replace Na := Lib.hid (Na.out.ext hb)
              replace Nb := Lib.hid (Nb.out.ext hb)
              clear hb
              have x0 : ∀ w', Ext g3 w' → w'.cell? ⟨px, 0, none⟩ = some (.string lo) := fun w' h => (Na.out.ext h).c0
              have x1 : ∀ w', Ext g3 w' → w'.cell? ⟨px, 1, none⟩ = some (.string hi) := fun w' h => (Na.out.ext h).c1
              have x2 : ∀ w', Ext g3 w' → w'.cell? ⟨px, 2, none⟩ = some (.bool op) := fun w' h => (Na.out.ext h).c2
              have y0 : ∀ w', Ext g3 w' → w'.cell? ⟨py, 0, none⟩ = some (.string lo2) := fun w' h => (Nb.out.ext h).c0
              have y1 : ∀ w', Ext g3 w' → w'.cell? ⟨py, 1, none⟩ = some (.string hi2) := fun w' h => (Nb.out.ext h).c1
              have y2 : ∀ w', Ext g3 w' → w'.cell? ⟨py, 2, none⟩ = some (.bool op2) := fun w' h => (Nb.out.ext h).c2
              dsimp only
              refine wpGr_call (o := ⟨_, _, _, _, _, _⟩) rfl (by rfl) (fun K hK => ?_)
              go_simp
              refine (has_at _ _ _ _ false _ HC.out.2.2.2.2.1).mono ?_
              rintro e g4 ⟨rfl, hb⟩
              refine hK _ _ hb ?_
              clear hK K
              clear x0 x1 x2 y0 y1 y2
              replace Hbel := Lib.hid (Hbel.out.trans (hb.mono Hbel.out.size))
              replace Na := Lib.hid (Na.out.ext hb)
              replace Nb := Lib.hid (Nb.out.ext hb)
              clear hb
              have x0 : ∀ w', Ext g4 w' → w'.cell? ⟨px, 0, none⟩ = some (.string lo) := fun w' h => (Na.out.ext h).c0
              have x1 : ∀ w', Ext g4 w' → w'.cell? ⟨px, 1, none⟩ = some (.string hi) := fun w' h => (Na.out.ext h).c1
              have x2 : ∀ w', Ext g4 w' → w'.cell? ⟨px, 2, none⟩ = some (.bool op) := fun w' h => (Na.out.ext h).c2
              have y0 : ∀ w', Ext g4 w' → w'.cell? ⟨py, 0, none⟩ = some (.string lo2) := fun w' h => (Nb.out.ext h).c0
              have y1 : ∀ w', Ext g4 w' → w'.cell? ⟨py, 1, none⟩ = some (.string hi2) := fun w' h => (Nb.out.ext h).c1
              have y2 : ∀ w', Ext g4 w' → w'.cell? ⟨py, 2, none⟩ = some (.bool op2) := fun w' h => (Nb.out.ext h).c2
              refine wpGr_call (o := ⟨_, _, _, _, _, _⟩) rfl (by rfl) (fun K hK => ?_)
              go_simp
              refine (has_at _ _ _ _ false _ HC.out.1).mono ?_
              rintro e g5 ⟨rfl, hb⟩
              refine hK _ _ hb ?_
              clear hK K
              clear x0 x1 x2 y0 y1 y2
              replace Hbel := Lib.hid (Hbel.out.trans (hb.mono Hbel.out.size))
              replace Na := Lib.hid (Na.out.ext hb)
              replace Nb := Lib.hid (Nb.out.ext hb)
              clear hb
              have x0 : ∀ w', Ext g5 w' → w'.cell? ⟨px, 0, none⟩ = some (.string lo) := fun w' h => (Na.out.ext h).c0
              have x1 : ∀ w', Ext g5 w' → w'.cell? ⟨px, 1, none⟩ = some (.string hi) := fun w' h => (Na.out.ext h).c1
              have x2 : ∀ w', Ext g5 w' → w'.cell? ⟨px, 2, none⟩ = some (.bool op) := fun w' h => (Na.out.ext h).c2
              have y0 : ∀ w', Ext g5 w' → w'.cell? ⟨py, 0, none⟩ = some (.string lo2) := fun w' h => (Nb.out.ext h).c0
              have y1 : ∀ w', Ext g5 w' → w'.cell? ⟨py, 1, none⟩ = some (.string hi2) := fun w' h => (Nb.out.ext h).c1
              have y2 : ∀ w', Ext g5 w' → w'.cell? ⟨py, 2, none⟩ = some (.bool op2) := fun w' h => (Nb.out.ext h).c2
              iterate 1 (refine wpGr_read (o := ⟨_, _, _, _, _, _⟩) (v := ?_) rfl (by rfl) ?_ ?_; rotate_left; (intro w' hw'; go_simp; with_reducible rfl); simp only [Act.put, List.setIfInBounds_toArray, List.set_cons_zero, List.set_cons_succ])
              iterate 2 (refine wpGr_skip (o := ⟨_, _, _, _, _, _⟩) rfl (by rfl) ?_; simp only [Act.put, List.setIfInBounds_toArray, List.set_cons_zero, List.set_cons_succ])
              refine wpGr_skipCall (o := ⟨_, _, _, _, _, _⟩) rfl (by rfl) ?_
              simp only [Act.put, List.setIfInBounds_toArray, List.set_cons_zero, List.set_cons_succ]
              iterate 3 (refine wpGr_read (o := ⟨_, _, _, _, _, _⟩) (v := ?_) rfl (by rfl) ?_ ?_; rotate_left; (intro w' hw'; go_simp; with_reducible rfl); simp only [Act.put, List.setIfInBounds_toArray, List.set_cons_zero, List.set_cons_succ])
              clear x0 x1 x2 y0 y1 y2
              refine wpGr_done ?_
              have x0 := Na.out.c0
              have x1 := Na.out.c1
              have x2 := Na.out.c2
              have y0 := Nb.out.c0
              have y1 := Nb.out.c1
              have y2 := Nb.out.c2
              dsimp only at x0 x1 x2 y0 y1 y2
              go_wp2_with fail
              refine (with_at ⟨lo, hi, op⟩ ⟨lo2, hi2, op2⟩ false _ HC.out.2.1).mono ?_
              rintro e k1 ⟨rfl, hb⟩
              clear x0 x1 x2 y0 y1 y2
              replace Hbel := Lib.hid (Hbel.out.trans (hb.mono Hbel.out.size))
              replace Na := Lib.hid (Na.out.ext hb)
              replace Nb := Lib.hid (Nb.out.ext hb)
              clear hb
              have x0 := Na.out.c0
              have x1 := Na.out.c1
              have x2 := Na.out.c2
              have y0 := Nb.out.c0
              have y1 := Nb.out.c1
              have y2 := Nb.out.c2
              dsimp only at x0 x1 x2 y0 y1 y2
              go_wp2_with fail
              refine (emp_at _ _ _ true _ HC.out.2.2.1).mono ?_
              rintro e k2 ⟨rfl, hb⟩
              clear x0 x1 x2 y0 y1 y2
              replace Hbel := Lib.hid (Hbel.out.trans (hb.mono Hbel.out.size))
              replace Na := Lib.hid (Na.out.ext hb)
              replace Nb := Lib.hid (Nb.out.ext hb)
              clear hb
              have x0 := Na.out.c0
              have x1 := Na.out.c1
              have x2 := Na.out.c2
              have y0 := Nb.out.c0
              have y1 := Nb.out.c1
              have y2 := Nb.out.c2
              dsimp only at x0 x1 x2 y0 y1 y2
              go_wp2_with fail
              refine (has_at _ _ _ _ false _ HC.out.1).mono ?_
              rintro e k3 ⟨rfl, hb⟩
              clear x0 x1 x2 y0 y1 y2
              replace Hbel := Lib.hid (Hbel.out.trans (hb.mono Hbel.out.size))
              replace Na := Lib.hid (Na.out.ext hb)
              replace Nb := Lib.hid (Nb.out.ext hb)
              clear hb
              have x0 := Na.out.c0
              have x1 := Na.out.c1
              have x2 := Na.out.c2
              have y0 := Nb.out.c0
              have y1 := Nb.out.c1
              have y2 := Nb.out.c2
              dsimp only at x0 x1 x2 y0 y1 y2
              go_wp2_with fail
              refine (emp_at _ _ _ true _ HC.out.2.2.1).mono ?_
              rintro e k4 ⟨rfl, hb⟩
              clear x0 x1 x2 y0 y1 y2
              replace Hbel := Lib.hid (Hbel.out.trans (hb.mono Hbel.out.size))
              replace Na := Lib.hid (Na.out.ext hb)
              replace Nb := Lib.hid (Nb.out.ext hb)
              clear hb
              have x0 := Na.out.c0
              have x1 := Na.out.c1
              have x2 := Na.out.c2
              have y0 := Nb.out.c0
              have y1 := Nb.out.c1
              have y2 := Nb.out.c2
              dsimp only at x0 x1 x2 y0 y1 y2
              go_wp2_with fail
              refine (next_at _ NV _ (by omega) HC.out.2.2.2.2.2.2.2.2.2.2.2.2.2.1).mono ?_
              rintro e w' ⟨rfl, rfl⟩
              have l1 := bl_less HC.out.2.2.2.2.2.2.2.2.2.2.2.2.2.2.1
              have l2 := bl_less HC.out.2.2.2.2.2.2.2.2.2.2.2.2.2.2.2.1
              have l3 := bl_less HC.out.2.2.2.2.2.2.2.2.2.2.2.2.2.2.2.2
              have n1 : ¬ (9223372036854775807 < pre.size + key.size) := by omega
              have n2 : pre ++ key = PK := HC.out.2.2.2.2.2.2.2.2.2.2.1
              go_wp2_with fail
              refine (of_at _ ⟨ql, qh, qo⟩ _ (by omega) HC.out.2.2.2.2.2.2.2.2.2.2.2.2.1).mono ?_
              rintro e k5 ⟨rfl, hb⟩
              clear x0 x1 x2 y0 y1 y2
              replace Hbel := Lib.hid (Hbel.out.trans (hb.mono Hbel.out.size))
              replace Na := Lib.hid (Na.out.ext hb)
              replace Nb := Lib.hid (Nb.out.ext hb)
              clear hb
              have x0 := Na.out.c0
              have x1 := Na.out.c1
              have x2 := Na.out.c2
              have y0 := Nb.out.c0
              have y1 := Nb.out.c1
              have y2 := Nb.out.c2
              dsimp only at x0 x1 x2 y0 y1 y2
              dsimp only
              go_wp2_with fail
              refine (of_at _ ⟨ol, oh, oo⟩ _ (by omega) HC.out.2.2.2.2.2.2.2.2.2.1).mono ?_
              rintro e k6 ⟨rfl, hb⟩
              clear x0 x1 x2 y0 y1 y2
              replace Hbel := Lib.hid (Hbel.out.trans (hb.mono Hbel.out.size))
              replace Na := Lib.hid (Na.out.ext hb)
              replace Nb := Lib.hid (Nb.out.ext hb)
              clear hb
              have x0 := Na.out.c0
              have x1 := Na.out.c1
              have x2 := Na.out.c2
              have y0 := Nb.out.c0
              have y1 := Nb.out.c1
              have y2 := Nb.out.c2
              dsimp only at x0 x1 x2 y0 y1 y2
              dsimp only
              go_wp2_with fail
              refine (with_at ⟨ql, qh, qo⟩ ⟨ol, oh, oo⟩ true _ HC.out.2.2.2.2.2.2.2.2.2.2.2.1).mono ?_
              rintro e k7 ⟨rfl, hb⟩
              clear x0 x1 x2 y0 y1 y2
              replace Hbel := Lib.hid (Hbel.out.trans (hb.mono Hbel.out.size))
              replace Na := Lib.hid (Na.out.ext hb)
              replace Nb := Lib.hid (Nb.out.ext hb)
              clear hb
              have x0 := Na.out.c0
              have x1 := Na.out.c1
              have x2 := Na.out.c2
              have y0 := Nb.out.c0
              have y1 := Nb.out.c1
              have y2 := Nb.out.c2
              dsimp only at x0 x1 x2 y0 y1 y2
              go_wp2_with fail
              refine (sure_any _ (HG.out.below Hbel.out)).mono ?_
              rintro e k8 ⟨rfl, hb⟩
              clear x0 x1 x2 y0 y1 y2
              replace Hbel := Lib.hid (Hbel.out.trans (hb.mono Hbel.out.size))
              replace Na := Lib.hid (Na.out.ext hb)
              replace Nb := Lib.hid (Nb.out.ext hb)
              clear hb
              have x0 := Na.out.c0
              have x1 := Na.out.c1
              have x2 := Na.out.c2
              have y0 := Nb.out.c0
              have y1 := Nb.out.c1
              have y2 := Nb.out.c2
              dsimp only at x0 x1 x2 y0 y1 y2
              go_wp2_with fail
              go_ret
              exact ⟨rfl, Hbel.out⟩
            | false => as_aux_lemma =>
              have hM : hasS (meetS ⟨lo, hi, op⟩ ⟨lo2, hi2, op2⟩) key = false := by rw [HM.out, hX]; rfl
              have hY := hX
              obtain ⟨⟨ml, mh, mo⟩, hme⟩ : ∃ s, meetS ⟨lo, hi, op⟩ ⟨lo2, hi2, op2⟩ = s := ⟨_, rfl⟩
              rw [hme] at hM
              have hL := hX
              obtain ⟨HV, hH⟩ : ∃ V, begS key pre = V := ⟨_, rfl⟩
              have hHO := HHO.out.trans hH
              obtain ⟨⟨ol, oh, oo⟩, hof⟩ : ∃ s, ofS pre = s := ⟨_, rfl⟩
              rw [hof] at hHO
              obtain ⟨PK, hPK⟩ : ∃ s, pre ++ key = s := ⟨_, rfl⟩
              have hWO := HWO.out
              rw [hPK, hof] at hWO
              have zpk : PK.size ≤ 600 := by rw [← hPK, ByteArray.size_append]; omega
              obtain ⟨⟨ql, qh, qo⟩, hqf⟩ : ∃ s, ofS PK = s := ⟨_, rfl⟩
              rw [hqf] at hWO
              obtain ⟨NV, hN⟩ : ∃ N, nextS key = N := ⟨_, rfl⟩
              have hNL := HNL.out
              have hNN := HNN.out
              rw [hN] at hNL hNN
              have hQ := hP
              have HC := Lib.hid (And.intro hX (And.intro hW (And.intro hE (And.intro hY (And.intro hM (And.intro hme (And.intro hL (And.intro hH (And.intro hHO (And.intro hof (And.intro hPK (And.intro hWO (And.intro hqf (And.intro hN (And.intro hNL (And.intro hP hQ))))))))))))))))
              clear hX hW hE hY hM hme hL hH hHO hof hPK hWO hqf hN hNL hP hQ hNN HM HWH HEH HNE HHO HNL HNN HWO
              refine wp_region_gr [(0, true), (2, true), (4, true), (5, true), (1, false), (3, false), (6, false), (7, true), (8, true), (9, true), (10, true), (12, true), (14, true), (15, true), (11, false), (13, false), (16, false), (17, true), (18, true), (19, true), (20, false), (21, true), (22, true), (23, true)] (by kernel_rfl) (by kernel_rfl) (by kernel_rfl) (by kernel_rfl) (fun _ _ _ _ _ h => h) ?_
              replace Hbel := Lib.hid Hbel.out.drew
              replace Na : Hid (SpIn v.drew px SPT ⟨lo, hi, op⟩) := Na.out
              replace Nb : Hid (SpIn v.drew py SPT ⟨lo2, hi2, op2⟩) := Nb.out
              generalize v.drew = g0 at *
              have x0 : ∀ w', Ext g0 w' → w'.cell? ⟨px, 0, none⟩ = some (.string lo) := fun w' h => (Na.out.ext h).c0
              have x1 : ∀ w', Ext g0 w' → w'.cell? ⟨px, 1, none⟩ = some (.string hi) := fun w' h => (Na.out.ext h).c1
              have x2 : ∀ w', Ext g0 w' → w'.cell? ⟨px, 2, none⟩ = some (.bool op) := fun w' h => (Na.out.ext h).c2
              have y0 : ∀ w', Ext g0 w' → w'.cell? ⟨py, 0, none⟩ = some (.string lo2) := fun w' h => (Nb.out.ext h).c0
              have y1 : ∀ w', Ext g0 w' → w'.cell? ⟨py, 1, none⟩ = some (.string hi2) := fun w' h => (Nb.out.ext h).c1
              have y2 : ∀ w', Ext g0 w' → w'.cell? ⟨py, 2, none⟩ = some (.bool op2) := fun w' h => (Nb.out.ext h).c2
              iterate 4 (refine wpGr_read (o := ⟨_, _, _, _, _, _⟩) (v := ?_) rfl (by rfl) ?_ ?_; rotate_left; (intro w' hw'; go_simp; with_reducible rfl); simp only [Act.put, List.setIfInBounds_toArray, List.set_cons_zero, List.set_cons_succ])
              refine wpGr_call (o := ⟨_, _, _, _, _, _⟩) rfl (by rfl) (fun K hK => ?_)
              go_simp
              refine (of_at _ ⟨ol, oh, oo⟩ _ (by omega) HC.out.2.2.2.2.2.2.2.2.2.1).mono ?_
              rintro e g1 ⟨rfl, hb⟩
              refine hK _ _ hb ?_
              clear hK K
              clear x0 x1 x2 y0 y1 y2
              replace Hbel := Lib.hid (Hbel.out.trans (hb.mono Hbel.out.size))
              replace Na := Lib.hid (Na.out.ext hb)
              replace Nb := Lib.hid (Nb.out.ext hb)
              clear hb
              have x0 : ∀ w', Ext g1 w' → w'.cell? ⟨px, 0, none⟩ = some (.string lo) := fun w' h => (Na.out.ext h).c0
              have x1 : ∀ w', Ext g1 w' → w'.cell? ⟨px, 1, none⟩ = some (.string hi) := fun w' h => (Na.out.ext h).c1
              have x2 : ∀ w', Ext g1 w' → w'.cell? ⟨px, 2, none⟩ = some (.bool op) := fun w' h => (Na.out.ext h).c2
              have y0 : ∀ w', Ext g1 w' → w'.cell? ⟨py, 0, none⟩ = some (.string lo2) := fun w' h => (Nb.out.ext h).c0
              have y1 : ∀ w', Ext g1 w' → w'.cell? ⟨py, 1, none⟩ = some (.string hi2) := fun w' h => (Nb.out.ext h).c1
              have y2 : ∀ w', Ext g1 w' → w'.cell? ⟨py, 2, none⟩ = some (.bool op2) := fun w' h => (Nb.out.ext h).c2
              dsimp only
              refine wpGr_call (o := ⟨_, _, _, _, _, _⟩) rfl (by rfl) (fun K hK => ?_)
              go_simp
              refine (has_at _ _ _ _ HV _ HC.out.2.2.2.2.2.2.2.2.1).mono ?_
              rintro e g2 ⟨rfl, hb⟩
              refine hK _ _ hb ?_
              clear hK K
              clear x0 x1 x2 y0 y1 y2
              replace Hbel := Lib.hid (Hbel.out.trans (hb.mono Hbel.out.size))
              replace Na := Lib.hid (Na.out.ext hb)
              replace Nb := Lib.hid (Nb.out.ext hb)
              clear hb
              have x0 : ∀ w', Ext g2 w' → w'.cell? ⟨px, 0, none⟩ = some (.string lo) := fun w' h => (Na.out.ext h).c0
              have x1 : ∀ w', Ext g2 w' → w'.cell? ⟨px, 1, none⟩ = some (.string hi) := fun w' h => (Na.out.ext h).c1
              have x2 : ∀ w', Ext g2 w' → w'.cell? ⟨px, 2, none⟩ = some (.bool op) := fun w' h => (Na.out.ext h).c2
              have y0 : ∀ w', Ext g2 w' → w'.cell? ⟨py, 0, none⟩ = some (.string lo2) := fun w' h => (Nb.out.ext h).c0
              have y1 : ∀ w', Ext g2 w' → w'.cell? ⟨py, 1, none⟩ = some (.string hi2) := fun w' h => (Nb.out.ext h).c1
              have y2 : ∀ w', Ext g2 w' → w'.cell? ⟨py, 2, none⟩ = some (.bool op2) := fun w' h => (Nb.out.ext h).c2
              refine wpGr_call (o := ⟨_, _, _, _, _, _⟩) rfl (by rfl) (fun K hK => ?_)
              go_simp
              refine (begins_at _ _ HV _ HC.out.2.2.2.2.2.2.2.1).mono ?_
              rintro e w' ⟨rfl, rfl⟩
              refine hK _ _ (Ext.refl _) ?_
              clear hK K
              iterate 7 (refine wpGr_read (o := ⟨_, _, _, _, _, _⟩) (v := ?_) rfl (by rfl) ?_ ?_; rotate_left; (intro w' hw'; go_simp; with_reducible rfl); simp only [Act.put, List.setIfInBounds_toArray, List.set_cons_zero, List.set_cons_succ])
              refine wpGr_call (o := ⟨_, _, _, _, _, _⟩) rfl (by rfl) (fun K hK => ?_)
              go_simp
              refine (meet_at ⟨lo, hi, op⟩ ⟨lo2, hi2, op2⟩ ⟨ml, mh, mo⟩ _ HC.out.2.2.2.2.2.1).mono ?_
              rintro e g3 ⟨rfl, hb⟩
              refine hK _ _ hb ?_
              clear hK K
              clear x0 x1 x2 y0 y1 y2
              replace Hbel := Lib.hid (Hbel.out.trans (hb.mono Hbel.out.size))
              replace Na := Lib.hid (Na.out.ext hb)
              replace Nb := Lib.hid (Nb.out.ext hb)
              clear hb
              have x0 : ∀ w', Ext g3 w' → w'.cell? ⟨px, 0, none⟩ = some (.string lo) := fun w' h => (Na.out.ext h).c0
              have x1 : ∀ w', Ext g3 w' → w'.cell? ⟨px, 1, none⟩ = some (.string hi) := fun w' h => (Na.out.ext h).c1
              have x2 : ∀ w', Ext g3 w' → w'.cell? ⟨px, 2, none⟩ = some (.bool op) := fun w' h => (Na.out.ext h).c2
              have y0 : ∀ w', Ext g3 w' → w'.cell? ⟨py, 0, none⟩ = some (.string lo2) := fun w' h => (Nb.out.ext h).c0
              have y1 : ∀ w', Ext g3 w' → w'.cell? ⟨py, 1, none⟩ = some (.string hi2) := fun w' h => (Nb.out.ext h).c1
              have y2 : ∀ w', Ext g3 w' → w'.cell? ⟨py, 2, none⟩ = some (.bool op2) := fun w' h => (Nb.out.ext h).c2
              dsimp only
              refine wpGr_call (o := ⟨_, _, _, _, _, _⟩) rfl (by rfl) (fun K hK => ?_)
              go_simp
              refine (has_at _ _ _ _ false _ HC.out.2.2.2.2.1).mono ?_
              rintro e g4 ⟨rfl, hb⟩
              refine hK _ _ hb ?_
              clear hK K
              clear x0 x1 x2 y0 y1 y2
              replace Hbel := Lib.hid (Hbel.out.trans (hb.mono Hbel.out.size))
              replace Na := Lib.hid (Na.out.ext hb)
              replace Nb := Lib.hid (Nb.out.ext hb)
              clear hb
              have x0 : ∀ w', Ext g4 w' → w'.cell? ⟨px, 0, none⟩ = some (.string lo) := fun w' h => (Na.out.ext h).c0
              have x1 : ∀ w', Ext g4 w' → w'.cell? ⟨px, 1, none⟩ = some (.string hi) := fun w' h => (Na.out.ext h).c1
              have x2 : ∀ w', Ext g4 w' → w'.cell? ⟨px, 2, none⟩ = some (.bool op) := fun w' h => (Na.out.ext h).c2
              have y0 : ∀ w', Ext g4 w' → w'.cell? ⟨py, 0, none⟩ = some (.string lo2) := fun w' h => (Nb.out.ext h).c0
              have y1 : ∀ w', Ext g4 w' → w'.cell? ⟨py, 1, none⟩ = some (.string hi2) := fun w' h => (Nb.out.ext h).c1
              have y2 : ∀ w', Ext g4 w' → w'.cell? ⟨py, 2, none⟩ = some (.bool op2) := fun w' h => (Nb.out.ext h).c2
              refine wpGr_call (o := ⟨_, _, _, _, _, _⟩) rfl (by rfl) (fun K hK => ?_)
              go_simp
              refine (has_at _ _ _ _ false _ HC.out.1).mono ?_
              rintro e g5 ⟨rfl, hb⟩
              refine hK _ _ hb ?_
              clear hK K
              clear x0 x1 x2 y0 y1 y2
              replace Hbel := Lib.hid (Hbel.out.trans (hb.mono Hbel.out.size))
              replace Na := Lib.hid (Na.out.ext hb)
              replace Nb := Lib.hid (Nb.out.ext hb)
              clear hb
              have x0 : ∀ w', Ext g5 w' → w'.cell? ⟨px, 0, none⟩ = some (.string lo) := fun w' h => (Na.out.ext h).c0
              have x1 : ∀ w', Ext g5 w' → w'.cell? ⟨px, 1, none⟩ = some (.string hi) := fun w' h => (Na.out.ext h).c1
              have x2 : ∀ w', Ext g5 w' → w'.cell? ⟨px, 2, none⟩ = some (.bool op) := fun w' h => (Na.out.ext h).c2
              have y0 : ∀ w', Ext g5 w' → w'.cell? ⟨py, 0, none⟩ = some (.string lo2) := fun w' h => (Nb.out.ext h).c0
              have y1 : ∀ w', Ext g5 w' → w'.cell? ⟨py, 1, none⟩ = some (.string hi2) := fun w' h => (Nb.out.ext h).c1
              have y2 : ∀ w', Ext g5 w' → w'.cell? ⟨py, 2, none⟩ = some (.bool op2) := fun w' h => (Nb.out.ext h).c2
              iterate 1 (refine wpGr_read (o := ⟨_, _, _, _, _, _⟩) (v := ?_) rfl (by rfl) ?_ ?_; rotate_left; (intro w' hw'; go_simp; with_reducible rfl); simp only [Act.put, List.setIfInBounds_toArray, List.set_cons_zero, List.set_cons_succ])
              iterate 2 (refine wpGr_skip (o := ⟨_, _, _, _, _, _⟩) rfl (by rfl) ?_; simp only [Act.put, List.setIfInBounds_toArray, List.set_cons_zero, List.set_cons_succ])
              refine wpGr_skipCall (o := ⟨_, _, _, _, _, _⟩) rfl (by rfl) ?_
              simp only [Act.put, List.setIfInBounds_toArray, List.set_cons_zero, List.set_cons_succ]
              iterate 3 (refine wpGr_read (o := ⟨_, _, _, _, _, _⟩) (v := ?_) rfl (by rfl) ?_ ?_; rotate_left; (intro w' hw'; go_simp; with_reducible rfl); simp only [Act.put, List.setIfInBounds_toArray, List.set_cons_zero, List.set_cons_succ])
              clear x0 x1 x2 y0 y1 y2
              refine wpGr_done ?_
              have x0 := Na.out.c0
              have x1 := Na.out.c1
              have x2 := Na.out.c2
              have y0 := Nb.out.c0
              have y1 := Nb.out.c1
              have y2 := Nb.out.c2
              dsimp only at x0 x1 x2 y0 y1 y2
              go_wp2_with fail
              refine (with_at ⟨lo, hi, op⟩ ⟨lo2, hi2, op2⟩ false _ HC.out.2.1).mono ?_
              rintro e k1 ⟨rfl, hb⟩
              clear x0 x1 x2 y0 y1 y2
              replace Hbel := Lib.hid (Hbel.out.trans (hb.mono Hbel.out.size))
              replace Na := Lib.hid (Na.out.ext hb)
              replace Nb := Lib.hid (Nb.out.ext hb)
              clear hb
              have x0 := Na.out.c0
              have x1 := Na.out.c1
              have x2 := Na.out.c2
              have y0 := Nb.out.c0
              have y1 := Nb.out.c1
              have y2 := Nb.out.c2
              dsimp only at x0 x1 x2 y0 y1 y2
              go_wp2_with fail
              refine (emp_at _ _ _ true _ HC.out.2.2.1).mono ?_
              rintro e k2 ⟨rfl, hb⟩
              clear x0 x1 x2 y0 y1 y2
              replace Hbel := Lib.hid (Hbel.out.trans (hb.mono Hbel.out.size))
              replace Na := Lib.hid (Na.out.ext hb)
              replace Nb := Lib.hid (Nb.out.ext hb)
              clear hb
              have x0 := Na.out.c0
              have x1 := Na.out.c1
              have x2 := Na.out.c2
              have y0 := Nb.out.c0
              have y1 := Nb.out.c1
              have y2 := Nb.out.c2
              dsimp only at x0 x1 x2 y0 y1 y2
              go_wp2_with fail
              refine (has_at _ _ _ _ false _ HC.out.1).mono ?_
              rintro e k3 ⟨rfl, hb⟩
              clear x0 x1 x2 y0 y1 y2
              replace Hbel := Lib.hid (Hbel.out.trans (hb.mono Hbel.out.size))
              replace Na := Lib.hid (Na.out.ext hb)
              replace Nb := Lib.hid (Nb.out.ext hb)
              clear hb
              have x0 := Na.out.c0
              have x1 := Na.out.c1
              have x2 := Na.out.c2
              have y0 := Nb.out.c0
              have y1 := Nb.out.c1
              have y2 := Nb.out.c2
              dsimp only at x0 x1 x2 y0 y1 y2
              go_wp2_with fail
              refine (emp_at _ _ _ true _ HC.out.2.2.1).mono ?_
              rintro e k4 ⟨rfl, hb⟩
              clear x0 x1 x2 y0 y1 y2
              replace Hbel := Lib.hid (Hbel.out.trans (hb.mono Hbel.out.size))
              replace Na := Lib.hid (Na.out.ext hb)
              replace Nb := Lib.hid (Nb.out.ext hb)
              clear hb
              have x0 := Na.out.c0
              have x1 := Na.out.c1
              have x2 := Na.out.c2
              have y0 := Nb.out.c0
              have y1 := Nb.out.c1
              have y2 := Nb.out.c2
              dsimp only at x0 x1 x2 y0 y1 y2
              go_wp2_with fail
              refine (next_at _ NV _ (by omega) HC.out.2.2.2.2.2.2.2.2.2.2.2.2.2.1).mono ?_
              rintro e w' ⟨rfl, rfl⟩
              have l1 := bl_less HC.out.2.2.2.2.2.2.2.2.2.2.2.2.2.2.1
              have l2 := bl_less HC.out.2.2.2.2.2.2.2.2.2.2.2.2.2.2.2.1
              have n1 : ¬ (9223372036854775807 < pre.size + key.size) := by omega
              have n2 : pre ++ key = PK := HC.out.2.2.2.2.2.2.2.2.2.2.1
              go_wp2_with fail
              refine (of_at _ ⟨ql, qh, qo⟩ _ (by omega) HC.out.2.2.2.2.2.2.2.2.2.2.2.2.1).mono ?_
              rintro e k5 ⟨rfl, hb⟩
              clear x0 x1 x2 y0 y1 y2
              replace Hbel := Lib.hid (Hbel.out.trans (hb.mono Hbel.out.size))
              replace Na := Lib.hid (Na.out.ext hb)
              replace Nb := Lib.hid (Nb.out.ext hb)
              clear hb
              have x0 := Na.out.c0
              have x1 := Na.out.c1
              have x2 := Na.out.c2
              have y0 := Nb.out.c0
              have y1 := Nb.out.c1
              have y2 := Nb.out.c2
              dsimp only at x0 x1 x2 y0 y1 y2
              dsimp only
              go_wp2_with fail
              refine (of_at _ ⟨ol, oh, oo⟩ _ (by omega) HC.out.2.2.2.2.2.2.2.2.2.1).mono ?_
              rintro e k6 ⟨rfl, hb⟩
              clear x0 x1 x2 y0 y1 y2
              replace Hbel := Lib.hid (Hbel.out.trans (hb.mono Hbel.out.size))
              replace Na := Lib.hid (Na.out.ext hb)
              replace Nb := Lib.hid (Nb.out.ext hb)
              clear hb
              have x0 := Na.out.c0
              have x1 := Na.out.c1
              have x2 := Na.out.c2
              have y0 := Nb.out.c0
              have y1 := Nb.out.c1
              have y2 := Nb.out.c2
              dsimp only at x0 x1 x2 y0 y1 y2
              dsimp only
              go_wp2_with fail
              refine (with_at ⟨ql, qh, qo⟩ ⟨ol, oh, oo⟩ true _ HC.out.2.2.2.2.2.2.2.2.2.2.2.1).mono ?_
              rintro e k7 ⟨rfl, hb⟩
              clear x0 x1 x2 y0 y1 y2
              replace Hbel := Lib.hid (Hbel.out.trans (hb.mono Hbel.out.size))
              replace Na := Lib.hid (Na.out.ext hb)
              replace Nb := Lib.hid (Nb.out.ext hb)
              clear hb
              have x0 := Na.out.c0
              have x1 := Na.out.c1
              have x2 := Na.out.c2
              have y0 := Nb.out.c0
              have y1 := Nb.out.c1
              have y2 := Nb.out.c2
              dsimp only at x0 x1 x2 y0 y1 y2
              go_wp2_with fail
              refine (sure_any _ (HG.out.below Hbel.out)).mono ?_
              rintro e k8 ⟨rfl, hb⟩
              clear x0 x1 x2 y0 y1 y2
              replace Hbel := Lib.hid (Hbel.out.trans (hb.mono Hbel.out.size))
              replace Na := Lib.hid (Na.out.ext hb)
              replace Nb := Lib.hid (Nb.out.ext hb)
              clear hb
              have x0 := Na.out.c0
              have x1 := Na.out.c1
              have x2 := Na.out.c2
              have y0 := Nb.out.c0
              have y1 := Nb.out.c1
              have y2 := Nb.out.c2
              dsimp only at x0 x1 x2 y0 y1 y2
              go_wp2_with fail
              go_ret
              exact ⟨rfl, Hbel.out⟩
        | false =>
          cases hW : withS ⟨lo, hi, op⟩ ⟨lo2, hi2, op2⟩ with
          | true =>
            cases hP : blt key pre with
            | true => as_aux_lemma =>
              have hM : hasS (meetS ⟨lo, hi, op⟩ ⟨lo2, hi2, op2⟩) key = false := by rw [HM.out, hX]; rfl
              have hY := hX
              obtain ⟨⟨ml, mh, mo⟩, hme⟩ : ∃ s, meetS ⟨lo, hi, op⟩ ⟨lo2, hi2, op2⟩ = s := ⟨_, rfl⟩
              rw [hme] at hM
              have hL : hasS ⟨lo, hi, op⟩ lo = true := HNE.out hE
              obtain ⟨HV, hH⟩ : ∃ V, begS key pre = V := ⟨_, rfl⟩
              have hHO := HHO.out.trans hH
              obtain ⟨⟨ol, oh, oo⟩, hof⟩ : ∃ s, ofS pre = s := ⟨_, rfl⟩
              rw [hof] at hHO
              obtain ⟨PK, hPK⟩ : ∃ s, pre ++ key = s := ⟨_, rfl⟩
              have hWO := HWO.out
              rw [hPK, hof] at hWO
              have zpk : PK.size ≤ 600 := by rw [← hPK, ByteArray.size_append]; omega
              obtain ⟨⟨ql, qh, qo⟩, hqf⟩ : ∃ s, ofS PK = s := ⟨_, rfl⟩
              rw [hqf] at hWO
              obtain ⟨NV, hN⟩ : ∃ N, nextS key = N := ⟨_, rfl⟩
              have hNL := HNL.out
              have hNN := HNN.out
              rw [hN] at hNL hNN
              have hQ : blt pre NV = false := by rw [hP] at hNN; simpa using hNN
              have HC := Lib.hid (And.intro hX (And.intro hW (And.intro hE (And.intro hY (And.intro hM (And.intro hme (And.intro hL (And.intro hH (And.intro hHO (And.intro hof (And.intro hPK (And.intro hWO (And.intro hqf (And.intro hN (And.intro hNL (And.intro hP hQ))))))))))))))))
              clear hX hW hE hY hM hme hL hH hHO hof hPK hWO hqf hN hNL hP hQ hNN HM HWH HEH HNE HHO HNL HNN HWO
              refine wp_region_gr [(0, true), (2, true), (4, true), (5, true), (1, false), (3, false), (6, false), (7, true), (8, true), (9, true), (10, true), (12, true), (14, true), (15, true), (11, false), (13, false), (16, false), (17, true), (18, true), (19, true), (20, false), (21, true), (22, true), (23, true)] (by kernel_rfl) (by kernel_rfl) (by kernel_rfl) (by kernel_rfl) (fun _ _ _ _ _ h => h) ?_
              replace Hbel := Lib.hid Hbel.out.drew
              replace Na : Hid (SpIn v.drew px SPT ⟨lo, hi, op⟩) := Na.out
              replace Nb : Hid (SpIn v.drew py SPT ⟨lo2, hi2, op2⟩) := Nb.out
              generalize v.drew = g0 at *
              have x0 : ∀ w', Ext g0 w' → w'.cell? ⟨px, 0, none⟩ = some (.string lo) := fun w' h => (Na.out.ext h).c0
              have x1 : ∀ w', Ext g0 w' → w'.cell? ⟨px, 1, none⟩ = some (.string hi) := fun w' h => (Na.out.ext h).c1
              have x2 : ∀ w', Ext g0 w' → w'.cell? ⟨px, 2, none⟩ = some (.bool op) := fun w' h => (Na.out.ext h).c2
              have y0 : ∀ w', Ext g0 w' → w'.cell? ⟨py, 0, none⟩ = some (.string lo2) := fun w' h => (Nb.out.ext h).c0
              have y1 : ∀ w', Ext g0 w' → w'.cell? ⟨py, 1, none⟩ = some (.string hi2) := fun w' h => (Nb.out.ext h).c1
              have y2 : ∀ w', Ext g0 w' → w'.cell? ⟨py, 2, none⟩ = some (.bool op2) := fun w' h => (Nb.out.ext h).c2
              iterate 4 (refine wpGr_read (o := ⟨_, _, _, _, _, _⟩) (v := ?_) rfl (by rfl) ?_ ?_; rotate_left; (intro w' hw'; go_simp; with_reducible rfl); simp only [Act.put, List.setIfInBounds_toArray, List.set_cons_zero, List.set_cons_succ])
              refine wpGr_call (o := ⟨_, _, _, _, _, _⟩) rfl (by rfl) (fun K hK => ?_)
              go_simp
              refine (of_at _ ⟨ol, oh, oo⟩ _ (by omega) HC.out.2.2.2.2.2.2.2.2.2.1).mono ?_
              rintro e g1 ⟨rfl, hb⟩
              refine hK _ _ hb ?_
              clear hK K
              clear x0 x1 x2 y0 y1 y2
              replace Hbel := Lib.hid (Hbel.out.trans (hb.mono Hbel.out.size))
              replace Na := Lib.hid (Na.out.ext hb)
              replace Nb := Lib.hid (Nb.out.ext hb)
              clear hb
              have x0 : ∀ w', Ext g1 w' → w'.cell? ⟨px, 0, none⟩ = some (.string lo) := fun w' h => (Na.out.ext h).c0
              have x1 : ∀ w', Ext g1 w' → w'.cell? ⟨px, 1, none⟩ = some (.string hi) := fun w' h => (Na.out.ext h).c1
              have x2 : ∀ w', Ext g1 w' → w'.cell? ⟨px, 2, none⟩ = some (.bool op) := fun w' h => (Na.out.ext h).c2
              have y0 : ∀ w', Ext g1 w' → w'.cell? ⟨py, 0, none⟩ = some (.string lo2) := fun w' h => (Nb.out.ext h).c0
              have y1 : ∀ w', Ext g1 w' → w'.cell? ⟨py, 1, none⟩ = some (.string hi2) := fun w' h => (Nb.out.ext h).c1
              have y2 : ∀ w', Ext g1 w' → w'.cell? ⟨py, 2, none⟩ = some (.bool op2) := fun w' h => (Nb.out.ext h).c2
              dsimp only
              refine wpGr_call (o := ⟨_, _, _, _, _, _⟩) rfl (by rfl) (fun K hK => ?_)
              go_simp
              refine (has_at _ _ _ _ HV _ HC.out.2.2.2.2.2.2.2.2.1).mono ?_
              rintro e g2 ⟨rfl, hb⟩
              refine hK _ _ hb ?_
              clear hK K
              clear x0 x1 x2 y0 y1 y2
              replace Hbel := Lib.hid (Hbel.out.trans (hb.mono Hbel.out.size))
              replace Na := Lib.hid (Na.out.ext hb)
              replace Nb := Lib.hid (Nb.out.ext hb)
              clear hb
              have x0 : ∀ w', Ext g2 w' → w'.cell? ⟨px, 0, none⟩ = some (.string lo) := fun w' h => (Na.out.ext h).c0
              have x1 : ∀ w', Ext g2 w' → w'.cell? ⟨px, 1, none⟩ = some (.string hi) := fun w' h => (Na.out.ext h).c1
              have x2 : ∀ w', Ext g2 w' → w'.cell? ⟨px, 2, none⟩ = some (.bool op) := fun w' h => (Na.out.ext h).c2
              have y0 : ∀ w', Ext g2 w' → w'.cell? ⟨py, 0, none⟩ = some (.string lo2) := fun w' h => (Nb.out.ext h).c0
              have y1 : ∀ w', Ext g2 w' → w'.cell? ⟨py, 1, none⟩ = some (.string hi2) := fun w' h => (Nb.out.ext h).c1
              have y2 : ∀ w', Ext g2 w' → w'.cell? ⟨py, 2, none⟩ = some (.bool op2) := fun w' h => (Nb.out.ext h).c2
              refine wpGr_call (o := ⟨_, _, _, _, _, _⟩) rfl (by rfl) (fun K hK => ?_)
              go_simp
              refine (begins_at _ _ HV _ HC.out.2.2.2.2.2.2.2.1).mono ?_
              rintro e w' ⟨rfl, rfl⟩
              refine hK _ _ (Ext.refl _) ?_
              clear hK K
              iterate 7 (refine wpGr_read (o := ⟨_, _, _, _, _, _⟩) (v := ?_) rfl (by rfl) ?_ ?_; rotate_left; (intro w' hw'; go_simp; with_reducible rfl); simp only [Act.put, List.setIfInBounds_toArray, List.set_cons_zero, List.set_cons_succ])
              refine wpGr_call (o := ⟨_, _, _, _, _, _⟩) rfl (by rfl) (fun K hK => ?_)
              go_simp
              refine (meet_at ⟨lo, hi, op⟩ ⟨lo2, hi2, op2⟩ ⟨ml, mh, mo⟩ _ HC.out.2.2.2.2.2.1).mono ?_
              rintro e g3 ⟨rfl, hb⟩
              refine hK _ _ hb ?_
              clear hK K
              clear x0 x1 x2 y0 y1 y2
              replace Hbel := Lib.hid (Hbel.out.trans (hb.mono Hbel.out.size))
              replace Na := Lib.hid (Na.out.ext hb)
              replace Nb := Lib.hid (Nb.out.ext hb)
              clear hb
              have x0 : ∀ w', Ext g3 w' → w'.cell? ⟨px, 0, none⟩ = some (.string lo) := fun w' h => (Na.out.ext h).c0
              have x1 : ∀ w', Ext g3 w' → w'.cell? ⟨px, 1, none⟩ = some (.string hi) := fun w' h => (Na.out.ext h).c1
              have x2 : ∀ w', Ext g3 w' → w'.cell? ⟨px, 2, none⟩ = some (.bool op) := fun w' h => (Na.out.ext h).c2
              have y0 : ∀ w', Ext g3 w' → w'.cell? ⟨py, 0, none⟩ = some (.string lo2) := fun w' h => (Nb.out.ext h).c0
              have y1 : ∀ w', Ext g3 w' → w'.cell? ⟨py, 1, none⟩ = some (.string hi2) := fun w' h => (Nb.out.ext h).c1
              have y2 : ∀ w', Ext g3 w' → w'.cell? ⟨py, 2, none⟩ = some (.bool op2) := fun w' h => (Nb.out.ext h).c2
              dsimp only
              refine wpGr_call (o := ⟨_, _, _, _, _, _⟩) rfl (by rfl) (fun K hK => ?_)
              go_simp
              refine (has_at _ _ _ _ false _ HC.out.2.2.2.2.1).mono ?_
              rintro e g4 ⟨rfl, hb⟩
              refine hK _ _ hb ?_
              clear hK K
              clear x0 x1 x2 y0 y1 y2
              replace Hbel := Lib.hid (Hbel.out.trans (hb.mono Hbel.out.size))
              replace Na := Lib.hid (Na.out.ext hb)
              replace Nb := Lib.hid (Nb.out.ext hb)
              clear hb
              have x0 : ∀ w', Ext g4 w' → w'.cell? ⟨px, 0, none⟩ = some (.string lo) := fun w' h => (Na.out.ext h).c0
              have x1 : ∀ w', Ext g4 w' → w'.cell? ⟨px, 1, none⟩ = some (.string hi) := fun w' h => (Na.out.ext h).c1
              have x2 : ∀ w', Ext g4 w' → w'.cell? ⟨px, 2, none⟩ = some (.bool op) := fun w' h => (Na.out.ext h).c2
              have y0 : ∀ w', Ext g4 w' → w'.cell? ⟨py, 0, none⟩ = some (.string lo2) := fun w' h => (Nb.out.ext h).c0
              have y1 : ∀ w', Ext g4 w' → w'.cell? ⟨py, 1, none⟩ = some (.string hi2) := fun w' h => (Nb.out.ext h).c1
              have y2 : ∀ w', Ext g4 w' → w'.cell? ⟨py, 2, none⟩ = some (.bool op2) := fun w' h => (Nb.out.ext h).c2
              refine wpGr_call (o := ⟨_, _, _, _, _, _⟩) rfl (by rfl) (fun K hK => ?_)
              go_simp
              refine (has_at _ _ _ _ false _ HC.out.1).mono ?_
              rintro e g5 ⟨rfl, hb⟩
              refine hK _ _ hb ?_
              clear hK K
              clear x0 x1 x2 y0 y1 y2
              replace Hbel := Lib.hid (Hbel.out.trans (hb.mono Hbel.out.size))
              replace Na := Lib.hid (Na.out.ext hb)
              replace Nb := Lib.hid (Nb.out.ext hb)
              clear hb
              have x0 : ∀ w', Ext g5 w' → w'.cell? ⟨px, 0, none⟩ = some (.string lo) := fun w' h => (Na.out.ext h).c0
              have x1 : ∀ w', Ext g5 w' → w'.cell? ⟨px, 1, none⟩ = some (.string hi) := fun w' h => (Na.out.ext h).c1
              have x2 : ∀ w', Ext g5 w' → w'.cell? ⟨px, 2, none⟩ = some (.bool op) := fun w' h => (Na.out.ext h).c2
              have y0 : ∀ w', Ext g5 w' → w'.cell? ⟨py, 0, none⟩ = some (.string lo2) := fun w' h => (Nb.out.ext h).c0
              have y1 : ∀ w', Ext g5 w' → w'.cell? ⟨py, 1, none⟩ = some (.string hi2) := fun w' h => (Nb.out.ext h).c1
              have y2 : ∀ w', Ext g5 w' → w'.cell? ⟨py, 2, none⟩ = some (.bool op2) := fun w' h => (Nb.out.ext h).c2
              iterate 1 (refine wpGr_read (o := ⟨_, _, _, _, _, _⟩) (v := ?_) rfl (by rfl) ?_ ?_; rotate_left; (intro w' hw'; go_simp; with_reducible rfl); simp only [Act.put, List.setIfInBounds_toArray, List.set_cons_zero, List.set_cons_succ])
              iterate 2 (refine wpGr_skip (o := ⟨_, _, _, _, _, _⟩) rfl (by rfl) ?_; simp only [Act.put, List.setIfInBounds_toArray, List.set_cons_zero, List.set_cons_succ])
              refine wpGr_skipCall (o := ⟨_, _, _, _, _, _⟩) rfl (by rfl) ?_
              simp only [Act.put, List.setIfInBounds_toArray, List.set_cons_zero, List.set_cons_succ]
              iterate 3 (refine wpGr_read (o := ⟨_, _, _, _, _, _⟩) (v := ?_) rfl (by rfl) ?_ ?_; rotate_left; (intro w' hw'; go_simp; with_reducible rfl); simp only [Act.put, List.setIfInBounds_toArray, List.set_cons_zero, List.set_cons_succ])
              clear x0 x1 x2 y0 y1 y2
              refine wpGr_done ?_
              have x0 := Na.out.c0
              have x1 := Na.out.c1
              have x2 := Na.out.c2
              have y0 := Nb.out.c0
              have y1 := Nb.out.c1
              have y2 := Nb.out.c2
              dsimp only at x0 x1 x2 y0 y1 y2
              go_wp2_with fail
              refine (with_at ⟨lo, hi, op⟩ ⟨lo2, hi2, op2⟩ true _ HC.out.2.1).mono ?_
              rintro e k1 ⟨rfl, hb⟩
              clear x0 x1 x2 y0 y1 y2
              replace Hbel := Lib.hid (Hbel.out.trans (hb.mono Hbel.out.size))
              replace Na := Lib.hid (Na.out.ext hb)
              replace Nb := Lib.hid (Nb.out.ext hb)
              clear hb
              have x0 := Na.out.c0
              have x1 := Na.out.c1
              have x2 := Na.out.c2
              have y0 := Nb.out.c0
              have y1 := Nb.out.c1
              have y2 := Nb.out.c2
              dsimp only at x0 x1 x2 y0 y1 y2
              go_wp2_with fail
              refine (has_at _ _ _ _ false _ HC.out.1).mono ?_
              rintro e k2 ⟨rfl, hb⟩
              clear x0 x1 x2 y0 y1 y2
              replace Hbel := Lib.hid (Hbel.out.trans (hb.mono Hbel.out.size))
              replace Na := Lib.hid (Na.out.ext hb)
              replace Nb := Lib.hid (Nb.out.ext hb)
              clear hb
              have x0 := Na.out.c0
              have x1 := Na.out.c1
              have x2 := Na.out.c2
              have y0 := Nb.out.c0
              have y1 := Nb.out.c1
              have y2 := Nb.out.c2
              dsimp only at x0 x1 x2 y0 y1 y2
              go_wp2_with fail
              refine (emp_at _ _ _ false _ HC.out.2.2.1).mono ?_
              rintro e k3 ⟨rfl, hb⟩
              clear x0 x1 x2 y0 y1 y2
              replace Hbel := Lib.hid (Hbel.out.trans (hb.mono Hbel.out.size))
              replace Na := Lib.hid (Na.out.ext hb)
              replace Nb := Lib.hid (Nb.out.ext hb)
              clear hb
              have x0 := Na.out.c0
              have x1 := Na.out.c1
              have x2 := Na.out.c2
              have y0 := Nb.out.c0
              have y1 := Nb.out.c1
              have y2 := Nb.out.c2
              dsimp only at x0 x1 x2 y0 y1 y2
              go_wp2_with fail
              refine (emp_at _ _ _ false _ HC.out.2.2.1).mono ?_
              rintro e k4 ⟨rfl, hb⟩
              clear x0 x1 x2 y0 y1 y2
              replace Hbel := Lib.hid (Hbel.out.trans (hb.mono Hbel.out.size))
              replace Na := Lib.hid (Na.out.ext hb)
              replace Nb := Lib.hid (Nb.out.ext hb)
              clear hb
              have x0 := Na.out.c0
              have x1 := Na.out.c1
              have x2 := Na.out.c2
              have y0 := Nb.out.c0
              have y1 := Nb.out.c1
              have y2 := Nb.out.c2
              dsimp only at x0 x1 x2 y0 y1 y2
              go_wp2_with fail
              refine (has_at _ _ _ _ true _ HC.out.2.2.2.2.2.2.1).mono ?_
              rintro e k5 ⟨rfl, hb⟩
              clear x0 x1 x2 y0 y1 y2
              replace Hbel := Lib.hid (Hbel.out.trans (hb.mono Hbel.out.size))
              replace Na := Lib.hid (Na.out.ext hb)
              replace Nb := Lib.hid (Nb.out.ext hb)
              clear hb
              have x0 := Na.out.c0
              have x1 := Na.out.c1
              have x2 := Na.out.c2
              have y0 := Nb.out.c0
              have y1 := Nb.out.c1
              have y2 := Nb.out.c2
              dsimp only at x0 x1 x2 y0 y1 y2
              go_wp2_with fail
              refine (next_at _ NV _ (by omega) HC.out.2.2.2.2.2.2.2.2.2.2.2.2.2.1).mono ?_
              rintro e w' ⟨rfl, rfl⟩
              have l1 := bl_less HC.out.2.2.2.2.2.2.2.2.2.2.2.2.2.2.1
              have l2 := bl_less HC.out.2.2.2.2.2.2.2.2.2.2.2.2.2.2.2.1
              have l3 := bl_less HC.out.2.2.2.2.2.2.2.2.2.2.2.2.2.2.2.2
              have n1 : ¬ (9223372036854775807 < pre.size + key.size) := by omega
              have n2 : pre ++ key = PK := HC.out.2.2.2.2.2.2.2.2.2.2.1
              go_wp2_with fail
              refine (of_at _ ⟨ql, qh, qo⟩ _ (by omega) HC.out.2.2.2.2.2.2.2.2.2.2.2.2.1).mono ?_
              rintro e k6 ⟨rfl, hb⟩
              clear x0 x1 x2 y0 y1 y2
              replace Hbel := Lib.hid (Hbel.out.trans (hb.mono Hbel.out.size))
              replace Na := Lib.hid (Na.out.ext hb)
              replace Nb := Lib.hid (Nb.out.ext hb)
              clear hb
              have x0 := Na.out.c0
              have x1 := Na.out.c1
              have x2 := Na.out.c2
              have y0 := Nb.out.c0
              have y1 := Nb.out.c1
              have y2 := Nb.out.c2
              dsimp only at x0 x1 x2 y0 y1 y2
              dsimp only
              go_wp2_with fail
              refine (of_at _ ⟨ol, oh, oo⟩ _ (by omega) HC.out.2.2.2.2.2.2.2.2.2.1).mono ?_
              rintro e k7 ⟨rfl, hb⟩
              clear x0 x1 x2 y0 y1 y2
              replace Hbel := Lib.hid (Hbel.out.trans (hb.mono Hbel.out.size))
              replace Na := Lib.hid (Na.out.ext hb)
              replace Nb := Lib.hid (Nb.out.ext hb)
              clear hb
              have x0 := Na.out.c0
              have x1 := Na.out.c1
              have x2 := Na.out.c2
              have y0 := Nb.out.c0
              have y1 := Nb.out.c1
              have y2 := Nb.out.c2
              dsimp only at x0 x1 x2 y0 y1 y2
              dsimp only
              go_wp2_with fail
              refine (with_at ⟨ql, qh, qo⟩ ⟨ol, oh, oo⟩ true _ HC.out.2.2.2.2.2.2.2.2.2.2.2.1).mono ?_
              rintro e k8 ⟨rfl, hb⟩
              clear x0 x1 x2 y0 y1 y2
              replace Hbel := Lib.hid (Hbel.out.trans (hb.mono Hbel.out.size))
              replace Na := Lib.hid (Na.out.ext hb)
              replace Nb := Lib.hid (Nb.out.ext hb)
              clear hb
              have x0 := Na.out.c0
              have x1 := Na.out.c1
              have x2 := Na.out.c2
              have y0 := Nb.out.c0
              have y1 := Nb.out.c1
              have y2 := Nb.out.c2
              dsimp only at x0 x1 x2 y0 y1 y2
              go_wp2_with fail
              refine (sure_any _ (HG.out.below Hbel.out)).mono ?_
              rintro e k9 ⟨rfl, hb⟩
              clear x0 x1 x2 y0 y1 y2
              replace Hbel := Lib.hid (Hbel.out.trans (hb.mono Hbel.out.size))
              replace Na := Lib.hid (Na.out.ext hb)
              replace Nb := Lib.hid (Nb.out.ext hb)
              clear hb
              have x0 := Na.out.c0
              have x1 := Na.out.c1
              have x2 := Na.out.c2
              have y0 := Nb.out.c0
              have y1 := Nb.out.c1
              have y2 := Nb.out.c2
              dsimp only at x0 x1 x2 y0 y1 y2
              go_wp2_with fail
              go_ret
              exact ⟨rfl, Hbel.out⟩
            | false => as_aux_lemma =>
              have hM : hasS (meetS ⟨lo, hi, op⟩ ⟨lo2, hi2, op2⟩) key = false := by rw [HM.out, hX]; rfl
              have hY := hX
              obtain ⟨⟨ml, mh, mo⟩, hme⟩ : ∃ s, meetS ⟨lo, hi, op⟩ ⟨lo2, hi2, op2⟩ = s := ⟨_, rfl⟩
              rw [hme] at hM
              have hL : hasS ⟨lo, hi, op⟩ lo = true := HNE.out hE
              obtain ⟨HV, hH⟩ : ∃ V, begS key pre = V := ⟨_, rfl⟩
              have hHO := HHO.out.trans hH
              obtain ⟨⟨ol, oh, oo⟩, hof⟩ : ∃ s, ofS pre = s := ⟨_, rfl⟩
              rw [hof] at hHO
              obtain ⟨PK, hPK⟩ : ∃ s, pre ++ key = s := ⟨_, rfl⟩
              have hWO := HWO.out
              rw [hPK, hof] at hWO
              have zpk : PK.size ≤ 600 := by rw [← hPK, ByteArray.size_append]; omega
              obtain ⟨⟨ql, qh, qo⟩, hqf⟩ : ∃ s, ofS PK = s := ⟨_, rfl⟩
              rw [hqf] at hWO
              obtain ⟨NV, hN⟩ : ∃ N, nextS key = N := ⟨_, rfl⟩
              have hNL := HNL.out
              have hNN := HNN.out
              rw [hN] at hNL hNN
              have hQ := hP
              have HC := Lib.hid (And.intro hX (And.intro hW (And.intro hE (And.intro hY (And.intro hM (And.intro hme (And.intro hL (And.intro hH (And.intro hHO (And.intro hof (And.intro hPK (And.intro hWO (And.intro hqf (And.intro hN (And.intro hNL (And.intro hP hQ))))))))))))))))
              clear hX hW hE hY hM hme hL hH hHO hof hPK hWO hqf hN hNL hP hQ hNN HM HWH HEH HNE HHO HNL HNN HWO
              refine wp_region_gr [(0, true), (2, true), (4, true), (5, true), (1, false), (3, false), (6, false), (7, true), (8, true), (9, true), (10, true), (12, true), (14, true), (15, true), (11, false), (13, false), (16, false), (17, true), (18, true), (19, true), (20, false), (21, true), (22, true), (23, true)] (by kernel_rfl) (by kernel_rfl) (by kernel_rfl) (by kernel_rfl) (fun _ _ _ _ _ h => h) ?_
              replace Hbel := Lib.hid Hbel.out.drew
              replace Na : Hid (SpIn v.drew px SPT ⟨lo, hi, op⟩) := Na.out
              replace Nb : Hid (SpIn v.drew py SPT ⟨lo2, hi2, op2⟩) := Nb.out
              generalize v.drew = g0 at *
              have x0 : ∀ w', Ext g0 w' → w'.cell? ⟨px, 0, none⟩ = some (.string lo) := fun w' h => (Na.out.ext h).c0
              have x1 : ∀ w', Ext g0 w' → w'.cell? ⟨px, 1, none⟩ = some (.string hi) := fun w' h => (Na.out.ext h).c1
              have x2 : ∀ w', Ext g0 w' → w'.cell? ⟨px, 2, none⟩ = some (.bool op) := fun w' h => (Na.out.ext h).c2
              have y0 : ∀ w', Ext g0 w' → w'.cell? ⟨py, 0, none⟩ = some (.string lo2) := fun w' h => (Nb.out.ext h).c0
              have y1 : ∀ w', Ext g0 w' → w'.cell? ⟨py, 1, none⟩ = some (.string hi2) := fun w' h => (Nb.out.ext h).c1
              have y2 : ∀ w', Ext g0 w' → w'.cell? ⟨py, 2, none⟩ = some (.bool op2) := fun w' h => (Nb.out.ext h).c2
              iterate 4 (refine wpGr_read (o := ⟨_, _, _, _, _, _⟩) (v := ?_) rfl (by rfl) ?_ ?_; rotate_left; (intro w' hw'; go_simp; with_reducible rfl); simp only [Act.put, List.setIfInBounds_toArray, List.set_cons_zero, List.set_cons_succ])
              refine wpGr_call (o := ⟨_, _, _, _, _, _⟩) rfl (by rfl) (fun K hK => ?_)
              go_simp
              refine (of_at _ ⟨ol, oh, oo⟩ _ (by omega) HC.out.2.2.2.2.2.2.2.2.2.1).mono ?_
              rintro e g1 ⟨rfl, hb⟩
              refine hK _ _ hb ?_
              clear hK K
              clear x0 x1 x2 y0 y1 y2
              replace Hbel := Lib.hid (Hbel.out.trans (hb.mono Hbel.out.size))
              replace Na := Lib.hid (Na.out.ext hb)
              replace Nb := Lib.hid (Nb.out.ext hb)
              clear hb
              have x0 : ∀ w', Ext g1 w' → w'.cell? ⟨px, 0, none⟩ = some (.string lo) := fun w' h => (Na.out.ext h).c0
              have x1 : ∀ w', Ext g1 w' → w'.cell? ⟨px, 1, none⟩ = some (.string hi) := fun w' h => (Na.out.ext h).c1
              have x2 : ∀ w', Ext g1 w' → w'.cell? ⟨px, 2, none⟩ = some (.bool op) := fun w' h => (Na.out.ext h).c2
              have y0 : ∀ w', Ext g1 w' → w'.cell? ⟨py, 0, none⟩ = some (.string lo2) := fun w' h => (Nb.out.ext h).c0
              have y1 : ∀ w', Ext g1 w' → w'.cell? ⟨py, 1, none⟩ = some (.string hi2) := fun w' h => (Nb.out.ext h).c1
              have y2 : ∀ w', Ext g1 w' → w'.cell? ⟨py, 2, none⟩ = some (.bool op2) := fun w' h => (Nb.out.ext h).c2
              dsimp only
              refine wpGr_call (o := ⟨_, _, _, _, _, _⟩) rfl (by rfl) (fun K hK => ?_)
              go_simp
              refine (has_at _ _ _ _ HV _ HC.out.2.2.2.2.2.2.2.2.1).mono ?_
              rintro e g2 ⟨rfl, hb⟩
              refine hK _ _ hb ?_
              clear hK K
              clear x0 x1 x2 y0 y1 y2
              replace Hbel := Lib.hid (Hbel.out.trans (hb.mono Hbel.out.size))
              replace Na := Lib.hid (Na.out.ext hb)
              replace Nb := Lib.hid (Nb.out.ext hb)
              clear hb
              have x0 : ∀ w', Ext g2 w' → w'.cell? ⟨px, 0, none⟩ = some (.string lo) := fun w' h => (Na.out.ext h).c0
              have x1 : ∀ w', Ext g2 w' → w'.cell? ⟨px, 1, none⟩ = some (.string hi) := fun w' h => (Na.out.ext h).c1
              have x2 : ∀ w', Ext g2 w' → w'.cell? ⟨px, 2, none⟩ = some (.bool op) := fun w' h => (Na.out.ext h).c2
              have y0 : ∀ w', Ext g2 w' → w'.cell? ⟨py, 0, none⟩ = some (.string lo2) := fun w' h => (Nb.out.ext h).c0
              have y1 : ∀ w', Ext g2 w' → w'.cell? ⟨py, 1, none⟩ = some (.string hi2) := fun w' h => (Nb.out.ext h).c1
              have y2 : ∀ w', Ext g2 w' → w'.cell? ⟨py, 2, none⟩ = some (.bool op2) := fun w' h => (Nb.out.ext h).c2
              refine wpGr_call (o := ⟨_, _, _, _, _, _⟩) rfl (by rfl) (fun K hK => ?_)
              go_simp
              refine (begins_at _ _ HV _ HC.out.2.2.2.2.2.2.2.1).mono ?_
              rintro e w' ⟨rfl, rfl⟩
              refine hK _ _ (Ext.refl _) ?_
              clear hK K
              iterate 7 (refine wpGr_read (o := ⟨_, _, _, _, _, _⟩) (v := ?_) rfl (by rfl) ?_ ?_; rotate_left; (intro w' hw'; go_simp; with_reducible rfl); simp only [Act.put, List.setIfInBounds_toArray, List.set_cons_zero, List.set_cons_succ])
              refine wpGr_call (o := ⟨_, _, _, _, _, _⟩) rfl (by rfl) (fun K hK => ?_)
              go_simp
              refine (meet_at ⟨lo, hi, op⟩ ⟨lo2, hi2, op2⟩ ⟨ml, mh, mo⟩ _ HC.out.2.2.2.2.2.1).mono ?_
              rintro e g3 ⟨rfl, hb⟩
              refine hK _ _ hb ?_
              clear hK K
              clear x0 x1 x2 y0 y1 y2
              replace Hbel := Lib.hid (Hbel.out.trans (hb.mono Hbel.out.size))
              replace Na := Lib.hid (Na.out.ext hb)
              replace Nb := Lib.hid (Nb.out.ext hb)
              clear hb
              have x0 : ∀ w', Ext g3 w' → w'.cell? ⟨px, 0, none⟩ = some (.string lo) := fun w' h => (Na.out.ext h).c0
              have x1 : ∀ w', Ext g3 w' → w'.cell? ⟨px, 1, none⟩ = some (.string hi) := fun w' h => (Na.out.ext h).c1
              have x2 : ∀ w', Ext g3 w' → w'.cell? ⟨px, 2, none⟩ = some (.bool op) := fun w' h => (Na.out.ext h).c2
              have y0 : ∀ w', Ext g3 w' → w'.cell? ⟨py, 0, none⟩ = some (.string lo2) := fun w' h => (Nb.out.ext h).c0
              have y1 : ∀ w', Ext g3 w' → w'.cell? ⟨py, 1, none⟩ = some (.string hi2) := fun w' h => (Nb.out.ext h).c1
              have y2 : ∀ w', Ext g3 w' → w'.cell? ⟨py, 2, none⟩ = some (.bool op2) := fun w' h => (Nb.out.ext h).c2
              dsimp only
              refine wpGr_call (o := ⟨_, _, _, _, _, _⟩) rfl (by rfl) (fun K hK => ?_)
              go_simp
              refine (has_at _ _ _ _ false _ HC.out.2.2.2.2.1).mono ?_
              rintro e g4 ⟨rfl, hb⟩
              refine hK _ _ hb ?_
              clear hK K
              clear x0 x1 x2 y0 y1 y2
              replace Hbel := Lib.hid (Hbel.out.trans (hb.mono Hbel.out.size))
              replace Na := Lib.hid (Na.out.ext hb)
              replace Nb := Lib.hid (Nb.out.ext hb)
              clear hb
              have x0 : ∀ w', Ext g4 w' → w'.cell? ⟨px, 0, none⟩ = some (.string lo) := fun w' h => (Na.out.ext h).c0
              have x1 : ∀ w', Ext g4 w' → w'.cell? ⟨px, 1, none⟩ = some (.string hi) := fun w' h => (Na.out.ext h).c1
              have x2 : ∀ w', Ext g4 w' → w'.cell? ⟨px, 2, none⟩ = some (.bool op) := fun w' h => (Na.out.ext h).c2
              have y0 : ∀ w', Ext g4 w' → w'.cell? ⟨py, 0, none⟩ = some (.string lo2) := fun w' h => (Nb.out.ext h).c0
              have y1 : ∀ w', Ext g4 w' → w'.cell? ⟨py, 1, none⟩ = some (.string hi2) := fun w' h => (Nb.out.ext h).c1
              have y2 : ∀ w', Ext g4 w' → w'.cell? ⟨py, 2, none⟩ = some (.bool op2) := fun w' h => (Nb.out.ext h).c2
              refine wpGr_call (o := ⟨_, _, _, _, _, _⟩) rfl (by rfl) (fun K hK => ?_)
              go_simp
              refine (has_at _ _ _ _ false _ HC.out.1).mono ?_
              rintro e g5 ⟨rfl, hb⟩
              refine hK _ _ hb ?_
              clear hK K
              clear x0 x1 x2 y0 y1 y2
              replace Hbel := Lib.hid (Hbel.out.trans (hb.mono Hbel.out.size))
              replace Na := Lib.hid (Na.out.ext hb)
              replace Nb := Lib.hid (Nb.out.ext hb)
              clear hb
              have x0 : ∀ w', Ext g5 w' → w'.cell? ⟨px, 0, none⟩ = some (.string lo) := fun w' h => (Na.out.ext h).c0
              have x1 : ∀ w', Ext g5 w' → w'.cell? ⟨px, 1, none⟩ = some (.string hi) := fun w' h => (Na.out.ext h).c1
              have x2 : ∀ w', Ext g5 w' → w'.cell? ⟨px, 2, none⟩ = some (.bool op) := fun w' h => (Na.out.ext h).c2
              have y0 : ∀ w', Ext g5 w' → w'.cell? ⟨py, 0, none⟩ = some (.string lo2) := fun w' h => (Nb.out.ext h).c0
              have y1 : ∀ w', Ext g5 w' → w'.cell? ⟨py, 1, none⟩ = some (.string hi2) := fun w' h => (Nb.out.ext h).c1
              have y2 : ∀ w', Ext g5 w' → w'.cell? ⟨py, 2, none⟩ = some (.bool op2) := fun w' h => (Nb.out.ext h).c2
              iterate 1 (refine wpGr_read (o := ⟨_, _, _, _, _, _⟩) (v := ?_) rfl (by rfl) ?_ ?_; rotate_left; (intro w' hw'; go_simp; with_reducible rfl); simp only [Act.put, List.setIfInBounds_toArray, List.set_cons_zero, List.set_cons_succ])
              iterate 2 (refine wpGr_skip (o := ⟨_, _, _, _, _, _⟩) rfl (by rfl) ?_; simp only [Act.put, List.setIfInBounds_toArray, List.set_cons_zero, List.set_cons_succ])
              refine wpGr_skipCall (o := ⟨_, _, _, _, _, _⟩) rfl (by rfl) ?_
              simp only [Act.put, List.setIfInBounds_toArray, List.set_cons_zero, List.set_cons_succ]
              iterate 3 (refine wpGr_read (o := ⟨_, _, _, _, _, _⟩) (v := ?_) rfl (by rfl) ?_ ?_; rotate_left; (intro w' hw'; go_simp; with_reducible rfl); simp only [Act.put, List.setIfInBounds_toArray, List.set_cons_zero, List.set_cons_succ])
              clear x0 x1 x2 y0 y1 y2
              refine wpGr_done ?_
              have x0 := Na.out.c0
              have x1 := Na.out.c1
              have x2 := Na.out.c2
              have y0 := Nb.out.c0
              have y1 := Nb.out.c1
              have y2 := Nb.out.c2
              dsimp only at x0 x1 x2 y0 y1 y2
              go_wp2_with fail
              refine (with_at ⟨lo, hi, op⟩ ⟨lo2, hi2, op2⟩ true _ HC.out.2.1).mono ?_
              rintro e k1 ⟨rfl, hb⟩
              clear x0 x1 x2 y0 y1 y2
              replace Hbel := Lib.hid (Hbel.out.trans (hb.mono Hbel.out.size))
              replace Na := Lib.hid (Na.out.ext hb)
              replace Nb := Lib.hid (Nb.out.ext hb)
              clear hb
              have x0 := Na.out.c0
              have x1 := Na.out.c1
              have x2 := Na.out.c2
              have y0 := Nb.out.c0
              have y1 := Nb.out.c1
              have y2 := Nb.out.c2
              dsimp only at x0 x1 x2 y0 y1 y2
              go_wp2_with fail
              refine (has_at _ _ _ _ false _ HC.out.1).mono ?_
              rintro e k2 ⟨rfl, hb⟩
              clear x0 x1 x2 y0 y1 y2
              replace Hbel := Lib.hid (Hbel.out.trans (hb.mono Hbel.out.size))
              replace Na := Lib.hid (Na.out.ext hb)
              replace Nb := Lib.hid (Nb.out.ext hb)
              clear hb
              have x0 := Na.out.c0
              have x1 := Na.out.c1
              have x2 := Na.out.c2
              have y0 := Nb.out.c0
              have y1 := Nb.out.c1
              have y2 := Nb.out.c2
              dsimp only at x0 x1 x2 y0 y1 y2
              go_wp2_with fail
              refine (emp_at _ _ _ false _ HC.out.2.2.1).mono ?_
              rintro e k3 ⟨rfl, hb⟩
              clear x0 x1 x2 y0 y1 y2
              replace Hbel := Lib.hid (Hbel.out.trans (hb.mono Hbel.out.size))
              replace Na := Lib.hid (Na.out.ext hb)
              replace Nb := Lib.hid (Nb.out.ext hb)
              clear hb
              have x0 := Na.out.c0
              have x1 := Na.out.c1
              have x2 := Na.out.c2
              have y0 := Nb.out.c0
              have y1 := Nb.out.c1
              have y2 := Nb.out.c2
              dsimp only at x0 x1 x2 y0 y1 y2
              go_wp2_with fail
              refine (emp_at _ _ _ false _ HC.out.2.2.1).mono ?_
              rintro e k4 ⟨rfl, hb⟩
              clear x0 x1 x2 y0 y1 y2
              replace Hbel := Lib.hid (Hbel.out.trans (hb.mono Hbel.out.size))
              replace Na := Lib.hid (Na.out.ext hb)
              replace Nb := Lib.hid (Nb.out.ext hb)
              clear hb
              have x0 := Na.out.c0
              have x1 := Na.out.c1
              have x2 := Na.out.c2
              have y0 := Nb.out.c0
              have y1 := Nb.out.c1
              have y2 := Nb.out.c2
              dsimp only at x0 x1 x2 y0 y1 y2
              go_wp2_with fail
              refine (has_at _ _ _ _ true _ HC.out.2.2.2.2.2.2.1).mono ?_
              rintro e k5 ⟨rfl, hb⟩
              clear x0 x1 x2 y0 y1 y2
              replace Hbel := Lib.hid (Hbel.out.trans (hb.mono Hbel.out.size))
              replace Na := Lib.hid (Na.out.ext hb)
              replace Nb := Lib.hid (Nb.out.ext hb)
              clear hb
              have x0 := Na.out.c0
              have x1 := Na.out.c1
              have x2 := Na.out.c2
              have y0 := Nb.out.c0
              have y1 := Nb.out.c1
              have y2 := Nb.out.c2
              dsimp only at x0 x1 x2 y0 y1 y2
              go_wp2_with fail
              refine (next_at _ NV _ (by omega) HC.out.2.2.2.2.2.2.2.2.2.2.2.2.2.1).mono ?_
              rintro e w' ⟨rfl, rfl⟩
              have l1 := bl_less HC.out.2.2.2.2.2.2.2.2.2.2.2.2.2.2.1
              have l2 := bl_less HC.out.2.2.2.2.2.2.2.2.2.2.2.2.2.2.2.1
              have n1 : ¬ (9223372036854775807 < pre.size + key.size) := by omega
              have n2 : pre ++ key = PK := HC.out.2.2.2.2.2.2.2.2.2.2.1
              go_wp2_with fail
              refine (of_at _ ⟨ql, qh, qo⟩ _ (by omega) HC.out.2.2.2.2.2.2.2.2.2.2.2.2.1).mono ?_
              rintro e k6 ⟨rfl, hb⟩
              clear x0 x1 x2 y0 y1 y2
              replace Hbel := Lib.hid (Hbel.out.trans (hb.mono Hbel.out.size))
              replace Na := Lib.hid (Na.out.ext hb)
              replace Nb := Lib.hid (Nb.out.ext hb)
              clear hb
              have x0 := Na.out.c0
              have x1 := Na.out.c1
              have x2 := Na.out.c2
              have y0 := Nb.out.c0
              have y1 := Nb.out.c1
              have y2 := Nb.out.c2
              dsimp only at x0 x1 x2 y0 y1 y2
              dsimp only
              go_wp2_with fail
              refine (of_at _ ⟨ol, oh, oo⟩ _ (by omega) HC.out.2.2.2.2.2.2.2.2.2.1).mono ?_
              rintro e k7 ⟨rfl, hb⟩
              clear x0 x1 x2 y0 y1 y2
              replace Hbel := Lib.hid (Hbel.out.trans (hb.mono Hbel.out.size))
              replace Na := Lib.hid (Na.out.ext hb)
              replace Nb := Lib.hid (Nb.out.ext hb)
              clear hb
              have x0 := Na.out.c0
              have x1 := Na.out.c1
              have x2 := Na.out.c2
              have y0 := Nb.out.c0
              have y1 := Nb.out.c1
              have y2 := Nb.out.c2
              dsimp only at x0 x1 x2 y0 y1 y2
              dsimp only
              go_wp2_with fail
              refine (with_at ⟨ql, qh, qo⟩ ⟨ol, oh, oo⟩ true _ HC.out.2.2.2.2.2.2.2.2.2.2.2.1).mono ?_
              rintro e k8 ⟨rfl, hb⟩
              clear x0 x1 x2 y0 y1 y2
              replace Hbel := Lib.hid (Hbel.out.trans (hb.mono Hbel.out.size))
              replace Na := Lib.hid (Na.out.ext hb)
              replace Nb := Lib.hid (Nb.out.ext hb)
              clear hb
              have x0 := Na.out.c0
              have x1 := Na.out.c1
              have x2 := Na.out.c2
              have y0 := Nb.out.c0
              have y1 := Nb.out.c1
              have y2 := Nb.out.c2
              dsimp only at x0 x1 x2 y0 y1 y2
              go_wp2_with fail
              refine (sure_any _ (HG.out.below Hbel.out)).mono ?_
              rintro e k9 ⟨rfl, hb⟩
              clear x0 x1 x2 y0 y1 y2
              replace Hbel := Lib.hid (Hbel.out.trans (hb.mono Hbel.out.size))
              replace Na := Lib.hid (Na.out.ext hb)
              replace Nb := Lib.hid (Nb.out.ext hb)
              clear hb
              have x0 := Na.out.c0
              have x1 := Na.out.c1
              have x2 := Na.out.c2
              have y0 := Nb.out.c0
              have y1 := Nb.out.c1
              have y2 := Nb.out.c2
              dsimp only at x0 x1 x2 y0 y1 y2
              go_wp2_with fail
              go_ret
              exact ⟨rfl, Hbel.out⟩
          | false =>
            cases hP : blt key pre with
            | true => as_aux_lemma =>
              have hM : hasS (meetS ⟨lo, hi, op⟩ ⟨lo2, hi2, op2⟩) key = false := by rw [HM.out, hX]; rfl
              have hY := hX
              obtain ⟨⟨ml, mh, mo⟩, hme⟩ : ∃ s, meetS ⟨lo, hi, op⟩ ⟨lo2, hi2, op2⟩ = s := ⟨_, rfl⟩
              rw [hme] at hM
              have hL : hasS ⟨lo, hi, op⟩ lo = true := HNE.out hE
              obtain ⟨HV, hH⟩ : ∃ V, begS key pre = V := ⟨_, rfl⟩
              have hHO := HHO.out.trans hH
              obtain ⟨⟨ol, oh, oo⟩, hof⟩ : ∃ s, ofS pre = s := ⟨_, rfl⟩
              rw [hof] at hHO
              obtain ⟨PK, hPK⟩ : ∃ s, pre ++ key = s := ⟨_, rfl⟩
              have hWO := HWO.out
              rw [hPK, hof] at hWO
              have zpk : PK.size ≤ 600 := by rw [← hPK, ByteArray.size_append]; omega
              obtain ⟨⟨ql, qh, qo⟩, hqf⟩ : ∃ s, ofS PK = s := ⟨_, rfl⟩
              rw [hqf] at hWO
              obtain ⟨NV, hN⟩ : ∃ N, nextS key = N := ⟨_, rfl⟩
              have hNL := HNL.out
              have hNN := HNN.out
              rw [hN] at hNL hNN
              have hQ : blt pre NV = false := by rw [hP] at hNN; simpa using hNN
              have HC := Lib.hid (And.intro hX (And.intro hW (And.intro hE (And.intro hY (And.intro hM (And.intro hme (And.intro hL (And.intro hH (And.intro hHO (And.intro hof (And.intro hPK (And.intro hWO (And.intro hqf (And.intro hN (And.intro hNL (And.intro hP hQ))))))))))))))))
              clear hX hW hE hY hM hme hL hH hHO hof hPK hWO hqf hN hNL hP hQ hNN HM HWH HEH HNE HHO HNL HNN HWO
              refine wp_region_gr [(0, true), (2, true), (4, true), (5, true), (1, false), (3, false), (6, false), (7, true), (8, true), (9, true), (10, true), (12, true), (14, true), (15, true), (11, false), (13, false), (16, false), (17, true), (18, true), (19, true), (20, false), (21, true), (22, true), (23, true)] (by kernel_rfl) (by kernel_rfl) (by kernel_rfl) (by kernel_rfl) (fun _ _ _ _ _ h => h) ?_
              replace Hbel := Lib.hid Hbel.out.drew
              replace Na : Hid (SpIn v.drew px SPT ⟨lo, hi, op⟩) := Na.out
              replace Nb : Hid (SpIn v.drew py SPT ⟨lo2, hi2, op2⟩) := Nb.out
              generalize v.drew = g0 at *
              have x0 : ∀ w', Ext g0 w' → w'.cell? ⟨px, 0, none⟩ = some (.string lo) := fun w' h => (Na.out.ext h).c0
              have x1 : ∀ w', Ext g0 w' → w'.cell? ⟨px, 1, none⟩ = some (.string hi) := fun w' h => (Na.out.ext h).c1
              have x2 : ∀ w', Ext g0 w' → w'.cell? ⟨px, 2, none⟩ = some (.bool op) := fun w' h => (Na.out.ext h).c2
              have y0 : ∀ w', Ext g0 w' → w'.cell? ⟨py, 0, none⟩ = some (.string lo2) := fun w' h => (Nb.out.ext h).c0
              have y1 : ∀ w', Ext g0 w' → w'.cell? ⟨py, 1, none⟩ = some (.string hi2) := fun w' h => (Nb.out.ext h).c1
              have y2 : ∀ w', Ext g0 w' → w'.cell? ⟨py, 2, none⟩ = some (.bool op2) := fun w' h => (Nb.out.ext h).c2
              iterate 4 (refine wpGr_read (o := ⟨_, _, _, _, _, _⟩) (v := ?_) rfl (by rfl) ?_ ?_; rotate_left; (intro w' hw'; go_simp; with_reducible rfl); simp only [Act.put, List.setIfInBounds_toArray, List.set_cons_zero, List.set_cons_succ])
              refine wpGr_call (o := ⟨_, _, _, _, _, _⟩) rfl (by rfl) (fun K hK => ?_)
              go_simp
              refine (of_at _ ⟨ol, oh, oo⟩ _ (by omega) HC.out.2.2.2.2.2.2.2.2.2.1).mono ?_
              rintro e g1 ⟨rfl, hb⟩
              refine hK _ _ hb ?_
              clear hK K
              clear x0 x1 x2 y0 y1 y2
              replace Hbel := Lib.hid (Hbel.out.trans (hb.mono Hbel.out.size))
              replace Na := Lib.hid (Na.out.ext hb)
              replace Nb := Lib.hid (Nb.out.ext hb)
              clear hb
              have x0 : ∀ w', Ext g1 w' → w'.cell? ⟨px, 0, none⟩ = some (.string lo) := fun w' h => (Na.out.ext h).c0
              have x1 : ∀ w', Ext g1 w' → w'.cell? ⟨px, 1, none⟩ = some (.string hi) := fun w' h => (Na.out.ext h).c1
              have x2 : ∀ w', Ext g1 w' → w'.cell? ⟨px, 2, none⟩ = some (.bool op) := fun w' h => (Na.out.ext h).c2
              have y0 : ∀ w', Ext g1 w' → w'.cell? ⟨py, 0, none⟩ = some (.string lo2) := fun w' h => (Nb.out.ext h).c0
              have y1 : ∀ w', Ext g1 w' → w'.cell? ⟨py, 1, none⟩ = some (.string hi2) := fun w' h => (Nb.out.ext h).c1
              have y2 : ∀ w', Ext g1 w' → w'.cell? ⟨py, 2, none⟩ = some (.bool op2) := fun w' h => (Nb.out.ext h).c2
              dsimp only
              refine wpGr_call (o := ⟨_, _, _, _, _, _⟩) rfl (by rfl) (fun K hK => ?_)
              go_simp
              refine (has_at _ _ _ _ HV _ HC.out.2.2.2.2.2.2.2.2.1).mono ?_
              rintro e g2 ⟨rfl, hb⟩
              refine hK _ _ hb ?_
              clear hK K
              clear x0 x1 x2 y0 y1 y2
              replace Hbel := Lib.hid (Hbel.out.trans (hb.mono Hbel.out.size))
              replace Na := Lib.hid (Na.out.ext hb)
              replace Nb := Lib.hid (Nb.out.ext hb)
              clear hb
              have x0 : ∀ w', Ext g2 w' → w'.cell? ⟨px, 0, none⟩ = some (.string lo) := fun w' h => (Na.out.ext h).c0
              have x1 : ∀ w', Ext g2 w' → w'.cell? ⟨px, 1, none⟩ = some (.string hi) := fun w' h => (Na.out.ext h).c1
              have x2 : ∀ w', Ext g2 w' → w'.cell? ⟨px, 2, none⟩ = some (.bool op) := fun w' h => (Na.out.ext h).c2
              have y0 : ∀ w', Ext g2 w' → w'.cell? ⟨py, 0, none⟩ = some (.string lo2) := fun w' h => (Nb.out.ext h).c0
              have y1 : ∀ w', Ext g2 w' → w'.cell? ⟨py, 1, none⟩ = some (.string hi2) := fun w' h => (Nb.out.ext h).c1
              have y2 : ∀ w', Ext g2 w' → w'.cell? ⟨py, 2, none⟩ = some (.bool op2) := fun w' h => (Nb.out.ext h).c2
              refine wpGr_call (o := ⟨_, _, _, _, _, _⟩) rfl (by rfl) (fun K hK => ?_)
              go_simp
              refine (begins_at _ _ HV _ HC.out.2.2.2.2.2.2.2.1).mono ?_
              rintro e w' ⟨rfl, rfl⟩
              refine hK _ _ (Ext.refl _) ?_
              clear hK K
              iterate 7 (refine wpGr_read (o := ⟨_, _, _, _, _, _⟩) (v := ?_) rfl (by rfl) ?_ ?_; rotate_left; (intro w' hw'; go_simp; with_reducible rfl); simp only [Act.put, List.setIfInBounds_toArray, List.set_cons_zero, List.set_cons_succ])
              refine wpGr_call (o := ⟨_, _, _, _, _, _⟩) rfl (by rfl) (fun K hK => ?_)
              go_simp
              refine (meet_at ⟨lo, hi, op⟩ ⟨lo2, hi2, op2⟩ ⟨ml, mh, mo⟩ _ HC.out.2.2.2.2.2.1).mono ?_
              rintro e g3 ⟨rfl, hb⟩
              refine hK _ _ hb ?_
              clear hK K
              clear x0 x1 x2 y0 y1 y2
              replace Hbel := Lib.hid (Hbel.out.trans (hb.mono Hbel.out.size))
              replace Na := Lib.hid (Na.out.ext hb)
              replace Nb := Lib.hid (Nb.out.ext hb)
              clear hb
              have x0 : ∀ w', Ext g3 w' → w'.cell? ⟨px, 0, none⟩ = some (.string lo) := fun w' h => (Na.out.ext h).c0
              have x1 : ∀ w', Ext g3 w' → w'.cell? ⟨px, 1, none⟩ = some (.string hi) := fun w' h => (Na.out.ext h).c1
              have x2 : ∀ w', Ext g3 w' → w'.cell? ⟨px, 2, none⟩ = some (.bool op) := fun w' h => (Na.out.ext h).c2
              have y0 : ∀ w', Ext g3 w' → w'.cell? ⟨py, 0, none⟩ = some (.string lo2) := fun w' h => (Nb.out.ext h).c0
              have y1 : ∀ w', Ext g3 w' → w'.cell? ⟨py, 1, none⟩ = some (.string hi2) := fun w' h => (Nb.out.ext h).c1
              have y2 : ∀ w', Ext g3 w' → w'.cell? ⟨py, 2, none⟩ = some (.bool op2) := fun w' h => (Nb.out.ext h).c2
              dsimp only
              refine wpGr_call (o := ⟨_, _, _, _, _, _⟩) rfl (by rfl) (fun K hK => ?_)
              go_simp
              refine (has_at _ _ _ _ false _ HC.out.2.2.2.2.1).mono ?_
              rintro e g4 ⟨rfl, hb⟩
              refine hK _ _ hb ?_
              clear hK K
              clear x0 x1 x2 y0 y1 y2
              replace Hbel := Lib.hid (Hbel.out.trans (hb.mono Hbel.out.size))
              replace Na := Lib.hid (Na.out.ext hb)
              replace Nb := Lib.hid (Nb.out.ext hb)
              clear hb
              have x0 : ∀ w', Ext g4 w' → w'.cell? ⟨px, 0, none⟩ = some (.string lo) := fun w' h => (Na.out.ext h).c0
              have x1 : ∀ w', Ext g4 w' → w'.cell? ⟨px, 1, none⟩ = some (.string hi) := fun w' h => (Na.out.ext h).c1
              have x2 : ∀ w', Ext g4 w' → w'.cell? ⟨px, 2, none⟩ = some (.bool op) := fun w' h => (Na.out.ext h).c2
              have y0 : ∀ w', Ext g4 w' → w'.cell? ⟨py, 0, none⟩ = some (.string lo2) := fun w' h => (Nb.out.ext h).c0
              have y1 : ∀ w', Ext g4 w' → w'.cell? ⟨py, 1, none⟩ = some (.string hi2) := fun w' h => (Nb.out.ext h).c1
              have y2 : ∀ w', Ext g4 w' → w'.cell? ⟨py, 2, none⟩ = some (.bool op2) := fun w' h => (Nb.out.ext h).c2
              refine wpGr_call (o := ⟨_, _, _, _, _, _⟩) rfl (by rfl) (fun K hK => ?_)
              go_simp
              refine (has_at _ _ _ _ false _ HC.out.1).mono ?_
              rintro e g5 ⟨rfl, hb⟩
              refine hK _ _ hb ?_
              clear hK K
              clear x0 x1 x2 y0 y1 y2
              replace Hbel := Lib.hid (Hbel.out.trans (hb.mono Hbel.out.size))
              replace Na := Lib.hid (Na.out.ext hb)
              replace Nb := Lib.hid (Nb.out.ext hb)
              clear hb
              have x0 : ∀ w', Ext g5 w' → w'.cell? ⟨px, 0, none⟩ = some (.string lo) := fun w' h => (Na.out.ext h).c0
              have x1 : ∀ w', Ext g5 w' → w'.cell? ⟨px, 1, none⟩ = some (.string hi) := fun w' h => (Na.out.ext h).c1
              have x2 : ∀ w', Ext g5 w' → w'.cell? ⟨px, 2, none⟩ = some (.bool op) := fun w' h => (Na.out.ext h).c2
              have y0 : ∀ w', Ext g5 w' → w'.cell? ⟨py, 0, none⟩ = some (.string lo2) := fun w' h => (Nb.out.ext h).c0
              have y1 : ∀ w', Ext g5 w' → w'.cell? ⟨py, 1, none⟩ = some (.string hi2) := fun w' h => (Nb.out.ext h).c1
              have y2 : ∀ w', Ext g5 w' → w'.cell? ⟨py, 2, none⟩ = some (.bool op2) := fun w' h => (Nb.out.ext h).c2
              iterate 1 (refine wpGr_read (o := ⟨_, _, _, _, _, _⟩) (v := ?_) rfl (by rfl) ?_ ?_; rotate_left; (intro w' hw'; go_simp; with_reducible rfl); simp only [Act.put, List.setIfInBounds_toArray, List.set_cons_zero, List.set_cons_succ])
              iterate 2 (refine wpGr_skip (o := ⟨_, _, _, _, _, _⟩) rfl (by rfl) ?_; simp only [Act.put, List.setIfInBounds_toArray, List.set_cons_zero, List.set_cons_succ])
              refine wpGr_skipCall (o := ⟨_, _, _, _, _, _⟩) rfl (by rfl) ?_
              simp only [Act.put, List.setIfInBounds_toArray, List.set_cons_zero, List.set_cons_succ]
              iterate 3 (refine wpGr_read (o := ⟨_, _, _, _, _, _⟩) (v := ?_) rfl (by rfl) ?_ ?_; rotate_left; (intro w' hw'; go_simp; with_reducible rfl); simp only [Act.put, List.setIfInBounds_toArray, List.set_cons_zero, List.set_cons_succ])
              clear x0 x1 x2 y0 y1 y2
              refine wpGr_done ?_
              have x0 := Na.out.c0
              have x1 := Na.out.c1
              have x2 := Na.out.c2
              have y0 := Nb.out.c0
              have y1 := Nb.out.c1
              have y2 := Nb.out.c2
              dsimp only at x0 x1 x2 y0 y1 y2
              go_wp2_with fail
              refine (with_at ⟨lo, hi, op⟩ ⟨lo2, hi2, op2⟩ false _ HC.out.2.1).mono ?_
              rintro e k1 ⟨rfl, hb⟩
              clear x0 x1 x2 y0 y1 y2
              replace Hbel := Lib.hid (Hbel.out.trans (hb.mono Hbel.out.size))
              replace Na := Lib.hid (Na.out.ext hb)
              replace Nb := Lib.hid (Nb.out.ext hb)
              clear hb
              have x0 := Na.out.c0
              have x1 := Na.out.c1
              have x2 := Na.out.c2
              have y0 := Nb.out.c0
              have y1 := Nb.out.c1
              have y2 := Nb.out.c2
              dsimp only at x0 x1 x2 y0 y1 y2
              go_wp2_with fail
              refine (emp_at _ _ _ false _ HC.out.2.2.1).mono ?_
              rintro e k2 ⟨rfl, hb⟩
              clear x0 x1 x2 y0 y1 y2
              replace Hbel := Lib.hid (Hbel.out.trans (hb.mono Hbel.out.size))
              replace Na := Lib.hid (Na.out.ext hb)
              replace Nb := Lib.hid (Nb.out.ext hb)
              clear hb
              have x0 := Na.out.c0
              have x1 := Na.out.c1
              have x2 := Na.out.c2
              have y0 := Nb.out.c0
              have y1 := Nb.out.c1
              have y2 := Nb.out.c2
              dsimp only at x0 x1 x2 y0 y1 y2
              go_wp2_with fail
              refine (emp_at _ _ _ false _ HC.out.2.2.1).mono ?_
              rintro e k3 ⟨rfl, hb⟩
              clear x0 x1 x2 y0 y1 y2
              replace Hbel := Lib.hid (Hbel.out.trans (hb.mono Hbel.out.size))
              replace Na := Lib.hid (Na.out.ext hb)
              replace Nb := Lib.hid (Nb.out.ext hb)
              clear hb
              have x0 := Na.out.c0
              have x1 := Na.out.c1
              have x2 := Na.out.c2
              have y0 := Nb.out.c0
              have y1 := Nb.out.c1
              have y2 := Nb.out.c2
              dsimp only at x0 x1 x2 y0 y1 y2
              go_wp2_with fail
              refine (has_at _ _ _ _ true _ HC.out.2.2.2.2.2.2.1).mono ?_
              rintro e k4 ⟨rfl, hb⟩
              clear x0 x1 x2 y0 y1 y2
              replace Hbel := Lib.hid (Hbel.out.trans (hb.mono Hbel.out.size))
              replace Na := Lib.hid (Na.out.ext hb)
              replace Nb := Lib.hid (Nb.out.ext hb)
              clear hb
              have x0 := Na.out.c0
              have x1 := Na.out.c1
              have x2 := Na.out.c2
              have y0 := Nb.out.c0
              have y1 := Nb.out.c1
              have y2 := Nb.out.c2
              dsimp only at x0 x1 x2 y0 y1 y2
              go_wp2_with fail
              refine (next_at _ NV _ (by omega) HC.out.2.2.2.2.2.2.2.2.2.2.2.2.2.1).mono ?_
              rintro e w' ⟨rfl, rfl⟩
              have l1 := bl_less HC.out.2.2.2.2.2.2.2.2.2.2.2.2.2.2.1
              have l2 := bl_less HC.out.2.2.2.2.2.2.2.2.2.2.2.2.2.2.2.1
              have l3 := bl_less HC.out.2.2.2.2.2.2.2.2.2.2.2.2.2.2.2.2
              have n1 : ¬ (9223372036854775807 < pre.size + key.size) := by omega
              have n2 : pre ++ key = PK := HC.out.2.2.2.2.2.2.2.2.2.2.1
              go_wp2_with fail
              refine (of_at _ ⟨ql, qh, qo⟩ _ (by omega) HC.out.2.2.2.2.2.2.2.2.2.2.2.2.1).mono ?_
              rintro e k5 ⟨rfl, hb⟩
              clear x0 x1 x2 y0 y1 y2
              replace Hbel := Lib.hid (Hbel.out.trans (hb.mono Hbel.out.size))
              replace Na := Lib.hid (Na.out.ext hb)
              replace Nb := Lib.hid (Nb.out.ext hb)
              clear hb
              have x0 := Na.out.c0
              have x1 := Na.out.c1
              have x2 := Na.out.c2
              have y0 := Nb.out.c0
              have y1 := Nb.out.c1
              have y2 := Nb.out.c2
              dsimp only at x0 x1 x2 y0 y1 y2
              dsimp only
              go_wp2_with fail
              refine (of_at _ ⟨ol, oh, oo⟩ _ (by omega) HC.out.2.2.2.2.2.2.2.2.2.1).mono ?_
              rintro e k6 ⟨rfl, hb⟩
              clear x0 x1 x2 y0 y1 y2
              replace Hbel := Lib.hid (Hbel.out.trans (hb.mono Hbel.out.size))
              replace Na := Lib.hid (Na.out.ext hb)
              replace Nb := Lib.hid (Nb.out.ext hb)
              clear hb
              have x0 := Na.out.c0
              have x1 := Na.out.c1
              have x2 := Na.out.c2
              have y0 := Nb.out.c0
              have y1 := Nb.out.c1
              have y2 := Nb.out.c2
              dsimp only at x0 x1 x2 y0 y1 y2
              dsimp only
              go_wp2_with fail
              refine (with_at ⟨ql, qh, qo⟩ ⟨ol, oh, oo⟩ true _ HC.out.2.2.2.2.2.2.2.2.2.2.2.1).mono ?_
              rintro e k7 ⟨rfl, hb⟩
              clear x0 x1 x2 y0 y1 y2
              replace Hbel := Lib.hid (Hbel.out.trans (hb.mono Hbel.out.size))
              replace Na := Lib.hid (Na.out.ext hb)
              replace Nb := Lib.hid (Nb.out.ext hb)
              clear hb
              have x0 := Na.out.c0
              have x1 := Na.out.c1
              have x2 := Na.out.c2
              have y0 := Nb.out.c0
              have y1 := Nb.out.c1
              have y2 := Nb.out.c2
              dsimp only at x0 x1 x2 y0 y1 y2
              go_wp2_with fail
              refine (sure_any _ (HG.out.below Hbel.out)).mono ?_
              rintro e k8 ⟨rfl, hb⟩
              clear x0 x1 x2 y0 y1 y2
              replace Hbel := Lib.hid (Hbel.out.trans (hb.mono Hbel.out.size))
              replace Na := Lib.hid (Na.out.ext hb)
              replace Nb := Lib.hid (Nb.out.ext hb)
              clear hb
              have x0 := Na.out.c0
              have x1 := Na.out.c1
              have x2 := Na.out.c2
              have y0 := Nb.out.c0
              have y1 := Nb.out.c1
              have y2 := Nb.out.c2
              dsimp only at x0 x1 x2 y0 y1 y2
              go_wp2_with fail
              go_ret
              exact ⟨rfl, Hbel.out⟩
            | false => as_aux_lemma =>
              have hM : hasS (meetS ⟨lo, hi, op⟩ ⟨lo2, hi2, op2⟩) key = false := by rw [HM.out, hX]; rfl
              have hY := hX
              obtain ⟨⟨ml, mh, mo⟩, hme⟩ : ∃ s, meetS ⟨lo, hi, op⟩ ⟨lo2, hi2, op2⟩ = s := ⟨_, rfl⟩
              rw [hme] at hM
              have hL : hasS ⟨lo, hi, op⟩ lo = true := HNE.out hE
              obtain ⟨HV, hH⟩ : ∃ V, begS key pre = V := ⟨_, rfl⟩
              have hHO := HHO.out.trans hH
              obtain ⟨⟨ol, oh, oo⟩, hof⟩ : ∃ s, ofS pre = s := ⟨_, rfl⟩
              rw [hof] at hHO
              obtain ⟨PK, hPK⟩ : ∃ s, pre ++ key = s := ⟨_, rfl⟩
              have hWO := HWO.out
              rw [hPK, hof] at hWO
              have zpk : PK.size ≤ 600 := by rw [← hPK, ByteArray.size_append]; omega
              obtain ⟨⟨ql, qh, qo⟩, hqf⟩ : ∃ s, ofS PK = s := ⟨_, rfl⟩
              rw [hqf] at hWO
              obtain ⟨NV, hN⟩ : ∃ N, nextS key = N := ⟨_, rfl⟩
              have hNL := HNL.out
              have hNN := HNN.out
              rw [hN] at hNL hNN
              have hQ := hP
              have HC := Lib.hid (And.intro hX (And.intro hW (And.intro hE (And.intro hY (And.intro hM (And.intro hme (And.intro hL (And.intro hH (And.intro hHO (And.intro hof (And.intro hPK (And.intro hWO (And.intro hqf (And.intro hN (And.intro hNL (And.intro hP hQ))))))))))))))))
              clear hX hW hE hY hM hme hL hH hHO hof hPK hWO hqf hN hNL hP hQ hNN HM HWH HEH HNE HHO HNL HNN HWO
              refine wp_region_gr [(0, true), (2, true), (4, true), (5, true), (1, false), (3, false), (6, false), (7, true), (8, true), (9, true), (10, true), (12, true), (14, true), (15, true), (11, false), (13, false), (16, false), (17, true), (18, true), (19, true), (20, false), (21, true), (22, true), (23, true)] (by kernel_rfl) (by kernel_rfl) (by kernel_rfl) (by kernel_rfl) (fun _ _ _ _ _ h => h) ?_
              replace Hbel := Lib.hid Hbel.out.drew
              replace Na : Hid (SpIn v.drew px SPT ⟨lo, hi, op⟩) := Na.out
              replace Nb : Hid (SpIn v.drew py SPT ⟨lo2, hi2, op2⟩) := Nb.out
              generalize v.drew = g0 at *
              have x0 : ∀ w', Ext g0 w' → w'.cell? ⟨px, 0, none⟩ = some (.string lo) := fun w' h => (Na.out.ext h).c0
              have x1 : ∀ w', Ext g0 w' → w'.cell? ⟨px, 1, none⟩ = some (.string hi) := fun w' h => (Na.out.ext h).c1
              have x2 : ∀ w', Ext g0 w' → w'.cell? ⟨px, 2, none⟩ = some (.bool op) := fun w' h => (Na.out.ext h).c2
              have y0 : ∀ w', Ext g0 w' → w'.cell? ⟨py, 0, none⟩ = some (.string lo2) := fun w' h => (Nb.out.ext h).c0
              have y1 : ∀ w', Ext g0 w' → w'.cell? ⟨py, 1, none⟩ = some (.string hi2) := fun w' h => (Nb.out.ext h).c1
              have y2 : ∀ w', Ext g0 w' → w'.cell? ⟨py, 2, none⟩ = some (.bool op2) := fun w' h => (Nb.out.ext h).c2
              iterate 4 (refine wpGr_read (o := ⟨_, _, _, _, _, _⟩) (v := ?_) rfl (by rfl) ?_ ?_; rotate_left; (intro w' hw'; go_simp; with_reducible rfl); simp only [Act.put, List.setIfInBounds_toArray, List.set_cons_zero, List.set_cons_succ])
              refine wpGr_call (o := ⟨_, _, _, _, _, _⟩) rfl (by rfl) (fun K hK => ?_)
              go_simp
              refine (of_at _ ⟨ol, oh, oo⟩ _ (by omega) HC.out.2.2.2.2.2.2.2.2.2.1).mono ?_
              rintro e g1 ⟨rfl, hb⟩
              refine hK _ _ hb ?_
              clear hK K
              clear x0 x1 x2 y0 y1 y2
              replace Hbel := Lib.hid (Hbel.out.trans (hb.mono Hbel.out.size))
              replace Na := Lib.hid (Na.out.ext hb)
              replace Nb := Lib.hid (Nb.out.ext hb)
              clear hb
              have x0 : ∀ w', Ext g1 w' → w'.cell? ⟨px, 0, none⟩ = some (.string lo) := fun w' h => (Na.out.ext h).c0
              have x1 : ∀ w', Ext g1 w' → w'.cell? ⟨px, 1, none⟩ = some (.string hi) := fun w' h => (Na.out.ext h).c1
              have x2 : ∀ w', Ext g1 w' → w'.cell? ⟨px, 2, none⟩ = some (.bool op) := fun w' h => (Na.out.ext h).c2
              have y0 : ∀ w', Ext g1 w' → w'.cell? ⟨py, 0, none⟩ = some (.string lo2) := fun w' h => (Nb.out.ext h).c0
              have y1 : ∀ w', Ext g1 w' → w'.cell? ⟨py, 1, none⟩ = some (.string hi2) := fun w' h => (Nb.out.ext h).c1
              have y2 : ∀ w', Ext g1 w' → w'.cell? ⟨py, 2, none⟩ = some (.bool op2) := fun w' h => (Nb.out.ext h).c2
              dsimp only
              refine wpGr_call (o := ⟨_, _, _, _, _, _⟩) rfl (by rfl) (fun K hK => ?_)
              go_simp
              refine (has_at _ _ _ _ HV _ HC.out.2.2.2.2.2.2.2.2.1).mono ?_
              rintro e g2 ⟨rfl, hb⟩
              refine hK _ _ hb ?_
              clear hK K
              clear x0 x1 x2 y0 y1 y2
              replace Hbel := Lib.hid (Hbel.out.trans (hb.mono Hbel.out.size))
              replace Na := Lib.hid (Na.out.ext hb)
              replace Nb := Lib.hid (Nb.out.ext hb)
              clear hb
              have x0 : ∀ w', Ext g2 w' → w'.cell? ⟨px, 0, none⟩ = some (.string lo) := fun w' h => (Na.out.ext h).c0
              have x1 : ∀ w', Ext g2 w' → w'.cell? ⟨px, 1, none⟩ = some (.string hi) := fun w' h => (Na.out.ext h).c1
              have x2 : ∀ w', Ext g2 w' → w'.cell? ⟨px, 2, none⟩ = some (.bool op) := fun w' h => (Na.out.ext h).c2
              have y0 : ∀ w', Ext g2 w' → w'.cell? ⟨py, 0, none⟩ = some (.string lo2) := fun w' h => (Nb.out.ext h).c0
              have y1 : ∀ w', Ext g2 w' → w'.cell? ⟨py, 1, none⟩ = some (.string hi2) := fun w' h => (Nb.out.ext h).c1
              have y2 : ∀ w', Ext g2 w' → w'.cell? ⟨py, 2, none⟩ = some (.bool op2) := fun w' h => (Nb.out.ext h).c2
              refine wpGr_call (o := ⟨_, _, _, _, _, _⟩) rfl (by rfl) (fun K hK => ?_)
              go_simp
              refine (begins_at _ _ HV _ HC.out.2.2.2.2.2.2.2.1).mono ?_
              rintro e w' ⟨rfl, rfl⟩
              refine hK _ _ (Ext.refl _) ?_
              clear hK K
              iterate 7 (refine wpGr_read (o := ⟨_, _, _, _, _, _⟩) (v := ?_) rfl (by rfl) ?_ ?_; rotate_left; (intro w' hw'; go_simp; with_reducible rfl); simp only [Act.put, List.setIfInBounds_toArray, List.set_cons_zero, List.set_cons_succ])
              refine wpGr_call (o := ⟨_, _, _, _, _, _⟩) rfl (by rfl) (fun K hK => ?_)
              go_simp
              refine (meet_at ⟨lo, hi, op⟩ ⟨lo2, hi2, op2⟩ ⟨ml, mh, mo⟩ _ HC.out.2.2.2.2.2.1).mono ?_
              rintro e g3 ⟨rfl, hb⟩
              refine hK _ _ hb ?_
              clear hK K
              clear x0 x1 x2 y0 y1 y2
              replace Hbel := Lib.hid (Hbel.out.trans (hb.mono Hbel.out.size))
              replace Na := Lib.hid (Na.out.ext hb)
              replace Nb := Lib.hid (Nb.out.ext hb)
              clear hb
              have x0 : ∀ w', Ext g3 w' → w'.cell? ⟨px, 0, none⟩ = some (.string lo) := fun w' h => (Na.out.ext h).c0
              have x1 : ∀ w', Ext g3 w' → w'.cell? ⟨px, 1, none⟩ = some (.string hi) := fun w' h => (Na.out.ext h).c1
              have x2 : ∀ w', Ext g3 w' → w'.cell? ⟨px, 2, none⟩ = some (.bool op) := fun w' h => (Na.out.ext h).c2
              have y0 : ∀ w', Ext g3 w' → w'.cell? ⟨py, 0, none⟩ = some (.string lo2) := fun w' h => (Nb.out.ext h).c0
              have y1 : ∀ w', Ext g3 w' → w'.cell? ⟨py, 1, none⟩ = some (.string hi2) := fun w' h => (Nb.out.ext h).c1
              have y2 : ∀ w', Ext g3 w' → w'.cell? ⟨py, 2, none⟩ = some (.bool op2) := fun w' h => (Nb.out.ext h).c2
              dsimp only
              refine wpGr_call (o := ⟨_, _, _, _, _, _⟩) rfl (by rfl) (fun K hK => ?_)
              go_simp
              refine (has_at _ _ _ _ false _ HC.out.2.2.2.2.1).mono ?_
              rintro e g4 ⟨rfl, hb⟩
              refine hK _ _ hb ?_
              clear hK K
              clear x0 x1 x2 y0 y1 y2
              replace Hbel := Lib.hid (Hbel.out.trans (hb.mono Hbel.out.size))
              replace Na := Lib.hid (Na.out.ext hb)
              replace Nb := Lib.hid (Nb.out.ext hb)
              clear hb
              have x0 : ∀ w', Ext g4 w' → w'.cell? ⟨px, 0, none⟩ = some (.string lo) := fun w' h => (Na.out.ext h).c0
              have x1 : ∀ w', Ext g4 w' → w'.cell? ⟨px, 1, none⟩ = some (.string hi) := fun w' h => (Na.out.ext h).c1
              have x2 : ∀ w', Ext g4 w' → w'.cell? ⟨px, 2, none⟩ = some (.bool op) := fun w' h => (Na.out.ext h).c2
              have y0 : ∀ w', Ext g4 w' → w'.cell? ⟨py, 0, none⟩ = some (.string lo2) := fun w' h => (Nb.out.ext h).c0
              have y1 : ∀ w', Ext g4 w' → w'.cell? ⟨py, 1, none⟩ = some (.string hi2) := fun w' h => (Nb.out.ext h).c1
              have y2 : ∀ w', Ext g4 w' → w'.cell? ⟨py, 2, none⟩ = some (.bool op2) := fun w' h => (Nb.out.ext h).c2
              refine wpGr_call (o := ⟨_, _, _, _, _, _⟩) rfl (by rfl) (fun K hK => ?_)
              go_simp
              refine (has_at _ _ _ _ false _ HC.out.1).mono ?_
              rintro e g5 ⟨rfl, hb⟩
              refine hK _ _ hb ?_
              clear hK K
              clear x0 x1 x2 y0 y1 y2
              replace Hbel := Lib.hid (Hbel.out.trans (hb.mono Hbel.out.size))
              replace Na := Lib.hid (Na.out.ext hb)
              replace Nb := Lib.hid (Nb.out.ext hb)
              clear hb
              have x0 : ∀ w', Ext g5 w' → w'.cell? ⟨px, 0, none⟩ = some (.string lo) := fun w' h => (Na.out.ext h).c0
              have x1 : ∀ w', Ext g5 w' → w'.cell? ⟨px, 1, none⟩ = some (.string hi) := fun w' h => (Na.out.ext h).c1
              have x2 : ∀ w', Ext g5 w' → w'.cell? ⟨px, 2, none⟩ = some (.bool op) := fun w' h => (Na.out.ext h).c2
              have y0 : ∀ w', Ext g5 w' → w'.cell? ⟨py, 0, none⟩ = some (.string lo2) := fun w' h => (Nb.out.ext h).c0
              have y1 : ∀ w', Ext g5 w' → w'.cell? ⟨py, 1, none⟩ = some (.string hi2) := fun w' h => (Nb.out.ext h).c1
              have y2 : ∀ w', Ext g5 w' → w'.cell? ⟨py, 2, none⟩ = some (.bool op2) := fun w' h => (Nb.out.ext h).c2
              iterate 1 (refine wpGr_read (o := ⟨_, _, _, _, _, _⟩) (v := ?_) rfl (by rfl) ?_ ?_; rotate_left; (intro w' hw'; go_simp; with_reducible rfl); simp only [Act.put, List.setIfInBounds_toArray, List.set_cons_zero, List.set_cons_succ])
              iterate 2 (refine wpGr_skip (o := ⟨_, _, _, _, _, _⟩) rfl (by rfl) ?_; simp only [Act.put, List.setIfInBounds_toArray, List.set_cons_zero, List.set_cons_succ])
              refine wpGr_skipCall (o := ⟨_, _, _, _, _, _⟩) rfl (by rfl) ?_
              simp only [Act.put, List.setIfInBounds_toArray, List.set_cons_zero, List.set_cons_succ]
              iterate 3 (refine wpGr_read (o := ⟨_, _, _, _, _, _⟩) (v := ?_) rfl (by rfl) ?_ ?_; rotate_left; (intro w' hw'; go_simp; with_reducible rfl); simp only [Act.put, List.setIfInBounds_toArray, List.set_cons_zero, List.set_cons_succ])
              clear x0 x1 x2 y0 y1 y2
              refine wpGr_done ?_
              have x0 := Na.out.c0
              have x1 := Na.out.c1
              have x2 := Na.out.c2
              have y0 := Nb.out.c0
              have y1 := Nb.out.c1
              have y2 := Nb.out.c2
              dsimp only at x0 x1 x2 y0 y1 y2
              go_wp2_with fail
              refine (with_at ⟨lo, hi, op⟩ ⟨lo2, hi2, op2⟩ false _ HC.out.2.1).mono ?_
              rintro e k1 ⟨rfl, hb⟩
              clear x0 x1 x2 y0 y1 y2
              replace Hbel := Lib.hid (Hbel.out.trans (hb.mono Hbel.out.size))
              replace Na := Lib.hid (Na.out.ext hb)
              replace Nb := Lib.hid (Nb.out.ext hb)
              clear hb
              have x0 := Na.out.c0
              have x1 := Na.out.c1
              have x2 := Na.out.c2
              have y0 := Nb.out.c0
              have y1 := Nb.out.c1
              have y2 := Nb.out.c2
              dsimp only at x0 x1 x2 y0 y1 y2
              go_wp2_with fail
              refine (emp_at _ _ _ false _ HC.out.2.2.1).mono ?_
              rintro e k2 ⟨rfl, hb⟩
              clear x0 x1 x2 y0 y1 y2
              replace Hbel := Lib.hid (Hbel.out.trans (hb.mono Hbel.out.size))
              replace Na := Lib.hid (Na.out.ext hb)
              replace Nb := Lib.hid (Nb.out.ext hb)
              clear hb
              have x0 := Na.out.c0
              have x1 := Na.out.c1
              have x2 := Na.out.c2
              have y0 := Nb.out.c0
              have y1 := Nb.out.c1
              have y2 := Nb.out.c2
              dsimp only at x0 x1 x2 y0 y1 y2
              go_wp2_with fail
              refine (emp_at _ _ _ false _ HC.out.2.2.1).mono ?_
              rintro e k3 ⟨rfl, hb⟩
              clear x0 x1 x2 y0 y1 y2
              replace Hbel := Lib.hid (Hbel.out.trans (hb.mono Hbel.out.size))
              replace Na := Lib.hid (Na.out.ext hb)
              replace Nb := Lib.hid (Nb.out.ext hb)
              clear hb
              have x0 := Na.out.c0
              have x1 := Na.out.c1
              have x2 := Na.out.c2
              have y0 := Nb.out.c0
              have y1 := Nb.out.c1
              have y2 := Nb.out.c2
              dsimp only at x0 x1 x2 y0 y1 y2
              go_wp2_with fail
              refine (has_at _ _ _ _ true _ HC.out.2.2.2.2.2.2.1).mono ?_
              rintro e k4 ⟨rfl, hb⟩
              clear x0 x1 x2 y0 y1 y2
              replace Hbel := Lib.hid (Hbel.out.trans (hb.mono Hbel.out.size))
              replace Na := Lib.hid (Na.out.ext hb)
              replace Nb := Lib.hid (Nb.out.ext hb)
              clear hb
              have x0 := Na.out.c0
              have x1 := Na.out.c1
              have x2 := Na.out.c2
              have y0 := Nb.out.c0
              have y1 := Nb.out.c1
              have y2 := Nb.out.c2
              dsimp only at x0 x1 x2 y0 y1 y2
              go_wp2_with fail
              refine (next_at _ NV _ (by omega) HC.out.2.2.2.2.2.2.2.2.2.2.2.2.2.1).mono ?_
              rintro e w' ⟨rfl, rfl⟩
              have l1 := bl_less HC.out.2.2.2.2.2.2.2.2.2.2.2.2.2.2.1
              have l2 := bl_less HC.out.2.2.2.2.2.2.2.2.2.2.2.2.2.2.2.1
              have n1 : ¬ (9223372036854775807 < pre.size + key.size) := by omega
              have n2 : pre ++ key = PK := HC.out.2.2.2.2.2.2.2.2.2.2.1
              go_wp2_with fail
              refine (of_at _ ⟨ql, qh, qo⟩ _ (by omega) HC.out.2.2.2.2.2.2.2.2.2.2.2.2.1).mono ?_
              rintro e k5 ⟨rfl, hb⟩
              clear x0 x1 x2 y0 y1 y2
              replace Hbel := Lib.hid (Hbel.out.trans (hb.mono Hbel.out.size))
              replace Na := Lib.hid (Na.out.ext hb)
              replace Nb := Lib.hid (Nb.out.ext hb)
              clear hb
              have x0 := Na.out.c0
              have x1 := Na.out.c1
              have x2 := Na.out.c2
              have y0 := Nb.out.c0
              have y1 := Nb.out.c1
              have y2 := Nb.out.c2
              dsimp only at x0 x1 x2 y0 y1 y2
              dsimp only
              go_wp2_with fail
              refine (of_at _ ⟨ol, oh, oo⟩ _ (by omega) HC.out.2.2.2.2.2.2.2.2.2.1).mono ?_
              rintro e k6 ⟨rfl, hb⟩
              clear x0 x1 x2 y0 y1 y2
              replace Hbel := Lib.hid (Hbel.out.trans (hb.mono Hbel.out.size))
              replace Na := Lib.hid (Na.out.ext hb)
              replace Nb := Lib.hid (Nb.out.ext hb)
              clear hb
              have x0 := Na.out.c0
              have x1 := Na.out.c1
              have x2 := Na.out.c2
              have y0 := Nb.out.c0
              have y1 := Nb.out.c1
              have y2 := Nb.out.c2
              dsimp only at x0 x1 x2 y0 y1 y2
              dsimp only
              go_wp2_with fail
              refine (with_at ⟨ql, qh, qo⟩ ⟨ol, oh, oo⟩ true _ HC.out.2.2.2.2.2.2.2.2.2.2.2.1).mono ?_
              rintro e k7 ⟨rfl, hb⟩
              clear x0 x1 x2 y0 y1 y2
              replace Hbel := Lib.hid (Hbel.out.trans (hb.mono Hbel.out.size))
              replace Na := Lib.hid (Na.out.ext hb)
              replace Nb := Lib.hid (Nb.out.ext hb)
              clear hb
              have x0 := Na.out.c0
              have x1 := Na.out.c1
              have x2 := Na.out.c2
              have y0 := Nb.out.c0
              have y1 := Nb.out.c1
              have y2 := Nb.out.c2
              dsimp only at x0 x1 x2 y0 y1 y2
              go_wp2_with fail
              refine (sure_any _ (HG.out.below Hbel.out)).mono ?_
              rintro e k8 ⟨rfl, hb⟩
              clear x0 x1 x2 y0 y1 y2
              replace Hbel := Lib.hid (Hbel.out.trans (hb.mono Hbel.out.size))
              replace Na := Lib.hid (Na.out.ext hb)
              replace Nb := Lib.hid (Nb.out.ext hb)
              clear hb
              have x0 := Na.out.c0
              have x1 := Na.out.c1
              have x2 := Na.out.c2
              have y0 := Nb.out.c0
              have y1 := Nb.out.c1
              have y2 := Nb.out.c2
              dsimp only at x0 x1 x2 y0 y1 y2
              go_wp2_with fail
              go_ret
              exact ⟨rfl, Hbel.out⟩
end Go.Proofs.YtblebkgobhlonaaDoor
