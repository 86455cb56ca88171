/-
  KeysSpans: the law's walk.
-/
import Derived.Test.YtblebkgobhlonaaDoorKeysReg
namespace Go.Proofs.YtblebkgobhlonaaDoor
open Go Go.RowKit

set_option maxRecDepth 100000 in
set_option maxHeartbeats 4000000 in
theorem spans_any (lo hi lo2 hi2 key : ByteArray) (op op2 : Bool) (w : World) (hg : Hg w) :
    Calls Tryd.prog 3 #[.agg #[.string lo, .string hi, .bool op], .agg #[.string lo2, .string hi2, .bool op2], .string key] w fun e w' => e = .returned (.bool true) ∧ Below w.heap.size w w' := by
  have HG := Lib.hid hg
  clear hg
  have hs2 := two_spans w RSP ⟨lo, hi, op⟩ ⟨lo2, hi2, op2⟩
  have hb2 := two_below w (.cells #[.string lo, .string hi, .bool op] RSP) (.cells #[.string lo2, .string hi2, .bool op2] RSP)
  dsimp only at hs2
  have H2 := Lib.hid (And.intro hs2 hb2)
  clear hs2 hb2
  go_enter Tryd.func3, Tryd.ntmps3
  go_wp2_with fail
  cases hV : longS [lo, hi, lo2, hi2, key] with
  | true =>
    refine (long_new _ _ _ _ _ _ [lo, hi, lo2, hi2, key] true (by simp) rfl rfl (by simp) hV).mono ?_
    rintro e w1 ⟨rfl, hb3⟩
    have Hb3 := Lib.hid (H2.out.2.trans (hb3.mono H2.out.2.size))
    clear hb3 H2 hV
    go_wp2_with fail
    refine (sure_any _ (HG.out.below Hb3.out)).mono ?_
    rintro e w2 ⟨rfl, hb⟩
    have Hb4 := Lib.hid (Hb3.out.trans (hb.mono Hb3.out.size))
    clear hb Hb3
    go_wp2_with fail
    go_ret
    exact ⟨rfl, Hb4.out⟩
  | false =>
    refine (long_new _ _ _ _ _ _ [lo, hi, lo2, hi2, key] false (by simp) rfl rfl (by simp) hV).mono ?_
    rintro e w1 ⟨rfl, hb3⟩
    have hs3 := H2.out.1
    have z1 := long_not hV (s := lo) (by simp)
    have z2 := long_not hV (s := hi) (by simp)
    have z3 := long_not hV (s := lo2) (by simp)
    have z4 := long_not hV (s := hi2) (by simp)
    have z5 := long_not hV (s := key) (by simp)
    have Hs := Lib.hid (And.intro (hs3.1.ext hb3) (And.intro (hs3.2.ext hb3) (H2.out.2.trans (hb3.mono H2.out.2.size))))
    clear hb3 hs3 hV H2
    go_wp2_with fail
    obtain ⟨G, hG⟩ : ∃ G, G = w1.heap.size := ⟨_, rfl⟩
    have LG := Lib.hid hG
    clear hG
    refine wp_region_gs (F := fun i => G ≤ i) (.rd 0 (.rd 1 (.two 2 (.call 3 (.call 4 (.call 5 .done))) 3 (.call 2 (.call 4 (.call 5 .done)))))) (by kernel_rfl) (by kernel_rfl) (by kernel_rfl) (by kernel_rfl) (fun _ _ _ _ _ h => h) ?_
    have ta : ∀ w', Turn (fun i => G ≤ i) w1.drew w' → SpIn w' w.heap.size RSP ⟨lo, hi, op⟩ := fun w' t => t.hg Hs.out.1 (by have := Hs.out.1.lt; have := LG.out; omega)
    have tb : ∀ w', Turn (fun i => G ≤ i) w1.drew w' → SpIn w' (w.heap.size + 1) RSP ⟨lo2, hi2, op2⟩ := fun w' t => t.hg Hs.out.2.1 (by have := Hs.out.2.1.lt; have := LG.out; omega)
    have Ht := Lib.hid (And.intro ta tb)
    have a0 := fun w' t => (ta w' t).c0
    have a1 := fun w' t => (ta w' t).c1
    have a2 := fun w' t => (ta w' t).c2
    have b0 := fun w' t => (tb w' t).c0
    have b1 := fun w' t => (tb w' t).c1
    have b2 := fun w' t => (tb w' t).c2
    dsimp only at a0 a1 a2 b0 b1 b2
    clear ta tb
    iterate 2 (refine wpGs_read (o := ⟨_, _, _, _, _, _⟩) (v := ?_) rfl (by rfl) ?_ ?_; rotate_left; (intro w' hw'; go_simp; with_reducible rfl); simp only [Act.put, List.setIfInBounds_toArray, List.set_cons_zero, List.set_cons_succ])
    clear a0 a1 a2 b0 b1 b2
    apply share
    case h =>
      intro share_k
      have T0 : Hid (Turn (fun i => G ≤ i) w1.drew w1.drew) := Turn.refl _ _
      refine ⟨?_, ?_⟩
      · refine stepS_call (o := ⟨_, _, _, _, _, _⟩) rfl (by rfl) (fun K hK => ?_)
        go_simp
        refine hK _ _ ((Turn.refl _ _).alloc _) ?_
        clear hK K
        obtain ⟨r1, hr1⟩ : ∃ r1, r1 = (w1.alloc (.cells #[.string ⟨#[]⟩, .string ⟨#[]⟩, .bool false] SPT)).drew := ⟨_, rfl⟩
        have Na : Hid (SpIn r1 w1.heap.size SPT Z0) := by rw [hr1]; exact SpIn.new _ SPT Z0
        have T1 : Hid (Turn (fun i => G ≤ i) w1.drew r1) := by rw [hr1]; exact T0.out.alloc _
        have E1 : Hid (G ≤ w1.heap.size) := Nat.le_of_eq LG.out
        rw [← hr1]
        clear hr1 T0
        obtain ⟨px, hpx⟩ : ∃ p, p = w1.heap.size := ⟨_, rfl⟩
        rw [← hpx] at Na E1 ⊢
        have Px : Hid (G ≤ px) := E1.out
        clear hpx E1
        have Lx : Hid (px < r1.heap.size) := Na.out.lt
        refine stepS_call (o := ⟨_, _, _, _, _, _⟩) rfl (by rfl) (fun K hK => ?_)
        go_simp
        refine hK _ _ ((Turn.refl _ _).alloc _) ?_
        clear hK K
        obtain ⟨r2, hr2⟩ : ∃ r2, r2 = (r1.alloc (.cells #[.string ⟨#[]⟩, .string ⟨#[]⟩, .bool false] SPT)) := ⟨_, rfl⟩
        have Nb : Hid (SpIn r2 r1.heap.size SPT Z0) := by rw [hr2]; exact SpIn.new _ SPT Z0
        replace Na : Hid (SpIn r2 px SPT Z0) := by rw [hr2]; exact Na.out.stay _
        have T2 : Hid (Turn (fun i => G ≤ i) w1.drew r2) := by rw [hr2]; exact T1.out.alloc _
        have E2 : Hid (G ≤ r1.heap.size) := Nat.le_trans (Nat.le_of_eq LG.out) T1.out.size
        rw [← hr2]
        clear hr2 T1
        obtain ⟨py, hpy⟩ : ∃ p, p = r1.heap.size := ⟨_, rfl⟩
        rw [← hpy] at Nb E2 ⊢
        have Py : Hid (G ≤ py) := E2.out
        have Dxy : Hid (px ≠ py) := by have h := Lx.out; rw [← hpy] at h; exact Nat.ne_of_lt h
        clear hpy E2 Lx
        have Lx : Hid (px < r2.heap.size) := Na.out.lt
        have Ly : Hid (py < r2.heap.size) := Nb.out.lt
        clear Lx Ly
        have c0 := Na.out.c0
        have c1 := Na.out.c1
        have c2 := Na.out.c2
        have fz := Na.out.fz
        unfold Z0 at c0 c1 c2
        dsimp only at c0 c1 c2
        refine stepS_call (o := ⟨_, _, _, _, _, _⟩) rfl (by rfl) (fun K hK => ?_)
        go_simp
        clear c0 c1 c2 fz
        refine hK _ _ (filled_turn (s := ⟨lo, hi, op⟩) (Turn.refl _ _) Px.out) ?_
        clear hK K
        obtain ⟨r3, hr3⟩ : ∃ r3, r3 = filled r2 px ⟨lo, hi, op⟩ := ⟨_, rfl⟩
        unfold filled at hr3
        dsimp only at hr3
        rw [← hr3]
        replace Na : Hid (SpIn r3 px SPT ⟨lo, hi, op⟩) := by rw [hr3]; exact Na.out.filled ⟨lo, hi, op⟩
        replace Nb : Hid (SpIn r3 py SPT Z0) := by rw [hr3]; exact Nb.out.filledOther (s2 := ⟨lo, hi, op⟩) Dxy.out
        have T3 : Hid (Turn (fun i => G ≤ i) w1.drew r3) := by rw [hr3]; exact filled_turn (s := ⟨lo, hi, op⟩) T2.out Px.out
        clear hr3 T2
        have c0 := Nb.out.c0
        have c1 := Nb.out.c1
        have c2 := Nb.out.c2
        have fz := Nb.out.fz
        unfold Z0 at c0 c1 c2
        dsimp only at c0 c1 c2
        refine stepS_call (o := ⟨_, _, _, _, _, _⟩) rfl (by rfl) (fun K hK => ?_)
        go_simp
        clear c0 c1 c2 fz
        refine hK _ _ (filled_turn (s := ⟨lo2, hi2, op2⟩) (Turn.refl _ _) Py.out) ?_
        clear hK K
        obtain ⟨r4, hr4⟩ : ∃ r4, r4 = filled r3 py ⟨lo2, hi2, op2⟩ := ⟨_, rfl⟩
        unfold filled at hr4
        dsimp only at hr4
        rw [← hr4]
        replace Nb : Hid (SpIn r4 py SPT ⟨lo2, hi2, op2⟩) := by rw [hr4]; exact Nb.out.filled ⟨lo2, hi2, op2⟩
        replace Na : Hid (SpIn r4 px SPT ⟨lo, hi, op⟩) := by rw [hr4]; exact Na.out.filledOther (s2 := ⟨lo2, hi2, op2⟩) (Ne.symm Dxy.out)
        have T4 : Hid (Turn (fun i => G ≤ i) w1.drew r4) := by rw [hr4]; exact filled_turn (s := ⟨lo2, hi2, op2⟩) T3.out Py.out
        clear hr4 T3
        have Ba := Lib.hid (Ht.out.1 r4 T4.out)
        have Bb := Lib.hid (Ht.out.2 r4 T4.out)
        have Hbel : Hid (Below w.heap.size w r4) := Hs.out.2.2.drew.trans ((T4.out.below (B := G) (Nat.le_of_eq LG.out) (fun i h => h)).mono (by rw [LG.out]; exact Hs.out.2.2.size))
        clear T4 Px Py Dxy
        generalize r4 = v0 at *
        refine wpGs_done ?_
        revert Hbel
        revert Bb
        revert Ba
        revert Nb
        revert Na
        revert v0
        revert py
        revert px
        exact share_k
      · refine stepS_call (o := ⟨_, _, _, _, _, _⟩) rfl (by rfl) (fun K hK => ?_)
        go_simp
        refine hK _ _ ((Turn.refl _ _).alloc _) ?_
        clear hK K
        obtain ⟨r1, hr1⟩ : ∃ r1, r1 = (w1.alloc (.cells #[.string ⟨#[]⟩, .string ⟨#[]⟩, .bool false] SPT)).drew := ⟨_, rfl⟩
        have Nb : Hid (SpIn r1 w1.heap.size SPT Z0) := by rw [hr1]; exact SpIn.new _ SPT Z0
        have T1 : Hid (Turn (fun i => G ≤ i) w1.drew r1) := by rw [hr1]; exact T0.out.alloc _
        have E1 : Hid (G ≤ w1.heap.size) := Nat.le_of_eq LG.out
        rw [← hr1]
        clear hr1 T0
        obtain ⟨py, hpy⟩ : ∃ p, p = w1.heap.size := ⟨_, rfl⟩
        rw [← hpy] at Nb E1 ⊢
        have Py : Hid (G ≤ py) := E1.out
        clear hpy E1
        have Ly : Hid (py < r1.heap.size) := Nb.out.lt
        refine stepS_call (o := ⟨_, _, _, _, _, _⟩) rfl (by rfl) (fun K hK => ?_)
        go_simp
        refine hK _ _ ((Turn.refl _ _).alloc _) ?_
        clear hK K
        obtain ⟨r2, hr2⟩ : ∃ r2, r2 = (r1.alloc (.cells #[.string ⟨#[]⟩, .string ⟨#[]⟩, .bool false] SPT)) := ⟨_, rfl⟩
        have Na : Hid (SpIn r2 r1.heap.size SPT Z0) := by rw [hr2]; exact SpIn.new _ SPT Z0
        replace Nb : Hid (SpIn r2 py SPT Z0) := by rw [hr2]; exact Nb.out.stay _
        have T2 : Hid (Turn (fun i => G ≤ i) w1.drew r2) := by rw [hr2]; exact T1.out.alloc _
        have E2 : Hid (G ≤ r1.heap.size) := Nat.le_trans (Nat.le_of_eq LG.out) T1.out.size
        rw [← hr2]
        clear hr2 T1
        obtain ⟨px, hpx⟩ : ∃ p, p = r1.heap.size := ⟨_, rfl⟩
        rw [← hpx] at Na E2 ⊢
        have Px : Hid (G ≤ px) := E2.out
        have Dyx : Hid (py ≠ px) := by have h := Ly.out; rw [← hpx] at h; exact Nat.ne_of_lt h
        clear hpx E2 Ly
        have Ly : Hid (py < r2.heap.size) := Nb.out.lt
        have Lx : Hid (px < r2.heap.size) := Na.out.lt
        clear Ly Lx
        have c0 := Na.out.c0
        have c1 := Na.out.c1
        have c2 := Na.out.c2
        have fz := Na.out.fz
        unfold Z0 at c0 c1 c2
        dsimp only at c0 c1 c2
        refine stepS_call (o := ⟨_, _, _, _, _, _⟩) rfl (by rfl) (fun K hK => ?_)
        go_simp
        clear c0 c1 c2 fz
        refine hK _ _ (filled_turn (s := ⟨lo, hi, op⟩) (Turn.refl _ _) Px.out) ?_
        clear hK K
        obtain ⟨r3, hr3⟩ : ∃ r3, r3 = filled r2 px ⟨lo, hi, op⟩ := ⟨_, rfl⟩
        unfold filled at hr3
        dsimp only at hr3
        rw [← hr3]
        replace Na : Hid (SpIn r3 px SPT ⟨lo, hi, op⟩) := by rw [hr3]; exact Na.out.filled ⟨lo, hi, op⟩
        replace Nb : Hid (SpIn r3 py SPT Z0) := by rw [hr3]; exact Nb.out.filledOther (s2 := ⟨lo, hi, op⟩) (Ne.symm Dyx.out)
        have T3 : Hid (Turn (fun i => G ≤ i) w1.drew r3) := by rw [hr3]; exact filled_turn (s := ⟨lo, hi, op⟩) T2.out Px.out
        clear hr3 T2
        have c0 := Nb.out.c0
        have c1 := Nb.out.c1
        have c2 := Nb.out.c2
        have fz := Nb.out.fz
        unfold Z0 at c0 c1 c2
        dsimp only at c0 c1 c2
        refine stepS_call (o := ⟨_, _, _, _, _, _⟩) rfl (by rfl) (fun K hK => ?_)
        go_simp
        clear c0 c1 c2 fz
        refine hK _ _ (filled_turn (s := ⟨lo2, hi2, op2⟩) (Turn.refl _ _) Py.out) ?_
        clear hK K
        obtain ⟨r4, hr4⟩ : ∃ r4, r4 = filled r3 py ⟨lo2, hi2, op2⟩ := ⟨_, rfl⟩
        unfold filled at hr4
        dsimp only at hr4
        rw [← hr4]
        replace Nb : Hid (SpIn r4 py SPT ⟨lo2, hi2, op2⟩) := by rw [hr4]; exact Nb.out.filled ⟨lo2, hi2, op2⟩
        replace Na : Hid (SpIn r4 px SPT ⟨lo, hi, op⟩) := by rw [hr4]; exact Na.out.filledOther (s2 := ⟨lo2, hi2, op2⟩) Dyx.out
        have T4 : Hid (Turn (fun i => G ≤ i) w1.drew r4) := by rw [hr4]; exact filled_turn (s := ⟨lo2, hi2, op2⟩) T3.out Py.out
        clear hr4 T3
        have Ba := Lib.hid (Ht.out.1 r4 T4.out)
        have Bb := Lib.hid (Ht.out.2 r4 T4.out)
        have Hbel : Hid (Below w.heap.size w r4) := Hs.out.2.2.drew.trans ((T4.out.below (B := G) (Nat.le_of_eq LG.out) (fun i h => h)).mono (by rw [LG.out]; exact Hs.out.2.2.size))
        clear T4 Px Py Dyx
        generalize r4 = v0 at *
        refine wpGs_done ?_
        revert Hbel
        revert Bb
        revert Ba
        revert Nb
        revert Na
        revert v0
        revert py
        revert px
        exact share_k
    case k =>
      intro px py v0 Na Nb Ba Bb Hbel
      clear LG Ht Hs
      rcases Nat.lt_or_ge key.size 1 with h0 | h0
      · as_aux_lemma =>
        have d1 : decide ((key.size : Int) < 1) = true := by simp; omega
        have d2 : decide ((1 : Int) ≤ key.size) = false := by simp; omega
        have hck : chkV key = .iface 48 (.int .i64 1) := by unfold chkV okK; rw [if_neg (by simp; omega)]
        have Hck := Lib.hid hck
        clear hck
        go_wp2_with fail
        refine (chk_at _ _ _ Hck.out).mono ?_
        rintro e w' ⟨rfl, rfl⟩
        go_wp2_with fail
        refine (num_err 1 _ (HG.out.below Hbel.out)).mono ?_
        rintro e v ⟨rfl, hb⟩
        replace Hbel := Lib.hid (Hbel.out.trans (hb.mono Hbel.out.size))
        replace Na := Lib.hid (Na.out.ext hb)
        replace Nb := Lib.hid (Nb.out.ext hb)
        replace Ba := Lib.hid (Ba.out.ext hb)
        replace Bb := Lib.hid (Bb.out.ext hb)
        clear hb
        go_wp2_with fail
        obtain ⟨HV, hHV⟩ : ∃ V, hasS ⟨lo, hi, op⟩ key = V := ⟨_, rfl⟩
        obtain ⟨EV, hEV⟩ : ∃ V, empS ⟨lo, hi, op⟩ = V := ⟨_, rfl⟩
        obtain ⟨⟨ol, oh, oo⟩, hof⟩ : ∃ s, ofS key = s := ⟨_, rfl⟩
        obtain ⟨⟨ml, mh, mo⟩, hme⟩ : ∃ s, meetS ⟨lo, hi, op⟩ ⟨lo2, hi2, op2⟩ = s := ⟨_, rfl⟩
        obtain ⟨WV, hWV⟩ : ∃ V, withS ⟨lo, hi, op⟩ ⟨lo2, hi2, op2⟩ = V := ⟨_, rfl⟩
        obtain ⟨NV, hNV⟩ : ∃ N, nextS key = N := ⟨_, rfl⟩
        have HC := Lib.hid (And.intro hHV (And.intro hEV (And.intro hof (And.intro hme (And.intro hWV hNV)))))
        clear hHV hEV hof hme hWV hNV
        refine wp_region_gr [(0, true), (1, true), (3, true), (4, true), (2, false), (5, false), (6, true), (7, true), (8, true), (10, true), (9, false), (11, false), (12, true), (13, true), (14, true), (15, true), (17, true), (16, false), (18, false), (19, true), (20, true), (21, true), (22, true), (23, true), (25, true), (26, true), (24, false), (27, false), (28, true), (29, true), (30, true), (31, true), (32, true), (34, true), (35, true), (33, false), (36, false), (37, true), (38, true), (39, true), (40, true), (42, true), (43, true), (41, false), (44, true), (45, true), (46, true), (47, false), (48, true), (49, true)] (by kernel_rfl) (by kernel_rfl) (by kernel_rfl) (by kernel_rfl) (fun _ _ _ _ _ h => h) ?_
        replace Hbel := Lib.hid Hbel.out.drew
        replace Na : Hid (SpIn v.drew px SPT ⟨lo, hi, op⟩) := Na.out
        replace Nb : Hid (SpIn v.drew py SPT ⟨lo2, hi2, op2⟩) := Nb.out
        replace Ba : Hid (SpIn v.drew w.heap.size RSP ⟨lo, hi, op⟩) := Ba.out
        replace Bb : Hid (SpIn v.drew (w.heap.size + 1) RSP ⟨lo2, hi2, op2⟩) := Bb.out
        generalize v.drew = g0 at *
        have x0 : ∀ w', Ext g0 w' → w'.cell? ⟨px, 0, none⟩ = some (.string lo) := fun w' h => (Na.out.ext h).c0
        have x1 : ∀ w', Ext g0 w' → w'.cell? ⟨px, 1, none⟩ = some (.string hi) := fun w' h => (Na.out.ext h).c1
        have x2 : ∀ w', Ext g0 w' → w'.cell? ⟨px, 2, none⟩ = some (.bool op) := fun w' h => (Na.out.ext h).c2
        have y0 : ∀ w', Ext g0 w' → w'.cell? ⟨py, 0, none⟩ = some (.string lo2) := fun w' h => (Nb.out.ext h).c0
        have y1 : ∀ w', Ext g0 w' → w'.cell? ⟨py, 1, none⟩ = some (.string hi2) := fun w' h => (Nb.out.ext h).c1
        have y2 : ∀ w', Ext g0 w' → w'.cell? ⟨py, 2, none⟩ = some (.bool op2) := fun w' h => (Nb.out.ext h).c2
        have a0 : ∀ w', Ext g0 w' → w'.cell? ⟨w.heap.size, 0, none⟩ = some (.string lo) := fun w' h => (Ba.out.ext h).c0
        have a1 : ∀ w', Ext g0 w' → w'.cell? ⟨w.heap.size, 1, none⟩ = some (.string hi) := fun w' h => (Ba.out.ext h).c1
        have a2 : ∀ w', Ext g0 w' → w'.cell? ⟨w.heap.size, 2, none⟩ = some (.bool op) := fun w' h => (Ba.out.ext h).c2
        have b0 : ∀ w', Ext g0 w' → w'.cell? ⟨(w.heap.size + 1), 0, none⟩ = some (.string lo2) := fun w' h => (Bb.out.ext h).c0
        have b1 : ∀ w', Ext g0 w' → w'.cell? ⟨(w.heap.size + 1), 1, none⟩ = some (.string hi2) := fun w' h => (Bb.out.ext h).c1
        have b2 : ∀ w', Ext g0 w' → w'.cell? ⟨(w.heap.size + 1), 2, none⟩ = some (.bool op2) := fun w' h => (Bb.out.ext h).c2
        iterate 4 (refine wpGr_read (o := ⟨_, _, _, _, _, _⟩) (v := ?_) rfl (by rfl) ?_ ?_; rotate_left; (intro w' hw'; go_simp; with_reducible rfl); simp only [Act.put, List.setIfInBounds_toArray, List.set_cons_zero, List.set_cons_succ])
        refine wpGr_call (o := ⟨_, _, _, _, _, _⟩) rfl (by rfl) (fun K hK => ?_)
        go_simp
        refine (has_at _ _ _ _ HV _ HC.out.1).mono ?_
        rintro e g1 ⟨rfl, hb⟩
        refine hK _ _ hb ?_
        clear hK K
        clear x0 x1 x2 y0 y1 y2 a0 a1 a2 b0 b1 b2
        replace Hbel := Lib.hid (Hbel.out.trans (hb.mono Hbel.out.size))
        replace Na := Lib.hid (Na.out.ext hb)
        replace Nb := Lib.hid (Nb.out.ext hb)
        replace Ba := Lib.hid (Ba.out.ext hb)
        replace Bb := Lib.hid (Bb.out.ext hb)
        clear hb
        have x0 : ∀ w', Ext g1 w' → w'.cell? ⟨px, 0, none⟩ = some (.string lo) := fun w' h => (Na.out.ext h).c0
        have x1 : ∀ w', Ext g1 w' → w'.cell? ⟨px, 1, none⟩ = some (.string hi) := fun w' h => (Na.out.ext h).c1
        have x2 : ∀ w', Ext g1 w' → w'.cell? ⟨px, 2, none⟩ = some (.bool op) := fun w' h => (Na.out.ext h).c2
        have y0 : ∀ w', Ext g1 w' → w'.cell? ⟨py, 0, none⟩ = some (.string lo2) := fun w' h => (Nb.out.ext h).c0
        have y1 : ∀ w', Ext g1 w' → w'.cell? ⟨py, 1, none⟩ = some (.string hi2) := fun w' h => (Nb.out.ext h).c1
        have y2 : ∀ w', Ext g1 w' → w'.cell? ⟨py, 2, none⟩ = some (.bool op2) := fun w' h => (Nb.out.ext h).c2
        have a0 : ∀ w', Ext g1 w' → w'.cell? ⟨w.heap.size, 0, none⟩ = some (.string lo) := fun w' h => (Ba.out.ext h).c0
        have a1 : ∀ w', Ext g1 w' → w'.cell? ⟨w.heap.size, 1, none⟩ = some (.string hi) := fun w' h => (Ba.out.ext h).c1
        have a2 : ∀ w', Ext g1 w' → w'.cell? ⟨w.heap.size, 2, none⟩ = some (.bool op) := fun w' h => (Ba.out.ext h).c2
        have b0 : ∀ w', Ext g1 w' → w'.cell? ⟨(w.heap.size + 1), 0, none⟩ = some (.string lo2) := fun w' h => (Bb.out.ext h).c0
        have b1 : ∀ w', Ext g1 w' → w'.cell? ⟨(w.heap.size + 1), 1, none⟩ = some (.string hi2) := fun w' h => (Bb.out.ext h).c1
        have b2 : ∀ w', Ext g1 w' → w'.cell? ⟨(w.heap.size + 1), 2, none⟩ = some (.bool op2) := fun w' h => (Bb.out.ext h).c2
        refine wpGr_call (o := ⟨_, _, _, _, _, _⟩) rfl (by rfl) (fun K hK => ?_)
        go_simp
        refine (refHas_at _ _ _ _ HV _ (by omega) HC.out.1).mono ?_
        rintro e g2 ⟨rfl, hb⟩
        refine hK _ _ hb ?_
        clear hK K
        clear x0 x1 x2 y0 y1 y2 a0 a1 a2 b0 b1 b2
        replace Hbel := Lib.hid (Hbel.out.trans (hb.mono Hbel.out.size))
        replace Na := Lib.hid (Na.out.ext hb)
        replace Nb := Lib.hid (Nb.out.ext hb)
        replace Ba := Lib.hid (Ba.out.ext hb)
        replace Bb := Lib.hid (Bb.out.ext hb)
        clear hb
        have x0 : ∀ w', Ext g2 w' → w'.cell? ⟨px, 0, none⟩ = some (.string lo) := fun w' h => (Na.out.ext h).c0
        have x1 : ∀ w', Ext g2 w' → w'.cell? ⟨px, 1, none⟩ = some (.string hi) := fun w' h => (Na.out.ext h).c1
        have x2 : ∀ w', Ext g2 w' → w'.cell? ⟨px, 2, none⟩ = some (.bool op) := fun w' h => (Na.out.ext h).c2
        have y0 : ∀ w', Ext g2 w' → w'.cell? ⟨py, 0, none⟩ = some (.string lo2) := fun w' h => (Nb.out.ext h).c0
        have y1 : ∀ w', Ext g2 w' → w'.cell? ⟨py, 1, none⟩ = some (.string hi2) := fun w' h => (Nb.out.ext h).c1
        have y2 : ∀ w', Ext g2 w' → w'.cell? ⟨py, 2, none⟩ = some (.bool op2) := fun w' h => (Nb.out.ext h).c2
        have a0 : ∀ w', Ext g2 w' → w'.cell? ⟨w.heap.size, 0, none⟩ = some (.string lo) := fun w' h => (Ba.out.ext h).c0
        have a1 : ∀ w', Ext g2 w' → w'.cell? ⟨w.heap.size, 1, none⟩ = some (.string hi) := fun w' h => (Ba.out.ext h).c1
        have a2 : ∀ w', Ext g2 w' → w'.cell? ⟨w.heap.size, 2, none⟩ = some (.bool op) := fun w' h => (Ba.out.ext h).c2
        have b0 : ∀ w', Ext g2 w' → w'.cell? ⟨(w.heap.size + 1), 0, none⟩ = some (.string lo2) := fun w' h => (Bb.out.ext h).c0
        have b1 : ∀ w', Ext g2 w' → w'.cell? ⟨(w.heap.size + 1), 1, none⟩ = some (.string hi2) := fun w' h => (Bb.out.ext h).c1
        have b2 : ∀ w', Ext g2 w' → w'.cell? ⟨(w.heap.size + 1), 2, none⟩ = some (.bool op2) := fun w' h => (Bb.out.ext h).c2
        iterate 4 (refine wpGr_read (o := ⟨_, _, _, _, _, _⟩) (v := ?_) rfl (by rfl) ?_ ?_; rotate_left; (intro w' hw'; go_simp; with_reducible rfl); simp only [Act.put, List.setIfInBounds_toArray, List.set_cons_zero, List.set_cons_succ])
        refine wpGr_call (o := ⟨_, _, _, _, _, _⟩) rfl (by rfl) (fun K hK => ?_)
        go_simp
        refine (emp_at _ _ _ EV _ HC.out.2.1).mono ?_
        rintro e g3 ⟨rfl, hb⟩
        refine hK _ _ hb ?_
        clear hK K
        clear x0 x1 x2 y0 y1 y2 a0 a1 a2 b0 b1 b2
        replace Hbel := Lib.hid (Hbel.out.trans (hb.mono Hbel.out.size))
        replace Na := Lib.hid (Na.out.ext hb)
        replace Nb := Lib.hid (Nb.out.ext hb)
        replace Ba := Lib.hid (Ba.out.ext hb)
        replace Bb := Lib.hid (Bb.out.ext hb)
        clear hb
        have x0 : ∀ w', Ext g3 w' → w'.cell? ⟨px, 0, none⟩ = some (.string lo) := fun w' h => (Na.out.ext h).c0
        have x1 : ∀ w', Ext g3 w' → w'.cell? ⟨px, 1, none⟩ = some (.string hi) := fun w' h => (Na.out.ext h).c1
        have x2 : ∀ w', Ext g3 w' → w'.cell? ⟨px, 2, none⟩ = some (.bool op) := fun w' h => (Na.out.ext h).c2
        have y0 : ∀ w', Ext g3 w' → w'.cell? ⟨py, 0, none⟩ = some (.string lo2) := fun w' h => (Nb.out.ext h).c0
        have y1 : ∀ w', Ext g3 w' → w'.cell? ⟨py, 1, none⟩ = some (.string hi2) := fun w' h => (Nb.out.ext h).c1
        have y2 : ∀ w', Ext g3 w' → w'.cell? ⟨py, 2, none⟩ = some (.bool op2) := fun w' h => (Nb.out.ext h).c2
        have a0 : ∀ w', Ext g3 w' → w'.cell? ⟨w.heap.size, 0, none⟩ = some (.string lo) := fun w' h => (Ba.out.ext h).c0
        have a1 : ∀ w', Ext g3 w' → w'.cell? ⟨w.heap.size, 1, none⟩ = some (.string hi) := fun w' h => (Ba.out.ext h).c1
        have a2 : ∀ w', Ext g3 w' → w'.cell? ⟨w.heap.size, 2, none⟩ = some (.bool op) := fun w' h => (Ba.out.ext h).c2
        have b0 : ∀ w', Ext g3 w' → w'.cell? ⟨(w.heap.size + 1), 0, none⟩ = some (.string lo2) := fun w' h => (Bb.out.ext h).c0
        have b1 : ∀ w', Ext g3 w' → w'.cell? ⟨(w.heap.size + 1), 1, none⟩ = some (.string hi2) := fun w' h => (Bb.out.ext h).c1
        have b2 : ∀ w', Ext g3 w' → w'.cell? ⟨(w.heap.size + 1), 2, none⟩ = some (.bool op2) := fun w' h => (Bb.out.ext h).c2
        refine wpGr_call (o := ⟨_, _, _, _, _, _⟩) rfl (by rfl) (fun K hK => ?_)
        go_simp
        refine (refEmp_at _ _ _ EV _ (by omega) HC.out.2.1).mono ?_
        rintro e g4 ⟨rfl, hb⟩
        refine hK _ _ hb ?_
        clear hK K
        clear x0 x1 x2 y0 y1 y2 a0 a1 a2 b0 b1 b2
        replace Hbel := Lib.hid (Hbel.out.trans (hb.mono Hbel.out.size))
        replace Na := Lib.hid (Na.out.ext hb)
        replace Nb := Lib.hid (Nb.out.ext hb)
        replace Ba := Lib.hid (Ba.out.ext hb)
        replace Bb := Lib.hid (Bb.out.ext hb)
        clear hb
        have x0 : ∀ w', Ext g4 w' → w'.cell? ⟨px, 0, none⟩ = some (.string lo) := fun w' h => (Na.out.ext h).c0
        have x1 : ∀ w', Ext g4 w' → w'.cell? ⟨px, 1, none⟩ = some (.string hi) := fun w' h => (Na.out.ext h).c1
        have x2 : ∀ w', Ext g4 w' → w'.cell? ⟨px, 2, none⟩ = some (.bool op) := fun w' h => (Na.out.ext h).c2
        have y0 : ∀ w', Ext g4 w' → w'.cell? ⟨py, 0, none⟩ = some (.string lo2) := fun w' h => (Nb.out.ext h).c0
        have y1 : ∀ w', Ext g4 w' → w'.cell? ⟨py, 1, none⟩ = some (.string hi2) := fun w' h => (Nb.out.ext h).c1
        have y2 : ∀ w', Ext g4 w' → w'.cell? ⟨py, 2, none⟩ = some (.bool op2) := fun w' h => (Nb.out.ext h).c2
        have a0 : ∀ w', Ext g4 w' → w'.cell? ⟨w.heap.size, 0, none⟩ = some (.string lo) := fun w' h => (Ba.out.ext h).c0
        have a1 : ∀ w', Ext g4 w' → w'.cell? ⟨w.heap.size, 1, none⟩ = some (.string hi) := fun w' h => (Ba.out.ext h).c1
        have a2 : ∀ w', Ext g4 w' → w'.cell? ⟨w.heap.size, 2, none⟩ = some (.bool op) := fun w' h => (Ba.out.ext h).c2
        have b0 : ∀ w', Ext g4 w' → w'.cell? ⟨(w.heap.size + 1), 0, none⟩ = some (.string lo2) := fun w' h => (Bb.out.ext h).c0
        have b1 : ∀ w', Ext g4 w' → w'.cell? ⟨(w.heap.size + 1), 1, none⟩ = some (.string hi2) := fun w' h => (Bb.out.ext h).c1
        have b2 : ∀ w', Ext g4 w' → w'.cell? ⟨(w.heap.size + 1), 2, none⟩ = some (.bool op2) := fun w' h => (Bb.out.ext h).c2
        iterate 5 (refine wpGr_read (o := ⟨_, _, _, _, _, _⟩) (v := ?_) rfl (by rfl) ?_ ?_; rotate_left; (intro w' hw'; go_simp; with_reducible rfl); simp only [Act.put, List.setIfInBounds_toArray, List.set_cons_zero, List.set_cons_succ])
        refine wpGr_call (o := ⟨_, _, _, _, _, _⟩) rfl (by rfl) (fun K hK => ?_)
        go_simp
        refine (of_at _ ⟨ol, oh, oo⟩ _ (by omega) HC.out.2.2.1).mono ?_
        rintro e g5 ⟨rfl, hb⟩
        refine hK _ _ hb ?_
        clear hK K
        clear x0 x1 x2 y0 y1 y2 a0 a1 a2 b0 b1 b2
        replace Hbel := Lib.hid (Hbel.out.trans (hb.mono Hbel.out.size))
        replace Na := Lib.hid (Na.out.ext hb)
        replace Nb := Lib.hid (Nb.out.ext hb)
        replace Ba := Lib.hid (Ba.out.ext hb)
        replace Bb := Lib.hid (Bb.out.ext hb)
        clear hb
        have x0 : ∀ w', Ext g5 w' → w'.cell? ⟨px, 0, none⟩ = some (.string lo) := fun w' h => (Na.out.ext h).c0
        have x1 : ∀ w', Ext g5 w' → w'.cell? ⟨px, 1, none⟩ = some (.string hi) := fun w' h => (Na.out.ext h).c1
        have x2 : ∀ w', Ext g5 w' → w'.cell? ⟨px, 2, none⟩ = some (.bool op) := fun w' h => (Na.out.ext h).c2
        have y0 : ∀ w', Ext g5 w' → w'.cell? ⟨py, 0, none⟩ = some (.string lo2) := fun w' h => (Nb.out.ext h).c0
        have y1 : ∀ w', Ext g5 w' → w'.cell? ⟨py, 1, none⟩ = some (.string hi2) := fun w' h => (Nb.out.ext h).c1
        have y2 : ∀ w', Ext g5 w' → w'.cell? ⟨py, 2, none⟩ = some (.bool op2) := fun w' h => (Nb.out.ext h).c2
        have a0 : ∀ w', Ext g5 w' → w'.cell? ⟨w.heap.size, 0, none⟩ = some (.string lo) := fun w' h => (Ba.out.ext h).c0
        have a1 : ∀ w', Ext g5 w' → w'.cell? ⟨w.heap.size, 1, none⟩ = some (.string hi) := fun w' h => (Ba.out.ext h).c1
        have a2 : ∀ w', Ext g5 w' → w'.cell? ⟨w.heap.size, 2, none⟩ = some (.bool op) := fun w' h => (Ba.out.ext h).c2
        have b0 : ∀ w', Ext g5 w' → w'.cell? ⟨(w.heap.size + 1), 0, none⟩ = some (.string lo2) := fun w' h => (Bb.out.ext h).c0
        have b1 : ∀ w', Ext g5 w' → w'.cell? ⟨(w.heap.size + 1), 1, none⟩ = some (.string hi2) := fun w' h => (Bb.out.ext h).c1
        have b2 : ∀ w', Ext g5 w' → w'.cell? ⟨(w.heap.size + 1), 2, none⟩ = some (.bool op2) := fun w' h => (Bb.out.ext h).c2
        dsimp only
        refine wpGr_call (o := ⟨_, _, _, _, _, _⟩) rfl (by rfl) (fun K hK => ?_)
        go_simp
        refine (refOf_at _ ⟨ol, oh, oo⟩ _ (by omega) HC.out.2.2.1).mono ?_
        rintro e g6 ⟨rfl, hb⟩
        refine hK _ _ hb ?_
        clear hK K
        clear x0 x1 x2 y0 y1 y2 a0 a1 a2 b0 b1 b2
        replace Hbel := Lib.hid (Hbel.out.trans (hb.mono Hbel.out.size))
        replace Na := Lib.hid (Na.out.ext hb)
        replace Nb := Lib.hid (Nb.out.ext hb)
        replace Ba := Lib.hid (Ba.out.ext hb)
        replace Bb := Lib.hid (Bb.out.ext hb)
        clear hb
        have x0 : ∀ w', Ext g6 w' → w'.cell? ⟨px, 0, none⟩ = some (.string lo) := fun w' h => (Na.out.ext h).c0
        have x1 : ∀ w', Ext g6 w' → w'.cell? ⟨px, 1, none⟩ = some (.string hi) := fun w' h => (Na.out.ext h).c1
        have x2 : ∀ w', Ext g6 w' → w'.cell? ⟨px, 2, none⟩ = some (.bool op) := fun w' h => (Na.out.ext h).c2
        have y0 : ∀ w', Ext g6 w' → w'.cell? ⟨py, 0, none⟩ = some (.string lo2) := fun w' h => (Nb.out.ext h).c0
        have y1 : ∀ w', Ext g6 w' → w'.cell? ⟨py, 1, none⟩ = some (.string hi2) := fun w' h => (Nb.out.ext h).c1
        have y2 : ∀ w', Ext g6 w' → w'.cell? ⟨py, 2, none⟩ = some (.bool op2) := fun w' h => (Nb.out.ext h).c2
        have a0 : ∀ w', Ext g6 w' → w'.cell? ⟨w.heap.size, 0, none⟩ = some (.string lo) := fun w' h => (Ba.out.ext h).c0
        have a1 : ∀ w', Ext g6 w' → w'.cell? ⟨w.heap.size, 1, none⟩ = some (.string hi) := fun w' h => (Ba.out.ext h).c1
        have a2 : ∀ w', Ext g6 w' → w'.cell? ⟨w.heap.size, 2, none⟩ = some (.bool op) := fun w' h => (Ba.out.ext h).c2
        have b0 : ∀ w', Ext g6 w' → w'.cell? ⟨(w.heap.size + 1), 0, none⟩ = some (.string lo2) := fun w' h => (Bb.out.ext h).c0
        have b1 : ∀ w', Ext g6 w' → w'.cell? ⟨(w.heap.size + 1), 1, none⟩ = some (.string hi2) := fun w' h => (Bb.out.ext h).c1
        have b2 : ∀ w', Ext g6 w' → w'.cell? ⟨(w.heap.size + 1), 2, none⟩ = some (.bool op2) := fun w' h => (Bb.out.ext h).c2
        dsimp only
        iterate 7 (refine wpGr_read (o := ⟨_, _, _, _, _, _⟩) (v := ?_) rfl (by rfl) ?_ ?_; rotate_left; (intro w' hw'; go_simp; with_reducible rfl); simp only [Act.put, List.setIfInBounds_toArray, List.set_cons_zero, List.set_cons_succ])
        refine wpGr_call (o := ⟨_, _, _, _, _, _⟩) rfl (by rfl) (fun K hK => ?_)
        go_simp
        refine (meet_at ⟨lo, hi, op⟩ ⟨lo2, hi2, op2⟩ ⟨ml, mh, mo⟩ _ HC.out.2.2.2.1).mono ?_
        rintro e g7 ⟨rfl, hb⟩
        refine hK _ _ hb ?_
        clear hK K
        clear x0 x1 x2 y0 y1 y2 a0 a1 a2 b0 b1 b2
        replace Hbel := Lib.hid (Hbel.out.trans (hb.mono Hbel.out.size))
        replace Na := Lib.hid (Na.out.ext hb)
        replace Nb := Lib.hid (Nb.out.ext hb)
        replace Ba := Lib.hid (Ba.out.ext hb)
        replace Bb := Lib.hid (Bb.out.ext hb)
        clear hb
        have x0 : ∀ w', Ext g7 w' → w'.cell? ⟨px, 0, none⟩ = some (.string lo) := fun w' h => (Na.out.ext h).c0
        have x1 : ∀ w', Ext g7 w' → w'.cell? ⟨px, 1, none⟩ = some (.string hi) := fun w' h => (Na.out.ext h).c1
        have x2 : ∀ w', Ext g7 w' → w'.cell? ⟨px, 2, none⟩ = some (.bool op) := fun w' h => (Na.out.ext h).c2
        have y0 : ∀ w', Ext g7 w' → w'.cell? ⟨py, 0, none⟩ = some (.string lo2) := fun w' h => (Nb.out.ext h).c0
        have y1 : ∀ w', Ext g7 w' → w'.cell? ⟨py, 1, none⟩ = some (.string hi2) := fun w' h => (Nb.out.ext h).c1
        have y2 : ∀ w', Ext g7 w' → w'.cell? ⟨py, 2, none⟩ = some (.bool op2) := fun w' h => (Nb.out.ext h).c2
        have a0 : ∀ w', Ext g7 w' → w'.cell? ⟨w.heap.size, 0, none⟩ = some (.string lo) := fun w' h => (Ba.out.ext h).c0
        have a1 : ∀ w', Ext g7 w' → w'.cell? ⟨w.heap.size, 1, none⟩ = some (.string hi) := fun w' h => (Ba.out.ext h).c1
        have a2 : ∀ w', Ext g7 w' → w'.cell? ⟨w.heap.size, 2, none⟩ = some (.bool op) := fun w' h => (Ba.out.ext h).c2
        have b0 : ∀ w', Ext g7 w' → w'.cell? ⟨(w.heap.size + 1), 0, none⟩ = some (.string lo2) := fun w' h => (Bb.out.ext h).c0
        have b1 : ∀ w', Ext g7 w' → w'.cell? ⟨(w.heap.size + 1), 1, none⟩ = some (.string hi2) := fun w' h => (Bb.out.ext h).c1
        have b2 : ∀ w', Ext g7 w' → w'.cell? ⟨(w.heap.size + 1), 2, none⟩ = some (.bool op2) := fun w' h => (Bb.out.ext h).c2
        dsimp only
        refine wpGr_call (o := ⟨_, _, _, _, _, _⟩) rfl (by rfl) (fun K hK => ?_)
        go_simp
        refine (refMeet_at ⟨lo, hi, op⟩ ⟨lo2, hi2, op2⟩ ⟨ml, mh, mo⟩ _ (by dsimp only; omega) (by dsimp only; omega) HC.out.2.2.2.1).mono ?_
        rintro e g8 ⟨rfl, hb⟩
        refine hK _ _ hb ?_
        clear hK K
        clear x0 x1 x2 y0 y1 y2 a0 a1 a2 b0 b1 b2
        replace Hbel := Lib.hid (Hbel.out.trans (hb.mono Hbel.out.size))
        replace Na := Lib.hid (Na.out.ext hb)
        replace Nb := Lib.hid (Nb.out.ext hb)
        replace Ba := Lib.hid (Ba.out.ext hb)
        replace Bb := Lib.hid (Bb.out.ext hb)
        clear hb
        have x0 : ∀ w', Ext g8 w' → w'.cell? ⟨px, 0, none⟩ = some (.string lo) := fun w' h => (Na.out.ext h).c0
        have x1 : ∀ w', Ext g8 w' → w'.cell? ⟨px, 1, none⟩ = some (.string hi) := fun w' h => (Na.out.ext h).c1
        have x2 : ∀ w', Ext g8 w' → w'.cell? ⟨px, 2, none⟩ = some (.bool op) := fun w' h => (Na.out.ext h).c2
        have y0 : ∀ w', Ext g8 w' → w'.cell? ⟨py, 0, none⟩ = some (.string lo2) := fun w' h => (Nb.out.ext h).c0
        have y1 : ∀ w', Ext g8 w' → w'.cell? ⟨py, 1, none⟩ = some (.string hi2) := fun w' h => (Nb.out.ext h).c1
        have y2 : ∀ w', Ext g8 w' → w'.cell? ⟨py, 2, none⟩ = some (.bool op2) := fun w' h => (Nb.out.ext h).c2
        have a0 : ∀ w', Ext g8 w' → w'.cell? ⟨w.heap.size, 0, none⟩ = some (.string lo) := fun w' h => (Ba.out.ext h).c0
        have a1 : ∀ w', Ext g8 w' → w'.cell? ⟨w.heap.size, 1, none⟩ = some (.string hi) := fun w' h => (Ba.out.ext h).c1
        have a2 : ∀ w', Ext g8 w' → w'.cell? ⟨w.heap.size, 2, none⟩ = some (.bool op) := fun w' h => (Ba.out.ext h).c2
        have b0 : ∀ w', Ext g8 w' → w'.cell? ⟨(w.heap.size + 1), 0, none⟩ = some (.string lo2) := fun w' h => (Bb.out.ext h).c0
        have b1 : ∀ w', Ext g8 w' → w'.cell? ⟨(w.heap.size + 1), 1, none⟩ = some (.string hi2) := fun w' h => (Bb.out.ext h).c1
        have b2 : ∀ w', Ext g8 w' → w'.cell? ⟨(w.heap.size + 1), 2, none⟩ = some (.bool op2) := fun w' h => (Bb.out.ext h).c2
        dsimp only
        iterate 7 (refine wpGr_read (o := ⟨_, _, _, _, _, _⟩) (v := ?_) rfl (by rfl) ?_ ?_; rotate_left; (intro w' hw'; go_simp; with_reducible rfl); simp only [Act.put, List.setIfInBounds_toArray, List.set_cons_zero, List.set_cons_succ])
        refine wpGr_call (o := ⟨_, _, _, _, _, _⟩) rfl (by rfl) (fun K hK => ?_)
        go_simp
        refine (with_at ⟨lo, hi, op⟩ ⟨lo2, hi2, op2⟩ WV _ HC.out.2.2.2.2.1).mono ?_
        rintro e g9 ⟨rfl, hb⟩
        refine hK _ _ hb ?_
        clear hK K
        clear x0 x1 x2 y0 y1 y2 a0 a1 a2 b0 b1 b2
        replace Hbel := Lib.hid (Hbel.out.trans (hb.mono Hbel.out.size))
        replace Na := Lib.hid (Na.out.ext hb)
        replace Nb := Lib.hid (Nb.out.ext hb)
        replace Ba := Lib.hid (Ba.out.ext hb)
        replace Bb := Lib.hid (Bb.out.ext hb)
        clear hb
        have x0 : ∀ w', Ext g9 w' → w'.cell? ⟨px, 0, none⟩ = some (.string lo) := fun w' h => (Na.out.ext h).c0
        have x1 : ∀ w', Ext g9 w' → w'.cell? ⟨px, 1, none⟩ = some (.string hi) := fun w' h => (Na.out.ext h).c1
        have x2 : ∀ w', Ext g9 w' → w'.cell? ⟨px, 2, none⟩ = some (.bool op) := fun w' h => (Na.out.ext h).c2
        have y0 : ∀ w', Ext g9 w' → w'.cell? ⟨py, 0, none⟩ = some (.string lo2) := fun w' h => (Nb.out.ext h).c0
        have y1 : ∀ w', Ext g9 w' → w'.cell? ⟨py, 1, none⟩ = some (.string hi2) := fun w' h => (Nb.out.ext h).c1
        have y2 : ∀ w', Ext g9 w' → w'.cell? ⟨py, 2, none⟩ = some (.bool op2) := fun w' h => (Nb.out.ext h).c2
        have a0 : ∀ w', Ext g9 w' → w'.cell? ⟨w.heap.size, 0, none⟩ = some (.string lo) := fun w' h => (Ba.out.ext h).c0
        have a1 : ∀ w', Ext g9 w' → w'.cell? ⟨w.heap.size, 1, none⟩ = some (.string hi) := fun w' h => (Ba.out.ext h).c1
        have a2 : ∀ w', Ext g9 w' → w'.cell? ⟨w.heap.size, 2, none⟩ = some (.bool op) := fun w' h => (Ba.out.ext h).c2
        have b0 : ∀ w', Ext g9 w' → w'.cell? ⟨(w.heap.size + 1), 0, none⟩ = some (.string lo2) := fun w' h => (Bb.out.ext h).c0
        have b1 : ∀ w', Ext g9 w' → w'.cell? ⟨(w.heap.size + 1), 1, none⟩ = some (.string hi2) := fun w' h => (Bb.out.ext h).c1
        have b2 : ∀ w', Ext g9 w' → w'.cell? ⟨(w.heap.size + 1), 2, none⟩ = some (.bool op2) := fun w' h => (Bb.out.ext h).c2
        refine wpGr_call (o := ⟨_, _, _, _, _, _⟩) rfl (by rfl) (fun K hK => ?_)
        go_simp
        refine (refWith_at ⟨lo, hi, op⟩ ⟨lo2, hi2, op2⟩ WV _ (by dsimp only; omega) (by dsimp only; omega) (by dsimp only; omega) HC.out.2.2.2.2.1).mono ?_
        rintro e g10 ⟨rfl, hb⟩
        refine hK _ _ hb ?_
        clear hK K
        clear x0 x1 x2 y0 y1 y2 a0 a1 a2 b0 b1 b2
        replace Hbel := Lib.hid (Hbel.out.trans (hb.mono Hbel.out.size))
        replace Na := Lib.hid (Na.out.ext hb)
        replace Nb := Lib.hid (Nb.out.ext hb)
        replace Ba := Lib.hid (Ba.out.ext hb)
        replace Bb := Lib.hid (Bb.out.ext hb)
        clear hb
        have x0 : ∀ w', Ext g10 w' → w'.cell? ⟨px, 0, none⟩ = some (.string lo) := fun w' h => (Na.out.ext h).c0
        have x1 : ∀ w', Ext g10 w' → w'.cell? ⟨px, 1, none⟩ = some (.string hi) := fun w' h => (Na.out.ext h).c1
        have x2 : ∀ w', Ext g10 w' → w'.cell? ⟨px, 2, none⟩ = some (.bool op) := fun w' h => (Na.out.ext h).c2
        have y0 : ∀ w', Ext g10 w' → w'.cell? ⟨py, 0, none⟩ = some (.string lo2) := fun w' h => (Nb.out.ext h).c0
        have y1 : ∀ w', Ext g10 w' → w'.cell? ⟨py, 1, none⟩ = some (.string hi2) := fun w' h => (Nb.out.ext h).c1
        have y2 : ∀ w', Ext g10 w' → w'.cell? ⟨py, 2, none⟩ = some (.bool op2) := fun w' h => (Nb.out.ext h).c2
        have a0 : ∀ w', Ext g10 w' → w'.cell? ⟨w.heap.size, 0, none⟩ = some (.string lo) := fun w' h => (Ba.out.ext h).c0
        have a1 : ∀ w', Ext g10 w' → w'.cell? ⟨w.heap.size, 1, none⟩ = some (.string hi) := fun w' h => (Ba.out.ext h).c1
        have a2 : ∀ w', Ext g10 w' → w'.cell? ⟨w.heap.size, 2, none⟩ = some (.bool op) := fun w' h => (Ba.out.ext h).c2
        have b0 : ∀ w', Ext g10 w' → w'.cell? ⟨(w.heap.size + 1), 0, none⟩ = some (.string lo2) := fun w' h => (Bb.out.ext h).c0
        have b1 : ∀ w', Ext g10 w' → w'.cell? ⟨(w.heap.size + 1), 1, none⟩ = some (.string hi2) := fun w' h => (Bb.out.ext h).c1
        have b2 : ∀ w', Ext g10 w' → w'.cell? ⟨(w.heap.size + 1), 2, none⟩ = some (.bool op2) := fun w' h => (Bb.out.ext h).c2
        have n1 : ¬ (9223372036854775807 < key.size + 1) := by omega
        have n2 : key ++ ⟨#[0]⟩ = NV := HC.out.2.2.2.2.2
        iterate 6 (refine wpGr_read (o := ⟨_, _, _, _, _, _⟩) (v := ?_) rfl (by rfl) ?_ ?_; rotate_left; (intro w' hw'; go_simp; with_reducible rfl); simp only [Act.put, List.setIfInBounds_toArray, List.set_cons_zero, List.set_cons_succ])
        refine wpGr_call (o := ⟨_, _, _, _, _, _⟩) rfl (by rfl) (fun K hK => ?_)
        go_simp
        refine (next_at _ NV _ (by omega) HC.out.2.2.2.2.2).mono ?_
        rintro e w' ⟨rfl, rfl⟩
        refine hK _ _ (Ext.refl _) ?_
        clear hK K
        iterate 3 (refine wpGr_read (o := ⟨_, _, _, _, _, _⟩) (v := ?_) rfl (by rfl) ?_ ?_; rotate_left; (intro w' hw'; go_simp; with_reducible rfl); simp only [Act.put, List.setIfInBounds_toArray, List.set_cons_zero, List.set_cons_succ])
        refine wpGr_call (o := ⟨_, _, _, _, _, _⟩) rfl (by rfl) (fun K hK => ?_)
        go_simp
        refine (sure_any _ (HG.out.below Hbel.out)).mono ?_
        rintro e g11 ⟨rfl, hb⟩
        refine hK _ _ hb ?_
        clear hK K
        clear x0 x1 x2 y0 y1 y2 a0 a1 a2 b0 b1 b2
        replace Hbel := Lib.hid (Hbel.out.trans (hb.mono Hbel.out.size))
        replace Na := Lib.hid (Na.out.ext hb)
        replace Nb := Lib.hid (Nb.out.ext hb)
        replace Ba := Lib.hid (Ba.out.ext hb)
        replace Bb := Lib.hid (Bb.out.ext hb)
        clear hb
        have x0 : ∀ w', Ext g11 w' → w'.cell? ⟨px, 0, none⟩ = some (.string lo) := fun w' h => (Na.out.ext h).c0
        have x1 : ∀ w', Ext g11 w' → w'.cell? ⟨px, 1, none⟩ = some (.string hi) := fun w' h => (Na.out.ext h).c1
        have x2 : ∀ w', Ext g11 w' → w'.cell? ⟨px, 2, none⟩ = some (.bool op) := fun w' h => (Na.out.ext h).c2
        have y0 : ∀ w', Ext g11 w' → w'.cell? ⟨py, 0, none⟩ = some (.string lo2) := fun w' h => (Nb.out.ext h).c0
        have y1 : ∀ w', Ext g11 w' → w'.cell? ⟨py, 1, none⟩ = some (.string hi2) := fun w' h => (Nb.out.ext h).c1
        have y2 : ∀ w', Ext g11 w' → w'.cell? ⟨py, 2, none⟩ = some (.bool op2) := fun w' h => (Nb.out.ext h).c2
        have a0 : ∀ w', Ext g11 w' → w'.cell? ⟨w.heap.size, 0, none⟩ = some (.string lo) := fun w' h => (Ba.out.ext h).c0
        have a1 : ∀ w', Ext g11 w' → w'.cell? ⟨w.heap.size, 1, none⟩ = some (.string hi) := fun w' h => (Ba.out.ext h).c1
        have a2 : ∀ w', Ext g11 w' → w'.cell? ⟨w.heap.size, 2, none⟩ = some (.bool op) := fun w' h => (Ba.out.ext h).c2
        have b0 : ∀ w', Ext g11 w' → w'.cell? ⟨(w.heap.size + 1), 0, none⟩ = some (.string lo2) := fun w' h => (Bb.out.ext h).c0
        have b1 : ∀ w', Ext g11 w' → w'.cell? ⟨(w.heap.size + 1), 1, none⟩ = some (.string hi2) := fun w' h => (Bb.out.ext h).c1
        have b2 : ∀ w', Ext g11 w' → w'.cell? ⟨(w.heap.size + 1), 2, none⟩ = some (.bool op2) := fun w' h => (Bb.out.ext h).c2
        iterate 2 (refine wpGr_read (o := ⟨_, _, _, _, _, _⟩) (v := ?_) rfl (by rfl) ?_ ?_; rotate_left; (intro w' hw'; go_simp; with_reducible rfl); simp only [Act.put, List.setIfInBounds_toArray, List.set_cons_zero, List.set_cons_succ])
        clear x0 x1 x2 y0 y1 y2 a0 a1 a2 b0 b1 b2
        refine wpGr_done ?_
        go_wp2_with fail
        go_ret
        exact ⟨rfl, Hbel.out⟩
      · rcases Nat.lt_or_ge 40 key.size with h4 | h4
        · as_aux_lemma =>
          have d2 : decide ((1 : Int) ≤ key.size) = true := by simp; omega
          have d3 : decide ((key.size : Int) ≤ 40) = false := by simp; omega
          have hck : chkV key = .iface 48 (.int .i64 1) := by unfold chkV okK; rw [if_neg (by simp; omega)]
          have Hck := Lib.hid hck
          clear hck
          go_wp2_with fail
          refine (chk_at _ _ _ Hck.out).mono ?_
          rintro e w' ⟨rfl, rfl⟩
          go_wp2_with fail
          refine (num_err 1 _ (HG.out.below Hbel.out)).mono ?_
          rintro e v ⟨rfl, hb⟩
          replace Hbel := Lib.hid (Hbel.out.trans (hb.mono Hbel.out.size))
          replace Na := Lib.hid (Na.out.ext hb)
          replace Nb := Lib.hid (Nb.out.ext hb)
          replace Ba := Lib.hid (Ba.out.ext hb)
          replace Bb := Lib.hid (Bb.out.ext hb)
          clear hb
          go_wp2_with fail
          obtain ⟨HV, hHV⟩ : ∃ V, hasS ⟨lo, hi, op⟩ key = V := ⟨_, rfl⟩
          obtain ⟨EV, hEV⟩ : ∃ V, empS ⟨lo, hi, op⟩ = V := ⟨_, rfl⟩
          obtain ⟨⟨ol, oh, oo⟩, hof⟩ : ∃ s, ofS key = s := ⟨_, rfl⟩
          obtain ⟨⟨ml, mh, mo⟩, hme⟩ : ∃ s, meetS ⟨lo, hi, op⟩ ⟨lo2, hi2, op2⟩ = s := ⟨_, rfl⟩
          obtain ⟨WV, hWV⟩ : ∃ V, withS ⟨lo, hi, op⟩ ⟨lo2, hi2, op2⟩ = V := ⟨_, rfl⟩
          obtain ⟨NV, hNV⟩ : ∃ N, nextS key = N := ⟨_, rfl⟩
          have HC := Lib.hid (And.intro hHV (And.intro hEV (And.intro hof (And.intro hme (And.intro hWV hNV)))))
          clear hHV hEV hof hme hWV hNV
          refine wp_region_gr [(0, true), (1, true), (3, true), (4, true), (2, false), (5, false), (6, true), (7, true), (8, true), (10, true), (9, false), (11, false), (12, true), (13, true), (14, true), (15, true), (17, true), (16, false), (18, false), (19, true), (20, true), (21, true), (22, true), (23, true), (25, true), (26, true), (24, false), (27, false), (28, true), (29, true), (30, true), (31, true), (32, true), (34, true), (35, true), (33, false), (36, false), (37, true), (38, true), (39, true), (40, true), (42, true), (43, true), (41, false), (44, true), (45, true), (46, true), (47, false), (48, true), (49, true)] (by kernel_rfl) (by kernel_rfl) (by kernel_rfl) (by kernel_rfl) (fun _ _ _ _ _ h => h) ?_
          replace Hbel := Lib.hid Hbel.out.drew
          replace Na : Hid (SpIn v.drew px SPT ⟨lo, hi, op⟩) := Na.out
          replace Nb : Hid (SpIn v.drew py SPT ⟨lo2, hi2, op2⟩) := Nb.out
          replace Ba : Hid (SpIn v.drew w.heap.size RSP ⟨lo, hi, op⟩) := Ba.out
          replace Bb : Hid (SpIn v.drew (w.heap.size + 1) RSP ⟨lo2, hi2, op2⟩) := Bb.out
          generalize v.drew = g0 at *
          have x0 : ∀ w', Ext g0 w' → w'.cell? ⟨px, 0, none⟩ = some (.string lo) := fun w' h => (Na.out.ext h).c0
          have x1 : ∀ w', Ext g0 w' → w'.cell? ⟨px, 1, none⟩ = some (.string hi) := fun w' h => (Na.out.ext h).c1
          have x2 : ∀ w', Ext g0 w' → w'.cell? ⟨px, 2, none⟩ = some (.bool op) := fun w' h => (Na.out.ext h).c2
          have y0 : ∀ w', Ext g0 w' → w'.cell? ⟨py, 0, none⟩ = some (.string lo2) := fun w' h => (Nb.out.ext h).c0
          have y1 : ∀ w', Ext g0 w' → w'.cell? ⟨py, 1, none⟩ = some (.string hi2) := fun w' h => (Nb.out.ext h).c1
          have y2 : ∀ w', Ext g0 w' → w'.cell? ⟨py, 2, none⟩ = some (.bool op2) := fun w' h => (Nb.out.ext h).c2
          have a0 : ∀ w', Ext g0 w' → w'.cell? ⟨w.heap.size, 0, none⟩ = some (.string lo) := fun w' h => (Ba.out.ext h).c0
          have a1 : ∀ w', Ext g0 w' → w'.cell? ⟨w.heap.size, 1, none⟩ = some (.string hi) := fun w' h => (Ba.out.ext h).c1
          have a2 : ∀ w', Ext g0 w' → w'.cell? ⟨w.heap.size, 2, none⟩ = some (.bool op) := fun w' h => (Ba.out.ext h).c2
          have b0 : ∀ w', Ext g0 w' → w'.cell? ⟨(w.heap.size + 1), 0, none⟩ = some (.string lo2) := fun w' h => (Bb.out.ext h).c0
          have b1 : ∀ w', Ext g0 w' → w'.cell? ⟨(w.heap.size + 1), 1, none⟩ = some (.string hi2) := fun w' h => (Bb.out.ext h).c1
          have b2 : ∀ w', Ext g0 w' → w'.cell? ⟨(w.heap.size + 1), 2, none⟩ = some (.bool op2) := fun w' h => (Bb.out.ext h).c2
          iterate 4 (refine wpGr_read (o := ⟨_, _, _, _, _, _⟩) (v := ?_) rfl (by rfl) ?_ ?_; rotate_left; (intro w' hw'; go_simp; with_reducible rfl); simp only [Act.put, List.setIfInBounds_toArray, List.set_cons_zero, List.set_cons_succ])
          refine wpGr_call (o := ⟨_, _, _, _, _, _⟩) rfl (by rfl) (fun K hK => ?_)
          go_simp
          refine (has_at _ _ _ _ HV _ HC.out.1).mono ?_
          rintro e g1 ⟨rfl, hb⟩
          refine hK _ _ hb ?_
          clear hK K
          clear x0 x1 x2 y0 y1 y2 a0 a1 a2 b0 b1 b2
          replace Hbel := Lib.hid (Hbel.out.trans (hb.mono Hbel.out.size))
          replace Na := Lib.hid (Na.out.ext hb)
          replace Nb := Lib.hid (Nb.out.ext hb)
          replace Ba := Lib.hid (Ba.out.ext hb)
          replace Bb := Lib.hid (Bb.out.ext hb)
          clear hb
          have x0 : ∀ w', Ext g1 w' → w'.cell? ⟨px, 0, none⟩ = some (.string lo) := fun w' h => (Na.out.ext h).c0
          have x1 : ∀ w', Ext g1 w' → w'.cell? ⟨px, 1, none⟩ = some (.string hi) := fun w' h => (Na.out.ext h).c1
          have x2 : ∀ w', Ext g1 w' → w'.cell? ⟨px, 2, none⟩ = some (.bool op) := fun w' h => (Na.out.ext h).c2
          have y0 : ∀ w', Ext g1 w' → w'.cell? ⟨py, 0, none⟩ = some (.string lo2) := fun w' h => (Nb.out.ext h).c0
          have y1 : ∀ w', Ext g1 w' → w'.cell? ⟨py, 1, none⟩ = some (.string hi2) := fun w' h => (Nb.out.ext h).c1
          have y2 : ∀ w', Ext g1 w' → w'.cell? ⟨py, 2, none⟩ = some (.bool op2) := fun w' h => (Nb.out.ext h).c2
          have a0 : ∀ w', Ext g1 w' → w'.cell? ⟨w.heap.size, 0, none⟩ = some (.string lo) := fun w' h => (Ba.out.ext h).c0
          have a1 : ∀ w', Ext g1 w' → w'.cell? ⟨w.heap.size, 1, none⟩ = some (.string hi) := fun w' h => (Ba.out.ext h).c1
          have a2 : ∀ w', Ext g1 w' → w'.cell? ⟨w.heap.size, 2, none⟩ = some (.bool op) := fun w' h => (Ba.out.ext h).c2
          have b0 : ∀ w', Ext g1 w' → w'.cell? ⟨(w.heap.size + 1), 0, none⟩ = some (.string lo2) := fun w' h => (Bb.out.ext h).c0
          have b1 : ∀ w', Ext g1 w' → w'.cell? ⟨(w.heap.size + 1), 1, none⟩ = some (.string hi2) := fun w' h => (Bb.out.ext h).c1
          have b2 : ∀ w', Ext g1 w' → w'.cell? ⟨(w.heap.size + 1), 2, none⟩ = some (.bool op2) := fun w' h => (Bb.out.ext h).c2
          refine wpGr_call (o := ⟨_, _, _, _, _, _⟩) rfl (by rfl) (fun K hK => ?_)
          go_simp
          refine (refHas_at _ _ _ _ HV _ (by omega) HC.out.1).mono ?_
          rintro e g2 ⟨rfl, hb⟩
          refine hK _ _ hb ?_
          clear hK K
          clear x0 x1 x2 y0 y1 y2 a0 a1 a2 b0 b1 b2
          replace Hbel := Lib.hid (Hbel.out.trans (hb.mono Hbel.out.size))
          replace Na := Lib.hid (Na.out.ext hb)
          replace Nb := Lib.hid (Nb.out.ext hb)
          replace Ba := Lib.hid (Ba.out.ext hb)
          replace Bb := Lib.hid (Bb.out.ext hb)
          clear hb
          have x0 : ∀ w', Ext g2 w' → w'.cell? ⟨px, 0, none⟩ = some (.string lo) := fun w' h => (Na.out.ext h).c0
          have x1 : ∀ w', Ext g2 w' → w'.cell? ⟨px, 1, none⟩ = some (.string hi) := fun w' h => (Na.out.ext h).c1
          have x2 : ∀ w', Ext g2 w' → w'.cell? ⟨px, 2, none⟩ = some (.bool op) := fun w' h => (Na.out.ext h).c2
          have y0 : ∀ w', Ext g2 w' → w'.cell? ⟨py, 0, none⟩ = some (.string lo2) := fun w' h => (Nb.out.ext h).c0
          have y1 : ∀ w', Ext g2 w' → w'.cell? ⟨py, 1, none⟩ = some (.string hi2) := fun w' h => (Nb.out.ext h).c1
          have y2 : ∀ w', Ext g2 w' → w'.cell? ⟨py, 2, none⟩ = some (.bool op2) := fun w' h => (Nb.out.ext h).c2
          have a0 : ∀ w', Ext g2 w' → w'.cell? ⟨w.heap.size, 0, none⟩ = some (.string lo) := fun w' h => (Ba.out.ext h).c0
          have a1 : ∀ w', Ext g2 w' → w'.cell? ⟨w.heap.size, 1, none⟩ = some (.string hi) := fun w' h => (Ba.out.ext h).c1
          have a2 : ∀ w', Ext g2 w' → w'.cell? ⟨w.heap.size, 2, none⟩ = some (.bool op) := fun w' h => (Ba.out.ext h).c2
          have b0 : ∀ w', Ext g2 w' → w'.cell? ⟨(w.heap.size + 1), 0, none⟩ = some (.string lo2) := fun w' h => (Bb.out.ext h).c0
          have b1 : ∀ w', Ext g2 w' → w'.cell? ⟨(w.heap.size + 1), 1, none⟩ = some (.string hi2) := fun w' h => (Bb.out.ext h).c1
          have b2 : ∀ w', Ext g2 w' → w'.cell? ⟨(w.heap.size + 1), 2, none⟩ = some (.bool op2) := fun w' h => (Bb.out.ext h).c2
          iterate 4 (refine wpGr_read (o := ⟨_, _, _, _, _, _⟩) (v := ?_) rfl (by rfl) ?_ ?_; rotate_left; (intro w' hw'; go_simp; with_reducible rfl); simp only [Act.put, List.setIfInBounds_toArray, List.set_cons_zero, List.set_cons_succ])
          refine wpGr_call (o := ⟨_, _, _, _, _, _⟩) rfl (by rfl) (fun K hK => ?_)
          go_simp
          refine (emp_at _ _ _ EV _ HC.out.2.1).mono ?_
          rintro e g3 ⟨rfl, hb⟩
          refine hK _ _ hb ?_
          clear hK K
          clear x0 x1 x2 y0 y1 y2 a0 a1 a2 b0 b1 b2
          replace Hbel := Lib.hid (Hbel.out.trans (hb.mono Hbel.out.size))
          replace Na := Lib.hid (Na.out.ext hb)
          replace Nb := Lib.hid (Nb.out.ext hb)
          replace Ba := Lib.hid (Ba.out.ext hb)
          replace Bb := Lib.hid (Bb.out.ext hb)
          clear hb
          have x0 : ∀ w', Ext g3 w' → w'.cell? ⟨px, 0, none⟩ = some (.string lo) := fun w' h => (Na.out.ext h).c0
          have x1 : ∀ w', Ext g3 w' → w'.cell? ⟨px, 1, none⟩ = some (.string hi) := fun w' h => (Na.out.ext h).c1
          have x2 : ∀ w', Ext g3 w' → w'.cell? ⟨px, 2, none⟩ = some (.bool op) := fun w' h => (Na.out.ext h).c2
          have y0 : ∀ w', Ext g3 w' → w'.cell? ⟨py, 0, none⟩ = some (.string lo2) := fun w' h => (Nb.out.ext h).c0
          have y1 : ∀ w', Ext g3 w' → w'.cell? ⟨py, 1, none⟩ = some (.string hi2) := fun w' h => (Nb.out.ext h).c1
          have y2 : ∀ w', Ext g3 w' → w'.cell? ⟨py, 2, none⟩ = some (.bool op2) := fun w' h => (Nb.out.ext h).c2
          have a0 : ∀ w', Ext g3 w' → w'.cell? ⟨w.heap.size, 0, none⟩ = some (.string lo) := fun w' h => (Ba.out.ext h).c0
          have a1 : ∀ w', Ext g3 w' → w'.cell? ⟨w.heap.size, 1, none⟩ = some (.string hi) := fun w' h => (Ba.out.ext h).c1
          have a2 : ∀ w', Ext g3 w' → w'.cell? ⟨w.heap.size, 2, none⟩ = some (.bool op) := fun w' h => (Ba.out.ext h).c2
          have b0 : ∀ w', Ext g3 w' → w'.cell? ⟨(w.heap.size + 1), 0, none⟩ = some (.string lo2) := fun w' h => (Bb.out.ext h).c0
          have b1 : ∀ w', Ext g3 w' → w'.cell? ⟨(w.heap.size + 1), 1, none⟩ = some (.string hi2) := fun w' h => (Bb.out.ext h).c1
          have b2 : ∀ w', Ext g3 w' → w'.cell? ⟨(w.heap.size + 1), 2, none⟩ = some (.bool op2) := fun w' h => (Bb.out.ext h).c2
          refine wpGr_call (o := ⟨_, _, _, _, _, _⟩) rfl (by rfl) (fun K hK => ?_)
          go_simp
          refine (refEmp_at _ _ _ EV _ (by omega) HC.out.2.1).mono ?_
          rintro e g4 ⟨rfl, hb⟩
          refine hK _ _ hb ?_
          clear hK K
          clear x0 x1 x2 y0 y1 y2 a0 a1 a2 b0 b1 b2
          replace Hbel := Lib.hid (Hbel.out.trans (hb.mono Hbel.out.size))
          replace Na := Lib.hid (Na.out.ext hb)
          replace Nb := Lib.hid (Nb.out.ext hb)
          replace Ba := Lib.hid (Ba.out.ext hb)
          replace Bb := Lib.hid (Bb.out.ext hb)
          clear hb
          have x0 : ∀ w', Ext g4 w' → w'.cell? ⟨px, 0, none⟩ = some (.string lo) := fun w' h => (Na.out.ext h).c0
          have x1 : ∀ w', Ext g4 w' → w'.cell? ⟨px, 1, none⟩ = some (.string hi) := fun w' h => (Na.out.ext h).c1
          have x2 : ∀ w', Ext g4 w' → w'.cell? ⟨px, 2, none⟩ = some (.bool op) := fun w' h => (Na.out.ext h).c2
          have y0 : ∀ w', Ext g4 w' → w'.cell? ⟨py, 0, none⟩ = some (.string lo2) := fun w' h => (Nb.out.ext h).c0
          have y1 : ∀ w', Ext g4 w' → w'.cell? ⟨py, 1, none⟩ = some (.string hi2) := fun w' h => (Nb.out.ext h).c1
          have y2 : ∀ w', Ext g4 w' → w'.cell? ⟨py, 2, none⟩ = some (.bool op2) := fun w' h => (Nb.out.ext h).c2
          have a0 : ∀ w', Ext g4 w' → w'.cell? ⟨w.heap.size, 0, none⟩ = some (.string lo) := fun w' h => (Ba.out.ext h).c0
          have a1 : ∀ w', Ext g4 w' → w'.cell? ⟨w.heap.size, 1, none⟩ = some (.string hi) := fun w' h => (Ba.out.ext h).c1
          have a2 : ∀ w', Ext g4 w' → w'.cell? ⟨w.heap.size, 2, none⟩ = some (.bool op) := fun w' h => (Ba.out.ext h).c2
          have b0 : ∀ w', Ext g4 w' → w'.cell? ⟨(w.heap.size + 1), 0, none⟩ = some (.string lo2) := fun w' h => (Bb.out.ext h).c0
          have b1 : ∀ w', Ext g4 w' → w'.cell? ⟨(w.heap.size + 1), 1, none⟩ = some (.string hi2) := fun w' h => (Bb.out.ext h).c1
          have b2 : ∀ w', Ext g4 w' → w'.cell? ⟨(w.heap.size + 1), 2, none⟩ = some (.bool op2) := fun w' h => (Bb.out.ext h).c2
          iterate 5 (refine wpGr_read (o := ⟨_, _, _, _, _, _⟩) (v := ?_) rfl (by rfl) ?_ ?_; rotate_left; (intro w' hw'; go_simp; with_reducible rfl); simp only [Act.put, List.setIfInBounds_toArray, List.set_cons_zero, List.set_cons_succ])
          refine wpGr_call (o := ⟨_, _, _, _, _, _⟩) rfl (by rfl) (fun K hK => ?_)
          go_simp
          refine (of_at _ ⟨ol, oh, oo⟩ _ (by omega) HC.out.2.2.1).mono ?_
          rintro e g5 ⟨rfl, hb⟩
          refine hK _ _ hb ?_
          clear hK K
          clear x0 x1 x2 y0 y1 y2 a0 a1 a2 b0 b1 b2
          replace Hbel := Lib.hid (Hbel.out.trans (hb.mono Hbel.out.size))
          replace Na := Lib.hid (Na.out.ext hb)
          replace Nb := Lib.hid (Nb.out.ext hb)
          replace Ba := Lib.hid (Ba.out.ext hb)
          replace Bb := Lib.hid (Bb.out.ext hb)
          clear hb
          have x0 : ∀ w', Ext g5 w' → w'.cell? ⟨px, 0, none⟩ = some (.string lo) := fun w' h => (Na.out.ext h).c0
          have x1 : ∀ w', Ext g5 w' → w'.cell? ⟨px, 1, none⟩ = some (.string hi) := fun w' h => (Na.out.ext h).c1
          have x2 : ∀ w', Ext g5 w' → w'.cell? ⟨px, 2, none⟩ = some (.bool op) := fun w' h => (Na.out.ext h).c2
          have y0 : ∀ w', Ext g5 w' → w'.cell? ⟨py, 0, none⟩ = some (.string lo2) := fun w' h => (Nb.out.ext h).c0
          have y1 : ∀ w', Ext g5 w' → w'.cell? ⟨py, 1, none⟩ = some (.string hi2) := fun w' h => (Nb.out.ext h).c1
          have y2 : ∀ w', Ext g5 w' → w'.cell? ⟨py, 2, none⟩ = some (.bool op2) := fun w' h => (Nb.out.ext h).c2
          have a0 : ∀ w', Ext g5 w' → w'.cell? ⟨w.heap.size, 0, none⟩ = some (.string lo) := fun w' h => (Ba.out.ext h).c0
          have a1 : ∀ w', Ext g5 w' → w'.cell? ⟨w.heap.size, 1, none⟩ = some (.string hi) := fun w' h => (Ba.out.ext h).c1
          have a2 : ∀ w', Ext g5 w' → w'.cell? ⟨w.heap.size, 2, none⟩ = some (.bool op) := fun w' h => (Ba.out.ext h).c2
          have b0 : ∀ w', Ext g5 w' → w'.cell? ⟨(w.heap.size + 1), 0, none⟩ = some (.string lo2) := fun w' h => (Bb.out.ext h).c0
          have b1 : ∀ w', Ext g5 w' → w'.cell? ⟨(w.heap.size + 1), 1, none⟩ = some (.string hi2) := fun w' h => (Bb.out.ext h).c1
          have b2 : ∀ w', Ext g5 w' → w'.cell? ⟨(w.heap.size + 1), 2, none⟩ = some (.bool op2) := fun w' h => (Bb.out.ext h).c2
          dsimp only
          refine wpGr_call (o := ⟨_, _, _, _, _, _⟩) rfl (by rfl) (fun K hK => ?_)
          go_simp
          refine (refOf_at _ ⟨ol, oh, oo⟩ _ (by omega) HC.out.2.2.1).mono ?_
          rintro e g6 ⟨rfl, hb⟩
          refine hK _ _ hb ?_
          clear hK K
          clear x0 x1 x2 y0 y1 y2 a0 a1 a2 b0 b1 b2
          replace Hbel := Lib.hid (Hbel.out.trans (hb.mono Hbel.out.size))
          replace Na := Lib.hid (Na.out.ext hb)
          replace Nb := Lib.hid (Nb.out.ext hb)
          replace Ba := Lib.hid (Ba.out.ext hb)
          replace Bb := Lib.hid (Bb.out.ext hb)
          clear hb
          have x0 : ∀ w', Ext g6 w' → w'.cell? ⟨px, 0, none⟩ = some (.string lo) := fun w' h => (Na.out.ext h).c0
          have x1 : ∀ w', Ext g6 w' → w'.cell? ⟨px, 1, none⟩ = some (.string hi) := fun w' h => (Na.out.ext h).c1
          have x2 : ∀ w', Ext g6 w' → w'.cell? ⟨px, 2, none⟩ = some (.bool op) := fun w' h => (Na.out.ext h).c2
          have y0 : ∀ w', Ext g6 w' → w'.cell? ⟨py, 0, none⟩ = some (.string lo2) := fun w' h => (Nb.out.ext h).c0
          have y1 : ∀ w', Ext g6 w' → w'.cell? ⟨py, 1, none⟩ = some (.string hi2) := fun w' h => (Nb.out.ext h).c1
          have y2 : ∀ w', Ext g6 w' → w'.cell? ⟨py, 2, none⟩ = some (.bool op2) := fun w' h => (Nb.out.ext h).c2
          have a0 : ∀ w', Ext g6 w' → w'.cell? ⟨w.heap.size, 0, none⟩ = some (.string lo) := fun w' h => (Ba.out.ext h).c0
          have a1 : ∀ w', Ext g6 w' → w'.cell? ⟨w.heap.size, 1, none⟩ = some (.string hi) := fun w' h => (Ba.out.ext h).c1
          have a2 : ∀ w', Ext g6 w' → w'.cell? ⟨w.heap.size, 2, none⟩ = some (.bool op) := fun w' h => (Ba.out.ext h).c2
          have b0 : ∀ w', Ext g6 w' → w'.cell? ⟨(w.heap.size + 1), 0, none⟩ = some (.string lo2) := fun w' h => (Bb.out.ext h).c0
          have b1 : ∀ w', Ext g6 w' → w'.cell? ⟨(w.heap.size + 1), 1, none⟩ = some (.string hi2) := fun w' h => (Bb.out.ext h).c1
          have b2 : ∀ w', Ext g6 w' → w'.cell? ⟨(w.heap.size + 1), 2, none⟩ = some (.bool op2) := fun w' h => (Bb.out.ext h).c2
          dsimp only
          iterate 7 (refine wpGr_read (o := ⟨_, _, _, _, _, _⟩) (v := ?_) rfl (by rfl) ?_ ?_; rotate_left; (intro w' hw'; go_simp; with_reducible rfl); simp only [Act.put, List.setIfInBounds_toArray, List.set_cons_zero, List.set_cons_succ])
          refine wpGr_call (o := ⟨_, _, _, _, _, _⟩) rfl (by rfl) (fun K hK => ?_)
          go_simp
          refine (meet_at ⟨lo, hi, op⟩ ⟨lo2, hi2, op2⟩ ⟨ml, mh, mo⟩ _ HC.out.2.2.2.1).mono ?_
          rintro e g7 ⟨rfl, hb⟩
          refine hK _ _ hb ?_
          clear hK K
          clear x0 x1 x2 y0 y1 y2 a0 a1 a2 b0 b1 b2
          replace Hbel := Lib.hid (Hbel.out.trans (hb.mono Hbel.out.size))
          replace Na := Lib.hid (Na.out.ext hb)
          replace Nb := Lib.hid (Nb.out.ext hb)
          replace Ba := Lib.hid (Ba.out.ext hb)
          replace Bb := Lib.hid (Bb.out.ext hb)
          clear hb
          have x0 : ∀ w', Ext g7 w' → w'.cell? ⟨px, 0, none⟩ = some (.string lo) := fun w' h => (Na.out.ext h).c0
          have x1 : ∀ w', Ext g7 w' → w'.cell? ⟨px, 1, none⟩ = some (.string hi) := fun w' h => (Na.out.ext h).c1
          have x2 : ∀ w', Ext g7 w' → w'.cell? ⟨px, 2, none⟩ = some (.bool op) := fun w' h => (Na.out.ext h).c2
          have y0 : ∀ w', Ext g7 w' → w'.cell? ⟨py, 0, none⟩ = some (.string lo2) := fun w' h => (Nb.out.ext h).c0
          have y1 : ∀ w', Ext g7 w' → w'.cell? ⟨py, 1, none⟩ = some (.string hi2) := fun w' h => (Nb.out.ext h).c1
          have y2 : ∀ w', Ext g7 w' → w'.cell? ⟨py, 2, none⟩ = some (.bool op2) := fun w' h => (Nb.out.ext h).c2
          have a0 : ∀ w', Ext g7 w' → w'.cell? ⟨w.heap.size, 0, none⟩ = some (.string lo) := fun w' h => (Ba.out.ext h).c0
          have a1 : ∀ w', Ext g7 w' → w'.cell? ⟨w.heap.size, 1, none⟩ = some (.string hi) := fun w' h => (Ba.out.ext h).c1
          have a2 : ∀ w', Ext g7 w' → w'.cell? ⟨w.heap.size, 2, none⟩ = some (.bool op) := fun w' h => (Ba.out.ext h).c2
          have b0 : ∀ w', Ext g7 w' → w'.cell? ⟨(w.heap.size + 1), 0, none⟩ = some (.string lo2) := fun w' h => (Bb.out.ext h).c0
          have b1 : ∀ w', Ext g7 w' → w'.cell? ⟨(w.heap.size + 1), 1, none⟩ = some (.string hi2) := fun w' h => (Bb.out.ext h).c1
          have b2 : ∀ w', Ext g7 w' → w'.cell? ⟨(w.heap.size + 1), 2, none⟩ = some (.bool op2) := fun w' h => (Bb.out.ext h).c2
          dsimp only
          refine wpGr_call (o := ⟨_, _, _, _, _, _⟩) rfl (by rfl) (fun K hK => ?_)
          go_simp
          refine (refMeet_at ⟨lo, hi, op⟩ ⟨lo2, hi2, op2⟩ ⟨ml, mh, mo⟩ _ (by dsimp only; omega) (by dsimp only; omega) HC.out.2.2.2.1).mono ?_
          rintro e g8 ⟨rfl, hb⟩
          refine hK _ _ hb ?_
          clear hK K
          clear x0 x1 x2 y0 y1 y2 a0 a1 a2 b0 b1 b2
          replace Hbel := Lib.hid (Hbel.out.trans (hb.mono Hbel.out.size))
          replace Na := Lib.hid (Na.out.ext hb)
          replace Nb := Lib.hid (Nb.out.ext hb)
          replace Ba := Lib.hid (Ba.out.ext hb)
          replace Bb := Lib.hid (Bb.out.ext hb)
          clear hb
          have x0 : ∀ w', Ext g8 w' → w'.cell? ⟨px, 0, none⟩ = some (.string lo) := fun w' h => (Na.out.ext h).c0
          have x1 : ∀ w', Ext g8 w' → w'.cell? ⟨px, 1, none⟩ = some (.string hi) := fun w' h => (Na.out.ext h).c1
          have x2 : ∀ w', Ext g8 w' → w'.cell? ⟨px, 2, none⟩ = some (.bool op) := fun w' h => (Na.out.ext h).c2
          have y0 : ∀ w', Ext g8 w' → w'.cell? ⟨py, 0, none⟩ = some (.string lo2) := fun w' h => (Nb.out.ext h).c0
          have y1 : ∀ w', Ext g8 w' → w'.cell? ⟨py, 1, none⟩ = some (.string hi2) := fun w' h => (Nb.out.ext h).c1
          have y2 : ∀ w', Ext g8 w' → w'.cell? ⟨py, 2, none⟩ = some (.bool op2) := fun w' h => (Nb.out.ext h).c2
          have a0 : ∀ w', Ext g8 w' → w'.cell? ⟨w.heap.size, 0, none⟩ = some (.string lo) := fun w' h => (Ba.out.ext h).c0
          have a1 : ∀ w', Ext g8 w' → w'.cell? ⟨w.heap.size, 1, none⟩ = some (.string hi) := fun w' h => (Ba.out.ext h).c1
          have a2 : ∀ w', Ext g8 w' → w'.cell? ⟨w.heap.size, 2, none⟩ = some (.bool op) := fun w' h => (Ba.out.ext h).c2
          have b0 : ∀ w', Ext g8 w' → w'.cell? ⟨(w.heap.size + 1), 0, none⟩ = some (.string lo2) := fun w' h => (Bb.out.ext h).c0
          have b1 : ∀ w', Ext g8 w' → w'.cell? ⟨(w.heap.size + 1), 1, none⟩ = some (.string hi2) := fun w' h => (Bb.out.ext h).c1
          have b2 : ∀ w', Ext g8 w' → w'.cell? ⟨(w.heap.size + 1), 2, none⟩ = some (.bool op2) := fun w' h => (Bb.out.ext h).c2
          dsimp only
          iterate 7 (refine wpGr_read (o := ⟨_, _, _, _, _, _⟩) (v := ?_) rfl (by rfl) ?_ ?_; rotate_left; (intro w' hw'; go_simp; with_reducible rfl); simp only [Act.put, List.setIfInBounds_toArray, List.set_cons_zero, List.set_cons_succ])
          refine wpGr_call (o := ⟨_, _, _, _, _, _⟩) rfl (by rfl) (fun K hK => ?_)
          go_simp
          refine (with_at ⟨lo, hi, op⟩ ⟨lo2, hi2, op2⟩ WV _ HC.out.2.2.2.2.1).mono ?_
          rintro e g9 ⟨rfl, hb⟩
          refine hK _ _ hb ?_
          clear hK K
          clear x0 x1 x2 y0 y1 y2 a0 a1 a2 b0 b1 b2
          replace Hbel := Lib.hid (Hbel.out.trans (hb.mono Hbel.out.size))
          replace Na := Lib.hid (Na.out.ext hb)
          replace Nb := Lib.hid (Nb.out.ext hb)
          replace Ba := Lib.hid (Ba.out.ext hb)
          replace Bb := Lib.hid (Bb.out.ext hb)
          clear hb
          have x0 : ∀ w', Ext g9 w' → w'.cell? ⟨px, 0, none⟩ = some (.string lo) := fun w' h => (Na.out.ext h).c0
          have x1 : ∀ w', Ext g9 w' → w'.cell? ⟨px, 1, none⟩ = some (.string hi) := fun w' h => (Na.out.ext h).c1
          have x2 : ∀ w', Ext g9 w' → w'.cell? ⟨px, 2, none⟩ = some (.bool op) := fun w' h => (Na.out.ext h).c2
          have y0 : ∀ w', Ext g9 w' → w'.cell? ⟨py, 0, none⟩ = some (.string lo2) := fun w' h => (Nb.out.ext h).c0
          have y1 : ∀ w', Ext g9 w' → w'.cell? ⟨py, 1, none⟩ = some (.string hi2) := fun w' h => (Nb.out.ext h).c1
          have y2 : ∀ w', Ext g9 w' → w'.cell? ⟨py, 2, none⟩ = some (.bool op2) := fun w' h => (Nb.out.ext h).c2
          have a0 : ∀ w', Ext g9 w' → w'.cell? ⟨w.heap.size, 0, none⟩ = some (.string lo) := fun w' h => (Ba.out.ext h).c0
          have a1 : ∀ w', Ext g9 w' → w'.cell? ⟨w.heap.size, 1, none⟩ = some (.string hi) := fun w' h => (Ba.out.ext h).c1
          have a2 : ∀ w', Ext g9 w' → w'.cell? ⟨w.heap.size, 2, none⟩ = some (.bool op) := fun w' h => (Ba.out.ext h).c2
          have b0 : ∀ w', Ext g9 w' → w'.cell? ⟨(w.heap.size + 1), 0, none⟩ = some (.string lo2) := fun w' h => (Bb.out.ext h).c0
          have b1 : ∀ w', Ext g9 w' → w'.cell? ⟨(w.heap.size + 1), 1, none⟩ = some (.string hi2) := fun w' h => (Bb.out.ext h).c1
          have b2 : ∀ w', Ext g9 w' → w'.cell? ⟨(w.heap.size + 1), 2, none⟩ = some (.bool op2) := fun w' h => (Bb.out.ext h).c2
          refine wpGr_call (o := ⟨_, _, _, _, _, _⟩) rfl (by rfl) (fun K hK => ?_)
          go_simp
          refine (refWith_at ⟨lo, hi, op⟩ ⟨lo2, hi2, op2⟩ WV _ (by dsimp only; omega) (by dsimp only; omega) (by dsimp only; omega) HC.out.2.2.2.2.1).mono ?_
          rintro e g10 ⟨rfl, hb⟩
          refine hK _ _ hb ?_
          clear hK K
          clear x0 x1 x2 y0 y1 y2 a0 a1 a2 b0 b1 b2
          replace Hbel := Lib.hid (Hbel.out.trans (hb.mono Hbel.out.size))
          replace Na := Lib.hid (Na.out.ext hb)
          replace Nb := Lib.hid (Nb.out.ext hb)
          replace Ba := Lib.hid (Ba.out.ext hb)
          replace Bb := Lib.hid (Bb.out.ext hb)
          clear hb
          have x0 : ∀ w', Ext g10 w' → w'.cell? ⟨px, 0, none⟩ = some (.string lo) := fun w' h => (Na.out.ext h).c0
          have x1 : ∀ w', Ext g10 w' → w'.cell? ⟨px, 1, none⟩ = some (.string hi) := fun w' h => (Na.out.ext h).c1
          have x2 : ∀ w', Ext g10 w' → w'.cell? ⟨px, 2, none⟩ = some (.bool op) := fun w' h => (Na.out.ext h).c2
          have y0 : ∀ w', Ext g10 w' → w'.cell? ⟨py, 0, none⟩ = some (.string lo2) := fun w' h => (Nb.out.ext h).c0
          have y1 : ∀ w', Ext g10 w' → w'.cell? ⟨py, 1, none⟩ = some (.string hi2) := fun w' h => (Nb.out.ext h).c1
          have y2 : ∀ w', Ext g10 w' → w'.cell? ⟨py, 2, none⟩ = some (.bool op2) := fun w' h => (Nb.out.ext h).c2
          have a0 : ∀ w', Ext g10 w' → w'.cell? ⟨w.heap.size, 0, none⟩ = some (.string lo) := fun w' h => (Ba.out.ext h).c0
          have a1 : ∀ w', Ext g10 w' → w'.cell? ⟨w.heap.size, 1, none⟩ = some (.string hi) := fun w' h => (Ba.out.ext h).c1
          have a2 : ∀ w', Ext g10 w' → w'.cell? ⟨w.heap.size, 2, none⟩ = some (.bool op) := fun w' h => (Ba.out.ext h).c2
          have b0 : ∀ w', Ext g10 w' → w'.cell? ⟨(w.heap.size + 1), 0, none⟩ = some (.string lo2) := fun w' h => (Bb.out.ext h).c0
          have b1 : ∀ w', Ext g10 w' → w'.cell? ⟨(w.heap.size + 1), 1, none⟩ = some (.string hi2) := fun w' h => (Bb.out.ext h).c1
          have b2 : ∀ w', Ext g10 w' → w'.cell? ⟨(w.heap.size + 1), 2, none⟩ = some (.bool op2) := fun w' h => (Bb.out.ext h).c2
          have n1 : ¬ (9223372036854775807 < key.size + 1) := by omega
          have n2 : key ++ ⟨#[0]⟩ = NV := HC.out.2.2.2.2.2
          iterate 6 (refine wpGr_read (o := ⟨_, _, _, _, _, _⟩) (v := ?_) rfl (by rfl) ?_ ?_; rotate_left; (intro w' hw'; go_simp; with_reducible rfl); simp only [Act.put, List.setIfInBounds_toArray, List.set_cons_zero, List.set_cons_succ])
          refine wpGr_call (o := ⟨_, _, _, _, _, _⟩) rfl (by rfl) (fun K hK => ?_)
          go_simp
          refine (next_at _ NV _ (by omega) HC.out.2.2.2.2.2).mono ?_
          rintro e w' ⟨rfl, rfl⟩
          refine hK _ _ (Ext.refl _) ?_
          clear hK K
          iterate 3 (refine wpGr_read (o := ⟨_, _, _, _, _, _⟩) (v := ?_) rfl (by rfl) ?_ ?_; rotate_left; (intro w' hw'; go_simp; with_reducible rfl); simp only [Act.put, List.setIfInBounds_toArray, List.set_cons_zero, List.set_cons_succ])
          refine wpGr_call (o := ⟨_, _, _, _, _, _⟩) rfl (by rfl) (fun K hK => ?_)
          go_simp
          refine (sure_any _ (HG.out.below Hbel.out)).mono ?_
          rintro e g11 ⟨rfl, hb⟩
          refine hK _ _ hb ?_
          clear hK K
          clear x0 x1 x2 y0 y1 y2 a0 a1 a2 b0 b1 b2
          replace Hbel := Lib.hid (Hbel.out.trans (hb.mono Hbel.out.size))
          replace Na := Lib.hid (Na.out.ext hb)
          replace Nb := Lib.hid (Nb.out.ext hb)
          replace Ba := Lib.hid (Ba.out.ext hb)
          replace Bb := Lib.hid (Bb.out.ext hb)
          clear hb
          have x0 : ∀ w', Ext g11 w' → w'.cell? ⟨px, 0, none⟩ = some (.string lo) := fun w' h => (Na.out.ext h).c0
          have x1 : ∀ w', Ext g11 w' → w'.cell? ⟨px, 1, none⟩ = some (.string hi) := fun w' h => (Na.out.ext h).c1
          have x2 : ∀ w', Ext g11 w' → w'.cell? ⟨px, 2, none⟩ = some (.bool op) := fun w' h => (Na.out.ext h).c2
          have y0 : ∀ w', Ext g11 w' → w'.cell? ⟨py, 0, none⟩ = some (.string lo2) := fun w' h => (Nb.out.ext h).c0
          have y1 : ∀ w', Ext g11 w' → w'.cell? ⟨py, 1, none⟩ = some (.string hi2) := fun w' h => (Nb.out.ext h).c1
          have y2 : ∀ w', Ext g11 w' → w'.cell? ⟨py, 2, none⟩ = some (.bool op2) := fun w' h => (Nb.out.ext h).c2
          have a0 : ∀ w', Ext g11 w' → w'.cell? ⟨w.heap.size, 0, none⟩ = some (.string lo) := fun w' h => (Ba.out.ext h).c0
          have a1 : ∀ w', Ext g11 w' → w'.cell? ⟨w.heap.size, 1, none⟩ = some (.string hi) := fun w' h => (Ba.out.ext h).c1
          have a2 : ∀ w', Ext g11 w' → w'.cell? ⟨w.heap.size, 2, none⟩ = some (.bool op) := fun w' h => (Ba.out.ext h).c2
          have b0 : ∀ w', Ext g11 w' → w'.cell? ⟨(w.heap.size + 1), 0, none⟩ = some (.string lo2) := fun w' h => (Bb.out.ext h).c0
          have b1 : ∀ w', Ext g11 w' → w'.cell? ⟨(w.heap.size + 1), 1, none⟩ = some (.string hi2) := fun w' h => (Bb.out.ext h).c1
          have b2 : ∀ w', Ext g11 w' → w'.cell? ⟨(w.heap.size + 1), 2, none⟩ = some (.bool op2) := fun w' h => (Bb.out.ext h).c2
          iterate 2 (refine wpGr_read (o := ⟨_, _, _, _, _, _⟩) (v := ?_) rfl (by rfl) ?_ ?_; rotate_left; (intro w' hw'; go_simp; with_reducible rfl); simp only [Act.put, List.setIfInBounds_toArray, List.set_cons_zero, List.set_cons_succ])
          clear x0 x1 x2 y0 y1 y2 a0 a1 a2 b0 b1 b2
          refine wpGr_done ?_
          go_wp2_with fail
          go_ret
          exact ⟨rfl, Hbel.out⟩
        · as_aux_lemma =>
          have d2 : decide ((1 : Int) ≤ key.size) = true := by simp; omega
          have d3 : decide ((key.size : Int) ≤ 40) = true := by simp; omega
          have hck : chkV key = .nilIface := by unfold chkV okK; rw [if_pos (by simp; omega)]
          have Hck := Lib.hid hck
          clear hck
          go_wp2_with fail
          refine (chk_at _ _ _ Hck.out).mono ?_
          rintro e w' ⟨rfl, rfl⟩
          go_wp2_with fail
          obtain ⟨HV, hHV⟩ : ∃ V, hasS ⟨lo, hi, op⟩ key = V := ⟨_, rfl⟩
          obtain ⟨EV, hEV⟩ : ∃ V, empS ⟨lo, hi, op⟩ = V := ⟨_, rfl⟩
          obtain ⟨⟨ol, oh, oo⟩, hof⟩ : ∃ s, ofS key = s := ⟨_, rfl⟩
          obtain ⟨⟨ml, mh, mo⟩, hme⟩ : ∃ s, meetS ⟨lo, hi, op⟩ ⟨lo2, hi2, op2⟩ = s := ⟨_, rfl⟩
          obtain ⟨WV, hWV⟩ : ∃ V, withS ⟨lo, hi, op⟩ ⟨lo2, hi2, op2⟩ = V := ⟨_, rfl⟩
          obtain ⟨NV, hNV⟩ : ∃ N, nextS key = N := ⟨_, rfl⟩
          have HC := Lib.hid (And.intro hHV (And.intro hEV (And.intro hof (And.intro hme (And.intro hWV hNV)))))
          clear hHV hEV hof hme hWV hNV
          refine wp_region_gr [(0, true), (1, true), (3, true), (4, true), (2, false), (5, false), (6, true), (7, true), (8, true), (10, true), (9, false), (11, false), (12, true), (13, true), (14, true), (15, true), (17, true), (16, false), (18, false), (19, true), (20, true), (21, true), (22, true), (23, true), (25, true), (26, true), (24, false), (27, false), (28, true), (29, true), (30, true), (31, true), (32, true), (34, true), (35, true), (33, false), (36, false), (37, true), (38, true), (39, true), (40, true), (42, true), (43, true), (41, false), (44, true), (45, true), (46, true), (47, false), (48, true), (49, true)] (by kernel_rfl) (by kernel_rfl) (by kernel_rfl) (by kernel_rfl) (fun _ _ _ _ _ h => h) ?_
          replace Hbel := Lib.hid Hbel.out.drew
          replace Na : Hid (SpIn v0.drew px SPT ⟨lo, hi, op⟩) := Na.out
          replace Nb : Hid (SpIn v0.drew py SPT ⟨lo2, hi2, op2⟩) := Nb.out
          replace Ba : Hid (SpIn v0.drew w.heap.size RSP ⟨lo, hi, op⟩) := Ba.out
          replace Bb : Hid (SpIn v0.drew (w.heap.size + 1) RSP ⟨lo2, hi2, op2⟩) := Bb.out
          generalize v0.drew = g0 at *
          have x0 : ∀ w', Ext g0 w' → w'.cell? ⟨px, 0, none⟩ = some (.string lo) := fun w' h => (Na.out.ext h).c0
          have x1 : ∀ w', Ext g0 w' → w'.cell? ⟨px, 1, none⟩ = some (.string hi) := fun w' h => (Na.out.ext h).c1
          have x2 : ∀ w', Ext g0 w' → w'.cell? ⟨px, 2, none⟩ = some (.bool op) := fun w' h => (Na.out.ext h).c2
          have y0 : ∀ w', Ext g0 w' → w'.cell? ⟨py, 0, none⟩ = some (.string lo2) := fun w' h => (Nb.out.ext h).c0
          have y1 : ∀ w', Ext g0 w' → w'.cell? ⟨py, 1, none⟩ = some (.string hi2) := fun w' h => (Nb.out.ext h).c1
          have y2 : ∀ w', Ext g0 w' → w'.cell? ⟨py, 2, none⟩ = some (.bool op2) := fun w' h => (Nb.out.ext h).c2
          have a0 : ∀ w', Ext g0 w' → w'.cell? ⟨w.heap.size, 0, none⟩ = some (.string lo) := fun w' h => (Ba.out.ext h).c0
          have a1 : ∀ w', Ext g0 w' → w'.cell? ⟨w.heap.size, 1, none⟩ = some (.string hi) := fun w' h => (Ba.out.ext h).c1
          have a2 : ∀ w', Ext g0 w' → w'.cell? ⟨w.heap.size, 2, none⟩ = some (.bool op) := fun w' h => (Ba.out.ext h).c2
          have b0 : ∀ w', Ext g0 w' → w'.cell? ⟨(w.heap.size + 1), 0, none⟩ = some (.string lo2) := fun w' h => (Bb.out.ext h).c0
          have b1 : ∀ w', Ext g0 w' → w'.cell? ⟨(w.heap.size + 1), 1, none⟩ = some (.string hi2) := fun w' h => (Bb.out.ext h).c1
          have b2 : ∀ w', Ext g0 w' → w'.cell? ⟨(w.heap.size + 1), 2, none⟩ = some (.bool op2) := fun w' h => (Bb.out.ext h).c2
          iterate 4 (refine wpGr_read (o := ⟨_, _, _, _, _, _⟩) (v := ?_) rfl (by rfl) ?_ ?_; rotate_left; (intro w' hw'; go_simp; with_reducible rfl); simp only [Act.put, List.setIfInBounds_toArray, List.set_cons_zero, List.set_cons_succ])
          refine wpGr_call (o := ⟨_, _, _, _, _, _⟩) rfl (by rfl) (fun K hK => ?_)
          go_simp
          refine (has_at _ _ _ _ HV _ HC.out.1).mono ?_
          rintro e g1 ⟨rfl, hb⟩
          refine hK _ _ hb ?_
          clear hK K
          clear x0 x1 x2 y0 y1 y2 a0 a1 a2 b0 b1 b2
          replace Hbel := Lib.hid (Hbel.out.trans (hb.mono Hbel.out.size))
          replace Na := Lib.hid (Na.out.ext hb)
          replace Nb := Lib.hid (Nb.out.ext hb)
          replace Ba := Lib.hid (Ba.out.ext hb)
          replace Bb := Lib.hid (Bb.out.ext hb)
          clear hb
          have x0 : ∀ w', Ext g1 w' → w'.cell? ⟨px, 0, none⟩ = some (.string lo) := fun w' h => (Na.out.ext h).c0
          have x1 : ∀ w', Ext g1 w' → w'.cell? ⟨px, 1, none⟩ = some (.string hi) := fun w' h => (Na.out.ext h).c1
          have x2 : ∀ w', Ext g1 w' → w'.cell? ⟨px, 2, none⟩ = some (.bool op) := fun w' h => (Na.out.ext h).c2
          have y0 : ∀ w', Ext g1 w' → w'.cell? ⟨py, 0, none⟩ = some (.string lo2) := fun w' h => (Nb.out.ext h).c0
          have y1 : ∀ w', Ext g1 w' → w'.cell? ⟨py, 1, none⟩ = some (.string hi2) := fun w' h => (Nb.out.ext h).c1
          have y2 : ∀ w', Ext g1 w' → w'.cell? ⟨py, 2, none⟩ = some (.bool op2) := fun w' h => (Nb.out.ext h).c2
          have a0 : ∀ w', Ext g1 w' → w'.cell? ⟨w.heap.size, 0, none⟩ = some (.string lo) := fun w' h => (Ba.out.ext h).c0
          have a1 : ∀ w', Ext g1 w' → w'.cell? ⟨w.heap.size, 1, none⟩ = some (.string hi) := fun w' h => (Ba.out.ext h).c1
          have a2 : ∀ w', Ext g1 w' → w'.cell? ⟨w.heap.size, 2, none⟩ = some (.bool op) := fun w' h => (Ba.out.ext h).c2
          have b0 : ∀ w', Ext g1 w' → w'.cell? ⟨(w.heap.size + 1), 0, none⟩ = some (.string lo2) := fun w' h => (Bb.out.ext h).c0
          have b1 : ∀ w', Ext g1 w' → w'.cell? ⟨(w.heap.size + 1), 1, none⟩ = some (.string hi2) := fun w' h => (Bb.out.ext h).c1
          have b2 : ∀ w', Ext g1 w' → w'.cell? ⟨(w.heap.size + 1), 2, none⟩ = some (.bool op2) := fun w' h => (Bb.out.ext h).c2
          refine wpGr_call (o := ⟨_, _, _, _, _, _⟩) rfl (by rfl) (fun K hK => ?_)
          go_simp
          refine (refHas_at _ _ _ _ HV _ (by omega) HC.out.1).mono ?_
          rintro e g2 ⟨rfl, hb⟩
          refine hK _ _ hb ?_
          clear hK K
          clear x0 x1 x2 y0 y1 y2 a0 a1 a2 b0 b1 b2
          replace Hbel := Lib.hid (Hbel.out.trans (hb.mono Hbel.out.size))
          replace Na := Lib.hid (Na.out.ext hb)
          replace Nb := Lib.hid (Nb.out.ext hb)
          replace Ba := Lib.hid (Ba.out.ext hb)
          replace Bb := Lib.hid (Bb.out.ext hb)
          clear hb
          have x0 : ∀ w', Ext g2 w' → w'.cell? ⟨px, 0, none⟩ = some (.string lo) := fun w' h => (Na.out.ext h).c0
          have x1 : ∀ w', Ext g2 w' → w'.cell? ⟨px, 1, none⟩ = some (.string hi) := fun w' h => (Na.out.ext h).c1
          have x2 : ∀ w', Ext g2 w' → w'.cell? ⟨px, 2, none⟩ = some (.bool op) := fun w' h => (Na.out.ext h).c2
          have y0 : ∀ w', Ext g2 w' → w'.cell? ⟨py, 0, none⟩ = some (.string lo2) := fun w' h => (Nb.out.ext h).c0
          have y1 : ∀ w', Ext g2 w' → w'.cell? ⟨py, 1, none⟩ = some (.string hi2) := fun w' h => (Nb.out.ext h).c1
          have y2 : ∀ w', Ext g2 w' → w'.cell? ⟨py, 2, none⟩ = some (.bool op2) := fun w' h => (Nb.out.ext h).c2
          have a0 : ∀ w', Ext g2 w' → w'.cell? ⟨w.heap.size, 0, none⟩ = some (.string lo) := fun w' h => (Ba.out.ext h).c0
          have a1 : ∀ w', Ext g2 w' → w'.cell? ⟨w.heap.size, 1, none⟩ = some (.string hi) := fun w' h => (Ba.out.ext h).c1
          have a2 : ∀ w', Ext g2 w' → w'.cell? ⟨w.heap.size, 2, none⟩ = some (.bool op) := fun w' h => (Ba.out.ext h).c2
          have b0 : ∀ w', Ext g2 w' → w'.cell? ⟨(w.heap.size + 1), 0, none⟩ = some (.string lo2) := fun w' h => (Bb.out.ext h).c0
          have b1 : ∀ w', Ext g2 w' → w'.cell? ⟨(w.heap.size + 1), 1, none⟩ = some (.string hi2) := fun w' h => (Bb.out.ext h).c1
          have b2 : ∀ w', Ext g2 w' → w'.cell? ⟨(w.heap.size + 1), 2, none⟩ = some (.bool op2) := fun w' h => (Bb.out.ext h).c2
          iterate 4 (refine wpGr_read (o := ⟨_, _, _, _, _, _⟩) (v := ?_) rfl (by rfl) ?_ ?_; rotate_left; (intro w' hw'; go_simp; with_reducible rfl); simp only [Act.put, List.setIfInBounds_toArray, List.set_cons_zero, List.set_cons_succ])
          refine wpGr_call (o := ⟨_, _, _, _, _, _⟩) rfl (by rfl) (fun K hK => ?_)
          go_simp
          refine (emp_at _ _ _ EV _ HC.out.2.1).mono ?_
          rintro e g3 ⟨rfl, hb⟩
          refine hK _ _ hb ?_
          clear hK K
          clear x0 x1 x2 y0 y1 y2 a0 a1 a2 b0 b1 b2
          replace Hbel := Lib.hid (Hbel.out.trans (hb.mono Hbel.out.size))
          replace Na := Lib.hid (Na.out.ext hb)
          replace Nb := Lib.hid (Nb.out.ext hb)
          replace Ba := Lib.hid (Ba.out.ext hb)
          replace Bb := Lib.hid (Bb.out.ext hb)
          clear hb
          have x0 : ∀ w', Ext g3 w' → w'.cell? ⟨px, 0, none⟩ = some (.string lo) := fun w' h => (Na.out.ext h).c0
          have x1 : ∀ w', Ext g3 w' → w'.cell? ⟨px, 1, none⟩ = some (.string hi) := fun w' h => (Na.out.ext h).c1
          have x2 : ∀ w', Ext g3 w' → w'.cell? ⟨px, 2, none⟩ = some (.bool op) := fun w' h => (Na.out.ext h).c2
          have y0 : ∀ w', Ext g3 w' → w'.cell? ⟨py, 0, none⟩ = some (.string lo2) := fun w' h => (Nb.out.ext h).c0
          have y1 : ∀ w', Ext g3 w' → w'.cell? ⟨py, 1, none⟩ = some (.string hi2) := fun w' h => (Nb.out.ext h).c1
          have y2 : ∀ w', Ext g3 w' → w'.cell? ⟨py, 2, none⟩ = some (.bool op2) := fun w' h => (Nb.out.ext h).c2
          have a0 : ∀ w', Ext g3 w' → w'.cell? ⟨w.heap.size, 0, none⟩ = some (.string lo) := fun w' h => (Ba.out.ext h).c0
          have a1 : ∀ w', Ext g3 w' → w'.cell? ⟨w.heap.size, 1, none⟩ = some (.string hi) := fun w' h => (Ba.out.ext h).c1
          have a2 : ∀ w', Ext g3 w' → w'.cell? ⟨w.heap.size, 2, none⟩ = some (.bool op) := fun w' h => (Ba.out.ext h).c2
          have b0 : ∀ w', Ext g3 w' → w'.cell? ⟨(w.heap.size + 1), 0, none⟩ = some (.string lo2) := fun w' h => (Bb.out.ext h).c0
          have b1 : ∀ w', Ext g3 w' → w'.cell? ⟨(w.heap.size + 1), 1, none⟩ = some (.string hi2) := fun w' h => (Bb.out.ext h).c1
          have b2 : ∀ w', Ext g3 w' → w'.cell? ⟨(w.heap.size + 1), 2, none⟩ = some (.bool op2) := fun w' h => (Bb.out.ext h).c2
          refine wpGr_call (o := ⟨_, _, _, _, _, _⟩) rfl (by rfl) (fun K hK => ?_)
          go_simp
          refine (refEmp_at _ _ _ EV _ (by omega) HC.out.2.1).mono ?_
          rintro e g4 ⟨rfl, hb⟩
          refine hK _ _ hb ?_
          clear hK K
          clear x0 x1 x2 y0 y1 y2 a0 a1 a2 b0 b1 b2
          replace Hbel := Lib.hid (Hbel.out.trans (hb.mono Hbel.out.size))
          replace Na := Lib.hid (Na.out.ext hb)
          replace Nb := Lib.hid (Nb.out.ext hb)
          replace Ba := Lib.hid (Ba.out.ext hb)
          replace Bb := Lib.hid (Bb.out.ext hb)
          clear hb
          have x0 : ∀ w', Ext g4 w' → w'.cell? ⟨px, 0, none⟩ = some (.string lo) := fun w' h => (Na.out.ext h).c0
          have x1 : ∀ w', Ext g4 w' → w'.cell? ⟨px, 1, none⟩ = some (.string hi) := fun w' h => (Na.out.ext h).c1
          have x2 : ∀ w', Ext g4 w' → w'.cell? ⟨px, 2, none⟩ = some (.bool op) := fun w' h => (Na.out.ext h).c2
          have y0 : ∀ w', Ext g4 w' → w'.cell? ⟨py, 0, none⟩ = some (.string lo2) := fun w' h => (Nb.out.ext h).c0
          have y1 : ∀ w', Ext g4 w' → w'.cell? ⟨py, 1, none⟩ = some (.string hi2) := fun w' h => (Nb.out.ext h).c1
          have y2 : ∀ w', Ext g4 w' → w'.cell? ⟨py, 2, none⟩ = some (.bool op2) := fun w' h => (Nb.out.ext h).c2
          have a0 : ∀ w', Ext g4 w' → w'.cell? ⟨w.heap.size, 0, none⟩ = some (.string lo) := fun w' h => (Ba.out.ext h).c0
          have a1 : ∀ w', Ext g4 w' → w'.cell? ⟨w.heap.size, 1, none⟩ = some (.string hi) := fun w' h => (Ba.out.ext h).c1
          have a2 : ∀ w', Ext g4 w' → w'.cell? ⟨w.heap.size, 2, none⟩ = some (.bool op) := fun w' h => (Ba.out.ext h).c2
          have b0 : ∀ w', Ext g4 w' → w'.cell? ⟨(w.heap.size + 1), 0, none⟩ = some (.string lo2) := fun w' h => (Bb.out.ext h).c0
          have b1 : ∀ w', Ext g4 w' → w'.cell? ⟨(w.heap.size + 1), 1, none⟩ = some (.string hi2) := fun w' h => (Bb.out.ext h).c1
          have b2 : ∀ w', Ext g4 w' → w'.cell? ⟨(w.heap.size + 1), 2, none⟩ = some (.bool op2) := fun w' h => (Bb.out.ext h).c2
          iterate 5 (refine wpGr_read (o := ⟨_, _, _, _, _, _⟩) (v := ?_) rfl (by rfl) ?_ ?_; rotate_left; (intro w' hw'; go_simp; with_reducible rfl); simp only [Act.put, List.setIfInBounds_toArray, List.set_cons_zero, List.set_cons_succ])
          refine wpGr_call (o := ⟨_, _, _, _, _, _⟩) rfl (by rfl) (fun K hK => ?_)
          go_simp
          refine (of_at _ ⟨ol, oh, oo⟩ _ (by omega) HC.out.2.2.1).mono ?_
          rintro e g5 ⟨rfl, hb⟩
          refine hK _ _ hb ?_
          clear hK K
          clear x0 x1 x2 y0 y1 y2 a0 a1 a2 b0 b1 b2
          replace Hbel := Lib.hid (Hbel.out.trans (hb.mono Hbel.out.size))
          replace Na := Lib.hid (Na.out.ext hb)
          replace Nb := Lib.hid (Nb.out.ext hb)
          replace Ba := Lib.hid (Ba.out.ext hb)
          replace Bb := Lib.hid (Bb.out.ext hb)
          clear hb
          have x0 : ∀ w', Ext g5 w' → w'.cell? ⟨px, 0, none⟩ = some (.string lo) := fun w' h => (Na.out.ext h).c0
          have x1 : ∀ w', Ext g5 w' → w'.cell? ⟨px, 1, none⟩ = some (.string hi) := fun w' h => (Na.out.ext h).c1
          have x2 : ∀ w', Ext g5 w' → w'.cell? ⟨px, 2, none⟩ = some (.bool op) := fun w' h => (Na.out.ext h).c2
          have y0 : ∀ w', Ext g5 w' → w'.cell? ⟨py, 0, none⟩ = some (.string lo2) := fun w' h => (Nb.out.ext h).c0
          have y1 : ∀ w', Ext g5 w' → w'.cell? ⟨py, 1, none⟩ = some (.string hi2) := fun w' h => (Nb.out.ext h).c1
          have y2 : ∀ w', Ext g5 w' → w'.cell? ⟨py, 2, none⟩ = some (.bool op2) := fun w' h => (Nb.out.ext h).c2
          have a0 : ∀ w', Ext g5 w' → w'.cell? ⟨w.heap.size, 0, none⟩ = some (.string lo) := fun w' h => (Ba.out.ext h).c0
          have a1 : ∀ w', Ext g5 w' → w'.cell? ⟨w.heap.size, 1, none⟩ = some (.string hi) := fun w' h => (Ba.out.ext h).c1
          have a2 : ∀ w', Ext g5 w' → w'.cell? ⟨w.heap.size, 2, none⟩ = some (.bool op) := fun w' h => (Ba.out.ext h).c2
          have b0 : ∀ w', Ext g5 w' → w'.cell? ⟨(w.heap.size + 1), 0, none⟩ = some (.string lo2) := fun w' h => (Bb.out.ext h).c0
          have b1 : ∀ w', Ext g5 w' → w'.cell? ⟨(w.heap.size + 1), 1, none⟩ = some (.string hi2) := fun w' h => (Bb.out.ext h).c1
          have b2 : ∀ w', Ext g5 w' → w'.cell? ⟨(w.heap.size + 1), 2, none⟩ = some (.bool op2) := fun w' h => (Bb.out.ext h).c2
          dsimp only
          refine wpGr_call (o := ⟨_, _, _, _, _, _⟩) rfl (by rfl) (fun K hK => ?_)
          go_simp
          refine (refOf_at _ ⟨ol, oh, oo⟩ _ (by omega) HC.out.2.2.1).mono ?_
          rintro e g6 ⟨rfl, hb⟩
          refine hK _ _ hb ?_
          clear hK K
          clear x0 x1 x2 y0 y1 y2 a0 a1 a2 b0 b1 b2
          replace Hbel := Lib.hid (Hbel.out.trans (hb.mono Hbel.out.size))
          replace Na := Lib.hid (Na.out.ext hb)
          replace Nb := Lib.hid (Nb.out.ext hb)
          replace Ba := Lib.hid (Ba.out.ext hb)
          replace Bb := Lib.hid (Bb.out.ext hb)
          clear hb
          have x0 : ∀ w', Ext g6 w' → w'.cell? ⟨px, 0, none⟩ = some (.string lo) := fun w' h => (Na.out.ext h).c0
          have x1 : ∀ w', Ext g6 w' → w'.cell? ⟨px, 1, none⟩ = some (.string hi) := fun w' h => (Na.out.ext h).c1
          have x2 : ∀ w', Ext g6 w' → w'.cell? ⟨px, 2, none⟩ = some (.bool op) := fun w' h => (Na.out.ext h).c2
          have y0 : ∀ w', Ext g6 w' → w'.cell? ⟨py, 0, none⟩ = some (.string lo2) := fun w' h => (Nb.out.ext h).c0
          have y1 : ∀ w', Ext g6 w' → w'.cell? ⟨py, 1, none⟩ = some (.string hi2) := fun w' h => (Nb.out.ext h).c1
          have y2 : ∀ w', Ext g6 w' → w'.cell? ⟨py, 2, none⟩ = some (.bool op2) := fun w' h => (Nb.out.ext h).c2
          have a0 : ∀ w', Ext g6 w' → w'.cell? ⟨w.heap.size, 0, none⟩ = some (.string lo) := fun w' h => (Ba.out.ext h).c0
          have a1 : ∀ w', Ext g6 w' → w'.cell? ⟨w.heap.size, 1, none⟩ = some (.string hi) := fun w' h => (Ba.out.ext h).c1
          have a2 : ∀ w', Ext g6 w' → w'.cell? ⟨w.heap.size, 2, none⟩ = some (.bool op) := fun w' h => (Ba.out.ext h).c2
          have b0 : ∀ w', Ext g6 w' → w'.cell? ⟨(w.heap.size + 1), 0, none⟩ = some (.string lo2) := fun w' h => (Bb.out.ext h).c0
          have b1 : ∀ w', Ext g6 w' → w'.cell? ⟨(w.heap.size + 1), 1, none⟩ = some (.string hi2) := fun w' h => (Bb.out.ext h).c1
          have b2 : ∀ w', Ext g6 w' → w'.cell? ⟨(w.heap.size + 1), 2, none⟩ = some (.bool op2) := fun w' h => (Bb.out.ext h).c2
          dsimp only
          iterate 7 (refine wpGr_read (o := ⟨_, _, _, _, _, _⟩) (v := ?_) rfl (by rfl) ?_ ?_; rotate_left; (intro w' hw'; go_simp; with_reducible rfl); simp only [Act.put, List.setIfInBounds_toArray, List.set_cons_zero, List.set_cons_succ])
          refine wpGr_call (o := ⟨_, _, _, _, _, _⟩) rfl (by rfl) (fun K hK => ?_)
          go_simp
          refine (meet_at ⟨lo, hi, op⟩ ⟨lo2, hi2, op2⟩ ⟨ml, mh, mo⟩ _ HC.out.2.2.2.1).mono ?_
          rintro e g7 ⟨rfl, hb⟩
          refine hK _ _ hb ?_
          clear hK K
          clear x0 x1 x2 y0 y1 y2 a0 a1 a2 b0 b1 b2
          replace Hbel := Lib.hid (Hbel.out.trans (hb.mono Hbel.out.size))
          replace Na := Lib.hid (Na.out.ext hb)
          replace Nb := Lib.hid (Nb.out.ext hb)
          replace Ba := Lib.hid (Ba.out.ext hb)
          replace Bb := Lib.hid (Bb.out.ext hb)
          clear hb
          have x0 : ∀ w', Ext g7 w' → w'.cell? ⟨px, 0, none⟩ = some (.string lo) := fun w' h => (Na.out.ext h).c0
          have x1 : ∀ w', Ext g7 w' → w'.cell? ⟨px, 1, none⟩ = some (.string hi) := fun w' h => (Na.out.ext h).c1
          have x2 : ∀ w', Ext g7 w' → w'.cell? ⟨px, 2, none⟩ = some (.bool op) := fun w' h => (Na.out.ext h).c2
          have y0 : ∀ w', Ext g7 w' → w'.cell? ⟨py, 0, none⟩ = some (.string lo2) := fun w' h => (Nb.out.ext h).c0
          have y1 : ∀ w', Ext g7 w' → w'.cell? ⟨py, 1, none⟩ = some (.string hi2) := fun w' h => (Nb.out.ext h).c1
          have y2 : ∀ w', Ext g7 w' → w'.cell? ⟨py, 2, none⟩ = some (.bool op2) := fun w' h => (Nb.out.ext h).c2
          have a0 : ∀ w', Ext g7 w' → w'.cell? ⟨w.heap.size, 0, none⟩ = some (.string lo) := fun w' h => (Ba.out.ext h).c0
          have a1 : ∀ w', Ext g7 w' → w'.cell? ⟨w.heap.size, 1, none⟩ = some (.string hi) := fun w' h => (Ba.out.ext h).c1
          have a2 : ∀ w', Ext g7 w' → w'.cell? ⟨w.heap.size, 2, none⟩ = some (.bool op) := fun w' h => (Ba.out.ext h).c2
          have b0 : ∀ w', Ext g7 w' → w'.cell? ⟨(w.heap.size + 1), 0, none⟩ = some (.string lo2) := fun w' h => (Bb.out.ext h).c0
          have b1 : ∀ w', Ext g7 w' → w'.cell? ⟨(w.heap.size + 1), 1, none⟩ = some (.string hi2) := fun w' h => (Bb.out.ext h).c1
          have b2 : ∀ w', Ext g7 w' → w'.cell? ⟨(w.heap.size + 1), 2, none⟩ = some (.bool op2) := fun w' h => (Bb.out.ext h).c2
          dsimp only
          refine wpGr_call (o := ⟨_, _, _, _, _, _⟩) rfl (by rfl) (fun K hK => ?_)
          go_simp
          refine (refMeet_at ⟨lo, hi, op⟩ ⟨lo2, hi2, op2⟩ ⟨ml, mh, mo⟩ _ (by dsimp only; omega) (by dsimp only; omega) HC.out.2.2.2.1).mono ?_
          rintro e g8 ⟨rfl, hb⟩
          refine hK _ _ hb ?_
          clear hK K
          clear x0 x1 x2 y0 y1 y2 a0 a1 a2 b0 b1 b2
          replace Hbel := Lib.hid (Hbel.out.trans (hb.mono Hbel.out.size))
          replace Na := Lib.hid (Na.out.ext hb)
          replace Nb := Lib.hid (Nb.out.ext hb)
          replace Ba := Lib.hid (Ba.out.ext hb)
          replace Bb := Lib.hid (Bb.out.ext hb)
          clear hb
          have x0 : ∀ w', Ext g8 w' → w'.cell? ⟨px, 0, none⟩ = some (.string lo) := fun w' h => (Na.out.ext h).c0
          have x1 : ∀ w', Ext g8 w' → w'.cell? ⟨px, 1, none⟩ = some (.string hi) := fun w' h => (Na.out.ext h).c1
          have x2 : ∀ w', Ext g8 w' → w'.cell? ⟨px, 2, none⟩ = some (.bool op) := fun w' h => (Na.out.ext h).c2
          have y0 : ∀ w', Ext g8 w' → w'.cell? ⟨py, 0, none⟩ = some (.string lo2) := fun w' h => (Nb.out.ext h).c0
          have y1 : ∀ w', Ext g8 w' → w'.cell? ⟨py, 1, none⟩ = some (.string hi2) := fun w' h => (Nb.out.ext h).c1
          have y2 : ∀ w', Ext g8 w' → w'.cell? ⟨py, 2, none⟩ = some (.bool op2) := fun w' h => (Nb.out.ext h).c2
          have a0 : ∀ w', Ext g8 w' → w'.cell? ⟨w.heap.size, 0, none⟩ = some (.string lo) := fun w' h => (Ba.out.ext h).c0
          have a1 : ∀ w', Ext g8 w' → w'.cell? ⟨w.heap.size, 1, none⟩ = some (.string hi) := fun w' h => (Ba.out.ext h).c1
          have a2 : ∀ w', Ext g8 w' → w'.cell? ⟨w.heap.size, 2, none⟩ = some (.bool op) := fun w' h => (Ba.out.ext h).c2
          have b0 : ∀ w', Ext g8 w' → w'.cell? ⟨(w.heap.size + 1), 0, none⟩ = some (.string lo2) := fun w' h => (Bb.out.ext h).c0
          have b1 : ∀ w', Ext g8 w' → w'.cell? ⟨(w.heap.size + 1), 1, none⟩ = some (.string hi2) := fun w' h => (Bb.out.ext h).c1
          have b2 : ∀ w', Ext g8 w' → w'.cell? ⟨(w.heap.size + 1), 2, none⟩ = some (.bool op2) := fun w' h => (Bb.out.ext h).c2
          dsimp only
          iterate 7 (refine wpGr_read (o := ⟨_, _, _, _, _, _⟩) (v := ?_) rfl (by rfl) ?_ ?_; rotate_left; (intro w' hw'; go_simp; with_reducible rfl); simp only [Act.put, List.setIfInBounds_toArray, List.set_cons_zero, List.set_cons_succ])
          refine wpGr_call (o := ⟨_, _, _, _, _, _⟩) rfl (by rfl) (fun K hK => ?_)
          go_simp
          refine (with_at ⟨lo, hi, op⟩ ⟨lo2, hi2, op2⟩ WV _ HC.out.2.2.2.2.1).mono ?_
          rintro e g9 ⟨rfl, hb⟩
          refine hK _ _ hb ?_
          clear hK K
          clear x0 x1 x2 y0 y1 y2 a0 a1 a2 b0 b1 b2
          replace Hbel := Lib.hid (Hbel.out.trans (hb.mono Hbel.out.size))
          replace Na := Lib.hid (Na.out.ext hb)
          replace Nb := Lib.hid (Nb.out.ext hb)
          replace Ba := Lib.hid (Ba.out.ext hb)
          replace Bb := Lib.hid (Bb.out.ext hb)
          clear hb
          have x0 : ∀ w', Ext g9 w' → w'.cell? ⟨px, 0, none⟩ = some (.string lo) := fun w' h => (Na.out.ext h).c0
          have x1 : ∀ w', Ext g9 w' → w'.cell? ⟨px, 1, none⟩ = some (.string hi) := fun w' h => (Na.out.ext h).c1
          have x2 : ∀ w', Ext g9 w' → w'.cell? ⟨px, 2, none⟩ = some (.bool op) := fun w' h => (Na.out.ext h).c2
          have y0 : ∀ w', Ext g9 w' → w'.cell? ⟨py, 0, none⟩ = some (.string lo2) := fun w' h => (Nb.out.ext h).c0
          have y1 : ∀ w', Ext g9 w' → w'.cell? ⟨py, 1, none⟩ = some (.string hi2) := fun w' h => (Nb.out.ext h).c1
          have y2 : ∀ w', Ext g9 w' → w'.cell? ⟨py, 2, none⟩ = some (.bool op2) := fun w' h => (Nb.out.ext h).c2
          have a0 : ∀ w', Ext g9 w' → w'.cell? ⟨w.heap.size, 0, none⟩ = some (.string lo) := fun w' h => (Ba.out.ext h).c0
          have a1 : ∀ w', Ext g9 w' → w'.cell? ⟨w.heap.size, 1, none⟩ = some (.string hi) := fun w' h => (Ba.out.ext h).c1
          have a2 : ∀ w', Ext g9 w' → w'.cell? ⟨w.heap.size, 2, none⟩ = some (.bool op) := fun w' h => (Ba.out.ext h).c2
          have b0 : ∀ w', Ext g9 w' → w'.cell? ⟨(w.heap.size + 1), 0, none⟩ = some (.string lo2) := fun w' h => (Bb.out.ext h).c0
          have b1 : ∀ w', Ext g9 w' → w'.cell? ⟨(w.heap.size + 1), 1, none⟩ = some (.string hi2) := fun w' h => (Bb.out.ext h).c1
          have b2 : ∀ w', Ext g9 w' → w'.cell? ⟨(w.heap.size + 1), 2, none⟩ = some (.bool op2) := fun w' h => (Bb.out.ext h).c2
          refine wpGr_call (o := ⟨_, _, _, _, _, _⟩) rfl (by rfl) (fun K hK => ?_)
          go_simp
          refine (refWith_at ⟨lo, hi, op⟩ ⟨lo2, hi2, op2⟩ WV _ (by dsimp only; omega) (by dsimp only; omega) (by dsimp only; omega) HC.out.2.2.2.2.1).mono ?_
          rintro e g10 ⟨rfl, hb⟩
          refine hK _ _ hb ?_
          clear hK K
          clear x0 x1 x2 y0 y1 y2 a0 a1 a2 b0 b1 b2
          replace Hbel := Lib.hid (Hbel.out.trans (hb.mono Hbel.out.size))
          replace Na := Lib.hid (Na.out.ext hb)
          replace Nb := Lib.hid (Nb.out.ext hb)
          replace Ba := Lib.hid (Ba.out.ext hb)
          replace Bb := Lib.hid (Bb.out.ext hb)
          clear hb
          have x0 : ∀ w', Ext g10 w' → w'.cell? ⟨px, 0, none⟩ = some (.string lo) := fun w' h => (Na.out.ext h).c0
          have x1 : ∀ w', Ext g10 w' → w'.cell? ⟨px, 1, none⟩ = some (.string hi) := fun w' h => (Na.out.ext h).c1
          have x2 : ∀ w', Ext g10 w' → w'.cell? ⟨px, 2, none⟩ = some (.bool op) := fun w' h => (Na.out.ext h).c2
          have y0 : ∀ w', Ext g10 w' → w'.cell? ⟨py, 0, none⟩ = some (.string lo2) := fun w' h => (Nb.out.ext h).c0
          have y1 : ∀ w', Ext g10 w' → w'.cell? ⟨py, 1, none⟩ = some (.string hi2) := fun w' h => (Nb.out.ext h).c1
          have y2 : ∀ w', Ext g10 w' → w'.cell? ⟨py, 2, none⟩ = some (.bool op2) := fun w' h => (Nb.out.ext h).c2
          have a0 : ∀ w', Ext g10 w' → w'.cell? ⟨w.heap.size, 0, none⟩ = some (.string lo) := fun w' h => (Ba.out.ext h).c0
          have a1 : ∀ w', Ext g10 w' → w'.cell? ⟨w.heap.size, 1, none⟩ = some (.string hi) := fun w' h => (Ba.out.ext h).c1
          have a2 : ∀ w', Ext g10 w' → w'.cell? ⟨w.heap.size, 2, none⟩ = some (.bool op) := fun w' h => (Ba.out.ext h).c2
          have b0 : ∀ w', Ext g10 w' → w'.cell? ⟨(w.heap.size + 1), 0, none⟩ = some (.string lo2) := fun w' h => (Bb.out.ext h).c0
          have b1 : ∀ w', Ext g10 w' → w'.cell? ⟨(w.heap.size + 1), 1, none⟩ = some (.string hi2) := fun w' h => (Bb.out.ext h).c1
          have b2 : ∀ w', Ext g10 w' → w'.cell? ⟨(w.heap.size + 1), 2, none⟩ = some (.bool op2) := fun w' h => (Bb.out.ext h).c2
          have n1 : ¬ (9223372036854775807 < key.size + 1) := by omega
          have n2 : key ++ ⟨#[0]⟩ = NV := HC.out.2.2.2.2.2
          iterate 6 (refine wpGr_read (o := ⟨_, _, _, _, _, _⟩) (v := ?_) rfl (by rfl) ?_ ?_; rotate_left; (intro w' hw'; go_simp; with_reducible rfl); simp only [Act.put, List.setIfInBounds_toArray, List.set_cons_zero, List.set_cons_succ])
          refine wpGr_call (o := ⟨_, _, _, _, _, _⟩) rfl (by rfl) (fun K hK => ?_)
          go_simp
          refine (next_at _ NV _ (by omega) HC.out.2.2.2.2.2).mono ?_
          rintro e w' ⟨rfl, rfl⟩
          refine hK _ _ (Ext.refl _) ?_
          clear hK K
          iterate 3 (refine wpGr_read (o := ⟨_, _, _, _, _, _⟩) (v := ?_) rfl (by rfl) ?_ ?_; rotate_left; (intro w' hw'; go_simp; with_reducible rfl); simp only [Act.put, List.setIfInBounds_toArray, List.set_cons_zero, List.set_cons_succ])
          refine wpGr_call (o := ⟨_, _, _, _, _, _⟩) rfl (by rfl) (fun K hK => ?_)
          go_simp
          refine (sure_any _ (HG.out.below Hbel.out)).mono ?_
          rintro e g11 ⟨rfl, hb⟩
          refine hK _ _ hb ?_
          clear hK K
          clear x0 x1 x2 y0 y1 y2 a0 a1 a2 b0 b1 b2
          replace Hbel := Lib.hid (Hbel.out.trans (hb.mono Hbel.out.size))
          replace Na := Lib.hid (Na.out.ext hb)
          replace Nb := Lib.hid (Nb.out.ext hb)
          replace Ba := Lib.hid (Ba.out.ext hb)
          replace Bb := Lib.hid (Bb.out.ext hb)
          clear hb
          have x0 : ∀ w', Ext g11 w' → w'.cell? ⟨px, 0, none⟩ = some (.string lo) := fun w' h => (Na.out.ext h).c0
          have x1 : ∀ w', Ext g11 w' → w'.cell? ⟨px, 1, none⟩ = some (.string hi) := fun w' h => (Na.out.ext h).c1
          have x2 : ∀ w', Ext g11 w' → w'.cell? ⟨px, 2, none⟩ = some (.bool op) := fun w' h => (Na.out.ext h).c2
          have y0 : ∀ w', Ext g11 w' → w'.cell? ⟨py, 0, none⟩ = some (.string lo2) := fun w' h => (Nb.out.ext h).c0
          have y1 : ∀ w', Ext g11 w' → w'.cell? ⟨py, 1, none⟩ = some (.string hi2) := fun w' h => (Nb.out.ext h).c1
          have y2 : ∀ w', Ext g11 w' → w'.cell? ⟨py, 2, none⟩ = some (.bool op2) := fun w' h => (Nb.out.ext h).c2
          have a0 : ∀ w', Ext g11 w' → w'.cell? ⟨w.heap.size, 0, none⟩ = some (.string lo) := fun w' h => (Ba.out.ext h).c0
          have a1 : ∀ w', Ext g11 w' → w'.cell? ⟨w.heap.size, 1, none⟩ = some (.string hi) := fun w' h => (Ba.out.ext h).c1
          have a2 : ∀ w', Ext g11 w' → w'.cell? ⟨w.heap.size, 2, none⟩ = some (.bool op) := fun w' h => (Ba.out.ext h).c2
          have b0 : ∀ w', Ext g11 w' → w'.cell? ⟨(w.heap.size + 1), 0, none⟩ = some (.string lo2) := fun w' h => (Bb.out.ext h).c0
          have b1 : ∀ w', Ext g11 w' → w'.cell? ⟨(w.heap.size + 1), 1, none⟩ = some (.string hi2) := fun w' h => (Bb.out.ext h).c1
          have b2 : ∀ w', Ext g11 w' → w'.cell? ⟨(w.heap.size + 1), 2, none⟩ = some (.bool op2) := fun w' h => (Bb.out.ext h).c2
          iterate 2 (refine wpGr_read (o := ⟨_, _, _, _, _, _⟩) (v := ?_) rfl (by rfl) ?_ ?_; rotate_left; (intro w' hw'; go_simp; with_reducible rfl); simp only [Act.put, List.setIfInBounds_toArray, List.set_cons_zero, List.set_cons_succ])
          clear x0 x1 x2 y0 y1 y2 a0 a1 a2 b0 b1 b2
          refine wpGr_done ?_
          go_wp2_with fail
          go_ret
          exact ⟨rfl, Hbel.out⟩
end Go.Proofs.YtblebkgobhlonaaDoor
