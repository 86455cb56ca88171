/-
  KeysInside: the law's walk.
-/
import Derived.Test.YtblebkgobhlonaaDoorKeysReg
namespace Go.Proofs.YtblebkgobhlonaaDoor
open Go Go.RowKit

theorem boxes3_new (w : World) (a b c : Sp) :
    SpIn (((w.alloc (.cells #[.string a.lo, .string a.hi, .bool a.op] RSP)).alloc (.cells #[.string b.lo, .string b.hi, .bool b.op] RSP)).alloc (.cells #[.string c.lo, .string c.hi, .bool c.op] RSP)) w.heap.size RSP a ∧ SpIn (((w.alloc (.cells #[.string a.lo, .string a.hi, .bool a.op] RSP)).alloc (.cells #[.string b.lo, .string b.hi, .bool b.op] RSP)).alloc (.cells #[.string c.lo, .string c.hi, .bool c.op] RSP)) (w.heap.size + 1) RSP b ∧ SpIn (((w.alloc (.cells #[.string a.lo, .string a.hi, .bool a.op] RSP)).alloc (.cells #[.string b.lo, .string b.hi, .bool b.op] RSP)).alloc (.cells #[.string c.lo, .string c.hi, .bool c.op] RSP)) (w.heap.size + 1 + 1) RSP c ∧ Below w.heap.size w (((w.alloc (.cells #[.string a.lo, .string a.hi, .bool a.op] RSP)).alloc (.cells #[.string b.lo, .string b.hi, .bool b.op] RSP)).alloc (.cells #[.string c.lo, .string c.hi, .bool c.op] RSP)) := by
  have h2 := two_spans w RSP a b
  have hb2 := two_below w (.cells #[.string a.lo, .string a.hi, .bool a.op] RSP) (.cells #[.string b.lo, .string b.hi, .bool b.op] RSP)
  refine ⟨h2.1.stay _, h2.2.stay _, ?_, hb2.alloc hb2.size _⟩
  have := SpIn.new ((w.alloc (.cells #[.string a.lo, .string a.hi, .bool a.op] RSP)).alloc (.cells #[.string b.lo, .string b.hi, .bool b.op] RSP)) RSP c
  rw [show ((w.alloc (.cells #[.string a.lo, .string a.hi, .bool a.op] RSP)).alloc (.cells #[.string b.lo, .string b.hi, .bool b.op] RSP)).heap.size = w.heap.size + 1 + 1 by simp] at this
  exact this
theorem with_emp_of {a b : Sp} (h : withS a b = false) : empS a = false := by
  cases he : empS a with
  | false => rfl
  | true => rw [with_emp a b he] at h; cases h
set_option maxRecDepth 100000 in
set_option maxHeartbeats 4000000 in
theorem inside_any (lo hi lo2 hi2 lo3 hi3 : ByteArray) (op op2 op3 : Bool) (w : World) (hg : Hg w) :
    Calls Tryd.prog 5 #[.agg #[.string lo, .string hi, .bool op], .agg #[.string lo2, .string hi2, .bool op2], .agg #[.string lo3, .string hi3, .bool op3]] w fun e w' => e = .returned (.bool true) ∧ Below w.heap.size w w' := by
  have HG := Lib.hid hg
  clear hg
  have H2 := Lib.hid (boxes3_new w ⟨lo, hi, op⟩ ⟨lo2, hi2, op2⟩ ⟨lo3, hi3, op3⟩)
  go_enter Tryd.func5, Tryd.ntmps5
  go_wp2_with fail
  cases hV : longS [lo, hi, lo2, hi2, lo3, hi3] with
  | true =>
    refine (long_new _ _ _ _ _ _ [lo, hi, lo2, hi2, lo3, hi3] true (by simp) rfl rfl (by simp) hV).mono ?_
    rintro e w1 ⟨rfl, hb3⟩
    have Hb3 := Lib.hid (H2.out.2.2.2.trans (hb3.mono H2.out.2.2.2.size))
    clear hb3 H2 hV
    go_wp2_with fail
    refine (sure_any _ (HG.out.below Hb3.out)).mono ?_
    rintro e w2 ⟨rfl, hb⟩
    have Hb4 := Lib.hid (Hb3.out.trans (hb.mono Hb3.out.size))
    clear hb Hb3
    go_wp2_with fail
    go_ret
    exact ⟨rfl, Hb4.out⟩
  | false =>
    refine (long_new _ _ _ _ _ _ [lo, hi, lo2, hi2, lo3, hi3] false (by simp) rfl rfl (by simp) hV).mono ?_
    rintro e w1 ⟨rfl, hb3⟩
    have hs3 := H2.out
    have Hs := Lib.hid (And.intro (hs3.1.ext hb3) (And.intro (hs3.2.1.ext hb3) (And.intro (hs3.2.2.1.ext hb3) (hs3.2.2.2.trans (hb3.mono hs3.2.2.2.size)))))
    clear hb3 hs3 hV H2
    go_wp2_with fail
    obtain ⟨G, hG⟩ : ∃ G, G = w1.heap.size := ⟨_, rfl⟩
    have LG := Lib.hid hG
    clear hG
    refine wp_region_gs (F := fun i => G ≤ i) (.rd 0 (.rd 1 (.rd 2 (.three 3 (.two 4 (.call 5 (.call 6 (.call 7 (.call 8 .done)))) 5 (.call 4 (.call 6 (.call 7 (.call 8 .done))))) 4 (.two 3 (.call 5 (.call 6 (.call 7 (.call 8 .done)))) 5 (.call 3 (.call 6 (.call 7 (.call 8 .done))))) 5 (.two 3 (.call 4 (.call 6 (.call 7 (.call 8 .done)))) 4 (.call 3 (.call 6 (.call 7 (.call 8 .done))))))))) (by kernel_rfl) (by kernel_rfl) (by kernel_rfl) (by kernel_rfl) (fun _ _ _ _ _ h => h) ?_
    have ta : ∀ w', Turn (fun i => G ≤ i) w1.drew w' → SpIn w' w.heap.size RSP ⟨lo, hi, op⟩ := fun w' t => t.hg Hs.out.1 (by have := Hs.out.1.lt; have := LG.out; omega)
    have tb : ∀ w', Turn (fun i => G ≤ i) w1.drew w' → SpIn w' (w.heap.size + 1) RSP ⟨lo2, hi2, op2⟩ := fun w' t => t.hg Hs.out.2.1 (by have := Hs.out.2.1.lt; have := LG.out; omega)
    have tc : ∀ w', Turn (fun i => G ≤ i) w1.drew w' → SpIn w' (w.heap.size + 1 + 1) RSP ⟨lo3, hi3, op3⟩ := fun w' t => t.hg Hs.out.2.2.1 (by have := Hs.out.2.2.1.lt; have := LG.out; omega)
    have Ht := Lib.hid (And.intro ta (And.intro tb tc))
    have a0 := fun w' t => (ta w' t).c0
    have a1 := fun w' t => (ta w' t).c1
    have a2 := fun w' t => (ta w' t).c2
    have b0 := fun w' t => (tb w' t).c0
    have b1 := fun w' t => (tb w' t).c1
    have b2 := fun w' t => (tb w' t).c2
    have c0 := fun w' t => (tc w' t).c0
    have c1 := fun w' t => (tc w' t).c1
    have c2 := fun w' t => (tc w' t).c2
    dsimp only at a0 a1 a2 b0 b1 b2 c0 c1 c2
    clear ta tb tc
    iterate 3 (refine wpGs_read (o := ⟨_, _, _, _, _, _⟩) (v := ?_) rfl (by rfl) ?_ ?_; rotate_left; (intro w' hw'; go_simp; with_reducible rfl); simp only [Act.put, List.setIfInBounds_toArray, List.set_cons_zero, List.set_cons_succ])
    clear a0 a1 a2 b0 b1 b2 c0 c1 c2
    apply share
    case h =>
      intro share_k
      have T0 : Hid (Turn (fun i => G ≤ i) w1.drew w1.drew) := Turn.refl _ _
      refine ⟨?_, ?_, ?_⟩
      · refine stepS_call (o := ⟨_, _, _, _, _, _⟩) rfl (by rfl) (fun K hK => ?_)
        go_simp
        refine hK _ _ ((Turn.refl _ _).alloc _) ?_
        clear hK K
        obtain ⟨r1, hr1⟩ : ∃ r1, r1 = (w1.alloc (.cells #[.string ⟨#[]⟩, .string ⟨#[]⟩, .bool false] SPT)).drew := ⟨_, rfl⟩
        have Na : Hid (SpIn r1 w1.heap.size SPT Z0) := by rw [hr1]; exact SpIn.new _ SPT Z0
        have T1 : Hid (Turn (fun i => G ≤ i) w1.drew r1) := by rw [hr1]; exact T0.out.alloc _
        have E1 : Hid (G ≤ w1.heap.size) := Nat.le_of_eq LG.out
        rw [← hr1]
        clear hr1 T0
        obtain ⟨px, hpx⟩ : ∃ p, p = w1.heap.size := ⟨_, rfl⟩
        rw [← hpx] at Na E1 ⊢
        have Px : Hid (G ≤ px) := E1.out
        clear hpx E1
        have Lx : Hid (px < r1.heap.size) := Na.out.lt
        refine ⟨?_, ?_⟩
        · refine stepS_call (o := ⟨_, _, _, _, _, _⟩) rfl (by rfl) (fun K hK => ?_)
          go_simp
          refine hK _ _ ((Turn.refl _ _).alloc _) ?_
          clear hK K
          obtain ⟨r2, hr2⟩ : ∃ r2, r2 = (r1.alloc (.cells #[.string ⟨#[]⟩, .string ⟨#[]⟩, .bool false] SPT)) := ⟨_, rfl⟩
          have Nb : Hid (SpIn r2 r1.heap.size SPT Z0) := by rw [hr2]; exact SpIn.new _ SPT Z0
          replace Na : Hid (SpIn r2 px SPT Z0) := by rw [hr2]; exact Na.out.stay _
          have T2 : Hid (Turn (fun i => G ≤ i) w1.drew r2) := by rw [hr2]; exact T1.out.alloc _
          have E2 : Hid (G ≤ r1.heap.size) := Nat.le_trans (Nat.le_of_eq LG.out) T1.out.size
          rw [← hr2]
          clear hr2 T1
          obtain ⟨py, hpy⟩ : ∃ p, p = r1.heap.size := ⟨_, rfl⟩
          rw [← hpy] at Nb E2 ⊢
          have Py : Hid (G ≤ py) := E2.out
          have Dxy : Hid (px ≠ py) := by have h := Lx.out; rw [← hpy] at h; exact Nat.ne_of_lt h
          clear hpy E2 Lx
          have Lx : Hid (px < r2.heap.size) := Na.out.lt
          have Ly : Hid (py < r2.heap.size) := Nb.out.lt
          refine stepS_call (o := ⟨_, _, _, _, _, _⟩) rfl (by rfl) (fun K hK => ?_)
          go_simp
          refine hK _ _ ((Turn.refl _ _).alloc _) ?_
          clear hK K
          obtain ⟨r3, hr3⟩ : ∃ r3, r3 = (r2.alloc (.cells #[.string ⟨#[]⟩, .string ⟨#[]⟩, .bool false] SPT)) := ⟨_, rfl⟩
          have Nc : Hid (SpIn r3 r2.heap.size SPT Z0) := by rw [hr3]; exact SpIn.new _ SPT Z0
          replace Na : Hid (SpIn r3 px SPT Z0) := by rw [hr3]; exact Na.out.stay _
          replace Nb : Hid (SpIn r3 py SPT Z0) := by rw [hr3]; exact Nb.out.stay _
          have T3 : Hid (Turn (fun i => G ≤ i) w1.drew r3) := by rw [hr3]; exact T2.out.alloc _
          have E3 : Hid (G ≤ r2.heap.size) := Nat.le_trans (Nat.le_of_eq LG.out) T2.out.size
          rw [← hr3]
          clear hr3 T2
          obtain ⟨pz, hpz⟩ : ∃ p, p = r2.heap.size := ⟨_, rfl⟩
          rw [← hpz] at Nc E3 ⊢
          have Pz : Hid (G ≤ pz) := E3.out
          have Dxz : Hid (px ≠ pz) := by have h := Lx.out; rw [← hpz] at h; exact Nat.ne_of_lt h
          have Dyz : Hid (py ≠ pz) := by have h := Ly.out; rw [← hpz] at h; exact Nat.ne_of_lt h
          clear hpz E3 Lx Ly
          have Lx : Hid (px < r3.heap.size) := Na.out.lt
          have Ly : Hid (py < r3.heap.size) := Nb.out.lt
          have Lz : Hid (pz < r3.heap.size) := Nc.out.lt
          clear Lx Ly Lz
          have c0 := Na.out.c0
          have c1 := Na.out.c1
          have c2 := Na.out.c2
          have fz := Na.out.fz
          unfold Z0 at c0 c1 c2
          dsimp only at c0 c1 c2
          refine stepS_call (o := ⟨_, _, _, _, _, _⟩) rfl (by rfl) (fun K hK => ?_)
          go_simp
          clear c0 c1 c2 fz
          refine hK _ _ (filled_turn (s := ⟨lo, hi, op⟩) (Turn.refl _ _) Px.out) ?_
          clear hK K
          obtain ⟨r4, hr4⟩ : ∃ r4, r4 = filled r3 px ⟨lo, hi, op⟩ := ⟨_, rfl⟩
          unfold filled at hr4
          dsimp only at hr4
          rw [← hr4]
          replace Na : Hid (SpIn r4 px SPT ⟨lo, hi, op⟩) := by rw [hr4]; exact Na.out.filled ⟨lo, hi, op⟩
          replace Nb : Hid (SpIn r4 py SPT Z0) := by rw [hr4]; exact Nb.out.filledOther (s2 := ⟨lo, hi, op⟩) Dxy.out
          replace Nc : Hid (SpIn r4 pz SPT Z0) := by rw [hr4]; exact Nc.out.filledOther (s2 := ⟨lo, hi, op⟩) Dxz.out
          have T4 : Hid (Turn (fun i => G ≤ i) w1.drew r4) := by rw [hr4]; exact filled_turn (s := ⟨lo, hi, op⟩) T3.out Px.out
          clear hr4 T3
          have c0 := Nb.out.c0
          have c1 := Nb.out.c1
          have c2 := Nb.out.c2
          have fz := Nb.out.fz
          unfold Z0 at c0 c1 c2
          dsimp only at c0 c1 c2
          refine stepS_call (o := ⟨_, _, _, _, _, _⟩) rfl (by rfl) (fun K hK => ?_)
          go_simp
          clear c0 c1 c2 fz
          refine hK _ _ (filled_turn (s := ⟨lo2, hi2, op2⟩) (Turn.refl _ _) Py.out) ?_
          clear hK K
          obtain ⟨r5, hr5⟩ : ∃ r5, r5 = filled r4 py ⟨lo2, hi2, op2⟩ := ⟨_, rfl⟩
          unfold filled at hr5
          dsimp only at hr5
          rw [← hr5]
          replace Nb : Hid (SpIn r5 py SPT ⟨lo2, hi2, op2⟩) := by rw [hr5]; exact Nb.out.filled ⟨lo2, hi2, op2⟩
          replace Na : Hid (SpIn r5 px SPT ⟨lo, hi, op⟩) := by rw [hr5]; exact Na.out.filledOther (s2 := ⟨lo2, hi2, op2⟩) (Ne.symm Dxy.out)
          replace Nc : Hid (SpIn r5 pz SPT Z0) := by rw [hr5]; exact Nc.out.filledOther (s2 := ⟨lo2, hi2, op2⟩) Dyz.out
          have T5 : Hid (Turn (fun i => G ≤ i) w1.drew r5) := by rw [hr5]; exact filled_turn (s := ⟨lo2, hi2, op2⟩) T4.out Py.out
          clear hr5 T4
          have c0 := Nc.out.c0
          have c1 := Nc.out.c1
          have c2 := Nc.out.c2
          have fz := Nc.out.fz
          unfold Z0 at c0 c1 c2
          dsimp only at c0 c1 c2
          refine stepS_call (o := ⟨_, _, _, _, _, _⟩) rfl (by rfl) (fun K hK => ?_)
          go_simp
          clear c0 c1 c2 fz
          refine hK _ _ (filled_turn (s := ⟨lo3, hi3, op3⟩) (Turn.refl _ _) Pz.out) ?_
          clear hK K
          obtain ⟨r6, hr6⟩ : ∃ r6, r6 = filled r5 pz ⟨lo3, hi3, op3⟩ := ⟨_, rfl⟩
          unfold filled at hr6
          dsimp only at hr6
          rw [← hr6]
          replace Nc : Hid (SpIn r6 pz SPT ⟨lo3, hi3, op3⟩) := by rw [hr6]; exact Nc.out.filled ⟨lo3, hi3, op3⟩
          replace Na : Hid (SpIn r6 px SPT ⟨lo, hi, op⟩) := by rw [hr6]; exact Na.out.filledOther (s2 := ⟨lo3, hi3, op3⟩) (Ne.symm Dxz.out)
          replace Nb : Hid (SpIn r6 py SPT ⟨lo2, hi2, op2⟩) := by rw [hr6]; exact Nb.out.filledOther (s2 := ⟨lo3, hi3, op3⟩) (Ne.symm Dyz.out)
          have T6 : Hid (Turn (fun i => G ≤ i) w1.drew r6) := by rw [hr6]; exact filled_turn (s := ⟨lo3, hi3, op3⟩) T5.out Pz.out
          clear hr6 T5
          have Ba := Lib.hid (Ht.out.1 r6 T6.out)
          have Bb := Lib.hid (Ht.out.2.1 r6 T6.out)
          have Bc := Lib.hid (Ht.out.2.2 r6 T6.out)
          have Hbel : Hid (Below w.heap.size w r6) := Hs.out.2.2.2.drew.trans ((T6.out.below (B := G) (Nat.le_of_eq LG.out) (fun i h => h)).mono (by rw [LG.out]; exact Hs.out.2.2.2.size))
          clear T6 Px Py Pz Dxy Dxz Dyz
          generalize r6 = v0 at *
          refine wpGs_done ?_
          revert Hbel
          revert Bc
          revert Bb
          revert Ba
          revert Nc
          revert Nb
          revert Na
          revert v0
          revert pz
          revert py
          revert px
          exact share_k
        · refine stepS_call (o := ⟨_, _, _, _, _, _⟩) rfl (by rfl) (fun K hK => ?_)
          go_simp
          refine hK _ _ ((Turn.refl _ _).alloc _) ?_
          clear hK K
          obtain ⟨r2, hr2⟩ : ∃ r2, r2 = (r1.alloc (.cells #[.string ⟨#[]⟩, .string ⟨#[]⟩, .bool false] SPT)) := ⟨_, rfl⟩
          have Nc : Hid (SpIn r2 r1.heap.size SPT Z0) := by rw [hr2]; exact SpIn.new _ SPT Z0
          replace Na : Hid (SpIn r2 px SPT Z0) := by rw [hr2]; exact Na.out.stay _
          have T2 : Hid (Turn (fun i => G ≤ i) w1.drew r2) := by rw [hr2]; exact T1.out.alloc _
          have E2 : Hid (G ≤ r1.heap.size) := Nat.le_trans (Nat.le_of_eq LG.out) T1.out.size
          rw [← hr2]
          clear hr2 T1
          obtain ⟨pz, hpz⟩ : ∃ p, p = r1.heap.size := ⟨_, rfl⟩
          rw [← hpz] at Nc E2 ⊢
          have Pz : Hid (G ≤ pz) := E2.out
          have Dxz : Hid (px ≠ pz) := by have h := Lx.out; rw [← hpz] at h; exact Nat.ne_of_lt h
          clear hpz E2 Lx
          have Lx : Hid (px < r2.heap.size) := Na.out.lt
          have Lz : Hid (pz < r2.heap.size) := Nc.out.lt
          refine stepS_call (o := ⟨_, _, _, _, _, _⟩) rfl (by rfl) (fun K hK => ?_)
          go_simp
          refine hK _ _ ((Turn.refl _ _).alloc _) ?_
          clear hK K
          obtain ⟨r3, hr3⟩ : ∃ r3, r3 = (r2.alloc (.cells #[.string ⟨#[]⟩, .string ⟨#[]⟩, .bool false] SPT)) := ⟨_, rfl⟩
          have Nb : Hid (SpIn r3 r2.heap.size SPT Z0) := by rw [hr3]; exact SpIn.new _ SPT Z0
          replace Na : Hid (SpIn r3 px SPT Z0) := by rw [hr3]; exact Na.out.stay _
          replace Nc : Hid (SpIn r3 pz SPT Z0) := by rw [hr3]; exact Nc.out.stay _
          have T3 : Hid (Turn (fun i => G ≤ i) w1.drew r3) := by rw [hr3]; exact T2.out.alloc _
          have E3 : Hid (G ≤ r2.heap.size) := Nat.le_trans (Nat.le_of_eq LG.out) T2.out.size
          rw [← hr3]
          clear hr3 T2
          obtain ⟨py, hpy⟩ : ∃ p, p = r2.heap.size := ⟨_, rfl⟩
          rw [← hpy] at Nb E3 ⊢
          have Py : Hid (G ≤ py) := E3.out
          have Dxy : Hid (px ≠ py) := by have h := Lx.out; rw [← hpy] at h; exact Nat.ne_of_lt h
          have Dzy : Hid (pz ≠ py) := by have h := Lz.out; rw [← hpy] at h; exact Nat.ne_of_lt h
          clear hpy E3 Lx Lz
          have Lx : Hid (px < r3.heap.size) := Na.out.lt
          have Lz : Hid (pz < r3.heap.size) := Nc.out.lt
          have Ly : Hid (py < r3.heap.size) := Nb.out.lt
          clear Lx Lz Ly
          have c0 := Na.out.c0
          have c1 := Na.out.c1
          have c2 := Na.out.c2
          have fz := Na.out.fz
          unfold Z0 at c0 c1 c2
          dsimp only at c0 c1 c2
          refine stepS_call (o := ⟨_, _, _, _, _, _⟩) rfl (by rfl) (fun K hK => ?_)
          go_simp
          clear c0 c1 c2 fz
          refine hK _ _ (filled_turn (s := ⟨lo, hi, op⟩) (Turn.refl _ _) Px.out) ?_
          clear hK K
          obtain ⟨r4, hr4⟩ : ∃ r4, r4 = filled r3 px ⟨lo, hi, op⟩ := ⟨_, rfl⟩
          unfold filled at hr4
          dsimp only at hr4
          rw [← hr4]
          replace Na : Hid (SpIn r4 px SPT ⟨lo, hi, op⟩) := by rw [hr4]; exact Na.out.filled ⟨lo, hi, op⟩
          replace Nb : Hid (SpIn r4 py SPT Z0) := by rw [hr4]; exact Nb.out.filledOther (s2 := ⟨lo, hi, op⟩) Dxy.out
          replace Nc : Hid (SpIn r4 pz SPT Z0) := by rw [hr4]; exact Nc.out.filledOther (s2 := ⟨lo, hi, op⟩) Dxz.out
          have T4 : Hid (Turn (fun i => G ≤ i) w1.drew r4) := by rw [hr4]; exact filled_turn (s := ⟨lo, hi, op⟩) T3.out Px.out
          clear hr4 T3
          have c0 := Nb.out.c0
          have c1 := Nb.out.c1
          have c2 := Nb.out.c2
          have fz := Nb.out.fz
          unfold Z0 at c0 c1 c2
          dsimp only at c0 c1 c2
          refine stepS_call (o := ⟨_, _, _, _, _, _⟩) rfl (by rfl) (fun K hK => ?_)
          go_simp
          clear c0 c1 c2 fz
          refine hK _ _ (filled_turn (s := ⟨lo2, hi2, op2⟩) (Turn.refl _ _) Py.out) ?_
          clear hK K
          obtain ⟨r5, hr5⟩ : ∃ r5, r5 = filled r4 py ⟨lo2, hi2, op2⟩ := ⟨_, rfl⟩
          unfold filled at hr5
          dsimp only at hr5
          rw [← hr5]
          replace Nb : Hid (SpIn r5 py SPT ⟨lo2, hi2, op2⟩) := by rw [hr5]; exact Nb.out.filled ⟨lo2, hi2, op2⟩
          replace Na : Hid (SpIn r5 px SPT ⟨lo, hi, op⟩) := by rw [hr5]; exact Na.out.filledOther (s2 := ⟨lo2, hi2, op2⟩) (Ne.symm Dxy.out)
          replace Nc : Hid (SpIn r5 pz SPT Z0) := by rw [hr5]; exact Nc.out.filledOther (s2 := ⟨lo2, hi2, op2⟩) (Ne.symm Dzy.out)
          have T5 : Hid (Turn (fun i => G ≤ i) w1.drew r5) := by rw [hr5]; exact filled_turn (s := ⟨lo2, hi2, op2⟩) T4.out Py.out
          clear hr5 T4
          have c0 := Nc.out.c0
          have c1 := Nc.out.c1
          have c2 := Nc.out.c2
          have fz := Nc.out.fz
          unfold Z0 at c0 c1 c2
          dsimp only at c0 c1 c2
          refine stepS_call (o := ⟨_, _, _, _, _, _⟩) rfl (by rfl) (fun K hK => ?_)
          go_simp
          clear c0 c1 c2 fz
          refine hK _ _ (filled_turn (s := ⟨lo3, hi3, op3⟩) (Turn.refl _ _) Pz.out) ?_
          clear hK K
          obtain ⟨r6, hr6⟩ : ∃ r6, r6 = filled r5 pz ⟨lo3, hi3, op3⟩ := ⟨_, rfl⟩
          unfold filled at hr6
          dsimp only at hr6
          rw [← hr6]
          replace Nc : Hid (SpIn r6 pz SPT ⟨lo3, hi3, op3⟩) := by rw [hr6]; exact Nc.out.filled ⟨lo3, hi3, op3⟩
          replace Na : Hid (SpIn r6 px SPT ⟨lo, hi, op⟩) := by rw [hr6]; exact Na.out.filledOther (s2 := ⟨lo3, hi3, op3⟩) (Ne.symm Dxz.out)
          replace Nb : Hid (SpIn r6 py SPT ⟨lo2, hi2, op2⟩) := by rw [hr6]; exact Nb.out.filledOther (s2 := ⟨lo3, hi3, op3⟩) Dzy.out
          have T6 : Hid (Turn (fun i => G ≤ i) w1.drew r6) := by rw [hr6]; exact filled_turn (s := ⟨lo3, hi3, op3⟩) T5.out Pz.out
          clear hr6 T5
          have Ba := Lib.hid (Ht.out.1 r6 T6.out)
          have Bb := Lib.hid (Ht.out.2.1 r6 T6.out)
          have Bc := Lib.hid (Ht.out.2.2 r6 T6.out)
          have Hbel : Hid (Below w.heap.size w r6) := Hs.out.2.2.2.drew.trans ((T6.out.below (B := G) (Nat.le_of_eq LG.out) (fun i h => h)).mono (by rw [LG.out]; exact Hs.out.2.2.2.size))
          clear T6 Px Py Pz Dxz Dxy Dzy
          generalize r6 = v0 at *
          refine wpGs_done ?_
          revert Hbel
          revert Bc
          revert Bb
          revert Ba
          revert Nc
          revert Nb
          revert Na
          revert v0
          revert pz
          revert py
          revert px
          exact share_k
      · refine stepS_call (o := ⟨_, _, _, _, _, _⟩) rfl (by rfl) (fun K hK => ?_)
        go_simp
        refine hK _ _ ((Turn.refl _ _).alloc _) ?_
        clear hK K
        obtain ⟨r1, hr1⟩ : ∃ r1, r1 = (w1.alloc (.cells #[.string ⟨#[]⟩, .string ⟨#[]⟩, .bool false] SPT)).drew := ⟨_, rfl⟩
        have Nb : Hid (SpIn r1 w1.heap.size SPT Z0) := by rw [hr1]; exact SpIn.new _ SPT Z0
        have T1 : Hid (Turn (fun i => G ≤ i) w1.drew r1) := by rw [hr1]; exact T0.out.alloc _
        have E1 : Hid (G ≤ w1.heap.size) := Nat.le_of_eq LG.out
        rw [← hr1]
        clear hr1 T0
        obtain ⟨py, hpy⟩ : ∃ p, p = w1.heap.size := ⟨_, rfl⟩
        rw [← hpy] at Nb E1 ⊢
        have Py : Hid (G ≤ py) := E1.out
        clear hpy E1
        have Ly : Hid (py < r1.heap.size) := Nb.out.lt
        refine ⟨?_, ?_⟩
        · refine stepS_call (o := ⟨_, _, _, _, _, _⟩) rfl (by rfl) (fun K hK => ?_)
          go_simp
          refine hK _ _ ((Turn.refl _ _).alloc _) ?_
          clear hK K
          obtain ⟨r2, hr2⟩ : ∃ r2, r2 = (r1.alloc (.cells #[.string ⟨#[]⟩, .string ⟨#[]⟩, .bool false] SPT)) := ⟨_, rfl⟩
          have Na : Hid (SpIn r2 r1.heap.size SPT Z0) := by rw [hr2]; exact SpIn.new _ SPT Z0
          replace Nb : Hid (SpIn r2 py SPT Z0) := by rw [hr2]; exact Nb.out.stay _
          have T2 : Hid (Turn (fun i => G ≤ i) w1.drew r2) := by rw [hr2]; exact T1.out.alloc _
          have E2 : Hid (G ≤ r1.heap.size) := Nat.le_trans (Nat.le_of_eq LG.out) T1.out.size
          rw [← hr2]
          clear hr2 T1
          obtain ⟨px, hpx⟩ : ∃ p, p = r1.heap.size := ⟨_, rfl⟩
          rw [← hpx] at Na E2 ⊢
          have Px : Hid (G ≤ px) := E2.out
          have Dyx : Hid (py ≠ px) := by have h := Ly.out; rw [← hpx] at h; exact Nat.ne_of_lt h
          clear hpx E2 Ly
          have Ly : Hid (py < r2.heap.size) := Nb.out.lt
          have Lx : Hid (px < r2.heap.size) := Na.out.lt
          refine stepS_call (o := ⟨_, _, _, _, _, _⟩) rfl (by rfl) (fun K hK => ?_)
          go_simp
          refine hK _ _ ((Turn.refl _ _).alloc _) ?_
          clear hK K
          obtain ⟨r3, hr3⟩ : ∃ r3, r3 = (r2.alloc (.cells #[.string ⟨#[]⟩, .string ⟨#[]⟩, .bool false] SPT)) := ⟨_, rfl⟩
          have Nc : Hid (SpIn r3 r2.heap.size SPT Z0) := by rw [hr3]; exact SpIn.new _ SPT Z0
          replace Nb : Hid (SpIn r3 py SPT Z0) := by rw [hr3]; exact Nb.out.stay _
          replace Na : Hid (SpIn r3 px SPT Z0) := by rw [hr3]; exact Na.out.stay _
          have T3 : Hid (Turn (fun i => G ≤ i) w1.drew r3) := by rw [hr3]; exact T2.out.alloc _
          have E3 : Hid (G ≤ r2.heap.size) := Nat.le_trans (Nat.le_of_eq LG.out) T2.out.size
          rw [← hr3]
          clear hr3 T2
          obtain ⟨pz, hpz⟩ : ∃ p, p = r2.heap.size := ⟨_, rfl⟩
          rw [← hpz] at Nc E3 ⊢
          have Pz : Hid (G ≤ pz) := E3.out
          have Dyz : Hid (py ≠ pz) := by have h := Ly.out; rw [← hpz] at h; exact Nat.ne_of_lt h
          have Dxz : Hid (px ≠ pz) := by have h := Lx.out; rw [← hpz] at h; exact Nat.ne_of_lt h
          clear hpz E3 Ly Lx
          have Ly : Hid (py < r3.heap.size) := Nb.out.lt
          have Lx : Hid (px < r3.heap.size) := Na.out.lt
          have Lz : Hid (pz < r3.heap.size) := Nc.out.lt
          clear Ly Lx Lz
          have c0 := Na.out.c0
          have c1 := Na.out.c1
          have c2 := Na.out.c2
          have fz := Na.out.fz
          unfold Z0 at c0 c1 c2
          dsimp only at c0 c1 c2
          refine stepS_call (o := ⟨_, _, _, _, _, _⟩) rfl (by rfl) (fun K hK => ?_)
          go_simp
          clear c0 c1 c2 fz
          refine hK _ _ (filled_turn (s := ⟨lo, hi, op⟩) (Turn.refl _ _) Px.out) ?_
          clear hK K
          obtain ⟨r4, hr4⟩ : ∃ r4, r4 = filled r3 px ⟨lo, hi, op⟩ := ⟨_, rfl⟩
          unfold filled at hr4
          dsimp only at hr4
          rw [← hr4]
          replace Na : Hid (SpIn r4 px SPT ⟨lo, hi, op⟩) := by rw [hr4]; exact Na.out.filled ⟨lo, hi, op⟩
          replace Nb : Hid (SpIn r4 py SPT Z0) := by rw [hr4]; exact Nb.out.filledOther (s2 := ⟨lo, hi, op⟩) (Ne.symm Dyx.out)
          replace Nc : Hid (SpIn r4 pz SPT Z0) := by rw [hr4]; exact Nc.out.filledOther (s2 := ⟨lo, hi, op⟩) Dxz.out
          have T4 : Hid (Turn (fun i => G ≤ i) w1.drew r4) := by rw [hr4]; exact filled_turn (s := ⟨lo, hi, op⟩) T3.out Px.out
          clear hr4 T3
          have c0 := Nb.out.c0
          have c1 := Nb.out.c1
          have c2 := Nb.out.c2
          have fz := Nb.out.fz
          unfold Z0 at c0 c1 c2
          dsimp only at c0 c1 c2
          refine stepS_call (o := ⟨_, _, _, _, _, _⟩) rfl (by rfl) (fun K hK => ?_)
          go_simp
          clear c0 c1 c2 fz
          refine hK _ _ (filled_turn (s := ⟨lo2, hi2, op2⟩) (Turn.refl _ _) Py.out) ?_
          clear hK K
          obtain ⟨r5, hr5⟩ : ∃ r5, r5 = filled r4 py ⟨lo2, hi2, op2⟩ := ⟨_, rfl⟩
          unfold filled at hr5
          dsimp only at hr5
          rw [← hr5]
          replace Nb : Hid (SpIn r5 py SPT ⟨lo2, hi2, op2⟩) := by rw [hr5]; exact Nb.out.filled ⟨lo2, hi2, op2⟩
          replace Na : Hid (SpIn r5 px SPT ⟨lo, hi, op⟩) := by rw [hr5]; exact Na.out.filledOther (s2 := ⟨lo2, hi2, op2⟩) Dyx.out
          replace Nc : Hid (SpIn r5 pz SPT Z0) := by rw [hr5]; exact Nc.out.filledOther (s2 := ⟨lo2, hi2, op2⟩) Dyz.out
          have T5 : Hid (Turn (fun i => G ≤ i) w1.drew r5) := by rw [hr5]; exact filled_turn (s := ⟨lo2, hi2, op2⟩) T4.out Py.out
          clear hr5 T4
          have c0 := Nc.out.c0
          have c1 := Nc.out.c1
          have c2 := Nc.out.c2
          have fz := Nc.out.fz
          unfold Z0 at c0 c1 c2
          dsimp only at c0 c1 c2
          refine stepS_call (o := ⟨_, _, _, _, _, _⟩) rfl (by rfl) (fun K hK => ?_)
          go_simp
          clear c0 c1 c2 fz
          refine hK _ _ (filled_turn (s := ⟨lo3, hi3, op3⟩) (Turn.refl _ _) Pz.out) ?_
          clear hK K
          obtain ⟨r6, hr6⟩ : ∃ r6, r6 = filled r5 pz ⟨lo3, hi3, op3⟩ := ⟨_, rfl⟩
          unfold filled at hr6
          dsimp only at hr6
          rw [← hr6]
          replace Nc : Hid (SpIn r6 pz SPT ⟨lo3, hi3, op3⟩) := by rw [hr6]; exact Nc.out.filled ⟨lo3, hi3, op3⟩
          replace Na : Hid (SpIn r6 px SPT ⟨lo, hi, op⟩) := by rw [hr6]; exact Na.out.filledOther (s2 := ⟨lo3, hi3, op3⟩) (Ne.symm Dxz.out)
          replace Nb : Hid (SpIn r6 py SPT ⟨lo2, hi2, op2⟩) := by rw [hr6]; exact Nb.out.filledOther (s2 := ⟨lo3, hi3, op3⟩) (Ne.symm Dyz.out)
          have T6 : Hid (Turn (fun i => G ≤ i) w1.drew r6) := by rw [hr6]; exact filled_turn (s := ⟨lo3, hi3, op3⟩) T5.out Pz.out
          clear hr6 T5
          have Ba := Lib.hid (Ht.out.1 r6 T6.out)
          have Bb := Lib.hid (Ht.out.2.1 r6 T6.out)
          have Bc := Lib.hid (Ht.out.2.2 r6 T6.out)
          have Hbel : Hid (Below w.heap.size w r6) := Hs.out.2.2.2.drew.trans ((T6.out.below (B := G) (Nat.le_of_eq LG.out) (fun i h => h)).mono (by rw [LG.out]; exact Hs.out.2.2.2.size))
          clear T6 Px Py Pz Dyx Dyz Dxz
          generalize r6 = v0 at *
          refine wpGs_done ?_
          revert Hbel
          revert Bc
          revert Bb
          revert Ba
          revert Nc
          revert Nb
          revert Na
          revert v0
          revert pz
          revert py
          revert px
          exact share_k
        · refine stepS_call (o := ⟨_, _, _, _, _, _⟩) rfl (by rfl) (fun K hK => ?_)
          go_simp
          refine hK _ _ ((Turn.refl _ _).alloc _) ?_
          clear hK K
          obtain ⟨r2, hr2⟩ : ∃ r2, r2 = (r1.alloc (.cells #[.string ⟨#[]⟩, .string ⟨#[]⟩, .bool false] SPT)) := ⟨_, rfl⟩
          have Nc : Hid (SpIn r2 r1.heap.size SPT Z0) := by rw [hr2]; exact SpIn.new _ SPT Z0
          replace Nb : Hid (SpIn r2 py SPT Z0) := by rw [hr2]; exact Nb.out.stay _
          have T2 : Hid (Turn (fun i => G ≤ i) w1.drew r2) := by rw [hr2]; exact T1.out.alloc _
          have E2 : Hid (G ≤ r1.heap.size) := Nat.le_trans (Nat.le_of_eq LG.out) T1.out.size
          rw [← hr2]
          clear hr2 T1
          obtain ⟨pz, hpz⟩ : ∃ p, p = r1.heap.size := ⟨_, rfl⟩
          rw [← hpz] at Nc E2 ⊢
          have Pz : Hid (G ≤ pz) := E2.out
          have Dyz : Hid (py ≠ pz) := by have h := Ly.out; rw [← hpz] at h; exact Nat.ne_of_lt h
          clear hpz E2 Ly
          have Ly : Hid (py < r2.heap.size) := Nb.out.lt
          have Lz : Hid (pz < r2.heap.size) := Nc.out.lt
          refine stepS_call (o := ⟨_, _, _, _, _, _⟩) rfl (by rfl) (fun K hK => ?_)
          go_simp
          refine hK _ _ ((Turn.refl _ _).alloc _) ?_
          clear hK K
          obtain ⟨r3, hr3⟩ : ∃ r3, r3 = (r2.alloc (.cells #[.string ⟨#[]⟩, .string ⟨#[]⟩, .bool false] SPT)) := ⟨_, rfl⟩
          have Na : Hid (SpIn r3 r2.heap.size SPT Z0) := by rw [hr3]; exact SpIn.new _ SPT Z0
          replace Nb : Hid (SpIn r3 py SPT Z0) := by rw [hr3]; exact Nb.out.stay _
          replace Nc : Hid (SpIn r3 pz SPT Z0) := by rw [hr3]; exact Nc.out.stay _
          have T3 : Hid (Turn (fun i => G ≤ i) w1.drew r3) := by rw [hr3]; exact T2.out.alloc _
          have E3 : Hid (G ≤ r2.heap.size) := Nat.le_trans (Nat.le_of_eq LG.out) T2.out.size
          rw [← hr3]
          clear hr3 T2
          obtain ⟨px, hpx⟩ : ∃ p, p = r2.heap.size := ⟨_, rfl⟩
          rw [← hpx] at Na E3 ⊢
          have Px : Hid (G ≤ px) := E3.out
          have Dyx : Hid (py ≠ px) := by have h := Ly.out; rw [← hpx] at h; exact Nat.ne_of_lt h
          have Dzx : Hid (pz ≠ px) := by have h := Lz.out; rw [← hpx] at h; exact Nat.ne_of_lt h
          clear hpx E3 Ly Lz
          have Ly : Hid (py < r3.heap.size) := Nb.out.lt
          have Lz : Hid (pz < r3.heap.size) := Nc.out.lt
          have Lx : Hid (px < r3.heap.size) := Na.out.lt
          clear Ly Lz Lx
          have c0 := Na.out.c0
          have c1 := Na.out.c1
          have c2 := Na.out.c2
          have fz := Na.out.fz
          unfold Z0 at c0 c1 c2
          dsimp only at c0 c1 c2
          refine stepS_call (o := ⟨_, _, _, _, _, _⟩) rfl (by rfl) (fun K hK => ?_)
          go_simp
          clear c0 c1 c2 fz
          refine hK _ _ (filled_turn (s := ⟨lo, hi, op⟩) (Turn.refl _ _) Px.out) ?_
          clear hK K
          obtain ⟨r4, hr4⟩ : ∃ r4, r4 = filled r3 px ⟨lo, hi, op⟩ := ⟨_, rfl⟩
          unfold filled at hr4
          dsimp only at hr4
          rw [← hr4]
          replace Na : Hid (SpIn r4 px SPT ⟨lo, hi, op⟩) := by rw [hr4]; exact Na.out.filled ⟨lo, hi, op⟩
          replace Nb : Hid (SpIn r4 py SPT Z0) := by rw [hr4]; exact Nb.out.filledOther (s2 := ⟨lo, hi, op⟩) (Ne.symm Dyx.out)
          replace Nc : Hid (SpIn r4 pz SPT Z0) := by rw [hr4]; exact Nc.out.filledOther (s2 := ⟨lo, hi, op⟩) (Ne.symm Dzx.out)
          have T4 : Hid (Turn (fun i => G ≤ i) w1.drew r4) := by rw [hr4]; exact filled_turn (s := ⟨lo, hi, op⟩) T3.out Px.out
          clear hr4 T3
          have c0 := Nb.out.c0
          have c1 := Nb.out.c1
          have c2 := Nb.out.c2
          have fz := Nb.out.fz
          unfold Z0 at c0 c1 c2
          dsimp only at c0 c1 c2
          refine stepS_call (o := ⟨_, _, _, _, _, _⟩) rfl (by rfl) (fun K hK => ?_)
          go_simp
          clear c0 c1 c2 fz
          refine hK _ _ (filled_turn (s := ⟨lo2, hi2, op2⟩) (Turn.refl _ _) Py.out) ?_
          clear hK K
          obtain ⟨r5, hr5⟩ : ∃ r5, r5 = filled r4 py ⟨lo2, hi2, op2⟩ := ⟨_, rfl⟩
          unfold filled at hr5
          dsimp only at hr5
          rw [← hr5]
          replace Nb : Hid (SpIn r5 py SPT ⟨lo2, hi2, op2⟩) := by rw [hr5]; exact Nb.out.filled ⟨lo2, hi2, op2⟩
          replace Na : Hid (SpIn r5 px SPT ⟨lo, hi, op⟩) := by rw [hr5]; exact Na.out.filledOther (s2 := ⟨lo2, hi2, op2⟩) Dyx.out
          replace Nc : Hid (SpIn r5 pz SPT Z0) := by rw [hr5]; exact Nc.out.filledOther (s2 := ⟨lo2, hi2, op2⟩) Dyz.out
          have T5 : Hid (Turn (fun i => G ≤ i) w1.drew r5) := by rw [hr5]; exact filled_turn (s := ⟨lo2, hi2, op2⟩) T4.out Py.out
          clear hr5 T4
          have c0 := Nc.out.c0
          have c1 := Nc.out.c1
          have c2 := Nc.out.c2
          have fz := Nc.out.fz
          unfold Z0 at c0 c1 c2
          dsimp only at c0 c1 c2
          refine stepS_call (o := ⟨_, _, _, _, _, _⟩) rfl (by rfl) (fun K hK => ?_)
          go_simp
          clear c0 c1 c2 fz
          refine hK _ _ (filled_turn (s := ⟨lo3, hi3, op3⟩) (Turn.refl _ _) Pz.out) ?_
          clear hK K
          obtain ⟨r6, hr6⟩ : ∃ r6, r6 = filled r5 pz ⟨lo3, hi3, op3⟩ := ⟨_, rfl⟩
          unfold filled at hr6
          dsimp only at hr6
          rw [← hr6]
          replace Nc : Hid (SpIn r6 pz SPT ⟨lo3, hi3, op3⟩) := by rw [hr6]; exact Nc.out.filled ⟨lo3, hi3, op3⟩
          replace Na : Hid (SpIn r6 px SPT ⟨lo, hi, op⟩) := by rw [hr6]; exact Na.out.filledOther (s2 := ⟨lo3, hi3, op3⟩) Dzx.out
          replace Nb : Hid (SpIn r6 py SPT ⟨lo2, hi2, op2⟩) := by rw [hr6]; exact Nb.out.filledOther (s2 := ⟨lo3, hi3, op3⟩) (Ne.symm Dyz.out)
          have T6 : Hid (Turn (fun i => G ≤ i) w1.drew r6) := by rw [hr6]; exact filled_turn (s := ⟨lo3, hi3, op3⟩) T5.out Pz.out
          clear hr6 T5
          have Ba := Lib.hid (Ht.out.1 r6 T6.out)
          have Bb := Lib.hid (Ht.out.2.1 r6 T6.out)
          have Bc := Lib.hid (Ht.out.2.2 r6 T6.out)
          have Hbel : Hid (Below w.heap.size w r6) := Hs.out.2.2.2.drew.trans ((T6.out.below (B := G) (Nat.le_of_eq LG.out) (fun i h => h)).mono (by rw [LG.out]; exact Hs.out.2.2.2.size))
          clear T6 Px Py Pz Dyz Dyx Dzx
          generalize r6 = v0 at *
          refine wpGs_done ?_
          revert Hbel
          revert Bc
          revert Bb
          revert Ba
          revert Nc
          revert Nb
          revert Na
          revert v0
          revert pz
          revert py
          revert px
          exact share_k
      · refine stepS_call (o := ⟨_, _, _, _, _, _⟩) rfl (by rfl) (fun K hK => ?_)
        go_simp
        refine hK _ _ ((Turn.refl _ _).alloc _) ?_
        clear hK K
        obtain ⟨r1, hr1⟩ : ∃ r1, r1 = (w1.alloc (.cells #[.string ⟨#[]⟩, .string ⟨#[]⟩, .bool false] SPT)).drew := ⟨_, rfl⟩
        have Nc : Hid (SpIn r1 w1.heap.size SPT Z0) := by rw [hr1]; exact SpIn.new _ SPT Z0
        have T1 : Hid (Turn (fun i => G ≤ i) w1.drew r1) := by rw [hr1]; exact T0.out.alloc _
        have E1 : Hid (G ≤ w1.heap.size) := Nat.le_of_eq LG.out
        rw [← hr1]
        clear hr1 T0
        obtain ⟨pz, hpz⟩ : ∃ p, p = w1.heap.size := ⟨_, rfl⟩
        rw [← hpz] at Nc E1 ⊢
        have Pz : Hid (G ≤ pz) := E1.out
        clear hpz E1
        have Lz : Hid (pz < r1.heap.size) := Nc.out.lt
        refine ⟨?_, ?_⟩
        · refine stepS_call (o := ⟨_, _, _, _, _, _⟩) rfl (by rfl) (fun K hK => ?_)
          go_simp
          refine hK _ _ ((Turn.refl _ _).alloc _) ?_
          clear hK K
          obtain ⟨r2, hr2⟩ : ∃ r2, r2 = (r1.alloc (.cells #[.string ⟨#[]⟩, .string ⟨#[]⟩, .bool false] SPT)) := ⟨_, rfl⟩
          have Na : Hid (SpIn r2 r1.heap.size SPT Z0) := by rw [hr2]; exact SpIn.new _ SPT Z0
          replace Nc : Hid (SpIn r2 pz SPT Z0) := by rw [hr2]; exact Nc.out.stay _
          have T2 : Hid (Turn (fun i => G ≤ i) w1.drew r2) := by rw [hr2]; exact T1.out.alloc _
          have E2 : Hid (G ≤ r1.heap.size) := Nat.le_trans (Nat.le_of_eq LG.out) T1.out.size
          rw [← hr2]
          clear hr2 T1
          obtain ⟨px, hpx⟩ : ∃ p, p = r1.heap.size := ⟨_, rfl⟩
          rw [← hpx] at Na E2 ⊢
          have Px : Hid (G ≤ px) := E2.out
          have Dzx : Hid (pz ≠ px) := by have h := Lz.out; rw [← hpx] at h; exact Nat.ne_of_lt h
          clear hpx E2 Lz
          have Lz : Hid (pz < r2.heap.size) := Nc.out.lt
          have Lx : Hid (px < r2.heap.size) := Na.out.lt
          refine stepS_call (o := ⟨_, _, _, _, _, _⟩) rfl (by rfl) (fun K hK => ?_)
          go_simp
          refine hK _ _ ((Turn.refl _ _).alloc _) ?_
          clear hK K
          obtain ⟨r3, hr3⟩ : ∃ r3, r3 = (r2.alloc (.cells #[.string ⟨#[]⟩, .string ⟨#[]⟩, .bool false] SPT)) := ⟨_, rfl⟩
          have Nb : Hid (SpIn r3 r2.heap.size SPT Z0) := by rw [hr3]; exact SpIn.new _ SPT Z0
          replace Nc : Hid (SpIn r3 pz SPT Z0) := by rw [hr3]; exact Nc.out.stay _
          replace Na : Hid (SpIn r3 px SPT Z0) := by rw [hr3]; exact Na.out.stay _
          have T3 : Hid (Turn (fun i => G ≤ i) w1.drew r3) := by rw [hr3]; exact T2.out.alloc _
          have E3 : Hid (G ≤ r2.heap.size) := Nat.le_trans (Nat.le_of_eq LG.out) T2.out.size
          rw [← hr3]
          clear hr3 T2
          obtain ⟨py, hpy⟩ : ∃ p, p = r2.heap.size := ⟨_, rfl⟩
          rw [← hpy] at Nb E3 ⊢
          have Py : Hid (G ≤ py) := E3.out
          have Dzy : Hid (pz ≠ py) := by have h := Lz.out; rw [← hpy] at h; exact Nat.ne_of_lt h
          have Dxy : Hid (px ≠ py) := by have h := Lx.out; rw [← hpy] at h; exact Nat.ne_of_lt h
          clear hpy E3 Lz Lx
          have Lz : Hid (pz < r3.heap.size) := Nc.out.lt
          have Lx : Hid (px < r3.heap.size) := Na.out.lt
          have Ly : Hid (py < r3.heap.size) := Nb.out.lt
          clear Lz Lx Ly
          have c0 := Na.out.c0
          have c1 := Na.out.c1
          have c2 := Na.out.c2
          have fz := Na.out.fz
          unfold Z0 at c0 c1 c2
          dsimp only at c0 c1 c2
          refine stepS_call (o := ⟨_, _, _, _, _, _⟩) rfl (by rfl) (fun K hK => ?_)
          go_simp
          clear c0 c1 c2 fz
          refine hK _ _ (filled_turn (s := ⟨lo, hi, op⟩) (Turn.refl _ _) Px.out) ?_
          clear hK K
          obtain ⟨r4, hr4⟩ : ∃ r4, r4 = filled r3 px ⟨lo, hi, op⟩ := ⟨_, rfl⟩
          unfold filled at hr4
          dsimp only at hr4
          rw [← hr4]
          replace Na : Hid (SpIn r4 px SPT ⟨lo, hi, op⟩) := by rw [hr4]; exact Na.out.filled ⟨lo, hi, op⟩
          replace Nb : Hid (SpIn r4 py SPT Z0) := by rw [hr4]; exact Nb.out.filledOther (s2 := ⟨lo, hi, op⟩) Dxy.out
          replace Nc : Hid (SpIn r4 pz SPT Z0) := by rw [hr4]; exact Nc.out.filledOther (s2 := ⟨lo, hi, op⟩) (Ne.symm Dzx.out)
          have T4 : Hid (Turn (fun i => G ≤ i) w1.drew r4) := by rw [hr4]; exact filled_turn (s := ⟨lo, hi, op⟩) T3.out Px.out
          clear hr4 T3
          have c0 := Nb.out.c0
          have c1 := Nb.out.c1
          have c2 := Nb.out.c2
          have fz := Nb.out.fz
          unfold Z0 at c0 c1 c2
          dsimp only at c0 c1 c2
          refine stepS_call (o := ⟨_, _, _, _, _, _⟩) rfl (by rfl) (fun K hK => ?_)
          go_simp
          clear c0 c1 c2 fz
          refine hK _ _ (filled_turn (s := ⟨lo2, hi2, op2⟩) (Turn.refl _ _) Py.out) ?_
          clear hK K
          obtain ⟨r5, hr5⟩ : ∃ r5, r5 = filled r4 py ⟨lo2, hi2, op2⟩ := ⟨_, rfl⟩
          unfold filled at hr5
          dsimp only at hr5
          rw [← hr5]
          replace Nb : Hid (SpIn r5 py SPT ⟨lo2, hi2, op2⟩) := by rw [hr5]; exact Nb.out.filled ⟨lo2, hi2, op2⟩
          replace Na : Hid (SpIn r5 px SPT ⟨lo, hi, op⟩) := by rw [hr5]; exact Na.out.filledOther (s2 := ⟨lo2, hi2, op2⟩) (Ne.symm Dxy.out)
          replace Nc : Hid (SpIn r5 pz SPT Z0) := by rw [hr5]; exact Nc.out.filledOther (s2 := ⟨lo2, hi2, op2⟩) (Ne.symm Dzy.out)
          have T5 : Hid (Turn (fun i => G ≤ i) w1.drew r5) := by rw [hr5]; exact filled_turn (s := ⟨lo2, hi2, op2⟩) T4.out Py.out
          clear hr5 T4
          have c0 := Nc.out.c0
          have c1 := Nc.out.c1
          have c2 := Nc.out.c2
          have fz := Nc.out.fz
          unfold Z0 at c0 c1 c2
          dsimp only at c0 c1 c2
          refine stepS_call (o := ⟨_, _, _, _, _, _⟩) rfl (by rfl) (fun K hK => ?_)
          go_simp
          clear c0 c1 c2 fz
          refine hK _ _ (filled_turn (s := ⟨lo3, hi3, op3⟩) (Turn.refl _ _) Pz.out) ?_
          clear hK K
          obtain ⟨r6, hr6⟩ : ∃ r6, r6 = filled r5 pz ⟨lo3, hi3, op3⟩ := ⟨_, rfl⟩
          unfold filled at hr6
          dsimp only at hr6
          rw [← hr6]
          replace Nc : Hid (SpIn r6 pz SPT ⟨lo3, hi3, op3⟩) := by rw [hr6]; exact Nc.out.filled ⟨lo3, hi3, op3⟩
          replace Na : Hid (SpIn r6 px SPT ⟨lo, hi, op⟩) := by rw [hr6]; exact Na.out.filledOther (s2 := ⟨lo3, hi3, op3⟩) Dzx.out
          replace Nb : Hid (SpIn r6 py SPT ⟨lo2, hi2, op2⟩) := by rw [hr6]; exact Nb.out.filledOther (s2 := ⟨lo3, hi3, op3⟩) Dzy.out
          have T6 : Hid (Turn (fun i => G ≤ i) w1.drew r6) := by rw [hr6]; exact filled_turn (s := ⟨lo3, hi3, op3⟩) T5.out Pz.out
          clear hr6 T5
          have Ba := Lib.hid (Ht.out.1 r6 T6.out)
          have Bb := Lib.hid (Ht.out.2.1 r6 T6.out)
          have Bc := Lib.hid (Ht.out.2.2 r6 T6.out)
          have Hbel : Hid (Below w.heap.size w r6) := Hs.out.2.2.2.drew.trans ((T6.out.below (B := G) (Nat.le_of_eq LG.out) (fun i h => h)).mono (by rw [LG.out]; exact Hs.out.2.2.2.size))
          clear T6 Px Py Pz Dzx Dzy Dxy
          generalize r6 = v0 at *
          refine wpGs_done ?_
          revert Hbel
          revert Bc
          revert Bb
          revert Ba
          revert Nc
          revert Nb
          revert Na
          revert v0
          revert pz
          revert py
          revert px
          exact share_k
        · refine stepS_call (o := ⟨_, _, _, _, _, _⟩) rfl (by rfl) (fun K hK => ?_)
          go_simp
          refine hK _ _ ((Turn.refl _ _).alloc _) ?_
          clear hK K
          obtain ⟨r2, hr2⟩ : ∃ r2, r2 = (r1.alloc (.cells #[.string ⟨#[]⟩, .string ⟨#[]⟩, .bool false] SPT)) := ⟨_, rfl⟩
          have Nb : Hid (SpIn r2 r1.heap.size SPT Z0) := by rw [hr2]; exact SpIn.new _ SPT Z0
          replace Nc : Hid (SpIn r2 pz SPT Z0) := by rw [hr2]; exact Nc.out.stay _
          have T2 : Hid (Turn (fun i => G ≤ i) w1.drew r2) := by rw [hr2]; exact T1.out.alloc _
          have E2 : Hid (G ≤ r1.heap.size) := Nat.le_trans (Nat.le_of_eq LG.out) T1.out.size
          rw [← hr2]
          clear hr2 T1
          obtain ⟨py, hpy⟩ : ∃ p, p = r1.heap.size := ⟨_, rfl⟩
          rw [← hpy] at Nb E2 ⊢
          have Py : Hid (G ≤ py) := E2.out
          have Dzy : Hid (pz ≠ py) := by have h := Lz.out; rw [← hpy] at h; exact Nat.ne_of_lt h
          clear hpy E2 Lz
          have Lz : Hid (pz < r2.heap.size) := Nc.out.lt
          have Ly : Hid (py < r2.heap.size) := Nb.out.lt
          refine stepS_call (o := ⟨_, _, _, _, _, _⟩) rfl (by rfl) (fun K hK => ?_)
          go_simp
          refine hK _ _ ((Turn.refl _ _).alloc _) ?_
          clear hK K
          obtain ⟨r3, hr3⟩ : ∃ r3, r3 = (r2.alloc (.cells #[.string ⟨#[]⟩, .string ⟨#[]⟩, .bool false] SPT)) := ⟨_, rfl⟩
          have Na : Hid (SpIn r3 r2.heap.size SPT Z0) := by rw [hr3]; exact SpIn.new _ SPT Z0
          replace Nc : Hid (SpIn r3 pz SPT Z0) := by rw [hr3]; exact Nc.out.stay _
          replace Nb : Hid (SpIn r3 py SPT Z0) := by rw [hr3]; exact Nb.out.stay _
          have T3 : Hid (Turn (fun i => G ≤ i) w1.drew r3) := by rw [hr3]; exact T2.out.alloc _
          have E3 : Hid (G ≤ r2.heap.size) := Nat.le_trans (Nat.le_of_eq LG.out) T2.out.size
          rw [← hr3]
          clear hr3 T2
          obtain ⟨px, hpx⟩ : ∃ p, p = r2.heap.size := ⟨_, rfl⟩
          rw [← hpx] at Na E3 ⊢
          have Px : Hid (G ≤ px) := E3.out
          have Dzx : Hid (pz ≠ px) := by have h := Lz.out; rw [← hpx] at h; exact Nat.ne_of_lt h
          have Dyx : Hid (py ≠ px) := by have h := Ly.out; rw [← hpx] at h; exact Nat.ne_of_lt h
          clear hpx E3 Lz Ly
          have Lz : Hid (pz < r3.heap.size) := Nc.out.lt
          have Ly : Hid (py < r3.heap.size) := Nb.out.lt
          have Lx : Hid (px < r3.heap.size) := Na.out.lt
          clear Lz Ly Lx
          have c0 := Na.out.c0
          have c1 := Na.out.c1
          have c2 := Na.out.c2
          have fz := Na.out.fz
          unfold Z0 at c0 c1 c2
          dsimp only at c0 c1 c2
          refine stepS_call (o := ⟨_, _, _, _, _, _⟩) rfl (by rfl) (fun K hK => ?_)
          go_simp
          clear c0 c1 c2 fz
          refine hK _ _ (filled_turn (s := ⟨lo, hi, op⟩) (Turn.refl _ _) Px.out) ?_
          clear hK K
          obtain ⟨r4, hr4⟩ : ∃ r4, r4 = filled r3 px ⟨lo, hi, op⟩ := ⟨_, rfl⟩
          unfold filled at hr4
          dsimp only at hr4
          rw [← hr4]
          replace Na : Hid (SpIn r4 px SPT ⟨lo, hi, op⟩) := by rw [hr4]; exact Na.out.filled ⟨lo, hi, op⟩
          replace Nb : Hid (SpIn r4 py SPT Z0) := by rw [hr4]; exact Nb.out.filledOther (s2 := ⟨lo, hi, op⟩) (Ne.symm Dyx.out)
          replace Nc : Hid (SpIn r4 pz SPT Z0) := by rw [hr4]; exact Nc.out.filledOther (s2 := ⟨lo, hi, op⟩) (Ne.symm Dzx.out)
          have T4 : Hid (Turn (fun i => G ≤ i) w1.drew r4) := by rw [hr4]; exact filled_turn (s := ⟨lo, hi, op⟩) T3.out Px.out
          clear hr4 T3
          have c0 := Nb.out.c0
          have c1 := Nb.out.c1
          have c2 := Nb.out.c2
          have fz := Nb.out.fz
          unfold Z0 at c0 c1 c2
          dsimp only at c0 c1 c2
          refine stepS_call (o := ⟨_, _, _, _, _, _⟩) rfl (by rfl) (fun K hK => ?_)
          go_simp
          clear c0 c1 c2 fz
          refine hK _ _ (filled_turn (s := ⟨lo2, hi2, op2⟩) (Turn.refl _ _) Py.out) ?_
          clear hK K
          obtain ⟨r5, hr5⟩ : ∃ r5, r5 = filled r4 py ⟨lo2, hi2, op2⟩ := ⟨_, rfl⟩
          unfold filled at hr5
          dsimp only at hr5
          rw [← hr5]
          replace Nb : Hid (SpIn r5 py SPT ⟨lo2, hi2, op2⟩) := by rw [hr5]; exact Nb.out.filled ⟨lo2, hi2, op2⟩
          replace Na : Hid (SpIn r5 px SPT ⟨lo, hi, op⟩) := by rw [hr5]; exact Na.out.filledOther (s2 := ⟨lo2, hi2, op2⟩) Dyx.out
          replace Nc : Hid (SpIn r5 pz SPT Z0) := by rw [hr5]; exact Nc.out.filledOther (s2 := ⟨lo2, hi2, op2⟩) (Ne.symm Dzy.out)
          have T5 : Hid (Turn (fun i => G ≤ i) w1.drew r5) := by rw [hr5]; exact filled_turn (s := ⟨lo2, hi2, op2⟩) T4.out Py.out
          clear hr5 T4
          have c0 := Nc.out.c0
          have c1 := Nc.out.c1
          have c2 := Nc.out.c2
          have fz := Nc.out.fz
          unfold Z0 at c0 c1 c2
          dsimp only at c0 c1 c2
          refine stepS_call (o := ⟨_, _, _, _, _, _⟩) rfl (by rfl) (fun K hK => ?_)
          go_simp
          clear c0 c1 c2 fz
          refine hK _ _ (filled_turn (s := ⟨lo3, hi3, op3⟩) (Turn.refl _ _) Pz.out) ?_
          clear hK K
          obtain ⟨r6, hr6⟩ : ∃ r6, r6 = filled r5 pz ⟨lo3, hi3, op3⟩ := ⟨_, rfl⟩
          unfold filled at hr6
          dsimp only at hr6
          rw [← hr6]
          replace Nc : Hid (SpIn r6 pz SPT ⟨lo3, hi3, op3⟩) := by rw [hr6]; exact Nc.out.filled ⟨lo3, hi3, op3⟩
          replace Na : Hid (SpIn r6 px SPT ⟨lo, hi, op⟩) := by rw [hr6]; exact Na.out.filledOther (s2 := ⟨lo3, hi3, op3⟩) Dzx.out
          replace Nb : Hid (SpIn r6 py SPT ⟨lo2, hi2, op2⟩) := by rw [hr6]; exact Nb.out.filledOther (s2 := ⟨lo3, hi3, op3⟩) Dzy.out
          have T6 : Hid (Turn (fun i => G ≤ i) w1.drew r6) := by rw [hr6]; exact filled_turn (s := ⟨lo3, hi3, op3⟩) T5.out Pz.out
          clear hr6 T5
          have Ba := Lib.hid (Ht.out.1 r6 T6.out)
          have Bb := Lib.hid (Ht.out.2.1 r6 T6.out)
          have Bc := Lib.hid (Ht.out.2.2 r6 T6.out)
          have Hbel : Hid (Below w.heap.size w r6) := Hs.out.2.2.2.drew.trans ((T6.out.below (B := G) (Nat.le_of_eq LG.out) (fun i h => h)).mono (by rw [LG.out]; exact Hs.out.2.2.2.size))
          clear T6 Px Py Pz Dzy Dzx Dyx
          generalize r6 = v0 at *
          refine wpGs_done ?_
          revert Hbel
          revert Bc
          revert Bb
          revert Ba
          revert Nc
          revert Nb
          revert Na
          revert v0
          revert pz
          revert py
          revert px
          exact share_k
    case k =>
      intro px py pz v0 Na Nb Nc Ba Bb Bc Hbel
      clear LG Ht Hs
      clear Ba Bb Bc
      obtain ⟨⟨ml, mh, mo⟩, hme⟩ : ∃ s, meetS ⟨lo, hi, op⟩ ⟨lo2, hi2, op2⟩ = s := ⟨_, rfl⟩
      have hmx := meet_left ⟨lo, hi, op⟩ ⟨lo2, hi2, op2⟩
      have hmy := meet_right ⟨lo, hi, op⟩ ⟨lo2, hi2, op2⟩
      have hmz := meet_great ⟨lo, hi, op⟩ ⟨lo2, hi2, op2⟩ ⟨lo3, hi3, op3⟩
      rw [hme] at hmx hmy hmz
      have HMZ := Lib.hid hmz
      have HM := Lib.hid (And.intro hme (And.intro hmx (And.intro hmy (with_refl ⟨lo, hi, op⟩))))
      have HTR := Lib.hid (with_trans ⟨lo, hi, op⟩ ⟨lo2, hi2, op2⟩ ⟨lo3, hi3, op3⟩)
      clear hme hmx hmy hmz
      have x0 := Na.out.c0
      have x1 := Na.out.c1
      have x2 := Na.out.c2
      have y0 := Nb.out.c0
      have y1 := Nb.out.c1
      have y2 := Nb.out.c2
      have z0 := Nc.out.c0
      have z1 := Nc.out.c1
      have z2 := Nc.out.c2
      dsimp only at x0 x1 x2 y0 y1 y2 z0 z1 z2
      go_wp2_with fail
      refine (meet_at ⟨lo, hi, op⟩ ⟨lo2, hi2, op2⟩ ⟨ml, mh, mo⟩ _ HM.out.1).mono ?_
      rintro e v1 ⟨rfl, hb⟩
      clear x0 x1 x2 y0 y1 y2 z0 z1 z2
      replace Hbel := Lib.hid (Hbel.out.trans (hb.mono Hbel.out.size))
      replace Na := Lib.hid (Na.out.ext hb)
      replace Nb := Lib.hid (Nb.out.ext hb)
      replace Nc := Lib.hid (Nc.out.ext hb)
      clear hb
      have x0 := Na.out.c0
      have x1 := Na.out.c1
      have x2 := Na.out.c2
      have y0 := Nb.out.c0
      have y1 := Nb.out.c1
      have y2 := Nb.out.c2
      have z0 := Nc.out.c0
      have z1 := Nc.out.c1
      have z2 := Nc.out.c2
      dsimp only at x0 x1 x2 y0 y1 y2 z0 z1 z2
      dsimp only
      clear x0 x1 x2 y0 y1 y2 z0 z1 z2
      have Nm : Hid (SpIn (v1.alloc (.cells #[.string ml, .string mh, .bool mo] SPT)) v1.heap.size SPT ⟨ml, mh, mo⟩) := SpIn.new v1 SPT ⟨ml, mh, mo⟩
      have MNa : Hid (SpIn (v1.alloc (.cells #[.string ml, .string mh, .bool mo] SPT)) px SPT ⟨lo, hi, op⟩) := Na.out.stay _
      have qx : ¬ (px = v1.heap.size) := Nat.ne_of_lt Na.out.lt
      have MNb : Hid (SpIn (v1.alloc (.cells #[.string ml, .string mh, .bool mo] SPT)) py SPT ⟨lo2, hi2, op2⟩) := Nb.out.stay _
      have qy : ¬ (py = v1.heap.size) := Nat.ne_of_lt Nb.out.lt
      have MNc : Hid (SpIn (v1.alloc (.cells #[.string ml, .string mh, .bool mo] SPT)) pz SPT ⟨lo3, hi3, op3⟩) := Nc.out.stay _
      have qz : ¬ (pz = v1.heap.size) := Nat.ne_of_lt Nc.out.lt
      have Mbel : Hid (Below w.heap.size w (v1.alloc (.cells #[.string ml, .string mh, .bool mo] SPT))) := Hbel.out.alloc Hbel.out.size _
      have x0 := MNa.out.c0
      have x1 := MNa.out.c1
      have x2 := MNa.out.c2
      have y0 := MNb.out.c0
      have y1 := MNb.out.c1
      have y2 := MNb.out.c2
      have z0 := MNc.out.c0
      have z1 := MNc.out.c1
      have z2 := MNc.out.c2
      dsimp only at x0 x1 x2 y0 y1 y2 z0 z1 z2
      go_wp2_with fail
      clear x0 x1 x2 y0 y1 y2 z0 z1 z2 qx qy qz Na Nb Nc Hbel
      generalize (v1.alloc (.cells #[.string ml, .string mh, .bool mo] SPT)) = v2 at *
      generalize v1.heap.size = pm at *
      cases hP : withS ⟨lo, hi, op⟩ ⟨lo2, hi2, op2⟩ with
      | false =>
        have hE := with_emp_of hP
        cases hU : withS ⟨lo3, hi3, op3⟩ ⟨lo, hi, op⟩ with
        | false => as_aux_lemma =>
          have HC := Lib.hid (And.intro hP (And.intro hP (And.intro hP (And.intro hU (And.intro hU (And.intro hU hE))))))
          clear hP hE hU HMZ HTR
          refine (with_at ⟨lo, hi, op⟩ ⟨lo2, hi2, op2⟩ false _ HC.out.1).mono ?_
          rintro e k1 ⟨rfl, hb⟩
          replace Mbel := Lib.hid (Mbel.out.trans (hb.mono Mbel.out.size))
          replace MNa := Lib.hid (MNa.out.ext hb)
          replace MNb := Lib.hid (MNb.out.ext hb)
          replace MNc := Lib.hid (MNc.out.ext hb)
          replace Nm := Lib.hid (Nm.out.ext hb)
          clear hb
          have x0 := MNa.out.c0
          have x1 := MNa.out.c1
          have x2 := MNa.out.c2
          have y0 := MNb.out.c0
          have y1 := MNb.out.c1
          have y2 := MNb.out.c2
          have z0 := MNc.out.c0
          have z1 := MNc.out.c1
          have z2 := MNc.out.c2
          have m0 := Nm.out.c0
          have m1 := Nm.out.c1
          have m2 := Nm.out.c2
          dsimp only at x0 x1 x2 y0 y1 y2 z0 z1 z2 m0 m1 m2
          go_wp2_with fail
          refine (with_at ⟨ml, mh, mo⟩ ⟨lo, hi, op⟩ true _ HM.out.2.1).mono ?_
          rintro e k2 ⟨rfl, hb⟩
          clear x0 x1 x2 y0 y1 y2 z0 z1 z2 m0 m1 m2
          replace Mbel := Lib.hid (Mbel.out.trans (hb.mono Mbel.out.size))
          replace MNa := Lib.hid (MNa.out.ext hb)
          replace MNb := Lib.hid (MNb.out.ext hb)
          replace MNc := Lib.hid (MNc.out.ext hb)
          replace Nm := Lib.hid (Nm.out.ext hb)
          clear hb
          have x0 := MNa.out.c0
          have x1 := MNa.out.c1
          have x2 := MNa.out.c2
          have y0 := MNb.out.c0
          have y1 := MNb.out.c1
          have y2 := MNb.out.c2
          have z0 := MNc.out.c0
          have z1 := MNc.out.c1
          have z2 := MNc.out.c2
          have m0 := Nm.out.c0
          have m1 := Nm.out.c1
          have m2 := Nm.out.c2
          dsimp only at x0 x1 x2 y0 y1 y2 z0 z1 z2 m0 m1 m2
          go_wp2_with fail
          refine (with_at ⟨ml, mh, mo⟩ ⟨lo2, hi2, op2⟩ true _ HM.out.2.2.1).mono ?_
          rintro e k3 ⟨rfl, hb⟩
          clear x0 x1 x2 y0 y1 y2 z0 z1 z2 m0 m1 m2
          replace Mbel := Lib.hid (Mbel.out.trans (hb.mono Mbel.out.size))
          replace MNa := Lib.hid (MNa.out.ext hb)
          replace MNb := Lib.hid (MNb.out.ext hb)
          replace MNc := Lib.hid (MNc.out.ext hb)
          replace Nm := Lib.hid (Nm.out.ext hb)
          clear hb
          have x0 := MNa.out.c0
          have x1 := MNa.out.c1
          have x2 := MNa.out.c2
          have y0 := MNb.out.c0
          have y1 := MNb.out.c1
          have y2 := MNb.out.c2
          have z0 := MNc.out.c0
          have z1 := MNc.out.c1
          have z2 := MNc.out.c2
          have m0 := Nm.out.c0
          have m1 := Nm.out.c1
          have m2 := Nm.out.c2
          dsimp only at x0 x1 x2 y0 y1 y2 z0 z1 z2 m0 m1 m2
          go_wp2_with fail
          refine (with_at ⟨lo3, hi3, op3⟩ ⟨lo, hi, op⟩ false _ HC.out.2.2.2.1).mono ?_
          rintro e k4 ⟨rfl, hb⟩
          clear x0 x1 x2 y0 y1 y2 z0 z1 z2 m0 m1 m2
          replace Mbel := Lib.hid (Mbel.out.trans (hb.mono Mbel.out.size))
          replace MNa := Lib.hid (MNa.out.ext hb)
          replace MNb := Lib.hid (MNb.out.ext hb)
          replace MNc := Lib.hid (MNc.out.ext hb)
          replace Nm := Lib.hid (Nm.out.ext hb)
          clear hb
          have x0 := MNa.out.c0
          have x1 := MNa.out.c1
          have x2 := MNa.out.c2
          have y0 := MNb.out.c0
          have y1 := MNb.out.c1
          have y2 := MNb.out.c2
          have z0 := MNc.out.c0
          have z1 := MNc.out.c1
          have z2 := MNc.out.c2
          have m0 := Nm.out.c0
          have m1 := Nm.out.c1
          have m2 := Nm.out.c2
          dsimp only at x0 x1 x2 y0 y1 y2 z0 z1 z2 m0 m1 m2
          go_wp2_with fail
          refine (with_at ⟨lo, hi, op⟩ ⟨lo, hi, op⟩ true _ HM.out.2.2.2).mono ?_
          rintro e k5 ⟨rfl, hb⟩
          clear x0 x1 x2 y0 y1 y2 z0 z1 z2 m0 m1 m2
          replace Mbel := Lib.hid (Mbel.out.trans (hb.mono Mbel.out.size))
          replace MNa := Lib.hid (MNa.out.ext hb)
          replace MNb := Lib.hid (MNb.out.ext hb)
          replace MNc := Lib.hid (MNc.out.ext hb)
          replace Nm := Lib.hid (Nm.out.ext hb)
          clear hb
          have x0 := MNa.out.c0
          have x1 := MNa.out.c1
          have x2 := MNa.out.c2
          have y0 := MNb.out.c0
          have y1 := MNb.out.c1
          have y2 := MNb.out.c2
          have z0 := MNc.out.c0
          have z1 := MNc.out.c1
          have z2 := MNc.out.c2
          have m0 := Nm.out.c0
          have m1 := Nm.out.c1
          have m2 := Nm.out.c2
          dsimp only at x0 x1 x2 y0 y1 y2 z0 z1 z2 m0 m1 m2
          go_wp2_with fail
          refine (emp_at _ _ _ false _ HC.out.2.2.2.2.2.2).mono ?_
          rintro e k6 ⟨rfl, hb⟩
          clear x0 x1 x2 y0 y1 y2 z0 z1 z2 m0 m1 m2
          replace Mbel := Lib.hid (Mbel.out.trans (hb.mono Mbel.out.size))
          replace MNa := Lib.hid (MNa.out.ext hb)
          replace MNb := Lib.hid (MNb.out.ext hb)
          replace MNc := Lib.hid (MNc.out.ext hb)
          replace Nm := Lib.hid (Nm.out.ext hb)
          clear hb
          have x0 := MNa.out.c0
          have x1 := MNa.out.c1
          have x2 := MNa.out.c2
          have y0 := MNb.out.c0
          have y1 := MNb.out.c1
          have y2 := MNb.out.c2
          have z0 := MNc.out.c0
          have z1 := MNc.out.c1
          have z2 := MNc.out.c2
          have m0 := Nm.out.c0
          have m1 := Nm.out.c1
          have m2 := Nm.out.c2
          dsimp only at x0 x1 x2 y0 y1 y2 z0 z1 z2 m0 m1 m2
          go_wp2_with fail
          refine (sure_any _ (HG.out.below Mbel.out)).mono ?_
          rintro e k7 ⟨rfl, hb⟩
          clear x0 x1 x2 y0 y1 y2 z0 z1 z2 m0 m1 m2
          replace Mbel := Lib.hid (Mbel.out.trans (hb.mono Mbel.out.size))
          replace MNa := Lib.hid (MNa.out.ext hb)
          replace MNb := Lib.hid (MNb.out.ext hb)
          replace MNc := Lib.hid (MNc.out.ext hb)
          replace Nm := Lib.hid (Nm.out.ext hb)
          clear hb
          have x0 := MNa.out.c0
          have x1 := MNa.out.c1
          have x2 := MNa.out.c2
          have y0 := MNb.out.c0
          have y1 := MNb.out.c1
          have y2 := MNb.out.c2
          have z0 := MNc.out.c0
          have z1 := MNc.out.c1
          have z2 := MNc.out.c2
          have m0 := Nm.out.c0
          have m1 := Nm.out.c1
          have m2 := Nm.out.c2
          dsimp only at x0 x1 x2 y0 y1 y2 z0 z1 z2 m0 m1 m2
          go_wp2_with fail
          go_ret
          exact ⟨rfl, Mbel.out⟩
        | true =>
          cases hV : withS ⟨lo3, hi3, op3⟩ ⟨lo2, hi2, op2⟩ with
          | false => as_aux_lemma =>
            have HC := Lib.hid (And.intro hP (And.intro hP (And.intro hP (And.intro hU (And.intro hV (And.intro hU hE))))))
            clear hP hE hU hV HMZ HTR
            refine (with_at ⟨lo, hi, op⟩ ⟨lo2, hi2, op2⟩ false _ HC.out.1).mono ?_
            rintro e k1 ⟨rfl, hb⟩
            replace Mbel := Lib.hid (Mbel.out.trans (hb.mono Mbel.out.size))
            replace MNa := Lib.hid (MNa.out.ext hb)
            replace MNb := Lib.hid (MNb.out.ext hb)
            replace MNc := Lib.hid (MNc.out.ext hb)
            replace Nm := Lib.hid (Nm.out.ext hb)
            clear hb
            have x0 := MNa.out.c0
            have x1 := MNa.out.c1
            have x2 := MNa.out.c2
            have y0 := MNb.out.c0
            have y1 := MNb.out.c1
            have y2 := MNb.out.c2
            have z0 := MNc.out.c0
            have z1 := MNc.out.c1
            have z2 := MNc.out.c2
            have m0 := Nm.out.c0
            have m1 := Nm.out.c1
            have m2 := Nm.out.c2
            dsimp only at x0 x1 x2 y0 y1 y2 z0 z1 z2 m0 m1 m2
            go_wp2_with fail
            refine (with_at ⟨ml, mh, mo⟩ ⟨lo, hi, op⟩ true _ HM.out.2.1).mono ?_
            rintro e k2 ⟨rfl, hb⟩
            clear x0 x1 x2 y0 y1 y2 z0 z1 z2 m0 m1 m2
            replace Mbel := Lib.hid (Mbel.out.trans (hb.mono Mbel.out.size))
            replace MNa := Lib.hid (MNa.out.ext hb)
            replace MNb := Lib.hid (MNb.out.ext hb)
            replace MNc := Lib.hid (MNc.out.ext hb)
            replace Nm := Lib.hid (Nm.out.ext hb)
            clear hb
            have x0 := MNa.out.c0
            have x1 := MNa.out.c1
            have x2 := MNa.out.c2
            have y0 := MNb.out.c0
            have y1 := MNb.out.c1
            have y2 := MNb.out.c2
            have z0 := MNc.out.c0
            have z1 := MNc.out.c1
            have z2 := MNc.out.c2
            have m0 := Nm.out.c0
            have m1 := Nm.out.c1
            have m2 := Nm.out.c2
            dsimp only at x0 x1 x2 y0 y1 y2 z0 z1 z2 m0 m1 m2
            go_wp2_with fail
            refine (with_at ⟨ml, mh, mo⟩ ⟨lo2, hi2, op2⟩ true _ HM.out.2.2.1).mono ?_
            rintro e k3 ⟨rfl, hb⟩
            clear x0 x1 x2 y0 y1 y2 z0 z1 z2 m0 m1 m2
            replace Mbel := Lib.hid (Mbel.out.trans (hb.mono Mbel.out.size))
            replace MNa := Lib.hid (MNa.out.ext hb)
            replace MNb := Lib.hid (MNb.out.ext hb)
            replace MNc := Lib.hid (MNc.out.ext hb)
            replace Nm := Lib.hid (Nm.out.ext hb)
            clear hb
            have x0 := MNa.out.c0
            have x1 := MNa.out.c1
            have x2 := MNa.out.c2
            have y0 := MNb.out.c0
            have y1 := MNb.out.c1
            have y2 := MNb.out.c2
            have z0 := MNc.out.c0
            have z1 := MNc.out.c1
            have z2 := MNc.out.c2
            have m0 := Nm.out.c0
            have m1 := Nm.out.c1
            have m2 := Nm.out.c2
            dsimp only at x0 x1 x2 y0 y1 y2 z0 z1 z2 m0 m1 m2
            go_wp2_with fail
            refine (with_at ⟨lo3, hi3, op3⟩ ⟨lo, hi, op⟩ true _ HC.out.2.2.2.1).mono ?_
            rintro e k4 ⟨rfl, hb⟩
            clear x0 x1 x2 y0 y1 y2 z0 z1 z2 m0 m1 m2
            replace Mbel := Lib.hid (Mbel.out.trans (hb.mono Mbel.out.size))
            replace MNa := Lib.hid (MNa.out.ext hb)
            replace MNb := Lib.hid (MNb.out.ext hb)
            replace MNc := Lib.hid (MNc.out.ext hb)
            replace Nm := Lib.hid (Nm.out.ext hb)
            clear hb
            have x0 := MNa.out.c0
            have x1 := MNa.out.c1
            have x2 := MNa.out.c2
            have y0 := MNb.out.c0
            have y1 := MNb.out.c1
            have y2 := MNb.out.c2
            have z0 := MNc.out.c0
            have z1 := MNc.out.c1
            have z2 := MNc.out.c2
            have m0 := Nm.out.c0
            have m1 := Nm.out.c1
            have m2 := Nm.out.c2
            dsimp only at x0 x1 x2 y0 y1 y2 z0 z1 z2 m0 m1 m2
            go_wp2_with fail
            refine (with_at ⟨lo3, hi3, op3⟩ ⟨lo2, hi2, op2⟩ false _ HC.out.2.2.2.2.1).mono ?_
            rintro e k5 ⟨rfl, hb⟩
            clear x0 x1 x2 y0 y1 y2 z0 z1 z2 m0 m1 m2
            replace Mbel := Lib.hid (Mbel.out.trans (hb.mono Mbel.out.size))
            replace MNa := Lib.hid (MNa.out.ext hb)
            replace MNb := Lib.hid (MNb.out.ext hb)
            replace MNc := Lib.hid (MNc.out.ext hb)
            replace Nm := Lib.hid (Nm.out.ext hb)
            clear hb
            have x0 := MNa.out.c0
            have x1 := MNa.out.c1
            have x2 := MNa.out.c2
            have y0 := MNb.out.c0
            have y1 := MNb.out.c1
            have y2 := MNb.out.c2
            have z0 := MNc.out.c0
            have z1 := MNc.out.c1
            have z2 := MNc.out.c2
            have m0 := Nm.out.c0
            have m1 := Nm.out.c1
            have m2 := Nm.out.c2
            dsimp only at x0 x1 x2 y0 y1 y2 z0 z1 z2 m0 m1 m2
            go_wp2_with fail
            refine (with_at ⟨lo, hi, op⟩ ⟨lo, hi, op⟩ true _ HM.out.2.2.2).mono ?_
            rintro e k6 ⟨rfl, hb⟩
            clear x0 x1 x2 y0 y1 y2 z0 z1 z2 m0 m1 m2
            replace Mbel := Lib.hid (Mbel.out.trans (hb.mono Mbel.out.size))
            replace MNa := Lib.hid (MNa.out.ext hb)
            replace MNb := Lib.hid (MNb.out.ext hb)
            replace MNc := Lib.hid (MNc.out.ext hb)
            replace Nm := Lib.hid (Nm.out.ext hb)
            clear hb
            have x0 := MNa.out.c0
            have x1 := MNa.out.c1
            have x2 := MNa.out.c2
            have y0 := MNb.out.c0
            have y1 := MNb.out.c1
            have y2 := MNb.out.c2
            have z0 := MNc.out.c0
            have z1 := MNc.out.c1
            have z2 := MNc.out.c2
            have m0 := Nm.out.c0
            have m1 := Nm.out.c1
            have m2 := Nm.out.c2
            dsimp only at x0 x1 x2 y0 y1 y2 z0 z1 z2 m0 m1 m2
            go_wp2_with fail
            refine (emp_at _ _ _ false _ HC.out.2.2.2.2.2.2).mono ?_
            rintro e k7 ⟨rfl, hb⟩
            clear x0 x1 x2 y0 y1 y2 z0 z1 z2 m0 m1 m2
            replace Mbel := Lib.hid (Mbel.out.trans (hb.mono Mbel.out.size))
            replace MNa := Lib.hid (MNa.out.ext hb)
            replace MNb := Lib.hid (MNb.out.ext hb)
            replace MNc := Lib.hid (MNc.out.ext hb)
            replace Nm := Lib.hid (Nm.out.ext hb)
            clear hb
            have x0 := MNa.out.c0
            have x1 := MNa.out.c1
            have x2 := MNa.out.c2
            have y0 := MNb.out.c0
            have y1 := MNb.out.c1
            have y2 := MNb.out.c2
            have z0 := MNc.out.c0
            have z1 := MNc.out.c1
            have z2 := MNc.out.c2
            have m0 := Nm.out.c0
            have m1 := Nm.out.c1
            have m2 := Nm.out.c2
            dsimp only at x0 x1 x2 y0 y1 y2 z0 z1 z2 m0 m1 m2
            go_wp2_with fail
            refine (sure_any _ (HG.out.below Mbel.out)).mono ?_
            rintro e k8 ⟨rfl, hb⟩
            clear x0 x1 x2 y0 y1 y2 z0 z1 z2 m0 m1 m2
            replace Mbel := Lib.hid (Mbel.out.trans (hb.mono Mbel.out.size))
            replace MNa := Lib.hid (MNa.out.ext hb)
            replace MNb := Lib.hid (MNb.out.ext hb)
            replace MNc := Lib.hid (MNc.out.ext hb)
            replace Nm := Lib.hid (Nm.out.ext hb)
            clear hb
            have x0 := MNa.out.c0
            have x1 := MNa.out.c1
            have x2 := MNa.out.c2
            have y0 := MNb.out.c0
            have y1 := MNb.out.c1
            have y2 := MNb.out.c2
            have z0 := MNc.out.c0
            have z1 := MNc.out.c1
            have z2 := MNc.out.c2
            have m0 := Nm.out.c0
            have m1 := Nm.out.c1
            have m2 := Nm.out.c2
            dsimp only at x0 x1 x2 y0 y1 y2 z0 z1 z2 m0 m1 m2
            go_wp2_with fail
            go_ret
            exact ⟨rfl, Mbel.out⟩
          | true => as_aux_lemma =>
            have hT := HMZ.out hU hV
            have HC := Lib.hid (And.intro hP (And.intro hP (And.intro hP (And.intro hU (And.intro hV (And.intro hT hE))))))
            clear hP hE hU hV hT HMZ HTR
            refine (with_at ⟨lo, hi, op⟩ ⟨lo2, hi2, op2⟩ false _ HC.out.1).mono ?_
            rintro e k1 ⟨rfl, hb⟩
            replace Mbel := Lib.hid (Mbel.out.trans (hb.mono Mbel.out.size))
            replace MNa := Lib.hid (MNa.out.ext hb)
            replace MNb := Lib.hid (MNb.out.ext hb)
            replace MNc := Lib.hid (MNc.out.ext hb)
            replace Nm := Lib.hid (Nm.out.ext hb)
            clear hb
            have x0 := MNa.out.c0
            have x1 := MNa.out.c1
            have x2 := MNa.out.c2
            have y0 := MNb.out.c0
            have y1 := MNb.out.c1
            have y2 := MNb.out.c2
            have z0 := MNc.out.c0
            have z1 := MNc.out.c1
            have z2 := MNc.out.c2
            have m0 := Nm.out.c0
            have m1 := Nm.out.c1
            have m2 := Nm.out.c2
            dsimp only at x0 x1 x2 y0 y1 y2 z0 z1 z2 m0 m1 m2
            go_wp2_with fail
            refine (with_at ⟨ml, mh, mo⟩ ⟨lo, hi, op⟩ true _ HM.out.2.1).mono ?_
            rintro e k2 ⟨rfl, hb⟩
            clear x0 x1 x2 y0 y1 y2 z0 z1 z2 m0 m1 m2
            replace Mbel := Lib.hid (Mbel.out.trans (hb.mono Mbel.out.size))
            replace MNa := Lib.hid (MNa.out.ext hb)
            replace MNb := Lib.hid (MNb.out.ext hb)
            replace MNc := Lib.hid (MNc.out.ext hb)
            replace Nm := Lib.hid (Nm.out.ext hb)
            clear hb
            have x0 := MNa.out.c0
            have x1 := MNa.out.c1
            have x2 := MNa.out.c2
            have y0 := MNb.out.c0
            have y1 := MNb.out.c1
            have y2 := MNb.out.c2
            have z0 := MNc.out.c0
            have z1 := MNc.out.c1
            have z2 := MNc.out.c2
            have m0 := Nm.out.c0
            have m1 := Nm.out.c1
            have m2 := Nm.out.c2
            dsimp only at x0 x1 x2 y0 y1 y2 z0 z1 z2 m0 m1 m2
            go_wp2_with fail
            refine (with_at ⟨ml, mh, mo⟩ ⟨lo2, hi2, op2⟩ true _ HM.out.2.2.1).mono ?_
            rintro e k3 ⟨rfl, hb⟩
            clear x0 x1 x2 y0 y1 y2 z0 z1 z2 m0 m1 m2
            replace Mbel := Lib.hid (Mbel.out.trans (hb.mono Mbel.out.size))
            replace MNa := Lib.hid (MNa.out.ext hb)
            replace MNb := Lib.hid (MNb.out.ext hb)
            replace MNc := Lib.hid (MNc.out.ext hb)
            replace Nm := Lib.hid (Nm.out.ext hb)
            clear hb
            have x0 := MNa.out.c0
            have x1 := MNa.out.c1
            have x2 := MNa.out.c2
            have y0 := MNb.out.c0
            have y1 := MNb.out.c1
            have y2 := MNb.out.c2
            have z0 := MNc.out.c0
            have z1 := MNc.out.c1
            have z2 := MNc.out.c2
            have m0 := Nm.out.c0
            have m1 := Nm.out.c1
            have m2 := Nm.out.c2
            dsimp only at x0 x1 x2 y0 y1 y2 z0 z1 z2 m0 m1 m2
            go_wp2_with fail
            refine (with_at ⟨lo3, hi3, op3⟩ ⟨lo, hi, op⟩ true _ HC.out.2.2.2.1).mono ?_
            rintro e k4 ⟨rfl, hb⟩
            clear x0 x1 x2 y0 y1 y2 z0 z1 z2 m0 m1 m2
            replace Mbel := Lib.hid (Mbel.out.trans (hb.mono Mbel.out.size))
            replace MNa := Lib.hid (MNa.out.ext hb)
            replace MNb := Lib.hid (MNb.out.ext hb)
            replace MNc := Lib.hid (MNc.out.ext hb)
            replace Nm := Lib.hid (Nm.out.ext hb)
            clear hb
            have x0 := MNa.out.c0
            have x1 := MNa.out.c1
            have x2 := MNa.out.c2
            have y0 := MNb.out.c0
            have y1 := MNb.out.c1
            have y2 := MNb.out.c2
            have z0 := MNc.out.c0
            have z1 := MNc.out.c1
            have z2 := MNc.out.c2
            have m0 := Nm.out.c0
            have m1 := Nm.out.c1
            have m2 := Nm.out.c2
            dsimp only at x0 x1 x2 y0 y1 y2 z0 z1 z2 m0 m1 m2
            go_wp2_with fail
            refine (with_at ⟨lo3, hi3, op3⟩ ⟨lo2, hi2, op2⟩ true _ HC.out.2.2.2.2.1).mono ?_
            rintro e k5 ⟨rfl, hb⟩
            clear x0 x1 x2 y0 y1 y2 z0 z1 z2 m0 m1 m2
            replace Mbel := Lib.hid (Mbel.out.trans (hb.mono Mbel.out.size))
            replace MNa := Lib.hid (MNa.out.ext hb)
            replace MNb := Lib.hid (MNb.out.ext hb)
            replace MNc := Lib.hid (MNc.out.ext hb)
            replace Nm := Lib.hid (Nm.out.ext hb)
            clear hb
            have x0 := MNa.out.c0
            have x1 := MNa.out.c1
            have x2 := MNa.out.c2
            have y0 := MNb.out.c0
            have y1 := MNb.out.c1
            have y2 := MNb.out.c2
            have z0 := MNc.out.c0
            have z1 := MNc.out.c1
            have z2 := MNc.out.c2
            have m0 := Nm.out.c0
            have m1 := Nm.out.c1
            have m2 := Nm.out.c2
            dsimp only at x0 x1 x2 y0 y1 y2 z0 z1 z2 m0 m1 m2
            go_wp2_with fail
            refine (with_at ⟨lo3, hi3, op3⟩ ⟨ml, mh, mo⟩ true _ HC.out.2.2.2.2.2.1).mono ?_
            rintro e k6 ⟨rfl, hb⟩
            clear x0 x1 x2 y0 y1 y2 z0 z1 z2 m0 m1 m2
            replace Mbel := Lib.hid (Mbel.out.trans (hb.mono Mbel.out.size))
            replace MNa := Lib.hid (MNa.out.ext hb)
            replace MNb := Lib.hid (MNb.out.ext hb)
            replace MNc := Lib.hid (MNc.out.ext hb)
            replace Nm := Lib.hid (Nm.out.ext hb)
            clear hb
            have x0 := MNa.out.c0
            have x1 := MNa.out.c1
            have x2 := MNa.out.c2
            have y0 := MNb.out.c0
            have y1 := MNb.out.c1
            have y2 := MNb.out.c2
            have z0 := MNc.out.c0
            have z1 := MNc.out.c1
            have z2 := MNc.out.c2
            have m0 := Nm.out.c0
            have m1 := Nm.out.c1
            have m2 := Nm.out.c2
            dsimp only at x0 x1 x2 y0 y1 y2 z0 z1 z2 m0 m1 m2
            go_wp2_with fail
            refine (with_at ⟨lo, hi, op⟩ ⟨lo, hi, op⟩ true _ HM.out.2.2.2).mono ?_
            rintro e k7 ⟨rfl, hb⟩
            clear x0 x1 x2 y0 y1 y2 z0 z1 z2 m0 m1 m2
            replace Mbel := Lib.hid (Mbel.out.trans (hb.mono Mbel.out.size))
            replace MNa := Lib.hid (MNa.out.ext hb)
            replace MNb := Lib.hid (MNb.out.ext hb)
            replace MNc := Lib.hid (MNc.out.ext hb)
            replace Nm := Lib.hid (Nm.out.ext hb)
            clear hb
            have x0 := MNa.out.c0
            have x1 := MNa.out.c1
            have x2 := MNa.out.c2
            have y0 := MNb.out.c0
            have y1 := MNb.out.c1
            have y2 := MNb.out.c2
            have z0 := MNc.out.c0
            have z1 := MNc.out.c1
            have z2 := MNc.out.c2
            have m0 := Nm.out.c0
            have m1 := Nm.out.c1
            have m2 := Nm.out.c2
            dsimp only at x0 x1 x2 y0 y1 y2 z0 z1 z2 m0 m1 m2
            go_wp2_with fail
            refine (emp_at _ _ _ false _ HC.out.2.2.2.2.2.2).mono ?_
            rintro e k8 ⟨rfl, hb⟩
            clear x0 x1 x2 y0 y1 y2 z0 z1 z2 m0 m1 m2
            replace Mbel := Lib.hid (Mbel.out.trans (hb.mono Mbel.out.size))
            replace MNa := Lib.hid (MNa.out.ext hb)
            replace MNb := Lib.hid (MNb.out.ext hb)
            replace MNc := Lib.hid (MNc.out.ext hb)
            replace Nm := Lib.hid (Nm.out.ext hb)
            clear hb
            have x0 := MNa.out.c0
            have x1 := MNa.out.c1
            have x2 := MNa.out.c2
            have y0 := MNb.out.c0
            have y1 := MNb.out.c1
            have y2 := MNb.out.c2
            have z0 := MNc.out.c0
            have z1 := MNc.out.c1
            have z2 := MNc.out.c2
            have m0 := Nm.out.c0
            have m1 := Nm.out.c1
            have m2 := Nm.out.c2
            dsimp only at x0 x1 x2 y0 y1 y2 z0 z1 z2 m0 m1 m2
            go_wp2_with fail
            refine (sure_any _ (HG.out.below Mbel.out)).mono ?_
            rintro e k9 ⟨rfl, hb⟩
            clear x0 x1 x2 y0 y1 y2 z0 z1 z2 m0 m1 m2
            replace Mbel := Lib.hid (Mbel.out.trans (hb.mono Mbel.out.size))
            replace MNa := Lib.hid (MNa.out.ext hb)
            replace MNb := Lib.hid (MNb.out.ext hb)
            replace MNc := Lib.hid (MNc.out.ext hb)
            replace Nm := Lib.hid (Nm.out.ext hb)
            clear hb
            have x0 := MNa.out.c0
            have x1 := MNa.out.c1
            have x2 := MNa.out.c2
            have y0 := MNb.out.c0
            have y1 := MNb.out.c1
            have y2 := MNb.out.c2
            have z0 := MNc.out.c0
            have z1 := MNc.out.c1
            have z2 := MNc.out.c2
            have m0 := Nm.out.c0
            have m1 := Nm.out.c1
            have m2 := Nm.out.c2
            dsimp only at x0 x1 x2 y0 y1 y2 z0 z1 z2 m0 m1 m2
            go_wp2_with fail
            go_ret
            exact ⟨rfl, Mbel.out⟩
      | true =>
        cases hE : empS ⟨lo, hi, op⟩ with
        | true =>
          cases hQ : withS ⟨lo2, hi2, op2⟩ ⟨lo3, hi3, op3⟩ with
          | true =>
            have hR := HTR.out hP hQ
            cases hU : withS ⟨lo3, hi3, op3⟩ ⟨lo, hi, op⟩ with
            | false => as_aux_lemma =>
              have HC := Lib.hid (And.intro hP (And.intro hQ (And.intro hR (And.intro hU (And.intro hU (And.intro hU hE))))))
              clear hP hE hU hQ hR HMZ HTR
              refine (with_at ⟨lo, hi, op⟩ ⟨lo2, hi2, op2⟩ true _ HC.out.1).mono ?_
              rintro e k1 ⟨rfl, hb⟩
              replace Mbel := Lib.hid (Mbel.out.trans (hb.mono Mbel.out.size))
              replace MNa := Lib.hid (MNa.out.ext hb)
              replace MNb := Lib.hid (MNb.out.ext hb)
              replace MNc := Lib.hid (MNc.out.ext hb)
              replace Nm := Lib.hid (Nm.out.ext hb)
              clear hb
              have x0 := MNa.out.c0
              have x1 := MNa.out.c1
              have x2 := MNa.out.c2
              have y0 := MNb.out.c0
              have y1 := MNb.out.c1
              have y2 := MNb.out.c2
              have z0 := MNc.out.c0
              have z1 := MNc.out.c1
              have z2 := MNc.out.c2
              have m0 := Nm.out.c0
              have m1 := Nm.out.c1
              have m2 := Nm.out.c2
              dsimp only at x0 x1 x2 y0 y1 y2 z0 z1 z2 m0 m1 m2
              go_wp2_with fail
              refine (with_at ⟨lo2, hi2, op2⟩ ⟨lo3, hi3, op3⟩ true _ HC.out.2.1).mono ?_
              rintro e k2 ⟨rfl, hb⟩
              clear x0 x1 x2 y0 y1 y2 z0 z1 z2 m0 m1 m2
              replace Mbel := Lib.hid (Mbel.out.trans (hb.mono Mbel.out.size))
              replace MNa := Lib.hid (MNa.out.ext hb)
              replace MNb := Lib.hid (MNb.out.ext hb)
              replace MNc := Lib.hid (MNc.out.ext hb)
              replace Nm := Lib.hid (Nm.out.ext hb)
              clear hb
              have x0 := MNa.out.c0
              have x1 := MNa.out.c1
              have x2 := MNa.out.c2
              have y0 := MNb.out.c0
              have y1 := MNb.out.c1
              have y2 := MNb.out.c2
              have z0 := MNc.out.c0
              have z1 := MNc.out.c1
              have z2 := MNc.out.c2
              have m0 := Nm.out.c0
              have m1 := Nm.out.c1
              have m2 := Nm.out.c2
              dsimp only at x0 x1 x2 y0 y1 y2 z0 z1 z2 m0 m1 m2
              go_wp2_with fail
              refine (with_at ⟨lo, hi, op⟩ ⟨lo3, hi3, op3⟩ true _ HC.out.2.2.1).mono ?_
              rintro e k3 ⟨rfl, hb⟩
              clear x0 x1 x2 y0 y1 y2 z0 z1 z2 m0 m1 m2
              replace Mbel := Lib.hid (Mbel.out.trans (hb.mono Mbel.out.size))
              replace MNa := Lib.hid (MNa.out.ext hb)
              replace MNb := Lib.hid (MNb.out.ext hb)
              replace MNc := Lib.hid (MNc.out.ext hb)
              replace Nm := Lib.hid (Nm.out.ext hb)
              clear hb
              have x0 := MNa.out.c0
              have x1 := MNa.out.c1
              have x2 := MNa.out.c2
              have y0 := MNb.out.c0
              have y1 := MNb.out.c1
              have y2 := MNb.out.c2
              have z0 := MNc.out.c0
              have z1 := MNc.out.c1
              have z2 := MNc.out.c2
              have m0 := Nm.out.c0
              have m1 := Nm.out.c1
              have m2 := Nm.out.c2
              dsimp only at x0 x1 x2 y0 y1 y2 z0 z1 z2 m0 m1 m2
              go_wp2_with fail
              refine (with_at ⟨ml, mh, mo⟩ ⟨lo, hi, op⟩ true _ HM.out.2.1).mono ?_
              rintro e k4 ⟨rfl, hb⟩
              clear x0 x1 x2 y0 y1 y2 z0 z1 z2 m0 m1 m2
              replace Mbel := Lib.hid (Mbel.out.trans (hb.mono Mbel.out.size))
              replace MNa := Lib.hid (MNa.out.ext hb)
              replace MNb := Lib.hid (MNb.out.ext hb)
              replace MNc := Lib.hid (MNc.out.ext hb)
              replace Nm := Lib.hid (Nm.out.ext hb)
              clear hb
              have x0 := MNa.out.c0
              have x1 := MNa.out.c1
              have x2 := MNa.out.c2
              have y0 := MNb.out.c0
              have y1 := MNb.out.c1
              have y2 := MNb.out.c2
              have z0 := MNc.out.c0
              have z1 := MNc.out.c1
              have z2 := MNc.out.c2
              have m0 := Nm.out.c0
              have m1 := Nm.out.c1
              have m2 := Nm.out.c2
              dsimp only at x0 x1 x2 y0 y1 y2 z0 z1 z2 m0 m1 m2
              go_wp2_with fail
              refine (with_at ⟨ml, mh, mo⟩ ⟨lo2, hi2, op2⟩ true _ HM.out.2.2.1).mono ?_
              rintro e k5 ⟨rfl, hb⟩
              clear x0 x1 x2 y0 y1 y2 z0 z1 z2 m0 m1 m2
              replace Mbel := Lib.hid (Mbel.out.trans (hb.mono Mbel.out.size))
              replace MNa := Lib.hid (MNa.out.ext hb)
              replace MNb := Lib.hid (MNb.out.ext hb)
              replace MNc := Lib.hid (MNc.out.ext hb)
              replace Nm := Lib.hid (Nm.out.ext hb)
              clear hb
              have x0 := MNa.out.c0
              have x1 := MNa.out.c1
              have x2 := MNa.out.c2
              have y0 := MNb.out.c0
              have y1 := MNb.out.c1
              have y2 := MNb.out.c2
              have z0 := MNc.out.c0
              have z1 := MNc.out.c1
              have z2 := MNc.out.c2
              have m0 := Nm.out.c0
              have m1 := Nm.out.c1
              have m2 := Nm.out.c2
              dsimp only at x0 x1 x2 y0 y1 y2 z0 z1 z2 m0 m1 m2
              go_wp2_with fail
              refine (with_at ⟨lo3, hi3, op3⟩ ⟨lo, hi, op⟩ false _ HC.out.2.2.2.1).mono ?_
              rintro e k6 ⟨rfl, hb⟩
              clear x0 x1 x2 y0 y1 y2 z0 z1 z2 m0 m1 m2
              replace Mbel := Lib.hid (Mbel.out.trans (hb.mono Mbel.out.size))
              replace MNa := Lib.hid (MNa.out.ext hb)
              replace MNb := Lib.hid (MNb.out.ext hb)
              replace MNc := Lib.hid (MNc.out.ext hb)
              replace Nm := Lib.hid (Nm.out.ext hb)
              clear hb
              have x0 := MNa.out.c0
              have x1 := MNa.out.c1
              have x2 := MNa.out.c2
              have y0 := MNb.out.c0
              have y1 := MNb.out.c1
              have y2 := MNb.out.c2
              have z0 := MNc.out.c0
              have z1 := MNc.out.c1
              have z2 := MNc.out.c2
              have m0 := Nm.out.c0
              have m1 := Nm.out.c1
              have m2 := Nm.out.c2
              dsimp only at x0 x1 x2 y0 y1 y2 z0 z1 z2 m0 m1 m2
              go_wp2_with fail
              refine (with_at ⟨lo, hi, op⟩ ⟨lo, hi, op⟩ true _ HM.out.2.2.2).mono ?_
              rintro e k7 ⟨rfl, hb⟩
              clear x0 x1 x2 y0 y1 y2 z0 z1 z2 m0 m1 m2
              replace Mbel := Lib.hid (Mbel.out.trans (hb.mono Mbel.out.size))
              replace MNa := Lib.hid (MNa.out.ext hb)
              replace MNb := Lib.hid (MNb.out.ext hb)
              replace MNc := Lib.hid (MNc.out.ext hb)
              replace Nm := Lib.hid (Nm.out.ext hb)
              clear hb
              have x0 := MNa.out.c0
              have x1 := MNa.out.c1
              have x2 := MNa.out.c2
              have y0 := MNb.out.c0
              have y1 := MNb.out.c1
              have y2 := MNb.out.c2
              have z0 := MNc.out.c0
              have z1 := MNc.out.c1
              have z2 := MNc.out.c2
              have m0 := Nm.out.c0
              have m1 := Nm.out.c1
              have m2 := Nm.out.c2
              dsimp only at x0 x1 x2 y0 y1 y2 z0 z1 z2 m0 m1 m2
              go_wp2_with fail
              refine (emp_at _ _ _ true _ HC.out.2.2.2.2.2.2).mono ?_
              rintro e k8 ⟨rfl, hb⟩
              clear x0 x1 x2 y0 y1 y2 z0 z1 z2 m0 m1 m2
              replace Mbel := Lib.hid (Mbel.out.trans (hb.mono Mbel.out.size))
              replace MNa := Lib.hid (MNa.out.ext hb)
              replace MNb := Lib.hid (MNb.out.ext hb)
              replace MNc := Lib.hid (MNc.out.ext hb)
              replace Nm := Lib.hid (Nm.out.ext hb)
              clear hb
              have x0 := MNa.out.c0
              have x1 := MNa.out.c1
              have x2 := MNa.out.c2
              have y0 := MNb.out.c0
              have y1 := MNb.out.c1
              have y2 := MNb.out.c2
              have z0 := MNc.out.c0
              have z1 := MNc.out.c1
              have z2 := MNc.out.c2
              have m0 := Nm.out.c0
              have m1 := Nm.out.c1
              have m2 := Nm.out.c2
              dsimp only at x0 x1 x2 y0 y1 y2 z0 z1 z2 m0 m1 m2
              go_wp2_with fail
              refine (with_at ⟨lo, hi, op⟩ ⟨lo2, hi2, op2⟩ true _ HC.out.1).mono ?_
              rintro e k9 ⟨rfl, hb⟩
              clear x0 x1 x2 y0 y1 y2 z0 z1 z2 m0 m1 m2
              replace Mbel := Lib.hid (Mbel.out.trans (hb.mono Mbel.out.size))
              replace MNa := Lib.hid (MNa.out.ext hb)
              replace MNb := Lib.hid (MNb.out.ext hb)
              replace MNc := Lib.hid (MNc.out.ext hb)
              replace Nm := Lib.hid (Nm.out.ext hb)
              clear hb
              have x0 := MNa.out.c0
              have x1 := MNa.out.c1
              have x2 := MNa.out.c2
              have y0 := MNb.out.c0
              have y1 := MNb.out.c1
              have y2 := MNb.out.c2
              have z0 := MNc.out.c0
              have z1 := MNc.out.c1
              have z2 := MNc.out.c2
              have m0 := Nm.out.c0
              have m1 := Nm.out.c1
              have m2 := Nm.out.c2
              dsimp only at x0 x1 x2 y0 y1 y2 z0 z1 z2 m0 m1 m2
              go_wp2_with fail
              refine (sure_any _ (HG.out.below Mbel.out)).mono ?_
              rintro e k10 ⟨rfl, hb⟩
              clear x0 x1 x2 y0 y1 y2 z0 z1 z2 m0 m1 m2
              replace Mbel := Lib.hid (Mbel.out.trans (hb.mono Mbel.out.size))
              replace MNa := Lib.hid (MNa.out.ext hb)
              replace MNb := Lib.hid (MNb.out.ext hb)
              replace MNc := Lib.hid (MNc.out.ext hb)
              replace Nm := Lib.hid (Nm.out.ext hb)
              clear hb
              have x0 := MNa.out.c0
              have x1 := MNa.out.c1
              have x2 := MNa.out.c2
              have y0 := MNb.out.c0
              have y1 := MNb.out.c1
              have y2 := MNb.out.c2
              have z0 := MNc.out.c0
              have z1 := MNc.out.c1
              have z2 := MNc.out.c2
              have m0 := Nm.out.c0
              have m1 := Nm.out.c1
              have m2 := Nm.out.c2
              dsimp only at x0 x1 x2 y0 y1 y2 z0 z1 z2 m0 m1 m2
              go_wp2_with fail
              go_ret
              exact ⟨rfl, Mbel.out⟩
            | true =>
              cases hV : withS ⟨lo3, hi3, op3⟩ ⟨lo2, hi2, op2⟩ with
              | false => as_aux_lemma =>
                have HC := Lib.hid (And.intro hP (And.intro hQ (And.intro hR (And.intro hU (And.intro hV (And.intro hU hE))))))
                clear hP hE hU hQ hR hV HMZ HTR
                refine (with_at ⟨lo, hi, op⟩ ⟨lo2, hi2, op2⟩ true _ HC.out.1).mono ?_
                rintro e k1 ⟨rfl, hb⟩
                replace Mbel := Lib.hid (Mbel.out.trans (hb.mono Mbel.out.size))
                replace MNa := Lib.hid (MNa.out.ext hb)
                replace MNb := Lib.hid (MNb.out.ext hb)
                replace MNc := Lib.hid (MNc.out.ext hb)
                replace Nm := Lib.hid (Nm.out.ext hb)
                clear hb
                have x0 := MNa.out.c0
                have x1 := MNa.out.c1
                have x2 := MNa.out.c2
                have y0 := MNb.out.c0
                have y1 := MNb.out.c1
                have y2 := MNb.out.c2
                have z0 := MNc.out.c0
                have z1 := MNc.out.c1
                have z2 := MNc.out.c2
                have m0 := Nm.out.c0
                have m1 := Nm.out.c1
                have m2 := Nm.out.c2
                dsimp only at x0 x1 x2 y0 y1 y2 z0 z1 z2 m0 m1 m2
                go_wp2_with fail
                refine (with_at ⟨lo2, hi2, op2⟩ ⟨lo3, hi3, op3⟩ true _ HC.out.2.1).mono ?_
                rintro e k2 ⟨rfl, hb⟩
                clear x0 x1 x2 y0 y1 y2 z0 z1 z2 m0 m1 m2
                replace Mbel := Lib.hid (Mbel.out.trans (hb.mono Mbel.out.size))
                replace MNa := Lib.hid (MNa.out.ext hb)
                replace MNb := Lib.hid (MNb.out.ext hb)
                replace MNc := Lib.hid (MNc.out.ext hb)
                replace Nm := Lib.hid (Nm.out.ext hb)
                clear hb
                have x0 := MNa.out.c0
                have x1 := MNa.out.c1
                have x2 := MNa.out.c2
                have y0 := MNb.out.c0
                have y1 := MNb.out.c1
                have y2 := MNb.out.c2
                have z0 := MNc.out.c0
                have z1 := MNc.out.c1
                have z2 := MNc.out.c2
                have m0 := Nm.out.c0
                have m1 := Nm.out.c1
                have m2 := Nm.out.c2
                dsimp only at x0 x1 x2 y0 y1 y2 z0 z1 z2 m0 m1 m2
                go_wp2_with fail
                refine (with_at ⟨lo, hi, op⟩ ⟨lo3, hi3, op3⟩ true _ HC.out.2.2.1).mono ?_
                rintro e k3 ⟨rfl, hb⟩
                clear x0 x1 x2 y0 y1 y2 z0 z1 z2 m0 m1 m2
                replace Mbel := Lib.hid (Mbel.out.trans (hb.mono Mbel.out.size))
                replace MNa := Lib.hid (MNa.out.ext hb)
                replace MNb := Lib.hid (MNb.out.ext hb)
                replace MNc := Lib.hid (MNc.out.ext hb)
                replace Nm := Lib.hid (Nm.out.ext hb)
                clear hb
                have x0 := MNa.out.c0
                have x1 := MNa.out.c1
                have x2 := MNa.out.c2
                have y0 := MNb.out.c0
                have y1 := MNb.out.c1
                have y2 := MNb.out.c2
                have z0 := MNc.out.c0
                have z1 := MNc.out.c1
                have z2 := MNc.out.c2
                have m0 := Nm.out.c0
                have m1 := Nm.out.c1
                have m2 := Nm.out.c2
                dsimp only at x0 x1 x2 y0 y1 y2 z0 z1 z2 m0 m1 m2
                go_wp2_with fail
                refine (with_at ⟨ml, mh, mo⟩ ⟨lo, hi, op⟩ true _ HM.out.2.1).mono ?_
                rintro e k4 ⟨rfl, hb⟩
                clear x0 x1 x2 y0 y1 y2 z0 z1 z2 m0 m1 m2
                replace Mbel := Lib.hid (Mbel.out.trans (hb.mono Mbel.out.size))
                replace MNa := Lib.hid (MNa.out.ext hb)
                replace MNb := Lib.hid (MNb.out.ext hb)
                replace MNc := Lib.hid (MNc.out.ext hb)
                replace Nm := Lib.hid (Nm.out.ext hb)
                clear hb
                have x0 := MNa.out.c0
                have x1 := MNa.out.c1
                have x2 := MNa.out.c2
                have y0 := MNb.out.c0
                have y1 := MNb.out.c1
                have y2 := MNb.out.c2
                have z0 := MNc.out.c0
                have z1 := MNc.out.c1
                have z2 := MNc.out.c2
                have m0 := Nm.out.c0
                have m1 := Nm.out.c1
                have m2 := Nm.out.c2
                dsimp only at x0 x1 x2 y0 y1 y2 z0 z1 z2 m0 m1 m2
                go_wp2_with fail
                refine (with_at ⟨ml, mh, mo⟩ ⟨lo2, hi2, op2⟩ true _ HM.out.2.2.1).mono ?_
                rintro e k5 ⟨rfl, hb⟩
                clear x0 x1 x2 y0 y1 y2 z0 z1 z2 m0 m1 m2
                replace Mbel := Lib.hid (Mbel.out.trans (hb.mono Mbel.out.size))
                replace MNa := Lib.hid (MNa.out.ext hb)
                replace MNb := Lib.hid (MNb.out.ext hb)
                replace MNc := Lib.hid (MNc.out.ext hb)
                replace Nm := Lib.hid (Nm.out.ext hb)
                clear hb
                have x0 := MNa.out.c0
                have x1 := MNa.out.c1
                have x2 := MNa.out.c2
                have y0 := MNb.out.c0
                have y1 := MNb.out.c1
                have y2 := MNb.out.c2
                have z0 := MNc.out.c0
                have z1 := MNc.out.c1
                have z2 := MNc.out.c2
                have m0 := Nm.out.c0
                have m1 := Nm.out.c1
                have m2 := Nm.out.c2
                dsimp only at x0 x1 x2 y0 y1 y2 z0 z1 z2 m0 m1 m2
                go_wp2_with fail
                refine (with_at ⟨lo3, hi3, op3⟩ ⟨lo, hi, op⟩ true _ HC.out.2.2.2.1).mono ?_
                rintro e k6 ⟨rfl, hb⟩
                clear x0 x1 x2 y0 y1 y2 z0 z1 z2 m0 m1 m2
                replace Mbel := Lib.hid (Mbel.out.trans (hb.mono Mbel.out.size))
                replace MNa := Lib.hid (MNa.out.ext hb)
                replace MNb := Lib.hid (MNb.out.ext hb)
                replace MNc := Lib.hid (MNc.out.ext hb)
                replace Nm := Lib.hid (Nm.out.ext hb)
                clear hb
                have x0 := MNa.out.c0
                have x1 := MNa.out.c1
                have x2 := MNa.out.c2
                have y0 := MNb.out.c0
                have y1 := MNb.out.c1
                have y2 := MNb.out.c2
                have z0 := MNc.out.c0
                have z1 := MNc.out.c1
                have z2 := MNc.out.c2
                have m0 := Nm.out.c0
                have m1 := Nm.out.c1
                have m2 := Nm.out.c2
                dsimp only at x0 x1 x2 y0 y1 y2 z0 z1 z2 m0 m1 m2
                go_wp2_with fail
                refine (with_at ⟨lo3, hi3, op3⟩ ⟨lo2, hi2, op2⟩ false _ HC.out.2.2.2.2.1).mono ?_
                rintro e k7 ⟨rfl, hb⟩
                clear x0 x1 x2 y0 y1 y2 z0 z1 z2 m0 m1 m2
                replace Mbel := Lib.hid (Mbel.out.trans (hb.mono Mbel.out.size))
                replace MNa := Lib.hid (MNa.out.ext hb)
                replace MNb := Lib.hid (MNb.out.ext hb)
                replace MNc := Lib.hid (MNc.out.ext hb)
                replace Nm := Lib.hid (Nm.out.ext hb)
                clear hb
                have x0 := MNa.out.c0
                have x1 := MNa.out.c1
                have x2 := MNa.out.c2
                have y0 := MNb.out.c0
                have y1 := MNb.out.c1
                have y2 := MNb.out.c2
                have z0 := MNc.out.c0
                have z1 := MNc.out.c1
                have z2 := MNc.out.c2
                have m0 := Nm.out.c0
                have m1 := Nm.out.c1
                have m2 := Nm.out.c2
                dsimp only at x0 x1 x2 y0 y1 y2 z0 z1 z2 m0 m1 m2
                go_wp2_with fail
                refine (with_at ⟨lo, hi, op⟩ ⟨lo, hi, op⟩ true _ HM.out.2.2.2).mono ?_
                rintro e k8 ⟨rfl, hb⟩
                clear x0 x1 x2 y0 y1 y2 z0 z1 z2 m0 m1 m2
                replace Mbel := Lib.hid (Mbel.out.trans (hb.mono Mbel.out.size))
                replace MNa := Lib.hid (MNa.out.ext hb)
                replace MNb := Lib.hid (MNb.out.ext hb)
                replace MNc := Lib.hid (MNc.out.ext hb)
                replace Nm := Lib.hid (Nm.out.ext hb)
                clear hb
                have x0 := MNa.out.c0
                have x1 := MNa.out.c1
                have x2 := MNa.out.c2
                have y0 := MNb.out.c0
                have y1 := MNb.out.c1
                have y2 := MNb.out.c2
                have z0 := MNc.out.c0
                have z1 := MNc.out.c1
                have z2 := MNc.out.c2
                have m0 := Nm.out.c0
                have m1 := Nm.out.c1
                have m2 := Nm.out.c2
                dsimp only at x0 x1 x2 y0 y1 y2 z0 z1 z2 m0 m1 m2
                go_wp2_with fail
                refine (emp_at _ _ _ true _ HC.out.2.2.2.2.2.2).mono ?_
                rintro e k9 ⟨rfl, hb⟩
                clear x0 x1 x2 y0 y1 y2 z0 z1 z2 m0 m1 m2
                replace Mbel := Lib.hid (Mbel.out.trans (hb.mono Mbel.out.size))
                replace MNa := Lib.hid (MNa.out.ext hb)
                replace MNb := Lib.hid (MNb.out.ext hb)
                replace MNc := Lib.hid (MNc.out.ext hb)
                replace Nm := Lib.hid (Nm.out.ext hb)
                clear hb
                have x0 := MNa.out.c0
                have x1 := MNa.out.c1
                have x2 := MNa.out.c2
                have y0 := MNb.out.c0
                have y1 := MNb.out.c1
                have y2 := MNb.out.c2
                have z0 := MNc.out.c0
                have z1 := MNc.out.c1
                have z2 := MNc.out.c2
                have m0 := Nm.out.c0
                have m1 := Nm.out.c1
                have m2 := Nm.out.c2
                dsimp only at x0 x1 x2 y0 y1 y2 z0 z1 z2 m0 m1 m2
                go_wp2_with fail
                refine (with_at ⟨lo, hi, op⟩ ⟨lo2, hi2, op2⟩ true _ HC.out.1).mono ?_
                rintro e k10 ⟨rfl, hb⟩
                clear x0 x1 x2 y0 y1 y2 z0 z1 z2 m0 m1 m2
                replace Mbel := Lib.hid (Mbel.out.trans (hb.mono Mbel.out.size))
                replace MNa := Lib.hid (MNa.out.ext hb)
                replace MNb := Lib.hid (MNb.out.ext hb)
                replace MNc := Lib.hid (MNc.out.ext hb)
                replace Nm := Lib.hid (Nm.out.ext hb)
                clear hb
                have x0 := MNa.out.c0
                have x1 := MNa.out.c1
                have x2 := MNa.out.c2
                have y0 := MNb.out.c0
                have y1 := MNb.out.c1
                have y2 := MNb.out.c2
                have z0 := MNc.out.c0
                have z1 := MNc.out.c1
                have z2 := MNc.out.c2
                have m0 := Nm.out.c0
                have m1 := Nm.out.c1
                have m2 := Nm.out.c2
                dsimp only at x0 x1 x2 y0 y1 y2 z0 z1 z2 m0 m1 m2
                go_wp2_with fail
                refine (sure_any _ (HG.out.below Mbel.out)).mono ?_
                rintro e k11 ⟨rfl, hb⟩
                clear x0 x1 x2 y0 y1 y2 z0 z1 z2 m0 m1 m2
                replace Mbel := Lib.hid (Mbel.out.trans (hb.mono Mbel.out.size))
                replace MNa := Lib.hid (MNa.out.ext hb)
                replace MNb := Lib.hid (MNb.out.ext hb)
                replace MNc := Lib.hid (MNc.out.ext hb)
                replace Nm := Lib.hid (Nm.out.ext hb)
                clear hb
                have x0 := MNa.out.c0
                have x1 := MNa.out.c1
                have x2 := MNa.out.c2
                have y0 := MNb.out.c0
                have y1 := MNb.out.c1
                have y2 := MNb.out.c2
                have z0 := MNc.out.c0
                have z1 := MNc.out.c1
                have z2 := MNc.out.c2
                have m0 := Nm.out.c0
                have m1 := Nm.out.c1
                have m2 := Nm.out.c2
                dsimp only at x0 x1 x2 y0 y1 y2 z0 z1 z2 m0 m1 m2
                go_wp2_with fail
                go_ret
                exact ⟨rfl, Mbel.out⟩
              | true => as_aux_lemma =>
                have hT := HMZ.out hU hV
                have HC := Lib.hid (And.intro hP (And.intro hQ (And.intro hR (And.intro hU (And.intro hV (And.intro hT hE))))))
                clear hP hE hU hQ hR hV hT HMZ HTR
                refine (with_at ⟨lo, hi, op⟩ ⟨lo2, hi2, op2⟩ true _ HC.out.1).mono ?_
                rintro e k1 ⟨rfl, hb⟩
                replace Mbel := Lib.hid (Mbel.out.trans (hb.mono Mbel.out.size))
                replace MNa := Lib.hid (MNa.out.ext hb)
                replace MNb := Lib.hid (MNb.out.ext hb)
                replace MNc := Lib.hid (MNc.out.ext hb)
                replace Nm := Lib.hid (Nm.out.ext hb)
                clear hb
                have x0 := MNa.out.c0
                have x1 := MNa.out.c1
                have x2 := MNa.out.c2
                have y0 := MNb.out.c0
                have y1 := MNb.out.c1
                have y2 := MNb.out.c2
                have z0 := MNc.out.c0
                have z1 := MNc.out.c1
                have z2 := MNc.out.c2
                have m0 := Nm.out.c0
                have m1 := Nm.out.c1
                have m2 := Nm.out.c2
                dsimp only at x0 x1 x2 y0 y1 y2 z0 z1 z2 m0 m1 m2
                go_wp2_with fail
                refine (with_at ⟨lo2, hi2, op2⟩ ⟨lo3, hi3, op3⟩ true _ HC.out.2.1).mono ?_
                rintro e k2 ⟨rfl, hb⟩
                clear x0 x1 x2 y0 y1 y2 z0 z1 z2 m0 m1 m2
                replace Mbel := Lib.hid (Mbel.out.trans (hb.mono Mbel.out.size))
                replace MNa := Lib.hid (MNa.out.ext hb)
                replace MNb := Lib.hid (MNb.out.ext hb)
                replace MNc := Lib.hid (MNc.out.ext hb)
                replace Nm := Lib.hid (Nm.out.ext hb)
                clear hb
                have x0 := MNa.out.c0
                have x1 := MNa.out.c1
                have x2 := MNa.out.c2
                have y0 := MNb.out.c0
                have y1 := MNb.out.c1
                have y2 := MNb.out.c2
                have z0 := MNc.out.c0
                have z1 := MNc.out.c1
                have z2 := MNc.out.c2
                have m0 := Nm.out.c0
                have m1 := Nm.out.c1
                have m2 := Nm.out.c2
                dsimp only at x0 x1 x2 y0 y1 y2 z0 z1 z2 m0 m1 m2
                go_wp2_with fail
                refine (with_at ⟨lo, hi, op⟩ ⟨lo3, hi3, op3⟩ true _ HC.out.2.2.1).mono ?_
                rintro e k3 ⟨rfl, hb⟩
                clear x0 x1 x2 y0 y1 y2 z0 z1 z2 m0 m1 m2
                replace Mbel := Lib.hid (Mbel.out.trans (hb.mono Mbel.out.size))
                replace MNa := Lib.hid (MNa.out.ext hb)
                replace MNb := Lib.hid (MNb.out.ext hb)
                replace MNc := Lib.hid (MNc.out.ext hb)
                replace Nm := Lib.hid (Nm.out.ext hb)
                clear hb
                have x0 := MNa.out.c0
                have x1 := MNa.out.c1
                have x2 := MNa.out.c2
                have y0 := MNb.out.c0
                have y1 := MNb.out.c1
                have y2 := MNb.out.c2
                have z0 := MNc.out.c0
                have z1 := MNc.out.c1
                have z2 := MNc.out.c2
                have m0 := Nm.out.c0
                have m1 := Nm.out.c1
                have m2 := Nm.out.c2
                dsimp only at x0 x1 x2 y0 y1 y2 z0 z1 z2 m0 m1 m2
                go_wp2_with fail
                refine (with_at ⟨ml, mh, mo⟩ ⟨lo, hi, op⟩ true _ HM.out.2.1).mono ?_
                rintro e k4 ⟨rfl, hb⟩
                clear x0 x1 x2 y0 y1 y2 z0 z1 z2 m0 m1 m2
                replace Mbel := Lib.hid (Mbel.out.trans (hb.mono Mbel.out.size))
                replace MNa := Lib.hid (MNa.out.ext hb)
                replace MNb := Lib.hid (MNb.out.ext hb)
                replace MNc := Lib.hid (MNc.out.ext hb)
                replace Nm := Lib.hid (Nm.out.ext hb)
                clear hb
                have x0 := MNa.out.c0
                have x1 := MNa.out.c1
                have x2 := MNa.out.c2
                have y0 := MNb.out.c0
                have y1 := MNb.out.c1
                have y2 := MNb.out.c2
                have z0 := MNc.out.c0
                have z1 := MNc.out.c1
                have z2 := MNc.out.c2
                have m0 := Nm.out.c0
                have m1 := Nm.out.c1
                have m2 := Nm.out.c2
                dsimp only at x0 x1 x2 y0 y1 y2 z0 z1 z2 m0 m1 m2
                go_wp2_with fail
                refine (with_at ⟨ml, mh, mo⟩ ⟨lo2, hi2, op2⟩ true _ HM.out.2.2.1).mono ?_
                rintro e k5 ⟨rfl, hb⟩
                clear x0 x1 x2 y0 y1 y2 z0 z1 z2 m0 m1 m2
                replace Mbel := Lib.hid (Mbel.out.trans (hb.mono Mbel.out.size))
                replace MNa := Lib.hid (MNa.out.ext hb)
                replace MNb := Lib.hid (MNb.out.ext hb)
                replace MNc := Lib.hid (MNc.out.ext hb)
                replace Nm := Lib.hid (Nm.out.ext hb)
                clear hb
                have x0 := MNa.out.c0
                have x1 := MNa.out.c1
                have x2 := MNa.out.c2
                have y0 := MNb.out.c0
                have y1 := MNb.out.c1
                have y2 := MNb.out.c2
                have z0 := MNc.out.c0
                have z1 := MNc.out.c1
                have z2 := MNc.out.c2
                have m0 := Nm.out.c0
                have m1 := Nm.out.c1
                have m2 := Nm.out.c2
                dsimp only at x0 x1 x2 y0 y1 y2 z0 z1 z2 m0 m1 m2
                go_wp2_with fail
                refine (with_at ⟨lo3, hi3, op3⟩ ⟨lo, hi, op⟩ true _ HC.out.2.2.2.1).mono ?_
                rintro e k6 ⟨rfl, hb⟩
                clear x0 x1 x2 y0 y1 y2 z0 z1 z2 m0 m1 m2
                replace Mbel := Lib.hid (Mbel.out.trans (hb.mono Mbel.out.size))
                replace MNa := Lib.hid (MNa.out.ext hb)
                replace MNb := Lib.hid (MNb.out.ext hb)
                replace MNc := Lib.hid (MNc.out.ext hb)
                replace Nm := Lib.hid (Nm.out.ext hb)
                clear hb
                have x0 := MNa.out.c0
                have x1 := MNa.out.c1
                have x2 := MNa.out.c2
                have y0 := MNb.out.c0
                have y1 := MNb.out.c1
                have y2 := MNb.out.c2
                have z0 := MNc.out.c0
                have z1 := MNc.out.c1
                have z2 := MNc.out.c2
                have m0 := Nm.out.c0
                have m1 := Nm.out.c1
                have m2 := Nm.out.c2
                dsimp only at x0 x1 x2 y0 y1 y2 z0 z1 z2 m0 m1 m2
                go_wp2_with fail
                refine (with_at ⟨lo3, hi3, op3⟩ ⟨lo2, hi2, op2⟩ true _ HC.out.2.2.2.2.1).mono ?_
                rintro e k7 ⟨rfl, hb⟩
                clear x0 x1 x2 y0 y1 y2 z0 z1 z2 m0 m1 m2
                replace Mbel := Lib.hid (Mbel.out.trans (hb.mono Mbel.out.size))
                replace MNa := Lib.hid (MNa.out.ext hb)
                replace MNb := Lib.hid (MNb.out.ext hb)
                replace MNc := Lib.hid (MNc.out.ext hb)
                replace Nm := Lib.hid (Nm.out.ext hb)
                clear hb
                have x0 := MNa.out.c0
                have x1 := MNa.out.c1
                have x2 := MNa.out.c2
                have y0 := MNb.out.c0
                have y1 := MNb.out.c1
                have y2 := MNb.out.c2
                have z0 := MNc.out.c0
                have z1 := MNc.out.c1
                have z2 := MNc.out.c2
                have m0 := Nm.out.c0
                have m1 := Nm.out.c1
                have m2 := Nm.out.c2
                dsimp only at x0 x1 x2 y0 y1 y2 z0 z1 z2 m0 m1 m2
                go_wp2_with fail
                refine (with_at ⟨lo3, hi3, op3⟩ ⟨ml, mh, mo⟩ true _ HC.out.2.2.2.2.2.1).mono ?_
                rintro e k8 ⟨rfl, hb⟩
                clear x0 x1 x2 y0 y1 y2 z0 z1 z2 m0 m1 m2
                replace Mbel := Lib.hid (Mbel.out.trans (hb.mono Mbel.out.size))
                replace MNa := Lib.hid (MNa.out.ext hb)
                replace MNb := Lib.hid (MNb.out.ext hb)
                replace MNc := Lib.hid (MNc.out.ext hb)
                replace Nm := Lib.hid (Nm.out.ext hb)
                clear hb
                have x0 := MNa.out.c0
                have x1 := MNa.out.c1
                have x2 := MNa.out.c2
                have y0 := MNb.out.c0
                have y1 := MNb.out.c1
                have y2 := MNb.out.c2
                have z0 := MNc.out.c0
                have z1 := MNc.out.c1
                have z2 := MNc.out.c2
                have m0 := Nm.out.c0
                have m1 := Nm.out.c1
                have m2 := Nm.out.c2
                dsimp only at x0 x1 x2 y0 y1 y2 z0 z1 z2 m0 m1 m2
                go_wp2_with fail
                refine (with_at ⟨lo, hi, op⟩ ⟨lo, hi, op⟩ true _ HM.out.2.2.2).mono ?_
                rintro e k9 ⟨rfl, hb⟩
                clear x0 x1 x2 y0 y1 y2 z0 z1 z2 m0 m1 m2
                replace Mbel := Lib.hid (Mbel.out.trans (hb.mono Mbel.out.size))
                replace MNa := Lib.hid (MNa.out.ext hb)
                replace MNb := Lib.hid (MNb.out.ext hb)
                replace MNc := Lib.hid (MNc.out.ext hb)
                replace Nm := Lib.hid (Nm.out.ext hb)
                clear hb
                have x0 := MNa.out.c0
                have x1 := MNa.out.c1
                have x2 := MNa.out.c2
                have y0 := MNb.out.c0
                have y1 := MNb.out.c1
                have y2 := MNb.out.c2
                have z0 := MNc.out.c0
                have z1 := MNc.out.c1
                have z2 := MNc.out.c2
                have m0 := Nm.out.c0
                have m1 := Nm.out.c1
                have m2 := Nm.out.c2
                dsimp only at x0 x1 x2 y0 y1 y2 z0 z1 z2 m0 m1 m2
                go_wp2_with fail
                refine (emp_at _ _ _ true _ HC.out.2.2.2.2.2.2).mono ?_
                rintro e k10 ⟨rfl, hb⟩
                clear x0 x1 x2 y0 y1 y2 z0 z1 z2 m0 m1 m2
                replace Mbel := Lib.hid (Mbel.out.trans (hb.mono Mbel.out.size))
                replace MNa := Lib.hid (MNa.out.ext hb)
                replace MNb := Lib.hid (MNb.out.ext hb)
                replace MNc := Lib.hid (MNc.out.ext hb)
                replace Nm := Lib.hid (Nm.out.ext hb)
                clear hb
                have x0 := MNa.out.c0
                have x1 := MNa.out.c1
                have x2 := MNa.out.c2
                have y0 := MNb.out.c0
                have y1 := MNb.out.c1
                have y2 := MNb.out.c2
                have z0 := MNc.out.c0
                have z1 := MNc.out.c1
                have z2 := MNc.out.c2
                have m0 := Nm.out.c0
                have m1 := Nm.out.c1
                have m2 := Nm.out.c2
                dsimp only at x0 x1 x2 y0 y1 y2 z0 z1 z2 m0 m1 m2
                go_wp2_with fail
                refine (with_at ⟨lo, hi, op⟩ ⟨lo2, hi2, op2⟩ true _ HC.out.1).mono ?_
                rintro e k11 ⟨rfl, hb⟩
                clear x0 x1 x2 y0 y1 y2 z0 z1 z2 m0 m1 m2
                replace Mbel := Lib.hid (Mbel.out.trans (hb.mono Mbel.out.size))
                replace MNa := Lib.hid (MNa.out.ext hb)
                replace MNb := Lib.hid (MNb.out.ext hb)
                replace MNc := Lib.hid (MNc.out.ext hb)
                replace Nm := Lib.hid (Nm.out.ext hb)
                clear hb
                have x0 := MNa.out.c0
                have x1 := MNa.out.c1
                have x2 := MNa.out.c2
                have y0 := MNb.out.c0
                have y1 := MNb.out.c1
                have y2 := MNb.out.c2
                have z0 := MNc.out.c0
                have z1 := MNc.out.c1
                have z2 := MNc.out.c2
                have m0 := Nm.out.c0
                have m1 := Nm.out.c1
                have m2 := Nm.out.c2
                dsimp only at x0 x1 x2 y0 y1 y2 z0 z1 z2 m0 m1 m2
                go_wp2_with fail
                refine (sure_any _ (HG.out.below Mbel.out)).mono ?_
                rintro e k12 ⟨rfl, hb⟩
                clear x0 x1 x2 y0 y1 y2 z0 z1 z2 m0 m1 m2
                replace Mbel := Lib.hid (Mbel.out.trans (hb.mono Mbel.out.size))
                replace MNa := Lib.hid (MNa.out.ext hb)
                replace MNb := Lib.hid (MNb.out.ext hb)
                replace MNc := Lib.hid (MNc.out.ext hb)
                replace Nm := Lib.hid (Nm.out.ext hb)
                clear hb
                have x0 := MNa.out.c0
                have x1 := MNa.out.c1
                have x2 := MNa.out.c2
                have y0 := MNb.out.c0
                have y1 := MNb.out.c1
                have y2 := MNb.out.c2
                have z0 := MNc.out.c0
                have z1 := MNc.out.c1
                have z2 := MNc.out.c2
                have m0 := Nm.out.c0
                have m1 := Nm.out.c1
                have m2 := Nm.out.c2
                dsimp only at x0 x1 x2 y0 y1 y2 z0 z1 z2 m0 m1 m2
                go_wp2_with fail
                go_ret
                exact ⟨rfl, Mbel.out⟩
          | false =>
            cases hU : withS ⟨lo3, hi3, op3⟩ ⟨lo, hi, op⟩ with
            | false => as_aux_lemma =>
              have HC := Lib.hid (And.intro hP (And.intro hQ (And.intro hP (And.intro hU (And.intro hU (And.intro hU hE))))))
              clear hP hE hU hQ HMZ HTR
              refine (with_at ⟨lo, hi, op⟩ ⟨lo2, hi2, op2⟩ true _ HC.out.1).mono ?_
              rintro e k1 ⟨rfl, hb⟩
              replace Mbel := Lib.hid (Mbel.out.trans (hb.mono Mbel.out.size))
              replace MNa := Lib.hid (MNa.out.ext hb)
              replace MNb := Lib.hid (MNb.out.ext hb)
              replace MNc := Lib.hid (MNc.out.ext hb)
              replace Nm := Lib.hid (Nm.out.ext hb)
              clear hb
              have x0 := MNa.out.c0
              have x1 := MNa.out.c1
              have x2 := MNa.out.c2
              have y0 := MNb.out.c0
              have y1 := MNb.out.c1
              have y2 := MNb.out.c2
              have z0 := MNc.out.c0
              have z1 := MNc.out.c1
              have z2 := MNc.out.c2
              have m0 := Nm.out.c0
              have m1 := Nm.out.c1
              have m2 := Nm.out.c2
              dsimp only at x0 x1 x2 y0 y1 y2 z0 z1 z2 m0 m1 m2
              go_wp2_with fail
              refine (with_at ⟨lo2, hi2, op2⟩ ⟨lo3, hi3, op3⟩ false _ HC.out.2.1).mono ?_
              rintro e k2 ⟨rfl, hb⟩
              clear x0 x1 x2 y0 y1 y2 z0 z1 z2 m0 m1 m2
              replace Mbel := Lib.hid (Mbel.out.trans (hb.mono Mbel.out.size))
              replace MNa := Lib.hid (MNa.out.ext hb)
              replace MNb := Lib.hid (MNb.out.ext hb)
              replace MNc := Lib.hid (MNc.out.ext hb)
              replace Nm := Lib.hid (Nm.out.ext hb)
              clear hb
              have x0 := MNa.out.c0
              have x1 := MNa.out.c1
              have x2 := MNa.out.c2
              have y0 := MNb.out.c0
              have y1 := MNb.out.c1
              have y2 := MNb.out.c2
              have z0 := MNc.out.c0
              have z1 := MNc.out.c1
              have z2 := MNc.out.c2
              have m0 := Nm.out.c0
              have m1 := Nm.out.c1
              have m2 := Nm.out.c2
              dsimp only at x0 x1 x2 y0 y1 y2 z0 z1 z2 m0 m1 m2
              go_wp2_with fail
              refine (with_at ⟨ml, mh, mo⟩ ⟨lo, hi, op⟩ true _ HM.out.2.1).mono ?_
              rintro e k3 ⟨rfl, hb⟩
              clear x0 x1 x2 y0 y1 y2 z0 z1 z2 m0 m1 m2
              replace Mbel := Lib.hid (Mbel.out.trans (hb.mono Mbel.out.size))
              replace MNa := Lib.hid (MNa.out.ext hb)
              replace MNb := Lib.hid (MNb.out.ext hb)
              replace MNc := Lib.hid (MNc.out.ext hb)
              replace Nm := Lib.hid (Nm.out.ext hb)
              clear hb
              have x0 := MNa.out.c0
              have x1 := MNa.out.c1
              have x2 := MNa.out.c2
              have y0 := MNb.out.c0
              have y1 := MNb.out.c1
              have y2 := MNb.out.c2
              have z0 := MNc.out.c0
              have z1 := MNc.out.c1
              have z2 := MNc.out.c2
              have m0 := Nm.out.c0
              have m1 := Nm.out.c1
              have m2 := Nm.out.c2
              dsimp only at x0 x1 x2 y0 y1 y2 z0 z1 z2 m0 m1 m2
              go_wp2_with fail
              refine (with_at ⟨ml, mh, mo⟩ ⟨lo2, hi2, op2⟩ true _ HM.out.2.2.1).mono ?_
              rintro e k4 ⟨rfl, hb⟩
              clear x0 x1 x2 y0 y1 y2 z0 z1 z2 m0 m1 m2
              replace Mbel := Lib.hid (Mbel.out.trans (hb.mono Mbel.out.size))
              replace MNa := Lib.hid (MNa.out.ext hb)
              replace MNb := Lib.hid (MNb.out.ext hb)
              replace MNc := Lib.hid (MNc.out.ext hb)
              replace Nm := Lib.hid (Nm.out.ext hb)
              clear hb
              have x0 := MNa.out.c0
              have x1 := MNa.out.c1
              have x2 := MNa.out.c2
              have y0 := MNb.out.c0
              have y1 := MNb.out.c1
              have y2 := MNb.out.c2
              have z0 := MNc.out.c0
              have z1 := MNc.out.c1
              have z2 := MNc.out.c2
              have m0 := Nm.out.c0
              have m1 := Nm.out.c1
              have m2 := Nm.out.c2
              dsimp only at x0 x1 x2 y0 y1 y2 z0 z1 z2 m0 m1 m2
              go_wp2_with fail
              refine (with_at ⟨lo3, hi3, op3⟩ ⟨lo, hi, op⟩ false _ HC.out.2.2.2.1).mono ?_
              rintro e k5 ⟨rfl, hb⟩
              clear x0 x1 x2 y0 y1 y2 z0 z1 z2 m0 m1 m2
              replace Mbel := Lib.hid (Mbel.out.trans (hb.mono Mbel.out.size))
              replace MNa := Lib.hid (MNa.out.ext hb)
              replace MNb := Lib.hid (MNb.out.ext hb)
              replace MNc := Lib.hid (MNc.out.ext hb)
              replace Nm := Lib.hid (Nm.out.ext hb)
              clear hb
              have x0 := MNa.out.c0
              have x1 := MNa.out.c1
              have x2 := MNa.out.c2
              have y0 := MNb.out.c0
              have y1 := MNb.out.c1
              have y2 := MNb.out.c2
              have z0 := MNc.out.c0
              have z1 := MNc.out.c1
              have z2 := MNc.out.c2
              have m0 := Nm.out.c0
              have m1 := Nm.out.c1
              have m2 := Nm.out.c2
              dsimp only at x0 x1 x2 y0 y1 y2 z0 z1 z2 m0 m1 m2
              go_wp2_with fail
              refine (with_at ⟨lo, hi, op⟩ ⟨lo, hi, op⟩ true _ HM.out.2.2.2).mono ?_
              rintro e k6 ⟨rfl, hb⟩
              clear x0 x1 x2 y0 y1 y2 z0 z1 z2 m0 m1 m2
              replace Mbel := Lib.hid (Mbel.out.trans (hb.mono Mbel.out.size))
              replace MNa := Lib.hid (MNa.out.ext hb)
              replace MNb := Lib.hid (MNb.out.ext hb)
              replace MNc := Lib.hid (MNc.out.ext hb)
              replace Nm := Lib.hid (Nm.out.ext hb)
              clear hb
              have x0 := MNa.out.c0
              have x1 := MNa.out.c1
              have x2 := MNa.out.c2
              have y0 := MNb.out.c0
              have y1 := MNb.out.c1
              have y2 := MNb.out.c2
              have z0 := MNc.out.c0
              have z1 := MNc.out.c1
              have z2 := MNc.out.c2
              have m0 := Nm.out.c0
              have m1 := Nm.out.c1
              have m2 := Nm.out.c2
              dsimp only at x0 x1 x2 y0 y1 y2 z0 z1 z2 m0 m1 m2
              go_wp2_with fail
              refine (emp_at _ _ _ true _ HC.out.2.2.2.2.2.2).mono ?_
              rintro e k7 ⟨rfl, hb⟩
              clear x0 x1 x2 y0 y1 y2 z0 z1 z2 m0 m1 m2
              replace Mbel := Lib.hid (Mbel.out.trans (hb.mono Mbel.out.size))
              replace MNa := Lib.hid (MNa.out.ext hb)
              replace MNb := Lib.hid (MNb.out.ext hb)
              replace MNc := Lib.hid (MNc.out.ext hb)
              replace Nm := Lib.hid (Nm.out.ext hb)
              clear hb
              have x0 := MNa.out.c0
              have x1 := MNa.out.c1
              have x2 := MNa.out.c2
              have y0 := MNb.out.c0
              have y1 := MNb.out.c1
              have y2 := MNb.out.c2
              have z0 := MNc.out.c0
              have z1 := MNc.out.c1
              have z2 := MNc.out.c2
              have m0 := Nm.out.c0
              have m1 := Nm.out.c1
              have m2 := Nm.out.c2
              dsimp only at x0 x1 x2 y0 y1 y2 z0 z1 z2 m0 m1 m2
              go_wp2_with fail
              refine (with_at ⟨lo, hi, op⟩ ⟨lo2, hi2, op2⟩ true _ HC.out.1).mono ?_
              rintro e k8 ⟨rfl, hb⟩
              clear x0 x1 x2 y0 y1 y2 z0 z1 z2 m0 m1 m2
              replace Mbel := Lib.hid (Mbel.out.trans (hb.mono Mbel.out.size))
              replace MNa := Lib.hid (MNa.out.ext hb)
              replace MNb := Lib.hid (MNb.out.ext hb)
              replace MNc := Lib.hid (MNc.out.ext hb)
              replace Nm := Lib.hid (Nm.out.ext hb)
              clear hb
              have x0 := MNa.out.c0
              have x1 := MNa.out.c1
              have x2 := MNa.out.c2
              have y0 := MNb.out.c0
              have y1 := MNb.out.c1
              have y2 := MNb.out.c2
              have z0 := MNc.out.c0
              have z1 := MNc.out.c1
              have z2 := MNc.out.c2
              have m0 := Nm.out.c0
              have m1 := Nm.out.c1
              have m2 := Nm.out.c2
              dsimp only at x0 x1 x2 y0 y1 y2 z0 z1 z2 m0 m1 m2
              go_wp2_with fail
              refine (sure_any _ (HG.out.below Mbel.out)).mono ?_
              rintro e k9 ⟨rfl, hb⟩
              clear x0 x1 x2 y0 y1 y2 z0 z1 z2 m0 m1 m2
              replace Mbel := Lib.hid (Mbel.out.trans (hb.mono Mbel.out.size))
              replace MNa := Lib.hid (MNa.out.ext hb)
              replace MNb := Lib.hid (MNb.out.ext hb)
              replace MNc := Lib.hid (MNc.out.ext hb)
              replace Nm := Lib.hid (Nm.out.ext hb)
              clear hb
              have x0 := MNa.out.c0
              have x1 := MNa.out.c1
              have x2 := MNa.out.c2
              have y0 := MNb.out.c0
              have y1 := MNb.out.c1
              have y2 := MNb.out.c2
              have z0 := MNc.out.c0
              have z1 := MNc.out.c1
              have z2 := MNc.out.c2
              have m0 := Nm.out.c0
              have m1 := Nm.out.c1
              have m2 := Nm.out.c2
              dsimp only at x0 x1 x2 y0 y1 y2 z0 z1 z2 m0 m1 m2
              go_wp2_with fail
              go_ret
              exact ⟨rfl, Mbel.out⟩
            | true =>
              cases hV : withS ⟨lo3, hi3, op3⟩ ⟨lo2, hi2, op2⟩ with
              | false => as_aux_lemma =>
                have HC := Lib.hid (And.intro hP (And.intro hQ (And.intro hP (And.intro hU (And.intro hV (And.intro hU hE))))))
                clear hP hE hU hQ hV HMZ HTR
                refine (with_at ⟨lo, hi, op⟩ ⟨lo2, hi2, op2⟩ true _ HC.out.1).mono ?_
                rintro e k1 ⟨rfl, hb⟩
                replace Mbel := Lib.hid (Mbel.out.trans (hb.mono Mbel.out.size))
                replace MNa := Lib.hid (MNa.out.ext hb)
                replace MNb := Lib.hid (MNb.out.ext hb)
                replace MNc := Lib.hid (MNc.out.ext hb)
                replace Nm := Lib.hid (Nm.out.ext hb)
                clear hb
                have x0 := MNa.out.c0
                have x1 := MNa.out.c1
                have x2 := MNa.out.c2
                have y0 := MNb.out.c0
                have y1 := MNb.out.c1
                have y2 := MNb.out.c2
                have z0 := MNc.out.c0
                have z1 := MNc.out.c1
                have z2 := MNc.out.c2
                have m0 := Nm.out.c0
                have m1 := Nm.out.c1
                have m2 := Nm.out.c2
                dsimp only at x0 x1 x2 y0 y1 y2 z0 z1 z2 m0 m1 m2
                go_wp2_with fail
                refine (with_at ⟨lo2, hi2, op2⟩ ⟨lo3, hi3, op3⟩ false _ HC.out.2.1).mono ?_
                rintro e k2 ⟨rfl, hb⟩
                clear x0 x1 x2 y0 y1 y2 z0 z1 z2 m0 m1 m2
                replace Mbel := Lib.hid (Mbel.out.trans (hb.mono Mbel.out.size))
                replace MNa := Lib.hid (MNa.out.ext hb)
                replace MNb := Lib.hid (MNb.out.ext hb)
                replace MNc := Lib.hid (MNc.out.ext hb)
                replace Nm := Lib.hid (Nm.out.ext hb)
                clear hb
                have x0 := MNa.out.c0
                have x1 := MNa.out.c1
                have x2 := MNa.out.c2
                have y0 := MNb.out.c0
                have y1 := MNb.out.c1
                have y2 := MNb.out.c2
                have z0 := MNc.out.c0
                have z1 := MNc.out.c1
                have z2 := MNc.out.c2
                have m0 := Nm.out.c0
                have m1 := Nm.out.c1
                have m2 := Nm.out.c2
                dsimp only at x0 x1 x2 y0 y1 y2 z0 z1 z2 m0 m1 m2
                go_wp2_with fail
                refine (with_at ⟨ml, mh, mo⟩ ⟨lo, hi, op⟩ true _ HM.out.2.1).mono ?_
                rintro e k3 ⟨rfl, hb⟩
                clear x0 x1 x2 y0 y1 y2 z0 z1 z2 m0 m1 m2
                replace Mbel := Lib.hid (Mbel.out.trans (hb.mono Mbel.out.size))
                replace MNa := Lib.hid (MNa.out.ext hb)
                replace MNb := Lib.hid (MNb.out.ext hb)
                replace MNc := Lib.hid (MNc.out.ext hb)
                replace Nm := Lib.hid (Nm.out.ext hb)
                clear hb
                have x0 := MNa.out.c0
                have x1 := MNa.out.c1
                have x2 := MNa.out.c2
                have y0 := MNb.out.c0
                have y1 := MNb.out.c1
                have y2 := MNb.out.c2
                have z0 := MNc.out.c0
                have z1 := MNc.out.c1
                have z2 := MNc.out.c2
                have m0 := Nm.out.c0
                have m1 := Nm.out.c1
                have m2 := Nm.out.c2
                dsimp only at x0 x1 x2 y0 y1 y2 z0 z1 z2 m0 m1 m2
                go_wp2_with fail
                refine (with_at ⟨ml, mh, mo⟩ ⟨lo2, hi2, op2⟩ true _ HM.out.2.2.1).mono ?_
                rintro e k4 ⟨rfl, hb⟩
                clear x0 x1 x2 y0 y1 y2 z0 z1 z2 m0 m1 m2
                replace Mbel := Lib.hid (Mbel.out.trans (hb.mono Mbel.out.size))
                replace MNa := Lib.hid (MNa.out.ext hb)
                replace MNb := Lib.hid (MNb.out.ext hb)
                replace MNc := Lib.hid (MNc.out.ext hb)
                replace Nm := Lib.hid (Nm.out.ext hb)
                clear hb
                have x0 := MNa.out.c0
                have x1 := MNa.out.c1
                have x2 := MNa.out.c2
                have y0 := MNb.out.c0
                have y1 := MNb.out.c1
                have y2 := MNb.out.c2
                have z0 := MNc.out.c0
                have z1 := MNc.out.c1
                have z2 := MNc.out.c2
                have m0 := Nm.out.c0
                have m1 := Nm.out.c1
                have m2 := Nm.out.c2
                dsimp only at x0 x1 x2 y0 y1 y2 z0 z1 z2 m0 m1 m2
                go_wp2_with fail
                refine (with_at ⟨lo3, hi3, op3⟩ ⟨lo, hi, op⟩ true _ HC.out.2.2.2.1).mono ?_
                rintro e k5 ⟨rfl, hb⟩
                clear x0 x1 x2 y0 y1 y2 z0 z1 z2 m0 m1 m2
                replace Mbel := Lib.hid (Mbel.out.trans (hb.mono Mbel.out.size))
                replace MNa := Lib.hid (MNa.out.ext hb)
                replace MNb := Lib.hid (MNb.out.ext hb)
                replace MNc := Lib.hid (MNc.out.ext hb)
                replace Nm := Lib.hid (Nm.out.ext hb)
                clear hb
                have x0 := MNa.out.c0
                have x1 := MNa.out.c1
                have x2 := MNa.out.c2
                have y0 := MNb.out.c0
                have y1 := MNb.out.c1
                have y2 := MNb.out.c2
                have z0 := MNc.out.c0
                have z1 := MNc.out.c1
                have z2 := MNc.out.c2
                have m0 := Nm.out.c0
                have m1 := Nm.out.c1
                have m2 := Nm.out.c2
                dsimp only at x0 x1 x2 y0 y1 y2 z0 z1 z2 m0 m1 m2
                go_wp2_with fail
                refine (with_at ⟨lo3, hi3, op3⟩ ⟨lo2, hi2, op2⟩ false _ HC.out.2.2.2.2.1).mono ?_
                rintro e k6 ⟨rfl, hb⟩
                clear x0 x1 x2 y0 y1 y2 z0 z1 z2 m0 m1 m2
                replace Mbel := Lib.hid (Mbel.out.trans (hb.mono Mbel.out.size))
                replace MNa := Lib.hid (MNa.out.ext hb)
                replace MNb := Lib.hid (MNb.out.ext hb)
                replace MNc := Lib.hid (MNc.out.ext hb)
                replace Nm := Lib.hid (Nm.out.ext hb)
                clear hb
                have x0 := MNa.out.c0
                have x1 := MNa.out.c1
                have x2 := MNa.out.c2
                have y0 := MNb.out.c0
                have y1 := MNb.out.c1
                have y2 := MNb.out.c2
                have z0 := MNc.out.c0
                have z1 := MNc.out.c1
                have z2 := MNc.out.c2
                have m0 := Nm.out.c0
                have m1 := Nm.out.c1
                have m2 := Nm.out.c2
                dsimp only at x0 x1 x2 y0 y1 y2 z0 z1 z2 m0 m1 m2
                go_wp2_with fail
                refine (with_at ⟨lo, hi, op⟩ ⟨lo, hi, op⟩ true _ HM.out.2.2.2).mono ?_
                rintro e k7 ⟨rfl, hb⟩
                clear x0 x1 x2 y0 y1 y2 z0 z1 z2 m0 m1 m2
                replace Mbel := Lib.hid (Mbel.out.trans (hb.mono Mbel.out.size))
                replace MNa := Lib.hid (MNa.out.ext hb)
                replace MNb := Lib.hid (MNb.out.ext hb)
                replace MNc := Lib.hid (MNc.out.ext hb)
                replace Nm := Lib.hid (Nm.out.ext hb)
                clear hb
                have x0 := MNa.out.c0
                have x1 := MNa.out.c1
                have x2 := MNa.out.c2
                have y0 := MNb.out.c0
                have y1 := MNb.out.c1
                have y2 := MNb.out.c2
                have z0 := MNc.out.c0
                have z1 := MNc.out.c1
                have z2 := MNc.out.c2
                have m0 := Nm.out.c0
                have m1 := Nm.out.c1
                have m2 := Nm.out.c2
                dsimp only at x0 x1 x2 y0 y1 y2 z0 z1 z2 m0 m1 m2
                go_wp2_with fail
                refine (emp_at _ _ _ true _ HC.out.2.2.2.2.2.2).mono ?_
                rintro e k8 ⟨rfl, hb⟩
                clear x0 x1 x2 y0 y1 y2 z0 z1 z2 m0 m1 m2
                replace Mbel := Lib.hid (Mbel.out.trans (hb.mono Mbel.out.size))
                replace MNa := Lib.hid (MNa.out.ext hb)
                replace MNb := Lib.hid (MNb.out.ext hb)
                replace MNc := Lib.hid (MNc.out.ext hb)
                replace Nm := Lib.hid (Nm.out.ext hb)
                clear hb
                have x0 := MNa.out.c0
                have x1 := MNa.out.c1
                have x2 := MNa.out.c2
                have y0 := MNb.out.c0
                have y1 := MNb.out.c1
                have y2 := MNb.out.c2
                have z0 := MNc.out.c0
                have z1 := MNc.out.c1
                have z2 := MNc.out.c2
                have m0 := Nm.out.c0
                have m1 := Nm.out.c1
                have m2 := Nm.out.c2
                dsimp only at x0 x1 x2 y0 y1 y2 z0 z1 z2 m0 m1 m2
                go_wp2_with fail
                refine (with_at ⟨lo, hi, op⟩ ⟨lo2, hi2, op2⟩ true _ HC.out.1).mono ?_
                rintro e k9 ⟨rfl, hb⟩
                clear x0 x1 x2 y0 y1 y2 z0 z1 z2 m0 m1 m2
                replace Mbel := Lib.hid (Mbel.out.trans (hb.mono Mbel.out.size))
                replace MNa := Lib.hid (MNa.out.ext hb)
                replace MNb := Lib.hid (MNb.out.ext hb)
                replace MNc := Lib.hid (MNc.out.ext hb)
                replace Nm := Lib.hid (Nm.out.ext hb)
                clear hb
                have x0 := MNa.out.c0
                have x1 := MNa.out.c1
                have x2 := MNa.out.c2
                have y0 := MNb.out.c0
                have y1 := MNb.out.c1
                have y2 := MNb.out.c2
                have z0 := MNc.out.c0
                have z1 := MNc.out.c1
                have z2 := MNc.out.c2
                have m0 := Nm.out.c0
                have m1 := Nm.out.c1
                have m2 := Nm.out.c2
                dsimp only at x0 x1 x2 y0 y1 y2 z0 z1 z2 m0 m1 m2
                go_wp2_with fail
                refine (sure_any _ (HG.out.below Mbel.out)).mono ?_
                rintro e k10 ⟨rfl, hb⟩
                clear x0 x1 x2 y0 y1 y2 z0 z1 z2 m0 m1 m2
                replace Mbel := Lib.hid (Mbel.out.trans (hb.mono Mbel.out.size))
                replace MNa := Lib.hid (MNa.out.ext hb)
                replace MNb := Lib.hid (MNb.out.ext hb)
                replace MNc := Lib.hid (MNc.out.ext hb)
                replace Nm := Lib.hid (Nm.out.ext hb)
                clear hb
                have x0 := MNa.out.c0
                have x1 := MNa.out.c1
                have x2 := MNa.out.c2
                have y0 := MNb.out.c0
                have y1 := MNb.out.c1
                have y2 := MNb.out.c2
                have z0 := MNc.out.c0
                have z1 := MNc.out.c1
                have z2 := MNc.out.c2
                have m0 := Nm.out.c0
                have m1 := Nm.out.c1
                have m2 := Nm.out.c2
                dsimp only at x0 x1 x2 y0 y1 y2 z0 z1 z2 m0 m1 m2
                go_wp2_with fail
                go_ret
                exact ⟨rfl, Mbel.out⟩
              | true => as_aux_lemma =>
                have hT := HMZ.out hU hV
                have HC := Lib.hid (And.intro hP (And.intro hQ (And.intro hP (And.intro hU (And.intro hV (And.intro hT hE))))))
                clear hP hE hU hQ hV hT HMZ HTR
                refine (with_at ⟨lo, hi, op⟩ ⟨lo2, hi2, op2⟩ true _ HC.out.1).mono ?_
                rintro e k1 ⟨rfl, hb⟩
                replace Mbel := Lib.hid (Mbel.out.trans (hb.mono Mbel.out.size))
                replace MNa := Lib.hid (MNa.out.ext hb)
                replace MNb := Lib.hid (MNb.out.ext hb)
                replace MNc := Lib.hid (MNc.out.ext hb)
                replace Nm := Lib.hid (Nm.out.ext hb)
                clear hb
                have x0 := MNa.out.c0
                have x1 := MNa.out.c1
                have x2 := MNa.out.c2
                have y0 := MNb.out.c0
                have y1 := MNb.out.c1
                have y2 := MNb.out.c2
                have z0 := MNc.out.c0
                have z1 := MNc.out.c1
                have z2 := MNc.out.c2
                have m0 := Nm.out.c0
                have m1 := Nm.out.c1
                have m2 := Nm.out.c2
                dsimp only at x0 x1 x2 y0 y1 y2 z0 z1 z2 m0 m1 m2
                go_wp2_with fail
                refine (with_at ⟨lo2, hi2, op2⟩ ⟨lo3, hi3, op3⟩ false _ HC.out.2.1).mono ?_
                rintro e k2 ⟨rfl, hb⟩
                clear x0 x1 x2 y0 y1 y2 z0 z1 z2 m0 m1 m2
                replace Mbel := Lib.hid (Mbel.out.trans (hb.mono Mbel.out.size))
                replace MNa := Lib.hid (MNa.out.ext hb)
                replace MNb := Lib.hid (MNb.out.ext hb)
                replace MNc := Lib.hid (MNc.out.ext hb)
                replace Nm := Lib.hid (Nm.out.ext hb)
                clear hb
                have x0 := MNa.out.c0
                have x1 := MNa.out.c1
                have x2 := MNa.out.c2
                have y0 := MNb.out.c0
                have y1 := MNb.out.c1
                have y2 := MNb.out.c2
                have z0 := MNc.out.c0
                have z1 := MNc.out.c1
                have z2 := MNc.out.c2
                have m0 := Nm.out.c0
                have m1 := Nm.out.c1
                have m2 := Nm.out.c2
                dsimp only at x0 x1 x2 y0 y1 y2 z0 z1 z2 m0 m1 m2
                go_wp2_with fail
                refine (with_at ⟨ml, mh, mo⟩ ⟨lo, hi, op⟩ true _ HM.out.2.1).mono ?_
                rintro e k3 ⟨rfl, hb⟩
                clear x0 x1 x2 y0 y1 y2 z0 z1 z2 m0 m1 m2
                replace Mbel := Lib.hid (Mbel.out.trans (hb.mono Mbel.out.size))
                replace MNa := Lib.hid (MNa.out.ext hb)
                replace MNb := Lib.hid (MNb.out.ext hb)
                replace MNc := Lib.hid (MNc.out.ext hb)
                replace Nm := Lib.hid (Nm.out.ext hb)
                clear hb
                have x0 := MNa.out.c0
                have x1 := MNa.out.c1
                have x2 := MNa.out.c2
                have y0 := MNb.out.c0
                have y1 := MNb.out.c1
                have y2 := MNb.out.c2
                have z0 := MNc.out.c0
                have z1 := MNc.out.c1
                have z2 := MNc.out.c2
                have m0 := Nm.out.c0
                have m1 := Nm.out.c1
                have m2 := Nm.out.c2
                dsimp only at x0 x1 x2 y0 y1 y2 z0 z1 z2 m0 m1 m2
                go_wp2_with fail
                refine (with_at ⟨ml, mh, mo⟩ ⟨lo2, hi2, op2⟩ true _ HM.out.2.2.1).mono ?_
                rintro e k4 ⟨rfl, hb⟩
                clear x0 x1 x2 y0 y1 y2 z0 z1 z2 m0 m1 m2
                replace Mbel := Lib.hid (Mbel.out.trans (hb.mono Mbel.out.size))
                replace MNa := Lib.hid (MNa.out.ext hb)
                replace MNb := Lib.hid (MNb.out.ext hb)
                replace MNc := Lib.hid (MNc.out.ext hb)
                replace Nm := Lib.hid (Nm.out.ext hb)
                clear hb
                have x0 := MNa.out.c0
                have x1 := MNa.out.c1
                have x2 := MNa.out.c2
                have y0 := MNb.out.c0
                have y1 := MNb.out.c1
                have y2 := MNb.out.c2
                have z0 := MNc.out.c0
                have z1 := MNc.out.c1
                have z2 := MNc.out.c2
                have m0 := Nm.out.c0
                have m1 := Nm.out.c1
                have m2 := Nm.out.c2
                dsimp only at x0 x1 x2 y0 y1 y2 z0 z1 z2 m0 m1 m2
                go_wp2_with fail
                refine (with_at ⟨lo3, hi3, op3⟩ ⟨lo, hi, op⟩ true _ HC.out.2.2.2.1).mono ?_
                rintro e k5 ⟨rfl, hb⟩
                clear x0 x1 x2 y0 y1 y2 z0 z1 z2 m0 m1 m2
                replace Mbel := Lib.hid (Mbel.out.trans (hb.mono Mbel.out.size))
                replace MNa := Lib.hid (MNa.out.ext hb)
                replace MNb := Lib.hid (MNb.out.ext hb)
                replace MNc := Lib.hid (MNc.out.ext hb)
                replace Nm := Lib.hid (Nm.out.ext hb)
                clear hb
                have x0 := MNa.out.c0
                have x1 := MNa.out.c1
                have x2 := MNa.out.c2
                have y0 := MNb.out.c0
                have y1 := MNb.out.c1
                have y2 := MNb.out.c2
                have z0 := MNc.out.c0
                have z1 := MNc.out.c1
                have z2 := MNc.out.c2
                have m0 := Nm.out.c0
                have m1 := Nm.out.c1
                have m2 := Nm.out.c2
                dsimp only at x0 x1 x2 y0 y1 y2 z0 z1 z2 m0 m1 m2
                go_wp2_with fail
                refine (with_at ⟨lo3, hi3, op3⟩ ⟨lo2, hi2, op2⟩ true _ HC.out.2.2.2.2.1).mono ?_
                rintro e k6 ⟨rfl, hb⟩
                clear x0 x1 x2 y0 y1 y2 z0 z1 z2 m0 m1 m2
                replace Mbel := Lib.hid (Mbel.out.trans (hb.mono Mbel.out.size))
                replace MNa := Lib.hid (MNa.out.ext hb)
                replace MNb := Lib.hid (MNb.out.ext hb)
                replace MNc := Lib.hid (MNc.out.ext hb)
                replace Nm := Lib.hid (Nm.out.ext hb)
                clear hb
                have x0 := MNa.out.c0
                have x1 := MNa.out.c1
                have x2 := MNa.out.c2
                have y0 := MNb.out.c0
                have y1 := MNb.out.c1
                have y2 := MNb.out.c2
                have z0 := MNc.out.c0
                have z1 := MNc.out.c1
                have z2 := MNc.out.c2
                have m0 := Nm.out.c0
                have m1 := Nm.out.c1
                have m2 := Nm.out.c2
                dsimp only at x0 x1 x2 y0 y1 y2 z0 z1 z2 m0 m1 m2
                go_wp2_with fail
                refine (with_at ⟨lo3, hi3, op3⟩ ⟨ml, mh, mo⟩ true _ HC.out.2.2.2.2.2.1).mono ?_
                rintro e k7 ⟨rfl, hb⟩
                clear x0 x1 x2 y0 y1 y2 z0 z1 z2 m0 m1 m2
                replace Mbel := Lib.hid (Mbel.out.trans (hb.mono Mbel.out.size))
                replace MNa := Lib.hid (MNa.out.ext hb)
                replace MNb := Lib.hid (MNb.out.ext hb)
                replace MNc := Lib.hid (MNc.out.ext hb)
                replace Nm := Lib.hid (Nm.out.ext hb)
                clear hb
                have x0 := MNa.out.c0
                have x1 := MNa.out.c1
                have x2 := MNa.out.c2
                have y0 := MNb.out.c0
                have y1 := MNb.out.c1
                have y2 := MNb.out.c2
                have z0 := MNc.out.c0
                have z1 := MNc.out.c1
                have z2 := MNc.out.c2
                have m0 := Nm.out.c0
                have m1 := Nm.out.c1
                have m2 := Nm.out.c2
                dsimp only at x0 x1 x2 y0 y1 y2 z0 z1 z2 m0 m1 m2
                go_wp2_with fail
                refine (with_at ⟨lo, hi, op⟩ ⟨lo, hi, op⟩ true _ HM.out.2.2.2).mono ?_
                rintro e k8 ⟨rfl, hb⟩
                clear x0 x1 x2 y0 y1 y2 z0 z1 z2 m0 m1 m2
                replace Mbel := Lib.hid (Mbel.out.trans (hb.mono Mbel.out.size))
                replace MNa := Lib.hid (MNa.out.ext hb)
                replace MNb := Lib.hid (MNb.out.ext hb)
                replace MNc := Lib.hid (MNc.out.ext hb)
                replace Nm := Lib.hid (Nm.out.ext hb)
                clear hb
                have x0 := MNa.out.c0
                have x1 := MNa.out.c1
                have x2 := MNa.out.c2
                have y0 := MNb.out.c0
                have y1 := MNb.out.c1
                have y2 := MNb.out.c2
                have z0 := MNc.out.c0
                have z1 := MNc.out.c1
                have z2 := MNc.out.c2
                have m0 := Nm.out.c0
                have m1 := Nm.out.c1
                have m2 := Nm.out.c2
                dsimp only at x0 x1 x2 y0 y1 y2 z0 z1 z2 m0 m1 m2
                go_wp2_with fail
                refine (emp_at _ _ _ true _ HC.out.2.2.2.2.2.2).mono ?_
                rintro e k9 ⟨rfl, hb⟩
                clear x0 x1 x2 y0 y1 y2 z0 z1 z2 m0 m1 m2
                replace Mbel := Lib.hid (Mbel.out.trans (hb.mono Mbel.out.size))
                replace MNa := Lib.hid (MNa.out.ext hb)
                replace MNb := Lib.hid (MNb.out.ext hb)
                replace MNc := Lib.hid (MNc.out.ext hb)
                replace Nm := Lib.hid (Nm.out.ext hb)
                clear hb
                have x0 := MNa.out.c0
                have x1 := MNa.out.c1
                have x2 := MNa.out.c2
                have y0 := MNb.out.c0
                have y1 := MNb.out.c1
                have y2 := MNb.out.c2
                have z0 := MNc.out.c0
                have z1 := MNc.out.c1
                have z2 := MNc.out.c2
                have m0 := Nm.out.c0
                have m1 := Nm.out.c1
                have m2 := Nm.out.c2
                dsimp only at x0 x1 x2 y0 y1 y2 z0 z1 z2 m0 m1 m2
                go_wp2_with fail
                refine (with_at ⟨lo, hi, op⟩ ⟨lo2, hi2, op2⟩ true _ HC.out.1).mono ?_
                rintro e k10 ⟨rfl, hb⟩
                clear x0 x1 x2 y0 y1 y2 z0 z1 z2 m0 m1 m2
                replace Mbel := Lib.hid (Mbel.out.trans (hb.mono Mbel.out.size))
                replace MNa := Lib.hid (MNa.out.ext hb)
                replace MNb := Lib.hid (MNb.out.ext hb)
                replace MNc := Lib.hid (MNc.out.ext hb)
                replace Nm := Lib.hid (Nm.out.ext hb)
                clear hb
                have x0 := MNa.out.c0
                have x1 := MNa.out.c1
                have x2 := MNa.out.c2
                have y0 := MNb.out.c0
                have y1 := MNb.out.c1
                have y2 := MNb.out.c2
                have z0 := MNc.out.c0
                have z1 := MNc.out.c1
                have z2 := MNc.out.c2
                have m0 := Nm.out.c0
                have m1 := Nm.out.c1
                have m2 := Nm.out.c2
                dsimp only at x0 x1 x2 y0 y1 y2 z0 z1 z2 m0 m1 m2
                go_wp2_with fail
                refine (sure_any _ (HG.out.below Mbel.out)).mono ?_
                rintro e k11 ⟨rfl, hb⟩
                clear x0 x1 x2 y0 y1 y2 z0 z1 z2 m0 m1 m2
                replace Mbel := Lib.hid (Mbel.out.trans (hb.mono Mbel.out.size))
                replace MNa := Lib.hid (MNa.out.ext hb)
                replace MNb := Lib.hid (MNb.out.ext hb)
                replace MNc := Lib.hid (MNc.out.ext hb)
                replace Nm := Lib.hid (Nm.out.ext hb)
                clear hb
                have x0 := MNa.out.c0
                have x1 := MNa.out.c1
                have x2 := MNa.out.c2
                have y0 := MNb.out.c0
                have y1 := MNb.out.c1
                have y2 := MNb.out.c2
                have z0 := MNc.out.c0
                have z1 := MNc.out.c1
                have z2 := MNc.out.c2
                have m0 := Nm.out.c0
                have m1 := Nm.out.c1
                have m2 := Nm.out.c2
                dsimp only at x0 x1 x2 y0 y1 y2 z0 z1 z2 m0 m1 m2
                go_wp2_with fail
                go_ret
                exact ⟨rfl, Mbel.out⟩
        | false =>
          cases hQ : withS ⟨lo2, hi2, op2⟩ ⟨lo3, hi3, op3⟩ with
          | true =>
            have hR := HTR.out hP hQ
            cases hU : withS ⟨lo3, hi3, op3⟩ ⟨lo, hi, op⟩ with
            | false => as_aux_lemma =>
              have HC := Lib.hid (And.intro hP (And.intro hQ (And.intro hR (And.intro hU (And.intro hU (And.intro hU hE))))))
              clear hP hE hU hQ hR HMZ HTR
              refine (with_at ⟨lo, hi, op⟩ ⟨lo2, hi2, op2⟩ true _ HC.out.1).mono ?_
              rintro e k1 ⟨rfl, hb⟩
              replace Mbel := Lib.hid (Mbel.out.trans (hb.mono Mbel.out.size))
              replace MNa := Lib.hid (MNa.out.ext hb)
              replace MNb := Lib.hid (MNb.out.ext hb)
              replace MNc := Lib.hid (MNc.out.ext hb)
              replace Nm := Lib.hid (Nm.out.ext hb)
              clear hb
              have x0 := MNa.out.c0
              have x1 := MNa.out.c1
              have x2 := MNa.out.c2
              have y0 := MNb.out.c0
              have y1 := MNb.out.c1
              have y2 := MNb.out.c2
              have z0 := MNc.out.c0
              have z1 := MNc.out.c1
              have z2 := MNc.out.c2
              have m0 := Nm.out.c0
              have m1 := Nm.out.c1
              have m2 := Nm.out.c2
              dsimp only at x0 x1 x2 y0 y1 y2 z0 z1 z2 m0 m1 m2
              go_wp2_with fail
              refine (with_at ⟨lo2, hi2, op2⟩ ⟨lo3, hi3, op3⟩ true _ HC.out.2.1).mono ?_
              rintro e k2 ⟨rfl, hb⟩
              clear x0 x1 x2 y0 y1 y2 z0 z1 z2 m0 m1 m2
              replace Mbel := Lib.hid (Mbel.out.trans (hb.mono Mbel.out.size))
              replace MNa := Lib.hid (MNa.out.ext hb)
              replace MNb := Lib.hid (MNb.out.ext hb)
              replace MNc := Lib.hid (MNc.out.ext hb)
              replace Nm := Lib.hid (Nm.out.ext hb)
              clear hb
              have x0 := MNa.out.c0
              have x1 := MNa.out.c1
              have x2 := MNa.out.c2
              have y0 := MNb.out.c0
              have y1 := MNb.out.c1
              have y2 := MNb.out.c2
              have z0 := MNc.out.c0
              have z1 := MNc.out.c1
              have z2 := MNc.out.c2
              have m0 := Nm.out.c0
              have m1 := Nm.out.c1
              have m2 := Nm.out.c2
              dsimp only at x0 x1 x2 y0 y1 y2 z0 z1 z2 m0 m1 m2
              go_wp2_with fail
              refine (with_at ⟨lo, hi, op⟩ ⟨lo3, hi3, op3⟩ true _ HC.out.2.2.1).mono ?_
              rintro e k3 ⟨rfl, hb⟩
              clear x0 x1 x2 y0 y1 y2 z0 z1 z2 m0 m1 m2
              replace Mbel := Lib.hid (Mbel.out.trans (hb.mono Mbel.out.size))
              replace MNa := Lib.hid (MNa.out.ext hb)
              replace MNb := Lib.hid (MNb.out.ext hb)
              replace MNc := Lib.hid (MNc.out.ext hb)
              replace Nm := Lib.hid (Nm.out.ext hb)
              clear hb
              have x0 := MNa.out.c0
              have x1 := MNa.out.c1
              have x2 := MNa.out.c2
              have y0 := MNb.out.c0
              have y1 := MNb.out.c1
              have y2 := MNb.out.c2
              have z0 := MNc.out.c0
              have z1 := MNc.out.c1
              have z2 := MNc.out.c2
              have m0 := Nm.out.c0
              have m1 := Nm.out.c1
              have m2 := Nm.out.c2
              dsimp only at x0 x1 x2 y0 y1 y2 z0 z1 z2 m0 m1 m2
              go_wp2_with fail
              refine (with_at ⟨ml, mh, mo⟩ ⟨lo, hi, op⟩ true _ HM.out.2.1).mono ?_
              rintro e k4 ⟨rfl, hb⟩
              clear x0 x1 x2 y0 y1 y2 z0 z1 z2 m0 m1 m2
              replace Mbel := Lib.hid (Mbel.out.trans (hb.mono Mbel.out.size))
              replace MNa := Lib.hid (MNa.out.ext hb)
              replace MNb := Lib.hid (MNb.out.ext hb)
              replace MNc := Lib.hid (MNc.out.ext hb)
              replace Nm := Lib.hid (Nm.out.ext hb)
              clear hb
              have x0 := MNa.out.c0
              have x1 := MNa.out.c1
              have x2 := MNa.out.c2
              have y0 := MNb.out.c0
              have y1 := MNb.out.c1
              have y2 := MNb.out.c2
              have z0 := MNc.out.c0
              have z1 := MNc.out.c1
              have z2 := MNc.out.c2
              have m0 := Nm.out.c0
              have m1 := Nm.out.c1
              have m2 := Nm.out.c2
              dsimp only at x0 x1 x2 y0 y1 y2 z0 z1 z2 m0 m1 m2
              go_wp2_with fail
              refine (with_at ⟨ml, mh, mo⟩ ⟨lo2, hi2, op2⟩ true _ HM.out.2.2.1).mono ?_
              rintro e k5 ⟨rfl, hb⟩
              clear x0 x1 x2 y0 y1 y2 z0 z1 z2 m0 m1 m2
              replace Mbel := Lib.hid (Mbel.out.trans (hb.mono Mbel.out.size))
              replace MNa := Lib.hid (MNa.out.ext hb)
              replace MNb := Lib.hid (MNb.out.ext hb)
              replace MNc := Lib.hid (MNc.out.ext hb)
              replace Nm := Lib.hid (Nm.out.ext hb)
              clear hb
              have x0 := MNa.out.c0
              have x1 := MNa.out.c1
              have x2 := MNa.out.c2
              have y0 := MNb.out.c0
              have y1 := MNb.out.c1
              have y2 := MNb.out.c2
              have z0 := MNc.out.c0
              have z1 := MNc.out.c1
              have z2 := MNc.out.c2
              have m0 := Nm.out.c0
              have m1 := Nm.out.c1
              have m2 := Nm.out.c2
              dsimp only at x0 x1 x2 y0 y1 y2 z0 z1 z2 m0 m1 m2
              go_wp2_with fail
              refine (with_at ⟨lo3, hi3, op3⟩ ⟨lo, hi, op⟩ false _ HC.out.2.2.2.1).mono ?_
              rintro e k6 ⟨rfl, hb⟩
              clear x0 x1 x2 y0 y1 y2 z0 z1 z2 m0 m1 m2
              replace Mbel := Lib.hid (Mbel.out.trans (hb.mono Mbel.out.size))
              replace MNa := Lib.hid (MNa.out.ext hb)
              replace MNb := Lib.hid (MNb.out.ext hb)
              replace MNc := Lib.hid (MNc.out.ext hb)
              replace Nm := Lib.hid (Nm.out.ext hb)
              clear hb
              have x0 := MNa.out.c0
              have x1 := MNa.out.c1
              have x2 := MNa.out.c2
              have y0 := MNb.out.c0
              have y1 := MNb.out.c1
              have y2 := MNb.out.c2
              have z0 := MNc.out.c0
              have z1 := MNc.out.c1
              have z2 := MNc.out.c2
              have m0 := Nm.out.c0
              have m1 := Nm.out.c1
              have m2 := Nm.out.c2
              dsimp only at x0 x1 x2 y0 y1 y2 z0 z1 z2 m0 m1 m2
              go_wp2_with fail
              refine (with_at ⟨lo, hi, op⟩ ⟨lo, hi, op⟩ true _ HM.out.2.2.2).mono ?_
              rintro e k7 ⟨rfl, hb⟩
              clear x0 x1 x2 y0 y1 y2 z0 z1 z2 m0 m1 m2
              replace Mbel := Lib.hid (Mbel.out.trans (hb.mono Mbel.out.size))
              replace MNa := Lib.hid (MNa.out.ext hb)
              replace MNb := Lib.hid (MNb.out.ext hb)
              replace MNc := Lib.hid (MNc.out.ext hb)
              replace Nm := Lib.hid (Nm.out.ext hb)
              clear hb
              have x0 := MNa.out.c0
              have x1 := MNa.out.c1
              have x2 := MNa.out.c2
              have y0 := MNb.out.c0
              have y1 := MNb.out.c1
              have y2 := MNb.out.c2
              have z0 := MNc.out.c0
              have z1 := MNc.out.c1
              have z2 := MNc.out.c2
              have m0 := Nm.out.c0
              have m1 := Nm.out.c1
              have m2 := Nm.out.c2
              dsimp only at x0 x1 x2 y0 y1 y2 z0 z1 z2 m0 m1 m2
              go_wp2_with fail
              refine (emp_at _ _ _ false _ HC.out.2.2.2.2.2.2).mono ?_
              rintro e k8 ⟨rfl, hb⟩
              clear x0 x1 x2 y0 y1 y2 z0 z1 z2 m0 m1 m2
              replace Mbel := Lib.hid (Mbel.out.trans (hb.mono Mbel.out.size))
              replace MNa := Lib.hid (MNa.out.ext hb)
              replace MNb := Lib.hid (MNb.out.ext hb)
              replace MNc := Lib.hid (MNc.out.ext hb)
              replace Nm := Lib.hid (Nm.out.ext hb)
              clear hb
              have x0 := MNa.out.c0
              have x1 := MNa.out.c1
              have x2 := MNa.out.c2
              have y0 := MNb.out.c0
              have y1 := MNb.out.c1
              have y2 := MNb.out.c2
              have z0 := MNc.out.c0
              have z1 := MNc.out.c1
              have z2 := MNc.out.c2
              have m0 := Nm.out.c0
              have m1 := Nm.out.c1
              have m2 := Nm.out.c2
              dsimp only at x0 x1 x2 y0 y1 y2 z0 z1 z2 m0 m1 m2
              go_wp2_with fail
              refine (sure_any _ (HG.out.below Mbel.out)).mono ?_
              rintro e k9 ⟨rfl, hb⟩
              clear x0 x1 x2 y0 y1 y2 z0 z1 z2 m0 m1 m2
              replace Mbel := Lib.hid (Mbel.out.trans (hb.mono Mbel.out.size))
              replace MNa := Lib.hid (MNa.out.ext hb)
              replace MNb := Lib.hid (MNb.out.ext hb)
              replace MNc := Lib.hid (MNc.out.ext hb)
              replace Nm := Lib.hid (Nm.out.ext hb)
              clear hb
              have x0 := MNa.out.c0
              have x1 := MNa.out.c1
              have x2 := MNa.out.c2
              have y0 := MNb.out.c0
              have y1 := MNb.out.c1
              have y2 := MNb.out.c2
              have z0 := MNc.out.c0
              have z1 := MNc.out.c1
              have z2 := MNc.out.c2
              have m0 := Nm.out.c0
              have m1 := Nm.out.c1
              have m2 := Nm.out.c2
              dsimp only at x0 x1 x2 y0 y1 y2 z0 z1 z2 m0 m1 m2
              go_wp2_with fail
              go_ret
              exact ⟨rfl, Mbel.out⟩
            | true =>
              cases hV : withS ⟨lo3, hi3, op3⟩ ⟨lo2, hi2, op2⟩ with
              | false => as_aux_lemma =>
                have HC := Lib.hid (And.intro hP (And.intro hQ (And.intro hR (And.intro hU (And.intro hV (And.intro hU hE))))))
                clear hP hE hU hQ hR hV HMZ HTR
                refine (with_at ⟨lo, hi, op⟩ ⟨lo2, hi2, op2⟩ true _ HC.out.1).mono ?_
                rintro e k1 ⟨rfl, hb⟩
                replace Mbel := Lib.hid (Mbel.out.trans (hb.mono Mbel.out.size))
                replace MNa := Lib.hid (MNa.out.ext hb)
                replace MNb := Lib.hid (MNb.out.ext hb)
                replace MNc := Lib.hid (MNc.out.ext hb)
                replace Nm := Lib.hid (Nm.out.ext hb)
                clear hb
                have x0 := MNa.out.c0
                have x1 := MNa.out.c1
                have x2 := MNa.out.c2
                have y0 := MNb.out.c0
                have y1 := MNb.out.c1
                have y2 := MNb.out.c2
                have z0 := MNc.out.c0
                have z1 := MNc.out.c1
                have z2 := MNc.out.c2
                have m0 := Nm.out.c0
                have m1 := Nm.out.c1
                have m2 := Nm.out.c2
                dsimp only at x0 x1 x2 y0 y1 y2 z0 z1 z2 m0 m1 m2
                go_wp2_with fail
                refine (with_at ⟨lo2, hi2, op2⟩ ⟨lo3, hi3, op3⟩ true _ HC.out.2.1).mono ?_
                rintro e k2 ⟨rfl, hb⟩
                clear x0 x1 x2 y0 y1 y2 z0 z1 z2 m0 m1 m2
                replace Mbel := Lib.hid (Mbel.out.trans (hb.mono Mbel.out.size))
                replace MNa := Lib.hid (MNa.out.ext hb)
                replace MNb := Lib.hid (MNb.out.ext hb)
                replace MNc := Lib.hid (MNc.out.ext hb)
                replace Nm := Lib.hid (Nm.out.ext hb)
                clear hb
                have x0 := MNa.out.c0
                have x1 := MNa.out.c1
                have x2 := MNa.out.c2
                have y0 := MNb.out.c0
                have y1 := MNb.out.c1
                have y2 := MNb.out.c2
                have z0 := MNc.out.c0
                have z1 := MNc.out.c1
                have z2 := MNc.out.c2
                have m0 := Nm.out.c0
                have m1 := Nm.out.c1
                have m2 := Nm.out.c2
                dsimp only at x0 x1 x2 y0 y1 y2 z0 z1 z2 m0 m1 m2
                go_wp2_with fail
                refine (with_at ⟨lo, hi, op⟩ ⟨lo3, hi3, op3⟩ true _ HC.out.2.2.1).mono ?_
                rintro e k3 ⟨rfl, hb⟩
                clear x0 x1 x2 y0 y1 y2 z0 z1 z2 m0 m1 m2
                replace Mbel := Lib.hid (Mbel.out.trans (hb.mono Mbel.out.size))
                replace MNa := Lib.hid (MNa.out.ext hb)
                replace MNb := Lib.hid (MNb.out.ext hb)
                replace MNc := Lib.hid (MNc.out.ext hb)
                replace Nm := Lib.hid (Nm.out.ext hb)
                clear hb
                have x0 := MNa.out.c0
                have x1 := MNa.out.c1
                have x2 := MNa.out.c2
                have y0 := MNb.out.c0
                have y1 := MNb.out.c1
                have y2 := MNb.out.c2
                have z0 := MNc.out.c0
                have z1 := MNc.out.c1
                have z2 := MNc.out.c2
                have m0 := Nm.out.c0
                have m1 := Nm.out.c1
                have m2 := Nm.out.c2
                dsimp only at x0 x1 x2 y0 y1 y2 z0 z1 z2 m0 m1 m2
                go_wp2_with fail
                refine (with_at ⟨ml, mh, mo⟩ ⟨lo, hi, op⟩ true _ HM.out.2.1).mono ?_
                rintro e k4 ⟨rfl, hb⟩
                clear x0 x1 x2 y0 y1 y2 z0 z1 z2 m0 m1 m2
                replace Mbel := Lib.hid (Mbel.out.trans (hb.mono Mbel.out.size))
                replace MNa := Lib.hid (MNa.out.ext hb)
                replace MNb := Lib.hid (MNb.out.ext hb)
                replace MNc := Lib.hid (MNc.out.ext hb)
                replace Nm := Lib.hid (Nm.out.ext hb)
                clear hb
                have x0 := MNa.out.c0
                have x1 := MNa.out.c1
                have x2 := MNa.out.c2
                have y0 := MNb.out.c0
                have y1 := MNb.out.c1
                have y2 := MNb.out.c2
                have z0 := MNc.out.c0
                have z1 := MNc.out.c1
                have z2 := MNc.out.c2
                have m0 := Nm.out.c0
                have m1 := Nm.out.c1
                have m2 := Nm.out.c2
                dsimp only at x0 x1 x2 y0 y1 y2 z0 z1 z2 m0 m1 m2
                go_wp2_with fail
                refine (with_at ⟨ml, mh, mo⟩ ⟨lo2, hi2, op2⟩ true _ HM.out.2.2.1).mono ?_
                rintro e k5 ⟨rfl, hb⟩
                clear x0 x1 x2 y0 y1 y2 z0 z1 z2 m0 m1 m2
                replace Mbel := Lib.hid (Mbel.out.trans (hb.mono Mbel.out.size))
                replace MNa := Lib.hid (MNa.out.ext hb)
                replace MNb := Lib.hid (MNb.out.ext hb)
                replace MNc := Lib.hid (MNc.out.ext hb)
                replace Nm := Lib.hid (Nm.out.ext hb)
                clear hb
                have x0 := MNa.out.c0
                have x1 := MNa.out.c1
                have x2 := MNa.out.c2
                have y0 := MNb.out.c0
                have y1 := MNb.out.c1
                have y2 := MNb.out.c2
                have z0 := MNc.out.c0
                have z1 := MNc.out.c1
                have z2 := MNc.out.c2
                have m0 := Nm.out.c0
                have m1 := Nm.out.c1
                have m2 := Nm.out.c2
                dsimp only at x0 x1 x2 y0 y1 y2 z0 z1 z2 m0 m1 m2
                go_wp2_with fail
                refine (with_at ⟨lo3, hi3, op3⟩ ⟨lo, hi, op⟩ true _ HC.out.2.2.2.1).mono ?_
                rintro e k6 ⟨rfl, hb⟩
                clear x0 x1 x2 y0 y1 y2 z0 z1 z2 m0 m1 m2
                replace Mbel := Lib.hid (Mbel.out.trans (hb.mono Mbel.out.size))
                replace MNa := Lib.hid (MNa.out.ext hb)
                replace MNb := Lib.hid (MNb.out.ext hb)
                replace MNc := Lib.hid (MNc.out.ext hb)
                replace Nm := Lib.hid (Nm.out.ext hb)
                clear hb
                have x0 := MNa.out.c0
                have x1 := MNa.out.c1
                have x2 := MNa.out.c2
                have y0 := MNb.out.c0
                have y1 := MNb.out.c1
                have y2 := MNb.out.c2
                have z0 := MNc.out.c0
                have z1 := MNc.out.c1
                have z2 := MNc.out.c2
                have m0 := Nm.out.c0
                have m1 := Nm.out.c1
                have m2 := Nm.out.c2
                dsimp only at x0 x1 x2 y0 y1 y2 z0 z1 z2 m0 m1 m2
                go_wp2_with fail
                refine (with_at ⟨lo3, hi3, op3⟩ ⟨lo2, hi2, op2⟩ false _ HC.out.2.2.2.2.1).mono ?_
                rintro e k7 ⟨rfl, hb⟩
                clear x0 x1 x2 y0 y1 y2 z0 z1 z2 m0 m1 m2
                replace Mbel := Lib.hid (Mbel.out.trans (hb.mono Mbel.out.size))
                replace MNa := Lib.hid (MNa.out.ext hb)
                replace MNb := Lib.hid (MNb.out.ext hb)
                replace MNc := Lib.hid (MNc.out.ext hb)
                replace Nm := Lib.hid (Nm.out.ext hb)
                clear hb
                have x0 := MNa.out.c0
                have x1 := MNa.out.c1
                have x2 := MNa.out.c2
                have y0 := MNb.out.c0
                have y1 := MNb.out.c1
                have y2 := MNb.out.c2
                have z0 := MNc.out.c0
                have z1 := MNc.out.c1
                have z2 := MNc.out.c2
                have m0 := Nm.out.c0
                have m1 := Nm.out.c1
                have m2 := Nm.out.c2
                dsimp only at x0 x1 x2 y0 y1 y2 z0 z1 z2 m0 m1 m2
                go_wp2_with fail
                refine (with_at ⟨lo, hi, op⟩ ⟨lo, hi, op⟩ true _ HM.out.2.2.2).mono ?_
                rintro e k8 ⟨rfl, hb⟩
                clear x0 x1 x2 y0 y1 y2 z0 z1 z2 m0 m1 m2
                replace Mbel := Lib.hid (Mbel.out.trans (hb.mono Mbel.out.size))
                replace MNa := Lib.hid (MNa.out.ext hb)
                replace MNb := Lib.hid (MNb.out.ext hb)
                replace MNc := Lib.hid (MNc.out.ext hb)
                replace Nm := Lib.hid (Nm.out.ext hb)
                clear hb
                have x0 := MNa.out.c0
                have x1 := MNa.out.c1
                have x2 := MNa.out.c2
                have y0 := MNb.out.c0
                have y1 := MNb.out.c1
                have y2 := MNb.out.c2
                have z0 := MNc.out.c0
                have z1 := MNc.out.c1
                have z2 := MNc.out.c2
                have m0 := Nm.out.c0
                have m1 := Nm.out.c1
                have m2 := Nm.out.c2
                dsimp only at x0 x1 x2 y0 y1 y2 z0 z1 z2 m0 m1 m2
                go_wp2_with fail
                refine (emp_at _ _ _ false _ HC.out.2.2.2.2.2.2).mono ?_
                rintro e k9 ⟨rfl, hb⟩
                clear x0 x1 x2 y0 y1 y2 z0 z1 z2 m0 m1 m2
                replace Mbel := Lib.hid (Mbel.out.trans (hb.mono Mbel.out.size))
                replace MNa := Lib.hid (MNa.out.ext hb)
                replace MNb := Lib.hid (MNb.out.ext hb)
                replace MNc := Lib.hid (MNc.out.ext hb)
                replace Nm := Lib.hid (Nm.out.ext hb)
                clear hb
                have x0 := MNa.out.c0
                have x1 := MNa.out.c1
                have x2 := MNa.out.c2
                have y0 := MNb.out.c0
                have y1 := MNb.out.c1
                have y2 := MNb.out.c2
                have z0 := MNc.out.c0
                have z1 := MNc.out.c1
                have z2 := MNc.out.c2
                have m0 := Nm.out.c0
                have m1 := Nm.out.c1
                have m2 := Nm.out.c2
                dsimp only at x0 x1 x2 y0 y1 y2 z0 z1 z2 m0 m1 m2
                go_wp2_with fail
                refine (sure_any _ (HG.out.below Mbel.out)).mono ?_
                rintro e k10 ⟨rfl, hb⟩
                clear x0 x1 x2 y0 y1 y2 z0 z1 z2 m0 m1 m2
                replace Mbel := Lib.hid (Mbel.out.trans (hb.mono Mbel.out.size))
                replace MNa := Lib.hid (MNa.out.ext hb)
                replace MNb := Lib.hid (MNb.out.ext hb)
                replace MNc := Lib.hid (MNc.out.ext hb)
                replace Nm := Lib.hid (Nm.out.ext hb)
                clear hb
                have x0 := MNa.out.c0
                have x1 := MNa.out.c1
                have x2 := MNa.out.c2
                have y0 := MNb.out.c0
                have y1 := MNb.out.c1
                have y2 := MNb.out.c2
                have z0 := MNc.out.c0
                have z1 := MNc.out.c1
                have z2 := MNc.out.c2
                have m0 := Nm.out.c0
                have m1 := Nm.out.c1
                have m2 := Nm.out.c2
                dsimp only at x0 x1 x2 y0 y1 y2 z0 z1 z2 m0 m1 m2
                go_wp2_with fail
                go_ret
                exact ⟨rfl, Mbel.out⟩
              | true => as_aux_lemma =>
                have hT := HMZ.out hU hV
                have HC := Lib.hid (And.intro hP (And.intro hQ (And.intro hR (And.intro hU (And.intro hV (And.intro hT hE))))))
                clear hP hE hU hQ hR hV hT HMZ HTR
                refine (with_at ⟨lo, hi, op⟩ ⟨lo2, hi2, op2⟩ true _ HC.out.1).mono ?_
                rintro e k1 ⟨rfl, hb⟩
                replace Mbel := Lib.hid (Mbel.out.trans (hb.mono Mbel.out.size))
                replace MNa := Lib.hid (MNa.out.ext hb)
                replace MNb := Lib.hid (MNb.out.ext hb)
                replace MNc := Lib.hid (MNc.out.ext hb)
                replace Nm := Lib.hid (Nm.out.ext hb)
                clear hb
                have x0 := MNa.out.c0
                have x1 := MNa.out.c1
                have x2 := MNa.out.c2
                have y0 := MNb.out.c0
                have y1 := MNb.out.c1
                have y2 := MNb.out.c2
                have z0 := MNc.out.c0
                have z1 := MNc.out.c1
                have z2 := MNc.out.c2
                have m0 := Nm.out.c0
                have m1 := Nm.out.c1
                have m2 := Nm.out.c2
                dsimp only at x0 x1 x2 y0 y1 y2 z0 z1 z2 m0 m1 m2
                go_wp2_with fail
                refine (with_at ⟨lo2, hi2, op2⟩ ⟨lo3, hi3, op3⟩ true _ HC.out.2.1).mono ?_
                rintro e k2 ⟨rfl, hb⟩
                clear x0 x1 x2 y0 y1 y2 z0 z1 z2 m0 m1 m2
                replace Mbel := Lib.hid (Mbel.out.trans (hb.mono Mbel.out.size))
                replace MNa := Lib.hid (MNa.out.ext hb)
                replace MNb := Lib.hid (MNb.out.ext hb)
                replace MNc := Lib.hid (MNc.out.ext hb)
                replace Nm := Lib.hid (Nm.out.ext hb)
                clear hb
                have x0 := MNa.out.c0
                have x1 := MNa.out.c1
                have x2 := MNa.out.c2
                have y0 := MNb.out.c0
                have y1 := MNb.out.c1
                have y2 := MNb.out.c2
                have z0 := MNc.out.c0
                have z1 := MNc.out.c1
                have z2 := MNc.out.c2
                have m0 := Nm.out.c0
                have m1 := Nm.out.c1
                have m2 := Nm.out.c2
                dsimp only at x0 x1 x2 y0 y1 y2 z0 z1 z2 m0 m1 m2
                go_wp2_with fail
                refine (with_at ⟨lo, hi, op⟩ ⟨lo3, hi3, op3⟩ true _ HC.out.2.2.1).mono ?_
                rintro e k3 ⟨rfl, hb⟩
                clear x0 x1 x2 y0 y1 y2 z0 z1 z2 m0 m1 m2
                replace Mbel := Lib.hid (Mbel.out.trans (hb.mono Mbel.out.size))
                replace MNa := Lib.hid (MNa.out.ext hb)
                replace MNb := Lib.hid (MNb.out.ext hb)
                replace MNc := Lib.hid (MNc.out.ext hb)
                replace Nm := Lib.hid (Nm.out.ext hb)
                clear hb
                have x0 := MNa.out.c0
                have x1 := MNa.out.c1
                have x2 := MNa.out.c2
                have y0 := MNb.out.c0
                have y1 := MNb.out.c1
                have y2 := MNb.out.c2
                have z0 := MNc.out.c0
                have z1 := MNc.out.c1
                have z2 := MNc.out.c2
                have m0 := Nm.out.c0
                have m1 := Nm.out.c1
                have m2 := Nm.out.c2
                dsimp only at x0 x1 x2 y0 y1 y2 z0 z1 z2 m0 m1 m2
                go_wp2_with fail
                refine (with_at ⟨ml, mh, mo⟩ ⟨lo, hi, op⟩ true _ HM.out.2.1).mono ?_
                rintro e k4 ⟨rfl, hb⟩
                clear x0 x1 x2 y0 y1 y2 z0 z1 z2 m0 m1 m2
                replace Mbel := Lib.hid (Mbel.out.trans (hb.mono Mbel.out.size))
                replace MNa := Lib.hid (MNa.out.ext hb)
                replace MNb := Lib.hid (MNb.out.ext hb)
                replace MNc := Lib.hid (MNc.out.ext hb)
                replace Nm := Lib.hid (Nm.out.ext hb)
                clear hb
                have x0 := MNa.out.c0
                have x1 := MNa.out.c1
                have x2 := MNa.out.c2
                have y0 := MNb.out.c0
                have y1 := MNb.out.c1
                have y2 := MNb.out.c2
                have z0 := MNc.out.c0
                have z1 := MNc.out.c1
                have z2 := MNc.out.c2
                have m0 := Nm.out.c0
                have m1 := Nm.out.c1
                have m2 := Nm.out.c2
                dsimp only at x0 x1 x2 y0 y1 y2 z0 z1 z2 m0 m1 m2
                go_wp2_with fail
                refine (with_at ⟨ml, mh, mo⟩ ⟨lo2, hi2, op2⟩ true _ HM.out.2.2.1).mono ?_
                rintro e k5 ⟨rfl, hb⟩
                clear x0 x1 x2 y0 y1 y2 z0 z1 z2 m0 m1 m2
                replace Mbel := Lib.hid (Mbel.out.trans (hb.mono Mbel.out.size))
                replace MNa := Lib.hid (MNa.out.ext hb)
                replace MNb := Lib.hid (MNb.out.ext hb)
                replace MNc := Lib.hid (MNc.out.ext hb)
                replace Nm := Lib.hid (Nm.out.ext hb)
                clear hb
                have x0 := MNa.out.c0
                have x1 := MNa.out.c1
                have x2 := MNa.out.c2
                have y0 := MNb.out.c0
                have y1 := MNb.out.c1
                have y2 := MNb.out.c2
                have z0 := MNc.out.c0
                have z1 := MNc.out.c1
                have z2 := MNc.out.c2
                have m0 := Nm.out.c0
                have m1 := Nm.out.c1
                have m2 := Nm.out.c2
                dsimp only at x0 x1 x2 y0 y1 y2 z0 z1 z2 m0 m1 m2
                go_wp2_with fail
                refine (with_at ⟨lo3, hi3, op3⟩ ⟨lo, hi, op⟩ true _ HC.out.2.2.2.1).mono ?_
                rintro e k6 ⟨rfl, hb⟩
                clear x0 x1 x2 y0 y1 y2 z0 z1 z2 m0 m1 m2
                replace Mbel := Lib.hid (Mbel.out.trans (hb.mono Mbel.out.size))
                replace MNa := Lib.hid (MNa.out.ext hb)
                replace MNb := Lib.hid (MNb.out.ext hb)
                replace MNc := Lib.hid (MNc.out.ext hb)
                replace Nm := Lib.hid (Nm.out.ext hb)
                clear hb
                have x0 := MNa.out.c0
                have x1 := MNa.out.c1
                have x2 := MNa.out.c2
                have y0 := MNb.out.c0
                have y1 := MNb.out.c1
                have y2 := MNb.out.c2
                have z0 := MNc.out.c0
                have z1 := MNc.out.c1
                have z2 := MNc.out.c2
                have m0 := Nm.out.c0
                have m1 := Nm.out.c1
                have m2 := Nm.out.c2
                dsimp only at x0 x1 x2 y0 y1 y2 z0 z1 z2 m0 m1 m2
                go_wp2_with fail
                refine (with_at ⟨lo3, hi3, op3⟩ ⟨lo2, hi2, op2⟩ true _ HC.out.2.2.2.2.1).mono ?_
                rintro e k7 ⟨rfl, hb⟩
                clear x0 x1 x2 y0 y1 y2 z0 z1 z2 m0 m1 m2
                replace Mbel := Lib.hid (Mbel.out.trans (hb.mono Mbel.out.size))
                replace MNa := Lib.hid (MNa.out.ext hb)
                replace MNb := Lib.hid (MNb.out.ext hb)
                replace MNc := Lib.hid (MNc.out.ext hb)
                replace Nm := Lib.hid (Nm.out.ext hb)
                clear hb
                have x0 := MNa.out.c0
                have x1 := MNa.out.c1
                have x2 := MNa.out.c2
                have y0 := MNb.out.c0
                have y1 := MNb.out.c1
                have y2 := MNb.out.c2
                have z0 := MNc.out.c0
                have z1 := MNc.out.c1
                have z2 := MNc.out.c2
                have m0 := Nm.out.c0
                have m1 := Nm.out.c1
                have m2 := Nm.out.c2
                dsimp only at x0 x1 x2 y0 y1 y2 z0 z1 z2 m0 m1 m2
                go_wp2_with fail
                refine (with_at ⟨lo3, hi3, op3⟩ ⟨ml, mh, mo⟩ true _ HC.out.2.2.2.2.2.1).mono ?_
                rintro e k8 ⟨rfl, hb⟩
                clear x0 x1 x2 y0 y1 y2 z0 z1 z2 m0 m1 m2
                replace Mbel := Lib.hid (Mbel.out.trans (hb.mono Mbel.out.size))
                replace MNa := Lib.hid (MNa.out.ext hb)
                replace MNb := Lib.hid (MNb.out.ext hb)
                replace MNc := Lib.hid (MNc.out.ext hb)
                replace Nm := Lib.hid (Nm.out.ext hb)
                clear hb
                have x0 := MNa.out.c0
                have x1 := MNa.out.c1
                have x2 := MNa.out.c2
                have y0 := MNb.out.c0
                have y1 := MNb.out.c1
                have y2 := MNb.out.c2
                have z0 := MNc.out.c0
                have z1 := MNc.out.c1
                have z2 := MNc.out.c2
                have m0 := Nm.out.c0
                have m1 := Nm.out.c1
                have m2 := Nm.out.c2
                dsimp only at x0 x1 x2 y0 y1 y2 z0 z1 z2 m0 m1 m2
                go_wp2_with fail
                refine (with_at ⟨lo, hi, op⟩ ⟨lo, hi, op⟩ true _ HM.out.2.2.2).mono ?_
                rintro e k9 ⟨rfl, hb⟩
                clear x0 x1 x2 y0 y1 y2 z0 z1 z2 m0 m1 m2
                replace Mbel := Lib.hid (Mbel.out.trans (hb.mono Mbel.out.size))
                replace MNa := Lib.hid (MNa.out.ext hb)
                replace MNb := Lib.hid (MNb.out.ext hb)
                replace MNc := Lib.hid (MNc.out.ext hb)
                replace Nm := Lib.hid (Nm.out.ext hb)
                clear hb
                have x0 := MNa.out.c0
                have x1 := MNa.out.c1
                have x2 := MNa.out.c2
                have y0 := MNb.out.c0
                have y1 := MNb.out.c1
                have y2 := MNb.out.c2
                have z0 := MNc.out.c0
                have z1 := MNc.out.c1
                have z2 := MNc.out.c2
                have m0 := Nm.out.c0
                have m1 := Nm.out.c1
                have m2 := Nm.out.c2
                dsimp only at x0 x1 x2 y0 y1 y2 z0 z1 z2 m0 m1 m2
                go_wp2_with fail
                refine (emp_at _ _ _ false _ HC.out.2.2.2.2.2.2).mono ?_
                rintro e k10 ⟨rfl, hb⟩
                clear x0 x1 x2 y0 y1 y2 z0 z1 z2 m0 m1 m2
                replace Mbel := Lib.hid (Mbel.out.trans (hb.mono Mbel.out.size))
                replace MNa := Lib.hid (MNa.out.ext hb)
                replace MNb := Lib.hid (MNb.out.ext hb)
                replace MNc := Lib.hid (MNc.out.ext hb)
                replace Nm := Lib.hid (Nm.out.ext hb)
                clear hb
                have x0 := MNa.out.c0
                have x1 := MNa.out.c1
                have x2 := MNa.out.c2
                have y0 := MNb.out.c0
                have y1 := MNb.out.c1
                have y2 := MNb.out.c2
                have z0 := MNc.out.c0
                have z1 := MNc.out.c1
                have z2 := MNc.out.c2
                have m0 := Nm.out.c0
                have m1 := Nm.out.c1
                have m2 := Nm.out.c2
                dsimp only at x0 x1 x2 y0 y1 y2 z0 z1 z2 m0 m1 m2
                go_wp2_with fail
                refine (sure_any _ (HG.out.below Mbel.out)).mono ?_
                rintro e k11 ⟨rfl, hb⟩
                clear x0 x1 x2 y0 y1 y2 z0 z1 z2 m0 m1 m2
                replace Mbel := Lib.hid (Mbel.out.trans (hb.mono Mbel.out.size))
                replace MNa := Lib.hid (MNa.out.ext hb)
                replace MNb := Lib.hid (MNb.out.ext hb)
                replace MNc := Lib.hid (MNc.out.ext hb)
                replace Nm := Lib.hid (Nm.out.ext hb)
                clear hb
                have x0 := MNa.out.c0
                have x1 := MNa.out.c1
                have x2 := MNa.out.c2
                have y0 := MNb.out.c0
                have y1 := MNb.out.c1
                have y2 := MNb.out.c2
                have z0 := MNc.out.c0
                have z1 := MNc.out.c1
                have z2 := MNc.out.c2
                have m0 := Nm.out.c0
                have m1 := Nm.out.c1
                have m2 := Nm.out.c2
                dsimp only at x0 x1 x2 y0 y1 y2 z0 z1 z2 m0 m1 m2
                go_wp2_with fail
                go_ret
                exact ⟨rfl, Mbel.out⟩
          | false =>
            cases hU : withS ⟨lo3, hi3, op3⟩ ⟨lo, hi, op⟩ with
            | false => as_aux_lemma =>
              have HC := Lib.hid (And.intro hP (And.intro hQ (And.intro hP (And.intro hU (And.intro hU (And.intro hU hE))))))
              clear hP hE hU hQ HMZ HTR
              refine (with_at ⟨lo, hi, op⟩ ⟨lo2, hi2, op2⟩ true _ HC.out.1).mono ?_
              rintro e k1 ⟨rfl, hb⟩
              replace Mbel := Lib.hid (Mbel.out.trans (hb.mono Mbel.out.size))
              replace MNa := Lib.hid (MNa.out.ext hb)
              replace MNb := Lib.hid (MNb.out.ext hb)
              replace MNc := Lib.hid (MNc.out.ext hb)
              replace Nm := Lib.hid (Nm.out.ext hb)
              clear hb
              have x0 := MNa.out.c0
              have x1 := MNa.out.c1
              have x2 := MNa.out.c2
              have y0 := MNb.out.c0
              have y1 := MNb.out.c1
              have y2 := MNb.out.c2
              have z0 := MNc.out.c0
              have z1 := MNc.out.c1
              have z2 := MNc.out.c2
              have m0 := Nm.out.c0
              have m1 := Nm.out.c1
              have m2 := Nm.out.c2
              dsimp only at x0 x1 x2 y0 y1 y2 z0 z1 z2 m0 m1 m2
              go_wp2_with fail
              refine (with_at ⟨lo2, hi2, op2⟩ ⟨lo3, hi3, op3⟩ false _ HC.out.2.1).mono ?_
              rintro e k2 ⟨rfl, hb⟩
              clear x0 x1 x2 y0 y1 y2 z0 z1 z2 m0 m1 m2
              replace Mbel := Lib.hid (Mbel.out.trans (hb.mono Mbel.out.size))
              replace MNa := Lib.hid (MNa.out.ext hb)
              replace MNb := Lib.hid (MNb.out.ext hb)
              replace MNc := Lib.hid (MNc.out.ext hb)
              replace Nm := Lib.hid (Nm.out.ext hb)
              clear hb
              have x0 := MNa.out.c0
              have x1 := MNa.out.c1
              have x2 := MNa.out.c2
              have y0 := MNb.out.c0
              have y1 := MNb.out.c1
              have y2 := MNb.out.c2
              have z0 := MNc.out.c0
              have z1 := MNc.out.c1
              have z2 := MNc.out.c2
              have m0 := Nm.out.c0
              have m1 := Nm.out.c1
              have m2 := Nm.out.c2
              dsimp only at x0 x1 x2 y0 y1 y2 z0 z1 z2 m0 m1 m2
              go_wp2_with fail
              refine (with_at ⟨ml, mh, mo⟩ ⟨lo, hi, op⟩ true _ HM.out.2.1).mono ?_
              rintro e k3 ⟨rfl, hb⟩
              clear x0 x1 x2 y0 y1 y2 z0 z1 z2 m0 m1 m2
              replace Mbel := Lib.hid (Mbel.out.trans (hb.mono Mbel.out.size))
              replace MNa := Lib.hid (MNa.out.ext hb)
              replace MNb := Lib.hid (MNb.out.ext hb)
              replace MNc := Lib.hid (MNc.out.ext hb)
              replace Nm := Lib.hid (Nm.out.ext hb)
              clear hb
              have x0 := MNa.out.c0
              have x1 := MNa.out.c1
              have x2 := MNa.out.c2
              have y0 := MNb.out.c0
              have y1 := MNb.out.c1
              have y2 := MNb.out.c2
              have z0 := MNc.out.c0
              have z1 := MNc.out.c1
              have z2 := MNc.out.c2
              have m0 := Nm.out.c0
              have m1 := Nm.out.c1
              have m2 := Nm.out.c2
              dsimp only at x0 x1 x2 y0 y1 y2 z0 z1 z2 m0 m1 m2
              go_wp2_with fail
              refine (with_at ⟨ml, mh, mo⟩ ⟨lo2, hi2, op2⟩ true _ HM.out.2.2.1).mono ?_
              rintro e k4 ⟨rfl, hb⟩
              clear x0 x1 x2 y0 y1 y2 z0 z1 z2 m0 m1 m2
              replace Mbel := Lib.hid (Mbel.out.trans (hb.mono Mbel.out.size))
              replace MNa := Lib.hid (MNa.out.ext hb)
              replace MNb := Lib.hid (MNb.out.ext hb)
              replace MNc := Lib.hid (MNc.out.ext hb)
              replace Nm := Lib.hid (Nm.out.ext hb)
              clear hb
              have x0 := MNa.out.c0
              have x1 := MNa.out.c1
              have x2 := MNa.out.c2
              have y0 := MNb.out.c0
              have y1 := MNb.out.c1
              have y2 := MNb.out.c2
              have z0 := MNc.out.c0
              have z1 := MNc.out.c1
              have z2 := MNc.out.c2
              have m0 := Nm.out.c0
              have m1 := Nm.out.c1
              have m2 := Nm.out.c2
              dsimp only at x0 x1 x2 y0 y1 y2 z0 z1 z2 m0 m1 m2
              go_wp2_with fail
              refine (with_at ⟨lo3, hi3, op3⟩ ⟨lo, hi, op⟩ false _ HC.out.2.2.2.1).mono ?_
              rintro e k5 ⟨rfl, hb⟩
              clear x0 x1 x2 y0 y1 y2 z0 z1 z2 m0 m1 m2
              replace Mbel := Lib.hid (Mbel.out.trans (hb.mono Mbel.out.size))
              replace MNa := Lib.hid (MNa.out.ext hb)
              replace MNb := Lib.hid (MNb.out.ext hb)
              replace MNc := Lib.hid (MNc.out.ext hb)
              replace Nm := Lib.hid (Nm.out.ext hb)
              clear hb
              have x0 := MNa.out.c0
              have x1 := MNa.out.c1
              have x2 := MNa.out.c2
              have y0 := MNb.out.c0
              have y1 := MNb.out.c1
              have y2 := MNb.out.c2
              have z0 := MNc.out.c0
              have z1 := MNc.out.c1
              have z2 := MNc.out.c2
              have m0 := Nm.out.c0
              have m1 := Nm.out.c1
              have m2 := Nm.out.c2
              dsimp only at x0 x1 x2 y0 y1 y2 z0 z1 z2 m0 m1 m2
              go_wp2_with fail
              refine (with_at ⟨lo, hi, op⟩ ⟨lo, hi, op⟩ true _ HM.out.2.2.2).mono ?_
              rintro e k6 ⟨rfl, hb⟩
              clear x0 x1 x2 y0 y1 y2 z0 z1 z2 m0 m1 m2
              replace Mbel := Lib.hid (Mbel.out.trans (hb.mono Mbel.out.size))
              replace MNa := Lib.hid (MNa.out.ext hb)
              replace MNb := Lib.hid (MNb.out.ext hb)
              replace MNc := Lib.hid (MNc.out.ext hb)
              replace Nm := Lib.hid (Nm.out.ext hb)
              clear hb
              have x0 := MNa.out.c0
              have x1 := MNa.out.c1
              have x2 := MNa.out.c2
              have y0 := MNb.out.c0
              have y1 := MNb.out.c1
              have y2 := MNb.out.c2
              have z0 := MNc.out.c0
              have z1 := MNc.out.c1
              have z2 := MNc.out.c2
              have m0 := Nm.out.c0
              have m1 := Nm.out.c1
              have m2 := Nm.out.c2
              dsimp only at x0 x1 x2 y0 y1 y2 z0 z1 z2 m0 m1 m2
              go_wp2_with fail
              refine (emp_at _ _ _ false _ HC.out.2.2.2.2.2.2).mono ?_
              rintro e k7 ⟨rfl, hb⟩
              clear x0 x1 x2 y0 y1 y2 z0 z1 z2 m0 m1 m2
              replace Mbel := Lib.hid (Mbel.out.trans (hb.mono Mbel.out.size))
              replace MNa := Lib.hid (MNa.out.ext hb)
              replace MNb := Lib.hid (MNb.out.ext hb)
              replace MNc := Lib.hid (MNc.out.ext hb)
              replace Nm := Lib.hid (Nm.out.ext hb)
              clear hb
              have x0 := MNa.out.c0
              have x1 := MNa.out.c1
              have x2 := MNa.out.c2
              have y0 := MNb.out.c0
              have y1 := MNb.out.c1
              have y2 := MNb.out.c2
              have z0 := MNc.out.c0
              have z1 := MNc.out.c1
              have z2 := MNc.out.c2
              have m0 := Nm.out.c0
              have m1 := Nm.out.c1
              have m2 := Nm.out.c2
              dsimp only at x0 x1 x2 y0 y1 y2 z0 z1 z2 m0 m1 m2
              go_wp2_with fail
              refine (sure_any _ (HG.out.below Mbel.out)).mono ?_
              rintro e k8 ⟨rfl, hb⟩
              clear x0 x1 x2 y0 y1 y2 z0 z1 z2 m0 m1 m2
              replace Mbel := Lib.hid (Mbel.out.trans (hb.mono Mbel.out.size))
              replace MNa := Lib.hid (MNa.out.ext hb)
              replace MNb := Lib.hid (MNb.out.ext hb)
              replace MNc := Lib.hid (MNc.out.ext hb)
              replace Nm := Lib.hid (Nm.out.ext hb)
              clear hb
              have x0 := MNa.out.c0
              have x1 := MNa.out.c1
              have x2 := MNa.out.c2
              have y0 := MNb.out.c0
              have y1 := MNb.out.c1
              have y2 := MNb.out.c2
              have z0 := MNc.out.c0
              have z1 := MNc.out.c1
              have z2 := MNc.out.c2
              have m0 := Nm.out.c0
              have m1 := Nm.out.c1
              have m2 := Nm.out.c2
              dsimp only at x0 x1 x2 y0 y1 y2 z0 z1 z2 m0 m1 m2
              go_wp2_with fail
              go_ret
              exact ⟨rfl, Mbel.out⟩
            | true =>
              cases hV : withS ⟨lo3, hi3, op3⟩ ⟨lo2, hi2, op2⟩ with
              | false => as_aux_lemma =>
                have HC := Lib.hid (And.intro hP (And.intro hQ (And.intro hP (And.intro hU (And.intro hV (And.intro hU hE))))))
                clear hP hE hU hQ hV HMZ HTR
                refine (with_at ⟨lo, hi, op⟩ ⟨lo2, hi2, op2⟩ true _ HC.out.1).mono ?_
                rintro e k1 ⟨rfl, hb⟩
                replace Mbel := Lib.hid (Mbel.out.trans (hb.mono Mbel.out.size))
                replace MNa := Lib.hid (MNa.out.ext hb)
                replace MNb := Lib.hid (MNb.out.ext hb)
                replace MNc := Lib.hid (MNc.out.ext hb)
                replace Nm := Lib.hid (Nm.out.ext hb)
                clear hb
                have x0 := MNa.out.c0
                have x1 := MNa.out.c1
                have x2 := MNa.out.c2
                have y0 := MNb.out.c0
                have y1 := MNb.out.c1
                have y2 := MNb.out.c2
                have z0 := MNc.out.c0
                have z1 := MNc.out.c1
                have z2 := MNc.out.c2
                have m0 := Nm.out.c0
                have m1 := Nm.out.c1
                have m2 := Nm.out.c2
                dsimp only at x0 x1 x2 y0 y1 y2 z0 z1 z2 m0 m1 m2
                go_wp2_with fail
                refine (with_at ⟨lo2, hi2, op2⟩ ⟨lo3, hi3, op3⟩ false _ HC.out.2.1).mono ?_
                rintro e k2 ⟨rfl, hb⟩
                clear x0 x1 x2 y0 y1 y2 z0 z1 z2 m0 m1 m2
                replace Mbel := Lib.hid (Mbel.out.trans (hb.mono Mbel.out.size))
                replace MNa := Lib.hid (MNa.out.ext hb)
                replace MNb := Lib.hid (MNb.out.ext hb)
                replace MNc := Lib.hid (MNc.out.ext hb)
                replace Nm := Lib.hid (Nm.out.ext hb)
                clear hb
                have x0 := MNa.out.c0
                have x1 := MNa.out.c1
                have x2 := MNa.out.c2
                have y0 := MNb.out.c0
                have y1 := MNb.out.c1
                have y2 := MNb.out.c2
                have z0 := MNc.out.c0
                have z1 := MNc.out.c1
                have z2 := MNc.out.c2
                have m0 := Nm.out.c0
                have m1 := Nm.out.c1
                have m2 := Nm.out.c2
                dsimp only at x0 x1 x2 y0 y1 y2 z0 z1 z2 m0 m1 m2
                go_wp2_with fail
                refine (with_at ⟨ml, mh, mo⟩ ⟨lo, hi, op⟩ true _ HM.out.2.1).mono ?_
                rintro e k3 ⟨rfl, hb⟩
                clear x0 x1 x2 y0 y1 y2 z0 z1 z2 m0 m1 m2
                replace Mbel := Lib.hid (Mbel.out.trans (hb.mono Mbel.out.size))
                replace MNa := Lib.hid (MNa.out.ext hb)
                replace MNb := Lib.hid (MNb.out.ext hb)
                replace MNc := Lib.hid (MNc.out.ext hb)
                replace Nm := Lib.hid (Nm.out.ext hb)
                clear hb
                have x0 := MNa.out.c0
                have x1 := MNa.out.c1
                have x2 := MNa.out.c2
                have y0 := MNb.out.c0
                have y1 := MNb.out.c1
                have y2 := MNb.out.c2
                have z0 := MNc.out.c0
                have z1 := MNc.out.c1
                have z2 := MNc.out.c2
                have m0 := Nm.out.c0
                have m1 := Nm.out.c1
                have m2 := Nm.out.c2
                dsimp only at x0 x1 x2 y0 y1 y2 z0 z1 z2 m0 m1 m2
                go_wp2_with fail
                refine (with_at ⟨ml, mh, mo⟩ ⟨lo2, hi2, op2⟩ true _ HM.out.2.2.1).mono ?_
                rintro e k4 ⟨rfl, hb⟩
                clear x0 x1 x2 y0 y1 y2 z0 z1 z2 m0 m1 m2
                replace Mbel := Lib.hid (Mbel.out.trans (hb.mono Mbel.out.size))
                replace MNa := Lib.hid (MNa.out.ext hb)
                replace MNb := Lib.hid (MNb.out.ext hb)
                replace MNc := Lib.hid (MNc.out.ext hb)
                replace Nm := Lib.hid (Nm.out.ext hb)
                clear hb
                have x0 := MNa.out.c0
                have x1 := MNa.out.c1
                have x2 := MNa.out.c2
                have y0 := MNb.out.c0
                have y1 := MNb.out.c1
                have y2 := MNb.out.c2
                have z0 := MNc.out.c0
                have z1 := MNc.out.c1
                have z2 := MNc.out.c2
                have m0 := Nm.out.c0
                have m1 := Nm.out.c1
                have m2 := Nm.out.c2
                dsimp only at x0 x1 x2 y0 y1 y2 z0 z1 z2 m0 m1 m2
                go_wp2_with fail
                refine (with_at ⟨lo3, hi3, op3⟩ ⟨lo, hi, op⟩ true _ HC.out.2.2.2.1).mono ?_
                rintro e k5 ⟨rfl, hb⟩
                clear x0 x1 x2 y0 y1 y2 z0 z1 z2 m0 m1 m2
                replace Mbel := Lib.hid (Mbel.out.trans (hb.mono Mbel.out.size))
                replace MNa := Lib.hid (MNa.out.ext hb)
                replace MNb := Lib.hid (MNb.out.ext hb)
                replace MNc := Lib.hid (MNc.out.ext hb)
                replace Nm := Lib.hid (Nm.out.ext hb)
                clear hb
                have x0 := MNa.out.c0
                have x1 := MNa.out.c1
                have x2 := MNa.out.c2
                have y0 := MNb.out.c0
                have y1 := MNb.out.c1
                have y2 := MNb.out.c2
                have z0 := MNc.out.c0
                have z1 := MNc.out.c1
                have z2 := MNc.out.c2
                have m0 := Nm.out.c0
                have m1 := Nm.out.c1
                have m2 := Nm.out.c2
                dsimp only at x0 x1 x2 y0 y1 y2 z0 z1 z2 m0 m1 m2
                go_wp2_with fail
                refine (with_at ⟨lo3, hi3, op3⟩ ⟨lo2, hi2, op2⟩ false _ HC.out.2.2.2.2.1).mono ?_
                rintro e k6 ⟨rfl, hb⟩
                clear x0 x1 x2 y0 y1 y2 z0 z1 z2 m0 m1 m2
                replace Mbel := Lib.hid (Mbel.out.trans (hb.mono Mbel.out.size))
                replace MNa := Lib.hid (MNa.out.ext hb)
                replace MNb := Lib.hid (MNb.out.ext hb)
                replace MNc := Lib.hid (MNc.out.ext hb)
                replace Nm := Lib.hid (Nm.out.ext hb)
                clear hb
                have x0 := MNa.out.c0
                have x1 := MNa.out.c1
                have x2 := MNa.out.c2
                have y0 := MNb.out.c0
                have y1 := MNb.out.c1
                have y2 := MNb.out.c2
                have z0 := MNc.out.c0
                have z1 := MNc.out.c1
                have z2 := MNc.out.c2
                have m0 := Nm.out.c0
                have m1 := Nm.out.c1
                have m2 := Nm.out.c2
                dsimp only at x0 x1 x2 y0 y1 y2 z0 z1 z2 m0 m1 m2
                go_wp2_with fail
                refine (with_at ⟨lo, hi, op⟩ ⟨lo, hi, op⟩ true _ HM.out.2.2.2).mono ?_
                rintro e k7 ⟨rfl, hb⟩
                clear x0 x1 x2 y0 y1 y2 z0 z1 z2 m0 m1 m2
                replace Mbel := Lib.hid (Mbel.out.trans (hb.mono Mbel.out.size))
                replace MNa := Lib.hid (MNa.out.ext hb)
                replace MNb := Lib.hid (MNb.out.ext hb)
                replace MNc := Lib.hid (MNc.out.ext hb)
                replace Nm := Lib.hid (Nm.out.ext hb)
                clear hb
                have x0 := MNa.out.c0
                have x1 := MNa.out.c1
                have x2 := MNa.out.c2
                have y0 := MNb.out.c0
                have y1 := MNb.out.c1
                have y2 := MNb.out.c2
                have z0 := MNc.out.c0
                have z1 := MNc.out.c1
                have z2 := MNc.out.c2
                have m0 := Nm.out.c0
                have m1 := Nm.out.c1
                have m2 := Nm.out.c2
                dsimp only at x0 x1 x2 y0 y1 y2 z0 z1 z2 m0 m1 m2
                go_wp2_with fail
                refine (emp_at _ _ _ false _ HC.out.2.2.2.2.2.2).mono ?_
                rintro e k8 ⟨rfl, hb⟩
                clear x0 x1 x2 y0 y1 y2 z0 z1 z2 m0 m1 m2
                replace Mbel := Lib.hid (Mbel.out.trans (hb.mono Mbel.out.size))
                replace MNa := Lib.hid (MNa.out.ext hb)
                replace MNb := Lib.hid (MNb.out.ext hb)
                replace MNc := Lib.hid (MNc.out.ext hb)
                replace Nm := Lib.hid (Nm.out.ext hb)
                clear hb
                have x0 := MNa.out.c0
                have x1 := MNa.out.c1
                have x2 := MNa.out.c2
                have y0 := MNb.out.c0
                have y1 := MNb.out.c1
                have y2 := MNb.out.c2
                have z0 := MNc.out.c0
                have z1 := MNc.out.c1
                have z2 := MNc.out.c2
                have m0 := Nm.out.c0
                have m1 := Nm.out.c1
                have m2 := Nm.out.c2
                dsimp only at x0 x1 x2 y0 y1 y2 z0 z1 z2 m0 m1 m2
                go_wp2_with fail
                refine (sure_any _ (HG.out.below Mbel.out)).mono ?_
                rintro e k9 ⟨rfl, hb⟩
                clear x0 x1 x2 y0 y1 y2 z0 z1 z2 m0 m1 m2
                replace Mbel := Lib.hid (Mbel.out.trans (hb.mono Mbel.out.size))
                replace MNa := Lib.hid (MNa.out.ext hb)
                replace MNb := Lib.hid (MNb.out.ext hb)
                replace MNc := Lib.hid (MNc.out.ext hb)
                replace Nm := Lib.hid (Nm.out.ext hb)
                clear hb
                have x0 := MNa.out.c0
                have x1 := MNa.out.c1
                have x2 := MNa.out.c2
                have y0 := MNb.out.c0
                have y1 := MNb.out.c1
                have y2 := MNb.out.c2
                have z0 := MNc.out.c0
                have z1 := MNc.out.c1
                have z2 := MNc.out.c2
                have m0 := Nm.out.c0
                have m1 := Nm.out.c1
                have m2 := Nm.out.c2
                dsimp only at x0 x1 x2 y0 y1 y2 z0 z1 z2 m0 m1 m2
                go_wp2_with fail
                go_ret
                exact ⟨rfl, Mbel.out⟩
              | true => as_aux_lemma =>
                have hT := HMZ.out hU hV
                have HC := Lib.hid (And.intro hP (And.intro hQ (And.intro hP (And.intro hU (And.intro hV (And.intro hT hE))))))
                clear hP hE hU hQ hV hT HMZ HTR
                refine (with_at ⟨lo, hi, op⟩ ⟨lo2, hi2, op2⟩ true _ HC.out.1).mono ?_
                rintro e k1 ⟨rfl, hb⟩
                replace Mbel := Lib.hid (Mbel.out.trans (hb.mono Mbel.out.size))
                replace MNa := Lib.hid (MNa.out.ext hb)
                replace MNb := Lib.hid (MNb.out.ext hb)
                replace MNc := Lib.hid (MNc.out.ext hb)
                replace Nm := Lib.hid (Nm.out.ext hb)
                clear hb
                have x0 := MNa.out.c0
                have x1 := MNa.out.c1
                have x2 := MNa.out.c2
                have y0 := MNb.out.c0
                have y1 := MNb.out.c1
                have y2 := MNb.out.c2
                have z0 := MNc.out.c0
                have z1 := MNc.out.c1
                have z2 := MNc.out.c2
                have m0 := Nm.out.c0
                have m1 := Nm.out.c1
                have m2 := Nm.out.c2
                dsimp only at x0 x1 x2 y0 y1 y2 z0 z1 z2 m0 m1 m2
                go_wp2_with fail
                refine (with_at ⟨lo2, hi2, op2⟩ ⟨lo3, hi3, op3⟩ false _ HC.out.2.1).mono ?_
                rintro e k2 ⟨rfl, hb⟩
                clear x0 x1 x2 y0 y1 y2 z0 z1 z2 m0 m1 m2
                replace Mbel := Lib.hid (Mbel.out.trans (hb.mono Mbel.out.size))
                replace MNa := Lib.hid (MNa.out.ext hb)
                replace MNb := Lib.hid (MNb.out.ext hb)
                replace MNc := Lib.hid (MNc.out.ext hb)
                replace Nm := Lib.hid (Nm.out.ext hb)
                clear hb
                have x0 := MNa.out.c0
                have x1 := MNa.out.c1
                have x2 := MNa.out.c2
                have y0 := MNb.out.c0
                have y1 := MNb.out.c1
                have y2 := MNb.out.c2
                have z0 := MNc.out.c0
                have z1 := MNc.out.c1
                have z2 := MNc.out.c2
                have m0 := Nm.out.c0
                have m1 := Nm.out.c1
                have m2 := Nm.out.c2
                dsimp only at x0 x1 x2 y0 y1 y2 z0 z1 z2 m0 m1 m2
                go_wp2_with fail
                refine (with_at ⟨ml, mh, mo⟩ ⟨lo, hi, op⟩ true _ HM.out.2.1).mono ?_
                rintro e k3 ⟨rfl, hb⟩
                clear x0 x1 x2 y0 y1 y2 z0 z1 z2 m0 m1 m2
                replace Mbel := Lib.hid (Mbel.out.trans (hb.mono Mbel.out.size))
                replace MNa := Lib.hid (MNa.out.ext hb)
                replace MNb := Lib.hid (MNb.out.ext hb)
                replace MNc := Lib.hid (MNc.out.ext hb)
                replace Nm := Lib.hid (Nm.out.ext hb)
                clear hb
                have x0 := MNa.out.c0
                have x1 := MNa.out.c1
                have x2 := MNa.out.c2
                have y0 := MNb.out.c0
                have y1 := MNb.out.c1
                have y2 := MNb.out.c2
                have z0 := MNc.out.c0
                have z1 := MNc.out.c1
                have z2 := MNc.out.c2
                have m0 := Nm.out.c0
                have m1 := Nm.out.c1
                have m2 := Nm.out.c2
                dsimp only at x0 x1 x2 y0 y1 y2 z0 z1 z2 m0 m1 m2
                go_wp2_with fail
                refine (with_at ⟨ml, mh, mo⟩ ⟨lo2, hi2, op2⟩ true _ HM.out.2.2.1).mono ?_
                rintro e k4 ⟨rfl, hb⟩
                clear x0 x1 x2 y0 y1 y2 z0 z1 z2 m0 m1 m2
                replace Mbel := Lib.hid (Mbel.out.trans (hb.mono Mbel.out.size))
                replace MNa := Lib.hid (MNa.out.ext hb)
                replace MNb := Lib.hid (MNb.out.ext hb)
                replace MNc := Lib.hid (MNc.out.ext hb)
                replace Nm := Lib.hid (Nm.out.ext hb)
                clear hb
                have x0 := MNa.out.c0
                have x1 := MNa.out.c1
                have x2 := MNa.out.c2
                have y0 := MNb.out.c0
                have y1 := MNb.out.c1
                have y2 := MNb.out.c2
                have z0 := MNc.out.c0
                have z1 := MNc.out.c1
                have z2 := MNc.out.c2
                have m0 := Nm.out.c0
                have m1 := Nm.out.c1
                have m2 := Nm.out.c2
                dsimp only at x0 x1 x2 y0 y1 y2 z0 z1 z2 m0 m1 m2
                go_wp2_with fail
                refine (with_at ⟨lo3, hi3, op3⟩ ⟨lo, hi, op⟩ true _ HC.out.2.2.2.1).mono ?_
                rintro e k5 ⟨rfl, hb⟩
                clear x0 x1 x2 y0 y1 y2 z0 z1 z2 m0 m1 m2
                replace Mbel := Lib.hid (Mbel.out.trans (hb.mono Mbel.out.size))
                replace MNa := Lib.hid (MNa.out.ext hb)
                replace MNb := Lib.hid (MNb.out.ext hb)
                replace MNc := Lib.hid (MNc.out.ext hb)
                replace Nm := Lib.hid (Nm.out.ext hb)
                clear hb
                have x0 := MNa.out.c0
                have x1 := MNa.out.c1
                have x2 := MNa.out.c2
                have y0 := MNb.out.c0
                have y1 := MNb.out.c1
                have y2 := MNb.out.c2
                have z0 := MNc.out.c0
                have z1 := MNc.out.c1
                have z2 := MNc.out.c2
                have m0 := Nm.out.c0
                have m1 := Nm.out.c1
                have m2 := Nm.out.c2
                dsimp only at x0 x1 x2 y0 y1 y2 z0 z1 z2 m0 m1 m2
                go_wp2_with fail
                refine (with_at ⟨lo3, hi3, op3⟩ ⟨lo2, hi2, op2⟩ true _ HC.out.2.2.2.2.1).mono ?_
                rintro e k6 ⟨rfl, hb⟩
                clear x0 x1 x2 y0 y1 y2 z0 z1 z2 m0 m1 m2
                replace Mbel := Lib.hid (Mbel.out.trans (hb.mono Mbel.out.size))
                replace MNa := Lib.hid (MNa.out.ext hb)
                replace MNb := Lib.hid (MNb.out.ext hb)
                replace MNc := Lib.hid (MNc.out.ext hb)
                replace Nm := Lib.hid (Nm.out.ext hb)
                clear hb
                have x0 := MNa.out.c0
                have x1 := MNa.out.c1
                have x2 := MNa.out.c2
                have y0 := MNb.out.c0
                have y1 := MNb.out.c1
                have y2 := MNb.out.c2
                have z0 := MNc.out.c0
                have z1 := MNc.out.c1
                have z2 := MNc.out.c2
                have m0 := Nm.out.c0
                have m1 := Nm.out.c1
                have m2 := Nm.out.c2
                dsimp only at x0 x1 x2 y0 y1 y2 z0 z1 z2 m0 m1 m2
                go_wp2_with fail
                refine (with_at ⟨lo3, hi3, op3⟩ ⟨ml, mh, mo⟩ true _ HC.out.2.2.2.2.2.1).mono ?_
                rintro e k7 ⟨rfl, hb⟩
                clear x0 x1 x2 y0 y1 y2 z0 z1 z2 m0 m1 m2
                replace Mbel := Lib.hid (Mbel.out.trans (hb.mono Mbel.out.size))
                replace MNa := Lib.hid (MNa.out.ext hb)
                replace MNb := Lib.hid (MNb.out.ext hb)
                replace MNc := Lib.hid (MNc.out.ext hb)
                replace Nm := Lib.hid (Nm.out.ext hb)
                clear hb
                have x0 := MNa.out.c0
                have x1 := MNa.out.c1
                have x2 := MNa.out.c2
                have y0 := MNb.out.c0
                have y1 := MNb.out.c1
                have y2 := MNb.out.c2
                have z0 := MNc.out.c0
                have z1 := MNc.out.c1
                have z2 := MNc.out.c2
                have m0 := Nm.out.c0
                have m1 := Nm.out.c1
                have m2 := Nm.out.c2
                dsimp only at x0 x1 x2 y0 y1 y2 z0 z1 z2 m0 m1 m2
                go_wp2_with fail
                refine (with_at ⟨lo, hi, op⟩ ⟨lo, hi, op⟩ true _ HM.out.2.2.2).mono ?_
                rintro e k8 ⟨rfl, hb⟩
                clear x0 x1 x2 y0 y1 y2 z0 z1 z2 m0 m1 m2
                replace Mbel := Lib.hid (Mbel.out.trans (hb.mono Mbel.out.size))
                replace MNa := Lib.hid (MNa.out.ext hb)
                replace MNb := Lib.hid (MNb.out.ext hb)
                replace MNc := Lib.hid (MNc.out.ext hb)
                replace Nm := Lib.hid (Nm.out.ext hb)
                clear hb
                have x0 := MNa.out.c0
                have x1 := MNa.out.c1
                have x2 := MNa.out.c2
                have y0 := MNb.out.c0
                have y1 := MNb.out.c1
                have y2 := MNb.out.c2
                have z0 := MNc.out.c0
                have z1 := MNc.out.c1
                have z2 := MNc.out.c2
                have m0 := Nm.out.c0
                have m1 := Nm.out.c1
                have m2 := Nm.out.c2
                dsimp only at x0 x1 x2 y0 y1 y2 z0 z1 z2 m0 m1 m2
                go_wp2_with fail
                refine (emp_at _ _ _ false _ HC.out.2.2.2.2.2.2).mono ?_
                rintro e k9 ⟨rfl, hb⟩
                clear x0 x1 x2 y0 y1 y2 z0 z1 z2 m0 m1 m2
                replace Mbel := Lib.hid (Mbel.out.trans (hb.mono Mbel.out.size))
                replace MNa := Lib.hid (MNa.out.ext hb)
                replace MNb := Lib.hid (MNb.out.ext hb)
                replace MNc := Lib.hid (MNc.out.ext hb)
                replace Nm := Lib.hid (Nm.out.ext hb)
                clear hb
                have x0 := MNa.out.c0
                have x1 := MNa.out.c1
                have x2 := MNa.out.c2
                have y0 := MNb.out.c0
                have y1 := MNb.out.c1
                have y2 := MNb.out.c2
                have z0 := MNc.out.c0
                have z1 := MNc.out.c1
                have z2 := MNc.out.c2
                have m0 := Nm.out.c0
                have m1 := Nm.out.c1
                have m2 := Nm.out.c2
                dsimp only at x0 x1 x2 y0 y1 y2 z0 z1 z2 m0 m1 m2
                go_wp2_with fail
                refine (sure_any _ (HG.out.below Mbel.out)).mono ?_
                rintro e k10 ⟨rfl, hb⟩
                clear x0 x1 x2 y0 y1 y2 z0 z1 z2 m0 m1 m2
                replace Mbel := Lib.hid (Mbel.out.trans (hb.mono Mbel.out.size))
                replace MNa := Lib.hid (MNa.out.ext hb)
                replace MNb := Lib.hid (MNb.out.ext hb)
                replace MNc := Lib.hid (MNc.out.ext hb)
                replace Nm := Lib.hid (Nm.out.ext hb)
                clear hb
                have x0 := MNa.out.c0
                have x1 := MNa.out.c1
                have x2 := MNa.out.c2
                have y0 := MNb.out.c0
                have y1 := MNb.out.c1
                have y2 := MNb.out.c2
                have z0 := MNc.out.c0
                have z1 := MNc.out.c1
                have z2 := MNc.out.c2
                have m0 := Nm.out.c0
                have m1 := Nm.out.c1
                have m2 := Nm.out.c2
                dsimp only at x0 x1 x2 y0 y1 y2 z0 z1 z2 m0 m1 m2
                go_wp2_with fail
                go_ret
                exact ⟨rfl, Mbel.out⟩
end Go.Proofs.YtblebkgobhlonaaDoor
