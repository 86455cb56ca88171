/-
  keys.Meet, and the document's.
-/
import Derived.Test.YtblebkgobhlonaaDoorKeys2
import Derived.Laws.ResultCell
namespace Go.Proofs.YtblebkgobhlonaaDoor
open Go Go.RowKit

theorem results_cell_one {fn : Func} {p : Tmp} {ty : TypeId} (h : fn.results = #[.cell p ty]) (tmps : Array Value) (P : Program) (w : World) :
    (results fn tmps).run P w = ((asAddr (tmps.getD p undef)).run P w).andThen fun a w₁ => (loadVar ty a).run P w₁ := by
  simp only [results, h]
  simp [Sem.run_bind]
theorem three_below (w : World) (o1 o2 o3 : Obj) : Below w.heap.size w (((w.alloc o1).alloc o2).alloc o3) := (((Below.refl w.heap.size w).alloc (Nat.le_refl _) o1).alloc (by simp) o2).alloc (by simp; omega) o3
set_option maxRecDepth 100000 in
theorem meet_any (a b : Sp) (w : World) : Calls Tryd.prog 16 #[a.v, b.v] w fun e w' => e = .returned (meetS a b).v ∧ Below w.heap.size w w' := by
  obtain ⟨lo, hi, op⟩ := a
  obtain ⟨lo2, hi2, op2⟩ := b
  have m1 : ∀ (ts : Array TypeId) (t : TypeId) (w : World), (Builtin.max_ ts t #[.string lo, .string lo2]).run Tryd.prog w = .ok (.string (maxB lo lo2)) w := fun ts t w => by rw [Lib.run_max_strs, maxB_eq]
  have m2 : ∀ (ts : Array TypeId) (t : TypeId) (w : World), (Builtin.min_ ts t #[.string hi, .string hi2]).run Tryd.prog w = .ok (.string (minB hi hi2)) w := fun ts t w => by rw [Lib.run_min_strs, minB_eq]
  have hb : Hid (∀ o, Below w.heap.size w (((w.alloc (.cells #[.string lo, .string hi, .bool op] SPT)).alloc (.cells #[.string lo2, .string hi2, .bool op2] SPT)).alloc o)) := fun o => three_below w _ _ o
  unfold Sp.v meetS meetHi
  dsimp only
  generalize maxB lo lo2 = M1 at *
  generalize minB hi hi2 = M2 at *
  cases op <;> cases op2
  · go_enter Tryd.func16, Tryd.ntmps16
    go_wp2
    refine bodyPost_ret (v := .agg #[.string M1, .string M2, .bool false]) (by rw [results_cell_one rfl]; go_simp) rfl ⟨rfl, hb.out _⟩
  · go_enter Tryd.func16, Tryd.ntmps16
    go_wp2
    refine bodyPost_ret (v := .agg #[.string M1, .string hi, .bool false]) (by rw [results_cell_one rfl]; go_simp) rfl ⟨rfl, hb.out _⟩
  · go_enter Tryd.func16, Tryd.ntmps16
    go_wp2
    refine bodyPost_ret (v := .agg #[.string M1, .string hi2, .bool false]) (by rw [results_cell_one rfl]; go_simp) rfl ⟨rfl, hb.out _⟩
  · go_enter Tryd.func16, Tryd.ntmps16
    go_wp2
    refine bodyPost_ret (v := .agg #[.string M1, .string ⟨#[]⟩, .bool true]) (by rw [results_cell_one rfl]; go_simp) rfl ⟨rfl, hb.out _⟩
theorem SpIn.fz {w : World} {b : Nat} {T : TypeId} {s : Sp} (h : SpIn w b T s) (j : Nat) : w.frozen? ⟨b, j, none⟩ = false := by
  have h' : w.heap[b]? = _ := h
  simp [World.frozen?, h']
theorem SpIn.set0 {w : World} {b : Nat} {T : TypeId} {s : Sp} (h : SpIn w b T s) (x : ByteArray) : SpIn (w.setCell ⟨b, 0, none⟩ (.string x)) b T ⟨x, s.hi, s.op⟩ := heap_setCell_same w b 0 _ _ _ h
theorem SpIn.set1 {w : World} {b : Nat} {T : TypeId} {s : Sp} (h : SpIn w b T s) (x : ByteArray) : SpIn (w.setCell ⟨b, 1, none⟩ (.string x)) b T ⟨s.lo, x, s.op⟩ := heap_setCell_same w b 1 _ _ _ h
theorem SpIn.setOther {w : World} {b g j : Nat} {T : TypeId} {s : Sp} {v : Value} (h : SpIn w b T s) (hne : g ≠ b) : SpIn (w.setCell ⟨g, j, none⟩ v) b T s := by
  unfold SpIn
  rw [heap_setCell_other _ _ _ _ (fun e => hne e.symm)]; exact h
def Z0 : Sp := ⟨⟨#[]⟩, ⟨#[]⟩, false⟩
/-- What Meet of the document has: the two, its result, its own. -/
structure Four (w : World) (n : Nat) (a b z o : Sp) : Prop where
  sa : SpIn w n RSP a
  sb : SpIn w (n + 1) RSP b
  sz : SpIn w (n + 1 + 1) RSP z
  so : SpIn w (n + 1 + 1 + 1) RSP o
theorem four_new (w : World) (a b z o : Sp) : Four ((((w.alloc (.cells #[.string a.lo, .string a.hi, .bool a.op] RSP)).alloc (.cells #[.string b.lo, .string b.hi, .bool b.op] RSP)).alloc (.cells #[.string z.lo, .string z.hi, .bool z.op] RSP)).alloc (.cells #[.string o.lo, .string o.hi, .bool o.op] RSP)) w.heap.size a b z o ∧
    Below w.heap.size w ((((w.alloc (.cells #[.string a.lo, .string a.hi, .bool a.op] RSP)).alloc (.cells #[.string b.lo, .string b.hi, .bool b.op] RSP)).alloc (.cells #[.string z.lo, .string z.hi, .bool z.op] RSP)).alloc (.cells #[.string o.lo, .string o.hi, .bool o.op] RSP)) := by
  have h2 := two_spans w RSP a b
  obtain ⟨w2, hw2⟩ : ∃ w2, w2 = (w.alloc (.cells #[.string a.lo, .string a.hi, .bool a.op] RSP)).alloc (.cells #[.string b.lo, .string b.hi, .bool b.op] RSP) := ⟨_, rfl⟩
  have hsz : w2.heap.size = w.heap.size + 1 + 1 := by rw [hw2]; simp
  have hb2 : Below w.heap.size w w2 := by rw [hw2]; exact two_below w _ _
  rw [← hw2] at h2 ⊢
  have h4 := two_spans w2 RSP z o
  have hb4 := two_below w2 (.cells #[.string z.lo, .string z.hi, .bool z.op] RSP) (.cells #[.string o.lo, .string o.hi, .bool o.op] RSP)
  rw [hsz] at h4
  exact ⟨⟨h2.1.ext hb4, h2.2.ext hb4, h4.1, h4.2⟩, hb2.trans (hb4.mono hb2.size)⟩
theorem Four.ext {w w' : World} {n : Nat} {a b z o : Sp} (h : Four w n a b z o) (hb : Below w.heap.size w w') : Four w' n a b z o := ⟨h.sa.ext hb, h.sb.ext hb, h.sz.ext hb, h.so.ext hb⟩
theorem Four.set0 {w : World} {n : Nat} {a b z o : Sp} (h : Four w n a b z o) (x : ByteArray) : Four (w.setCell ⟨n + 1 + 1 + 1, 0, none⟩ (.string x)) n a b z ⟨x, o.hi, o.op⟩ := ⟨h.sa.setOther (by omega), h.sb.setOther (by omega), h.sz.setOther (by omega), h.so.set0 x⟩
theorem Four.set1 {w : World} {n : Nat} {a b z o : Sp} (h : Four w n a b z o) (x : ByteArray) : Four (w.setCell ⟨n + 1 + 1 + 1, 1, none⟩ (.string x)) n a b z ⟨o.lo, x, o.op⟩ := ⟨h.sa.setOther (by omega), h.sb.setOther (by omega), h.sz.setOther (by omega), h.so.set1 x⟩
/-- The document's Meet, from where its own row has its Lo. -/
theorem refMeet_any (a b : Sp) (w : World) (ha : a.lo.size ≤ 1000000) (hb : b.hi.size ≤ 1000000) : Calls Tryd.prog 17 #[a.v, b.v] w fun e w' => e = .returned (meetS a b).v ∧ Below w.heap.size w w' := by
  have l1 := fun w => less_any a.lo b.lo w ha
  have l2 := fun w => less_any b.hi a.hi w hb
  clear ha hb
  obtain ⟨lo, hi, op⟩ := a
  obtain ⟨lo2, hi2, op2⟩ := b
  unfold Sp.v meetS meetHi maxB minB
  dsimp only at *
  generalize blt lo lo2 = D1 at *
  generalize blt hi2 hi = D2 at *
  have HL := Lib.hid (And.intro l1 l2)
  clear l1 l2
  cases op <;> cases op2
  · have h4 := four_new w ⟨lo, hi, false⟩ ⟨lo2, hi2, false⟩ Z0 ⟨lo, ⟨#[]⟩, false⟩
    unfold Z0 at h4
    dsimp only at h4
    have H4 := Lib.hid h4
    clear h4
    go_enter Tryd.func17, Tryd.ntmps17
    go_wp2_with fail
    refine (HL.out.1 _).mono ?_
    rintro e w1 ⟨rfl, hb1⟩
    obtain ⟨h4, hb4⟩ := H4.out
    have h4' := h4.ext hb1
    have Hb1 := Lib.hid (hb4.trans (hb1.mono hb4.size))
    clear hb1 hb4 h4 H4
    have a0 := h4'.sa.c0
    have a1 := h4'.sa.c1
    have a2 := h4'.sa.c2
    have b0 := h4'.sb.c0
    have b1 := h4'.sb.c1
    have b2 := h4'.sb.c2
    have o0 := h4'.so.c0
    have o1 := h4'.so.c1
    have o2 := h4'.so.c2
    have of := h4'.so.fz
    have z0 := h4'.sz.c0
    have z1 := h4'.sz.c1
    have z2 := h4'.sz.c2
    have zf := h4'.sz.fz
    dsimp only at a0 a1 a2 b0 b1 b2 o0 o1 o2 z0 z1 z2
    have H4 := Lib.hid h4'
    clear h4'
    cases D1
    · have H5 := Lib.hid (H4.out.set1 hi)
      have Hb5 := Lib.hid (Hb1.out.setCell (p := ⟨w.heap.size + 1 + 1 + 1, 1, none⟩) (by dsimp only; omega) (.string hi))
      go_wp2_with fail
      clear a0 a1 a2 b0 b1 b2 o0 o1 o2 z0 z1 z2 of zf H4 Hb1
      refine (HL.out.2 _).mono ?_
      rintro e w2 ⟨rfl, hb2⟩
      have h6 := H5.out.ext hb2
      have Hb6 := Lib.hid (Hb5.out.trans (hb2.mono Hb5.out.size))
      clear hb2 H5 Hb5
      have a0 := h6.sa.c0
      have a1 := h6.sa.c1
      have a2 := h6.sa.c2
      have b0 := h6.sb.c0
      have b1 := h6.sb.c1
      have b2 := h6.sb.c2
      have o0 := h6.so.c0
      have o1 := h6.so.c1
      have o2 := h6.so.c2
      have of := h6.so.fz
      have z0 := h6.sz.c0
      have z1 := h6.sz.c1
      have z2 := h6.sz.c2
      have zf := h6.sz.fz
      dsimp only at a0 a1 a2 b0 b1 b2 o0 o1 o2 z0 z1 z2
      clear h6
      cases D2
      · go_wp2_with fail
        refine bodyPost_ret (v := .agg #[.string lo, .string hi, .bool false]) (by rw [results_cell_one rfl]; go_simp) rfl ⟨rfl, ?_⟩
        repeat refine Below.setCell ?_ (by dsimp only; omega) _
        exact Hb6.out
      · go_wp2_with fail
        refine bodyPost_ret (v := .agg #[.string lo, .string hi2, .bool false]) (by rw [results_cell_one rfl]; go_simp) rfl ⟨rfl, ?_⟩
        repeat refine Below.setCell ?_ (by dsimp only; omega) _
        exact Hb6.out
    · have H5 := Lib.hid ((H4.out.set0 lo2).set1 hi)
      have Hb5 := Lib.hid ((Hb1.out.setCell (p := ⟨w.heap.size + 1 + 1 + 1, 0, none⟩) (by dsimp only; omega) (.string lo2)).setCell (p := ⟨w.heap.size + 1 + 1 + 1, 1, none⟩) (by dsimp only; omega) (.string hi))
      go_wp2_with fail
      clear a0 a1 a2 b0 b1 b2 o0 o1 o2 z0 z1 z2 of zf H4 Hb1
      refine (HL.out.2 _).mono ?_
      rintro e w2 ⟨rfl, hb2⟩
      have h6 := H5.out.ext hb2
      have Hb6 := Lib.hid (Hb5.out.trans (hb2.mono Hb5.out.size))
      clear hb2 H5 Hb5
      have a0 := h6.sa.c0
      have a1 := h6.sa.c1
      have a2 := h6.sa.c2
      have b0 := h6.sb.c0
      have b1 := h6.sb.c1
      have b2 := h6.sb.c2
      have o0 := h6.so.c0
      have o1 := h6.so.c1
      have o2 := h6.so.c2
      have of := h6.so.fz
      have z0 := h6.sz.c0
      have z1 := h6.sz.c1
      have z2 := h6.sz.c2
      have zf := h6.sz.fz
      dsimp only at a0 a1 a2 b0 b1 b2 o0 o1 o2 z0 z1 z2
      clear h6
      cases D2
      · go_wp2_with fail
        refine bodyPost_ret (v := .agg #[.string lo2, .string hi, .bool false]) (by rw [results_cell_one rfl]; go_simp) rfl ⟨rfl, ?_⟩
        repeat refine Below.setCell ?_ (by dsimp only; omega) _
        exact Hb6.out
      · go_wp2_with fail
        refine bodyPost_ret (v := .agg #[.string lo2, .string hi2, .bool false]) (by rw [results_cell_one rfl]; go_simp) rfl ⟨rfl, ?_⟩
        repeat refine Below.setCell ?_ (by dsimp only; omega) _
        exact Hb6.out
  · have h4 := four_new w ⟨lo, hi, false⟩ ⟨lo2, hi2, true⟩ Z0 ⟨lo, ⟨#[]⟩, false⟩
    unfold Z0 at h4
    dsimp only at h4
    have H4 := Lib.hid h4
    clear h4
    go_enter Tryd.func17, Tryd.ntmps17
    go_wp2_with fail
    refine (HL.out.1 _).mono ?_
    rintro e w1 ⟨rfl, hb1⟩
    obtain ⟨h4, hb4⟩ := H4.out
    have h4' := h4.ext hb1
    have Hb1 := Lib.hid (hb4.trans (hb1.mono hb4.size))
    clear hb1 hb4 h4 H4
    have a0 := h4'.sa.c0
    have a1 := h4'.sa.c1
    have a2 := h4'.sa.c2
    have b0 := h4'.sb.c0
    have b1 := h4'.sb.c1
    have b2 := h4'.sb.c2
    have o0 := h4'.so.c0
    have o1 := h4'.so.c1
    have o2 := h4'.so.c2
    have of := h4'.so.fz
    have z0 := h4'.sz.c0
    have z1 := h4'.sz.c1
    have z2 := h4'.sz.c2
    have zf := h4'.sz.fz
    dsimp only at a0 a1 a2 b0 b1 b2 o0 o1 o2 z0 z1 z2
    have H4 := Lib.hid h4'
    clear h4'
    cases D1
    · go_wp2_with fail
      refine bodyPost_ret (v := .agg #[.string lo, .string hi, .bool false]) (by rw [results_cell_one rfl]; go_simp) rfl ⟨rfl, ?_⟩
      repeat refine Below.setCell ?_ (by dsimp only; omega) _
      exact Hb1.out
    · go_wp2_with fail
      refine bodyPost_ret (v := .agg #[.string lo2, .string hi, .bool false]) (by rw [results_cell_one rfl]; go_simp) rfl ⟨rfl, ?_⟩
      repeat refine Below.setCell ?_ (by dsimp only; omega) _
      exact Hb1.out
  · have h4 := four_new w ⟨lo, hi, true⟩ ⟨lo2, hi2, false⟩ Z0 ⟨lo, ⟨#[]⟩, false⟩
    unfold Z0 at h4
    dsimp only at h4
    have H4 := Lib.hid h4
    clear h4
    go_enter Tryd.func17, Tryd.ntmps17
    go_wp2_with fail
    refine (HL.out.1 _).mono ?_
    rintro e w1 ⟨rfl, hb1⟩
    obtain ⟨h4, hb4⟩ := H4.out
    have h4' := h4.ext hb1
    have Hb1 := Lib.hid (hb4.trans (hb1.mono hb4.size))
    clear hb1 hb4 h4 H4
    have a0 := h4'.sa.c0
    have a1 := h4'.sa.c1
    have a2 := h4'.sa.c2
    have b0 := h4'.sb.c0
    have b1 := h4'.sb.c1
    have b2 := h4'.sb.c2
    have o0 := h4'.so.c0
    have o1 := h4'.so.c1
    have o2 := h4'.so.c2
    have of := h4'.so.fz
    have z0 := h4'.sz.c0
    have z1 := h4'.sz.c1
    have z2 := h4'.sz.c2
    have zf := h4'.sz.fz
    dsimp only at a0 a1 a2 b0 b1 b2 o0 o1 o2 z0 z1 z2
    have H4 := Lib.hid h4'
    clear h4'
    cases D1
    · go_wp2_with fail
      refine bodyPost_ret (v := .agg #[.string lo, .string hi2, .bool false]) (by rw [results_cell_one rfl]; go_simp) rfl ⟨rfl, ?_⟩
      repeat refine Below.setCell ?_ (by dsimp only; omega) _
      exact Hb1.out
    · go_wp2_with fail
      refine bodyPost_ret (v := .agg #[.string lo2, .string hi2, .bool false]) (by rw [results_cell_one rfl]; go_simp) rfl ⟨rfl, ?_⟩
      repeat refine Below.setCell ?_ (by dsimp only; omega) _
      exact Hb1.out
  · have h4 := four_new w ⟨lo, hi, true⟩ ⟨lo2, hi2, true⟩ Z0 ⟨lo, ⟨#[]⟩, true⟩
    unfold Z0 at h4
    dsimp only at h4
    have H4 := Lib.hid h4
    clear h4
    go_enter Tryd.func17, Tryd.ntmps17
    go_wp2_with fail
    refine (HL.out.1 _).mono ?_
    rintro e w1 ⟨rfl, hb1⟩
    obtain ⟨h4, hb4⟩ := H4.out
    have h4' := h4.ext hb1
    have Hb1 := Lib.hid (hb4.trans (hb1.mono hb4.size))
    clear hb1 hb4 h4 H4
    have a0 := h4'.sa.c0
    have a1 := h4'.sa.c1
    have a2 := h4'.sa.c2
    have b0 := h4'.sb.c0
    have b1 := h4'.sb.c1
    have b2 := h4'.sb.c2
    have o0 := h4'.so.c0
    have o1 := h4'.so.c1
    have o2 := h4'.so.c2
    have of := h4'.so.fz
    have z0 := h4'.sz.c0
    have z1 := h4'.sz.c1
    have z2 := h4'.sz.c2
    have zf := h4'.sz.fz
    dsimp only at a0 a1 a2 b0 b1 b2 o0 o1 o2 z0 z1 z2
    have H4 := Lib.hid h4'
    clear h4'
    cases D1
    · go_wp2_with fail
      refine bodyPost_ret (v := .agg #[.string lo, .string ⟨#[]⟩, .bool true]) (by rw [results_cell_one rfl]; go_simp) rfl ⟨rfl, ?_⟩
      repeat refine Below.setCell ?_ (by dsimp only; omega) _
      exact Hb1.out
    · go_wp2_with fail
      refine bodyPost_ret (v := .agg #[.string lo2, .string ⟨#[]⟩, .bool true]) (by rw [results_cell_one rfl]; go_simp) rfl ⟨rfl, ?_⟩
      repeat refine Below.setCell ?_ (by dsimp only; omega) _
      exact Hb1.out
end Go.Proofs.YtblebkgobhlonaaDoor
