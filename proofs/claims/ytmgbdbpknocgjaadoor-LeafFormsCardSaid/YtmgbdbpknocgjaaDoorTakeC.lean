/-
  leaf's take: the next cell.
-/
import Derived.Test.YtmgbdbpknocgjaaDoorPlain
import Derived.Test.YtmgbdbpknocgjaaDoorCells
import Derived.Test.YtmgbdbpknocgjaaDoorGx
import Derived.Test.YtmgbdbpknocgjaaDoorGet
import Derived.Laws.ResultCell
namespace Go.Proofs.YtmgbdbpknocgjaaDoor
open Go Go.RowKit

/-- One proof for several ways. -/
theorem share {G T : Prop} (k : G) (h : G → T) : T := h k
theorem results_cell_one {fn : Func} {p : Tmp} {ty : TypeId} (h : fn.results = #[.cell p ty]) (tmps : Array Value) (P : Program) (w : World) :
    (results fn tmps).run P w = ((asAddr (tmps.getD p undef)).run P w).andThen fun a w₁ => (loadVar ty a).run P w₁ := by
  simp only [results, h]
  simp [Sem.run_bind]
/-- A block that holds a cell. -/
def CIn (w : World) (b : Nat) (T : TypeId) (c : Ce) : Prop := w.heap[b]? = some (.cells #[.string c.k, .string c.v, .int .i64 c.n, .int .i64 c.p] T (0, 0))
theorem CIn.c0 {w : World} {b : Nat} {T : TypeId} {c : Ce} (h : CIn w b T c) : w.cell? ⟨b, 0, none⟩ = some (.string c.k) := by
  have h' : w.heap[b]? = _ := h
  simp [World.cell?, h']
theorem CIn.c1 {w : World} {b : Nat} {T : TypeId} {c : Ce} (h : CIn w b T c) : w.cell? ⟨b, 1, none⟩ = some (.string c.v) := by
  have h' : w.heap[b]? = _ := h
  simp [World.cell?, h']
theorem CIn.c2 {w : World} {b : Nat} {T : TypeId} {c : Ce} (h : CIn w b T c) : w.cell? ⟨b, 2, none⟩ = some (.int .i64 c.n) := by
  have h' : w.heap[b]? = _ := h
  simp [World.cell?, h']
theorem CIn.c3 {w : World} {b : Nat} {T : TypeId} {c : Ce} (h : CIn w b T c) : w.cell? ⟨b, 3, none⟩ = some (.int .i64 c.p) := by
  have h' : w.heap[b]? = _ := h
  simp [World.cell?, h']
theorem CIn.fz {w : World} {b : Nat} {T : TypeId} {c : Ce} (h : CIn w b T c) (j : Nat) : w.frozen? ⟨b, j, none⟩ = false := by
  have h' : w.heap[b]? = _ := h
  simp [World.frozen?, h']
theorem CIn.lt {w : World} {b : Nat} {T : TypeId} {c : Ce} (h : CIn w b T c) : b < w.heap.size := (Array.getElem?_eq_some_iff.1 h).1
theorem CIn.new (w : World) (T : TypeId) (c : Ce) : CIn (w.alloc (.cells #[.string c.k, .string c.v, .int .i64 c.n, .int .i64 c.p] T)) w.heap.size T c := by
  show (w.heap.push _)[w.heap.size]? = _; rw [Array.getElem?_push_size]
theorem CIn.ext {w w' : World} {b : Nat} {T : TypeId} {c : Ce} (h : CIn w b T c) (hb : Below w.heap.size w w') : CIn w' b T c := (hb.block b h.lt).trans h
theorem CIn.stay {w : World} {b : Nat} {T : TypeId} {c : Ce} (h : CIn w b T c) (o : Obj) : CIn (w.alloc o) b T c := h.ext ((Below.refl _ _).alloc (Nat.le_refl _) o)
theorem CIn.turn {w w' : World} {b : Nat} {T : TypeId} {c : Ce} {F : Nat → Prop} (h : CIn w b T c) (t : Turn F w w') (hF : ¬ F b) : CIn w' b T c := t.hg h hF
theorem CIn.noByte {w : World} {b : Nat} {T : TypeId} {c : Ce} (h : CIn w b T c) : NoByte w b := fun j y hj => by
  have h' : w.heap[b]? = _ := h
  simp only [World.cell?, h'] at hj
  rcases j with _ | _ | _ | _ | j <;> simp at hj
theorem CIn.set0 {w : World} {b : Nat} {T : TypeId} {c : Ce} (h : CIn w b T c) (x : ByteArray) : CIn (w.setCell ⟨b, 0, none⟩ (.string x)) b T ⟨x, c.v, c.n, c.p⟩ := heap_setCell_same w b 0 _ _ _ h
theorem CIn.set1 {w : World} {b : Nat} {T : TypeId} {c : Ce} (h : CIn w b T c) (x : ByteArray) : CIn (w.setCell ⟨b, 1, none⟩ (.string x)) b T ⟨c.k, x, c.n, c.p⟩ := heap_setCell_same w b 1 _ _ _ h
theorem CIn.set2 {w : World} {b : Nat} {T : TypeId} {c : Ce} (h : CIn w b T c) (x : Int) : CIn (w.setCell ⟨b, 2, none⟩ (.int .i64 x)) b T ⟨c.k, c.v, x, c.p⟩ := heap_setCell_same w b 2 _ _ _ h
theorem CIn.set3 {w : World} {b : Nat} {T : TypeId} {c : Ce} (h : CIn w b T c) (x : Int) : CIn (w.setCell ⟨b, 3, none⟩ (.int .i64 x)) b T ⟨c.k, c.v, c.n, x⟩ := heap_setCell_same w b 3 _ _ _ h
/-- A world in which a cell was stored. -/
def fillC (w : World) (b : Nat) (c : Ce) : World := (((w.setCell ⟨b, 0, none⟩ (.string c.k)).setCell ⟨b, 1, none⟩ (.string c.v)).setCell ⟨b, 2, none⟩ (.int .i64 c.n)).setCell ⟨b, 3, none⟩ (.int .i64 c.p)
theorem CIn.fill {w : World} {b : Nat} {T : TypeId} {c : Ce} (h : CIn w b T c) (d : Ce) : CIn (fillC w b d) b T d := (((h.set0 d.k).set1 d.v).set2 d.n).set3 d.p
theorem fillC_turn (w : World) (b : Nat) (c : Ce) : Turn (fun i => i = b) w (fillC w b c) :=
  ((((Turn.refl (fun i => i = b) w).setCell (p := ⟨b, 0, none⟩) _ (fun _ => rfl)).setCell (p := ⟨b, 1, none⟩) _ (fun _ => rfl)).setCell (p := ⟨b, 2, none⟩) _ (fun _ => rfl)).setCell (p := ⟨b, 3, none⟩) _ (fun _ => rfl)
/-- Blocks with no bytes turn: bytes stay. -/
theorem Sl.turnF {w w' : World} {F : Nat → Prop} {v : Value} {l : List Nat} (h : Sl w v l) (t : Turn F w w') (hn : ∀ b, F b → NoByte w b) : Sl w' v l := by
  rcases h with h | ⟨g, o, c, rfl, hc, h1, h2⟩
  · exact .inl h
  · refine .inr ⟨g, o, c, rfl, fun i hi => ?_, h1, h2⟩
    have hx := hc i hi
    rw [t.cell (p := ⟨g, o + i, Option.none⟩) (block_lt_of_cell hx) (fun hF => hn g hF _ _ hx)]
    exact hx
theorem Rd.turnF {w w' : World} {F : Nat → Prop} {b : Nat} {S : RS} (h : Rd w b S) (t : Turn F w w') (hb : ¬ F b) (hn : ∀ b, F b → NoByte w b) : Rd w' b S := by
  obtain ⟨v, h1, h2⟩ := h.ex
  exact ⟨⟨v, h1.turn t hb, h2.turnF t hn⟩, h.b8, h.len, h.inv⟩
abbrev zC : Obj := .cells #[.string ⟨#[]⟩, .string ⟨#[]⟩, .int .i64 0, .int .i64 0] CT
def c0 : Ce := ⟨⟨#[]⟩, ⟨#[]⟩, 0, 0⟩
theorem c0_new (w : World) : CIn (w.alloc zC) w.heap.size CT c0 := CIn.new w CT c0
theorem turn_new (w : World) (o : Obj) (F : Nat → Prop) : Turn F w (w.alloc o) := (Turn.refl F w).alloc o
theorem nb1 {w : World} {b : Nat} (h : NoByte w b) : ∀ i, i = b → NoByte w i := fun _ e => e ▸ h
theorem nb2 {w : World} {b p : Nat} (h : NoByte w b) (h2 : NoByte w p) : ∀ i, (i = b ∨ i = p) → NoByte w i := fun _ e => e.elim (fun e => e ▸ h) (fun e => e ▸ h2)
theorem byteS_b8 {S : RS} (h : B8 S.l) : (byteS S).1 < 256 ∧ B8 (byteS S).2.l := by
  by_cases h0 : S.l = []
  · rw [byteS_nil h0]; exact ⟨by decide, B8.nil⟩
  · rw [byteS_cons h0]; exact ⟨h.get 0, h.drop 1⟩
theorem plainS_b8 {S : RS} (h : B8 S.l) : ∀ n, B8 (plainS S n).1 ∧ B8 (plainS S n).2.l
  | 0 => ⟨B8.nil, h⟩
  | n + 1 => by
    obtain ⟨h1, h2⟩ := plainS_b8 h n
    obtain ⟨h3, h4⟩ := byteS_b8 h2
    exact ⟨h1.append (B8.one h3), h4⟩
set_option maxRecDepth 100000 in
set_option maxHeartbeats 1000000 in
theorem leafTake_any (w : World) (b B : Nat) (S : RS) (h : Rb w b B S) (hB : B ≤ w.heap.size) :
    Calls Tryd.prog 29 #[.pointer (some ⟨b, 0, none⟩)] w fun e w' => e = .returned (tkS S).1.val ∧ Rb w' b B (tkS S).2 ∧ Turn (fun i => i = b) w w' := by
  have hbl := Lib.hid h.lt
  obtain ⟨w0, hw0⟩ : ∃ w0, w0 = (w.alloc zC).drew := ⟨_, rfl⟩
  have hq : Hid (CIn w0 w.heap.size CT c0) := by rw [hw0]; exact c0_new w
  have hb0 : Hid (Below w.heap.size w w0) := by rw [hw0]; exact ((Below.refl _ _).alloc (Nat.le_refl _) _).drew
  have hr0 := Lib.hid (h.below hb0.out)
  have HB := Lib.hid hB
  clear hB
  obtain ⟨BS, hBS⟩ : ∃ B, bytesS S 40 = B := ⟨_, rfl⟩
  obtain ⟨KL, S1⟩ := BS
  obtain ⟨M, hM⟩ : ∃ M, numS S1 2048 = M := ⟨_, rfl⟩
  obtain ⟨N, S2⟩ := M
  have hN : N ≤ 2048 := by have := numS_le S1 2048; rw [hM] at this; exact this
  have htk : Hid (tkS S = if N ≤ 64 then (⟨bstr KL, bstr (plainS S2 N).1, N, 0⟩, (plainS S2 N).2) else (⟨bstr KL, ByteArray.empty, N, (numL (plainS S2 2).1 : Nat)⟩, (plainS S2 2).2)) := by
    show _ = _; unfold tkS; rw [hBS]; simp only; rw [hM]
  have HS := Lib.hid (And.intro hBS hM)
  have i4 : IntKind.i64.wrap (N : Int) = (N : Int) := by rw [IntKind.wrap_i64]; omega
  have HI : Hid ((-9223372036854775808 : Int) ≤ 40 ∧ (40 : Int) ≤ 9223372036854775807) := by constructor <;> decide
  generalize tkS S = T at *
  clear hBS hM h
  go_enter Tryd.func29, Tryd.ntmps29
  go_wp2_with fail
  refine wp_region_gx (fun i => i = b) (.rd 0 (.rd 3 (.two 1 (.rd 2 (.two 4 (.rd 5 (.rd 6 (.call 7 (.call 8 .done)))) 7 (.call 4 (.rd 5 (.rd 6 (.call 8 .done)))))) 7 (.call 1 (.rd 2 (.call 4 (.rd 5 (.rd 6 (.call 8 .done))))))))) (by kernel_rfl) (by kernel_rfl) (by kernel_rfl) (by kernel_rfl) (fun _ _ _ _ _ h => h) ?_
  rw [← hw0]
  clear hw0
  iterate 2 (refine wpGx_read (o := ⟨_, _, _, _, _, _⟩) (v := ?_) rfl (by rfl) ?_ ?_; rotate_left; (intro w' hw'; go_simp; with_reducible rfl); simp only [Act.put, List.setIfInBounds_toArray, List.set_cons_zero, List.set_cons_succ])
  have Dq : Hid (w.heap.size ≠ b) := Ne.symm (Nat.ne_of_lt hbl.out)
  apply share
  case h =>
    intro share_k
    have Rx := hr0
    have Hq := hq
    have Tw : Hid (Turn (fun i => i = b) w w0) := Turn.ofBelow hb0.out
    refine ⟨?_, ?_⟩
    · refine stepX_call (o := ⟨_, _, _, _, _, _⟩) rfl (by rfl) (fun K hK => ?_)
      go_simp
      refine (rbytesB_any w0 b B S Rx.out 40 40 rfl HI.out.1 HI.out.2).mono ?_
      rintro e w1 ⟨v, rfl, hv, hr1, ht1⟩
      rw [HS.out.1] at hv hr1
      refine hK (fun i => i = b) (fun _ h _ => h) _ _ ht1 ?_
      clear hK K
      replace Rx := Lib.hid hr1
      have Hv := Lib.hid hv
      replace Hq := Lib.hid (Hq.out.turn ht1 Dq.out)
      replace Tw := Lib.hid (Tw.out.trans ht1)
      have cv : ∀ w', Turn (fun i => i = b) w1 w' → (convert 23 9 v).run Tryd.prog w' = .ok (.string (bstr KL)) w' := fun w' t => (Hv.out.turnF t (nb1 Rx.out.noByte)).conv
      clear hr1 hv ht1
      iterate 1 (refine wpGx_read (o := ⟨_, _, _, _, _, _⟩) (v := ?_) rfl (by rfl) ?_ ?_; rotate_left; (intro w' hw'; go_simp; with_reducible rfl); simp only [Act.put, List.setIfInBounds_toArray, List.set_cons_zero, List.set_cons_succ])
      clear cv Hv
      refine ⟨?_, ?_⟩
      · refine stepX_call (o := ⟨_, _, _, _, _, _⟩) rfl (by rfl) (fun K hK => ?_)
        go_simp
        refine (rnumB_any w1 b B S1 Rx.out 2048).mono ?_
        rintro e w2 ⟨rfl, hr1, ht1⟩
        rw [HS.out.2] at hr1 ⊢
        refine hK (fun i => i = b) (fun _ h _ => h) _ _ ht1 ?_
        clear hK K
        replace Rx := Lib.hid hr1
        replace Hq := Lib.hid (Hq.out.turn ht1 Dq.out)
        replace Tw := Lib.hid (Tw.out.trans ht1)
        clear hr1 ht1
        iterate 2 (refine wpGx_read (o := ⟨_, _, _, _, _, _⟩) (v := ?_) rfl (by rfl) ?_ ?_; rotate_left; (intro w' hw'; go_simp; with_reducible rfl); simp only [Act.put, List.setIfInBounds_toArray, List.set_cons_zero, List.set_cons_succ])
        refine stepX_call (o := ⟨_, _, _, _, _, _⟩) rfl (by rfl) (fun K hK => ?_)
        go_simp
        refine hK (fun i => i = b ∨ i = w2.heap.size) (fun j h hj => h.elim id (fun h => absurd (h ▸ hj) (Nat.lt_irrefl _))) _ _ (turn_new w2 zC _) ?_
        clear hK K
        obtain ⟨w3, hwo⟩ : ∃ x, x = w2.alloc zC := ⟨_, rfl⟩
        have Np : Hid (CIn w3 w2.heap.size CT c0) := by rw [hwo]; exact c0_new w2
        have Rx' : Hid (Rb w3 b B S2) := by rw [hwo]; exact Rx.out.below ((Below.refl _ _).alloc (Nat.le_refl _) _)
        have Hq' : Hid (CIn w3 w.heap.size CT c0) := by rw [hwo]; exact Hq.out.stay _
        have Tw' : Hid (Turn (fun i => i = b) w w3) := by rw [hwo]; exact Tw.out.alloc _
        have Dp : Hid (w2.heap.size ≠ b) := Ne.symm (Nat.ne_of_lt Rx.out.lt)
        have Dpq : Hid (w2.heap.size ≠ w.heap.size) := Ne.symm (Nat.ne_of_lt Hq.out.lt)
        have Np2 : Hid (w.heap.size ≤ w2.heap.size) := Tw.out.size
        rw [← hwo]
        clear hwo Rx Hq Tw
        have Rx := Rx'
        have Hq := Hq'
        have Tw := Tw'
        clear Rx' Hq' Tw'
        obtain ⟨p, hp⟩ : ∃ p, p = w2.heap.size := ⟨_, rfl⟩
        rw [← hp] at Np Dp Dpq Np2 ⊢
        clear hp
        refine stepX_call (o := ⟨_, _, _, _, _, _⟩) rfl (by rfl) (fun K hK => ?_)
        have z0 := Np.out.c0
        have z1 := Np.out.c1
        have z2 := Np.out.c2
        have z3 := Np.out.c3
        have y0 := Np.out.fz 0
        have y1 := Np.out.fz 1
        have y2 := Np.out.fz 2
        have y3 := Np.out.fz 3
        go_simp
        clear z0 z1 z2 z3 y0 y1 y2 y3
        refine hK (fun i => i = b ∨ i = p) (fun _ h _ => h) _ _ ((fillC_turn w3 p ⟨bstr KL, ⟨#[]⟩, N, 0⟩).mono (fun _ h _ => .inr h)) ?_
        clear hK K
        obtain ⟨wz, hwz⟩ : ∃ x, x = fillC w3 p ⟨bstr KL, ⟨#[]⟩, N, 0⟩ := ⟨_, rfl⟩
        have Nz : Hid (CIn wz p CT ⟨bstr KL, ⟨#[]⟩, N, 0⟩) := by rw [hwz]; exact Np.out.fill _
        have Rz : Hid (Rb wz b B S2) := by rw [hwz]; exact Rx.out.over (fillC_turn _ _ _) (Nat.le_trans HB.out Np2.out) (Ne.symm Dp.out)
        have Qz : Hid (CIn wz w.heap.size CT c0) := by rw [hwz]; exact Hq.out.turn (fillC_turn _ _ _) (Ne.symm Dpq.out)
        have Tz : Hid (Turn (fun i => i = b) w wz) := by
          rw [hwz]
          exact Tw.out.step (fillC_turn _ _ _) (fun i h hi => absurd (h ▸ hi) (Nat.not_lt.2 Np2.out))
        have Dz : Hid (p ≠ b ∧ p ≠ w.heap.size ∧ w.heap.size ≤ p) := ⟨Dp.out, Dpq.out, Np2.out⟩
        show wpGx _ _ _ _ _ _ (fillC w3 p ⟨bstr KL, ⟨#[]⟩, N, 0⟩)
        rw [← hwz]
        clear hwz Np Rx Hq Tw Dp Dpq Np2
        refine wpGx_done ?_
        revert Nz Rz Qz Tz Dz
        revert wz
        revert p
        revert v
        exact share_k
      · refine stepX_call (o := ⟨_, _, _, _, _, _⟩) rfl (by rfl) (fun K hK => ?_)
        go_simp
        refine hK (fun i => i = b ∨ i = w1.heap.size) (fun j h hj => h.elim id (fun h => absurd (h ▸ hj) (Nat.lt_irrefl _))) _ _ (turn_new w1 zC _) ?_
        clear hK K
        obtain ⟨w2, hwo⟩ : ∃ x, x = w1.alloc zC := ⟨_, rfl⟩
        have Np : Hid (CIn w2 w1.heap.size CT c0) := by rw [hwo]; exact c0_new w1
        have Rx' : Hid (Rb w2 b B S1) := by rw [hwo]; exact Rx.out.below ((Below.refl _ _).alloc (Nat.le_refl _) _)
        have Hq' : Hid (CIn w2 w.heap.size CT c0) := by rw [hwo]; exact Hq.out.stay _
        have Tw' : Hid (Turn (fun i => i = b) w w2) := by rw [hwo]; exact Tw.out.alloc _
        have Dp : Hid (w1.heap.size ≠ b) := Ne.symm (Nat.ne_of_lt Rx.out.lt)
        have Dpq : Hid (w1.heap.size ≠ w.heap.size) := Ne.symm (Nat.ne_of_lt Hq.out.lt)
        have Np2 : Hid (w.heap.size ≤ w1.heap.size) := Tw.out.size
        rw [← hwo]
        clear hwo Rx Hq Tw
        have Rx := Rx'
        have Hq := Hq'
        have Tw := Tw'
        clear Rx' Hq' Tw'
        obtain ⟨p, hp⟩ : ∃ p, p = w1.heap.size := ⟨_, rfl⟩
        rw [← hp] at Np Dp Dpq Np2 ⊢
        clear hp
        refine stepX_call (o := ⟨_, _, _, _, _, _⟩) rfl (by rfl) (fun K hK => ?_)
        go_simp
        refine (rnumB_any w2 b B S1 Rx.out 2048).mono ?_
        rintro e w3 ⟨rfl, hr1, ht1⟩
        rw [HS.out.2] at hr1 ⊢
        refine hK (fun i => i = b ∨ i = p) (fun _ h _ => h) _ _ (ht1.mono (fun _ h _ => .inl h)) ?_
        clear hK K
        replace Rx := Lib.hid hr1
        replace Np := Lib.hid (Np.out.turn ht1 Dp.out)
        replace Hq := Lib.hid (Hq.out.turn ht1 Dq.out)
        replace Tw := Lib.hid (Tw.out.trans ht1)
        clear hr1 ht1
        iterate 2 (refine wpGx_read (o := ⟨_, _, _, _, _, _⟩) (v := ?_) rfl (by rfl) ?_ ?_; rotate_left; (intro w' hw'; go_simp; with_reducible rfl); simp only [Act.put, List.setIfInBounds_toArray, List.set_cons_zero, List.set_cons_succ])
        refine stepX_call (o := ⟨_, _, _, _, _, _⟩) rfl (by rfl) (fun K hK => ?_)
        have z0 := Np.out.c0
        have z1 := Np.out.c1
        have z2 := Np.out.c2
        have z3 := Np.out.c3
        have y0 := Np.out.fz 0
        have y1 := Np.out.fz 1
        have y2 := Np.out.fz 2
        have y3 := Np.out.fz 3
        go_simp
        clear z0 z1 z2 z3 y0 y1 y2 y3
        refine hK (fun i => i = b ∨ i = p) (fun _ h _ => h) _ _ ((fillC_turn w3 p ⟨bstr KL, ⟨#[]⟩, N, 0⟩).mono (fun _ h _ => .inr h)) ?_
        clear hK K
        obtain ⟨wz, hwz⟩ : ∃ x, x = fillC w3 p ⟨bstr KL, ⟨#[]⟩, N, 0⟩ := ⟨_, rfl⟩
        have Nz : Hid (CIn wz p CT ⟨bstr KL, ⟨#[]⟩, N, 0⟩) := by rw [hwz]; exact Np.out.fill _
        have Rz : Hid (Rb wz b B S2) := by rw [hwz]; exact Rx.out.over (fillC_turn _ _ _) (Nat.le_trans HB.out Np2.out) (Ne.symm Dp.out)
        have Qz : Hid (CIn wz w.heap.size CT c0) := by rw [hwz]; exact Hq.out.turn (fillC_turn _ _ _) (Ne.symm Dpq.out)
        have Tz : Hid (Turn (fun i => i = b) w wz) := by
          rw [hwz]
          exact Tw.out.step (fillC_turn _ _ _) (fun i h hi => absurd (h ▸ hi) (Nat.not_lt.2 Np2.out))
        have Dz : Hid (p ≠ b ∧ p ≠ w.heap.size ∧ w.heap.size ≤ p) := ⟨Dp.out, Dpq.out, Np2.out⟩
        show wpGx _ _ _ _ _ _ (fillC w3 p ⟨bstr KL, ⟨#[]⟩, N, 0⟩)
        rw [← hwz]
        clear hwz Np Rx Hq Tw Dp Dpq Np2
        refine wpGx_done ?_
        revert Nz Rz Qz Tz Dz
        revert wz
        revert p
        revert v
        exact share_k
    · refine stepX_call (o := ⟨_, _, _, _, _, _⟩) rfl (by rfl) (fun K hK => ?_)
      go_simp
      refine hK (fun i => i = b ∨ i = w0.heap.size) (fun j h hj => h.elim id (fun h => absurd (h ▸ hj) (Nat.lt_irrefl _))) _ _ (turn_new w0 zC _) ?_
      clear hK K
      obtain ⟨w1, hwo⟩ : ∃ x, x = w0.alloc zC := ⟨_, rfl⟩
      have Np : Hid (CIn w1 w0.heap.size CT c0) := by rw [hwo]; exact c0_new w0
      have Rx' : Hid (Rb w1 b B S) := by rw [hwo]; exact Rx.out.below ((Below.refl _ _).alloc (Nat.le_refl _) _)
      have Hq' : Hid (CIn w1 w.heap.size CT c0) := by rw [hwo]; exact Hq.out.stay _
      have Tw' : Hid (Turn (fun i => i = b) w w1) := by rw [hwo]; exact Tw.out.alloc _
      have Dp : Hid (w0.heap.size ≠ b) := Ne.symm (Nat.ne_of_lt Rx.out.lt)
      have Dpq : Hid (w0.heap.size ≠ w.heap.size) := Ne.symm (Nat.ne_of_lt Hq.out.lt)
      have Np2 : Hid (w.heap.size ≤ w0.heap.size) := Tw.out.size
      rw [← hwo]
      clear hwo Rx Hq Tw
      have Rx := Rx'
      have Hq := Hq'
      have Tw := Tw'
      clear Rx' Hq' Tw'
      obtain ⟨p, hp⟩ : ∃ p, p = w0.heap.size := ⟨_, rfl⟩
      rw [← hp] at Np Dp Dpq Np2 ⊢
      clear hp
      refine stepX_call (o := ⟨_, _, _, _, _, _⟩) rfl (by rfl) (fun K hK => ?_)
      go_simp
      refine (rbytesB_any w1 b B S Rx.out 40 40 rfl HI.out.1 HI.out.2).mono ?_
      rintro e w2 ⟨v, rfl, hv, hr1, ht1⟩
      rw [HS.out.1] at hv hr1
      refine hK (fun i => i = b ∨ i = p) (fun _ h _ => h) _ _ (ht1.mono (fun _ h _ => .inl h)) ?_
      clear hK K
      replace Rx := Lib.hid hr1
      have Hv := Lib.hid hv
      replace Np := Lib.hid (Np.out.turn ht1 Dp.out)
      replace Hq := Lib.hid (Hq.out.turn ht1 Dq.out)
      replace Tw := Lib.hid (Tw.out.trans ht1)
      have cv : ∀ w', Turn (fun i => i = b ∨ i = p) w2 w' → (convert 23 9 v).run Tryd.prog w' = .ok (.string (bstr KL)) w' := fun w' t => (Hv.out.turnF t (nb2 Rx.out.noByte Np.out.noByte)).conv
      clear hr1 hv ht1
      iterate 1 (refine wpGx_read (o := ⟨_, _, _, _, _, _⟩) (v := ?_) rfl (by rfl) ?_ ?_; rotate_left; (intro w' hw'; go_simp; with_reducible rfl); simp only [Act.put, List.setIfInBounds_toArray, List.set_cons_zero, List.set_cons_succ])
      clear cv Hv
      refine stepX_call (o := ⟨_, _, _, _, _, _⟩) rfl (by rfl) (fun K hK => ?_)
      go_simp
      refine (rnumB_any w2 b B S1 Rx.out 2048).mono ?_
      rintro e w3 ⟨rfl, hr1, ht1⟩
      rw [HS.out.2] at hr1 ⊢
      refine hK (fun i => i = b ∨ i = p) (fun _ h _ => h) _ _ (ht1.mono (fun _ h _ => .inl h)) ?_
      clear hK K
      replace Rx := Lib.hid hr1
      replace Np := Lib.hid (Np.out.turn ht1 Dp.out)
      replace Hq := Lib.hid (Hq.out.turn ht1 Dq.out)
      replace Tw := Lib.hid (Tw.out.trans ht1)
      clear hr1 ht1
      iterate 2 (refine wpGx_read (o := ⟨_, _, _, _, _, _⟩) (v := ?_) rfl (by rfl) ?_ ?_; rotate_left; (intro w' hw'; go_simp; with_reducible rfl); simp only [Act.put, List.setIfInBounds_toArray, List.set_cons_zero, List.set_cons_succ])
      refine stepX_call (o := ⟨_, _, _, _, _, _⟩) rfl (by rfl) (fun K hK => ?_)
      have z0 := Np.out.c0
      have z1 := Np.out.c1
      have z2 := Np.out.c2
      have z3 := Np.out.c3
      have y0 := Np.out.fz 0
      have y1 := Np.out.fz 1
      have y2 := Np.out.fz 2
      have y3 := Np.out.fz 3
      go_simp
      clear z0 z1 z2 z3 y0 y1 y2 y3
      refine hK (fun i => i = b ∨ i = p) (fun _ h _ => h) _ _ ((fillC_turn w3 p ⟨bstr KL, ⟨#[]⟩, N, 0⟩).mono (fun _ h _ => .inr h)) ?_
      clear hK K
      obtain ⟨wz, hwz⟩ : ∃ x, x = fillC w3 p ⟨bstr KL, ⟨#[]⟩, N, 0⟩ := ⟨_, rfl⟩
      have Nz : Hid (CIn wz p CT ⟨bstr KL, ⟨#[]⟩, N, 0⟩) := by rw [hwz]; exact Np.out.fill _
      have Rz : Hid (Rb wz b B S2) := by rw [hwz]; exact Rx.out.over (fillC_turn _ _ _) (Nat.le_trans HB.out Np2.out) (Ne.symm Dp.out)
      have Qz : Hid (CIn wz w.heap.size CT c0) := by rw [hwz]; exact Hq.out.turn (fillC_turn _ _ _) (Ne.symm Dpq.out)
      have Tz : Hid (Turn (fun i => i = b) w wz) := by
        rw [hwz]
        exact Tw.out.step (fillC_turn _ _ _) (fun i h hi => absurd (h ▸ hi) (Nat.not_lt.2 Np2.out))
      have Dz : Hid (p ≠ b ∧ p ≠ w.heap.size ∧ w.heap.size ≤ p) := ⟨Dp.out, Dpq.out, Np2.out⟩
      show wpGx _ _ _ _ _ _ (fillC w3 p ⟨bstr KL, ⟨#[]⟩, N, 0⟩)
      rw [← hwz]
      clear hwz Np Rx Hq Tw Dp Dpq Np2
      refine wpGx_done ?_
      revert Nz Rz Qz Tz Dz
      revert wz
      revert p
      revert v
      exact share_k
  case k =>
    intro v p wz Nz Rz Qz Tz Dz
    clear hr0 hq hb0 HS HI
    have hi := fun w => isIn_any (N : Int) w
    have z2 := Nz.out.c2
    by_cases h64 : N ≤ 64
    · have hT : Hid (T = (⟨bstr KL, bstr (plainS S2 N).1, N, 0⟩, (plainS S2 N).2)) := by show _ = _; rw [htk.out, if_pos h64]
      have d1 : decide ((N : Int) ≤ 64) = true := by simp; omega
      rw [d1] at hi
      clear htk d1
      have hpl := Lib.hid (plain_any wz b B S2 Rz.out (Nat.le_trans HB.out Tz.out.size) N (by omega))
      generalize plainS S2 N = PL at *
      obtain ⟨L, S3⟩ := PL
      dsimp only at hT hpl
      go_wp2_with fail
      refine (hi _).mono ?_
      rintro e w' ⟨rfl, rfl⟩
      go_wp2_with fail
      refine hpl.out.mono ?_
      rintro e w2 ⟨v2, rfl, hv2, hr2, ht2⟩
      have cv := hv2.conv
      have N2 := Lib.hid (Nz.out.turn ht2 Dz.out.1)
      have Q2 := Lib.hid (Qz.out.turn ht2 Dq.out)
      have T2 := Lib.hid (Tz.out.trans ht2)
      have R2 := Lib.hid hr2
      generalize bstr L = s at *
      have N3 : Hid (CIn (w2.setCell ⟨p, 1, none⟩ (.string s)) p CT ⟨bstr KL, s, N, 0⟩) := N2.out.set1 s
      have Q3 : Hid (CIn (w2.setCell ⟨p, 1, none⟩ (.string s)) w.heap.size CT c0) := Q2.out.turn (turn_set1 w2 p 1 _) (Ne.symm Dz.out.2.1)
      have Q4 := Lib.hid (Q3.out.fill ⟨bstr KL, s, N, 0⟩)
      have R4 : Hid (Rb (fillC (w2.setCell ⟨p, 1, none⟩ (.string s)) w.heap.size ⟨bstr KL, s, N, 0⟩) b B S3) :=
        (R2.out.over (turn_set1 w2 p 1 _) (Nat.le_trans HB.out Dz.out.2.2) (Ne.symm Dz.out.1)).over (fillC_turn _ _ _) HB.out (Ne.symm Dq.out)
      have T4 : Hid (Turn (fun i => i = b) w (fillC (w2.setCell ⟨p, 1, none⟩ (.string s)) w.heap.size ⟨bstr KL, s, N, 0⟩)) :=
        (T2.out.step (turn_set1 w2 p 1 _) (fun i h hi => by subst h; exact absurd hi (Nat.not_lt.2 Dz.out.2.2))).step (fillC_turn _ _ _) (fun i h hi => by subst h; exact absurd hi (Nat.lt_irrefl _))
      have n0 := N3.out.c0
      have n1 := N3.out.c1
      have n2 := N3.out.c2
      have n3 := N3.out.c3
      have nf := N2.out.fz 1
      have m1 := N2.out.c1
      have q0 := Q3.out.c0
      have q1 := Q3.out.c1
      have q2 := Q3.out.c2
      have q3 := Q3.out.c3
      have f0 := Q3.out.fz 0
      have f1 := Q3.out.fz 1
      have f2 := Q3.out.fz 2
      have f3 := Q3.out.fz 3
      have y0 := Q4.out.c0
      have y1 := Q4.out.c1
      have y2 := Q4.out.c2
      have y3 := Q4.out.c3
      unfold fillC at y0 y1 y2 y3
      dsimp only at n0 n1 n2 n3 m1 y0 y1 y2 y3
      clear z2 hv2 hr2 ht2 hpl hi Nz Rz Qz Tz N2 Q2 T2 R2 N3 Q3 Q4 h64 hN
      go_wp2
      refine bodyPost_ret (v := .agg #[.string (bstr KL), .string s, .int .i64 N, .int .i64 0]) (by rw [results_cell_one rfl]; go_simp) rfl ⟨by rw [hT.out]; rfl, by rw [hT.out]; exact R4.out, T4.out⟩
    · have hT : Hid (T = (⟨bstr KL, ByteArray.empty, N, (numL (plainS S2 2).1 : Nat)⟩, (plainS S2 2).2)) := by show _ = _; rw [htk.out, if_neg h64]
      have d1 : decide ((N : Int) ≤ 64) = false := by simp; omega
      rw [d1] at hi
      clear htk d1
      have hpl := Lib.hid (plain_any wz b B S2 Rz.out (Nat.le_trans HB.out Tz.out.size) 2 (by omega))
      have hL2 := plainS_len S2 2
      have h8 := (plainS_b8 Rz.out.b8 2).1
      generalize plainS S2 2 = PL at *
      obtain ⟨L, S3⟩ := PL
      dsimp only at hT hpl hL2 h8
      go_wp2_with fail
      refine (hi _).mono ?_
      rintro e w' ⟨rfl, rfl⟩
      go_wp2_with fail
      refine hpl.out.mono ?_
      rintro e w2 ⟨v2, rfl, hv2, hr2, ht2⟩
      rcases hv2 with ⟨_, h0⟩ | ⟨g, o, c, rfl, hc, _⟩
      · rw [h0] at hL2; cases hL2
      have hget := get_in g o c L w2 (by omega) (by omega) hc h8
      have hX := numL_lt h8
      rw [hL2] at hget hX
      rw [hL2]
      generalize numL L = X at *
      have hget' := Lib.hid hget
      have hX2 : X < 65536 := by omega
      have N2 := Lib.hid (Nz.out.turn ht2 Dz.out.1)
      have Q2 := Lib.hid (Qz.out.turn ht2 Dq.out)
      have T2 := Lib.hid (Tz.out.trans ht2)
      have R2 := Lib.hid hr2
      have N3 : Hid (CIn (w2.setCell ⟨p, 3, none⟩ (.int .i64 (X : Int))) p CT ⟨bstr KL, ⟨#[]⟩, N, X⟩) := N2.out.set3 X
      have Q3 : Hid (CIn (w2.setCell ⟨p, 3, none⟩ (.int .i64 (X : Int))) w.heap.size CT c0) := Q2.out.turn (turn_set1 w2 p 3 _) (Ne.symm Dz.out.2.1)
      have Q4 := Lib.hid (Q3.out.fill ⟨bstr KL, ⟨#[]⟩, N, X⟩)
      have R4 : Hid (Rb (fillC (w2.setCell ⟨p, 3, none⟩ (.int .i64 (X : Int))) w.heap.size ⟨bstr KL, ⟨#[]⟩, N, X⟩) b B S3) :=
        (R2.out.over (turn_set1 w2 p 3 _) (Nat.le_trans HB.out Dz.out.2.2) (Ne.symm Dz.out.1)).over (fillC_turn _ _ _) HB.out (Ne.symm Dq.out)
      have T4 : Hid (Turn (fun i => i = b) w (fillC (w2.setCell ⟨p, 3, none⟩ (.int .i64 (X : Int))) w.heap.size ⟨bstr KL, ⟨#[]⟩, N, X⟩)) :=
        (T2.out.step (turn_set1 w2 p 3 _) (fun i h hi => by subst h; exact absurd hi (Nat.not_lt.2 Dz.out.2.2))).step (fillC_turn _ _ _) (fun i h hi => by subst h; exact absurd hi (Nat.lt_irrefl _))
      have n0 := N3.out.c0
      have n1 := N3.out.c1
      have n2 := N3.out.c2
      have n3 := N3.out.c3
      have nf := N2.out.fz 3
      have m1 := N2.out.c3
      have q0 := Q3.out.c0
      have q1 := Q3.out.c1
      have q2 := Q3.out.c2
      have q3 := Q3.out.c3
      have f0 := Q3.out.fz 0
      have f1 := Q3.out.fz 1
      have f2 := Q3.out.fz 2
      have f3 := Q3.out.fz 3
      have y0 := Q4.out.c0
      have y1 := Q4.out.c1
      have y2 := Q4.out.c2
      have y3 := Q4.out.c3
      unfold fillC at y0 y1 y2 y3
      dsimp only at n0 n1 n2 n3 m1 y0 y1 y2 y3
      clear z2 hr2 ht2 hpl hi Nz Rz Qz Tz N2 Q2 T2 R2 N3 Q3 Q4 h64 hN hget hX hL2 h8 hc
      go_wp2_with fail
      refine hget'.out.mono ?_
      rintro e w' ⟨rfl, rfl⟩
      go_wp2
      refine bodyPost_ret (v := .agg #[.string (bstr KL), .string ⟨#[]⟩, .int .i64 N, .int .i64 X]) (by rw [results_cell_one rfl]; go_simp) rfl ⟨by rw [hT.out]; rfl, by rw [hT.out]; exact R4.out, T4.out⟩
end Go.Proofs.YtmgbdbpknocgjaaDoor
