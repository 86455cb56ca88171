/-
  shape's Of. Written by mkshof.py.
-/
import Derived.Test.YtjkpjbgapemieaaGreatDoorNodesZ
import Derived.Test.YtjkpjbgapemieaaGreatDoorChCountZ
import Derived.Test.YtjkpjbgapemieaaGreatDoorGathZ
import Derived.Test.YtjkpjbgapemieaaGreatDoorRootZ
import Derived.Test.YtjkpjbgapemieaaGreatDoorGsZ
import Derived.Test.YtjkpjbgapemieaaGreatDoorTurnZ
namespace Go.Proofs.YtjkpjbgapemieaaGreatDoor
open Go Go.RowKit

abbrev FAT : TypeId := 42
/-- A block that holds facts. -/
def FB (w : World) (b : Nat) (x0 x1 x2 x3 x4 x5 : Int) : Prop := w.heap[b]? = some (.cells #[.int .i64 x0, .int .i64 x1, .int .i64 x2, .int .i64 x3, .int .i64 x4, .int .i64 x5] FAT (0, 0))
section
variable {w : World} {b : Nat} {x0 x1 x2 x3 x4 x5 : Int}
theorem FB.c0 (h : FB w b x0 x1 x2 x3 x4 x5) : w.cell? ⟨b, 0, none⟩ = some (.int .i64 x0) := by
  have h' : w.heap[b]? = _ := h
  simp [World.cell?, h']
theorem FB.c1 (h : FB w b x0 x1 x2 x3 x4 x5) : w.cell? ⟨b, 1, none⟩ = some (.int .i64 x1) := by
  have h' : w.heap[b]? = _ := h
  simp [World.cell?, h']
theorem FB.c2 (h : FB w b x0 x1 x2 x3 x4 x5) : w.cell? ⟨b, 2, none⟩ = some (.int .i64 x2) := by
  have h' : w.heap[b]? = _ := h
  simp [World.cell?, h']
theorem FB.c3 (h : FB w b x0 x1 x2 x3 x4 x5) : w.cell? ⟨b, 3, none⟩ = some (.int .i64 x3) := by
  have h' : w.heap[b]? = _ := h
  simp [World.cell?, h']
theorem FB.c4 (h : FB w b x0 x1 x2 x3 x4 x5) : w.cell? ⟨b, 4, none⟩ = some (.int .i64 x4) := by
  have h' : w.heap[b]? = _ := h
  simp [World.cell?, h']
theorem FB.c5 (h : FB w b x0 x1 x2 x3 x4 x5) : w.cell? ⟨b, 5, none⟩ = some (.int .i64 x5) := by
  have h' : w.heap[b]? = _ := h
  simp [World.cell?, h']
theorem FB.fz (h : FB w b x0 x1 x2 x3 x4 x5) (j : Nat) : w.frozen? ⟨b, j, none⟩ = false := by
  have h' : w.heap[b]? = _ := h
  simp [World.frozen?, h']
theorem FB.lt (h : FB w b x0 x1 x2 x3 x4 x5) : b < w.heap.size := (Array.getElem?_eq_some_iff.1 h).1
theorem FB.ext {w' : World} (h : FB w b x0 x1 x2 x3 x4 x5) (hb : Below w.heap.size w w') : FB w' b x0 x1 x2 x3 x4 x5 := (hb.block b h.lt).trans h
theorem FB.new (w : World) (x0 x1 x2 x3 x4 x5 : Int) : FB (w.alloc (.cells #[.int .i64 x0, .int .i64 x1, .int .i64 x2, .int .i64 x3, .int .i64 x4, .int .i64 x5] FAT)) w.heap.size x0 x1 x2 x3 x4 x5 := heap_new w FAT _
theorem FB.all (h : FB w b x0 x1 x2 x3 x4 x5) (y0 y1 y2 y3 y4 y5 : Int) : FB ((((((w.setCell ⟨b, 0, none⟩ (.int .i64 y0)).setCell ⟨b, 1, none⟩ (.int .i64 y1)).setCell ⟨b, 2, none⟩ (.int .i64 y2)).setCell ⟨b, 3, none⟩ (.int .i64 y3)).setCell ⟨b, 4, none⟩ (.int .i64 y4)).setCell ⟨b, 5, none⟩ (.int .i64 y5)) b y0 y1 y2 y3 y4 y5 :=
  heap_setCell_same _ b 5 _ _ _ (heap_setCell_same _ b 4 _ _ _ (heap_setCell_same _ b 3 _ _ _ (heap_setCell_same _ b 2 _ _ _ (heap_setCell_same _ b 1 _ _ _ (heap_setCell_same w b 0 _ _ _ h)))))
theorem FB.put54 (h : FB w b x0 x1 x2 x3 x4 x5) (y5 y4 : Int) : FB ((w.setCell ⟨b, 5, none⟩ (.int .i64 y5)).setCell ⟨b, 4, none⟩ (.int .i64 y4)) b x0 x1 x2 x3 y4 y5 :=
  heap_setCell_same _ b 4 _ _ _ (heap_setCell_same w b 5 _ _ _ h)
theorem FB.put23 (h : FB w b x0 x1 x2 x3 x4 x5) (y2 y3 : Int) : FB ((w.setCell ⟨b, 2, none⟩ (.int .i64 y2)).setCell ⟨b, 3, none⟩ (.int .i64 y3)) b x0 x1 y2 y3 x4 x5 :=
  heap_setCell_same _ b 3 _ _ _ (heap_setCell_same w b 2 _ _ _ h)
theorem FB.other {g j : Nat} {v : Value} (h : FB w b x0 x1 x2 x3 x4 x5) (hne : g ≠ b) : FB (w.setCell ⟨g, j, none⟩ v) b x0 x1 x2 x3 x4 x5 := by
  unfold FB; rw [heap_setCell_other _ _ _ _ (fun e => hne e.symm)]; exact h
end
theorem TB.other {w : World} {b g j : Nat} {p : Option Addr} {n : Int} {v : Value} (h : TB w b p n) (hne : g ≠ b) : TB (w.setCell ⟨g, j, none⟩ v) b p n := by
  unfold TB; rw [heap_setCell_other _ _ _ _ (fun e => hne e.symm)]; exact h
theorem below_set {B b j : Nat} {w w' : World} {v : Value} (h : Below B w w') (hb : B ≤ b) : Below B w (w'.setCell ⟨b, j, none⟩ v) := h.setCell hb _
theorem below_all {B b : Nat} {w w' : World} {y0 y1 y2 y3 y4 y5 : Value} (h : Below B w w') (hb : B ≤ b) : Below B w ((((((w'.setCell ⟨b, 0, none⟩ y0).setCell ⟨b, 1, none⟩ y1).setCell ⟨b, 2, none⟩ y2).setCell ⟨b, 3, none⟩ y3).setCell ⟨b, 4, none⟩ y4).setCell ⟨b, 5, none⟩ y5) :=
  below_set (below_set (below_set (below_set (below_set (below_set h hb) hb) hb) hb) hb) hb
theorem TreeP.high {w : World} {p : Option Addr} {es : List En} {H : Nat} (h : TreeP w p es H) : H ≤ es.length + 1 := by
  rcases h with ⟨_, rfl, rfl⟩ | ⟨b, h, s, h1, hn, h3, h4, h5, rfl⟩
  · simp
  · cases h with
    | zero => omega
    | succ h =>
      obtain ⟨ks, ps, ess, _, h2, h6, _⟩ := hn
      have h7 := KRow.count (m := 2 * 4 ^ h) (fun lo hi p e hg => Good.count h lo hi p e hg) h2
      have h8 : h < 4 ^ h := Nat.lt_pow_self (by omega)
      have h9 : 2 * 4 ^ h * 1 ≤ 2 * 4 ^ h * (ks.length + 1) := Nat.mul_le_mul_left _ (by omega)
      rw [h6]; omega
/-- What Of answers. -/
def OfP (w : World) (es : List En) (H : Nat) (e : Ending) (w' : World) : Prop :=
  ∃ L B : Nat, e = .returned (.agg #[.int .i64 (es.length : Nat), .int .i64 (H : Nat), .int .i64 (L : Nat), .int .i64 (B : Nat), .int .i64 (pgs es : Nat), .int .i64 (szs es : Nat)]) ∧ CT0 H es L B ∧ Below w.heap.size w w'
set_option maxHeartbeats 4000000 in
set_option maxRecDepth 100000 in
theorem shOf_any (p : Option Addr) (es : List En) (H : Nat) (w : World) (ht : TreeP w p es H) (hl : es.length ≤ 4096) :
    Calls Tryz.prog 10 #[.agg #[.pointer p, .int .i64 es.length]] w fun e w' => OfP w es H e w' := by
  have hHi := ht.high
  have hok := ht.facts.2
  obtain ⟨W, hW, hT, hR, hbW, hsW⟩ : ∃ W, ((w.alloc (.cells #[.pointer p, .int .i64 es.length] TT)).alloc (.cells #[.int .i64 0, .int .i64 0, .int .i64 0, .int .i64 0, .int .i64 0, .int .i64 0] FAT)).drew = W ∧ TB W w.heap.size p es.length ∧ FB W (w.heap.size + 1) 0 0 0 0 0 0 ∧ Below w.heap.size w W ∧ W.heap.size = w.heap.size + 2 := by
    refine ⟨_, rfl, ?_, ?_, ?_, by simp⟩
    · have h1 : TB (w.alloc (.cells #[.pointer p, .int .i64 es.length] TT)) w.heap.size p es.length := heap_new w TT _
      exact (h1.ext ((Below.refl _ _).alloc (Nat.le_refl _) _)).ext (Below.refl _ _).drew
    · have h1 := FB.new (w.alloc (.cells #[.pointer p, .int .i64 es.length] TT)) 0 0 0 0 0 0
      rw [show (w.alloc (.cells #[.pointer p, .int .i64 es.length] TT)).heap.size = w.heap.size + 1 by simp] at h1
      exact h1.ext (Below.refl _ _).drew
    · exact (((Below.refl w.heap.size w).alloc (Nat.le_refl _) _).alloc (by simp) _).drew
  obtain ⟨G, hG⟩ : ∃ G, W.heap.size = G := ⟨_, rfl⟩
  have HGs : Hid (G = w.heap.size + 2) := by show _ = _; rw [← hG, hsW]
  have HG := Lib.hid hG
  have ta : ∀ w', Turn (fun i => G ≤ i) W w' → TB w' w.heap.size p es.length := fun w' t => t.hg hT (by omega)
  have tr : ∀ w', Turn (fun i => G ≤ i) W w' → FB w' (w.heap.size + 1) 0 0 0 0 0 0 := fun w' t => t.hg hR (by omega)
  have Hta := Lib.hid ta
  have Htr := Lib.hid tr
  have a0 := fun w' t => (ta w' t).c0
  have a1 := fun w' t => (ta w' t).c1
  have HW := Lib.hid hW
  have Hbw := Lib.hid hbW
  have Htree : Hid (∀ w', Turn (fun i => G ≤ i) W w' → TreeP w' p es H) := fun w' t => ht.ext (hbW.trans (t.below (by omega) (fun i hi => by omega)))
  have Hok := Lib.hid hok
  have Hsz : Hid (szs es ≤ 434176 ∧ pgs es ≤ 20480) := by
    have h1 := (szs_range hok).2
    have h2 := pgs_le hok
    exact ⟨by omega, by omega⟩
  obtain ⟨n, hn⟩ : ∃ n, es.length = n := ⟨_, rfl⟩
  have HN := Lib.hid hn
  have Hlen := Lib.hid (fun x => len_any p (n : Int) x)
  have Hhei : Hid (∀ x, Turn (fun i => G ≤ i) W x → Calls Tryz.prog 12 #[.agg #[.pointer p, .int .i64 (n : Int)]] x fun e w' => e = .returned (.int .i64 (H : Nat)) ∧ Below x.heap.size x w') := fun x t => height_any p n es H x (Htree.out x t) (by omega)
  have hH9 : H ≤ 5000 := by omega
  rw [hn] at HW a1 ⊢
  rw [hn] at hl
  clear hW hT hR hbW hsW hG ta tr ht hok hHi hn
  go_enter Tryz.func10, Tryz.ntmps10
  go_wp2_with fail
  refine wp_region_gs (F := fun i => G ≤ i) (.rd 0 (.rd 2 (.two 1 (.two 3 (.rd 4 (.call 5 (.call 6 .done))) 5 (.call 3 (.rd 4 (.call 6 .done)))) 5 (.call 1 (.call 3 (.rd 4 (.call 6 .done))))))) (by kernel_rfl) (by kernel_rfl) (by kernel_rfl) (by kernel_rfl) (fun _ _ _ _ _ h => h) ?_
  rw [HW.out]
  iterate 2 (refine wpGs_read (o := ⟨_, _, _, _, _, _⟩) (v := ?_) rfl (by rfl) ?_ ?_; rotate_left; (intro w' hw'; go_simp; with_reducible rfl); simp only [Act.put, List.setIfInBounds_toArray, List.set_cons_zero, List.set_cons_succ])
  clear a0 a1
  have T0 : Hid (Turn (fun i => G ≤ i) W W) := Turn.refl _ _
  refine ⟨?_, ?_⟩
  · refine stepS_call (o := ⟨_, _, _, _, _, _⟩) rfl (by rfl) (fun K hK => ?_)
    go_simp
    refine (Hlen.out W).mono ?_
    rintro e w1 ⟨rfl, hb⟩
    refine hK _ _ (Turn.ofBelow hb) ?_
    clear hK K
    have T1 : Hid (Turn (fun i => G ≤ i) W w1) := T0.out.trans (Turn.ofBelow hb)
    clear hb
    refine ⟨?_, ?_⟩
    · refine stepS_call (o := ⟨_, _, _, _, _, _⟩) rfl (by rfl) (fun K hK => ?_)
      go_simp
      refine (Hhei.out w1 T1.out).mono ?_
      rintro e w2 ⟨rfl, hb⟩
      refine hK _ _ (Turn.ofBelow hb) ?_
      clear hK K
      have T2 : Hid (Turn (fun i => G ≤ i) W w2) := T1.out.trans (Turn.ofBelow hb)
      clear hb
      (refine wpGs_read (o := ⟨_, _, _, _, _, _⟩) (v := ?_) rfl (by rfl) ?_ ?_; rotate_left; (intro w' hw'; go_simp; with_reducible rfl); simp only [Act.put, List.setIfInBounds_toArray, List.set_cons_zero, List.set_cons_succ])
      refine stepS_call (o := ⟨_, _, _, _, _, _⟩) rfl (by rfl) (fun K hK => ?_)
      go_simp
      refine hK _ _ ((Turn.refl _ _).alloc _) ?_
      clear hK K
      obtain ⟨w3, hy⟩ : ∃ y, y = w2.alloc (.cells #[.int .i64 0, .int .i64 0, .int .i64 0, .int .i64 0, .int .i64 0, .int .i64 0] FAT) := ⟨_, rfl⟩
      have Nf : Hid (FB w3 w2.heap.size 0 0 0 0 0 0) := by rw [hy]; exact FB.new _ 0 0 0 0 0 0
      have T3 : Hid (Turn (fun i => G ≤ i) W w3) := by rw [hy]; exact T2.out.alloc _
      have Gb : Hid (G ≤ w2.heap.size) := Nat.le_trans (Nat.le_of_eq HG.out.symm) T2.out.size
      rw [← hy]
      clear hy
      obtain ⟨bf, hbf⟩ : ∃ b, b = w2.heap.size := ⟨_, rfl⟩
      rw [← hbf] at Nf Gb ⊢
      clear hbf
      have f0 := Nf.out.fz 0
      have f1 := Nf.out.fz 1
      have f2 := Nf.out.fz 2
      have f3 := Nf.out.fz 3
      have f4 := Nf.out.fz 4
      have f5 := Nf.out.fz 5
      have g0 := Nf.out.c0
      have g1 := Nf.out.c1
      have g2 := Nf.out.c2
      have g3 := Nf.out.c3
      have g4 := Nf.out.c4
      have g5 := Nf.out.c5
      refine stepS_call (o := ⟨_, _, _, _, _, _⟩) rfl (by rfl) (fun K hK => ?_)
      go_simp
      have hst := below_all (B := G) (b := bf) (y0 := .int .i64 (n : Int)) (y1 := .int .i64 (H : Int)) (y2 := .int .i64 0) (y3 := .int .i64 0) (y4 := .int .i64 0) (y5 := .int .i64 0) (Below.refl G w3) Gb.out
      have hst2 : Turn (fun i => G ≤ i) w3 (((((((w3).setCell ⟨bf, 0, none⟩ (.int .i64 (n : Int))).setCell ⟨bf, 1, none⟩ (.int .i64 (H : Int))).setCell ⟨bf, 2, none⟩ (.int .i64 0)).setCell ⟨bf, 3, none⟩ (.int .i64 0)).setCell ⟨bf, 4, none⟩ (.int .i64 0)).setCell ⟨bf, 5, none⟩ (.int .i64 0)) := ⟨hst.os, hst.tape, hst.output, hst.size, fun i hi hG => hst.block i (by omega)⟩
      refine hK _ _ hst2 ?_
      clear hK K
      have Nf2 := Nf.out.all (n : Int) (H : Int) 0 0 0 0
      have T9 := T3.out.trans hst2
      clear f0 f1 f2 f3 f4 f5 g0 g1 g2 g3 g4 g5 hst hst2
      generalize (((((((w3).setCell ⟨bf, 0, none⟩ (.int .i64 (n : Int))).setCell ⟨bf, 1, none⟩ (.int .i64 (H : Int))).setCell ⟨bf, 2, none⟩ (.int .i64 0)).setCell ⟨bf, 3, none⟩ (.int .i64 0)).setCell ⟨bf, 4, none⟩ (.int .i64 0)).setCell ⟨bf, 5, none⟩ (.int .i64 0)) = Y at *
      replace Nf := Lib.hid Nf2
      have TY := Lib.hid T9
      clear Nf2 T9
      refine wpGs_done ?_
      have t0 := (Hta.out Y TY.out)
      have a0 := t0.c0
      have a1 := t0.c1
      rw [HN.out] at a1
      have Hall := Lib.hid (all_any p es H Y (Htree.out Y TY.out) (by rw [HN.out]; omega))
      rw [HN.out] at Hall
      clear t0
      go_wp2_with fail
      refine Hall.out.mono ?_
      rintro e w4 ⟨v4, rfl, hv4, hb4⟩
      obtain ⟨a4, c4, rfl, hs4, _⟩ := hv4
      have Htk := Lib.hid (taken_any a4 n c4 es w4 HN.out hs4 Hok.out (by omega))
      have T4 : Hid (Turn (fun i => G ≤ i) W w4) := TY.out.trans (Turn.ofBelow hb4)
      replace Nf : Hid (FB w4 bf (n : Int) (H : Int) 0 0 0 0) := Nf.out.ext hb4
      rw [HN.out]
      clear hb4 hs4 Hall TY a0 a1
      go_wp2_with fail
      refine Htk.out.mono ?_
      rintro e w5 ⟨rfl, hb5⟩
      have T5 : Hid (Turn (fun i => G ≤ i) W w5) := T4.out.trans (Turn.ofBelow hb5)
      replace Nf : Hid (FB w5 bf (n : Int) (H : Int) 0 0 0 0) := Nf.out.ext hb5
      clear hb5 Htk T4
      have hS9 := Hsz.out.1
      have hP9 := Hsz.out.2
      obtain ⟨S, hS⟩ : ∃ S, szs es = S := ⟨_, rfl⟩
      obtain ⟨P, hP⟩ : ∃ P, pgs es = P := ⟨_, rfl⟩
      rw [hS] at hS9 ⊢
      rw [hP] at hP9 ⊢
      have HSP := Lib.hid (And.intro hS hP)
      clear hS hP
      have f5 := Nf.out.fz 5
      have f4 := Nf.out.fz 4
      have g5 := Nf.out.c5
      have g4 := Nf.out.c4
      have hst := below_set (B := G) (b := bf) (j := 4) (v := .int .i64 (P : Int)) (below_set (B := G) (b := bf) (j := 5) (v := .int .i64 (S : Int)) (Below.refl G w5) Gb.out) Gb.out
      have T6 : Hid (Turn (fun i => G ≤ i) W ((w5.setCell ⟨bf, 5, none⟩ (.int .i64 (S : Int))).setCell ⟨bf, 4, none⟩ (.int .i64 (P : Int)))) := T5.out.trans ⟨hst.os, hst.tape, hst.output, hst.size, fun i hi hG => hst.block i (by omega)⟩
      have Nf6 := Lib.hid (Nf.out.put54 (S : Int) (P : Int))
      have t0 := Hta.out _ T6.out
      have a0 := t0.c0
      have a1 := t0.c1
      have t5 := Hta.out _ T5.out
      have b0 := t5.c0
      have b1 := t5.c1
      rw [HN.out] at a1 b1
      have hne1 : ¬ w.heap.size = bf := by have := Gb.out; have := HGs.out; omega
      have hne2 : ¬ bf = w.heap.size := by have := Gb.out; have := HGs.out; omega
      have Htr6 := Lib.hid (Htree.out _ T6.out)
      have HW6 : Hid (∃ Z, (w5.setCell ⟨bf, 5, none⟩ (.int .i64 (S : Int))).setCell ⟨bf, 4, none⟩ (.int .i64 (P : Int)) = Z) := ⟨_, rfl⟩
      clear hst t0 T5 t5
      obtain ⟨Z, hZ⟩ := HW6.out
      rw [hZ] at T6 Nf6 Htr6
      have HZ := Lib.hid hZ
      clear hZ HW6
      rcases Htr6.out with ⟨hp, he, hH⟩ | ⟨b, h, s, hp, hnd, hs5, hs3, hne, hH⟩
      · have Hc := Lib.hid (root_nil (n : Int) Z)
        rw [hp] at a0 b0
        have HC := Lib.hid (And.intro hp (And.intro he hH))
        clear hp he hH Htr6
        go_wp2_with fail
        rw [HZ.out, HC.out.1]
        refine Hc.out.mono ?_
        rintro e w7 ⟨rfl, hb7⟩
        have T7 : Hid (Turn (fun i => G ≤ i) W w7) := T6.out.trans (Turn.ofBelow hb7)
        have Nf7 := Nf6.out.ext hb7
        have hal : Below w7.heap.size w7 (w7.alloc (.cells #[nilS, nilS, nilS] VT)) := (Below.refl _ _).alloc (Nat.le_refl _) _
        have Nf8 := Nf7.ext hal
        have R8 := Htr.out _ (T7.out.trans (Turn.ofBelow hal))
        have c0 := Nf8.c0
        have c1 := Nf8.c1
        have c2 := Nf8.c2
        have c3 := Nf8.c3
        have c4 := Nf8.c4
        have c5 := Nf8.c5
        have f0 := R8.fz 0
        have f1 := R8.fz 1
        have f2 := R8.fz 2
        have f3 := R8.fz 3
        have f4 := R8.fz 4
        have f5 := R8.fz 5
        have r0 := R8.c0
        have r1 := R8.c1
        have r2 := R8.c2
        have r3 := R8.c3
        have r4 := R8.c4
        have r5 := R8.c5
        have R9 := Lib.hid (R8.all (n : Int) (H : Int) 0 0 (P : Int) (S : Int))
        have HB : Hid (∀ x, Below (w.heap.size) w x → Below w.heap.size w x) := fun _ h => h
        have hbz : Below w.heap.size w (w7.alloc (.cells #[nilS, nilS, nilS] VT)) := (Hbw.out.trans ((T7.out.trans (Turn.ofBelow hal)).below (by have := HGs.out; have := HG.out; omega) (fun i hi => by have := HGs.out; omega)))
        have Hfin := Lib.hid (below_all (b := w.heap.size + 1) (y0 := .int .i64 (n : Int)) (y1 := .int .i64 (H : Int)) (y2 := .int .i64 0) (y3 := .int .i64 0) (y4 := .int .i64 (P : Int)) (y5 := .int .i64 (S : Int)) hbz (Nat.le_succ _))
        clear g5 g4 hb7 Nf7 hal Nf8 R8 hbz T6 Nf6 Hc a0 a1 b0 b1 hne1 hne2 T7
        go_wp2_with fail
        clear c0 c1 c2 c3 c4 c5 f0 f1 f2 f3 f4 f5 r0 r1 r2 r3 r4 r5
        have d0 := R9.out.c0
        have d1 := R9.out.c1
        have d2 := R9.out.c2
        have d3 := R9.out.c3
        have d4 := R9.out.c4
        have d5 := R9.out.c5
        refine bodyPost_ret (v := .agg #[.int .i64 (n : Int), .int .i64 (H : Int), .int .i64 0, .int .i64 0, .int .i64 (P : Int), .int .i64 (S : Int)]) (by rw [results_cell_one rfl]; go_simp) rfl ⟨0, 0, by rw [HN.out, HSP.out.1, HSP.out.2]; rfl, ?_, Hfin.out⟩
        rw [HC.out.2.1, HC.out.2.2]; exact CT0.nil
      · obtain ⟨v, hnb, hndv⟩ := hnd.val
        have Hc := Lib.hid (root_some b (n : Int) v Z hnb)
        rw [hp] at a0 b0
        have HC := Lib.hid (And.intro hp (And.intro (And.intro hs5 hs3) (And.intro hne hH)))
        have Hv := Lib.hid hndv
        clear hp hs5 hs3 hne hH Htr6 hnb hndv hnd
        go_wp2_with fail
        rw [HZ.out, HC.out.1]
        refine Hc.out.mono ?_
        rintro e w7 ⟨rfl, hb7⟩
        have T7 : Hid (Turn (fun i => G ≤ i) W w7) := T6.out.trans (Turn.ofBelow hb7)
        have Nf7 := Nf6.out.ext hb7
        have hal : Below w7.heap.size w7 (w7.alloc (.cells #[v.c, v.k, v.p] VT)) := (Below.refl _ _).alloc (Nat.le_refl _) _
        have Nf8 := Lib.hid (Nf7.ext hal)
        have T8 : Hid (Turn (fun i => G ≤ i) W (w7.alloc (.cells #[v.c, v.k, v.p] VT))) := T7.out.trans (Turn.ofBelow hal)
        have Hnd := Lib.hid (nodes_any h none none v es s (w7.alloc (.cells #[v.c, v.k, v.p] VT)) ((Hv.out.ext hb7).ext hal) (by rw [HN.out]; omega) (by have := HC.out.2.1.1; omega))
        clear g5 g4 hb7 Nf7 hal T6 Nf6 Hc a0 a1 b0 b1 hne1 hne2 T7 f5 f4
        obtain ⟨ca, cn, cc, ka, kn, kc, pa, pn, pc⟩ := v
        dsimp only [NoV.c, NoV.k, NoV.p, NoV.v] at *
        go_wp2_with fail
        refine Hnd.out.mono ?_
        rintro e w9 ⟨L, B, rfl, hcg, hb9⟩
        have Hcg := Lib.hid (hcg.root HC.out.2.1.2 HC.out.2.2.1)
        have T9 : Hid (Turn (fun i => G ≤ i) W w9) := T8.out.trans (Turn.ofBelow hb9)
        have Nf9 := Lib.hid (Nf8.out.ext hb9)
        clear hcg hb9 Hnd Nf8 T8
        have hst := below_set (B := G) (b := bf) (j := 3) (v := .int .i64 (B : Int)) (below_set (B := G) (b := bf) (j := 2) (v := .int .i64 (L : Int)) (Below.refl G w9) Gb.out) Gb.out
        have T10 : Hid (Turn (fun i => G ≤ i) W ((w9.setCell ⟨bf, 2, none⟩ (.int .i64 (L : Int))).setCell ⟨bf, 3, none⟩ (.int .i64 (B : Int)))) := T9.out.trans ⟨hst.os, hst.tape, hst.output, hst.size, fun i hi hG => hst.block i (by omega)⟩
        have e2 := Nf9.out.fz 2
        have e3 := Nf9.out.fz 3
        have k2 := Nf9.out.c2
        have k3 := Nf9.out.c3
        have Nf10 := Nf9.out.put23 (L : Int) (B : Int)
        have R8 := Htr.out _ T10.out
        have c0 := Nf10.c0
        have c1 := Nf10.c1
        have c2 := Nf10.c2
        have c3 := Nf10.c3
        have c4 := Nf10.c4
        have c5 := Nf10.c5
        have f0 := R8.fz 0
        have f1 := R8.fz 1
        have f2 := R8.fz 2
        have f3 := R8.fz 3
        have f4 := R8.fz 4
        have f5 := R8.fz 5
        have r0 := R8.c0
        have r1 := R8.c1
        have r2 := R8.c2
        have r3 := R8.c3
        have r4 := R8.c4
        have r5 := R8.c5
        have R9 := Lib.hid (R8.all (n : Int) (H : Int) (L : Int) (B : Int) (P : Int) (S : Int))
        have hbz : Below w.heap.size w ((w9.setCell ⟨bf, 2, none⟩ (.int .i64 (L : Int))).setCell ⟨bf, 3, none⟩ (.int .i64 (B : Int))) := Hbw.out.trans (T10.out.below (by have := HGs.out; have := HG.out; omega) (fun i hi => by have := HGs.out; omega))
        have Hfin := Lib.hid (below_all (b := w.heap.size + 1) (y0 := .int .i64 (n : Int)) (y1 := .int .i64 (H : Int)) (y2 := .int .i64 (L : Int)) (y3 := .int .i64 (B : Int)) (y4 := .int .i64 (P : Int)) (y5 := .int .i64 (S : Int)) hbz (Nat.le_succ _))
        clear hst Nf10 R8 hbz T9 Nf9 T10
        go_wp2_with fail
        clear c0 c1 c2 c3 c4 c5 f0 f1 f2 f3 f4 f5 r0 r1 r2 r3 r4 r5
        have d0 := R9.out.c0
        have d1 := R9.out.c1
        have d2 := R9.out.c2
        have d3 := R9.out.c3
        have d4 := R9.out.c4
        have d5 := R9.out.c5
        refine bodyPost_ret (v := .agg #[.int .i64 (n : Int), .int .i64 (H : Int), .int .i64 (L : Int), .int .i64 (B : Int), .int .i64 (P : Int), .int .i64 (S : Int)]) (by rw [results_cell_one rfl]; go_simp) rfl ⟨L, B, by rw [HN.out, HSP.out.1, HSP.out.2], ?_, Hfin.out⟩
        rw [HC.out.2.2.2]; exact Hcg.out
    · refine stepS_call (o := ⟨_, _, _, _, _, _⟩) rfl (by rfl) (fun K hK => ?_)
      go_simp
      refine hK _ _ ((Turn.refl _ _).alloc _) ?_
      clear hK K
      obtain ⟨w2, hy⟩ : ∃ y, y = w1.alloc (.cells #[.int .i64 0, .int .i64 0, .int .i64 0, .int .i64 0, .int .i64 0, .int .i64 0] FAT) := ⟨_, rfl⟩
      have Nf : Hid (FB w2 w1.heap.size 0 0 0 0 0 0) := by rw [hy]; exact FB.new _ 0 0 0 0 0 0
      have T2 : Hid (Turn (fun i => G ≤ i) W w2) := by rw [hy]; exact T1.out.alloc _
      have Gb : Hid (G ≤ w1.heap.size) := Nat.le_trans (Nat.le_of_eq HG.out.symm) T1.out.size
      rw [← hy]
      clear hy
      obtain ⟨bf, hbf⟩ : ∃ b, b = w1.heap.size := ⟨_, rfl⟩
      rw [← hbf] at Nf Gb ⊢
      clear hbf
      refine stepS_call (o := ⟨_, _, _, _, _, _⟩) rfl (by rfl) (fun K hK => ?_)
      go_simp
      refine (Hhei.out w2 T2.out).mono ?_
      rintro e w3 ⟨rfl, hb⟩
      refine hK _ _ (Turn.ofBelow hb) ?_
      clear hK K
      have T3 : Hid (Turn (fun i => G ≤ i) W w3) := T2.out.trans (Turn.ofBelow hb)
      replace Nf : Hid (FB w3 bf 0 0 0 0 0 0) := Nf.out.ext hb
      clear hb
      (refine wpGs_read (o := ⟨_, _, _, _, _, _⟩) (v := ?_) rfl (by rfl) ?_ ?_; rotate_left; (intro w' hw'; go_simp; with_reducible rfl); simp only [Act.put, List.setIfInBounds_toArray, List.set_cons_zero, List.set_cons_succ])
      have f0 := Nf.out.fz 0
      have f1 := Nf.out.fz 1
      have f2 := Nf.out.fz 2
      have f3 := Nf.out.fz 3
      have f4 := Nf.out.fz 4
      have f5 := Nf.out.fz 5
      have g0 := Nf.out.c0
      have g1 := Nf.out.c1
      have g2 := Nf.out.c2
      have g3 := Nf.out.c3
      have g4 := Nf.out.c4
      have g5 := Nf.out.c5
      refine stepS_call (o := ⟨_, _, _, _, _, _⟩) rfl (by rfl) (fun K hK => ?_)
      go_simp
      have hst := below_all (B := G) (b := bf) (y0 := .int .i64 (n : Int)) (y1 := .int .i64 (H : Int)) (y2 := .int .i64 0) (y3 := .int .i64 0) (y4 := .int .i64 0) (y5 := .int .i64 0) (Below.refl G w3) Gb.out
      have hst2 : Turn (fun i => G ≤ i) w3 (((((((w3).setCell ⟨bf, 0, none⟩ (.int .i64 (n : Int))).setCell ⟨bf, 1, none⟩ (.int .i64 (H : Int))).setCell ⟨bf, 2, none⟩ (.int .i64 0)).setCell ⟨bf, 3, none⟩ (.int .i64 0)).setCell ⟨bf, 4, none⟩ (.int .i64 0)).setCell ⟨bf, 5, none⟩ (.int .i64 0)) := ⟨hst.os, hst.tape, hst.output, hst.size, fun i hi hG => hst.block i (by omega)⟩
      refine hK _ _ hst2 ?_
      clear hK K
      have Nf2 := Nf.out.all (n : Int) (H : Int) 0 0 0 0
      have T9 := T3.out.trans hst2
      clear f0 f1 f2 f3 f4 f5 g0 g1 g2 g3 g4 g5 hst hst2
      generalize (((((((w3).setCell ⟨bf, 0, none⟩ (.int .i64 (n : Int))).setCell ⟨bf, 1, none⟩ (.int .i64 (H : Int))).setCell ⟨bf, 2, none⟩ (.int .i64 0)).setCell ⟨bf, 3, none⟩ (.int .i64 0)).setCell ⟨bf, 4, none⟩ (.int .i64 0)).setCell ⟨bf, 5, none⟩ (.int .i64 0)) = Y at *
      replace Nf := Lib.hid Nf2
      have TY := Lib.hid T9
      clear Nf2 T9
      refine wpGs_done ?_
      have t0 := (Hta.out Y TY.out)
      have a0 := t0.c0
      have a1 := t0.c1
      rw [HN.out] at a1
      have Hall := Lib.hid (all_any p es H Y (Htree.out Y TY.out) (by rw [HN.out]; omega))
      rw [HN.out] at Hall
      clear t0
      go_wp2_with fail
      refine Hall.out.mono ?_
      rintro e w4 ⟨v4, rfl, hv4, hb4⟩
      obtain ⟨a4, c4, rfl, hs4, _⟩ := hv4
      have Htk := Lib.hid (taken_any a4 n c4 es w4 HN.out hs4 Hok.out (by omega))
      have T4 : Hid (Turn (fun i => G ≤ i) W w4) := TY.out.trans (Turn.ofBelow hb4)
      replace Nf : Hid (FB w4 bf (n : Int) (H : Int) 0 0 0 0) := Nf.out.ext hb4
      rw [HN.out]
      clear hb4 hs4 Hall TY a0 a1
      go_wp2_with fail
      refine Htk.out.mono ?_
      rintro e w5 ⟨rfl, hb5⟩
      have T5 : Hid (Turn (fun i => G ≤ i) W w5) := T4.out.trans (Turn.ofBelow hb5)
      replace Nf : Hid (FB w5 bf (n : Int) (H : Int) 0 0 0 0) := Nf.out.ext hb5
      clear hb5 Htk T4
      have hS9 := Hsz.out.1
      have hP9 := Hsz.out.2
      obtain ⟨S, hS⟩ : ∃ S, szs es = S := ⟨_, rfl⟩
      obtain ⟨P, hP⟩ : ∃ P, pgs es = P := ⟨_, rfl⟩
      rw [hS] at hS9 ⊢
      rw [hP] at hP9 ⊢
      have HSP := Lib.hid (And.intro hS hP)
      clear hS hP
      have f5 := Nf.out.fz 5
      have f4 := Nf.out.fz 4
      have g5 := Nf.out.c5
      have g4 := Nf.out.c4
      have hst := below_set (B := G) (b := bf) (j := 4) (v := .int .i64 (P : Int)) (below_set (B := G) (b := bf) (j := 5) (v := .int .i64 (S : Int)) (Below.refl G w5) Gb.out) Gb.out
      have T6 : Hid (Turn (fun i => G ≤ i) W ((w5.setCell ⟨bf, 5, none⟩ (.int .i64 (S : Int))).setCell ⟨bf, 4, none⟩ (.int .i64 (P : Int)))) := T5.out.trans ⟨hst.os, hst.tape, hst.output, hst.size, fun i hi hG => hst.block i (by omega)⟩
      have Nf6 := Lib.hid (Nf.out.put54 (S : Int) (P : Int))
      have t0 := Hta.out _ T6.out
      have a0 := t0.c0
      have a1 := t0.c1
      have t5 := Hta.out _ T5.out
      have b0 := t5.c0
      have b1 := t5.c1
      rw [HN.out] at a1 b1
      have hne1 : ¬ w.heap.size = bf := by have := Gb.out; have := HGs.out; omega
      have hne2 : ¬ bf = w.heap.size := by have := Gb.out; have := HGs.out; omega
      have Htr6 := Lib.hid (Htree.out _ T6.out)
      have HW6 : Hid (∃ Z, (w5.setCell ⟨bf, 5, none⟩ (.int .i64 (S : Int))).setCell ⟨bf, 4, none⟩ (.int .i64 (P : Int)) = Z) := ⟨_, rfl⟩
      clear hst t0 T5 t5
      obtain ⟨Z, hZ⟩ := HW6.out
      rw [hZ] at T6 Nf6 Htr6
      have HZ := Lib.hid hZ
      clear hZ HW6
      rcases Htr6.out with ⟨hp, he, hH⟩ | ⟨b, h, s, hp, hnd, hs5, hs3, hne, hH⟩
      · have Hc := Lib.hid (root_nil (n : Int) Z)
        rw [hp] at a0 b0
        have HC := Lib.hid (And.intro hp (And.intro he hH))
        clear hp he hH Htr6
        go_wp2_with fail
        rw [HZ.out, HC.out.1]
        refine Hc.out.mono ?_
        rintro e w7 ⟨rfl, hb7⟩
        have T7 : Hid (Turn (fun i => G ≤ i) W w7) := T6.out.trans (Turn.ofBelow hb7)
        have Nf7 := Nf6.out.ext hb7
        have hal : Below w7.heap.size w7 (w7.alloc (.cells #[nilS, nilS, nilS] VT)) := (Below.refl _ _).alloc (Nat.le_refl _) _
        have Nf8 := Nf7.ext hal
        have R8 := Htr.out _ (T7.out.trans (Turn.ofBelow hal))
        have c0 := Nf8.c0
        have c1 := Nf8.c1
        have c2 := Nf8.c2
        have c3 := Nf8.c3
        have c4 := Nf8.c4
        have c5 := Nf8.c5
        have f0 := R8.fz 0
        have f1 := R8.fz 1
        have f2 := R8.fz 2
        have f3 := R8.fz 3
        have f4 := R8.fz 4
        have f5 := R8.fz 5
        have r0 := R8.c0
        have r1 := R8.c1
        have r2 := R8.c2
        have r3 := R8.c3
        have r4 := R8.c4
        have r5 := R8.c5
        have R9 := Lib.hid (R8.all (n : Int) (H : Int) 0 0 (P : Int) (S : Int))
        have HB : Hid (∀ x, Below (w.heap.size) w x → Below w.heap.size w x) := fun _ h => h
        have hbz : Below w.heap.size w (w7.alloc (.cells #[nilS, nilS, nilS] VT)) := (Hbw.out.trans ((T7.out.trans (Turn.ofBelow hal)).below (by have := HGs.out; have := HG.out; omega) (fun i hi => by have := HGs.out; omega)))
        have Hfin := Lib.hid (below_all (b := w.heap.size + 1) (y0 := .int .i64 (n : Int)) (y1 := .int .i64 (H : Int)) (y2 := .int .i64 0) (y3 := .int .i64 0) (y4 := .int .i64 (P : Int)) (y5 := .int .i64 (S : Int)) hbz (Nat.le_succ _))
        clear g5 g4 hb7 Nf7 hal Nf8 R8 hbz T6 Nf6 Hc a0 a1 b0 b1 hne1 hne2 T7
        go_wp2_with fail
        clear c0 c1 c2 c3 c4 c5 f0 f1 f2 f3 f4 f5 r0 r1 r2 r3 r4 r5
        have d0 := R9.out.c0
        have d1 := R9.out.c1
        have d2 := R9.out.c2
        have d3 := R9.out.c3
        have d4 := R9.out.c4
        have d5 := R9.out.c5
        refine bodyPost_ret (v := .agg #[.int .i64 (n : Int), .int .i64 (H : Int), .int .i64 0, .int .i64 0, .int .i64 (P : Int), .int .i64 (S : Int)]) (by rw [results_cell_one rfl]; go_simp) rfl ⟨0, 0, by rw [HN.out, HSP.out.1, HSP.out.2]; rfl, ?_, Hfin.out⟩
        rw [HC.out.2.1, HC.out.2.2]; exact CT0.nil
      · obtain ⟨v, hnb, hndv⟩ := hnd.val
        have Hc := Lib.hid (root_some b (n : Int) v Z hnb)
        rw [hp] at a0 b0
        have HC := Lib.hid (And.intro hp (And.intro (And.intro hs5 hs3) (And.intro hne hH)))
        have Hv := Lib.hid hndv
        clear hp hs5 hs3 hne hH Htr6 hnb hndv hnd
        go_wp2_with fail
        rw [HZ.out, HC.out.1]
        refine Hc.out.mono ?_
        rintro e w7 ⟨rfl, hb7⟩
        have T7 : Hid (Turn (fun i => G ≤ i) W w7) := T6.out.trans (Turn.ofBelow hb7)
        have Nf7 := Nf6.out.ext hb7
        have hal : Below w7.heap.size w7 (w7.alloc (.cells #[v.c, v.k, v.p] VT)) := (Below.refl _ _).alloc (Nat.le_refl _) _
        have Nf8 := Lib.hid (Nf7.ext hal)
        have T8 : Hid (Turn (fun i => G ≤ i) W (w7.alloc (.cells #[v.c, v.k, v.p] VT))) := T7.out.trans (Turn.ofBelow hal)
        have Hnd := Lib.hid (nodes_any h none none v es s (w7.alloc (.cells #[v.c, v.k, v.p] VT)) ((Hv.out.ext hb7).ext hal) (by rw [HN.out]; omega) (by have := HC.out.2.1.1; omega))
        clear g5 g4 hb7 Nf7 hal T6 Nf6 Hc a0 a1 b0 b1 hne1 hne2 T7 f5 f4
        obtain ⟨ca, cn, cc, ka, kn, kc, pa, pn, pc⟩ := v
        dsimp only [NoV.c, NoV.k, NoV.p, NoV.v] at *
        go_wp2_with fail
        refine Hnd.out.mono ?_
        rintro e w9 ⟨L, B, rfl, hcg, hb9⟩
        have Hcg := Lib.hid (hcg.root HC.out.2.1.2 HC.out.2.2.1)
        have T9 : Hid (Turn (fun i => G ≤ i) W w9) := T8.out.trans (Turn.ofBelow hb9)
        have Nf9 := Lib.hid (Nf8.out.ext hb9)
        clear hcg hb9 Hnd Nf8 T8
        have hst := below_set (B := G) (b := bf) (j := 3) (v := .int .i64 (B : Int)) (below_set (B := G) (b := bf) (j := 2) (v := .int .i64 (L : Int)) (Below.refl G w9) Gb.out) Gb.out
        have T10 : Hid (Turn (fun i => G ≤ i) W ((w9.setCell ⟨bf, 2, none⟩ (.int .i64 (L : Int))).setCell ⟨bf, 3, none⟩ (.int .i64 (B : Int)))) := T9.out.trans ⟨hst.os, hst.tape, hst.output, hst.size, fun i hi hG => hst.block i (by omega)⟩
        have e2 := Nf9.out.fz 2
        have e3 := Nf9.out.fz 3
        have k2 := Nf9.out.c2
        have k3 := Nf9.out.c3
        have Nf10 := Nf9.out.put23 (L : Int) (B : Int)
        have R8 := Htr.out _ T10.out
        have c0 := Nf10.c0
        have c1 := Nf10.c1
        have c2 := Nf10.c2
        have c3 := Nf10.c3
        have c4 := Nf10.c4
        have c5 := Nf10.c5
        have f0 := R8.fz 0
        have f1 := R8.fz 1
        have f2 := R8.fz 2
        have f3 := R8.fz 3
        have f4 := R8.fz 4
        have f5 := R8.fz 5
        have r0 := R8.c0
        have r1 := R8.c1
        have r2 := R8.c2
        have r3 := R8.c3
        have r4 := R8.c4
        have r5 := R8.c5
        have R9 := Lib.hid (R8.all (n : Int) (H : Int) (L : Int) (B : Int) (P : Int) (S : Int))
        have hbz : Below w.heap.size w ((w9.setCell ⟨bf, 2, none⟩ (.int .i64 (L : Int))).setCell ⟨bf, 3, none⟩ (.int .i64 (B : Int))) := Hbw.out.trans (T10.out.below (by have := HGs.out; have := HG.out; omega) (fun i hi => by have := HGs.out; omega))
        have Hfin := Lib.hid (below_all (b := w.heap.size + 1) (y0 := .int .i64 (n : Int)) (y1 := .int .i64 (H : Int)) (y2 := .int .i64 (L : Int)) (y3 := .int .i64 (B : Int)) (y4 := .int .i64 (P : Int)) (y5 := .int .i64 (S : Int)) hbz (Nat.le_succ _))
        clear hst Nf10 R8 hbz T9 Nf9 T10
        go_wp2_with fail
        clear c0 c1 c2 c3 c4 c5 f0 f1 f2 f3 f4 f5 r0 r1 r2 r3 r4 r5
        have d0 := R9.out.c0
        have d1 := R9.out.c1
        have d2 := R9.out.c2
        have d3 := R9.out.c3
        have d4 := R9.out.c4
        have d5 := R9.out.c5
        refine bodyPost_ret (v := .agg #[.int .i64 (n : Int), .int .i64 (H : Int), .int .i64 (L : Int), .int .i64 (B : Int), .int .i64 (P : Int), .int .i64 (S : Int)]) (by rw [results_cell_one rfl]; go_simp) rfl ⟨L, B, by rw [HN.out, HSP.out.1, HSP.out.2], ?_, Hfin.out⟩
        rw [HC.out.2.2.2]; exact Hcg.out
  · refine stepS_call (o := ⟨_, _, _, _, _, _⟩) rfl (by rfl) (fun K hK => ?_)
    go_simp
    refine hK _ _ ((Turn.refl _ _).alloc _) ?_
    clear hK K
    obtain ⟨w1, hy⟩ : ∃ y, y = W.alloc (.cells #[.int .i64 0, .int .i64 0, .int .i64 0, .int .i64 0, .int .i64 0, .int .i64 0] FAT) := ⟨_, rfl⟩
    have Nf : Hid (FB w1 W.heap.size 0 0 0 0 0 0) := by rw [hy]; exact FB.new _ 0 0 0 0 0 0
    have T1 : Hid (Turn (fun i => G ≤ i) W w1) := by rw [hy]; exact T0.out.alloc _
    have Gb : Hid (G ≤ W.heap.size) := Nat.le_trans (Nat.le_of_eq HG.out.symm) T0.out.size
    rw [← hy]
    clear hy
    obtain ⟨bf, hbf⟩ : ∃ b, b = W.heap.size := ⟨_, rfl⟩
    rw [← hbf] at Nf Gb ⊢
    clear hbf
    refine stepS_call (o := ⟨_, _, _, _, _, _⟩) rfl (by rfl) (fun K hK => ?_)
    go_simp
    refine (Hlen.out w1).mono ?_
    rintro e w2 ⟨rfl, hb⟩
    refine hK _ _ (Turn.ofBelow hb) ?_
    clear hK K
    have T2 : Hid (Turn (fun i => G ≤ i) W w2) := T1.out.trans (Turn.ofBelow hb)
    replace Nf : Hid (FB w2 bf 0 0 0 0 0 0) := Nf.out.ext hb
    clear hb
    refine stepS_call (o := ⟨_, _, _, _, _, _⟩) rfl (by rfl) (fun K hK => ?_)
    go_simp
    refine (Hhei.out w2 T2.out).mono ?_
    rintro e w3 ⟨rfl, hb⟩
    refine hK _ _ (Turn.ofBelow hb) ?_
    clear hK K
    have T3 : Hid (Turn (fun i => G ≤ i) W w3) := T2.out.trans (Turn.ofBelow hb)
    replace Nf : Hid (FB w3 bf 0 0 0 0 0 0) := Nf.out.ext hb
    clear hb
    (refine wpGs_read (o := ⟨_, _, _, _, _, _⟩) (v := ?_) rfl (by rfl) ?_ ?_; rotate_left; (intro w' hw'; go_simp; with_reducible rfl); simp only [Act.put, List.setIfInBounds_toArray, List.set_cons_zero, List.set_cons_succ])
    have f0 := Nf.out.fz 0
    have f1 := Nf.out.fz 1
    have f2 := Nf.out.fz 2
    have f3 := Nf.out.fz 3
    have f4 := Nf.out.fz 4
    have f5 := Nf.out.fz 5
    have g0 := Nf.out.c0
    have g1 := Nf.out.c1
    have g2 := Nf.out.c2
    have g3 := Nf.out.c3
    have g4 := Nf.out.c4
    have g5 := Nf.out.c5
    refine stepS_call (o := ⟨_, _, _, _, _, _⟩) rfl (by rfl) (fun K hK => ?_)
    go_simp
    have hst := below_all (B := G) (b := bf) (y0 := .int .i64 (n : Int)) (y1 := .int .i64 (H : Int)) (y2 := .int .i64 0) (y3 := .int .i64 0) (y4 := .int .i64 0) (y5 := .int .i64 0) (Below.refl G w3) Gb.out
    have hst2 : Turn (fun i => G ≤ i) w3 (((((((w3).setCell ⟨bf, 0, none⟩ (.int .i64 (n : Int))).setCell ⟨bf, 1, none⟩ (.int .i64 (H : Int))).setCell ⟨bf, 2, none⟩ (.int .i64 0)).setCell ⟨bf, 3, none⟩ (.int .i64 0)).setCell ⟨bf, 4, none⟩ (.int .i64 0)).setCell ⟨bf, 5, none⟩ (.int .i64 0)) := ⟨hst.os, hst.tape, hst.output, hst.size, fun i hi hG => hst.block i (by omega)⟩
    refine hK _ _ hst2 ?_
    clear hK K
    have Nf2 := Nf.out.all (n : Int) (H : Int) 0 0 0 0
    have T9 := T3.out.trans hst2
    clear f0 f1 f2 f3 f4 f5 g0 g1 g2 g3 g4 g5 hst hst2
    generalize (((((((w3).setCell ⟨bf, 0, none⟩ (.int .i64 (n : Int))).setCell ⟨bf, 1, none⟩ (.int .i64 (H : Int))).setCell ⟨bf, 2, none⟩ (.int .i64 0)).setCell ⟨bf, 3, none⟩ (.int .i64 0)).setCell ⟨bf, 4, none⟩ (.int .i64 0)).setCell ⟨bf, 5, none⟩ (.int .i64 0)) = Y at *
    replace Nf := Lib.hid Nf2
    have TY := Lib.hid T9
    clear Nf2 T9
    refine wpGs_done ?_
    have t0 := (Hta.out Y TY.out)
    have a0 := t0.c0
    have a1 := t0.c1
    rw [HN.out] at a1
    have Hall := Lib.hid (all_any p es H Y (Htree.out Y TY.out) (by rw [HN.out]; omega))
    rw [HN.out] at Hall
    clear t0
    go_wp2_with fail
    refine Hall.out.mono ?_
    rintro e w4 ⟨v4, rfl, hv4, hb4⟩
    obtain ⟨a4, c4, rfl, hs4, _⟩ := hv4
    have Htk := Lib.hid (taken_any a4 n c4 es w4 HN.out hs4 Hok.out (by omega))
    have T4 : Hid (Turn (fun i => G ≤ i) W w4) := TY.out.trans (Turn.ofBelow hb4)
    replace Nf : Hid (FB w4 bf (n : Int) (H : Int) 0 0 0 0) := Nf.out.ext hb4
    rw [HN.out]
    clear hb4 hs4 Hall TY a0 a1
    go_wp2_with fail
    refine Htk.out.mono ?_
    rintro e w5 ⟨rfl, hb5⟩
    have T5 : Hid (Turn (fun i => G ≤ i) W w5) := T4.out.trans (Turn.ofBelow hb5)
    replace Nf : Hid (FB w5 bf (n : Int) (H : Int) 0 0 0 0) := Nf.out.ext hb5
    clear hb5 Htk T4
    have hS9 := Hsz.out.1
    have hP9 := Hsz.out.2
    obtain ⟨S, hS⟩ : ∃ S, szs es = S := ⟨_, rfl⟩
    obtain ⟨P, hP⟩ : ∃ P, pgs es = P := ⟨_, rfl⟩
    rw [hS] at hS9 ⊢
    rw [hP] at hP9 ⊢
    have HSP := Lib.hid (And.intro hS hP)
    clear hS hP
    have f5 := Nf.out.fz 5
    have f4 := Nf.out.fz 4
    have g5 := Nf.out.c5
    have g4 := Nf.out.c4
    have hst := below_set (B := G) (b := bf) (j := 4) (v := .int .i64 (P : Int)) (below_set (B := G) (b := bf) (j := 5) (v := .int .i64 (S : Int)) (Below.refl G w5) Gb.out) Gb.out
    have T6 : Hid (Turn (fun i => G ≤ i) W ((w5.setCell ⟨bf, 5, none⟩ (.int .i64 (S : Int))).setCell ⟨bf, 4, none⟩ (.int .i64 (P : Int)))) := T5.out.trans ⟨hst.os, hst.tape, hst.output, hst.size, fun i hi hG => hst.block i (by omega)⟩
    have Nf6 := Lib.hid (Nf.out.put54 (S : Int) (P : Int))
    have t0 := Hta.out _ T6.out
    have a0 := t0.c0
    have a1 := t0.c1
    have t5 := Hta.out _ T5.out
    have b0 := t5.c0
    have b1 := t5.c1
    rw [HN.out] at a1 b1
    have hne1 : ¬ w.heap.size = bf := by have := Gb.out; have := HGs.out; omega
    have hne2 : ¬ bf = w.heap.size := by have := Gb.out; have := HGs.out; omega
    have Htr6 := Lib.hid (Htree.out _ T6.out)
    have HW6 : Hid (∃ Z, (w5.setCell ⟨bf, 5, none⟩ (.int .i64 (S : Int))).setCell ⟨bf, 4, none⟩ (.int .i64 (P : Int)) = Z) := ⟨_, rfl⟩
    clear hst t0 T5 t5
    obtain ⟨Z, hZ⟩ := HW6.out
    rw [hZ] at T6 Nf6 Htr6
    have HZ := Lib.hid hZ
    clear hZ HW6
    rcases Htr6.out with ⟨hp, he, hH⟩ | ⟨b, h, s, hp, hnd, hs5, hs3, hne, hH⟩
    · have Hc := Lib.hid (root_nil (n : Int) Z)
      rw [hp] at a0 b0
      have HC := Lib.hid (And.intro hp (And.intro he hH))
      clear hp he hH Htr6
      go_wp2_with fail
      rw [HZ.out, HC.out.1]
      refine Hc.out.mono ?_
      rintro e w7 ⟨rfl, hb7⟩
      have T7 : Hid (Turn (fun i => G ≤ i) W w7) := T6.out.trans (Turn.ofBelow hb7)
      have Nf7 := Nf6.out.ext hb7
      have hal : Below w7.heap.size w7 (w7.alloc (.cells #[nilS, nilS, nilS] VT)) := (Below.refl _ _).alloc (Nat.le_refl _) _
      have Nf8 := Nf7.ext hal
      have R8 := Htr.out _ (T7.out.trans (Turn.ofBelow hal))
      have c0 := Nf8.c0
      have c1 := Nf8.c1
      have c2 := Nf8.c2
      have c3 := Nf8.c3
      have c4 := Nf8.c4
      have c5 := Nf8.c5
      have f0 := R8.fz 0
      have f1 := R8.fz 1
      have f2 := R8.fz 2
      have f3 := R8.fz 3
      have f4 := R8.fz 4
      have f5 := R8.fz 5
      have r0 := R8.c0
      have r1 := R8.c1
      have r2 := R8.c2
      have r3 := R8.c3
      have r4 := R8.c4
      have r5 := R8.c5
      have R9 := Lib.hid (R8.all (n : Int) (H : Int) 0 0 (P : Int) (S : Int))
      have HB : Hid (∀ x, Below (w.heap.size) w x → Below w.heap.size w x) := fun _ h => h
      have hbz : Below w.heap.size w (w7.alloc (.cells #[nilS, nilS, nilS] VT)) := (Hbw.out.trans ((T7.out.trans (Turn.ofBelow hal)).below (by have := HGs.out; have := HG.out; omega) (fun i hi => by have := HGs.out; omega)))
      have Hfin := Lib.hid (below_all (b := w.heap.size + 1) (y0 := .int .i64 (n : Int)) (y1 := .int .i64 (H : Int)) (y2 := .int .i64 0) (y3 := .int .i64 0) (y4 := .int .i64 (P : Int)) (y5 := .int .i64 (S : Int)) hbz (Nat.le_succ _))
      clear g5 g4 hb7 Nf7 hal Nf8 R8 hbz T6 Nf6 Hc a0 a1 b0 b1 hne1 hne2 T7
      go_wp2_with fail
      clear c0 c1 c2 c3 c4 c5 f0 f1 f2 f3 f4 f5 r0 r1 r2 r3 r4 r5
      have d0 := R9.out.c0
      have d1 := R9.out.c1
      have d2 := R9.out.c2
      have d3 := R9.out.c3
      have d4 := R9.out.c4
      have d5 := R9.out.c5
      refine bodyPost_ret (v := .agg #[.int .i64 (n : Int), .int .i64 (H : Int), .int .i64 0, .int .i64 0, .int .i64 (P : Int), .int .i64 (S : Int)]) (by rw [results_cell_one rfl]; go_simp) rfl ⟨0, 0, by rw [HN.out, HSP.out.1, HSP.out.2]; rfl, ?_, Hfin.out⟩
      rw [HC.out.2.1, HC.out.2.2]; exact CT0.nil
    · obtain ⟨v, hnb, hndv⟩ := hnd.val
      have Hc := Lib.hid (root_some b (n : Int) v Z hnb)
      rw [hp] at a0 b0
      have HC := Lib.hid (And.intro hp (And.intro (And.intro hs5 hs3) (And.intro hne hH)))
      have Hv := Lib.hid hndv
      clear hp hs5 hs3 hne hH Htr6 hnb hndv hnd
      go_wp2_with fail
      rw [HZ.out, HC.out.1]
      refine Hc.out.mono ?_
      rintro e w7 ⟨rfl, hb7⟩
      have T7 : Hid (Turn (fun i => G ≤ i) W w7) := T6.out.trans (Turn.ofBelow hb7)
      have Nf7 := Nf6.out.ext hb7
      have hal : Below w7.heap.size w7 (w7.alloc (.cells #[v.c, v.k, v.p] VT)) := (Below.refl _ _).alloc (Nat.le_refl _) _
      have Nf8 := Lib.hid (Nf7.ext hal)
      have T8 : Hid (Turn (fun i => G ≤ i) W (w7.alloc (.cells #[v.c, v.k, v.p] VT))) := T7.out.trans (Turn.ofBelow hal)
      have Hnd := Lib.hid (nodes_any h none none v es s (w7.alloc (.cells #[v.c, v.k, v.p] VT)) ((Hv.out.ext hb7).ext hal) (by rw [HN.out]; omega) (by have := HC.out.2.1.1; omega))
      clear g5 g4 hb7 Nf7 hal T6 Nf6 Hc a0 a1 b0 b1 hne1 hne2 T7 f5 f4
      obtain ⟨ca, cn, cc, ka, kn, kc, pa, pn, pc⟩ := v
      dsimp only [NoV.c, NoV.k, NoV.p, NoV.v] at *
      go_wp2_with fail
      refine Hnd.out.mono ?_
      rintro e w9 ⟨L, B, rfl, hcg, hb9⟩
      have Hcg := Lib.hid (hcg.root HC.out.2.1.2 HC.out.2.2.1)
      have T9 : Hid (Turn (fun i => G ≤ i) W w9) := T8.out.trans (Turn.ofBelow hb9)
      have Nf9 := Lib.hid (Nf8.out.ext hb9)
      clear hcg hb9 Hnd Nf8 T8
      have hst := below_set (B := G) (b := bf) (j := 3) (v := .int .i64 (B : Int)) (below_set (B := G) (b := bf) (j := 2) (v := .int .i64 (L : Int)) (Below.refl G w9) Gb.out) Gb.out
      have T10 : Hid (Turn (fun i => G ≤ i) W ((w9.setCell ⟨bf, 2, none⟩ (.int .i64 (L : Int))).setCell ⟨bf, 3, none⟩ (.int .i64 (B : Int)))) := T9.out.trans ⟨hst.os, hst.tape, hst.output, hst.size, fun i hi hG => hst.block i (by omega)⟩
      have e2 := Nf9.out.fz 2
      have e3 := Nf9.out.fz 3
      have k2 := Nf9.out.c2
      have k3 := Nf9.out.c3
      have Nf10 := Nf9.out.put23 (L : Int) (B : Int)
      have R8 := Htr.out _ T10.out
      have c0 := Nf10.c0
      have c1 := Nf10.c1
      have c2 := Nf10.c2
      have c3 := Nf10.c3
      have c4 := Nf10.c4
      have c5 := Nf10.c5
      have f0 := R8.fz 0
      have f1 := R8.fz 1
      have f2 := R8.fz 2
      have f3 := R8.fz 3
      have f4 := R8.fz 4
      have f5 := R8.fz 5
      have r0 := R8.c0
      have r1 := R8.c1
      have r2 := R8.c2
      have r3 := R8.c3
      have r4 := R8.c4
      have r5 := R8.c5
      have R9 := Lib.hid (R8.all (n : Int) (H : Int) (L : Int) (B : Int) (P : Int) (S : Int))
      have hbz : Below w.heap.size w ((w9.setCell ⟨bf, 2, none⟩ (.int .i64 (L : Int))).setCell ⟨bf, 3, none⟩ (.int .i64 (B : Int))) := Hbw.out.trans (T10.out.below (by have := HGs.out; have := HG.out; omega) (fun i hi => by have := HGs.out; omega))
      have Hfin := Lib.hid (below_all (b := w.heap.size + 1) (y0 := .int .i64 (n : Int)) (y1 := .int .i64 (H : Int)) (y2 := .int .i64 (L : Int)) (y3 := .int .i64 (B : Int)) (y4 := .int .i64 (P : Int)) (y5 := .int .i64 (S : Int)) hbz (Nat.le_succ _))
      clear hst Nf10 R8 hbz T9 Nf9 T10
      go_wp2_with fail
      clear c0 c1 c2 c3 c4 c5 f0 f1 f2 f3 f4 f5 r0 r1 r2 r3 r4 r5
      have d0 := R9.out.c0
      have d1 := R9.out.c1
      have d2 := R9.out.c2
      have d3 := R9.out.c3
      have d4 := R9.out.c4
      have d5 := R9.out.c5
      refine bodyPost_ret (v := .agg #[.int .i64 (n : Int), .int .i64 (H : Int), .int .i64 (L : Int), .int .i64 (B : Int), .int .i64 (P : Int), .int .i64 (S : Int)]) (by rw [results_cell_one rfl]; go_simp) rfl ⟨L, B, by rw [HN.out, HSP.out.1, HSP.out.2], ?_, Hfin.out⟩
      rw [HC.out.2.2.2]; exact Hcg.out
end Go.Proofs.YtjkpjbgapemieaaGreatDoor
