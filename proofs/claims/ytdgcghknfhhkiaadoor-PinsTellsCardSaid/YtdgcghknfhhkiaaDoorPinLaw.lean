/-
  The law's givePins, arePins.
-/
import Derived.Test.YtdgcghknfhhkiaaDoorRefPMay
import Derived.Test.YtdgcghknfhhkiaaDoorPinOpen
import Derived.Test.YtdgcghknfhhkiaaDoorGs
namespace Go.Proofs.YtdgcghknfhhkiaaDoor
open Go Go.RowKit

set_option maxRecDepth 100000 in
set_option maxHeartbeats 1000000 in
theorem give_any (v : Value) (l : List Pn) (N : Nat) (w : World) (hv : PV w v l) (hl : l.length * 144 ≤ 140737488355328) :
    Calls Tryd.prog 7 #[.agg (psv N v)] w fun e w' => ∃ u, e = .returned (.agg (psv N u)) ∧ EV pinE w' u l ∧ Below w.heap.size w w' := by
  obtain ⟨a, c, rfl, hs, hc, hm⟩ := hv
  have Hs := Lib.hid hs
  obtain ⟨n, hn⟩ : ∃ n, l.length = n := ⟨_, rfl⟩
  have Hn := Lib.hid hn
  rw [hn] at hl ⊢
  have hn9 : n ≤ 9223372036854775807 := by omega
  clear hs hc hm hn
  go_enter Tryd.func7, Tryd.ntmps7
  go_wp2_with (first
    | (refine wpList_box_arr rfl RPS (.tmp 0) rfl (psv N (.slice a n c)) (by rfl) ?_; intro g1 w1 hg1 hk1 hb1)
    | (show wpList _ _ _ (⟨some 2, _, _, _, _, _⟩ :: _) _ _; refine wpList_alloc_arr rfl PS rfl arrz_PS ?_; intro g2 w2 hg2 hk2 hb2; have hj1 := hk1.ext hb2; have q0 := hj1.ps0; have q1 := hj1.ps1)
    | (show wpList _ _ _ (⟨some 3, _, _, _, _, _⟩ :: _) _ _; refine wpList_alloc_arr rfl PS rfl arrz_PS ?_; intro g3 w3 hg3 hk3 hb3; have c0 := hk3.ps0; have c1 := hk3.ps1; have f0 := hk3.fz 0; have f1 := hk3.fz 1))
  have Hgs : Hid (w.heap.size ≤ g2 ∧ w.heap.size ≤ g3 ∧ g1 ≠ g3 ∧ g2 ≠ g3) := ⟨by have := hb1.size; omega, by have := hb1.size; have := hb2.size; omega, by have := hk1.lt; have := hb2.size; omega, by have := hk2.lt; omega⟩
  have HB := Lib.hid (hb1.trans ((hb2.mono hb1.size).trans (hb3.mono (by have := hb1.size; have := hb2.size; omega))))
  have ht3 := ((Turn.refl (fun i => i = g3) w3).setCell (p := ⟨g3, 0, none⟩) (.int .u64 (N : Nat)) (fun _ => rfl)).setCell (p := ⟨g3, 1, none⟩) pnil (fun _ => rfl)
  have HK : Hid (Blk ((w3.setCell ⟨g3, 0, none⟩ (.int .u64 (N : Nat))).setCell ⟨g3, 1, none⟩ pnil) g3 PS (psv N pnil) ∧ Blk ((w3.setCell ⟨g3, 0, none⟩ (.int .u64 (N : Nat))).setCell ⟨g3, 1, none⟩ pnil) g1 RPS (psv N (.slice a n c)) ∧ Blk ((w3.setCell ⟨g3, 0, none⟩ (.int .u64 (N : Nat))).setCell ⟨g3, 1, none⟩ pnil) g2 PS (psv 0 pnil)) := ⟨(hk3.set 0 _).set 1 _, (hj1.ext hb3).turn ht3 Hgs.out.2.2.1, (hk2.ext hb3).turn ht3 Hgs.out.2.2.2⟩
  replace HB : Hid (Below w.heap.size w ((w3.setCell ⟨g3, 0, none⟩ (.int .u64 (N : Nat))).setCell ⟨g3, 1, none⟩ pnil)) := (HB.out.setCell Hgs.out.2.1 _).setCell Hgs.out.2.1 _
  clear hg1 hg2 hg3 hk1 hk2 hk3 hb1 hb2 hb3 hj1 q0 q1 c0 c1 f0 f1 ht3
  generalize (w3.setCell ⟨g3, 0, none⟩ (.int .u64 (N : Nat))).setCell ⟨g3, 1, none⟩ pnil = w4 at *
  obtain ⟨B4, hB4⟩ : ∃ B4, w4.heap.size = B4 := ⟨_, rfl⟩
  have Hgg : Hid (g1 < B4 ∧ g3 < B4 ∧ g2 < B4 ∧ ¬ g1 = g3 ∧ ¬ g2 = g3) := ⟨by rw [← hB4]; exact HK.out.2.1.lt, by rw [← hB4]; exact HK.out.1.lt, by rw [← hB4]; exact HK.out.2.2.lt, Hgs.out.2.2.1, Hgs.out.2.2.2⟩
  replace Hgs : Hid (w.heap.size ≤ g3 ∧ w.heap.size ≤ B4 ∧ w.heap.size ≤ g2) := ⟨Hgs.out.2.1, by rw [← hB4]; exact HB.out.size, Hgs.out.1⟩
  go_loopw [4] (fun i wr => ∃ (k : Nat) (u : Value), i = .int .i64 k ∧ k ≤ n ∧ Hid (Blk wr g3 PS (psv N u) ∧ Blk wr g1 RPS (psv N (.slice a n c)) ∧ Blk wr g2 PS (psv 0 pnil)) ∧ Hid (wr.ownsRow B4 PT 18 u (l.take k).length (pinE.row (l.take k))) ∧ Hid (Below w.heap.size w wr) ∧ Hid (B4 ≤ wr.heap.size)) (fun i _ => n - (intOf i).toNat)
  case atStart => exact ⟨0, pnil, rfl, by omega, HK, World.ownsRow_nil _ _ _ _, HB, by show _ ≤ _; omega⟩
  case round =>
    obtain ⟨k, u, rfl, hk, hKK, hO, hB, hsz⟩ := hrel
    have z1 := hKK.out.2.1.ps1
    by_cases hlt : k < n
    · obtain ⟨g, o, rfl, hcell⟩ := (Hs.out.below hB.out (Nat.le_refl _)).pin (by rw [Hn.out]; omega)
      have hc1 := hcell k (by rw [Hn.out]; exact hlt)
      obtain ⟨y, hy⟩ : ∃ y, pn l k = y := ⟨_, rfl⟩
      rw [hy] at hc1
      have hcd : At wr.drew g (o + k * 18) (pv y) := hc1
      have hKd : Blk wr.drew g3 PS (psv N u) ∧ Blk wr.drew g1 RPS (psv N (.slice (some ⟨g, o, none⟩) n c)) ∧ Blk wr.drew g2 PS (psv 0 pnil) := hKK.out
      have hOd : wr.drew.ownsRow B4 PT 18 u (l.take k).length (pinE.row (l.take k)) := hO.out
      have hBd : Below w.heap.size w wr.drew := hB.out.drew
      have hszd : B4 ≤ wr.drew.heap.size := hsz.out
      have hgb : g < w.heap.size := by
        obtain ⟨g', o', he, hc'⟩ := Hs.out.pin (by rw [Hn.out]; omega)
        cases he
        exact (hc' 0 (by rw [Hn.out]; omega)).lt (by rw [pv_size]; decide)
      have i1 : (k : Int) < (n : Int) := by omega
      have htl : (l.take k).length + 1 ≤ n := by rw [List.length_take]; omega
      clear hcell hc1 hKK hO hB hsz HK HB hB4
      go_wp2_with fail
      clear z1
      refine wp_region_gs (F := fun i => B4 ≤ i ∨ i = g3) (.rd 0 (.rd 2 (.rd 3 (.rd 4 (.rd 5 (.rd 6 (.rd 7 (.rd 8 (.rd 9 (.rd 10 (.rd 11 (.rd 12 (.rd 13 (.rd 14 (.rd 15 (.rd 16 (.rd 17 (.rd 18 (.rd 19 (.rd 20 (.two 1 (.call 21 (.call 22 (.rd 23 (.call 24 .done)))) 21 (.call 1 (.call 22 (.rd 23 (.call 24 .done))))))))))))))))))))))))) (by kernel_rfl) (by kernel_rfl) (by kernel_rfl) (by kernel_rfl) (fun _ _ _ _ _ h => h) ?_
      generalize wr.drew = w5 at *
      have hFg : ¬ (B4 ≤ g ∨ g = g3) := by have := Hgs.out; omega
      have hF1 : ¬ (B4 ≤ g1 ∨ g1 = g3) := by have := Hgg.out; omega
      have rc : ∀ w', Turn (fun i => B4 ≤ i ∨ i = g3) w5 w' → At w' g (o + k * 18) (pv y) := fun w' ht j x hx => by
        have := hcd j x hx
        rw [ht.cell (p := ⟨g, o + k * 18 + j, none⟩) (block_lt_of_cell this) hFg]; exact this
      obtain ⟨I, S, F⟩ := y
      have rI : ∀ w', Turn (fun i => B4 ≤ i ∨ i = g3) w5 w' → w'.cell? ⟨g, o + k * 18, none⟩ = some (.int .u64 (I : Nat)) := fun w' ht => (rc w' ht).id
      have rS : ∀ w', Turn (fun i => B4 ≤ i ∨ i = g3) w5 w' → w'.cell? ⟨g, o + k * 18 + 1, none⟩ = some (.int .u64 (S : Nat)) := fun w' ht => (rc w' ht).sq
      have rP := Lib.hid (fun w' (ht : Turn (fun i => B4 ≤ i ∨ i = g3) w5 w') => (rc w' ht).pages)
      have r1 : ∀ w', Turn (fun i => B4 ≤ i ∨ i = g3) w5 w' → w'.cell? ⟨g1, 1, none⟩ = some (.slice (some ⟨g, o, none⟩) n c) := fun w' ht => (hKd.2.1.turn ht hF1).ps1
      clear rc hcd
      iterate 18 (refine wpGs_read (o := ⟨_, _, _, _, _, _⟩) (v := ?_) rfl (by rfl) ?_ ?_; rotate_left; (intro w' hw'; go_simp; with_reducible rfl); simp only [Act.put, List.setIfInBounds_toArray, List.set_cons_zero, List.set_cons_succ])
      refine wpGs_read (o := ⟨_, _, _, _, _, _⟩) (v := .agg (sc F)) rfl (by rfl) (fun w' hw' => rd_load_agg TW (.tmp 33) rfl g (o + k * 18 + 2) (sc F) (by rfl) agg_TW (rP.out w' hw') (sc_size _)) ?_
      simp only [Act.put, List.setIfInBounds_toArray, List.set_cons_zero, List.set_cons_succ]
      refine wpGs_read (o := ⟨_, _, _, _, _, _⟩) (v := .agg (pv ⟨I, S, F⟩)) rfl (by rfl) (fun w' hw' => rd_build_pin (.tmp 22) (.tmp 28) (.tmp 34) rfl I S F (by rfl) (by rfl) (by rfl)) ?_
      simp only [Act.put, List.setIfInBounds_toArray, List.set_cons_zero, List.set_cons_succ]
      clear rI rS rP r1 hFg hF1
      generalize hY : (⟨I, S, F⟩ : Pn) = y at *
      have c1 := hKd.1.ps1
      refine ⟨?_, ?_⟩
      · skip
        refine stepS_call (o := ⟨_, _, _, _, _, _⟩) rfl (by rfl) (fun K hK => ?_)
        go_simp
        refine hK _ _ (Turn.refl _ _) ?_
        clear hK K
        clear c1
        refine stepS_call (o := ⟨_, _, _, _, _, _⟩) rfl (by rfl) (fun K hK => ?_)
        refine wp_slice_pin (.tmp 35) rfl y (by rfl) ?_
        refine hK _ _ ((Turn.refl _ _).alloc _) ?_
        clear hK K
        have hal := plit w5 PT y
        have hoa := hOd.alloc (.cells (pv y) PT)
        have hx : Ext w5 (w5.alloc (.cells (pv y) PT)) := (Below.refl _ _).alloc (Nat.le_refl _) _
        have hKa : Blk (w5.alloc (.cells (pv y) PT)) g3 PS (psv N u) ∧ Blk (w5.alloc (.cells (pv y) PT)) g1 RPS (psv N (.slice (some ⟨g, o, none⟩) n c)) ∧ Blk (w5.alloc (.cells (pv y) PT)) g2 PS (psv 0 pnil) := ⟨hKd.1.ext hx, hKd.2.1.ext hx, hKd.2.2.ext hx⟩
        have hBa : Below w.heap.size w (w5.alloc (.cells (pv y) PT)) := hBd.trans (Below.mono hx hBd.size)
        have hsa : B4 ≤ (w5.alloc (.cells (pv y) PT)).heap.size := Nat.le_trans hszd hx.size
        clear hx
        generalize hb6 : w5.heap.size = b6 at *
        generalize w5.alloc (.cells (pv y) PT) = w6 at *
        simp only [Act.put, List.setIfInBounds_toArray, List.set_cons_zero, List.set_cons_succ]
        refine stepS_call (o := ⟨_, _, _, _, _, _⟩) rfl (by rfl) (fun K hK => ?_)
        obtain ⟨v7, w7, hrun, hb7, ho7⟩ := papp_own SPT SPT PT Tryd.underlying28 pinfo b6 y hoa hsa hal (by have := htl; omega)
        refine wp_app_run (.tmp 16) (.tmp 36) SPT rfl (by rfl) (by rfl) hrun ?_
        clear hrun hal hoa
        obtain ⟨a7, c7, rfl, _⟩ := own_pin ho7
        obtain ⟨v7, hv7⟩ : ∃ v7, Value.slice a7 (l.take k ++ [y]).length c7 = v7 := ⟨_, rfl⟩
        rw [hv7] at ho7
        refine hK _ _ ((turn_from hb7).mono (fun i hi _ => .inl hi)) ?_
        clear hK K
        simp only [Act.put, List.setIfInBounds_toArray, List.set_cons_zero, List.set_cons_succ]
        (refine wpGs_read (o := ⟨_, _, _, _, _, _⟩) (v := ?_) rfl (by rfl) ?_ ?_; rotate_left; (intro w' hw'; go_simp; with_reducible rfl); simp only [Act.put, List.setIfInBounds_toArray, List.set_cons_zero, List.set_cons_succ])
        have hK7 := hKa.1.below hb7 Hgg.out.2.1
        have HO : Hid ((w7.setCell ⟨g3, 1, none⟩ v7).ownsRow B4 PT 18 v7 (l.take (k + 1)).length (pinE.row (l.take (k + 1)))) := by
          have := ownsRow_setCell_below ho7 (a := ⟨g3, 1, none⟩) Hgg.out.2.1 v7
          rw [← hy, ← pn_take l k (by rw [Hn.out]; exact hlt)] at this
          exact this
        have HKK : Hid (Blk (w7.setCell ⟨g3, 1, none⟩ v7) g3 PS (psv N v7) ∧ Blk (w7.setCell ⟨g3, 1, none⟩ v7) g1 RPS (psv N (.slice (some ⟨g, o, none⟩) n c)) ∧ Blk (w7.setCell ⟨g3, 1, none⟩ v7) g2 PS (psv 0 pnil)) := by
          have ht := (Turn.refl (fun i => i = g3) w7).setCell (p := ⟨g3, 1, none⟩) v7 (fun _ => rfl)
          exact ⟨hK7.set 1 v7, (hKa.2.1.below hb7 Hgg.out.1).turn ht Hgg.out.2.2.2.1, (hKa.2.2.below hb7 Hgg.out.2.2.1).turn ht Hgg.out.2.2.2.2⟩
        have HBB : Hid (Below w.heap.size w (w7.setCell ⟨g3, 1, none⟩ v7)) := (hBa.trans (hb7.mono Hgs.out.2.1)).setCell Hgs.out.1 _
        have HSZ : Hid (B4 ≤ (w7.setCell ⟨g3, 1, none⟩ v7).heap.size) := by
          show B4 ≤ _
          have h1 := hb7.size
          rw [show (w7.setCell ⟨g3, 1, none⟩ v7).heap.size = w7.heap.size by simp [World.setCell]]
          omega
        have cc1 := hK7.ps1
        have ff1 := hK7.fz 1
        have HT7 : Hid (Turn (fun i => B4 ≤ i ∨ i = g3) w7 (w7.setCell ⟨g3, 1, none⟩ v7)) := (Turn.refl _ w7).setCell (p := ⟨g3, 1, none⟩) _ (fun _ => .inr rfl)
        subst hv7
        clear hKa hBa hb7 ho7 hK7 hsa
        generalize (l.take k ++ [y]).length = n7 at *
        refine stepS_call (o := ⟨_, _, _, _, _, _⟩) rfl (by rfl) (fun K hK => ?_)
        go_simp
        refine hK _ _ HT7.out ?_
        clear hK K cc1 ff1 HT7
        generalize w7.setCell ⟨g3, 1, none⟩ (.slice a7 n7 c7) = w8 at *
        refine wpGs_done ?_
        go_wp2
        go_roundw
        case rel => exact ⟨k + 1, _, by go_num, by omega, HKK, HO, HBB, HSZ⟩
        case measure => simp [intOf]; omega
      · skip
        refine stepS_call (o := ⟨_, _, _, _, _, _⟩) rfl (by rfl) (fun K hK => ?_)
        refine wp_slice_pin (.tmp 35) rfl y (by rfl) ?_
        refine hK _ _ ((Turn.refl _ _).alloc _) ?_
        clear hK K
        have hal := plit w5 PT y
        have hoa := hOd.alloc (.cells (pv y) PT)
        have hx : Ext w5 (w5.alloc (.cells (pv y) PT)) := (Below.refl _ _).alloc (Nat.le_refl _) _
        have hKa : Blk (w5.alloc (.cells (pv y) PT)) g3 PS (psv N u) ∧ Blk (w5.alloc (.cells (pv y) PT)) g1 RPS (psv N (.slice (some ⟨g, o, none⟩) n c)) ∧ Blk (w5.alloc (.cells (pv y) PT)) g2 PS (psv 0 pnil) := ⟨hKd.1.ext hx, hKd.2.1.ext hx, hKd.2.2.ext hx⟩
        have hBa : Below w.heap.size w (w5.alloc (.cells (pv y) PT)) := hBd.trans (Below.mono hx hBd.size)
        have hsa : B4 ≤ (w5.alloc (.cells (pv y) PT)).heap.size := Nat.le_trans hszd hx.size
        clear hx
        generalize hb6 : w5.heap.size = b6 at *
        generalize w5.alloc (.cells (pv y) PT) = w6 at *
        clear c1
        have c1 := hKa.1.ps1
        simp only [Act.put, List.setIfInBounds_toArray, List.set_cons_zero, List.set_cons_succ]
        refine stepS_call (o := ⟨_, _, _, _, _, _⟩) rfl (by rfl) (fun K hK => ?_)
        go_simp
        refine hK _ _ (Turn.refl _ _) ?_
        clear hK K
        clear c1
        refine stepS_call (o := ⟨_, _, _, _, _, _⟩) rfl (by rfl) (fun K hK => ?_)
        obtain ⟨v7, w7, hrun, hb7, ho7⟩ := papp_own SPT SPT PT Tryd.underlying28 pinfo b6 y hoa hsa hal (by have := htl; omega)
        refine wp_app_run (.tmp 16) (.tmp 36) SPT rfl (by rfl) (by rfl) hrun ?_
        clear hrun hal hoa
        obtain ⟨a7, c7, rfl, _⟩ := own_pin ho7
        obtain ⟨v7, hv7⟩ : ∃ v7, Value.slice a7 (l.take k ++ [y]).length c7 = v7 := ⟨_, rfl⟩
        rw [hv7] at ho7
        refine hK _ _ ((turn_from hb7).mono (fun i hi _ => .inl hi)) ?_
        clear hK K
        simp only [Act.put, List.setIfInBounds_toArray, List.set_cons_zero, List.set_cons_succ]
        (refine wpGs_read (o := ⟨_, _, _, _, _, _⟩) (v := ?_) rfl (by rfl) ?_ ?_; rotate_left; (intro w' hw'; go_simp; with_reducible rfl); simp only [Act.put, List.setIfInBounds_toArray, List.set_cons_zero, List.set_cons_succ])
        have hK7 := hKa.1.below hb7 Hgg.out.2.1
        have HO : Hid ((w7.setCell ⟨g3, 1, none⟩ v7).ownsRow B4 PT 18 v7 (l.take (k + 1)).length (pinE.row (l.take (k + 1)))) := by
          have := ownsRow_setCell_below ho7 (a := ⟨g3, 1, none⟩) Hgg.out.2.1 v7
          rw [← hy, ← pn_take l k (by rw [Hn.out]; exact hlt)] at this
          exact this
        have HKK : Hid (Blk (w7.setCell ⟨g3, 1, none⟩ v7) g3 PS (psv N v7) ∧ Blk (w7.setCell ⟨g3, 1, none⟩ v7) g1 RPS (psv N (.slice (some ⟨g, o, none⟩) n c)) ∧ Blk (w7.setCell ⟨g3, 1, none⟩ v7) g2 PS (psv 0 pnil)) := by
          have ht := (Turn.refl (fun i => i = g3) w7).setCell (p := ⟨g3, 1, none⟩) v7 (fun _ => rfl)
          exact ⟨hK7.set 1 v7, (hKa.2.1.below hb7 Hgg.out.1).turn ht Hgg.out.2.2.2.1, (hKa.2.2.below hb7 Hgg.out.2.2.1).turn ht Hgg.out.2.2.2.2⟩
        have HBB : Hid (Below w.heap.size w (w7.setCell ⟨g3, 1, none⟩ v7)) := (hBa.trans (hb7.mono Hgs.out.2.1)).setCell Hgs.out.1 _
        have HSZ : Hid (B4 ≤ (w7.setCell ⟨g3, 1, none⟩ v7).heap.size) := by
          show B4 ≤ _
          have h1 := hb7.size
          rw [show (w7.setCell ⟨g3, 1, none⟩ v7).heap.size = w7.heap.size by simp [World.setCell]]
          omega
        have cc1 := hK7.ps1
        have ff1 := hK7.fz 1
        have HT7 : Hid (Turn (fun i => B4 ≤ i ∨ i = g3) w7 (w7.setCell ⟨g3, 1, none⟩ v7)) := (Turn.refl _ w7).setCell (p := ⟨g3, 1, none⟩) _ (fun _ => .inr rfl)
        subst hv7
        clear hKa hBa hb7 ho7 hK7 hsa
        generalize (l.take k ++ [y]).length = n7 at *
        refine stepS_call (o := ⟨_, _, _, _, _, _⟩) rfl (by rfl) (fun K hK => ?_)
        go_simp
        refine hK _ _ HT7.out ?_
        clear hK K cc1 ff1 HT7
        generalize w7.setCell ⟨g3, 1, none⟩ (.slice a7 n7 c7) = w8 at *
        refine wpGs_done ?_
        go_wp2
        go_roundw
        case rel => exact ⟨k + 1, _, by go_num, by omega, HKK, HO, HBB, HSZ⟩
        case measure => simp [intOf]; omega
    · obtain rfl : k = n := by omega
      have ho := hO.out
      rw [List.take_of_length_le (by rw [Hn.out]; exact Nat.le_refl _)] at ho
      obtain ⟨a7, c7, rfl, _⟩ := own_pin ho
      obtain ⟨v7, hv7⟩ : ∃ v7, Value.slice a7 l.length c7 = v7 := ⟨_, rfl⟩
      rw [hv7] at ho hKK
      have HX : Hid (EV pinE ((wr.setCell ⟨g2, 0, none⟩ (.int .u64 (N : Nat))).setCell ⟨g2, 1, none⟩ v7) v7 l) := own_pin (ownsRow_setCell_below (ownsRow_setCell_below ho (a := ⟨g2, 0, none⟩) Hgg.out.2.2.1 _) (a := ⟨g2, 1, none⟩) Hgg.out.2.2.1 _)
      have HK2 := Lib.hid hKK.out.2.2
      have y0 := hKK.out.1.ps0
      have y1 := hKK.out.1.ps1
      have c0 := HK2.out.ps0
      have c1 := HK2.out.ps1
      have f0 := HK2.out.fz 0
      have f1 := HK2.out.fz 1
      subst hv7
      generalize hn7 : l.length = n7 at *
      clear hO hKK ho hn7
      go_wp2
      refine bodyPost_ret (v := .agg (psv N (.slice a7 n7 c7))) ?_ rfl ?_
      · exact results_agg agg_PS rfl _ _ g2 _ (by rfl) HK2.out.ps_set rfl
      · exact ⟨_, rfl, HX.out, (hB.out.setCell Hgs.out.2.2 _).setCell Hgs.out.2.2 _⟩
set_option maxRecDepth 100000 in
set_option maxHeartbeats 1000000 in
theorem are_any (v u : Value) (l : List Pn) (N : Nat) (w : World) (hv : EV pinE w v l) (hu : PV w u l) :
    Calls Tryd.prog 14 #[.agg (psv N v), .agg (psv N u)] w fun e w' => e = .returned (.bool true) ∧ Below w.heap.size w w' := by
  obtain ⟨a, c, rfl, hs, _, _, hm1⟩ := hv
  obtain ⟨b, c2, rfl, hs2, _, _⟩ := hu
  obtain ⟨n, hn⟩ : ∃ n, l.length = n := ⟨_, rfl⟩
  have Hs := Lib.hid hs
  have Hs2 := Lib.hid hs2
  have Hn := Lib.hid hn
  have hn9 : n ≤ 9223372036854775807 := by unfold maxLen at hm1; omega
  rw [hn]
  clear hs hs2 hn hm1
  go_enter Tryd.func14, Tryd.ntmps14
  go_wp2_with (first
    | (show wpList _ _ _ (⟨some 2, _, _, _, _, _⟩ :: _) _ _; refine wpList_box_arr rfl PS (.tmp 0) rfl (psv N (.slice a n c)) (by rfl) ?_; intro g2 w1 hg1 hk1 hb1)
    | (show wpList _ _ _ (⟨some 3, _, _, _, _, _⟩ :: _) _ _; refine wpList_box_arr rfl RPS (.tmp 1) rfl (psv N (.slice b n c2)) (by rfl) ?_; intro g3 w2 hg2 hk2 hb2; have hj1 := hk1.ext hb2; have q0 := hj1.ps0; have q1 := hj1.ps1; have q2 := hk2.ps0; have q3 := hk2.ps1))
  have HB0 := Lib.hid (hb1.trans (hb2.mono hb1.size))
  have HK1 := Lib.hid hj1
  have HK2 := Lib.hid hk2
  clear hg1 hg2 hk1 hk2 hb1 hb2 hj1 q0 q1 q2 q3
  go_loopw [5] (fun i wr => ∃ k : Nat, i = .int .i64 k ∧ k ≤ n ∧ Hid (Below w2.heap.size w2 wr)) (fun i _ => n - (intOf i).toNat)
  case atStart => exact ⟨0, rfl, by omega, Below.refl _ _⟩
  case round =>
    obtain ⟨k, rfl, hk, hB⟩ := hrel
    have z1 := (HK1.out.below hB.out HK1.out.lt).ps1
    by_cases hlt : k < n
    · obtain ⟨g, o, rfl, hcell⟩ := ((Hs.out.below HB0.out (Nat.le_refl _)).below hB.out (Nat.le_refl _)).pin (by rw [Hn.out]; omega)
      obtain ⟨g', o', rfl, hcell2⟩ := ((Hs2.out.below HB0.out (Nat.le_refl _)).below hB.out (Nat.le_refl _)).pin (by rw [Hn.out]; omega)
      have p0 := hcell k (by rw [Hn.out]; exact hlt)
      have p2 := hcell2 k (by rw [Hn.out]; exact hlt)
      have up : ∀ (g o : Nat) (cs : Array Value), At wr g o cs → ∀ w', Ext wr.drew w' → At w' g o cs := fun g o cs h w' hw => h.below ((Below.refl wr.heap.size wr).drew.trans hw) (Nat.le_refl _)
      have r1 := held_on (HK1.out.below hB.out HK1.out.lt).ps1
      have r2 := held_on (HK2.out.below hB.out HK2.out.lt).ps1
      generalize pn l k = x at *
      obtain ⟨I, S, F⟩ := x
      have qI := held_on p0.id
      have qS := held_on p0.sq
      have rI := held_on p2.id
      have rS := held_on p2.sq
      have qP := Lib.hid (fun w' hw => (up _ _ _ p0 w' hw).pages)
      have rP := Lib.hid (fun w' hw => (up _ _ _ p2 w' hw).pages)
      have hBd : Hid (Below w2.heap.size w2 wr.drew) := hB.out.drew
      have i1 : (k : Int) < (n : Int) := by omega
      clear hcell hcell2 p0 p2 up hB
      go_wp2_with fail
      clear z1
      refine wp_region_gr [(0, true), (1, true), (2, true), (3, true), (4, true), (5, true), (6, true), (7, true), (8, true), (9, true), (10, true), (11, true), (12, true), (13, true), (14, true), (15, true), (16, true), (17, true), (18, true), (19, true), (20, true), (21, true), (22, true), (23, true), (24, true), (25, true), (26, true), (27, true), (28, true), (29, true), (30, true), (31, true), (32, true), (33, true), (34, true), (35, true), (36, true), (37, true), (38, true), (39, true), (40, true), (41, true), (42, true)] (by kernel_rfl) (by kernel_rfl) (by kernel_rfl) (by kernel_rfl) (fun _ _ _ _ _ h => h) ?_
      iterate 34 (refine wpGr_read (o := ⟨_, _, _, _, _, _⟩) (v := ?_) rfl (by rfl) ?_ ?_; rotate_left; (intro w' hw'; go_simp; with_reducible rfl); simp only [Act.put, List.setIfInBounds_toArray, List.set_cons_zero, List.set_cons_succ])
      refine wpGr_read (o := ⟨_, _, _, _, _, _⟩) (v := .agg (sc F)) rfl (by rfl) (fun w' hw' => rd_load_agg TS (.tmp 60) rfl g (o + k * 18 + 2) (sc F) (by rfl) agg_TS (qP.out w' hw') (sc_size _)) ?_
      simp only [Act.put, List.setIfInBounds_toArray, List.set_cons_zero, List.set_cons_succ]
      iterate 5 (refine wpGr_read (o := ⟨_, _, _, _, _, _⟩) (v := ?_) rfl (by rfl) ?_ ?_; rotate_left; (intro w' hw'; go_simp; with_reducible rfl); simp only [Act.put, List.setIfInBounds_toArray, List.set_cons_zero, List.set_cons_succ])
      refine wpGr_read (o := ⟨_, _, _, _, _, _⟩) (v := .agg (sc F)) rfl (by rfl) (fun w' hw' => rd_load_agg TW (.tmp 66) rfl g' (o' + k * 18 + 2) (sc F) (by rfl) agg_TW (rP.out w' hw') (sc_size _)) ?_
      simp only [Act.put, List.setIfInBounds_toArray, List.set_cons_zero, List.set_cons_succ]
      refine wpGr_read (o := ⟨_, _, _, _, _, _⟩) (v := .bool false) rfl (by rfl) (fun w' hw' => rd_neq_sc (.tmp 61) (.tmp 67) _ rfl F F (by rfl) (by rfl) rfl) ?_
      simp only [Act.put, List.setIfInBounds_toArray, List.set_cons_zero, List.set_cons_succ]
      (refine wpGr_read (o := ⟨_, _, _, _, _, _⟩) (v := ?_) rfl (by rfl) ?_ ?_; rotate_left; (intro w' hw'; go_simp; with_reducible rfl); simp only [Act.put, List.setIfInBounds_toArray, List.set_cons_zero, List.set_cons_succ])
      refine wpGr_done ?_
      clear r1 r2 qI qS rI rS qP rP
      go_wp2_with fail
      go_roundw
      case rel => exact ⟨k + 1, by go_num, by omega, hBd⟩
      case measure => simp [intOf]; omega
    · obtain rfl : k = n := by omega
      go_wp2
      go_ret
      exact ⟨rfl, HB0.out.trans (hB.out.mono HB0.out.size)⟩
end Go.Proofs.YtdgcghknfhhkiaaDoor
