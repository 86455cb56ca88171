/-
  ShapeRight.
-/
import Derived.Test.YtbgkjniagedcnaaGreatDoorSure15Z
import Derived.Test.YtbgkjniagedcnaaGreatDoorGrownZ
import Derived.Test.YtbgkjniagedcnaaGreatDoorActsZ
import Derived.Test.YtbgkjniagedcnaaGreatDoorRemoveZ
import Derived.Test.YtbgkjniagedcnaaGreatDoorMostTZ
import Derived.Deep.CutBlock
import Derived.Deep.DeepCutAuto
namespace Go.Proofs.YtbgkjniagedcnaaGreatDoor
open Go Go.RowKit

/-- What stands between the acts: the tree at hand. -/
structure Rr (w wr : World) (bt : Nat) (es : List En) (p : Option Addr) (H : Nat) : Prop where
  t : TB wr bt p es.length
  tr : TreeP wr p es H
  b : Below w.heap.size w wr
  lo : w.heap.size ≤ bt
theorem Rr.ext {w wr w6 : World} {bt : Nat} {es : List En} {p : Option Addr} {H : Nat} (h : Rr w wr bt es p H) (hb : Below wr.heap.size wr w6) : Rr w w6 bt es p H :=
  ⟨h.t.ext hb, h.tr.ext hb, h.b.trans (hb.mono h.b.size), h.lo⟩
theorem Rr.next {w wr w6 : World} {bt : Nat} {es es2 : List En} {p p2 : Option Addr} {H H2 : Nat} (h : Rr w wr bt es p H) (hb : Below wr.heap.size wr w6) (ht : TreeP w6 p2 es2 H2) :
    Rr w ((w6.setCell ⟨bt, 0, none⟩ (.pointer p2)).setCell ⟨bt, 1, none⟩ (.int .i64 es2.length)) bt es2 p2 H2 := by
  have h6 := h.ext hb
  have t := turn_put w6 bt (.pointer p2) (.int .i64 es2.length)
  exact ⟨h6.t.put p2 _, ht.turn t (TF.one h6.t), below_put h6.b h.lo, h.lo⟩
theorem tdL_le9 (es : List En) (key : ByteArray) : (tdL es key).length ≤ es.length := by
  unfold tdL
  split
  · have := rep_len es key []
    simp at this; omega
  · exact Nat.le_refl _
set_option maxHeartbeats 8000000 in
set_option maxRecDepth 100000 in
theorem shRight_any (A S : Nat) (a : Option Addr) (m c : Nat) (acts : List Ac) (w : World) (hA : A < 65536) (hS : S < 65536) (hm : acts.length = m) (hs : AS w a acts) (hml : m ≤ 9223372036854775807) (hg : Hg w) :
    Calls Tryz.prog 4 #[.agg #[.int .u16 A, .int .u16 S], .slice a m c] w fun e w' => e = .returned (.bool true) ∧ Below w.heap.size w w' := by
  obtain ⟨W, hW, _, hb⟩ := alloc_own w 23 #[.int .u16 A, .int .u16 S]
  obtain ⟨N, hN⟩ : ∃ N, N = A % 160 := ⟨_, rfl⟩
  have eN : (A : Int).tmod 160 = (N : Int) := by rw [Int.tmod_eq_emod_of_nonneg (by omega)]; omega
  have wN : IntKind.i64.wrap (N : Int) = (N : Int) := by rw [IntKind.wrap_i64]; omega
  have wS : IntKind.i64.wrap (S : Int) = (S : Int) := by rw [IntKind.wrap_i64]; omega
  have hN9 : N ≤ 160 := by omega
  have Hgr := Lib.hid (grown_any N S W (by omega) (by omega) (hg.below hb))
  have HW := Lib.hid hW
  have HB := Lib.hid hb
  have Hg0 : Hid (∀ {w'}, Below w.heap.size w w' → Hg w') := fun x => hg.below x
  have Hsu := Lib.hid (fun x (hx : Below w.heap.size w x) => sure_any x (Hg0.out hx))
  have Hact := Lib.hid (And.intro hm hs)
  clear hW hb hg hN hs hm
  go_enter Tryz.func4, Tryz.ntmps4
  go_wp2_with fail
  rw [HW.out]
  refine Hgr.out.mono ?_
  rintro e w1 ⟨p5, H5, l, lv0, rfl, ht5, hl, hln, hb1⟩
  replace ht5 := ht5.tp
  obtain ⟨W5, hW5, hT5, hb5⟩ := alloc_own w1 TT #[.pointer p5, .int .i64 l.length]
  have hb01 := HB.out.trans (hb1.mono HB.out.size)
  have hb05 := hb01.trans (hb5.mono hb01.size)
  obtain ⟨bt, hbt⟩ : ∃ bt, w1.heap.size = bt := ⟨_, rfl⟩
  rw [hbt] at hT5
  have HRr : Hid (Rr w W5 bt l p5 H5) := ⟨hT5, ht5.ext hb5, hb05, by rw [← hbt]; exact hb01.size⟩
  have HW5 := Lib.hid hW5
  have Hln := Lib.hid hln
  obtain ⟨az, cz, rfl, _⟩ := hl
  clear hW5 hT5 hb5 hb01 hb05 ht5 hln hb1 HB Hgr HW
  go_wp2_with fail
  rw [HW5.out]
  go_loopw [8, 9, 10, 11, 12, 13, 14] (fun iv _ _ _ _ _ _ wr => ∃ (i : Nat) (es : List En) (p : Option Addr) (H : Nat), iv = .int .i64 i ∧ i ≤ m ∧ i ≤ 60 ∧ es.length ≤ 160 + i ∧ Hid (Rr w wr bt es p H)) (fun iv _ _ _ _ _ _ _ => 60 - (intOf iv).toNat)
  case atStart => exact ⟨0, l, p5, H5, rfl, by omega, by omega, by have := Hln.out; omega, HRr⟩
  case round =>
    obtain ⟨i, es, p, H, rfl, him, hi60, hel, hst⟩ := hrel
    by_cases hlt : i < m ∧ i < 60
    · obtain ⟨hl1, hl2⟩ := hlt
      have hIl : (i : Int) < (m : Int) := by omega
      obtain ⟨ga, oa, rfl, hacts⟩ := (Hact.out.2.below hst.out.b (Nat.le_refl _)) (by rw [Hact.out.1]; omega)
      obtain ⟨k0, k1, k2⟩ := hacts i (by rw [Hact.out.1]; exact hl1)
      have i1 : (0 : Int) ≤ (i : Int) := by omega
      have i2 : (i : Int) < 60 := by omega
      generalize aca acts i = y at *
      obtain ⟨kx, key, val⟩ := y
      dsimp only at k0 k1 k2
      obtain ⟨R, hR⟩ : ∃ R, kx.tmod 4 = R := ⟨_, rfl⟩
      obtain ⟨W1, hW1, hA1, hbW1⟩ := alloc_own wr ACT #[.int .i64 kx, .string key, .string val]
      obtain ⟨ba, hba⟩ : ∃ ba, wr.heap.size = ba := ⟨_, rfl⟩
      rw [hba] at hA1
      have HW1 := Lib.hid hW1
      have HA1 := Lib.hid hA1
      have Hst1 := Lib.hid (hst.out.ext hbW1)
      have Hlb : Hid (bt < ba) := by show _ < _; rw [← hba]; exact hst.out.t.lt
      have Hskip : Hid (Rr w (wr.alloc (.cells #[.int .i64 kx, .string key, .string val] ACT)) bt es p H) := by show Rr _ _ _ _ _ _; rw [hW1]; exact Hst1.out
      clear hacts hW1 hA1 hbW1 hst
      by_cases g2 : 100 < key.size
      · have d2 : decide (100 < (key.size : Int)) = true := decide_eq_true (by omega)
        have d2' : decide (100 < key.size) = true := decide_eq_true g2
        clear g2 hR
        go_wp2_with fail
        go_roundw
        case rel => exact ⟨i + 1, es, p, H, by go_num, by omega, by omega, by omega, Hskip⟩
        case measure => simp [intOf]; omega
      have d2 : decide (100 < (key.size : Int)) = false := decide_eq_false (by omega)
      have d2' : decide (100 < key.size) = false := decide_eq_false g2
      by_cases g3 : 3000 < val.size
      · have d3 : decide (3000 < (val.size : Int)) = true := decide_eq_true (by omega)
        have d3' : decide (3000 < val.size) = true := decide_eq_true g3
        clear g2 g3 hR
        go_wp2_with fail
        go_roundw
        case rel => exact ⟨i + 1, es, p, H, by go_num, by omega, by omega, by omega, Hskip⟩
        case measure => simp [intOf]; omega
      have d3 : decide (3000 < (val.size : Int)) = false := decide_eq_false (by omega)
      have d3' : decide (3000 < val.size) = false := decide_eq_false g3
      have Hk9 : Hid (key.size ≤ 100) := by show _ ≤ _; omega
      clear g2 g3 Hskip
      go_upto_block 2 with fail
      rw [HW1.out]
      go_cut [10, 11] (fun _ _ wx => ∃ (es2 : List En) (p2 : Option Addr) (H2 : Nat), es2.length ≤ 161 + i ∧ Hid (Rr w wx bt es2 p2 H2))
      case first =>
        by_cases c2 : R = 2
        · have dR : (R == 2) = true := by rw [beq_iff_eq]; exact c2
          clear c2
          have hcall := delete_all p es H key W1 Hst1.out.tr (by omega)
          have hln2 := tdL_le9 es key
          obtain ⟨es2, hes2⟩ : ∃ e, tdL es key = e := ⟨_, rfl⟩
          rw [hes2] at hcall hln2
          obtain ⟨DI, hDI⟩ : ∃ D, isE es key = D := ⟨_, rfl⟩
          rw [hDI] at hcall
          have Hcall := Lib.hid hcall
          have a0 := Hst1.out.t.c0
          have a1 := Hst1.out.t.c1
          have x1 : W1.cell? ⟨ba, 1, none⟩ = some (.string key) := by simp [World.cell?, HA1.out]
          clear hcall hes2 hDI
          go_wp2_with fail
          refine Hcall.out.mono ?_
          rintro e w4 ⟨p2, H2, rfl, ht2, hb4⟩
          have hst4 := Hst1.out.ext hb4
          have f0 := hst4.t.fz 0
          have f1 := hst4.t.fz 1
          have b0 := hst4.t.c0
          have b1 := hst4.t.c1
          have Hnx := Lib.hid (Hst1.out.next hb4 ht2)
          clear ht2 hb4 hst4 Hcall a0 a1 x1
          go_wp2_with fail
          go_meet
          exact ⟨es2, p2, H2, by omega, Hnx⟩
        have dR : (R == 2) = false := by rw [beq_eq_false_iff_ne]; exact c2
        by_cases c3 : R = 3
        · have dR3 : (R == 3) = true := by rw [beq_iff_eq]; exact c3
          clear c2 c3
          obtain ⟨X, hX⟩ : ∃ X, W1.drew = X := ⟨_, rfl⟩
          have hbx : Below W1.heap.size W1 X := by rw [← hX]; exact (Below.refl _ _).drew
          have HX := Lib.hid hX
          have HstX := Lib.hid (Hst1.out.ext hbx)
          have hAX : X.heap[ba]? = some (.cells #[.int .i64 kx, .string key, .string val] ACT (0, 0)) := (hbx.block _ (Array.getElem?_eq_some_iff.1 HA1.out).1).trans HA1.out
          have hne : ¬ ba = bt := by have := Hlb.out; omega
          have x1 : ∀ w', Turn (fun j => j = bt) X w' → w'.cell? ⟨ba, 1, none⟩ = some (.string key) := fun w' hx => by
            have h := hx.hg hAX hne
            simp [World.cell?, h]
          have Hof := Lib.hid (fun x => kof_any key x (by have := Hk9.out; omega))
          clear hX hbx hAX hne
          go_wp2_with fail
          refine wp_region_gs (F := fun j => j = bt) (.rd 1 (.rd 2 (.two 0 (.call 3 (.call 4 (.rd 5 (.rd 6 (.rd 7 (.call 8 .done)))))) 3 (.call 0 (.call 4 (.rd 5 (.rd 6 (.rd 7 (.call 8 .done))))))))) (by kernel_rfl) (by kernel_rfl) (by kernel_rfl) (by kernel_rfl) (fun _ _ _ _ _ h => h) ?_
          rw [HX.out]
          iterate 2 (refine wpGs_read (o := ⟨_, _, _, _, _, _⟩) (v := ?_) rfl (by rfl) ?_ ?_; rotate_left; (intro w' hw'; go_simp; with_reducible rfl); simp only [Act.put, List.setIfInBounds_toArray, List.set_cons_zero, List.set_cons_succ])
          clear x1
          refine ⟨?_, ?_⟩
          · have a0 := HstX.out.t.c0
            have a1 := HstX.out.t.c1
            refine stepS_call (o := ⟨_, _, _, _, _, _⟩) rfl (by rfl) (fun K hK => ?_)
            go_simp
            refine hK _ _ (Turn.refl _ _) ?_
            clear hK K a0 a1
            refine stepS_call (o := ⟨_, _, _, _, _, _⟩) rfl (by rfl) (fun K hK => ?_)
            go_simp
            refine (Hof.out X).mono ?_
            rintro e w3 ⟨rfl, hb3⟩
            refine hK _ _ (Turn.ofBelow hb3) ?_
            clear hK K
            have Hst3 := Lib.hid (HstX.out.ext hb3)
            clear hb3
            have hcall := remove_any p es H (ofS key) w3 Hst3.out.tr (by omega)
            have hln2 := in_out (ofS key) es
            obtain ⟨es2, hes2⟩ : ∃ e, outS (ofS key) es = e := ⟨_, rfl⟩
            obtain ⟨cn, hcn⟩ : ∃ c, (inS (ofS key) es).length = c := ⟨_, rfl⟩
            rw [hes2, hcn] at hcall hln2
            have Hcall := Lib.hid hcall
            clear hcall hes2 hcn
            refine stepS_call (o := ⟨_, _, _, _, _, _⟩) rfl (by rfl) (fun K hK => ?_)
            go_simp
            refine Hcall.out.mono ?_
            rintro e w4 ⟨p2, H2, rfl, ht2, hb4⟩
            refine hK _ _ (Turn.ofBelow hb4) ?_
            clear hK K Hcall
            have hst4 := Hst3.out.ext hb4
            have f0 := hst4.t.fz 0
            have f1 := hst4.t.fz 1
            have b0 := hst4.t.c0
            have b1 := hst4.t.c1
            have Hnx := Lib.hid (Hst3.out.next hb4 ht2)
            have Htp := Lib.hid (turn_put w4 bt (.pointer p2) (.int .i64 (es2.length : Int)))
            clear ht2 hb4 hst4 Hst3
            iterate 3 (refine wpGs_read (o := ⟨_, _, _, _, _, _⟩) (v := ?_) rfl (by rfl) ?_ ?_; rotate_left; (intro w' hw'; go_simp; with_reducible rfl); simp only [Act.put, List.setIfInBounds_toArray, List.set_cons_zero, List.set_cons_succ])
            refine stepS_call (o := ⟨_, _, _, _, _, _⟩) rfl (by rfl) (fun K hK => ?_)
            go_simp
            refine hK _ _ Htp.out ?_
            clear hK K Htp f0 f1 b0 b1
            refine wpGs_done ?_
            go_wp2_with fail
            go_meet
            exact ⟨es2, p2, H2, by omega, Hnx⟩
          · refine stepS_call (o := ⟨_, _, _, _, _, _⟩) rfl (by rfl) (fun K hK => ?_)
            go_simp
            refine (Hof.out X).mono ?_
            rintro e w3 ⟨rfl, hb3⟩
            refine hK _ _ (Turn.ofBelow hb3) ?_
            clear hK K
            have Hst3 := Lib.hid (HstX.out.ext hb3)
            clear hb3
            have a0 := Hst3.out.t.c0
            have a1 := Hst3.out.t.c1
            refine stepS_call (o := ⟨_, _, _, _, _, _⟩) rfl (by rfl) (fun K hK => ?_)
            go_simp
            refine hK _ _ (Turn.refl _ _) ?_
            clear hK K a0 a1
            have hcall := remove_any p es H (ofS key) w3 Hst3.out.tr (by omega)
            have hln2 := in_out (ofS key) es
            obtain ⟨es2, hes2⟩ : ∃ e, outS (ofS key) es = e := ⟨_, rfl⟩
            obtain ⟨cn, hcn⟩ : ∃ c, (inS (ofS key) es).length = c := ⟨_, rfl⟩
            rw [hes2, hcn] at hcall hln2
            have Hcall := Lib.hid hcall
            clear hcall hes2 hcn
            refine stepS_call (o := ⟨_, _, _, _, _, _⟩) rfl (by rfl) (fun K hK => ?_)
            go_simp
            refine Hcall.out.mono ?_
            rintro e w4 ⟨p2, H2, rfl, ht2, hb4⟩
            refine hK _ _ (Turn.ofBelow hb4) ?_
            clear hK K Hcall
            have hst4 := Hst3.out.ext hb4
            have f0 := hst4.t.fz 0
            have f1 := hst4.t.fz 1
            have b0 := hst4.t.c0
            have b1 := hst4.t.c1
            have Hnx := Lib.hid (Hst3.out.next hb4 ht2)
            have Htp := Lib.hid (turn_put w4 bt (.pointer p2) (.int .i64 (es2.length : Int)))
            clear ht2 hb4 hst4 Hst3
            iterate 3 (refine wpGs_read (o := ⟨_, _, _, _, _, _⟩) (v := ?_) rfl (by rfl) ?_ ?_; rotate_left; (intro w' hw'; go_simp; with_reducible rfl); simp only [Act.put, List.setIfInBounds_toArray, List.set_cons_zero, List.set_cons_succ])
            refine stepS_call (o := ⟨_, _, _, _, _, _⟩) rfl (by rfl) (fun K hK => ?_)
            go_simp
            refine hK _ _ Htp.out ?_
            clear hK K Htp f0 f1 b0 b1
            refine wpGs_done ?_
            go_wp2_with fail
            go_meet
            exact ⟨es2, p2, H2, by omega, Hnx⟩
        have dR3 : (R == 3) = false := by rw [beq_eq_false_iff_ne]; exact c3
        clear c2 c3
        by_cases hF0 : tpF es key val = 0
        · have hcall := put_all p es H key val W1 Hst1.out.tr (by omega)
          have hlen := tpL_len es key val
          obtain ⟨es2, hes2⟩ : ∃ es2, tpL es key val = es2 := ⟨_, rfl⟩
          obtain ⟨F, hF⟩ : ∃ F, tpF es key val = F := ⟨_, rfl⟩
          rw [hF, hes2] at hcall
          rw [hF] at hF0
          rw [hes2] at hlen
          subst hF0
          rw [show errC ((0 : Nat) : Int) = .nilIface from rfl] at hcall
          have Hcall := Lib.hid hcall
          have a0 := Hst1.out.t.c0
          have a1 := Hst1.out.t.c1
          have x1 : W1.cell? ⟨ba, 1, none⟩ = some (.string key) := by simp [World.cell?, HA1.out]
          have x2 : W1.cell? ⟨ba, 2, none⟩ = some (.string val) := by simp [World.cell?, HA1.out]
          clear hcall hes2 hF
          go_wp2_with fail
          refine Hcall.out.mono ?_
          rintro e w4 ⟨p2, H2, rfl, ht2, hb4⟩
          obtain ⟨W4, hW4, hT4, hbW4⟩ := alloc_own w4 TT #[.pointer p2, .int .i64 (es2.length : Int)]
          have hb14 := hb4.trans (hbW4.mono hb4.size)
          have hst4 := Hst1.out.ext hb14
          have HW4 := Lib.hid hW4
          have f0 := hst4.t.fz 0
          have f1 := hst4.t.fz 1
          have b0 := hst4.t.c0
          have b1 := hst4.t.c1
          have Hnx := Lib.hid (Hst1.out.next hb14 (ht2.ext hbW4))
          rw [← hW4] at f0 f1 b0 b1 Hnx
          clear ht2 hb4 hst4 Hcall a0 a1 x1 x2 hW4 hT4 hbW4 hb14
          go_wp2_with fail
          go_meet
          exact ⟨es2, p2, H2, by omega, Hnx⟩
        · have hcall := put_all p es H key val W1 Hst1.out.tr (by omega)
          have hlen := tpL_len es key val
          obtain ⟨es2, hes2⟩ : ∃ es2, tpL es key val = es2 := ⟨_, rfl⟩
          obtain ⟨F, hF⟩ : ∃ F, tpF es key val = F := ⟨_, rfl⟩
          rw [hF, hes2] at hcall
          rw [hF] at hF0
          rw [hes2] at hlen
          have hFi : ¬ ((F : Nat) : Int) = 0 := by omega
          rw [show errC ((F : Nat) : Int) = .iface 69 (.int .i64 ((F : Nat) : Int)) from if_neg hFi] at hcall
          have Hcall := Lib.hid hcall
          have a0 := Hst1.out.t.c0
          have a1 := Hst1.out.t.c1
          have x1 : W1.cell? ⟨ba, 1, none⟩ = some (.string key) := by simp [World.cell?, HA1.out]
          have x2 : W1.cell? ⟨ba, 2, none⟩ = some (.string val) := by simp [World.cell?, HA1.out]
          clear hcall hes2 hF hFi hF0
          go_wp2_with fail
          refine Hcall.out.mono ?_
          rintro e w4 ⟨p2, H2, rfl, ht2, hb4⟩
          obtain ⟨W4, hW4, hT4, hbW4⟩ := alloc_own w4 TT #[.pointer p2, .int .i64 (es2.length : Int)]
          have hb14 := hb4.trans (hbW4.mono hb4.size)
          have hst4 := Hst1.out.ext hb14
          have HW4 := Lib.hid hW4
          have Hnx := Lib.hid hst4
          rw [← hW4] at Hnx
          clear ht2 hb4 hst4 Hcall a0 a1 x1 x2 hW4 hT4 hbW4 hb14
          go_wp2_with fail
          go_meet
          exact ⟨es, p, H, by omega, Hnx⟩
      case rest =>
        obtain ⟨es2, p2, H2, hel2, hst2⟩ := hcut
        have hn9 : es2.length ≤ 4096 := by omega
        obtain ⟨n, hn⟩ : ∃ n, es2.length = n := ⟨_, rfl⟩
        have HN := Lib.hid hn
        have Hn9 := Lib.hid hn9
        have Hof := Lib.hid (shOf_any p2 es2 H2 wc hst2.out.tr hn9)
        have hok := hst2.out.tr.facts.2
        have hz9 := (szs_range hok).2
        have hp9 := pgs_le hok
        have hmt := most_tree hst2.out.tr hn9
        have hHi := hst2.out.tr.high
        have Hall := Lib.hid (fun x (hx : Below wc.heap.size wc x) => all_any p2 es2 H2 x (hst2.out.tr.ext hx) (by omega))
        have Hck := Lib.hid (fun x (hx : Below wc.heap.size wc x) => shCheck_any p2 es2 H2 x (hst2.out.tr.ext hx) hn9)
        have Hmo := Lib.hid (fun a c x (hx : ES entE x a es2) => shMost_any a n c es2 x HN.out hx (fun y hy => by have := hok y hy; have h3 := okK_size this.1; have h4 := this.2; omega) (by omega))
        rw [hmt.1] at Hmo
        rw [hn] at Hof Hall Hck hz9 hp9 hHi hn9
        have a0 := hst2.out.t.c0
        have a1 := hst2.out.t.c1
        rw [hn] at a1
        have Hmt := Lib.hid hmt
        clear hok hmt hn
        go_wp2_with fail
        refine Hof.out.mono ?_
        rintro e w2 ⟨L, B, rfl, hct, hb2⟩
        rw [HN.out]
        have hR9 := Hmt.out.2.1 L B hct
        have hM9 := Hmt.out.2.2
        have hLl := hct.2.2.2.1
        obtain ⟨S2, hS⟩ : ∃ S, szs es2 = S := ⟨_, rfl⟩
        obtain ⟨P, hP⟩ : ∃ P, pgs es2 = P := ⟨_, rfl⟩
        obtain ⟨M, hM⟩ : ∃ M, mosN es2 = M := ⟨_, rfl⟩
        rw [hS] at hz9 ⊢
        rw [hP] at hp9 hR9 ⊢
        rw [hM] at hM9 hR9 Hmo
        rw [HN.out] at hLl
        have hBL : (0 < L → B < L) ∧ (L = 0 → B = 0) := by
          obtain ⟨t1, t2, t3, t4, t5⟩ := hct
          rcases Nat.eq_zero_or_pos H2 with h0 | h0
          · have := t1 h0; omega
          · rcases Nat.lt_or_ge H2 2 with h6 | h6
            · have := t2 (by omega); omega
            · have := t3 h6; omega
        obtain ⟨W2, hW2, hF2, hbW2⟩ : ∃ W, w2.alloc (.cells #[.int .i64 (n : Int), .int .i64 (H2 : Int), .int .i64 (L : Int), .int .i64 (B : Int), .int .i64 (P : Int), .int .i64 (S2 : Int)] FAT) = W ∧ FB W w2.heap.size (n : Int) (H2 : Int) (L : Int) (B : Int) (P : Int) (S2 : Int) ∧ Below w2.heap.size w2 W := ⟨_, rfl, FB.new w2 _ _ _ _ _ _, (Below.refl _ _).alloc (Nat.le_refl _) _⟩
        obtain ⟨bf, hbf⟩ : ∃ bf, w2.heap.size = bf := ⟨_, rfl⟩
        rw [hbf] at hF2
        have hx2 := hb2.trans (hbW2.mono hb2.size)
        have HX2 := Lib.hid hx2
        have hT2 := hst2.out.t.ext hx2
        rw [HN.out] at hT2
        have HF2 := Lib.hid hF2
        have HW2 := Lib.hid hW2
        clear a0 a1
        have a0 := hT2.c0
        have a1 := hT2.c1
        rw [← hW2] at a0 a1
        have Hall2 := Lib.hid (Hall.out W2 hx2)
        have hH9 : H2 ≤ 5000 := by omega
        have hS9 : S2 ≤ 1000000 := by omega
        have hP9 : P ≤ 1000000 := by omega
        have hL9 : L ≤ 5000 := by omega
        have hB9 : B ≤ 2000000 := by omega
        have HBL := Lib.hid hBL
        have HR := Lib.hid hR9
        clear hW2 hT2 hF2 hbW2 hx2 hb2 hct hS hP hM Hall Hof hz9 hp9 hLl hHi hR9 Hmt hBL
        go_wp2_with fail
        rw [HW2.out]
        refine Hall2.out.mono ?_
        rintro e w3 ⟨v3, rfl, ⟨a3, c3, rfl, hs3, _⟩, hb3⟩
        rw [HN.out]
        have Hmo3 := Lib.hid (Hmo.out a3 c3 w3 hs3)
        have HX3 := Lib.hid (HX2.out.trans (hb3.mono HX2.out.size))
        have HF3 := Lib.hid (HF2.out.ext hb3)
        clear hb3 hs3 Hall2 a0 a1 HX2 HF2 HW2 Hmo
        go_wp2_with fail
        refine Hmo3.out.mono ?_
        rintro e w4 ⟨rfl, hb4⟩
        rw [show errC ((0 : Nat) : Int) = .nilIface from rfl]
        obtain ⟨X, hX⟩ : ∃ X, w4.drew = X := ⟨_, rfl⟩
        have hbx : Below w4.heap.size w4 X := by rw [← hX]; exact (Below.refl _ _).drew
        have hx4 := hb4.trans (hbx.mono hb4.size)
        have HX := Lib.hid hX
        have HX4 := Lib.hid (HX3.out.trans (hx4.mono HX3.out.size))
        have HF4 := Lib.hid (HF3.out.ext hx4)
        have HR4 := Lib.hid (hst2.out.ext HX4.out)
        have q0 : ∀ w', Ext X w' → w'.cell? ⟨bf, 0, none⟩ = some (.int .i64 (n : Int)) := fun w' hx => (HF4.out.ext hx).c0
        have q1 : ∀ w', Ext X w' → w'.cell? ⟨bf, 1, none⟩ = some (.int .i64 (H2 : Int)) := fun w' hx => (HF4.out.ext hx).c1
        have q2 : ∀ w', Ext X w' → w'.cell? ⟨bf, 2, none⟩ = some (.int .i64 (L : Int)) := fun w' hx => (HF4.out.ext hx).c2
        have q3 : ∀ w', Ext X w' → w'.cell? ⟨bf, 3, none⟩ = some (.int .i64 (B : Int)) := fun w' hx => (HF4.out.ext hx).c3
        have q4 : ∀ w', Ext X w' → w'.cell? ⟨bf, 4, none⟩ = some (.int .i64 (P : Int)) := fun w' hx => (HF4.out.ext hx).c4
        have q5 : ∀ w', Ext X w' → w'.cell? ⟨bf, 5, none⟩ = some (.int .i64 (S2 : Int)) := fun w' hx => (HF4.out.ext hx).c5
        have r0 : ∀ w', Ext X w' → w'.cell? ⟨bt, 0, none⟩ = some (.pointer p2) := fun w' hx => (HR4.out.t.ext hx).c0
        have r1 : ∀ w', Ext X w' → w'.cell? ⟨bt, 1, none⟩ = some (.int .i64 (n : Int)) := fun w' hx => by rw [← HN.out]; exact (HR4.out.t.ext hx).c1
        have Hck4 := Lib.hid (Hck.out X HX4.out)
        have Hlen := Lib.hid (fun x => len_any p2 (n : Int) x)
        obtain ⟨R2, hR2⟩ : ∃ R, R = L + B + P := ⟨_, rfl⟩
        have Hpg : Hid (∀ x, Calls Tryz.prog 14 #[.agg #[.int .i64 (n : Int), .int .i64 (H2 : Int), .int .i64 (L : Int), .int .i64 (B : Int), .int .i64 (P : Int), .int .i64 (S2 : Int)]] x fun e w' => e = .returned (.int .i64 (R2 : Int)) ∧ Below x.heap.size x w') := fun x => by
          have := pages_any (n : Int) (H2 : Int) (S2 : Int) L B P x (by omega)
          rw [← hR2] at this; exact this
        have dM : decide ((M : Int) < (R2 : Int)) = false := decide_eq_false (by have := HR.out; omega)
        have dM' : decide (M < R2) = false := decide_eq_false (by have := HR.out; omega)
        have dn : ((n : Int) != (n : Int)) = false := by simp
        by_cases hL0 : L = 0
        · have d5 : decide ((0 : Int) < (L : Int)) = false := decide_eq_false (by omega)
          have d5' : decide (0 < L) = false := decide_eq_false (by omega)
          have d6 : ((L : Int) == 0) = true := by rw [beq_iff_eq]; omega
          have d6' : (L == 0) = true := by rw [beq_iff_eq]; omega
          have d7 : decide ((0 : Int) < (B : Int)) = false := decide_eq_false (by have := HBL.out.2 hL0; omega)
          have d7' : decide (0 < B) = false := decide_eq_false (by have := HBL.out.2 hL0; omega)
          clear hL0 hX hbx hx4 hb4 HX3 HF3 Hmo3 Hck hR2 hst2
          go_wp2_with fail
          refine wp_region_gr [(0, true), (1, false), (2, true), (3, true), (4, true), (5, true), (6, true), (7, true), (8, true), (10, true), (9, false), (11, true), (12, true), (13, true), (14, true), (15, true), (16, true), (17, false), (18, true), (19, true), (20, true), (21, true), (22, true), (23, true), (24, true), (25, true), (26, true), (27, true), (28, true), (29, true), (30, true), (31, true), (32, true), (33, true), (34, true), (35, true), (36, true), (37, true), (38, true), (39, true), (40, true), (41, true)] (by kernel_rfl) (by kernel_rfl) (by kernel_rfl) (by kernel_rfl) (fun _ _ _ _ _ h => h) ?_
          rw [HX.out]
          iterate 1 (refine wpGr_read (o := ⟨_, _, _, _, _, _⟩) (v := ?_) rfl (by rfl) ?_ ?_; rotate_left; (intro w' hw'; go_simp; with_reducible rfl); simp only [Act.put, List.setIfInBounds_toArray, List.set_cons_zero, List.set_cons_succ])
          refine wpGr_call (o := ⟨_, _, _, _, _, _⟩) rfl (by rfl) (fun K hK => ?_)
          go_simp
          refine (Hck4.out).mono ?_
          rintro e w5 ⟨rfl, hb5⟩
          refine hK _ _ hb5 ?_
          clear hK K Hck4
          have HE5 : Hid (Ext X w5) := hb5
          replace q0 := fun w' (hx : Ext w5 w') => q0 w' (HE5.out.trans hx)
          replace q1 := fun w' (hx : Ext w5 w') => q1 w' (HE5.out.trans hx)
          replace q2 := fun w' (hx : Ext w5 w') => q2 w' (HE5.out.trans hx)
          replace q3 := fun w' (hx : Ext w5 w') => q3 w' (HE5.out.trans hx)
          replace q4 := fun w' (hx : Ext w5 w') => q4 w' (HE5.out.trans hx)
          replace q5 := fun w' (hx : Ext w5 w') => q5 w' (HE5.out.trans hx)
          replace r0 := fun w' (hx : Ext w5 w') => r0 w' (HE5.out.trans hx)
          replace r1 := fun w' (hx : Ext w5 w') => r1 w' (HE5.out.trans hx)
          clear hb5
          iterate 8 (refine wpGr_read (o := ⟨_, _, _, _, _, _⟩) (v := ?_) rfl (by rfl) ?_ ?_; rotate_left; (intro w' hw'; go_simp; with_reducible rfl); simp only [Act.put, List.setIfInBounds_toArray, List.set_cons_zero, List.set_cons_succ])
          refine wpGr_call (o := ⟨_, _, _, _, _, _⟩) rfl (by rfl) (fun K hK => ?_)
          go_simp
          refine (Hpg.out w5).mono ?_
          rintro e w6 ⟨rfl, hb6⟩
          refine hK _ _ hb6 ?_
          clear hK K Hpg
          have HE6 : Hid (Ext w5 w6) := hb6
          replace q0 := fun w' (hx : Ext w6 w') => q0 w' (HE6.out.trans hx)
          replace q2 := fun w' (hx : Ext w6 w') => q2 w' (HE6.out.trans hx)
          replace q3 := fun w' (hx : Ext w6 w') => q3 w' (HE6.out.trans hx)
          replace r0 := fun w' (hx : Ext w6 w') => r0 w' (HE6.out.trans hx)
          replace r1 := fun w' (hx : Ext w6 w') => r1 w' (HE6.out.trans hx)
          clear hb6 q1 q4 q5
          iterate 6 (refine wpGr_read (o := ⟨_, _, _, _, _, _⟩) (v := ?_) rfl (by rfl) ?_ ?_; rotate_left; (intro w' hw'; go_simp; with_reducible rfl); simp only [Act.put, List.setIfInBounds_toArray, List.set_cons_zero, List.set_cons_succ])
          refine wpGr_call (o := ⟨_, _, _, _, _, _⟩) rfl (by rfl) (fun K hK => ?_)
          go_simp
          refine (Hlen.out _).mono ?_
          rintro e w7 ⟨rfl, hb7⟩
          refine hK _ _ hb7 ?_
          clear hK K Hlen
          have HE7 : Hid (Ext w6 w7) := hb7
          replace q2 := fun w' (hx : Ext w7 w') => q2 w' (HE7.out.trans hx)
          replace q3 := fun w' (hx : Ext w7 w') => q3 w' (HE7.out.trans hx)
          clear hb7 q0 r0 r1
          iterate 24 (first | (refine wpGr_read (o := ⟨_, _, _, _, _, _⟩) (v := ?_) rfl (by rfl) ?_ ?_; rotate_left; (intro w' hw'; go_simp; with_reducible rfl); simp only [Act.put, List.setIfInBounds_toArray, List.set_cons_zero, List.set_cons_succ]) | (refine wpGr_skip (o := ⟨_, _, _, _, _, _⟩) rfl (by rfl) ?_; simp only [Act.put, List.setIfInBounds_toArray, List.set_cons_zero, List.set_cons_succ]))
          clear q2 q3
          refine wpGr_done ?_
          have HE : Hid (Rr w w7 bt es2 p2 H2) := HR4.out.ext (HE5.out.trans (HE6.out.trans HE7.out))
          go_wp2_with fail
          go_roundw
          case rel => exact ⟨i + 1, es2, p2, H2, by go_num, by omega, by omega, by omega, HE⟩
          case measure => simp [intOf]; omega
        · have d5 : decide ((0 : Int) < (L : Int)) = true := decide_eq_true (by omega)
          have d5' : decide (0 < L) = true := decide_eq_true (by omega)
          have d6 : ((L : Int) == 0) = false := by rw [beq_eq_false_iff_ne]; omega
          have d6' : (L == 0) = false := by rw [beq_eq_false_iff_ne]; omega
          have d7 : decide ((L : Int) ≤ (B : Int)) = false := decide_eq_false (by have := HBL.out.1 (by omega); omega)
          have d7' : decide (L ≤ B) = false := decide_eq_false (by have := HBL.out.1 (by omega); omega)
          clear hL0 hX hbx hx4 hb4 HX3 HF3 Hmo3 Hck hR2 hst2
          go_wp2_with fail
          refine wp_region_gr [(0, true), (1, false), (2, true), (3, true), (4, true), (5, true), (6, true), (7, true), (8, true), (10, true), (9, false), (11, true), (12, true), (13, true), (14, true), (15, true), (16, true), (17, false), (18, true), (19, true), (20, true), (21, true), (22, true), (23, true), (24, true), (25, true), (26, true), (27, true), (28, true), (29, true), (30, true), (31, true), (32, true), (33, true), (34, true), (35, true), (36, true), (37, true), (38, true), (39, true), (40, true), (41, true)] (by kernel_rfl) (by kernel_rfl) (by kernel_rfl) (by kernel_rfl) (fun _ _ _ _ _ h => h) ?_
          rw [HX.out]
          iterate 1 (refine wpGr_read (o := ⟨_, _, _, _, _, _⟩) (v := ?_) rfl (by rfl) ?_ ?_; rotate_left; (intro w' hw'; go_simp; with_reducible rfl); simp only [Act.put, List.setIfInBounds_toArray, List.set_cons_zero, List.set_cons_succ])
          refine wpGr_call (o := ⟨_, _, _, _, _, _⟩) rfl (by rfl) (fun K hK => ?_)
          go_simp
          refine (Hck4.out).mono ?_
          rintro e w5 ⟨rfl, hb5⟩
          refine hK _ _ hb5 ?_
          clear hK K Hck4
          have HE5 : Hid (Ext X w5) := hb5
          replace q0 := fun w' (hx : Ext w5 w') => q0 w' (HE5.out.trans hx)
          replace q1 := fun w' (hx : Ext w5 w') => q1 w' (HE5.out.trans hx)
          replace q2 := fun w' (hx : Ext w5 w') => q2 w' (HE5.out.trans hx)
          replace q3 := fun w' (hx : Ext w5 w') => q3 w' (HE5.out.trans hx)
          replace q4 := fun w' (hx : Ext w5 w') => q4 w' (HE5.out.trans hx)
          replace q5 := fun w' (hx : Ext w5 w') => q5 w' (HE5.out.trans hx)
          replace r0 := fun w' (hx : Ext w5 w') => r0 w' (HE5.out.trans hx)
          replace r1 := fun w' (hx : Ext w5 w') => r1 w' (HE5.out.trans hx)
          clear hb5
          iterate 8 (refine wpGr_read (o := ⟨_, _, _, _, _, _⟩) (v := ?_) rfl (by rfl) ?_ ?_; rotate_left; (intro w' hw'; go_simp; with_reducible rfl); simp only [Act.put, List.setIfInBounds_toArray, List.set_cons_zero, List.set_cons_succ])
          refine wpGr_call (o := ⟨_, _, _, _, _, _⟩) rfl (by rfl) (fun K hK => ?_)
          go_simp
          refine (Hpg.out w5).mono ?_
          rintro e w6 ⟨rfl, hb6⟩
          refine hK _ _ hb6 ?_
          clear hK K Hpg
          have HE6 : Hid (Ext w5 w6) := hb6
          replace q0 := fun w' (hx : Ext w6 w') => q0 w' (HE6.out.trans hx)
          replace q2 := fun w' (hx : Ext w6 w') => q2 w' (HE6.out.trans hx)
          replace q3 := fun w' (hx : Ext w6 w') => q3 w' (HE6.out.trans hx)
          replace r0 := fun w' (hx : Ext w6 w') => r0 w' (HE6.out.trans hx)
          replace r1 := fun w' (hx : Ext w6 w') => r1 w' (HE6.out.trans hx)
          clear hb6 q1 q4 q5
          iterate 6 (refine wpGr_read (o := ⟨_, _, _, _, _, _⟩) (v := ?_) rfl (by rfl) ?_ ?_; rotate_left; (intro w' hw'; go_simp; with_reducible rfl); simp only [Act.put, List.setIfInBounds_toArray, List.set_cons_zero, List.set_cons_succ])
          refine wpGr_call (o := ⟨_, _, _, _, _, _⟩) rfl (by rfl) (fun K hK => ?_)
          go_simp
          refine (Hlen.out _).mono ?_
          rintro e w7 ⟨rfl, hb7⟩
          refine hK _ _ hb7 ?_
          clear hK K Hlen
          have HE7 : Hid (Ext w6 w7) := hb7
          replace q2 := fun w' (hx : Ext w7 w') => q2 w' (HE7.out.trans hx)
          replace q3 := fun w' (hx : Ext w7 w') => q3 w' (HE7.out.trans hx)
          clear hb7 q0 r0 r1
          iterate 24 (first | (refine wpGr_read (o := ⟨_, _, _, _, _, _⟩) (v := ?_) rfl (by rfl) ?_ ?_; rotate_left; (intro w' hw'; go_simp; with_reducible rfl); simp only [Act.put, List.setIfInBounds_toArray, List.set_cons_zero, List.set_cons_succ]) | (refine wpGr_skip (o := ⟨_, _, _, _, _, _⟩) rfl (by rfl) ?_; simp only [Act.put, List.setIfInBounds_toArray, List.set_cons_zero, List.set_cons_succ]))
          clear q2 q3
          refine wpGr_done ?_
          have HE : Hid (Rr w w7 bt es2 p2 H2) := HR4.out.ext (HE5.out.trans (HE6.out.trans HE7.out))
          go_wp2_with fail
          go_roundw
          case rel => exact ⟨i + 1, es2, p2, H2, by go_num, by omega, by omega, by omega, HE⟩
          case measure => simp [intOf]; omega
    · rcases Nat.lt_or_ge i m with hl1 | hl1
      · have hIl : (i : Int) < (m : Int) := by omega
        have i2 : ¬ (i : Int) < 60 := by omega
        have Hs := Lib.hid (Hsu.out wr hst.out.b)
        have HBr := Lib.hid hst.out.b
        clear hlt hst
        go_wp2_with fail
        refine Hs.out.mono ?_
        rintro e w7 ⟨rfl, hb7⟩
        have HB7 := Lib.hid (HBr.out.trans (hb7.mono HBr.out.size))
        clear hb7 Hs
        go_wp2
        go_ret
        exact ⟨rfl, HB7.out⟩
      · have hIl : ¬ (i : Int) < (m : Int) := by omega
        have Hs := Lib.hid (Hsu.out wr hst.out.b)
        have HBr := Lib.hid hst.out.b
        clear hlt hst
        go_wp2_with fail
        refine Hs.out.mono ?_
        rintro e w7 ⟨rfl, hb7⟩
        have HB7 := Lib.hid (HBr.out.trans (hb7.mono HBr.out.size))
        clear hb7 Hs
        go_wp2
        go_ret
        exact ⟨rfl, HB7.out⟩
end Go.Proofs.YtbgkjniagedcnaaGreatDoor
