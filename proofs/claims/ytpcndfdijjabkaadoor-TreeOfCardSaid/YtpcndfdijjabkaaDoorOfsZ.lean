/-
  The document's Of.
-/
import Derived.Test.YtpcndfdijjabkaaDoorGrownZ
namespace Go.Proofs.YtpcndfdijjabkaaDoor
open Go Go.RowKit

set_option maxHeartbeats 1000000 in
set_option maxRecDepth 100000 in
theorem refOf_any (a : Option Addr) (n c : Nat) (es : List En) (w : World) (hn : es.length = n) (hs : 0 < n → ES entA w a es) (hl : n ≤ 4096) :
    Calls Tryd.prog 20 #[.slice a n c] w fun e w' => ∃ u, e = .returned (.tuple #[u, .int .i64 ((ofT [] es).2 : Nat)]) ∧ EV entE w' u (ofT [] es).1 ∧ Below w.heap.size w w' := by
  have Hn := Lib.hid hn
  have Hs := Lib.hid hs
  obtain ⟨RES, hRES⟩ : ∃ R, ofT [] es = R := ⟨_, rfl⟩
  have HR : Hid (ofT [] (es.drop 0) = RES) := by show _ = _; rw [List.drop_zero]; exact hRES
  rw [hRES]
  clear hRES hn hs
  go_enter Tryd.func20, Tryd.ntmps20
  go_wp2_with fail
  go_loopw [4, 5, 6, 7] (fun vv iv _ _ wr => ∃ (k : Nat) (acc : List En) (v : Value), v = vv ∧ iv = .int .i64 k ∧ k ≤ n ∧ acc.length ≤ k ∧ Hid (ofT acc (es.drop k) = RES) ∧ Hid (EV entE wr v acc) ∧ Hid (Below w.heap.size w wr)) (fun _ iv _ _ _ => n - (intOf iv).toNat)
  case atStart => exact ⟨0, [], _, rfl, rfl, by omega, by simp, HR, EV.none _, Below.refl _ _⟩
  case round =>
    obtain ⟨k, acc, v, rfl, rfl, hk, hak, hR, hev, hB⟩ := hrel
    by_cases hlt : k < n
    · obtain ⟨W6, hW6⟩ : ∃ W, wr.drew = W := ⟨_, rfl⟩
      have hbd : Below wr.heap.size wr W6 := by rw [← hW6]; exact (Below.refl _ _).drew
      have hb6 := hB.out.trans (hbd.mono hB.out.size)
      have hsk := (Hs.out (by omega)).below hb6 (Nat.le_refl _)
      obtain ⟨g, o, rfl, hc⟩ := hsk.entsA (by rw [Hn.out]; omega)
      obtain ⟨p0, p1⟩ := hc k (by rw [Hn.out]; exact hlt)
      have i1 : (0 : Int) ≤ (k : Int) := by omega
      have i2 : (k : Int) < (n : Int) := by omega
      have zk : IntKind.i64.wrap (k : Int) = (k : Int) := by rw [IntKind.wrap_i64]; omega
      have hgo := ofT_go (acc := acc) (es := es) (k := k) (by rw [Hn.out]; exact hlt)
      have hno := ofT_no (acc := acc) (es := es) (k := k) (by rw [Hn.out]; exact hlt)
      rw [hR.out] at hgo hno
      generalize ea es k = y at *
      obtain ⟨key, val⟩ := y
      dsimp only at p0 p1 hgo hno
      obtain ⟨a0, c0, hv, hsv, hzv, hcv, hmv⟩ := hev.out.ext hbd
      have q0 : ∀ w', Ext W6 w' → w'.cell? ⟨g, o + k * 2, none⟩ = some (.string key) := fun w' hx => by rw [hx.cell (p := ⟨g, o + k * 2, none⟩) (block_lt_of_cell p0)]; exact p0
      have q1 : ∀ w', Ext W6 w' → w'.cell? ⟨g, o + k * 2 + 1, none⟩ = some (.string val) := fun w' hx => by rw [hx.cell (p := ⟨g, o + k * 2 + 1, none⟩) (block_lt_of_cell p1)]; exact p1
      have hcall := refPut_all a0 acc.length c0 acc key val W6 rfl hsv (by omega) hzv hcv hmv
      have hlen := tpL_len acc key val
      obtain ⟨acc2, hacc2⟩ : ∃ x, tpL acc key val = x := ⟨_, rfl⟩
      obtain ⟨F, hF⟩ : ∃ F, tpF acc key val = F := ⟨_, rfl⟩
      rw [hacc2, hF] at hcall
      rw [hacc2] at hlen hgo
      rw [hF] at hgo hno
      subst hv
      have HW6 := Lib.hid hW6
      have HB6 := Lib.hid hb6
      have hak2 : acc2.length ≤ k + 1 := by omega
      have Hno := Lib.hid hno
      have Hgo := Lib.hid hgo
      have Hcall := Lib.hid hcall
      have HF : Hid (((F : Int) != 0) = decide (F ≠ 0)) := by
        show _ = _
        rw [Bool.eq_iff_iff, bne_iff_ne, decide_eq_true_eq]
        omega
      clear hcall hgo hno hsk hc hacc2 hF hev hR hsv hzv hcv hmv hbd hb6 hW6 hlen p0 p1 hB
      go_wp2_with fail
      refine wp_region_gr [(0, true), (1, true), (2, true), (3, true), (4, true), (5, true), (6, true), (7, true), (8, true), (9, true), (10, true), (11, false), (12, true), (13, true), (14, true), (15, true), (16, true)] (by kernel_rfl) (by kernel_rfl) (by kernel_rfl) (by kernel_rfl) (fun _ _ _ _ _ h => h) ?_
      rw [HW6.out]
      iterate 11 (refine wpGr_read (o := ⟨_, _, _, _, _, _⟩) (v := ?_) rfl (by rfl) ?_ ?_; rotate_left; (intro w' hw'; go_simp; with_reducible rfl); simp only [Act.put, List.setIfInBounds_toArray, List.set_cons_zero, List.set_cons_succ])
      clear q0 q1
      refine wpGr_call (o := ⟨_, _, _, _, _, _⟩) rfl (by rfl) (fun K hK => ?_)
      go_simp
      refine Hcall.out.mono ?_
      rintro e w2 ⟨u, rfl, hev, hb2⟩
      refine hK _ _ hb2 ?_
      clear hK K Hcall
      have Hev := Lib.hid hev
      have HB2 := Lib.hid (HB6.out.trans (hb2.mono HB6.out.size))
      clear hev hb2
      iterate 5 (refine wpGr_read (o := ⟨_, _, _, _, _, _⟩) (v := ?_) rfl (by rfl) ?_ ?_; rotate_left; (intro w' hw'; go_simp; with_reducible rfl); simp only [Act.put, List.setIfInBounds_toArray, List.set_cons_zero, List.set_cons_succ])
      refine wpGr_done ?_
      by_cases hF0 : F = 0
      · have dF : ((F : Int) != 0) = false := by rw [HF.out]; simp [hF0]
        have hR2 := Lib.hid (Hgo.out hF0).symm
        clear hF0
        go_wp2_with fail
        go_roundw
        case rel => exact ⟨k + 1, acc2, u, rfl, by go_num, by omega, hak2, hR2, Hev, HB2⟩
        case measure => simp [intOf]; omega
      · have dF : ((F : Int) != 0) = true := by rw [HF.out]; simp [hF0]
        have HRE := Lib.hid (Hno.out hF0)
        clear hF0
        go_wp2
        go_ret2
        exact ⟨_, by rw [HRE.out]; rfl, by rw [HRE.out]; exact EV.none _, HB2.out⟩
    · obtain rfl : k = n := by omega
      have hend := ofT_end acc es k Hn.out
      rw [hR.out] at hend
      have HRE := Lib.hid hend
      clear hend hR
      go_wp2
      go_ret2
      exact ⟨v, by rw [HRE.out]; rfl, by rw [HRE.out]; exact hev.out, hB.out⟩
end Go.Proofs.YtpcndfdijjabkaaDoor
