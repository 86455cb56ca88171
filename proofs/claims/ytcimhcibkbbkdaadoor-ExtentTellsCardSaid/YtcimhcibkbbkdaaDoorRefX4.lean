/-
  The document's Reserve (mkres.py).
-/
import Derived.Test.YtcimhcibkbbkdaaDoorRefX2
import Derived.Test.YtcimhcibkbbkdaaDoorExtMath2
import Derived.Test.YtcimhcibkbbkdaaDoorAppX
import Derived.Deep.DeepCutAuto
import Derived.Lib.MinMax
namespace Go.Proofs.YtcimhcibkbbkdaaDoor
open Go Go.RowKit

/-- In order, one by one. -/
def xascTo (l : List Xt) (k : Nat) : Prop := ∀ j, j + 1 < k → (xt l j).f ≤ (xt l (j + 1)).f
theorem xasc_of_to : ∀ l : List Xt, xascTo l l.length → XAsc l
  | [], _ => List.Pairwise.nil
  | [x], _ => List.pairwise_singleton _ _
  | x :: y :: r, h => by
    have ih := xasc_of_to (y :: r) (fun j hj => h (j + 1) (by simp at hj ⊢; omega))
    have h0 : x.f ≤ y.f := h 0 (by simp)
    refine List.pairwise_cons.2 ⟨fun z hz => ?_, ih⟩
    rcases List.mem_cons.1 hz with e | hz
    · rw [e]; exact h0
    · have := (List.pairwise_cons.1 ih).1 z hz; omega
theorem xasc_to {l : List Xt} (h : XAsc l) (j : Nat) (hj : j + 1 < l.length) : (xt l j).f ≤ (xt l (j + 1)).f := by
  rw [XAsc, List.pairwise_iff_getElem] at h
  have := h j (j + 1) (by omega) hj (by omega)
  simpa [xt, List.getD, hj, show j < l.length by omega] using this
set_option maxRecDepth 100000 in
set_option maxHeartbeats 4000000 in
theorem xreserveR_any (a : Option Addr) (n c : Nat) (l : List Xt) (N0 : Int) (w : World) (hn : l.length = n) (hs : XS w a l) (hl : n ≤ 9223372036854775807) (hr : ∀ x ∈ l, XOK x) (hN9 : N0 ≤ 9223372036854775807) :
    Calls Tryd.prog 15 #[.slice a n c, .int .i64 N0] w fun e w' => ∃ u1 u2 E, e = .returned (.tuple #[u1, u2, E]) ∧ E = .int .i64 (xrsE l N0) ∧ EV xtE w' u1 (xrsA l N0) ∧ EV xtE w' u2 (xrsB l N0) ∧ Below w.heap.size w w' := by
  have H1 := Lib.hid (xmayR_any a n c l 1024 w hn hs hl hr)
  have hok : Hid (xrsOk l N0 = false → xrsE l N0 = 1 ∧ xrsA l N0 = [] ∧ xrsB l N0 = []) := fun h => by unfold xrsE xrsA xrsB; rw [h]; exact ⟨rfl, rfl, rfl⟩
  have hfull : Hid (xrsOk l N0 = true → xrsFull l N0 = true → xrsE l N0 = 7 ∧ xrsA l N0 = [] ∧ xrsB l N0 = []) := fun h h2 => by unfold xrsE xrsA xrsB; rw [h, h2]; exact ⟨rfl, rfl, rfl⟩
  have hnot : Hid (xrsOk l N0 = true → xrsFull l N0 = false → xrsE l N0 = 0 ∧ xrsA l N0 = xrsT N0 l ∧ xrsB l N0 = xrsL N0 l) := fun h h2 => by unfold xrsE xrsA xrsB; rw [h, h2]; exact ⟨rfl, rfl, rfl⟩
  have Hs := Lib.hid hs
  have Hn := Lib.hid hn
  clear hr hs hn
  by_cases hb : xmayB l 1024 = true
  · rw [hb] at H1
    have hM := Lib.hid ((xmayB_iff _ _).1 hb)
    have hn2 : n ≤ 1024 := by rw [← Hn.out]; exact hM.out.len
    have hokE : Hid (xrsOk l N0 = (xascB l && decide (1 ≤ N0))) := by show _ = _; unfold xrsOk; rw [hb]; simp
    clear hb
    by_cases h1 : N0 < 1
    · have d1 : decide (N0 < 1) = true := decide_eq_true h1
      have hfl := Lib.hid (hok.out (by rw [hokE.out, decide_eq_false (show ¬ 1 ≤ N0 by omega), Bool.and_false]))
      clear hok hfull hnot hokE
      go_enter Tryd.func15, Tryd.ntmps15
      go_wp2_with fail
      refine H1.out.mono ?_
      rintro e w1 ⟨rfl, hb1⟩
      have Hb1 := Lib.hid hb1
      clear hb1 H1
      go_wp2
      go_ret3
      exact ⟨_, _, _, rfl, by rw [hfl.out.1]; rfl, by rw [hfl.out.2.1]; exact EV.none _, by rw [hfl.out.2.2]; exact EV.none _, Hb1.out⟩
    · have d1 : decide (N0 < 1) = false := decide_eq_false h1
      have hk := hokE.out
      rw [decide_eq_true (show 1 ≤ N0 by omega), Bool.and_true] at hk
      have hkk := Lib.hid hk
      clear hokE hk
      go_enter Tryd.func15, Tryd.ntmps15
      go_wp2_with fail
      refine H1.out.mono ?_
      rintro e w1 ⟨rfl, hb1⟩
      have Hb1 := Lib.hid hb1
      clear hb1 H1
      go_wp2_with fail
      go_loopw [7] (fun i wr => ∃ k : Nat, i = .int .i64 k ∧ 1 ≤ k ∧ (k ≤ n ∨ k = 1) ∧ Hid (xascTo l k) ∧ Hid (Below w.heap.size w wr)) (fun i _ => n - (intOf i).toNat)
      case atStart => exact ⟨1, rfl, by omega, .inr rfl, fun j hj => by omega, Hb1.out⟩
      case round =>
        obtain ⟨w3, hw3⟩ : ∃ w3, w3 = wr := ⟨_, rfl⟩
        subst hw3
        obtain ⟨k, rfl, hk1, hkn, ht, HbW⟩ := hrel
        clear Hb1
        by_cases hlt : k < n
        · obtain ⟨j, rfl⟩ : ∃ j, k = j + 1 := ⟨k - 1, by omega⟩
          obtain ⟨g, o, rfl, hcell⟩ := (Hs.out.below HbW.out (Nat.le_refl _)).xts (by rw [Hn.out]; omega)
          obtain ⟨p0, _⟩ := hcell (j + 1) (by rw [Hn.out]; exact hlt)
          obtain ⟨p1, _⟩ := hcell j (by rw [Hn.out]; omega)
          have up : ∀ (g o : Nat) (x : Value), w3.cell? ⟨g, o, none⟩ = some x → ∀ w', Ext w3.drew w' → w'.cell? ⟨g, o, none⟩ = some x := fun g o x h w' hw => by
            rw [((Below.refl w3.heap.size w3).drew.trans hw).cell (p := ⟨g, o, none⟩) (block_lt_of_cell h)]; exact h
          have q1 := up _ _ _ p0
          have q2 := up _ _ _ p1
          have hyes : Hid ((xt l j).f ≤ (xt l (j + 1)).f → xascTo l (j + 1 + 1)) := fun h i hi => by
            rcases Nat.lt_or_ge i j with h1 | h1
            · exact ht.out i (by omega)
            · obtain rfl : i = j := by omega
              exact h
          have hno : Hid (¬ (xt l j).f ≤ (xt l (j + 1)).f → xascB l = false) := fun h => by
            cases hx : xascB l
            · rfl
            · exact absurd (xasc_to ((xascB_iff l).1 hx) j (by rw [Hn.out]; exact hlt)) h
          generalize (xt l (j + 1)).f = A at *
          generalize (xt l j).f = C at *
          have i1 : (0 : Int) ≤ (j : Int) + 1 := by omega
          have i2 : (j : Int) + 1 < (n : Int) := by omega
          have i3 : (j : Int) < (n : Int) := by omega
          have i4 : IntKind.i64.wrap (j : Int) = (j : Int) := by rw [IntKind.wrap_i64]; omega
          have hB2 : Hid (Below w.heap.size w w3.drew) := HbW.out.drew
          clear hcell p0 p1 up
          go_wp2_with fail
          refine wp_region_gr [(0, true), (1, true), (2, true), (3, true), (4, true), (5, true), (6, true), (7, true), (8, true), (9, true), (10, true), (11, true)] (by kernel_rfl) (by kernel_rfl) (by kernel_rfl) (by kernel_rfl) (fun _ _ _ _ _ h => h) ?_
          iterate 12 (refine wpGr_read (o := ⟨_, _, _, _, _, _⟩) (v := ?_) rfl (by rfl) ?_ ?_; rotate_left; (intro w' hw'; go_simp; with_reducible rfl); simp only [Act.put, List.setIfInBounds_toArray, List.set_cons_zero, List.set_cons_succ])
          refine wpGr_done ?_
          clear q1 q2 HbW ht
          by_cases h2 : A < C
          · have d2 : decide (A < C) = true := decide_eq_true h2
            have hfl := Lib.hid (hok.out (by rw [hkk.out]; exact hno.out (by omega)))
            clear hok hfull hnot hno hyes
            go_wp2_with fail
            go_ret3
            exact ⟨_, _, _, rfl, by rw [hfl.out.1]; rfl, by rw [hfl.out.2.1]; exact EV.none _, by rw [hfl.out.2.2]; exact EV.none _, hB2.out⟩
          · have d2 : decide (A < C) = false := decide_eq_false h2
            have hy := Lib.hid (hyes.out (by omega))
            clear hno hyes
            go_wp2_with fail
            go_roundw
            case rel => exact ⟨j + 1 + 1, by go_num, by omega, .inl (by omega), hy, hB2⟩
            case measure => simp [intOf]; omega
        · have hasc : xascB l = true := (xascB_iff l).2 (xasc_of_to l (by
            rcases hkn with h | h
            · obtain rfl : k = n := by omega
              rw [Hn.out]; exact ht.out
            · intro j hj; rw [Hn.out] at hj; omega))
          replace hfull := Lib.hid (hfull.out (by rw [hkk.out]; exact hasc))
          replace hnot := Lib.hid (hnot.out (by rw [hkk.out]; exact hasc))
          have i9 : ¬ (k : Int) < (n : Int) := by omega
          clear hok hkk hasc ht hkn
          go_wp2_with fail
          go_loopw [1, 8, 9, 10] (fun nv tv lv i wr => ∃ (k : Nat) (N : Int) (v1 v2 : Value) (T L : List Xt), nv = .int .i64 N ∧ v1 = tv ∧ v2 = lv ∧ i = .int .i64 k ∧ k ≤ n ∧ 0 ≤ N ∧ N ≤ 9223372036854775807 ∧ T.length ≤ k ∧ L.length ≤ k ∧ Hid (T ++ xrsT N (l.drop k) = xrsT N0 l ∧ L ++ xrsL N (l.drop k) = xrsL N0 l ∧ xrsM N (l.drop k) = xrsM N0 l) ∧ Hid (XTwo wr w3.heap.size RXT v1 T v2 L) ∧ Hid (Below w3.heap.size w3 wr)) (fun _ _ _ i _ => n - (intOf i).toNat)
          case atStart => exact ⟨0, N0, xnil, xnil, [], [], rfl, rfl, rfl, rfl, by omega, by omega, hN9, by simp, by simp, ⟨by rw [List.drop_zero, List.nil_append], by rw [List.drop_zero, List.nil_append], by rw [List.drop_zero]⟩, XTwo.nil _ _ _, Below.refl _ _⟩
          case round =>
            obtain ⟨k, N, v1, v2, T, L, rfl, rfl, rfl, rfl, hk, hN0, hN9, hT, hL, hR, hown, hB⟩ := hrel
            by_cases hlt : k < n
            · have hkm : k < l.length := by rw [Hn.out]; exact hlt
              obtain ⟨g, o, rfl, hcell⟩ := ((Hs.out.below HbW.out (Nat.le_refl _)).below hB.out (Nat.le_refl _)).xts (by omega)
              obtain ⟨q0, q1⟩ := hcell k hkm
              have hx := hM.out.ins (xt l k) (xt_mem l k hkm)
              obtain ⟨hR1, hR2, hR3⟩ := hR.out
              rw [xt_drop l k hkm] at hR1 hR2 hR3
              rw [xrsT] at hR1
              rw [xrsL] at hR2
              rw [xrsM] at hR3
              generalize xt l k = y at *
              obtain ⟨F, M⟩ := y
              obtain ⟨f1, f2, f3⟩ := hx
              dsimp only at q0 q1 f1 f2 f3 hR1 hR2 hR3
              obtain ⟨W, hW⟩ : ∃ W, wr.alloc (.cells #[.int .i64 F, .int .i64 M] RXT) = W := ⟨_, rfl⟩
              have HW := Lib.hid hW
              have hxb : Hid (XB W wr.heap.size F M) := by rw [← hW]; exact xb_new wr RXT F M
              have hBW : Hid (Below w3.heap.size w3 W) := by rw [← hW]; exact hB.out.alloc hB.out.size _
              have hoW : Hid (XTwo W w3.heap.size RXT v1 T v2 L) := by rw [← hW]; exact hown.out.alloc _
              have hlt1 : Hid (∀ k, v1.ownBlock = some k → k < wr.heap.size) := fun k h => (hown.out.o1.lt k h).2
              have hlt2 : Hid (∀ k, v2.ownBlock = some k → k < wr.heap.size) := fun k h => (hown.out.o2.lt k h).2
              have hWs : Hid (wr.heap.size < W.heap.size) := by show wr.heap.size < W.heap.size; rw [← hW]; simp
              obtain ⟨S, hS⟩ : ∃ S, wr.heap.size = S := ⟨_, rfl⟩
              have HS := Lib.hid hS
              rw [hS] at hxb hWs hlt1 hlt2
              obtain ⟨Q, hQ⟩ : ∃ Q, min N M = Q := ⟨_, rfl⟩
              rw [hQ] at hR1 hR2 hR3
              have hQ2 : (if M < N then M else N) = Q := by rw [← hQ]; split <;> omega
              have hQ9 : 0 ≤ Q ∧ Q ≤ N ∧ Q ≤ M ∧ (Q = N ∨ Q = M) := by omega
              obtain ⟨Z, hZ⟩ : ∃ Z, N - Q = Z := ⟨_, rfl⟩
              have wZ : IntKind.i64.wrap (N - Q) = Z := by rw [IntKind.wrap_i64]; omega
              have hZ9 : 0 ≤ Z ∧ Z ≤ 9223372036854775807 := by omega
              rw [hZ] at hR1 hR2 hR3
              have HR3 := Lib.hid hR3
              clear hcell hW hB hown hR hS hR3 hZ hkm
              go_upto_region 13 with fail
              rw [HW.out, HS.out]
              clear HW HS q0 q1
              obtain ⟨c0, c1⟩ := hxb.out
              by_cases h1 : 0 < Q
              · have d1 : decide (0 < Q) = true := decide_eq_true h1
                rw [if_pos h1] at hR1
                obtain ⟨v5, w5, hrun5, hb5, ho5, hk5⟩ := xapp_two (W := W) SRXT SRXT RXT Tryd.underlying22 xinfoR ⟨F, Q⟩ hoW.out hBW.out.size (by omega)
                have hxb5 : Hid (XB w5 S F M) := hxb.out.to (hk5 _ hWs.out (fun e => by have := hlt1.out _ e; omega))
                have hB5 : Hid (Below w3.heap.size w3 w5) := hBW.out.trans hb5
                have hS5 : Hid (S < w5.heap.size) := by show S < w5.heap.size; have := hWs.out; have := hb5.size; omega
                have ho5' := Lib.hid ho5
                have hR15 : Hid ((T ++ [⟨F, Q⟩]) ++ xrsT Z (l.drop (k + 1)) = xrsT N0 l) := by show _ = _; rw [List.append_assoc]; exact hR1
                have hTl : (T ++ [(⟨F, Q⟩ : Xt)]).length ≤ k + 1 := by simp; omega
                clear hb5 ho5 hk5 hR1 hoW hBW hlt1
                dsimp only at hrun5
                by_cases h2 : Q < M
                · have d2 : decide (Q < M) = true := decide_eq_true h2
                  rw [if_pos h2] at hR2
                  obtain ⟨Y, hY⟩ : ∃ Y, F + Q = Y := ⟨_, rfl⟩
                  obtain ⟨X, hX⟩ : ∃ X, M - Q = X := ⟨_, rfl⟩
                  have wY : IntKind.i64.wrap (F + Q) = Y := by rw [IntKind.wrap_i64]; omega
                  have wX : IntKind.i64.wrap (M - Q) = X := by rw [IntKind.wrap_i64]; omega
                  rw [hY, hX] at hR2
                  obtain ⟨v6, w6, hrun6, hb6, ho6, _⟩ := xapp_two (W := w5) SRXT SRXT RXT Tryd.underlying22 xinfoR ⟨Y, X⟩ ho5'.out.swap hB5.out.size (by omega)
                  have hB6 : Hid (Below w3.heap.size w3 w6) := hB5.out.trans hb6
                  have ho6' := Lib.hid ho6.swap
                  have hR25 : Hid ((L ++ [⟨Y, X⟩]) ++ xrsL Z (l.drop (k + 1)) = xrsL N0 l) := by show _ = _; rw [List.append_assoc]; exact hR2
                  have hLl : (L ++ [(⟨Y, X⟩ : Xt)]).length ≤ k + 1 := by simp; omega
                  clear hb6 ho6 hR2 hB5 ho5' hY hX
                  dsimp only at hrun6
                  obtain ⟨z0, z1⟩ := hxb5.out
                  go_wp2_with (at_builtin; first | refine Lib.wpList_append_run _ rfl (.tmp 54) (.tmp 59) _ _ rfl _ _ (by rfl) (by rfl) _ _ hrun5 ?_ | refine Lib.wpList_append_run _ rfl (.tmp 65) (.tmp 75) _ _ rfl _ _ (by rfl) (by rfl) _ _ hrun6 ?_)
                  go_roundw
                  case rel => exact ⟨k + 1, Z, v5, v6, _, _, rfl, rfl, rfl, by go_num, by omega, hZ9.1, hZ9.2, hTl, hLl, ⟨hR15.out, hR25.out, HR3.out⟩, ho6'.out, hB6.out⟩
                  case measure => simp [intOf]; omega
                · have d2 : decide (Q < M) = false := decide_eq_false h2
                  rw [if_neg h2, List.nil_append] at hR2
                  have hR25 := Lib.hid hR2
                  have hLl : L.length ≤ k + 1 := by omega
                  clear hR2
                  obtain ⟨z0, z1⟩ := hxb5.out
                  go_wp2_with (at_builtin; refine Lib.wpList_append_run _ rfl (.tmp 54) (.tmp 59) _ _ rfl _ _ (by rfl) (by rfl) _ _ hrun5 ?_)
                  go_roundw
                  case rel => exact ⟨k + 1, Z, v5, v2, _, _, rfl, rfl, rfl, by go_num, by omega, hZ9.1, hZ9.2, hTl, hLl, ⟨hR15.out, hR25.out, HR3.out⟩, ho5'.out, hB5.out⟩
                  case measure => simp [intOf]; omega
              · have d1 : decide (0 < Q) = false := decide_eq_false h1
                obtain rfl : Q = 0 := by omega
                have h2 : (0 : Int) < M := by omega
                have d2 : decide ((0 : Int) < M) = true := decide_eq_true h2
                rw [if_neg h1, List.nil_append] at hR1
                rw [if_pos h2, Int.add_zero, Int.sub_zero] at hR2
                have wY : IntKind.i64.wrap (F + 0) = F := by rw [IntKind.wrap_i64]; omega
                have wX : IntKind.i64.wrap (M - 0) = M := by rw [IntKind.wrap_i64]; omega
                have wY' : IntKind.i64.wrap F = F := by rw [IntKind.wrap_i64]; omega
                have wX' : IntKind.i64.wrap M = M := by rw [IntKind.wrap_i64]; omega
                have wZ' : IntKind.i64.wrap N = Z := by rw [Int.sub_zero] at wZ; exact wZ
                obtain ⟨v6, w6, hrun6, hb6, ho6, _⟩ := xapp_two (W := W) SRXT SRXT RXT Tryd.underlying22 xinfoR ⟨F, M⟩ hoW.out.swap hBW.out.size (by omega)
                have hB6 : Hid (Below w3.heap.size w3 w6) := hBW.out.trans hb6
                have ho6' := Lib.hid ho6.swap
                have hR15 := Lib.hid hR1
                have hR25 : Hid ((L ++ [⟨F, M⟩]) ++ xrsL Z (l.drop (k + 1)) = xrsL N0 l) := by show _ = _; rw [List.append_assoc]; exact hR2
                have hLl : (L ++ [(⟨F, M⟩ : Xt)]).length ≤ k + 1 := by simp; omega
                have hTl : T.length ≤ k + 1 := by omega
                clear hb6 ho6 hR1 hR2 hBW hoW hlt1 hlt2
                dsimp only at hrun6
                go_wp2_with (at_builtin; refine Lib.wpList_append_run _ rfl (.tmp 65) (.tmp 75) _ _ rfl _ _ (by rfl) (by rfl) _ _ hrun6 ?_)
                go_roundw
                case rel => exact ⟨k + 1, Z, v1, v6, _, _, rfl, rfl, rfl, by go_num, by omega, hZ9.1, hZ9.2, hTl, hLl, ⟨hR15.out, hR25.out, HR3.out⟩, ho6'.out, hB6.out⟩
                case measure => simp [intOf]; omega
            · obtain rfl : k = n := by omega
              obtain ⟨hR1, hR2, hR3⟩ := hR.out
              rw [List.drop_of_length_le (by rw [Hn.out]; exact Nat.le_refl _)] at hR1 hR2 hR3
              rw [xrsT, List.append_nil] at hR1
              rw [xrsL, List.append_nil] at hR2
              rw [xrsM] at hR3
              subst hR1 hR2
              have hBf : Hid (Below w.heap.size w wr) := HbW.out.trans (hB.out.mono HbW.out.size)
              obtain ⟨a1, c1, rfl, hs1, z1, y1, x1⟩ := own_xev hown.out.o1
              have hev1 : Hid (EV xtE wr (.slice a1 (xrsT N0 l).length c1) (xrsT N0 l)) := ⟨a1, c1, rfl, hs1, z1, y1, x1⟩
              have hev2 : Hid (EV xtE wr v2 (xrsL N0 l)) := own_xev hown.out.o2
              obtain ⟨m, hm⟩ : ∃ m, (xrsT N0 l).length = m := ⟨_, rfl⟩
              rw [hm] at hev1
              rw [hm]
              have Hm := Lib.hid hm
              have HR3 := Lib.hid hR3
              clear hown hR hB hs1 z1 y1 x1 hm hR3
              by_cases h1 : 0 < N
              · have d1 : decide (0 < N) = true := decide_eq_true h1
                have hfl := Lib.hid (hfull.out (by unfold xrsFull; rw [← HR3.out, d1]; rfl))
                clear hfull hnot
                go_wp2
                go_ret3
                exact ⟨_, _, _, rfl, by rw [hfl.out.1]; exact rfl, by rw [hfl.out.2.1]; exact EV.none _, by rw [hfl.out.2.2]; exact EV.none _, hBf.out⟩
              · have d1 : decide (0 < N) = false := decide_eq_false h1
                by_cases h2 : 8 < m
                · have d2 : decide ((8 : Int) < (m : Int)) = true := decide_eq_true (by omega)
                  have d2' : decide (8 < m) = true := decide_eq_true h2
                  have hfl := Lib.hid (hfull.out (by unfold xrsFull; rw [Hm.out, d2', Bool.or_true]))
                  clear hfull hnot
                  go_wp2
                  go_ret3
                  exact ⟨_, _, _, rfl, by rw [hfl.out.1]; exact rfl, by rw [hfl.out.2.1]; exact EV.none _, by rw [hfl.out.2.2]; exact EV.none _, hBf.out⟩
                · have d2 : decide ((8 : Int) < (m : Int)) = false := decide_eq_false (by omega)
                  have d2' : decide (8 < m) = false := decide_eq_false h2
                  have hfl := Lib.hid (hnot.out (by unfold xrsFull; rw [← HR3.out, Hm.out, d1, d2']; rfl))
                  clear hfull hnot
                  go_wp2
                  go_ret3
                  exact ⟨_, _, _, rfl, by rw [hfl.out.1]; exact rfl, by rw [hfl.out.2.1]; exact hev1.out, by rw [hfl.out.2.2]; exact hev2.out, hBf.out⟩
  · rw [Bool.eq_false_iff.2 hb] at H1
    have hfl := Lib.hid (hok.out (by unfold xrsOk; rw [Bool.eq_false_iff.2 hb]; rfl))
    clear hok hfull hnot hb
    go_enter Tryd.func15, Tryd.ntmps15
    go_wp2_with fail
    refine H1.out.mono ?_
    rintro e w1 ⟨rfl, hb1⟩
    have Hb1 := Lib.hid hb1
    clear hb1 H1
    go_wp2
    go_ret3
    exact ⟨_, _, _, rfl, by rw [hfl.out.1]; rfl, by rw [hfl.out.2.1]; exact EV.none _, by rw [hfl.out.2.2]; exact EV.none _, Hb1.out⟩
end Go.Proofs.YtcimhcibkbbkdaaDoor
