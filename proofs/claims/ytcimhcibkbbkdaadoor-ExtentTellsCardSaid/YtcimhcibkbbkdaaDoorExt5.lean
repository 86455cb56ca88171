/-
  extent's Reserve (mkres.py).
-/
import Derived.Test.YtcimhcibkbbkdaaDoorExt3
import Derived.Test.YtcimhcibkbbkdaaDoorExtEq
import Derived.Test.YtcimhcibkbbkdaaDoorExtMath2
import Derived.Test.YtcimhcibkbbkdaaDoorAppX
namespace Go.Proofs.YtcimhcibkbbkdaaDoor
open Go Go.RowKit

set_option maxRecDepth 100000 in
set_option maxHeartbeats 4000000 in
theorem xreserve_any (v : Value) (l : List Xt) (N0 : Int) (w : World) (hv : EV xtE w v l) (hl : l.length * 16 ≤ 140737488355328) (hr : ∀ x ∈ l, XOK x) (hN9 : N0 ≤ 9223372036854775807) :
    Calls Tryd.prog 14 #[v, .int .i64 N0] w fun e w' => ∃ u1 u2 E, e = .returned (.tuple #[u1, u2, E]) ∧ E = errC (xrsE l N0) ∧ EV xtE w' u1 (xrsA l N0) ∧ EV xtE w' u2 (xrsB l N0) ∧ Below w.heap.size w w' := by
  have H1 := Lib.hid (xcheck_any v l 1024 w hv hl hr)
  have hok : Hid (xrsOk l N0 = false → xrsE l N0 = 1 ∧ xrsA l N0 = [] ∧ xrsB l N0 = []) := fun h => by unfold xrsE xrsA xrsB; rw [h]; exact ⟨rfl, rfl, rfl⟩
  have hfull : Hid (xrsOk l N0 = true → xrsFull l N0 = true → xrsE l N0 = 7 ∧ xrsA l N0 = [] ∧ xrsB l N0 = []) := fun h h2 => by unfold xrsE xrsA xrsB; rw [h, h2]; exact ⟨rfl, rfl, rfl⟩
  have hnot : Hid (xrsOk l N0 = true → xrsFull l N0 = false → xrsE l N0 = 0 ∧ xrsA l N0 = xrsT N0 l ∧ xrsB l N0 = xrsL N0 l) := fun h h2 => by unfold xrsE xrsA xrsB; rw [h, h2]; exact ⟨rfl, rfl, rfl⟩
  have Hv := Lib.hid hv
  obtain ⟨a, c, rfl, hs, _, _, _⟩ := hv
  have Hs := Lib.hid hs
  have Hl := Lib.hid hl
  obtain ⟨n, hn⟩ : ∃ n, l.length = n := ⟨_, rfl⟩
  have Hn := Lib.hid hn
  have hn9 : n ≤ 9223372036854775807 := by omega
  rw [hn] at H1 Hv ⊢
  clear hr hs hn hl
  by_cases hb : xmayB l 1024 = true
  · rw [if_pos hb, errC_0] at H1
    have hM := Lib.hid ((xmayB_iff _ _).1 hb)
    have hn2 : n ≤ 1024 := by rw [← Hn.out]; exact hM.out.len
    have hokE : Hid (xrsOk l N0 = (xascB l && decide (1 ≤ N0))) := by show _ = _; unfold xrsOk; rw [hb]; simp
    clear hb
    go_enter Tryd.func14, Tryd.ntmps14
    go_wp2_with fail
    refine H1.out.mono ?_
    rintro e w1 ⟨rfl, hb1⟩
    have Hb1 := Lib.hid hb1
    have H2 := Lib.hid (xordered_any (.slice a n c) l w1 (Hv.out.ext hb1) Hl.out)
    clear hb1 H1
    go_wp2_with fail
    refine H2.out.mono ?_
    rintro e w2 ⟨u, l', rfl, hp, ha, ho, hb2⟩
    have Hb2 : Hid (Below w.heap.size w w2) := Hb1.out.trans (hb2.mono Hb1.out.size)
    have hsame := xasc_same hM.out hp ha
    have H3 := Lib.hid (xequal_any (.slice a n c) u l l' w2 (Hv.out.ext Hb2.out) (own_xev ho) Hl.out (by rw [hp.length_eq]; exact Hl.out))
    have hD : Hid (∀ D : Bool, (D = true ↔ l = l') → D = xascB l) := fun D h => by
      rw [hsame] at h
      cases D <;> cases hx : xascB l <;> simp_all
    clear hp ha ho hb2 hsame H2 Hb1
    go_wp2_with fail
    refine H3.out.mono ?_
    rintro e w3 ⟨D, rfl, hDD, hb3⟩
    have hD3 := Lib.hid (hD.out D hDD)
    have HbW : Hid (Below w.heap.size w w3) := Hb2.out.trans (hb3.mono Hb2.out.size)
    clear hb3 hDD hD H3 Hb2
    rw [← hD3.out] at hokE
    clear hD3
    cases D with
    | false =>
      have hfl := Lib.hid (hok.out (by rw [hokE.out]; rfl))
      clear hok hfull hnot hokE
      go_wp2
      go_ret3
      exact ⟨_, _, _, rfl, by rw [hfl.out.1]; rfl, by rw [hfl.out.2.1]; exact EV.none _, by rw [hfl.out.2.2]; exact EV.none _, HbW.out⟩
    | true =>
      by_cases h1 : N0 < 1
      · have d1 : decide (N0 < 1) = true := decide_eq_true h1
        have hfl := Lib.hid (hok.out (by rw [hokE.out, decide_eq_false (show ¬ 1 ≤ N0 by omega)]; rfl))
        clear hok hfull hnot hokE
        go_wp2
        go_ret3
        exact ⟨_, _, _, rfl, by rw [hfl.out.1]; rfl, by rw [hfl.out.2.1]; exact EV.none _, by rw [hfl.out.2.2]; exact EV.none _, HbW.out⟩
      · have d1 : decide (N0 < 1) = false := decide_eq_false h1
        have hk := hokE.out
        rw [decide_eq_true (show 1 ≤ N0 by omega)] at hk
        replace hfull := Lib.hid (hfull.out hk)
        replace hnot := Lib.hid (hnot.out hk)
        clear hok hokE hk
        go_wp2_with fail
        go_loopw [1, 7, 8, 29] (fun nv tv lv i wr => ∃ (k : Nat) (N : Int) (v1 v2 : Value) (T L : List Xt), nv = .int .i64 N ∧ v1 = tv ∧ v2 = lv ∧ i = .int .i64 k ∧ k ≤ n ∧ 0 ≤ N ∧ N ≤ 9223372036854775807 ∧ T.length ≤ k ∧ L.length ≤ k ∧ Hid (T ++ xrsT N (l.drop k) = xrsT N0 l ∧ L ++ xrsL N (l.drop k) = xrsL N0 l ∧ xrsM N (l.drop k) = xrsM N0 l) ∧ Hid (XTwo wr w3.heap.size XT v1 T v2 L) ∧ Hid (Below w3.heap.size w3 wr)) (fun _ _ _ i _ => n - (intOf i).toNat)
        case atStart => exact ⟨0, N0, xnil, xnil, [], [], rfl, rfl, rfl, rfl, by omega, by omega, hN9, by simp, by simp, ⟨by rw [List.drop_zero, List.nil_append], by rw [List.drop_zero, List.nil_append], by rw [List.drop_zero]⟩, XTwo.nil _ _ _, Below.refl _ _⟩
        case round =>
          obtain ⟨k, N, v1, v2, T, L, rfl, rfl, rfl, rfl, hk, hN0, hN9, hT, hL, hR, hown, hB⟩ := hrel
          by_cases hlt : k < n
          · have hkm : k < l.length := by rw [Hn.out]; exact hlt
            obtain ⟨g, o, rfl, hcell⟩ := ((Hs.out.below HbW.out (Nat.le_refl _)).below hB.out (Nat.le_refl _)).xts (by omega)
            obtain ⟨q0, q1⟩ := hcell k hkm
            have hx := hM.out.ins (xt l k) (xt_mem l k hkm)
            obtain ⟨hR1, hR2, hR3⟩ := hR.out
            rw [xt_drop l k hkm] at hR1 hR2 hR3
            rw [xrsT] at hR1
            rw [xrsL] at hR2
            rw [xrsM] at hR3
            generalize xt l k = y at *
            obtain ⟨F, M⟩ := y
            obtain ⟨f1, f2, f3⟩ := hx
            dsimp only at q0 q1 f1 f2 f3 hR1 hR2 hR3
            obtain ⟨W, hW⟩ : ∃ W, wr.alloc (.cells #[.int .i64 F, .int .i64 M] XT) = W := ⟨_, rfl⟩
            have HW := Lib.hid hW
            have hxb : Hid (XB W wr.heap.size F M) := by rw [← hW]; exact xb_new wr XT F M
            have hBW : Hid (Below w3.heap.size w3 W) := by rw [← hW]; exact hB.out.alloc hB.out.size _
            have hoW : Hid (XTwo W w3.heap.size XT v1 T v2 L) := by rw [← hW]; exact hown.out.alloc _
            have hlt1 : Hid (∀ k, v1.ownBlock = some k → k < wr.heap.size) := fun k h => (hown.out.o1.lt k h).2
            have hlt2 : Hid (∀ k, v2.ownBlock = some k → k < wr.heap.size) := fun k h => (hown.out.o2.lt k h).2
            have hWs : Hid (wr.heap.size < W.heap.size) := by show wr.heap.size < W.heap.size; rw [← hW]; simp
            obtain ⟨S, hS⟩ : ∃ S, wr.heap.size = S := ⟨_, rfl⟩
            have HS := Lib.hid hS
            rw [hS] at hxb hWs hlt1 hlt2
            obtain ⟨Q, hQ⟩ : ∃ Q, min N M = Q := ⟨_, rfl⟩
            rw [hQ] at hR1 hR2 hR3
            have hQ2 : (if M < N then M else N) = Q := by rw [← hQ]; split <;> omega
            have hQ9 : 0 ≤ Q ∧ Q ≤ N ∧ Q ≤ M ∧ (Q = N ∨ Q = M) := by omega
            obtain ⟨Z, hZ⟩ : ∃ Z, N - Q = Z := ⟨_, rfl⟩
            have wZ : IntKind.i64.wrap (N - Q) = Z := by rw [IntKind.wrap_i64]; omega
            have hZ9 : 0 ≤ Z ∧ Z ≤ 9223372036854775807 := by omega
            rw [hZ] at hR1 hR2 hR3
            have HR3 := Lib.hid hR3
            clear hcell hW hB hown hR hS hR3 hZ hkm
            go_upto_region 7 with fail
            rw [HW.out, HS.out]
            clear HW HS q0 q1
            obtain ⟨c0, c1⟩ := hxb.out
            by_cases h1 : 0 < Q
            · have d1 : decide (0 < Q) = true := decide_eq_true h1
              rw [if_pos h1] at hR1
              obtain ⟨v5, w5, hrun5, hb5, ho5, hk5⟩ := xapp_two (W := W) SXT SXT XT Tryd.underlying24 xinfo ⟨F, Q⟩ hoW.out hBW.out.size (by omega)
              have hxb5 : Hid (XB w5 S F M) := hxb.out.to (hk5 _ hWs.out (fun e => by have := hlt1.out _ e; omega))
              have hB5 : Hid (Below w3.heap.size w3 w5) := hBW.out.trans hb5
              have hS5 : Hid (S < w5.heap.size) := by show S < w5.heap.size; have := hWs.out; have := hb5.size; omega
              have ho5' := Lib.hid ho5
              have hR15 : Hid ((T ++ [⟨F, Q⟩]) ++ xrsT Z (l.drop (k + 1)) = xrsT N0 l) := by show _ = _; rw [List.append_assoc]; exact hR1
              have hTl : (T ++ [(⟨F, Q⟩ : Xt)]).length ≤ k + 1 := by simp; omega
              clear hb5 ho5 hk5 hR1 hoW hBW hlt1
              dsimp only at hrun5
              by_cases h2 : Q < M
              · have d2 : decide (Q < M) = true := decide_eq_true h2
                rw [if_pos h2] at hR2
                obtain ⟨Y, hY⟩ : ∃ Y, F + Q = Y := ⟨_, rfl⟩
                obtain ⟨X, hX⟩ : ∃ X, M - Q = X := ⟨_, rfl⟩
                have wY : IntKind.i64.wrap (F + Q) = Y := by rw [IntKind.wrap_i64]; omega
                have wX : IntKind.i64.wrap (M - Q) = X := by rw [IntKind.wrap_i64]; omega
                rw [hY, hX] at hR2
                obtain ⟨v6, w6, hrun6, hb6, ho6, _⟩ := xapp_two (W := w5) SXT SXT XT Tryd.underlying24 xinfo ⟨Y, X⟩ ho5'.out.swap hB5.out.size (by omega)
                have hB6 : Hid (Below w3.heap.size w3 w6) := hB5.out.trans hb6
                have ho6' := Lib.hid ho6.swap
                have hR25 : Hid ((L ++ [⟨Y, X⟩]) ++ xrsL Z (l.drop (k + 1)) = xrsL N0 l) := by show _ = _; rw [List.append_assoc]; exact hR2
                have hLl : (L ++ [(⟨Y, X⟩ : Xt)]).length ≤ k + 1 := by simp; omega
                clear hb6 ho6 hR2 hB5 ho5' hY hX
                dsimp only at hrun6
                obtain ⟨z0, z1⟩ := hxb5.out
                go_wp2_with (at_builtin; first | refine Lib.wpList_append_run _ rfl (.tmp 39) (.tmp 44) _ _ rfl _ _ (by rfl) (by rfl) _ _ hrun5 ?_ | refine Lib.wpList_append_run _ rfl (.tmp 50) (.tmp 60) _ _ rfl _ _ (by rfl) (by rfl) _ _ hrun6 ?_)
                go_roundw
                case rel => exact ⟨k + 1, Z, v5, v6, _, _, rfl, rfl, rfl, by go_num, by omega, hZ9.1, hZ9.2, hTl, hLl, ⟨hR15.out, hR25.out, HR3.out⟩, ho6'.out, hB6.out⟩
                case measure => simp [intOf]; omega
              · have d2 : decide (Q < M) = false := decide_eq_false h2
                rw [if_neg h2, List.nil_append] at hR2
                have hR25 := Lib.hid hR2
                have hLl : L.length ≤ k + 1 := by omega
                clear hR2
                obtain ⟨z0, z1⟩ := hxb5.out
                go_wp2_with (at_builtin; refine Lib.wpList_append_run _ rfl (.tmp 39) (.tmp 44) _ _ rfl _ _ (by rfl) (by rfl) _ _ hrun5 ?_)
                go_roundw
                case rel => exact ⟨k + 1, Z, v5, v2, _, _, rfl, rfl, rfl, by go_num, by omega, hZ9.1, hZ9.2, hTl, hLl, ⟨hR15.out, hR25.out, HR3.out⟩, ho5'.out, hB5.out⟩
                case measure => simp [intOf]; omega
            · have d1 : decide (0 < Q) = false := decide_eq_false h1
              obtain rfl : Q = 0 := by omega
              have h2 : (0 : Int) < M := by omega
              have d2 : decide ((0 : Int) < M) = true := decide_eq_true h2
              rw [if_neg h1, List.nil_append] at hR1
              rw [if_pos h2, Int.add_zero, Int.sub_zero] at hR2
              have wY : IntKind.i64.wrap (F + 0) = F := by rw [IntKind.wrap_i64]; omega
              have wX : IntKind.i64.wrap (M - 0) = M := by rw [IntKind.wrap_i64]; omega
              have wY' : IntKind.i64.wrap F = F := by rw [IntKind.wrap_i64]; omega
              have wX' : IntKind.i64.wrap M = M := by rw [IntKind.wrap_i64]; omega
              have wZ' : IntKind.i64.wrap N = Z := by rw [Int.sub_zero] at wZ; exact wZ
              obtain ⟨v6, w6, hrun6, hb6, ho6, _⟩ := xapp_two (W := W) SXT SXT XT Tryd.underlying24 xinfo ⟨F, M⟩ hoW.out.swap hBW.out.size (by omega)
              have hB6 : Hid (Below w3.heap.size w3 w6) := hBW.out.trans hb6
              have ho6' := Lib.hid ho6.swap
              have hR15 := Lib.hid hR1
              have hR25 : Hid ((L ++ [⟨F, M⟩]) ++ xrsL Z (l.drop (k + 1)) = xrsL N0 l) := by show _ = _; rw [List.append_assoc]; exact hR2
              have hLl : (L ++ [(⟨F, M⟩ : Xt)]).length ≤ k + 1 := by simp; omega
              have hTl : T.length ≤ k + 1 := by omega
              clear hb6 ho6 hR1 hR2 hBW hoW hlt1 hlt2
              dsimp only at hrun6
              go_wp2_with (at_builtin; refine Lib.wpList_append_run _ rfl (.tmp 50) (.tmp 60) _ _ rfl _ _ (by rfl) (by rfl) _ _ hrun6 ?_)
              go_roundw
              case rel => exact ⟨k + 1, Z, v1, v6, _, _, rfl, rfl, rfl, by go_num, by omega, hZ9.1, hZ9.2, hTl, hLl, ⟨hR15.out, hR25.out, HR3.out⟩, ho6'.out, hB6.out⟩
              case measure => simp [intOf]; omega
          · obtain rfl : k = n := by omega
            obtain ⟨hR1, hR2, hR3⟩ := hR.out
            rw [List.drop_of_length_le (by rw [Hn.out]; exact Nat.le_refl _)] at hR1 hR2 hR3
            rw [xrsT, List.append_nil] at hR1
            rw [xrsL, List.append_nil] at hR2
            rw [xrsM] at hR3
            subst hR1 hR2
            have hBf : Hid (Below w.heap.size w wr) := HbW.out.trans (hB.out.mono HbW.out.size)
            obtain ⟨a1, c1, rfl, hs1, z1, y1, x1⟩ := own_xev hown.out.o1
            have hev1 : Hid (EV xtE wr (.slice a1 (xrsT N0 l).length c1) (xrsT N0 l)) := ⟨a1, c1, rfl, hs1, z1, y1, x1⟩
            have hev2 : Hid (EV xtE wr v2 (xrsL N0 l)) := own_xev hown.out.o2
            obtain ⟨m, hm⟩ : ∃ m, (xrsT N0 l).length = m := ⟨_, rfl⟩
            rw [hm] at hev1
            rw [hm]
            have Hm := Lib.hid hm
            have HR3 := Lib.hid hR3
            clear hown hR hB hs1 z1 y1 x1 hm hR3
            by_cases h1 : 0 < N
            · have d1 : decide (0 < N) = true := decide_eq_true h1
              have hfl := Lib.hid (hfull.out (by unfold xrsFull; rw [← HR3.out, d1]; rfl))
              clear hfull hnot
              go_wp2
              go_ret3
              exact ⟨_, _, _, rfl, by rw [hfl.out.1]; exact rfl, by rw [hfl.out.2.1]; exact EV.none _, by rw [hfl.out.2.2]; exact EV.none _, hBf.out⟩
            · have d1 : decide (0 < N) = false := decide_eq_false h1
              by_cases h2 : 8 < m
              · have d2 : decide ((8 : Int) < (m : Int)) = true := decide_eq_true (by omega)
                have d2' : decide (8 < m) = true := decide_eq_true h2
                have hfl := Lib.hid (hfull.out (by unfold xrsFull; rw [Hm.out, d2', Bool.or_true]))
                clear hfull hnot
                go_wp2
                go_ret3
                exact ⟨_, _, _, rfl, by rw [hfl.out.1]; exact rfl, by rw [hfl.out.2.1]; exact EV.none _, by rw [hfl.out.2.2]; exact EV.none _, hBf.out⟩
              · have d2 : decide ((8 : Int) < (m : Int)) = false := decide_eq_false (by omega)
                have d2' : decide (8 < m) = false := decide_eq_false h2
                have hfl := Lib.hid (hnot.out (by unfold xrsFull; rw [← HR3.out, Hm.out, d1, d2']; rfl))
                clear hfull hnot
                go_wp2
                go_ret3
                exact ⟨_, _, _, rfl, by rw [hfl.out.1]; exact rfl, by rw [hfl.out.2.1]; exact hev1.out, by rw [hfl.out.2.2]; exact hev2.out, hBf.out⟩
  · rw [if_neg hb, errC_1] at H1
    have hfl := Lib.hid (hok.out (by unfold xrsOk; rw [Bool.eq_false_iff.2 hb]; rfl))
    clear hok hfull hnot hb
    go_enter Tryd.func14, Tryd.ntmps14
    go_wp2_with fail
    refine H1.out.mono ?_
    rintro e w1 ⟨rfl, hb1⟩
    have Hb1 := Lib.hid hb1
    clear hb1 H1
    go_wp2
    go_ret3
    exact ⟨_, _, _, rfl, by rw [hfl.out.1]; rfl, by rw [hfl.out.2.1]; exact EV.none _, by rw [hfl.out.2.2]; exact EV.none _, Hb1.out⟩
end Go.Proofs.YtcimhcibkbbkdaaDoor
