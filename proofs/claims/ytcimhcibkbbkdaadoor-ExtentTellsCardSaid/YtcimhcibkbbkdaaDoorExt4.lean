/-
  extent's Free.
-/
import Derived.Test.YtcimhcibkbbkdaaDoorExt2
import Derived.Test.YtcimhcibkbbkdaaDoorExtMath2
import Derived.Test.YtcimhcibkbbkdaaDoorAppX
namespace Go.Proofs.YtcimhcibkbbkdaaDoor
open Go Go.RowKit

set_option maxRecDepth 100000 in
theorem xfree_any (v : Value) (l : List Xt) (p : Int) (w : World) (hv : EV xtE w v l) (hl : l.length * 16 ≤ 140737488355328) (hr : ∀ x ∈ l, XOK x) :
    Calls Tryd.prog 12 #[v, .int .i64 p] w fun e w' => ∃ u, e = .returned (.tuple #[u, errC (xfreE l p)]) ∧ EV xtE w' u (xfreV l p) ∧ Below w.heap.size w w' := by
  have H1 := Lib.hid (xcheck_any v l p w hv hl hr)
  have Hv := Lib.hid hv
  clear hv hr
  by_cases hb : xmayB l p = true
  · rw [if_pos hb, errC_0] at H1
    have hM := Lib.hid ((xmayB_iff _ _).1 hb)
    have e1 : xfreE l p = 0 := by unfold xfreE; rw [if_pos hb]
    have e2 : xfreV l p = xfreD l p := by unfold xfreV; rw [if_pos hb]
    rw [e1, e2, errC_0]
    have Hl := Lib.hid hl
    clear e1 e2 hb hl
    go_enter Tryd.func12, Tryd.ntmps12
    go_wp2_with fail
    refine H1.out.mono ?_
    rintro e w1 ⟨rfl, hb1⟩
    have H2 := Lib.hid (xordered_any v l w1 (Hv.out.ext hb1) Hl.out)
    have Hb1 := Lib.hid hb1
    clear hb1 H1
    go_wp2_with fail
    refine H2.out.mono ?_
    rintro e w2 ⟨u, l', rfl, hp, ha, ho, hb2⟩
    have hl' : l'.length ≤ 1024 := by rw [hp.length_eq]; exact hM.out.len
    obtain ⟨v3, w3, hrun, hb3, ho3, _⟩ := xapp_one (W := w2) SXT SXT XT Tryd.underlying24 xinfo ⟨p, 0⟩ ho hb2.size (by omega)
    obtain ⟨a3, c3, rfl, hs3, _, _, _⟩ := own_xev ho3
    have Hb3 : Hid (Below w.heap.size w w3) := Hb1.out.trans ((hb2.trans hb3).mono Hb1.out.size)
    have hR := xfre_eq hM.out hp ha
    have hin : ∀ x ∈ l' ++ [⟨p, 0⟩], 0 ≤ x.f ∧ 0 ≤ x.m ∧ x.f + x.m ≤ 1024 := fun x hx => by
      have hh := hM.out.hi
      have hh2 := hM.out.lo
      rcases List.mem_append.1 hx with hx | hx
      · obtain ⟨q1, q2, q3⟩ := hM.out.ins x (hp.mem_iff.1 hx)
        exact ⟨q1, by omega, by omega⟩
      · rw [List.mem_singleton.1 hx]; exact ⟨by simp; omega, by simp, by simp; omega⟩
    obtain ⟨N, hN⟩ : ∃ N, (l' ++ [(⟨p, 0⟩ : Xt)]).length = N := ⟨_, rfl⟩
    have hN9 : N ≤ 1025 := by rw [← hN]; simp; omega
    rw [hN] at hrun
    obtain ⟨m, hm⟩ : ∃ m, l' ++ [(⟨p, 0⟩ : Xt)] = m := ⟨_, rfl⟩
    rw [hm] at hs3 hin hR hN
    have HN := Lib.hid hN
    have Hin := Lib.hid hin
    have Hs3 := Lib.hid hs3
    have HR := Lib.hid hR
    dsimp only at hrun
    clear hp ha ho hb2 hb3 ho3 hs3 hR hin hm hN H2 Hb1 hl'
    go_wp2_with (at_builtin; refine Lib.wpList_append_run _ rfl (.tmp 16) (.tmp 19) _ _ rfl _ _ (by rfl) (by rfl) _ _ hrun ?_)
    go_loopw [6, 7, 22] (fun fv t i wr => ∃ (k : Nat) (A : Int) (v : Value) (L : List Xt), v = fv ∧ t = .int .i64 A ∧ i = .int .i64 k ∧ k ≤ N ∧ 0 ≤ A ∧ A ≤ 1024 ∧ L.length ≤ k ∧ Hid (L ++ xfrF A (m.drop k) = xfreD l p) ∧ Hid (wr.ownsRow w3.heap.size XT 2 v L.length (xtE.row L)) ∧ Hid (Below w3.heap.size w3 wr)) (fun _ _ i _ => N - (intOf i).toNat)
    case atStart => exact ⟨0, 0, xnil, [], rfl, rfl, rfl, by omega, by omega, by omega, by simp, by show _ = _; rw [List.drop_zero, List.nil_append]; exact HR.out, World.ownsRow_nil _ _ _ _, Below.refl _ _⟩
    case round =>
      obtain ⟨k, A, v4, L, rfl, rfl, rfl, hk, hA0, hA9, hL, hLR, hown, hB⟩ := hrel
      by_cases hlt : k < N
      · have hkm : k < m.length := by rw [HN.out]; exact hlt
        obtain ⟨g, o, rfl, hcell⟩ := (Hs3.out.below hB.out (Nat.le_refl _)).xts (by omega)
        obtain ⟨q0, q1⟩ := hcell k hkm
        have hx := Hin.out (xt m k) (xt_mem m k hkm)
        have hLR2 := hLR.out
        rw [xt_drop m k hkm, xfrF] at hLR2
        generalize xt m k = y at *
        obtain ⟨F, M⟩ := y
        obtain ⟨f1, f2, f3⟩ := hx
        dsimp only at q0 q1 f1 f2 f3 hLR2
        obtain ⟨W, hW⟩ : ∃ W, wr.alloc (.cells #[.int .i64 F, .int .i64 M] XT) = W := ⟨_, rfl⟩
        have HW := Lib.hid hW
        have hxb : Hid (XB W wr.heap.size F M) := by rw [← hW]; exact xb_new wr XT F M
        have hBW : Hid (Below w3.heap.size w3 W) := by rw [← hW]; exact hB.out.alloc hB.out.size _
        have hoW : Hid (W.ownsRow w3.heap.size XT 2 v4 L.length (xtE.row L)) := by rw [← hW]; exact hown.out.alloc _
        have hlt2 : Hid (∀ k, v4.ownBlock = some k → k < wr.heap.size) := fun k h => (hown.out.lt k h).2
        have hWs : Hid (wr.heap.size < W.heap.size) := by show wr.heap.size < W.heap.size; rw [← hW]; simp
        have hend := Lib.hid (fun w => xend_any F M w (by omega) (by omega))
        obtain ⟨E, hE⟩ : ∃ E, F + M = E := ⟨_, rfl⟩
        rw [hE] at hend hLR2
        have hE9 : 0 ≤ E ∧ E ≤ 1024 := by omega
        obtain ⟨S, hS⟩ : ∃ S, wr.heap.size = S := ⟨_, rfl⟩
        have HS := Lib.hid hS
        rw [hS] at hxb hWs hlt2
        clear hcell hW hB hown hLR hE hkm hS
        go_upto_region 8 with fail
        rw [HW.out, HS.out]
        clear HW HS q0 q1
        obtain ⟨c0, c1⟩ := hxb.out
        by_cases h2 : A < F
        · have d2 : decide (A < F) = true := decide_eq_true h2
          rw [if_pos h2] at hLR2
          obtain ⟨Z, hZ⟩ : ∃ Z, F - A = Z := ⟨_, rfl⟩
          have hwz : IntKind.i64.wrap (F - A) = Z := by rw [IntKind.wrap_i64]; omega
          rw [hZ] at hLR2
          obtain ⟨v5, w5, hrun5, hb5, ho5, hk5⟩ := xapp_one (W := W) SXT SXT XT Tryd.underlying24 xinfo ⟨A, Z⟩ hoW.out hBW.out.size (by omega)
          have hxb5 : Hid (XB w5 S F M) := hxb.out.to (hk5 _ hWs.out (fun e => by have := hlt2.out _ e; omega))
          have hB5 : Hid (Below w3.heap.size w3 w5) := hBW.out.trans hb5
          have ho5' := Lib.hid ho5
          have hLR5 : Hid ((L ++ [⟨A, Z⟩]) ++ xfrF E (m.drop (k + 1)) = xfreD l p) := by show _ = _; rw [List.append_assoc]; exact hLR2
          have hLl : (L ++ [(⟨A, Z⟩ : Xt)]).length ≤ k + 1 := by simp; omega
          clear hb5 ho5 hk5 hZ hLR2 hoW hBW hlt2
          dsimp only at hrun5
          go_wp2_with (at_builtin; refine Lib.wpList_append_run _ rfl (.tmp 30) (.tmp 37) _ _ rfl _ _ (by rfl) (by rfl) _ _ hrun5 ?_; obtain ⟨z0, z1⟩ := hxb5.out)
          refine (hend.out _).mono ?_
          rintro e w6 ⟨rfl, hb6⟩
          have hB6 : Hid (Below w3.heap.size w3 w6) := hB5.out.trans (hb6.mono hB5.out.size)
          have ho6 : Hid (w6.ownsRow w3.heap.size XT 2 v5 (L ++ [(⟨A, Z⟩ : Xt)]).length (xtE.row (L ++ [⟨A, Z⟩]))) := own_below ho5'.out hb6 (Nat.le_refl _)
          clear hb6 hB5 ho5' hend hrun5 hxb hxb5
          go_wp2
          go_roundw
          case rel => exact ⟨k + 1, E, v5, _, rfl, rfl, by go_num, by omega, hE9.1, hE9.2, hLl, hLR5, ho6, hB6⟩
          case measure => simp [intOf]; omega
        · have d2 : decide (A < F) = false := decide_eq_false h2
          rw [if_neg h2, List.nil_append] at hLR2
          have hLR5 : Hid (L ++ xfrF E (m.drop (k + 1)) = xfreD l p) := hLR2
          have hLl : L.length ≤ k + 1 := by omega
          clear hLR2
          go_wp2_with fail
          refine (hend.out _).mono ?_
          rintro e w6 ⟨rfl, hb6⟩
          have hB6 : Hid (Below w3.heap.size w3 w6) := hBW.out.trans (hb6.mono hBW.out.size)
          have ho6 : Hid (w6.ownsRow w3.heap.size XT 2 v4 L.length (xtE.row L)) := own_below hoW.out hb6 (Nat.le_refl _)
          clear hb6 hBW hoW hend hxb
          go_wp2
          go_roundw
          case rel => exact ⟨k + 1, E, v4, _, rfl, rfl, by go_num, by omega, hE9.1, hE9.2, hLl, hLR5, ho6, hB6⟩
          case measure => simp [intOf]; omega
      · obtain rfl : k = N := by omega
        have e1 : Hid (L = xfreD l p) := by
          show _ = _
          have := hLR.out
          rwa [List.drop_of_length_le (by rw [HN.out]; exact Nat.le_refl _), xfrF, List.append_nil] at this
        have hev : Hid (EV xtE wr v4 (xfreD l p)) := by rw [← e1.out]; exact own_xev hown.out
        have hBf : Hid (Below w.heap.size w wr) := Hb3.out.trans (hB.out.mono Hb3.out.size)
        clear hown hLR e1 hB
        go_wp2
        go_ret2
        exact ⟨_, rfl, hev.out, hBf.out⟩
  · rw [if_neg hb, errC_1] at H1
    have e1 : xfreE l p = 1 := by unfold xfreE; rw [if_neg hb]
    have e2 : xfreV l p = [] := by unfold xfreV; rw [if_neg hb]
    rw [e1, e2, errC_1]
    clear e1 e2 hb
    go_enter Tryd.func12, Tryd.ntmps12
    go_wp2_with fail
    refine H1.out.mono ?_
    rintro e w1 ⟨rfl, hb1⟩
    have Hb1 := Lib.hid hb1
    clear hb1 H1
    go_wp2
    go_ret2
    exact ⟨_, rfl, EV.none _, Hb1.out⟩
end Go.Proofs.YtcimhcibkbbkdaaDoor
