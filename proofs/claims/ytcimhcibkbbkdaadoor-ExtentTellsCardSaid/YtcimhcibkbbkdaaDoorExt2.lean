/-
  extent's ordered, Check, Many.
-/
import Derived.Test.YtcimhcibkbbkdaaDoorExt1
import Derived.Test.YtcimhcibkbbkdaaDoorSortX
import Derived.Test.YtcimhcibkbbkdaaDoorErrC
namespace Go.Proofs.YtcimhcibkbbkdaaDoor
open Go Go.RowKit

set_option maxRecDepth 100000 in
theorem xordered_any (v : Value) (l : List Xt) (w : World) (hv : EV xtE w v l) (hl : l.length * 16 ≤ 140737488355328) :
    Calls Tryd.prog 23 #[v] w fun e w' => ∃ u l', e = .returned u ∧ l'.Perm l ∧ XAsc l' ∧ w'.ownsRow w.heap.size XT 2 u l'.length (xtE.row l') ∧ Below w.heap.size w w' := by
  have H1 := Lib.hid (xclone_any v l w hv hl)
  have Hl := Lib.hid hl
  clear hv hl
  go_enter Tryd.func23, Tryd.ntmps23
  go_wp2_with fail
  refine H1.out.mono ?_
  rintro e w1 ⟨u, rfl, ho1, hb1⟩
  have H2 := Lib.hid (xsort_any u l w1 w.heap.size ho1 Hl.out)
  have Hb1 := Lib.hid hb1
  clear ho1 hb1 H1
  go_wp2_with fail
  refine H2.out.mono ?_
  rintro e w2 ⟨rfl, l', hp, ha, ho2, hb2⟩
  have Ho := Lib.hid (And.intro hp (And.intro ha (And.intro ho2 (Hb1.out.trans hb2))))
  clear hp ha ho2 hb2 H2 Hb1
  go_wp2
  go_ret
  exact ⟨u, l', rfl, Ho.out.1, Ho.out.2.1, Ho.out.2.2.1, Ho.out.2.2.2⟩
set_option maxRecDepth 100000 in
theorem xcheck_any (v : Value) (l : List Xt) (p : Int) (w : World) (hv : EV xtE w v l) (hl : l.length * 16 ≤ 140737488355328) (hr : ∀ x ∈ l, XOK x) :
    Calls Tryd.prog 16 #[v, .int .i64 p] w fun e w' => e = .returned (errC (if xmayB l p = true then 0 else 1)) ∧ Below w.heap.size w w' := by
  have hvv := hv
  obtain ⟨a, c, rfl, hs, hz, hc, hm⟩ := hv
  obtain ⟨R, hR⟩ : ∃ R, errC (if xmayB l p = true then 0 else 1) = R := ⟨_, rfl⟩
  rw [hR]
  have HR := Lib.hid hR
  have hno : Hid (xmayB l p = false → R = .iface 54 (.int .i64 1)) := fun h => by rw [← HR.out, if_neg (by rw [h]; decide)]; rfl
  have hyes : Hid (xmayB l p = true → R = .nilIface) := fun h => by rw [← HR.out, if_pos h]; rfl
  have Hs := Lib.hid hs
  have Hr := Lib.hid hr
  have Hv := Lib.hid hvv
  have Hl := Lib.hid hl
  obtain ⟨n, hn⟩ : ∃ n, l.length = n := ⟨_, rfl⟩
  have Hn := Lib.hid hn
  have hn9 : n ≤ 9223372036854775807 := by omega
  rw [hn] at Hv ⊢
  clear hs hr hvv hR HR hz hc hm hn hl
  by_cases h1 : p < 1
  · have d1 : decide (p < 1) = true := decide_eq_true h1
    obtain rfl := hno.out (by unfold xmayB; rw [decide_eq_false (show ¬ 1 ≤ p by omega)]; rfl)
    clear hno hyes
    go_enter Tryd.func16, Tryd.ntmps16
    go_wp2
    go_ret
    exact ⟨rfl, Below.refl _ _⟩
  · have d1 : decide (p < 1) = false := decide_eq_false h1
    by_cases h2 : 1024 < p
    · have d2 : decide (1024 < p) = true := decide_eq_true h2
      obtain rfl := hno.out (by unfold xmayB; rw [decide_eq_false (show ¬ p ≤ 1024 by omega), Bool.and_false]; rfl)
      clear hno hyes
      go_enter Tryd.func16, Tryd.ntmps16
      go_wp2
      go_ret
      exact ⟨rfl, Below.refl _ _⟩
    · have d2 : decide (1024 < p) = false := decide_eq_false h2
      have H1 := Lib.hid (xwithin_any a n c l p w Hn.out Hs.out hn9 Hr.out (by omega) (by omega))
      have hmb : Hid (xmayB l p = (l.all (xinB p) && xparB l)) := by
        show _ = _
        unfold xmayB; rw [decide_eq_true (show 1 ≤ p by omega), decide_eq_true (show p ≤ 1024 by omega)]; simp
      have hp2 : Hid (p ≤ 1024) := by show p ≤ 1024; omega
      cases hA : l.all (xinB p) with
      | false =>
        obtain rfl := hno.out (by rw [hmb.out, hA]; rfl)
        rw [hA] at H1
        clear hno hyes hmb hA h1 h2 Hr Hs Hn
        go_enter Tryd.func16, Tryd.ntmps16
        go_wp2_with fail
        refine H1.out.mono ?_
        rintro e w1 ⟨rfl, hb1⟩
        have Hb1 := Lib.hid hb1
        clear hb1 H1
        go_wp2
        go_ret
        exact ⟨rfl, Hb1.out⟩
      | true =>
        have HA := Lib.hid hA
        rw [hA] at H1
        clear hA h1 h2
        go_enter Tryd.func16, Tryd.ntmps16
        go_wp2_with fail
        refine H1.out.mono ?_
        rintro e w1 ⟨rfl, hb1⟩
        have Hb1 := Lib.hid hb1
        have H2 := Lib.hid (xordered_any (.slice a n c) l w1 (Hv.out.ext hb1) Hl.out)
        clear hb1 H1
        go_wp2_with fail
        refine H2.out.mono ?_
        rintro e w2 ⟨u, l', rfl, hp, ha, ho, hb2⟩
        have Hb2 := Lib.hid (Hb1.out.trans (hb2.mono Hb1.out.size))
        obtain ⟨a2, c2, rfl, hs2, _, _, _⟩ := own_xev ho
        have hap := xapF_par hp ha HA.out
        have H3 := Lib.hid (xapart_any a2 l'.length c2 l' w2 rfl hs2 (by rw [hp.length_eq, Hn.out]; exact hn9) (fun x hx => by
          obtain ⟨q1, q2, q3⟩ := (xinB_iff p x).1 (List.all_eq_true.1 HA.out x (hp.mem_iff.1 hx))
          exact ⟨q1, q2, by have := hp2.out; omega⟩))
        rw [hap] at H3
        obtain ⟨n2, hn2⟩ : ∃ n2, l'.length = n2 := ⟨_, rfl⟩
        rw [hn2] at H3 ⊢
        clear hp ha ho hb2 hs2 hap H2 Hb1 hn2
        go_wp2_with fail
        refine H3.out.mono ?_
        rintro e w3 ⟨rfl, hb3⟩
        have Hb3 := Lib.hid (Hb2.out.trans (hb3.mono Hb2.out.size))
        clear hb3 Hb2 H3
        cases hP : xparB l with
        | false =>
          obtain rfl := hno.out (by rw [hmb.out, HA.out, hP]; rfl)
          clear hno hyes hmb HA hP
          go_wp2
          go_ret
          exact ⟨rfl, Hb3.out⟩
        | true =>
          obtain rfl := hyes.out (by rw [hmb.out, HA.out, hP]; rfl)
          clear hno hyes hmb HA hP
          go_wp2
          go_ret
          exact ⟨rfl, Hb3.out⟩
set_option maxRecDepth 100000 in
theorem xmany_any (v : Value) (l : List Xt) (w : World) (hv : EV xtE w v l) (hl : l.length * 16 ≤ 140737488355328) (hr : ∀ x ∈ l, XOK x) :
    Calls Tryd.prog 19 #[v] w fun e w' => e = .returned (.int .i64 (xmanS l)) ∧ Below w.heap.size w w' := by
  have H1 := Lib.hid (xcheck_any v l 1024 w hv hl hr)
  obtain ⟨a, c, rfl, hs, hz, hc, hm⟩ := hv
  have Hs := Lib.hid hs
  obtain ⟨n, hn⟩ : ∃ n, l.length = n := ⟨_, rfl⟩
  have Hn := Lib.hid hn
  have hn9 : n ≤ 9223372036854775807 := by omega
  rw [hn] at H1 ⊢
  clear hs hr hz hc hm hn hl
  by_cases hb : xmayB l 1024 = true
  · rw [if_pos hb, errC_0] at H1
    have hM := Lib.hid ((xmayB_iff _ _).1 hb)
    obtain ⟨S, hS⟩ : ∃ S, xsumM l = S := ⟨_, rfl⟩
    have hS9 := hM.out.sum
    rw [hS] at hS9
    have HS := Lib.hid hS
    have e1 : xmanS l = S := by unfold xmanS; rw [if_pos hb, hS]
    rw [e1]
    clear e1 hb hS
    go_enter Tryd.func19, Tryd.ntmps19
    go_wp2_with fail
    refine H1.out.mono ?_
    rintro e w1 ⟨rfl, hb1⟩
    have Hb1 := Lib.hid hb1
    clear hb1 H1
    go_wp2_with fail
    go_loopw [3, 11] (fun t i wr => ∃ (k : Nat) (A : Int), t = .int .i64 A ∧ i = .int .i64 k ∧ k ≤ n ∧ 0 ≤ A ∧ Hid (A + xsumM (l.drop k) = S) ∧ Hid (Below w.heap.size w wr)) (fun _ i _ => n - (intOf i).toNat)
    case atStart => exact ⟨0, 0, rfl, rfl, by omega, by omega, by show _ = _; rw [List.drop_zero, HS.out]; omega, Hb1.out⟩
    case round =>
      obtain ⟨k, A, rfl, rfl, hk, hA, hAS, hB⟩ := hrel
      by_cases hlt : k < n
      · obtain ⟨g, o, rfl, hcell⟩ := (Hs.out.below hB.out (Nat.le_refl _)).xts (by rw [Hn.out]; omega)
        obtain ⟨q0, q1⟩ := hcell k (by rw [Hn.out]; exact hlt)
        have hx := hM.out.ins (xt l k) (xt_mem l k (by rw [Hn.out]; exact hlt))
        have hA2 := hAS.out
        rw [xt_drop l k (by rw [Hn.out]; exact hlt), xsumM] at hA2
        have hpos := xsumM_pos (l.drop (k + 1)) (fun x hx => by have := (hM.out.ins x (List.mem_of_mem_drop hx)).2.1; omega)
        generalize xt l k = y at *
        obtain ⟨F, M⟩ := y
        obtain ⟨f1, f2, f3⟩ := hx
        dsimp only at q0 q1 f1 f2 f3 hA2
        have hB2 : Hid (Below w.heap.size w (wr.alloc (.cells #[.int .i64 F, .int .i64 M] XT))) := hB.out.alloc hB.out.size _
        obtain ⟨Z, hZ⟩ : ∃ Z, A + M = Z := ⟨_, rfl⟩
        have HA : Hid (Z + xsumM (l.drop (k + 1)) = S) := by show _ = _; omega
        have hZ9 : 0 ≤ Z ∧ Z ≤ 1024 := by omega
        have hwz : IntKind.i64.wrap (A + M) = Z := by rw [IntKind.wrap_i64]; omega
        clear hcell hAS hA2 hB hpos hZ
        go_wp2
        go_roundw
        case rel => exact ⟨k + 1, Z, rfl, by go_num, by omega, hZ9.1, HA, hB2⟩
        case measure => simp [intOf]; omega
      · obtain rfl : k = n := by omega
        have e1 : A = S := by have := hAS.out; rw [List.drop_of_length_le (by rw [Hn.out]; exact Nat.le_refl _)] at this; simp only [xsumM] at this; omega
        subst e1
        go_wp2
        go_ret
        exact ⟨rfl, hB.out⟩
  · rw [if_neg hb, errC_1] at H1
    have e1 : xmanS l = 0 := by unfold xmanS; rw [if_neg hb]
    rw [e1]
    clear e1 hb
    go_enter Tryd.func19, Tryd.ntmps19
    go_wp2_with fail
    refine H1.out.mono ?_
    rintro e w1 ⟨rfl, hb1⟩
    have Hb1 := Lib.hid hb1
    clear hb1 H1
    go_wp2
    go_ret
    exact ⟨rfl, Hb1.out⟩
end Go.Proofs.YtcimhcibkbbkdaaDoor
