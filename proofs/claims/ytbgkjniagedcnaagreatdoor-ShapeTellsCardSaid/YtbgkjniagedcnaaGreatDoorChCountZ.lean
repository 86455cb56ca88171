/-
  chain's Count.
  shape's taken, mayLie, mayBe, Most, Pages.
  shape's mayBe, Most.
-/
import Derived.Test.YtbgkjniagedcnaaGreatDoorProg
import Derived.Test.YtbgkjniagedcnaaGreatDoorChainMathZ
import Derived.WalkKit
import Derived.Lib.Hide
import Derived.Test.YtbgkjniagedcnaaGreatDoorNodeZ
import Derived.Test.YtbgkjniagedcnaaGreatDoorVarSizeZ
import Derived.Test.YtbgkjniagedcnaaGreatDoorKeysChkZ
import Derived.Test.YtbgkjniagedcnaaGreatDoorFillMostZ
import Derived.Test.YtbgkjniagedcnaaGreatDoorTurnZ
namespace Go.Proofs.YtbgkjniagedcnaaGreatDoor
open Go Go.RowKit

theorem count_any (x : Int) (w : World) (h1 : -9223372036854775808 ≤ x) (h2 : x ≤ 9223372036854775807) : Calls Tryz.prog 45 #[.int .i64 x] w fun e w' => e = .returned (.int .i64 (cntS x)) ∧ w = w' := by
  by_cases h : x < 1
  · have d1 : decide (x < 1) = true := decide_eq_true h
    have e : cntS x = 0 := by unfold cntS; rw [if_pos h]
    rw [e]
    clear e
    go_enter Tryz.func45, Tryz.ntmps45
    go_wp2
    go_ret
    exact ⟨rfl, rfl⟩
  · have d1 : decide (x < 1) = false := decide_eq_false h
    have e : Hid (cntS x = (x - 1).tdiv 502 + 1) := by
      show _ = _
      unfold cntS; rw [if_neg h, Int.tdiv_eq_ediv_of_nonneg (by omega)]
    have b1 : 0 ≤ (x - 1).tdiv 502 := by rw [Int.tdiv_eq_ediv_of_nonneg (by omega)]; omega
    have b2 : (x - 1).tdiv 502 ≤ 9223372036854775806 := by rw [Int.tdiv_eq_ediv_of_nonneg (by omega)]; omega
    generalize hq : (x - 1).tdiv 502 = q at *
    go_enter Tryz.func45, Tryz.ntmps45
    go_wp2
    go_ret
    exact ⟨by rw [e.out]; rfl, rfl⟩
end Go.Proofs.YtbgkjniagedcnaaGreatDoor
namespace Go.Proofs.YtbgkjniagedcnaaGreatDoor
open Go Go.RowKit

set_option maxRecDepth 100000 in
theorem taken_any (a : Option Addr) (n c : Nat) (es : List En) (w : World) (hn : es.length = n) (hs : ES entE w a es) (hok : ∀ x ∈ es, okE x) (hl : n ≤ 5000) :
    Calls Tryz.prog 25 #[.slice a n c] w fun e w' => e = .returned (.tuple #[.int .i64 (szs es : Nat), .int .i64 (pgs es : Nat)]) ∧ Below w.heap.size w w' := by
  have Hs := Lib.hid hs
  have Hok := Lib.hid hok
  have Hn := Lib.hid hn
  clear hs hok hn
  go_enter Tryz.func25, Tryz.ntmps25
  go_wp2_with fail
  go_loopw [4, 5, 7, 10] (fun t p _ i wr => ∃ k T P : Nat, t = .int .i64 T ∧ p = .int .i64 P ∧ i = .int .i64 k ∧ k ≤ n ∧ T ≤ 106 * k ∧ P ≤ 5 * k ∧ Hid (T = szs (es.take k) ∧ P = pgs (es.take k)) ∧ Hid (Below w.heap.size w wr)) (fun _ _ _ i _ => n - (intOf i).toNat)
  case atStart => exact ⟨0, 0, 0, rfl, rfl, rfl, by omega, by omega, by omega, ⟨rfl, rfl⟩, Below.refl _ _⟩
  case round =>
    obtain ⟨k, T, P, rfl, rfl, rfl, hk, hT, hP, hI, hB⟩ := hrel
    by_cases hlt : k < n
    · obtain ⟨g, o, rfl, hcell⟩ := (Hs.out.below hB.out (Nat.le_refl _)).ents (by rw [Hn.out]; omega)
      obtain ⟨p0, p1⟩ := hcell k (by rw [Hn.out]; exact hlt)
      have hoke := Hok.out (ea es k) (ea_mem (by rw [Hn.out]; exact hlt))
      have hks := okK_size hoke.1
      have hvs := hoke.2
      have hsr := (szE_range hoke).2
      have hpr := pgE_le hoke
      have hal : Hid (Below w.heap.size w (wr.alloc (.cells #[.string (ea es k).k, .string (ea es k).v] ET))) := hB.out.alloc hB.out.size _
      have Hsz := Lib.hid (leafSize_any (ea es k).k (ea es k).v.size (wr.alloc (.cells #[.string (ea es k).k, .string (ea es k).v] ET)) (by omega) (by omega))
      have Hcn := Lib.hid (count_any ((ea es k).v.size : Nat) (wr.alloc (.cells #[.string (ea es k).k, .string (ea es k).v] ET)) (by omega) (by omega))
      rw [cnt_np] at Hcn
      have e1 : Hid (sizeS (ea es k).k ((ea es k).v.size : Int) = szE (ea es k)) := rfl
      rw [e1.out] at Hsz
      have e2 : Hid (szs (es.take (k + 1)) = T + szE (ea es k) ∧ pgs (es.take (k + 1)) = P + pnE (ea es k)) := by
        rw [szs_succ es k (by rw [Hn.out]; exact hlt), pgs_succ es k (by rw [Hn.out]; exact hlt)]
        exact ⟨by rw [hI.out.1], by rw [hI.out.2]⟩
      have e3 : Hid (pnE (ea es k) = if 64 < (ea es k).v.size then nP (ea es k).v.size else 0) := rfl
      generalize szE (ea es k) = S at *
      generalize pnE (ea es k) = Q at *
      generalize ea es k = y at *
      obtain ⟨yk, yv⟩ := y
      dsimp only at p0 p1 Hsz Hcn hks hvs hal e3
      clear hcell hoke e1 hB hI
      by_cases h64 : 64 < yv.size
      · have d1 : decide (64 < (yv.size : Int)) = true := decide_eq_true (by omega)
        have hQ : nP yv.size = Q := by rw [e3.out, if_pos h64]
        rw [hQ] at Hcn
        clear e3 hQ
        go_wp2_with fail
        refine Hsz.out.mono ?_
        rintro e w' ⟨rfl, rfl⟩
        go_wp2_with fail
        refine Hcn.out.mono ?_
        rintro e w' ⟨rfl, rfl⟩
        go_wp2_with fail
        go_roundw
        case rel => exact ⟨k + 1, T + S, P + Q, by go_num, by go_num, by go_num, by omega, by omega, by omega, ⟨e2.out.1.symm, e2.out.2.symm⟩, hal⟩
        case measure => simp [intOf]; omega
      · have d1 : decide (64 < (yv.size : Int)) = false := decide_eq_false (by omega)
        have hQ : Hid (Q = 0) := by show _ = _; rw [e3.out, if_neg h64]
        clear e3 Hcn
        go_wp2_with fail
        refine Hsz.out.mono ?_
        rintro e w' ⟨rfl, rfl⟩
        go_wp2_with fail
        go_roundw
        case rel => exact ⟨k + 1, T + S, P, by go_num, rfl, by go_num, by omega, by omega, by omega, ⟨e2.out.1.symm, by rw [e2.out.2, hQ.out]; rfl⟩, hal⟩
        case measure => simp [intOf]; omega
    · obtain rfl : k = n := by omega
      have e1 : Hid (T = szs es ∧ P = pgs es) := by have := hI.out; rw [List.take_of_length_le (by rw [Hn.out]; exact Nat.le_refl _)] at this; exact this
      clear hI
      go_wp2
      go_ret2
      exact ⟨by rw [← e1.out.1, ← e1.out.2]; rfl, hB.out⟩
theorem mayLie_any (y : En) (w : World) (hk : y.k.size ≤ 1000000) (hv : y.v.size ≤ 1000000) : Calls Tryz.prog 43 #[.agg #[.string y.k, .string y.v]] w fun e w' => e = .returned (.bool (okB y)) ∧ Below w.heap.size w w' := by
  have HB : Hid (Below w.heap.size w (w.alloc (.cells #[.string y.k, .string y.v] ET))) := (Below.refl _ _).alloc (Nat.le_refl _) _
  have Hc := Lib.hid (check_any y.k (w.alloc (.cells #[.string y.k, .string y.v] ET)))
  have hO : Hid (okB y = (okK y.k && decide (y.v.size ≤ 2048))) := rfl
  generalize okB y = D at *
  obtain ⟨yk, yv⟩ := y
  dsimp only at *
  unfold chkV at Hc
  cases hd : okK yk with
  | true =>
    rw [hd] at Hc hO
    have hcc := Hc.out
    rw [if_pos rfl] at hcc
    have Hcc := Lib.hid hcc
    by_cases h2 : yv.size ≤ 2048
    · have d1 : decide ((yv.size : Int) ≤ 2048) = true := decide_eq_true (by omega)
      have hD : Hid (D = true) := by show _ = _; rw [hO.out]; simp [h2]
      clear hO Hc hcc hd
      go_enter Tryz.func43, Tryz.ntmps43
      go_wp2_with fail
      refine Hcc.out.mono ?_
      rintro e w' ⟨rfl, rfl⟩
      go_wp2
      go_ret
      exact ⟨by rw [hD.out]; rfl, HB.out⟩
    · have d1 : decide ((yv.size : Int) ≤ 2048) = false := decide_eq_false (by omega)
      have hD : Hid (D = false) := by show _ = _; rw [hO.out]; simp [h2]
      clear hO Hc hcc hd
      go_enter Tryz.func43, Tryz.ntmps43
      go_wp2_with fail
      refine Hcc.out.mono ?_
      rintro e w' ⟨rfl, rfl⟩
      go_wp2
      go_ret
      exact ⟨by rw [hD.out]; rfl, HB.out⟩
  | false =>
    rw [hd] at Hc hO
    have hcc := Hc.out
    rw [if_neg (by decide)] at hcc
    have Hcc := Lib.hid hcc
    have hD : Hid (D = false) := by show _ = _; rw [hO.out]; rfl
    clear hO Hc hcc hd
    go_enter Tryz.func43, Tryz.ntmps43
    go_wp2_with fail
    refine Hcc.out.mono ?_
    rintro e w' ⟨rfl, rfl⟩
    go_wp2
    go_ret
    exact ⟨by rw [hD.out]; rfl, HB.out⟩
theorem pages_any (x0 x1 x5 : Int) (L B P : Nat) (w : World) (h : L + B + P ≤ 1000000000) : Calls Tryz.prog 14 #[.agg #[.int .i64 x0, .int .i64 x1, .int .i64 L, .int .i64 B, .int .i64 P, .int .i64 x5]] w fun e w' => e = .returned (.int .i64 ((L + B + P : Nat) : Int)) ∧ Below w.heap.size w w' := by
  have HB : Hid (Below w.heap.size w (w.alloc (.cells #[.int .i64 x0, .int .i64 x1, .int .i64 L, .int .i64 B, .int .i64 P, .int .i64 x5] 42))) := (Below.refl _ _).alloc (Nat.le_refl _) _
  go_enter Tryz.func14, Tryz.ntmps14
  go_wp2
  go_ret
  exact ⟨by simp, HB.out⟩
end Go.Proofs.YtbgkjniagedcnaaGreatDoor
namespace Go.Proofs.YtbgkjniagedcnaaGreatDoor
open Go Go.RowKit

set_option maxRecDepth 100000 in
theorem mayBe_any (a : Option Addr) (n c : Nat) (es : List En) (w : World) (hn : es.length = n) (hs : ES entE w a es) (hsz : ∀ x ∈ es, x.k.size ≤ 1000000 ∧ x.v.size ≤ 1000000) (hl : n ≤ 1000000) :
    Calls Tryz.prog 24 #[.slice a n c] w fun e w' => e = .returned (.bool (mayS es)) ∧ Below w.heap.size w w' := by
  have Hs := Lib.hid hs
  have Hn := Lib.hid hn
  have Hz := Lib.hid hsz
  by_cases h4 : 4096 < n
  · have d1 : decide (4096 < (n : Int)) = true := decide_eq_true (by omega)
    have d1' : decide (4096 < n) = true := decide_eq_true h4
    have hm : Hid (mayS es = false) := by show _ = _; unfold mayS; rw [decide_eq_false (by omega)]; rfl
    clear hs hn hsz
    go_enter Tryz.func24, Tryz.ntmps24
    go_wp2
    go_ret
    exact ⟨by rw [hm.out]; rfl, Below.refl _ _⟩
  have d1 : decide (4096 < (n : Int)) = false := decide_eq_false (by omega)
  have d1' : decide (4096 < n) = false := decide_eq_false h4
  have hm : Hid (mayS es = mbB es n) := by show _ = _; unfold mayS; rw [decide_eq_true (by omega), hn]; rfl
  clear hs hn hsz h4
  go_enter Tryz.func24, Tryz.ntmps24
  go_wp2_with fail
  go_loopw [3, 4, 10] (fun _ _ i wr => ∃ k : Nat, i = .int .i64 k ∧ k ≤ n ∧ Hid (mbB es k = true) ∧ Hid (Below w.heap.size w wr)) (fun _ _ i _ => n - (intOf i).toNat)
  case atStart => exact ⟨0, rfl, by omega, rfl, Below.refl _ _⟩
  case round =>
    obtain ⟨k, rfl, hk, hI, hB⟩ := hrel
    by_cases hlt : k < n
    · obtain ⟨g, o, rfl, hcell⟩ := (Hs.out.below hB.out (Nat.le_refl _)).ents (by rw [Hn.out]; omega)
      obtain ⟨p0, p1⟩ := hcell k (by rw [Hn.out]; exact hlt)
      have hz := Hz.out (ea es k) (ea_mem (by rw [Hn.out]; exact hlt))
      obtain ⟨W0, hW0, hnew, hb0⟩ : ∃ W0, wr.alloc (.cells #[.string (ea es k).k, .string (ea es k).v] ET) = W0 ∧ W0.heap[wr.heap.size]? = some (.cells #[.string (ea es k).k, .string (ea es k).v] ET (0, 0)) ∧ Below wr.heap.size wr W0 := ⟨_, rfl, heap_new _ _ _, (Below.refl _ _).alloc (Nat.le_refl _) _⟩
      obtain ⟨W, hW⟩ : ∃ W, W0.drew = W := ⟨_, rfl⟩
      have hbd : Below W0.heap.size W0 W := by rw [← hW]; exact (Below.refl _ _).drew
      have lnew := (Array.getElem?_eq_some_iff.1 hnew).1
      have hnewW : W.heap[wr.heap.size]? = _ := (hbd.block _ lnew).trans hnew
      have lW := (Array.getElem?_eq_some_iff.1 hnewW).1
      have r0 : ∀ w', Ext W w' → w'.cell? ⟨wr.heap.size, 0, none⟩ = some (.string (ea es k).k) := fun w' hx => by
        have h1 := (hx.block _ lW).trans hnewW
        simp [World.cell?, h1]
      have r1 : ∀ w', Ext W w' → w'.cell? ⟨wr.heap.size, 1, none⟩ = some (.string (ea es k).v) := fun w' hx => by
        have h1 := (hx.block _ lW).trans hnewW
        simp [World.cell?, h1]
      have hbW : Below wr.heap.size wr W := hb0.trans (hbd.mono hb0.size)
      have HBW := Lib.hid (hB.out.trans (hbW.mono hB.out.size))
      have Hml := Lib.hid (mayLie_any (ea es k) W hz.1 hz.2)
      have HW : Hid ((wr.alloc (.cells #[.string (ea es k).k, .string (ea es k).v] ET)).drew = W) := by show _ = _; rw [hW0, hW]
      have Hst : Hid (stepB es k = (okB (ea es k) && (decide (k = 0) || blt (ea es (k - 1)).k (ea es k).k))) := rfl
      have Hyes : Hid (stepB es k = true → mbB es (k + 1) = true) := fun h => by rw [mbB, hI.out, h]; rfl
      have Hno : Hid (stepB es k = false → mbB es n = false) := fun h => mbB_no es k h n hlt
      generalize stepB es k = SD at *
      generalize okB (ea es k) = OD at *
      by_cases h0 : k = 0
      · have d0 : decide (0 < (k : Int)) = false := decide_eq_false (by omega)
        have d0' : decide (0 < k) = false := decide_eq_false (by omega)
        have hst : Hid (SD = OD) := by show _ = _; rw [Hst.out, h0]; simp
        generalize ea es k = y at *
        obtain ⟨yk, yv⟩ := y
        dsimp only at p0 p1 Hml HW r0 r1
        clear hcell hz hW0 hnew hb0 hW hbd lnew hnewW lW hbW Hst hI hB h0
        cases OD with
        | true =>
          have hmk := Lib.hid (Hyes.out hst.out)
          clear Hyes Hno hst
          go_wp2_with fail
          refine wp_region_gr [(0, true), (1, false), (2, true), (3, true), (4, true), (5, true), (6, true), (7, true), (8, true), (9, true), (10, true), (11, true), (12, true), (13, true), (14, true), (15, true), (16, true), (17, true)] (by kernel_rfl) (by kernel_rfl) (by kernel_rfl) (by kernel_rfl) (fun _ _ _ _ _ h => h) ?_
          rw [HW.out]
          iterate 1 (refine wpGr_read (o := ⟨_, _, _, _, _, _⟩) (v := ?_) rfl (by rfl) ?_ ?_; rotate_left; (intro w' hw'; go_simp; with_reducible rfl); simp only [Act.put, List.setIfInBounds_toArray, List.set_cons_zero, List.set_cons_succ])
          clear r0 r1
          refine wpGr_call (o := ⟨_, _, _, _, _, _⟩) rfl (by rfl) (fun K hK => ?_)
          go_simp
          refine Hml.out.mono ?_
          rintro e w2 ⟨rfl, hb2⟩
          refine hK _ _ hb2 ?_
          clear hK K Hml
          have HB2 := Lib.hid (HBW.out.trans (hb2.mono HBW.out.size))
          clear hb2
          iterate 16 (first | (refine wpGr_read (o := ⟨_, _, _, _, _, _⟩) (v := ?_) rfl (by rfl) ?_ ?_; rotate_left; (intro w' hw'; go_simp; with_reducible rfl); simp only [Act.put, List.setIfInBounds_toArray, List.set_cons_zero, List.set_cons_succ]) | (refine wpGr_skip (o := ⟨_, _, _, _, _, _⟩) rfl (by rfl) ?_; simp only [Act.put, List.setIfInBounds_toArray, List.set_cons_zero, List.set_cons_succ]))
          refine wpGr_done ?_
          go_wp2_with fail
          go_roundw
          case rel => exact ⟨k + 1, by go_num, by omega, hmk, HB2⟩
          case measure => simp [intOf]; omega
        | false =>
          have hmk := Lib.hid (Hno.out hst.out)
          clear Hyes Hno hst
          go_wp2_with fail
          refine wp_region_gr [(0, true), (1, false), (2, true), (3, true), (4, true), (5, true), (6, true), (7, true), (8, true), (9, true), (10, true), (11, true), (12, true), (13, true), (14, true), (15, true), (16, true), (17, true)] (by kernel_rfl) (by kernel_rfl) (by kernel_rfl) (by kernel_rfl) (fun _ _ _ _ _ h => h) ?_
          rw [HW.out]
          iterate 1 (refine wpGr_read (o := ⟨_, _, _, _, _, _⟩) (v := ?_) rfl (by rfl) ?_ ?_; rotate_left; (intro w' hw'; go_simp; with_reducible rfl); simp only [Act.put, List.setIfInBounds_toArray, List.set_cons_zero, List.set_cons_succ])
          clear r0 r1
          refine wpGr_call (o := ⟨_, _, _, _, _, _⟩) rfl (by rfl) (fun K hK => ?_)
          go_simp
          refine Hml.out.mono ?_
          rintro e w2 ⟨rfl, hb2⟩
          refine hK _ _ hb2 ?_
          clear hK K Hml
          have HB2 := Lib.hid (HBW.out.trans (hb2.mono HBW.out.size))
          clear hb2
          iterate 16 (first | (refine wpGr_read (o := ⟨_, _, _, _, _, _⟩) (v := ?_) rfl (by rfl) ?_ ?_; rotate_left; (intro w' hw'; go_simp; with_reducible rfl); simp only [Act.put, List.setIfInBounds_toArray, List.set_cons_zero, List.set_cons_succ]) | (refine wpGr_skip (o := ⟨_, _, _, _, _, _⟩) rfl (by rfl) ?_; simp only [Act.put, List.setIfInBounds_toArray, List.set_cons_zero, List.set_cons_succ]))
          refine wpGr_done ?_
          go_wp2_with fail
          go_ret
          exact ⟨by rw [hm.out, hmk.out]; rfl, HB2.out⟩
      · obtain ⟨j, hj⟩ : ∃ j, k = j + 1 := ⟨k - 1, by omega⟩
        have d0 : decide (0 < (k : Int)) = true := decide_eq_true (by omega)
        have d0' : decide (0 < k) = true := decide_eq_true (by omega)
        have z0 : IntKind.i64.wrap ((k : Int) - 1) = (j : Int) := by rw [IntKind.wrap_i64]; omega
        have z1 : IntKind.i64.wrap (j : Int) = (j : Int) := by rw [IntKind.wrap_i64]; omega
        have i1 : (0 : Int) ≤ (j : Int) := by omega
        have i2 : (j : Int) < (n : Int) := by omega
        have i3 : j < n := by omega
        obtain ⟨p2, _⟩ := hcell j (by rw [Hn.out]; omega)
        have lp2 := block_lt_of_cell p2
        have r2 : ∀ w', Ext W w' → w'.cell? ⟨g, o + j * 2, none⟩ = some (.string (ea es j).k) := fun w' hx => by
          rw [(hbW.trans (hx.mono hbW.size)).cell (p := ⟨g, o + j * 2, none⟩) lp2]; exact p2
        have hst : Hid (SD = (OD && blt (ea es j).k (ea es k).k)) := by
          show _ = _; rw [Hst.out, decide_eq_false h0, show k - 1 = j by omega]; rfl
        have hle := ble_eq (ea es k).k (ea es j).k
        generalize ea es k = y at *
        generalize ea es j = x at *
        obtain ⟨yk, yv⟩ := y
        obtain ⟨xk, xv⟩ := x
        dsimp only at p0 p1 p2 Hml HW r0 r1 r2 hle hst
        have Hj := Lib.hid hj
        clear hcell hz hW0 hnew hb0 hW hbd lnew hnewW lW hbW Hst hI hB h0 p2 lp2 hj
        cases OD with
        | false =>
          have hmk := Lib.hid (Hno.out (by rw [hst.out]; rfl))
          clear Hyes Hno hst r2 hle
          go_wp2_with fail
          refine wp_region_gr [(0, true), (1, false), (2, true), (3, true), (4, true), (5, true), (6, true), (7, true), (8, true), (9, true), (10, true), (11, true), (12, true), (13, true), (14, true), (15, true), (16, true), (17, true)] (by kernel_rfl) (by kernel_rfl) (by kernel_rfl) (by kernel_rfl) (fun _ _ _ _ _ h => h) ?_
          rw [HW.out]
          iterate 1 (refine wpGr_read (o := ⟨_, _, _, _, _, _⟩) (v := ?_) rfl (by rfl) ?_ ?_; rotate_left; (intro w' hw'; go_simp; with_reducible rfl); simp only [Act.put, List.setIfInBounds_toArray, List.set_cons_zero, List.set_cons_succ])
          clear r0 r1
          refine wpGr_call (o := ⟨_, _, _, _, _, _⟩) rfl (by rfl) (fun K hK => ?_)
          go_simp
          refine Hml.out.mono ?_
          rintro e w2 ⟨rfl, hb2⟩
          refine hK _ _ hb2 ?_
          clear hK K Hml
          have HB2 := Lib.hid (HBW.out.trans (hb2.mono HBW.out.size))
          clear hb2
          iterate 16 (first | (refine wpGr_read (o := ⟨_, _, _, _, _, _⟩) (v := ?_) rfl (by rfl) ?_ ?_; rotate_left; (intro w' hw'; go_simp; with_reducible rfl); simp only [Act.put, List.setIfInBounds_toArray, List.set_cons_zero, List.set_cons_succ]) | (refine wpGr_skip (o := ⟨_, _, _, _, _, _⟩) rfl (by rfl) ?_; simp only [Act.put, List.setIfInBounds_toArray, List.set_cons_zero, List.set_cons_succ]))
          refine wpGr_done ?_
          go_wp2_with fail
          go_ret
          exact ⟨by rw [hm.out, hmk.out]; rfl, HB2.out⟩
        | true =>
          rw [Bool.true_and] at hst
          generalize blt xk yk = D at *
          cases D with
          | true =>
            have hmk := Lib.hid (Hyes.out hst.out)
            clear Hyes Hno hst
            go_wp2_with fail
            refine wp_region_gr [(0, true), (1, false), (2, true), (3, true), (4, true), (5, true), (6, true), (7, true), (8, true), (9, true), (10, true), (11, true), (12, true), (13, true), (14, true), (15, true), (16, true), (17, true)] (by kernel_rfl) (by kernel_rfl) (by kernel_rfl) (by kernel_rfl) (fun _ _ _ _ _ h => h) ?_
            rw [HW.out]
            iterate 1 (refine wpGr_read (o := ⟨_, _, _, _, _, _⟩) (v := ?_) rfl (by rfl) ?_ ?_; rotate_left; (intro w' hw'; go_simp; with_reducible rfl); simp only [Act.put, List.setIfInBounds_toArray, List.set_cons_zero, List.set_cons_succ])
            refine wpGr_call (o := ⟨_, _, _, _, _, _⟩) rfl (by rfl) (fun K hK => ?_)
            go_simp
            refine Hml.out.mono ?_
            rintro e w2 ⟨rfl, hb2⟩
            refine hK _ _ hb2 ?_
            clear hK K Hml
            have HB2 := Lib.hid (HBW.out.trans (hb2.mono HBW.out.size))
            replace r0 : ∀ w', Ext w2 w' → w'.cell? ⟨wr.heap.size, 0, none⟩ = some (.string yk) := fun w' hx => r0 w' (Ext.trans hb2 hx)
            replace r2 : ∀ w', Ext w2 w' → w'.cell? ⟨g, o + j * 2, none⟩ = some (.string xk) := fun w' hx => r2 w' (Ext.trans hb2 hx)
            clear hb2 r1
            iterate 16 (first | (refine wpGr_read (o := ⟨_, _, _, _, _, _⟩) (v := ?_) rfl (by rfl) ?_ ?_; rotate_left; (intro w' hw'; go_simp; with_reducible rfl); simp only [Act.put, List.setIfInBounds_toArray, List.set_cons_zero, List.set_cons_succ]) | (refine wpGr_skip (o := ⟨_, _, _, _, _, _⟩) rfl (by rfl) ?_; simp only [Act.put, List.setIfInBounds_toArray, List.set_cons_zero, List.set_cons_succ]))
            refine wpGr_done ?_
            clear r0 r2
            go_wp2_with fail
            go_roundw
            case rel => exact ⟨k + 1, by go_num, by omega, hmk, HB2⟩
            case measure => simp [intOf]; omega
          | false =>
            have hmk := Lib.hid (Hno.out hst.out)
            clear Hyes Hno hst
            go_wp2_with fail
            refine wp_region_gr [(0, true), (1, false), (2, true), (3, true), (4, true), (5, true), (6, true), (7, true), (8, true), (9, true), (10, true), (11, true), (12, true), (13, true), (14, true), (15, true), (16, true), (17, true)] (by kernel_rfl) (by kernel_rfl) (by kernel_rfl) (by kernel_rfl) (fun _ _ _ _ _ h => h) ?_
            rw [HW.out]
            iterate 1 (refine wpGr_read (o := ⟨_, _, _, _, _, _⟩) (v := ?_) rfl (by rfl) ?_ ?_; rotate_left; (intro w' hw'; go_simp; with_reducible rfl); simp only [Act.put, List.setIfInBounds_toArray, List.set_cons_zero, List.set_cons_succ])
            refine wpGr_call (o := ⟨_, _, _, _, _, _⟩) rfl (by rfl) (fun K hK => ?_)
            go_simp
            refine Hml.out.mono ?_
            rintro e w2 ⟨rfl, hb2⟩
            refine hK _ _ hb2 ?_
            clear hK K Hml
            have HB2 := Lib.hid (HBW.out.trans (hb2.mono HBW.out.size))
            replace r0 : ∀ w', Ext w2 w' → w'.cell? ⟨wr.heap.size, 0, none⟩ = some (.string yk) := fun w' hx => r0 w' (Ext.trans hb2 hx)
            replace r2 : ∀ w', Ext w2 w' → w'.cell? ⟨g, o + j * 2, none⟩ = some (.string xk) := fun w' hx => r2 w' (Ext.trans hb2 hx)
            clear hb2 r1
            iterate 16 (first | (refine wpGr_read (o := ⟨_, _, _, _, _, _⟩) (v := ?_) rfl (by rfl) ?_ ?_; rotate_left; (intro w' hw'; go_simp; with_reducible rfl); simp only [Act.put, List.setIfInBounds_toArray, List.set_cons_zero, List.set_cons_succ]) | (refine wpGr_skip (o := ⟨_, _, _, _, _, _⟩) rfl (by rfl) ?_; simp only [Act.put, List.setIfInBounds_toArray, List.set_cons_zero, List.set_cons_succ]))
            refine wpGr_done ?_
            clear r0 r2
            go_wp2_with fail
            go_ret
            exact ⟨by rw [hm.out, hmk.out]; rfl, HB2.out⟩
    · obtain rfl : k = n := by omega
      go_wp2
      go_ret
      exact ⟨by rw [hm.out, hI.out]; rfl, hB.out⟩
set_option maxRecDepth 100000 in
theorem shMost_any (a : Option Addr) (n c : Nat) (es : List En) (w : World) (hn : es.length = n) (hs : ES entE w a es) (hsz : ∀ x ∈ es, x.k.size ≤ 1000000 ∧ x.v.size ≤ 1000000) (hl : n ≤ 1000000) :
    Calls Tryz.prog 8 #[.slice a n c] w fun e w' => e = .returned (.tuple #[.int .i64 (mosN es : Nat), errC (mosE es : Nat)]) ∧ Below w.heap.size w w' := by
  have Hm := Lib.hid (mayBe_any a n c es w hn hs hsz hl)
  have Hs := Lib.hid hs
  have Hn := Lib.hid hn
  cases hD : mayS es with
  | false =>
    rw [hD] at Hm
    have e1 : Hid (mosN es = 0 ∧ mosE es = 1) := by unfold mosN mosE; rw [hD]; exact ⟨rfl, rfl⟩
    clear hs hn hsz hD
    go_enter Tryz.func8, Tryz.ntmps8
    go_wp2_with fail
    refine Hm.out.mono ?_
    rintro e w2 ⟨rfl, hb2⟩
    have HB2 := Lib.hid hb2
    clear hb2
    go_wp2
    go_ret2
    exact ⟨by rw [e1.out.1, e1.out.2]; rfl, HB2.out⟩
  | true =>
    rw [hD] at Hm
    have hok := mayS_ok hD
    have hE : Hid (mosE es = 0) := by show _ = _; unfold mosE; rw [hD]; rfl
    have hN : Hid (mosN es = if es.length = 0 then 0 else 2 * (szs es / 126 + 1) + pgs es) := by show _ = _; unfold mosN; rw [hD]; rfl
    by_cases h0 : n = 0
    · have d0 : ((n : Int) == 0) = true := by rw [beq_iff_eq]; omega
      have d0' : (n == 0) = true := by rw [beq_iff_eq]; omega
      have e1 : Hid (mosN es = 0) := by show _ = _; rw [hN.out, if_pos (by omega)]
      clear hs hn hsz hD hok h0
      go_enter Tryz.func8, Tryz.ntmps8
      go_wp2_with fail
      refine Hm.out.mono ?_
      rintro e w2 ⟨rfl, hb2⟩
      have HB2 := Lib.hid hb2
      clear hb2
      go_wp2
      go_ret2
      exact ⟨by rw [e1.out, hE.out]; rfl, HB2.out⟩
    · have d0 : ((n : Int) == 0) = false := by rw [beq_eq_false_iff_ne]; omega
      have d0' : (n == 0) = false := by rw [beq_eq_false_iff_ne]; omega
      have e1 : Hid (mosN es = 2 * (szs es / 126 + 1) + pgs es) := by show _ = _; rw [hN.out, if_neg (by omega)]
      have hz := (szs_range hok.2).2
      have hp := pgs_le hok.2
      have Htk : Hid (∀ w2, Below w.heap.size w w2 → Calls Tryz.prog 25 #[.slice a n c] w2 fun e w' => e = .returned (.tuple #[.int .i64 (szs es : Nat), .int .i64 (pgs es : Nat)]) ∧ Below w2.heap.size w2 w') := fun w2 hb => taken_any a n c es w2 hn (hs.below hb (Nat.le_refl _)) hok.2 (by have := hok.1; omega)
      have hl4 := hok.1
      have h9 : szs es ≤ 1000000 := by omega
      have h8 : pgs es ≤ 1000000 := by omega
      generalize szs es = S at *
      generalize pgs es = P at *
      obtain ⟨Q, hQ⟩ : ∃ Q, Q = S / 126 + 1 := ⟨_, rfl⟩
      have hq9 : Q ≤ 1000000 := by omega
      have Hmo : Hid (∀ w2, Calls Tryz.prog 26 #[.int .i64 S] w2 fun e w' => e = .returned (.tuple #[.int .i64 (Q : Nat), .nilIface]) ∧ w2 = w') := fun w2 => by
        have := most_any (S : Int) w2
        rw [show moN (S : Int) = (Q : Int) by unfold moN; rw [if_neg (by omega)]; omega, show moE (S : Int) = 0 by unfold moE; rw [if_neg (by omega)]] at this
        exact this
      have e2 : Hid (mosN es = 2 * Q + P) := by show _ = _; rw [e1.out, hQ]
      clear hs hn hsz hD hok h0 hz hp hl4 hN e1 hQ
      go_enter Tryz.func8, Tryz.ntmps8
      go_wp2_with fail
      refine Hm.out.mono ?_
      rintro e w2 ⟨rfl, hb2⟩
      have HB2 := Lib.hid hb2
      have Htk2 := Lib.hid (Htk.out w2 hb2)
      clear hb2 Htk Hm
      go_wp2_with fail
      refine Htk2.out.mono ?_
      rintro e w3 ⟨rfl, hb3⟩
      have HB3 := Lib.hid (HB2.out.trans (hb3.mono HB2.out.size))
      clear hb3 Htk2
      go_wp2_with fail
      refine (Hmo.out w3).mono ?_
      rintro e w4 ⟨rfl, rfl⟩
      go_wp2
      go_ret2
      exact ⟨by rw [e2.out, hE.out, show errC ((0 : Nat) : Int) = .nilIface from rfl]; simp, HB3.out⟩
end Go.Proofs.YtbgkjniagedcnaaGreatDoor
