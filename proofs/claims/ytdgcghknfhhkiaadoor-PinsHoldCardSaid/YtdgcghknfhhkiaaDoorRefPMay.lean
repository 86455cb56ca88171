/-
  The document's May.
-/
import Derived.Test.YtdgcghknfhhkiaaDoorPinArm
import Derived.Test.YtdgcghknfhhkiaaDoorGr
namespace Go.Proofs.YtdgcghknfhhkiaaDoor
open Go Go.RowKit

/-- What a cell holds is held by every world to come. -/
theorem held_on {w : World} {g o : Nat} {x : Value} (h : w.cell? ⟨g, o, none⟩ = some x) : ∀ w', Ext w.drew w' → w'.cell? ⟨g, o, none⟩ = some x := fun w' hw => by
  rw [((Below.refl w.heap.size w).drew.trans hw).cell (p := ⟨g, o, none⟩) (block_lt_of_cell h)]; exact h
set_option maxRecDepth 100000 in
set_option maxHeartbeats 2000000 in
theorem refMay_any (v : Value) (l : List Pn) (N : Nat) (w : World) (hv : PV w v l) :
    Calls Tryd.prog 16 #[.agg (psv N v)] w fun e w' => e = .returned (.bool (pmayB l N)) ∧ Below w.heap.size w w' := by
  obtain ⟨a, c, rfl, hs, hc, hm⟩ := hv
  have Hs := Lib.hid hs
  obtain ⟨n, hn⟩ : ∃ n, l.length = n := ⟨_, rfl⟩
  have Hn := Lib.hid hn
  have hn9 : n ≤ 9223372036854775807 := by unfold maxLen at hm; omega
  obtain ⟨R, hR⟩ : ∃ R, pasB 0 l N = R := ⟨_, rfl⟩
  obtain ⟨T, hT⟩ : ∃ T, pmayB l N = T := ⟨_, rfl⟩
  have HT : Hid (T = (decide (n ≤ 8) && (decide (N ≤ 4611686018427387904) && R))) := by show _ = _; rw [← hT, pmayB, hn, hR]
  have HR := Lib.hid hR
  rw [hn, hT]
  clear hs hc hm hn hR hT
  go_enter Tryd.func16, Tryd.ntmps16
  go_wp2_with (refine wpList_box_arr rfl RPS (.tmp 0) rfl (psv N (.slice a n c)) (by rfl) ?_; intro g1 w1 hg1 hk1 hb1)
  have HK1 := Lib.hid hk1
  have HB1 := Lib.hid hb1
  clear hg1 hk1 hb1
  go_loopw [3] (fun i wr => ∃ k : Nat, i = .int .i64 k ∧ k ≤ n ∧ Hid (∃ A, pasB A (l.drop k) N = R ∧ (k = 0 → A = 0) ∧ ∀ j, k = j + 1 → A = (pn l j).id ∧ 1 ≤ A) ∧ Hid (Blk wr g1 RPS (psv N (.slice a n c))) ∧ Hid (Below w.heap.size w wr)) (fun i _ => n - (intOf i).toNat)
  case atStart => exact ⟨0, rfl, by omega, ⟨0, HR.out, fun _ => rfl, fun j h => by omega⟩, HK1.out, HB1.out⟩
  case round =>
    obtain ⟨k, rfl, hk, hA, hK, hB⟩ := hrel
    have q0 := held_on hK.out.ps0
    have q1 := held_on hK.out.ps1
    have z0 := hK.out.ps0
    have z1 := hK.out.ps1
    by_cases hlt : k < n
    · have i1 : (k : Int) < (n : Int) := by omega
      have hBd : Hid (Below w.heap.size w wr.drew) := hB.out.drew
      have hKd : Hid (Blk wr.drew g1 RPS (psv N (.slice a n c))) := hK.out
      obtain ⟨A, hA1, hA2, hA3⟩ := hA.out
      obtain ⟨g, o, rfl, hcell⟩ := (Hs.out.below hB.out (Nat.le_refl _)).pin (by rw [Hn.out]; omega)
      have hck := (hcell k (by rw [Hn.out]; exact hlt)).id
      have hprev : ∀ j, k = j + 1 → wr.cell? ⟨g, o + j * 18, none⟩ = some (.int .u64 ((pn l j).id : Nat)) := fun j hj => (hcell j (by rw [Hn.out]; omega)).id
      have p0 := held_on hck
      rw [pn_drop l k (by rw [Hn.out]; exact hlt), pasB] at hA1
      obtain ⟨y, hy⟩ : ∃ y, pn l k = y := ⟨_, rfl⟩
      have HY := Lib.hid hy
      rw [hy] at p0 hA1
      clear hy
      obtain ⟨I, S, F⟩ := y
      dsimp only at hA1 p0
      clear hcell hck
      rcases Nat.eq_zero_or_pos k with hk0 | hk0
      · subst hk0
        obtain rfl := hA2 rfl
        have HA := Lib.hid hA1
        rw [Nat.zero_mul, Nat.add_zero] at p0
        clear hA hA1 hA2 hA3 hprev
        by_cases h1 : I < 1
        · have d1 : decide ((I : Int) < 1) = true := decide_eq_true (by omega)
          have eR : R = false := by rw [← HA.out, decide_eq_false (show ¬ 0 < I by omega)]; rfl
          obtain rfl : T = false := by rw [HT.out, eR, Bool.and_false, Bool.and_false]
          clear HT HA eR HY
          go_wp2_with fail
          refine wp_region_gr [(0, true), (1, true), (2, true), (3, true), (4, true), (5, true), (6, true), (7, true), (8, true), (9, true), (10, true), (11, true), (12, true), (13, true), (14, true), (15, true), (16, true), (17, true), (18, true), (19, true), (20, true), (21, true), (22, true), (23, true), (24, true), (25, true), (26, true), (27, true), (28, true), (29, true), (30, true), (31, true), (32, true), (33, true), (34, true), (35, true), (36, true), (37, true)] (by kernel_rfl) (by kernel_rfl) (by kernel_rfl) (by kernel_rfl) (fun _ _ _ _ _ h => h) ?_
          repeat (first | (refine wpGr_read (o := ⟨_, _, _, _, _, _⟩) (v := ?_) rfl (by rfl) ?_ ?_; rotate_left; (intro w' hw'; go_simp; with_reducible rfl); simp only [Act.put, List.setIfInBounds_toArray, List.set_cons_zero, List.set_cons_succ]) | (refine wpGr_skip (o := ⟨_, _, _, _, _, _⟩) rfl (by rfl) ?_; simp only [Act.put, List.setIfInBounds_toArray, List.set_cons_zero, List.set_cons_succ]))
          refine wpGr_done ?_
          clear q0 q1 z0 z1 p0
          go_wp2
          go_ret
          exact ⟨rfl, hBd.out⟩
        · have d1 : decide ((I : Int) < 1) = false := decide_eq_false (by omega)
          by_cases h2 : N < I
          · have d2 : decide ((N : Int) < (I : Int)) = true := decide_eq_true (by omega)
            have eR : R = false := by rw [← HA.out, decide_eq_false (show ¬ I ≤ N by omega), Bool.false_and, Bool.and_false]
            obtain rfl : T = false := by rw [HT.out, eR, Bool.and_false, Bool.and_false]
            clear HT HA eR HY
            go_wp2_with fail
            refine wp_region_gr [(0, true), (1, true), (2, true), (3, true), (4, true), (5, true), (6, true), (7, true), (8, true), (9, true), (10, true), (11, true), (12, true), (13, true), (14, true), (15, true), (16, true), (17, true), (18, true), (19, true), (20, true), (21, true), (22, true), (23, true), (24, true), (25, true), (26, true), (27, true), (28, true), (29, true), (30, true), (31, true), (32, true), (33, true), (34, true), (35, true), (36, true), (37, true)] (by kernel_rfl) (by kernel_rfl) (by kernel_rfl) (by kernel_rfl) (fun _ _ _ _ _ h => h) ?_
            repeat (first | (refine wpGr_read (o := ⟨_, _, _, _, _, _⟩) (v := ?_) rfl (by rfl) ?_ ?_; rotate_left; (intro w' hw'; go_simp; with_reducible rfl); simp only [Act.put, List.setIfInBounds_toArray, List.set_cons_zero, List.set_cons_succ]) | (refine wpGr_skip (o := ⟨_, _, _, _, _, _⟩) rfl (by rfl) ?_; simp only [Act.put, List.setIfInBounds_toArray, List.set_cons_zero, List.set_cons_succ]))
            refine wpGr_done ?_
            clear q0 q1 z0 z1 p0
            go_wp2
            go_ret
            exact ⟨rfl, hBd.out⟩
          · have d2 : decide ((N : Int) < (I : Int)) = false := decide_eq_false (by omega)
            have e1 : Hid (pasB I (l.drop 1) N = R) := by
              show _ = _
              have := HA.out
              rw [decide_eq_true (show 0 < I by omega), decide_eq_true (show I ≤ N by omega), Bool.true_and, Bool.true_and] at this
              exact this
            clear HA
            go_wp2_with fail
            refine wp_region_gr [(0, true), (1, true), (2, true), (3, true), (4, true), (5, true), (6, true), (7, true), (8, true), (9, true), (10, true), (11, true), (12, true), (13, true), (14, true), (15, true), (16, true), (17, true), (18, true), (19, true), (20, true), (21, true), (22, true), (23, true), (24, true), (25, true), (26, true), (27, true), (28, true), (29, true), (30, true), (31, true), (32, true), (33, true), (34, true), (35, true), (36, true), (37, true)] (by kernel_rfl) (by kernel_rfl) (by kernel_rfl) (by kernel_rfl) (fun _ _ _ _ _ h => h) ?_
            repeat (first | (refine wpGr_read (o := ⟨_, _, _, _, _, _⟩) (v := ?_) rfl (by rfl) ?_ ?_; rotate_left; (intro w' hw'; go_simp; with_reducible rfl); simp only [Act.put, List.setIfInBounds_toArray, List.set_cons_zero, List.set_cons_succ]) | (refine wpGr_skip (o := ⟨_, _, _, _, _, _⟩) rfl (by rfl) ?_; simp only [Act.put, List.setIfInBounds_toArray, List.set_cons_zero, List.set_cons_succ]))
            refine wpGr_done ?_
            clear q0 q1 z0 z1 p0
            go_wp2
            go_roundw
            case rel => exact ⟨1, by go_num, by omega, ⟨I, e1.out, (fun h => by omega), fun j h => by obtain rfl : j = 0 := (by omega); exact ⟨by rw [HY.out], by omega⟩⟩, hKd, hBd⟩
            case measure => simp [intOf]; omega
      · obtain ⟨j, hj⟩ : ∃ j, k = j + 1 := ⟨k - 1, by omega⟩
        obtain ⟨rfl, hA4⟩ := hA3 j hj
        have pp := held_on (hprev j hj)
        generalize (pn l j).id = A at *
        have HA := Lib.hid hA1
        have hw : IntKind.i64.wrap ((k : Int) - 1) = (j : Int) := by rw [IntKind.wrap_i64]; omega
        have i2 : (0 : Int) < (k : Int) := by omega
        have i3 : (j : Int) < (n : Int) := by omega
        clear hA hA1 hA2 hA3 hprev hj
        by_cases h1 : I < 1
        · have d1 : decide ((I : Int) < 1) = true := decide_eq_true (by omega)
          have eR : R = false := by rw [← HA.out, decide_eq_false (show ¬ A < I by omega)]; rfl
          obtain rfl : T = false := by rw [HT.out, eR, Bool.and_false, Bool.and_false]
          clear HT HA eR HY
          go_wp2_with fail
          refine wp_region_gr [(0, true), (1, true), (2, true), (3, true), (4, true), (5, true), (6, true), (7, true), (8, true), (9, true), (10, true), (11, true), (12, true), (13, true), (14, true), (15, true), (16, true), (17, true), (18, true), (19, true), (20, true), (21, true), (22, true), (23, true), (24, true), (25, true), (26, true), (27, true), (28, true), (29, true), (30, true), (31, true), (32, true), (33, true), (34, true), (35, true), (36, true), (37, true)] (by kernel_rfl) (by kernel_rfl) (by kernel_rfl) (by kernel_rfl) (fun _ _ _ _ _ h => h) ?_
          repeat (first | (refine wpGr_read (o := ⟨_, _, _, _, _, _⟩) (v := ?_) rfl (by rfl) ?_ ?_; rotate_left; (intro w' hw'; go_simp; with_reducible rfl); simp only [Act.put, List.setIfInBounds_toArray, List.set_cons_zero, List.set_cons_succ]) | (refine wpGr_skip (o := ⟨_, _, _, _, _, _⟩) rfl (by rfl) ?_; simp only [Act.put, List.setIfInBounds_toArray, List.set_cons_zero, List.set_cons_succ]))
          refine wpGr_done ?_
          clear q0 q1 z0 z1 p0 pp
          go_wp2
          go_ret
          exact ⟨rfl, hBd.out⟩
        · have d1 : decide ((I : Int) < 1) = false := decide_eq_false (by omega)
          by_cases h2 : N < I
          · have d2 : decide ((N : Int) < (I : Int)) = true := decide_eq_true (by omega)
            have eR : R = false := by rw [← HA.out, decide_eq_false (show ¬ I ≤ N by omega), Bool.false_and, Bool.and_false]
            obtain rfl : T = false := by rw [HT.out, eR, Bool.and_false, Bool.and_false]
            clear HT HA eR HY
            go_wp2_with fail
            refine wp_region_gr [(0, true), (1, true), (2, true), (3, true), (4, true), (5, true), (6, true), (7, true), (8, true), (9, true), (10, true), (11, true), (12, true), (13, true), (14, true), (15, true), (16, true), (17, true), (18, true), (19, true), (20, true), (21, true), (22, true), (23, true), (24, true), (25, true), (26, true), (27, true), (28, true), (29, true), (30, true), (31, true), (32, true), (33, true), (34, true), (35, true), (36, true), (37, true)] (by kernel_rfl) (by kernel_rfl) (by kernel_rfl) (by kernel_rfl) (fun _ _ _ _ _ h => h) ?_
            repeat (first | (refine wpGr_read (o := ⟨_, _, _, _, _, _⟩) (v := ?_) rfl (by rfl) ?_ ?_; rotate_left; (intro w' hw'; go_simp; with_reducible rfl); simp only [Act.put, List.setIfInBounds_toArray, List.set_cons_zero, List.set_cons_succ]) | (refine wpGr_skip (o := ⟨_, _, _, _, _, _⟩) rfl (by rfl) ?_; simp only [Act.put, List.setIfInBounds_toArray, List.set_cons_zero, List.set_cons_succ]))
            refine wpGr_done ?_
            clear q0 q1 z0 z1 p0 pp
            go_wp2
            go_ret
            exact ⟨rfl, hBd.out⟩
          · have d2 : decide ((N : Int) < (I : Int)) = false := decide_eq_false (by omega)
            by_cases h3 : I ≤ A
            · have d3 : decide ((I : Int) ≤ (A : Int)) = true := decide_eq_true (by omega)
              have eR : R = false := by rw [← HA.out, decide_eq_false (show ¬ A < I by omega)]; rfl
              obtain rfl : T = false := by rw [HT.out, eR, Bool.and_false, Bool.and_false]
              clear HT HA eR HY
              go_wp2_with fail
              refine wp_region_gr [(0, true), (1, true), (2, true), (3, true), (4, true), (5, true), (6, true), (7, true), (8, true), (9, true), (10, true), (11, true), (12, true), (13, true), (14, true), (15, true), (16, true), (17, true), (18, true), (19, true), (20, true), (21, true), (22, true), (23, true), (24, true), (25, true), (26, true), (27, true), (28, true), (29, true), (30, true), (31, true), (32, true), (33, true), (34, true), (35, true), (36, true), (37, true)] (by kernel_rfl) (by kernel_rfl) (by kernel_rfl) (by kernel_rfl) (fun _ _ _ _ _ h => h) ?_
              repeat (first | (refine wpGr_read (o := ⟨_, _, _, _, _, _⟩) (v := ?_) rfl (by rfl) ?_ ?_; rotate_left; (intro w' hw'; go_simp; with_reducible rfl); simp only [Act.put, List.setIfInBounds_toArray, List.set_cons_zero, List.set_cons_succ]) | (refine wpGr_skip (o := ⟨_, _, _, _, _, _⟩) rfl (by rfl) ?_; simp only [Act.put, List.setIfInBounds_toArray, List.set_cons_zero, List.set_cons_succ]))
              refine wpGr_done ?_
              clear q0 q1 z0 z1 p0 pp
              go_wp2
              go_ret
              exact ⟨rfl, hBd.out⟩
            · have d3 : decide ((I : Int) ≤ (A : Int)) = false := decide_eq_false (by omega)
              have e1 : Hid (pasB I (l.drop (k + 1)) N = R) := by
                show _ = _
                have := HA.out
                rw [decide_eq_true (show A < I by omega), decide_eq_true (show I ≤ N by omega), Bool.true_and, Bool.true_and] at this
                exact this
              clear HA
              go_wp2_with fail
              refine wp_region_gr [(0, true), (1, true), (2, true), (3, true), (4, true), (5, true), (6, true), (7, true), (8, true), (9, true), (10, true), (11, true), (12, true), (13, true), (14, true), (15, true), (16, true), (17, true), (18, true), (19, true), (20, true), (21, true), (22, true), (23, true), (24, true), (25, true), (26, true), (27, true), (28, true), (29, true), (30, true), (31, true), (32, true), (33, true), (34, true), (35, true), (36, true), (37, true)] (by kernel_rfl) (by kernel_rfl) (by kernel_rfl) (by kernel_rfl) (fun _ _ _ _ _ h => h) ?_
              repeat (first | (refine wpGr_read (o := ⟨_, _, _, _, _, _⟩) (v := ?_) rfl (by rfl) ?_ ?_; rotate_left; (intro w' hw'; go_simp; with_reducible rfl); simp only [Act.put, List.setIfInBounds_toArray, List.set_cons_zero, List.set_cons_succ]) | (refine wpGr_skip (o := ⟨_, _, _, _, _, _⟩) rfl (by rfl) ?_; simp only [Act.put, List.setIfInBounds_toArray, List.set_cons_zero, List.set_cons_succ]))
              refine wpGr_done ?_
              clear q0 q1 z0 z1 p0 pp
              go_wp2
              go_roundw
              case rel => exact ⟨k + 1, by go_num, by omega, ⟨I, e1.out, (fun h => by omega), fun j' h => by obtain rfl : j' = k := (by omega); exact ⟨by rw [HY.out], by omega⟩⟩, hKd, hBd⟩
              case measure => simp [intOf]; omega
    · obtain rfl : k = n := by omega
      obtain ⟨A, hA1, _⟩ := hA.out
      have e1 : R = true := by rw [← hA1, List.drop_of_length_le (by rw [Hn.out]; exact Nat.le_refl _)]; rfl
      subst e1
      by_cases h1 : N ≤ 4611686018427387904
      · have d1 : decide ((N : Int) ≤ 4611686018427387904) = true := decide_eq_true (by omega)
        have d2 : decide ((k : Int) ≤ 8) = T := by rw [HT.out, decide_eq_true h1, Bool.and_true, Bool.and_true, Bool.eq_iff_iff, decide_eq_true_iff, decide_eq_true_iff]; omega
        clear HT hA hA1 q0 q1
        go_wp2
        go_ret
        exact ⟨rfl, hB.out⟩
      · have d1 : decide ((N : Int) ≤ 4611686018427387904) = false := decide_eq_false (by omega)
        obtain rfl : T = false := by rw [HT.out, decide_eq_false h1, Bool.false_and, Bool.and_false]
        clear HT hA hA1 q0 q1
        go_wp2
        go_ret
        exact ⟨rfl, hB.out⟩
end Go.Proofs.YtdgcghknfhhkiaaDoor
