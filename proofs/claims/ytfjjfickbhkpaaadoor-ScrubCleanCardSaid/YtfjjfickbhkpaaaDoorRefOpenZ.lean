/-
  The document's Open.
-/
import Derived.Test.YtfjjfickbhkpaaaDoorSheet3Z
import Derived.Test.YtfjjfickbhkpaaaDoorRefCrcZ
namespace Go.Proofs.YtfjjfickbhkpaaaDoor
open Go Go.RowKit

theorem refIs_512 (b o c : Nat) (l : List Nat) (w : World) (hl : l.length = 512) (hc : 512 ≤ c) (hcm : c ≤ 140737488355328) (hcs : Cs w b o l) (hb : B8 l) :
    Calls Tryd.prog 29 #[.slice (some ⟨b, o, none⟩) 512 c] w fun e w' => e = .returned (.bool (decide (numL (l.drop 508) = (more 0#32 (l.take 508)).toNat))) ∧ w = w' := by
  have h := refIs_long b o c (l.take 508) (l.drop 508) w (by rw [List.length_drop]; omega) (by rw [List.length_take]; omega) hcm (by rw [List.take_append_drop]; exact hcs) (by rw [List.take_append_drop]; exact hb)
  rw [show ((l.take 508).length + 4 : Nat) = 512 by rw [List.length_take]; omega] at h
  exact h
theorem refOpen_len (a : Option Addr) (n c : Nat) (w : World) (h : n ≠ 512) :
    Calls Tryd.prog 21 #[.slice a n c] w fun e w' => e = .returned (.tuple #[.int .u8 0, .slice none 0 0, .int .i64 3]) ∧ w = w' := by
  have d1 : ((n : Int) != 512) = true := by simp; omega
  go_enter Tryd.func21, Tryd.ntmps21
  go_wp2
  go_ret3
  exact ⟨rfl, rfl⟩
theorem refOpen_sum (b o c : Nat) (w : World)
    (hI : Calls Tryd.prog 29 #[.slice (some ⟨b, o, none⟩) 512 c] w fun e w' => e = .returned (.bool false) ∧ w = w') :
    Calls Tryd.prog 21 #[.slice (some ⟨b, o, none⟩) 512 c] w fun e w' => e = .returned (.tuple #[.int .u8 0, .slice none 0 0, .int .i64 4]) ∧ w = w' := by
  go_enter Tryd.func21, Tryd.ntmps21
  go_wp2_with (go_at_call 29; refine hI.mono ?_; rintro e w' ⟨rfl, rfl⟩)
  go_ret3
  exact ⟨rfl, rfl⟩
theorem allZero_step (l : List Nat) (k : Nat) (h : k < 508) (hl : l.length = 512) : allZero ((l.take 508).drop k) = (l.getD k 0 == 0 && allZero ((l.take 508).drop (k + 1))) := by
  have hk : k < (l.take 508).length := by rw [List.length_take]; omega
  rw [List.drop_eq_getElem_cons hk]
  have e : (l.take 508)[k] = l.getD k 0 := by
    rw [List.getElem_take]; simp [List.getD, show k < l.length by omega]
  rw [e]; rfl
theorem allZero_end (l : List Nat) : allZero ((l.take 508).drop 508) = true := by
  rw [List.drop_of_length_le (by rw [List.length_take]; omega)]; rfl
set_option maxRecDepth 100000 in
set_option maxHeartbeats 1000000 in
theorem refOpen_core (b o c x0 x1 x2 x3 N : Nat) (zb gb : Bool) (l : List Nat) (w : World) (hl : l.length = 512) (hc : 512 ≤ c) (hcm : c ≤ 140737488355328) (hcs : Cs w b o l) (hb : B8 l)
    (hI : Calls Tryd.prog 29 #[.slice (some ⟨b, o, none⟩) 512 c] w fun e w' => e = .returned (.bool true) ∧ w = w')
    (h0 : l.getD 0 0 = x0) (h1 : l.getD 1 0 = x1) (h2 : l.getD 2 0 = x2) (h3 : l.getD 3 0 = x3) (hN : x2 * 256 + x3 = N) (hz : allZero ((l.take 508).drop (4 + N)) = zb)
    (hg : decide ((1 ≤ x0 ∧ x0 ≤ 5) ∧ x1 = 0 ∧ N ≤ 504) = gb) :
    Calls Tryd.prog 21 #[.slice (some ⟨b, o, none⟩) 512 c] w fun e w' =>
      e = .returned (if gb && zb then .tuple #[.int .u8 x0, .slice (some ⟨b, o + 4, none⟩) N (c - 4 : Nat), .int .i64 0] else .tuple #[.int .u8 0, .slice none 0 0, .int .i64 3]) ∧ Below w.heap.size w w' := by
  have b0 := hb.get 0
  have b1 := hb.get 1
  have b2 := hb.get 2
  have b3 := hb.get 3
  rw [h0] at b0
  rw [h1] at b1
  rw [h2] at b2
  rw [h3] at b3
  have hlt := hcs.lt (by omega)
  have Hcs := Lib.hid (hcs.below (Ext.drew w) hlt)
  have Hbd : Hid (Below w.heap.size w w.drew) := Ext.drew w
  have hdz : w.drew.heap.size = w.heap.size := rfl
  have Hlt : Hid (b < w.drew.heap.size) := hlt
  have Hx := Lib.hid (And.intro h0 (And.intro h1 (And.intro h2 h3)))
  have Hb := Lib.hid hb
  have Hl := Lib.hid hl
  have Hz := Lib.hid hz
  have HgL := Lib.hid hg
  have HN := Lib.hid hN
  clear h0 h1 h2 h3 hb hl hz hg hcs hlt hdz hN
  go_enter Tryd.func21, Tryd.ntmps21
  go_wp2_with fail
  refine hI.mono ?_; rintro e w' ⟨rfl, rfl⟩
  go_wp2_with fail
  refine wp_region_gt (F := fun _ => False) [(0, true), (1, true), (2, true), (3, true), (4, true), (5, true), (6, true), (7, true), (8, true), (9, true), (10, true)] (by kernel_rfl) (by kernel_rfl) (by kernel_rfl) (by kernel_rfl) (fun _ _ _ _ _ h => h) ?_
  clear hI
  generalize w.drew = w3 at *
  have c0 : ∀ w', Turn (fun _ => False) w3 w' → w'.cell? ⟨b, o, none⟩ = some (.int .u8 x0) := fun w' t => by
    have := Hcs.out 0 (by rw [Hl.out]; omega); rw [Hx.out.1] at this
    exact (t.cell Hlt.out (fun h => h)).trans this
  have c1 : ∀ w', Turn (fun _ => False) w3 w' → w'.cell? ⟨b, o + 1, none⟩ = some (.int .u8 x1) := fun w' t => by
    have := Hcs.out 1 (by rw [Hl.out]; omega); rw [Hx.out.2.1] at this
    exact (t.cell Hlt.out (fun h => h)).trans this
  have c2 : ∀ w', Turn (fun _ => False) w3 w' → w'.cell? ⟨b, o + 2, none⟩ = some (.int .u8 x2) := fun w' t => by
    have := Hcs.out 2 (by rw [Hl.out]; omega); rw [Hx.out.2.2.1] at this
    exact (t.cell Hlt.out (fun h => h)).trans this
  have c3 : ∀ w', Turn (fun _ => False) w3 w' → w'.cell? ⟨b, o + 3, none⟩ = some (.int .u8 x3) := fun w' t => by
    have := Hcs.out 3 (by rw [Hl.out]; omega); rw [Hx.out.2.2.2] at this
    exact (t.cell Hlt.out (fun h => h)).trans this
  have y1 : IntKind.i64.wrap (x2 : Int) = (x2 : Int) := IntWalk.i64_in _ (by omega)
  have y2 : IntKind.i64.wrap (x3 : Int) = (x3 : Int) := IntWalk.i64_in _ (by omega)
  have y3 : IntKind.i64.wrap (256 * (x2 : Int)) = 256 * (x2 : Int) := IntWalk.i64_in _ (by omega)
  have y4 : IntKind.i64.wrap (256 * (x2 : Int) + (x3 : Int)) = (N : Int) := by rw [IntWalk.i64_in _ (by omega)]; have := HN.out; omega
  have hNl : N < 65536 := by have := HN.out; omega
  iterate 11 (refine wpGt_read (o := ⟨_, _, _, _, _, _⟩) (v := ?_) rfl (by rfl) ?_ ?_; rotate_left; (intro w' hw'; go_simp; with_reducible rfl); simp only [Act.put, List.setIfInBounds_toArray, List.set_cons_zero, List.set_cons_succ])
  refine wpGt_done ?_
  have f0 := c0 w3 (Turn.refl _ _)
  have f1 := c1 w3 (Turn.refl _ _)
  clear y1 y2 y3 y4 c1 c2 c3
  by_cases k1 : x0 < 1
  · have d1 : decide ((x0 : Int) < 1) = true := by simp; omega
    obtain rfl : gb = false := by rw [← HgL.out, decide_eq_false_iff_not]; omega
    clear c0 Hcs
    go_wp2_with fail
    go_ret3
    exact ⟨rfl, Hbd.out⟩
  have d1 : decide ((x0 : Int) < 1) = false := by simp; omega
  by_cases k2 : 5 < x0
  · have d2 : decide (5 < (x0 : Int)) = true := by simp; omega
    obtain rfl : gb = false := by rw [← HgL.out, decide_eq_false_iff_not]; omega
    clear c0 Hcs
    go_wp2_with fail
    go_ret3
    exact ⟨rfl, Hbd.out⟩
  have d2 : decide (5 < (x0 : Int)) = false := by simp; omega
  by_cases k3 : ¬ x1 = 0
  · have d3 : ((x1 : Int) != 0) = true := by simp; omega
    obtain rfl : gb = false := by rw [← HgL.out, decide_eq_false_iff_not]; omega
    clear c0 Hcs
    go_wp2_with fail
    go_ret3
    exact ⟨rfl, Hbd.out⟩
  obtain rfl : x1 = 0 := by omega
  by_cases k4 : 504 < N
  · have d4 : decide (504 < (N : Int)) = true := by simp; omega
    obtain rfl : gb = false := by rw [← HgL.out, decide_eq_false_iff_not]; omega
    clear c0 Hcs
    go_wp2_with fail
    go_ret3
    exact ⟨rfl, Hbd.out⟩
  have d4 : decide (504 < (N : Int)) = false := by simp; omega
  obtain rfl : gb = true := by rw [← HgL.out, decide_eq_true_iff]; omega
  have s1 : (4 : Int) + (N : Int) ≤ 508 := by omega
  go_wp2_with fail
  go_loop [6] (fun i => ∃ k : Nat, 4 + N ≤ k ∧ k ≤ 508 ∧ i = .int .i64 k ∧ Hid (allZero ((l.take 508).drop k) = zb)) (fun i => 508 - (intOf i).toNat)
  case atStart => exact ⟨4 + N, Nat.le_refl _, by omega, by go_num, Hz.out⟩
  case round =>
    obtain ⟨k, hk4, hk8, rfl, hzk⟩ := hrel
    by_cases hlt : k < 508
    · have hstep := allZero_step l k hlt Hl.out
      have hck := Hcs.out k (by rw [Hl.out]; omega)
      generalize l.getD k 0 = X at *
      have hzk' := hzk.out
      rw [hstep] at hzk'
      have d5 : decide ((k : Int) < 508) = true := by simp; omega
      have j1 : (k : Int) < 512 := by omega
      by_cases hX : X = 0
      · subst hX
        have Hr : Hid (allZero ((l.take 508).drop (k + 1)) = zb) := by rwa [show ((0 == 0) : Bool) = true from rfl, Bool.true_and] at hzk'
        clear hzk hzk' hstep c0
        go_wp2_with fail
        go_round
        case rel => exact ⟨k + 1, by omega, by omega, by go_num, Hr⟩
        case measure => simp [intOf]; omega
      · have d6 : ((X : Int) != 0) = true := by simp; omega
        obtain rfl : zb = false := by rw [← hzk', show ((X == 0) : Bool) = false by simp [hX], Bool.false_and]
        clear hzk hzk' hstep c0
        go_wp2_with fail
        go_ret3
        exact ⟨rfl, Hbd.out⟩
    · obtain rfl : k = 508 := by omega
      obtain rfl : zb = true := by rw [← hzk.out, allZero_end]
      clear hzk f0 c0
      go_wp2_with fail
      refine wp_region_gt (F := fun _ => False) [(0, true), (1, true), (2, true), (3, true), (4, true), (5, true), (6, true), (7, true), (8, true), (9, true)] (by kernel_rfl) (by kernel_rfl) (by kernel_rfl) (by kernel_rfl) (fun _ _ _ _ _ h => h) ?_
      have c0 : ∀ w', Turn (fun _ => False) w3.drew w' → w'.cell? ⟨b, o, none⟩ = some (.int .u8 x0) := fun w' t => by
        have := Hcs.out 0 (by rw [Hl.out]; omega); rw [Hx.out.1] at this
        exact (t.cell Hlt.out (fun h => h)).trans this
      have Hbd2 := Lib.hid Hbd.out.drew
      clear Hbd
      generalize w3.drew = w4 at *
      have z1 : IntKind.i64.wrap (4 + (N : Int)) = 4 + (N : Int) := IntWalk.i64_in _ (by omega)
      have z2 : (4 : Int) ≤ 4 + (N : Int) := by omega
      have z3 : (4 : Int) + (N : Int) ≤ (c : Int) := by omega
      have z4 : ((4 : Int) + (N : Int)).toNat - 4 = N := by omega
      iterate 10 (refine wpGt_read (o := ⟨_, _, _, _, _, _⟩) (v := ?_) rfl (by rfl) ?_ ?_; rotate_left; (intro w' hw'; go_simp; with_reducible rfl); simp only [Act.put, List.setIfInBounds_toArray, List.set_cons_zero, List.set_cons_succ])
      refine wpGt_done ?_
      clear c0
      go_wp2_with fail
      go_ret3
      exact ⟨rfl, Hbd2.out⟩
/-- The document's Open, of whatever bytes. -/
theorem refOpen_any (a : Option Addr) (n c : Nat) (l : List Nat) (hn : l.length = n) (w : World) (hb : B8 l) (hlc : n ≤ c) (hcm : c ≤ 140737488355328) (hsrc : Src w a l) :
    Calls Tryd.prog 21 #[.slice a n c] w fun e w' => ∃ v, e = .returned (.tuple #[.int .u8 ((opS l).1 : Nat), v, .int .i64 ((opS l).2.2 : Nat)]) ∧ Reads w' v (opS l).2.1 ∧ Below w.heap.size w w' := by
  subst hn
  by_cases h512 : l.length = 512
  · obtain ⟨b, o, rfl, hcs⟩ := hsrc (by omega)
    have hI := refIs_512 b o c l w h512 (by omega) hcm hcs hb
    rw [h512]
    by_cases hs : numL (l.drop 508) = (more 0#32 (l.take 508)).toNat
    · rw [decide_eq_true hs] at hI
      have hcore := refOpen_core b o c _ _ _ _ _ _ _ l w h512 (by omega) hcm hcs hb hI rfl rfl rfl rfl rfl rfl rfl
      by_cases hgood : (1 ≤ l.getD 0 0 ∧ l.getD 0 0 ≤ 5) ∧ l.getD 1 0 = 0 ∧ l.getD 2 0 * 256 + l.getD 3 0 ≤ 504 ∧ allZero ((l.take 508).drop (4 + (l.getD 2 0 * 256 + l.getD 3 0))) = true
      · rw [opS_good h512 hs hgood]
        obtain ⟨g1, g2, g3, g4⟩ := hgood
        rw [decide_eq_true ⟨g1, g2, g3⟩, g4] at hcore
        have hLl : ((l.drop 4).take (l.getD 2 0 * 256 + l.getD 3 0)).length = l.getD 2 0 * 256 + l.getD 3 0 := by rw [List.length_take, List.length_drop]; omega
        have hlt := hcs.lt (by omega)
        refine hcore.mono ?_
        rintro e w' ⟨rfl, hbw⟩
        refine ⟨_, rfl, ⟨some ⟨b, o + 4, none⟩, c - 4, by rw [hLl], ?_⟩, hbw⟩
        exact ((hcs.below hbw hlt).cut 4 _).src
      · rw [opS_form h512 hs hgood]
        have hf : (decide ((1 ≤ l.getD 0 0 ∧ l.getD 0 0 ≤ 5) ∧ l.getD 1 0 = 0 ∧ l.getD 2 0 * 256 + l.getD 3 0 ≤ 504) && allZero ((l.take 508).drop (4 + (l.getD 2 0 * 256 + l.getD 3 0)))) = false := by
          rw [Bool.and_eq_false_iff, decide_eq_false_iff_not]
          by_cases hz : allZero ((l.take 508).drop (4 + (l.getD 2 0 * 256 + l.getD 3 0))) = true
          · left; intro h; exact hgood ⟨h.1, h.2.1, h.2.2, hz⟩
          · right; exact Bool.eq_false_iff.2 hz
        rw [hf] at hcore
        refine hcore.mono ?_
        rintro e w' ⟨rfl, hbw⟩
        exact ⟨_, rfl, Reads.none _, hbw⟩
    · rw [opS_sum h512 hs]
      rw [decide_eq_false hs] at hI
      refine (refOpen_sum b o c w hI).mono ?_
      rintro e w' ⟨rfl, rfl⟩
      exact ⟨_, rfl, Reads.none _, Below.refl _ _⟩
  · rw [opS_len h512]
    refine (refOpen_len a _ c w h512).mono ?_
    rintro e w' ⟨rfl, rfl⟩
    exact ⟨_, rfl, Reads.none _, Below.refl _ _⟩
end Go.Proofs.YtfjjfickbhkpaaaDoor
