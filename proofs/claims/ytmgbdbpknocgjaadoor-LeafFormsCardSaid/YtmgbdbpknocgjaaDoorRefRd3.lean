/-
  The document's reader: Bytes.
-/
import Derived.Test.YtmgbdbpknocgjaaDoorRefRd2
namespace Go.Proofs.YtmgbdbpknocgjaaDoor
open Go Go.RowKit

/-- Two rows are new, a call made memory, the first row is another one. -/
theorem ref_mid {w w2 : World} {a : Option Addr} {n c : Nat} {wr : Bool}
    (hb : Below ((w.alloc (.cells #[.slice a n c, .bool wr] RFT)).alloc (.cells #[.slice none 0 0, .bool false] RFT)).heap.size ((w.alloc (.cells #[.slice a n c, .bool wr] RFT)).alloc (.cells #[.slice none 0 0, .bool false] RFT)) w2) (v : Value) (y : Bool) :
    (SB w2 w.heap.size RFT (.slice a n c) wr ∧ NoByte w2 w.heap.size) ∧
    SB ((w2.setCell ⟨w.heap.size, 0, none⟩ v).setCell ⟨w.heap.size, 1, none⟩ (.bool y)) w.heap.size RFT v y ∧
    SB ((w2.setCell ⟨w.heap.size, 0, none⟩ v).setCell ⟨w.heap.size, 1, none⟩ (.bool y)) (w.heap.size + 1) RFT (.slice none 0 0) false ∧
    Below w.heap.size w ((w2.setCell ⟨w.heap.size, 0, none⟩ v).setCell ⟨w.heap.size, 1, none⟩ (.bool y)) := by
  obtain ⟨h1, h2, h3⟩ := two_new w RFT (.slice a n c) (.slice none 0 0) wr false
  have hz : w.heap.size + 2 = ((w.alloc (.cells #[.slice a n c, .bool wr] RFT)).alloc (.cells #[.slice none 0 0, .bool false] RFT)).heap.size := by simp
  have h1' : Below w.heap.size w ((w.alloc (.cells #[.slice a n c, .bool wr] RFT)).alloc (.cells #[.slice none 0 0, .bool false] RFT)) :=
    ((Below.refl w.heap.size w).alloc (Nat.le_refl _) (.cells #[.slice a n c, .bool wr] RFT)).alloc (by simp) _
  have h2' : SB ((w.alloc (.cells #[.slice a n c, .bool wr] RFT)).alloc (.cells #[.slice none 0 0, .bool false] RFT)) w.heap.size RFT (.slice a n c) wr := h2
  have h3' : SB ((w.alloc (.cells #[.slice a n c, .bool wr] RFT)).alloc (.cells #[.slice none 0 0, .bool false] RFT)) (w.heap.size + 1) RFT (.slice none 0 0) false := h3
  have k2 := h2'.below hb (by omega)
  have k3 := h3'.below hb (by omega)
  refine ⟨⟨k2, k2.noByte⟩, (k2.set0 v).set1 y, k3.turn (turn_set2 _ _ _ _) (by omega), ?_⟩
  exact Below.setCell (p := ⟨w.heap.size, 1, none⟩) (Below.setCell (p := ⟨w.heap.size, 0, none⟩) (h1'.trans (hb.mono (by omega))) (Nat.le_refl _) v) (Nat.le_refl _) _
set_option maxRecDepth 100000 in
set_option maxHeartbeats 4000000 in
theorem refBytes_any (w : World) (x : Value) (S : RS) (h : RfW w x S) (most : Int) (m : Nat) (hm : m = most.toNat) (h1 : -9223372036854775808 ≤ most) (h2 : most ≤ 9223372036854775807) :
    Calls Tryd.prog 32 #[x, .int .i64 most] w fun e w' => ∃ x' v, e = .returned (.tuple #[x', v]) ∧ Rf w' x' (bytesS S m).2 ∧ Sl w' v (bytesS S m).1 ∧ Below w.heap.size w w' := by
  obtain ⟨v, rfl, hs⟩ := h.ex
  obtain ⟨a, c, rfl, hsrc, _⟩ := hs.arg
  have hb0 : Below w.heap.size w ((w.alloc (.cells #[.slice a S.l.length c, .bool S.wr] RFT)).alloc (.cells #[.slice none 0 0, .bool false] RFT)) := by
    have h0 : w.heap.size ≤ (w.alloc (.cells #[.slice a S.l.length c, .bool S.wr] RFT)).heap.size := by simp
    exact ((Below.refl w.heap.size w).alloc (Nat.le_refl _) _).alloc h0 _
  have hnum := refNum_any _ _ S (h.below hb0 (Nat.le_refl _)) m
  have hmid := fun w2 hb v y => ref_mid (w := w) (w2 := w2) (a := a) (n := S.l.length) (c := c) (wr := S.wr) hb v y
  have hhit : (numS S m).2.wr = false → (numS S m).1 ≤ (numS S m).2.l.length → bytesS S m = ((numS S m).2.l.take (numS S m).1, ⟨(numS S m).2.l.drop (numS S m).1, false⟩) := bytesS_hit
  have hmiss : ¬ ((numS S m).2.wr = false ∧ (numS S m).1 ≤ (numS S m).2.l.length) → bytesS S m = ([], ⟨[], true⟩) := bytesS_miss
  have hN64 := numS_lt S m
  have hm64 : m ≤ 9223372036854775807 := by omega
  have hlen := h.len
  obtain ⟨N, hN⟩ : ∃ N, N = (numS S m).1 := ⟨_, rfl⟩
  obtain ⟨S1, hS1⟩ : ∃ S1, S1 = (numS S m).2 := ⟨_, rfl⟩
  rw [← hN] at hnum hhit hmiss hN64
  rw [← hS1] at hnum hhit hmiss
  have Hnum := Lib.hid hnum
  have Hmid := Lib.hid hmid
  generalize S.l.length = n at *
  generalize S.wr = wr at *
  clear hnum hmid h hs hsrc hN hS1 hb0
  have z1 : IntKind.u64.wrap (m : Int) = (m : Int) := by rw [IntKind.wrap_u64]; omega
  obtain ⟨l1, wr1⟩ := S1
  dsimp only at *
  obtain ⟨M, hM⟩ : ∃ M : Int, M = (m : Int) := ⟨_, rfl⟩
  rw [← hM] at Hnum
  have hcase : (decide (most < 0) = true ∧ M = 0) ∨ (decide (most < 0) = false ∧ most = (m : Int) ∧ M = (m : Int)) := by
    rcases Int.lt_or_le most 0 with h | h
    · left; exact ⟨by simpa using h, by omega⟩
    · right; exact ⟨by simpa using h, by omega, hM⟩
  clear hm hM
  rcases hcase with ⟨d0, rfl⟩ | ⟨d0, rfl, rfl⟩
  all_goals
    clear h1 h2
    go_enter Tryd.func32, Tryd.ntmps32
    go_wp2_with fail
    refine Hnum.out.mono ?_
    rintro e w2 ⟨x', rfl, hrf, hb⟩
    obtain ⟨v', rfl, hsl⟩ := hrf.ex
    obtain ⟨⟨s0, hnb⟩, s1, s2, hbw⟩ := Hmid.out w2 hb v' wr1
    have hsl2 := hsl.turn (turn_set2 w2 w.heap.size v' (.bool wr1)) hnb
    have hl1 := hrf.len
    have h81 := hrf.b8
    dsimp only at hsl hsl2 hl1 h81
    have c0 := s0.c0
    have c1 := s0.c1
    have f0 := s0.fz 0
    have f1 := s0.fz 1
    have hset : ∀ (v : Value) (y : Bool), Below w.heap.size w ((((w2.setCell ⟨w.heap.size, 0, none⟩ v').setCell ⟨w.heap.size, 1, none⟩ (.bool wr1)).setCell ⟨w.heap.size + 1, 0, none⟩ v).setCell ⟨w.heap.size + 1, 1, none⟩ (.bool y)) := fun v y =>
      Below.setCell (p := ⟨w.heap.size + 1, 1, none⟩) (Below.setCell (p := ⟨w.heap.size + 1, 0, none⟩) hbw (by show w.heap.size ≤ w.heap.size + 1; omega) v) (by show w.heap.size ≤ w.heap.size + 1; omega) _
    have Hset := Lib.hid hset
    have Hl := Lib.hid (And.intro hsl2 (And.intro hbw (And.intro s1 s2)))
    clear hset hb hnb s0 hrf hbw Hnum Hmid
    have q0 := s1.c0
    have q1 := s1.c1
    have r0 := s2.c0
    have r1 := s2.c1
    have g0 := s2.fz 0
    have g1 := s2.fz 1
    clear s1 s2
    cases wr1 with
    | true =>
      have HE := Lib.hid (hmiss (by simp))
      obtain ⟨a1, c1', rfl, _⟩ := hsl.arg
      have HB := Lib.hid (Hset.out (.slice none 0 0) true)
      clear hsl hsl2 hhit hmiss Hset
      go_wp2
      refine bodyPost_ret (v := .tuple #[.agg #[.slice none 0 0, .bool true], .slice none 0 0]) (by rw [results_cell_tmp rfl]; go_simp) rfl ⟨_, _, rfl, by rw [HE.out]; exact Rf.wrong _, by rw [HE.out]; exact Sl.none _, HB.out⟩
    | false =>
      by_cases hN : N ≤ l1.length
      · have HE := Lib.hid (hhit rfl hN)
        have hdl := h81.drop N
        have hdn : (l1.drop N).length ≤ 65536 := by rw [List.length_drop]; omega
        rcases hsl with ⟨rfl, h0⟩ | ⟨g, o, c', rfl, hc, hnc, hcm⟩
        · subst h0
          obtain rfl : N = 0 := by simpa using hN
          clear hsl2 hhit hmiss Hset
          go_wp2_with fail
          refine wp_region_gt (F := fun i => i = w.heap.size + 1) [(0, true), (1, true), (2, true), (3, true), (4, true), (5, true), (6, true), (7, true), (8, true), (9, false), (10, true)] (by kernel_rfl) (by kernel_rfl) (by kernel_rfl) (by kernel_rfl) (fun _ _ _ _ _ h => h) ?_
          obtain ⟨w4, hw4⟩ : ∃ w4, w4 = ((w2.setCell ⟨w.heap.size, 0, none⟩ (.slice none 0 0)).setCell ⟨w.heap.size, 1, none⟩ (.bool false)).drew := ⟨_, rfl⟩
          obtain ⟨hs3, hb3, s13, s23⟩ := Hl.out
          have hs4 : Sl w4 (.slice none 0 0) ([] : List Nat) := by rw [hw4]; exact hs3
          have hb4 : Below w.heap.size w w4 := by rw [hw4]; exact hb3.drew
          have s14 : SB w4 w.heap.size RFT (.slice none 0 0) false := by rw [hw4]; exact s13
          have s24 : SB w4 (w.heap.size + 1) RFT (.slice none 0 0) false := by rw [hw4]; exact s23
          rw [← hw4]
          clear hw4 hs3 hb3 s13 s23 Hl c0 c1 f0 f1 q0 q1 r0 r1 g0 g1
          have k0 : ∀ w', Turn (fun i => i = w.heap.size + 1) w4 w' → w'.cell? ⟨w.heap.size, 0, none⟩ = some (.slice none 0 0) := fun w' t => (s14.turn t (by omega)).c0
          have r0 := s24.c0
          have r1 := s24.c1
          have g0 := s24.fz 0
          have g1 := s24.fz 1
          have hn4 := s24.noByte
          have hset4 : ∀ u : Value, Below w.heap.size w ((w4.setCell ⟨w.heap.size + 1, 0, none⟩ u).setCell ⟨w.heap.size + 1, 1, none⟩ (.bool false)) := fun u =>
            Below.setCell (p := ⟨w.heap.size + 1, 1, none⟩) (Below.setCell (p := ⟨w.heap.size + 1, 0, none⟩) hb4 (by show w.heap.size ≤ w.heap.size + 1; omega) u) (by show w.heap.size ≤ w.heap.size + 1; omega) _
          have hx1 : Sl w4 (.slice none 0 0) (([] : List Nat).drop 0) := by rw [List.drop_nil]; exact Sl.none _
          have hx2 : Sl w4 (.slice none 0 0) (([] : List Nat).take 0) := by rw [List.take_nil]; exact Sl.none _
          have hx3 := hx1.turn (turn_set2 w4 (w.heap.size + 1) (.slice none 0 0) (.bool false)) hn4
          have hx4 := Lib.hid (hx2.turn (turn_set2 w4 (w.heap.size + 1) (.slice none 0 0) (.bool false)) hn4)
          have hrf : Hid (Rf ((w4.setCell ⟨w.heap.size + 1, 0, none⟩ (.slice none 0 0)).setCell ⟨w.heap.size + 1, 1, none⟩ (.bool false)) (.agg #[.slice none 0 0, .bool false]) ⟨([] : List Nat).drop 0, false⟩) := ⟨⟨_, rfl, hx3⟩, hdl, hdn, fun h => by cases h⟩
          have HB := Lib.hid (hset4 (.slice none 0 0))
          clear hset4 hx1 hx2 hx3 s14 s24 hs4 hb4 hn4
          iterate 9 (refine wpGt_read (o := ⟨_, _, _, _, _, _⟩) (v := ?_) rfl (by rfl) ?_ ?_; rotate_left; (intro w' hw'; go_simp; with_reducible rfl); simp only [Act.put, List.setIfInBounds_toArray, List.set_cons_zero, List.set_cons_succ])
          refine wpGt_call (o := ⟨_, _, _, _, _, _⟩) rfl (by rfl) (fun K hK => ?_)
          go_simp
          refine hK _ _ (turn_set2 _ _ _ _) ?_
          clear hK K k0
          iterate 1 (refine wpGt_read (o := ⟨_, _, _, _, _, _⟩) (v := ?_) rfl (by rfl) ?_ ?_; rotate_left; (intro w' hw'; go_simp; with_reducible rfl); simp only [Act.put, List.setIfInBounds_toArray, List.set_cons_zero, List.set_cons_succ])
          refine wpGt_done ?_
          go_wp2_with fail
          refine bodyPost_ret (v := .tuple #[.agg #[.slice none 0 0, .bool false], .slice none 0 0]) (by rw [results_cell_tmp rfl]; go_simp) rfl ⟨_, _, rfl, by rw [HE.out]; exact hrf.out, by rw [HE.out]; exact hx4.out, HB.out⟩
        · generalize hn1 : l1.length = n1 at *
          have hNn : N ≤ n1 := hN
          have hcm2 : c' ≤ 9223372036854775807 := by unfold maxLen at hcm; omega
          have d1 : decide ((n1 : Int) < (N : Int)) = false := by simp; omega
          have y2 : (N : Int) ≤ n1 := by omega
          have y3 : (n1 : Int) ≤ c' := by omega
          have y5 : (N : Int) ≤ c' := by omega
          clear hsl2 hhit hmiss Hset hc
          rcases Nat.lt_or_ge N c' with hNc | hNc
          · have y4 : ¬ (c' = N) := by omega
            go_wp2_with fail
            refine wp_region_gt (F := fun i => i = w.heap.size + 1) [(0, true), (1, true), (2, true), (3, true), (4, true), (5, true), (6, true), (7, true), (8, true), (9, false), (10, true)] (by kernel_rfl) (by kernel_rfl) (by kernel_rfl) (by kernel_rfl) (fun _ _ _ _ _ h => h) ?_
            obtain ⟨w4, hw4⟩ : ∃ w4, w4 = ((w2.setCell ⟨w.heap.size, 0, none⟩ (.slice (some ⟨g, o, none⟩) n1 c')).setCell ⟨w.heap.size, 1, none⟩ (.bool false)).drew := ⟨_, rfl⟩
            obtain ⟨hs3, hb3, s13, s23⟩ := Hl.out
            have hs4 : Sl w4 (.slice (some ⟨g, o, none⟩) n1 c') l1 := by rw [hw4]; exact hs3
            have hb4 : Below w.heap.size w w4 := by rw [hw4]; exact hb3.drew
            have s14 : SB w4 w.heap.size RFT (.slice (some ⟨g, o, none⟩) n1 c') false := by rw [hw4]; exact s13
            have s24 : SB w4 (w.heap.size + 1) RFT (.slice none 0 0) false := by rw [hw4]; exact s23
            have hc4 : Cs w4 g o l1 := by
              rcases hs4 with ⟨h, _⟩ | ⟨_, _, _, h, hc, _⟩
              · cases h
              · cases h; exact hc
            rw [← hw4]
            clear hw4 hs3 hb3 s13 s23 Hl c0 c1 f0 f1 q0 q1 r0 r1 g0 g1
            have k0 : ∀ w', Turn (fun i => i = w.heap.size + 1) w4 w' → w'.cell? ⟨w.heap.size, 0, none⟩ = some (.slice (some ⟨g, o, none⟩) n1 c') := fun w' t => (s14.turn t (by omega)).c0
            have r0 := s24.c0
            have r1 := s24.c1
            have g0 := s24.fz 0
            have g1 := s24.fz 1
            have hn4 := s24.noByte
            have hset4 : ∀ u : Value, Below w.heap.size w ((w4.setCell ⟨w.heap.size + 1, 0, none⟩ u).setCell ⟨w.heap.size + 1, 1, none⟩ (.bool false)) := fun u =>
              Below.setCell (p := ⟨w.heap.size + 1, 1, none⟩) (Below.setCell (p := ⟨w.heap.size + 1, 0, none⟩) hb4 (by show w.heap.size ≤ w.heap.size + 1; omega) u) (by show w.heap.size ≤ w.heap.size + 1; omega) _
            have hx1 : Sl w4 (.slice (some ⟨g, o + N, none⟩) (n1 - N) (c' - N)) (l1.drop N) := sl_drop hc4 hn1 hNn hnc hcm
            have hx2 : Sl w4 (.slice (some ⟨g, o, none⟩) N c') (l1.take N) := sl_take hc4 hn1 hNn hnc hcm
            have hx3 := hx1.turn (turn_set2 w4 (w.heap.size + 1) (.slice (some ⟨g, o + N, none⟩) (n1 - N) (c' - N)) (.bool false)) hn4
            have hx4 := Lib.hid (hx2.turn (turn_set2 w4 (w.heap.size + 1) (.slice (some ⟨g, o + N, none⟩) (n1 - N) (c' - N)) (.bool false)) hn4)
            have hrf : Hid (Rf ((w4.setCell ⟨w.heap.size + 1, 0, none⟩ (.slice (some ⟨g, o + N, none⟩) (n1 - N) (c' - N))).setCell ⟨w.heap.size + 1, 1, none⟩ (.bool false)) (.agg #[.slice (some ⟨g, o + N, none⟩) (n1 - N) (c' - N), .bool false]) ⟨l1.drop N, false⟩) := ⟨⟨_, rfl, hx3⟩, hdl, hdn, fun h => by cases h⟩
            have HB := Lib.hid (hset4 (.slice (some ⟨g, o + N, none⟩) (n1 - N) (c' - N)))
            clear hset4 hx1 hx2 hx3 s14 s24 hs4 hb4 hn4
            iterate 9 (refine wpGt_read (o := ⟨_, _, _, _, _, _⟩) (v := ?_) rfl (by rfl) ?_ ?_; rotate_left; (intro w' hw'; go_simp; with_reducible rfl); simp only [Act.put, List.setIfInBounds_toArray, List.set_cons_zero, List.set_cons_succ])
            refine wpGt_call (o := ⟨_, _, _, _, _, _⟩) rfl (by rfl) (fun K hK => ?_)
            go_simp
            refine hK _ _ (turn_set2 _ _ _ _) ?_
            clear hK K k0
            iterate 1 (refine wpGt_read (o := ⟨_, _, _, _, _, _⟩) (v := ?_) rfl (by rfl) ?_ ?_; rotate_left; (intro w' hw'; go_simp; with_reducible rfl); simp only [Act.put, List.setIfInBounds_toArray, List.set_cons_zero, List.set_cons_succ])
            refine wpGt_done ?_
            go_wp2_with fail
            refine bodyPost_ret (v := .tuple #[.agg #[.slice (some ⟨g, o + N, none⟩) (n1 - N) (c' - N), .bool false], .slice (some ⟨g, o, none⟩) N c']) (by rw [results_cell_tmp rfl]; go_simp) rfl ⟨_, _, rfl, by rw [HE.out]; exact hrf.out, by rw [HE.out]; exact hx4.out, HB.out⟩
          · obtain rfl : N = c' := by omega
            obtain rfl : N = n1 := by omega
            go_wp2_with fail
            refine wp_region_gt (F := fun i => i = w.heap.size + 1) [(0, true), (1, true), (2, true), (3, true), (4, true), (5, true), (6, true), (7, true), (8, true), (9, false), (10, true)] (by kernel_rfl) (by kernel_rfl) (by kernel_rfl) (by kernel_rfl) (fun _ _ _ _ _ h => h) ?_
            obtain ⟨w4, hw4⟩ : ∃ w4, w4 = ((w2.setCell ⟨w.heap.size, 0, none⟩ (.slice (some ⟨g, o, none⟩) N N)).setCell ⟨w.heap.size, 1, none⟩ (.bool false)).drew := ⟨_, rfl⟩
            obtain ⟨hs3, hb3, s13, s23⟩ := Hl.out
            have hs4 : Sl w4 (.slice (some ⟨g, o, none⟩) N N) l1 := by rw [hw4]; exact hs3
            have hb4 : Below w.heap.size w w4 := by rw [hw4]; exact hb3.drew
            have s14 : SB w4 w.heap.size RFT (.slice (some ⟨g, o, none⟩) N N) false := by rw [hw4]; exact s13
            have s24 : SB w4 (w.heap.size + 1) RFT (.slice none 0 0) false := by rw [hw4]; exact s23
            have hc4 : Cs w4 g o l1 := by
              rcases hs4 with ⟨h, _⟩ | ⟨_, _, _, h, hc, _⟩
              · cases h
              · cases h; exact hc
            rw [← hw4]
            clear hw4 hs3 hb3 s13 s23 Hl c0 c1 f0 f1 q0 q1 r0 r1 g0 g1
            have k0 : ∀ w', Turn (fun i => i = w.heap.size + 1) w4 w' → w'.cell? ⟨w.heap.size, 0, none⟩ = some (.slice (some ⟨g, o, none⟩) N N) := fun w' t => (s14.turn t (by omega)).c0
            have r0 := s24.c0
            have r1 := s24.c1
            have g0 := s24.fz 0
            have g1 := s24.fz 1
            have hn4 := s24.noByte
            have hset4 : ∀ u : Value, Below w.heap.size w ((w4.setCell ⟨w.heap.size + 1, 0, none⟩ u).setCell ⟨w.heap.size + 1, 1, none⟩ (.bool false)) := fun u =>
              Below.setCell (p := ⟨w.heap.size + 1, 1, none⟩) (Below.setCell (p := ⟨w.heap.size + 1, 0, none⟩) hb4 (by show w.heap.size ≤ w.heap.size + 1; omega) u) (by show w.heap.size ≤ w.heap.size + 1; omega) _
            have hx1 : Sl w4 (.slice (some ⟨g, o, none⟩) 0 0) (l1.drop N) := sl_end hn1 (Nat.le_refl _)
            have hx2 : Sl w4 (.slice (some ⟨g, o, none⟩) N N) (l1.take N) := sl_take hc4 hn1 hNn hnc hcm
            have hx3 := hx1.turn (turn_set2 w4 (w.heap.size + 1) (.slice (some ⟨g, o, none⟩) 0 0) (.bool false)) hn4
            have hx4 := Lib.hid (hx2.turn (turn_set2 w4 (w.heap.size + 1) (.slice (some ⟨g, o, none⟩) 0 0) (.bool false)) hn4)
            have hrf : Hid (Rf ((w4.setCell ⟨w.heap.size + 1, 0, none⟩ (.slice (some ⟨g, o, none⟩) 0 0)).setCell ⟨w.heap.size + 1, 1, none⟩ (.bool false)) (.agg #[.slice (some ⟨g, o, none⟩) 0 0, .bool false]) ⟨l1.drop N, false⟩) := ⟨⟨_, rfl, hx3⟩, hdl, hdn, fun h => by cases h⟩
            have HB := Lib.hid (hset4 (.slice (some ⟨g, o, none⟩) 0 0))
            clear hset4 hx1 hx2 hx3 s14 s24 hs4 hb4 hn4
            iterate 9 (refine wpGt_read (o := ⟨_, _, _, _, _, _⟩) (v := ?_) rfl (by rfl) ?_ ?_; rotate_left; (intro w' hw'; go_simp; with_reducible rfl); simp only [Act.put, List.setIfInBounds_toArray, List.set_cons_zero, List.set_cons_succ])
            refine wpGt_call (o := ⟨_, _, _, _, _, _⟩) rfl (by rfl) (fun K hK => ?_)
            go_simp
            refine hK _ _ (turn_set2 _ _ _ _) ?_
            clear hK K k0
            iterate 1 (refine wpGt_read (o := ⟨_, _, _, _, _, _⟩) (v := ?_) rfl (by rfl) ?_ ?_; rotate_left; (intro w' hw'; go_simp; with_reducible rfl); simp only [Act.put, List.setIfInBounds_toArray, List.set_cons_zero, List.set_cons_succ])
            refine wpGt_done ?_
            go_wp2_with fail
            refine bodyPost_ret (v := .tuple #[.agg #[.slice (some ⟨g, o, none⟩) 0 0, .bool false], .slice (some ⟨g, o, none⟩) N N]) (by rw [results_cell_tmp rfl]; go_simp) rfl ⟨_, _, rfl, by rw [HE.out]; exact hrf.out, by rw [HE.out]; exact hx4.out, HB.out⟩
      · have HE := Lib.hid (hmiss (fun h => hN h.2))
        obtain ⟨a1, c1', rfl, _⟩ := hsl.arg
        have HB := Lib.hid (Hset.out (.slice none 0 0) true)
        clear hsl hsl2 hhit hmiss Hset
        generalize l1.length = n1 at *
        have d1 : decide ((n1 : Int) < (N : Int)) = true := by simp; omega
        go_wp2
        refine bodyPost_ret (v := .tuple #[.agg #[.slice none 0 0, .bool true], .slice none 0 0]) (by rw [results_cell_tmp rfl]; go_simp) rfl ⟨_, _, rfl, by rw [HE.out]; exact Rf.wrong _, by rw [HE.out]; exact Sl.none _, HB.out⟩
end Go.Proofs.YtmgbdbpknocgjaaDoor
