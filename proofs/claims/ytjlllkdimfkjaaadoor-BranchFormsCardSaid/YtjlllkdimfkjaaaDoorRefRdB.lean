/-
  The document's reader whose bytes lie below a bound: Num, Bytes.
-/
import Derived.Test.YtjlllkdimfkjaaaDoorRefRd
import Derived.Test.YtjlllkdimfkjaaaDoorRdB
namespace Go.Proofs.YtjlllkdimfkjaaaDoor
open Go Go.RowKit

structure RfB (w : World) (x : Value) (B : Nat) (S : RS) : Prop where
  ex : ∃ v, x = .agg #[v, .bool S.wr] ∧ Sl w v S.l ∧ Lo v B
  b8 : B8 S.l
  len : S.l.length ≤ 65536
  inv : S.wr = true → S.l = []
theorem RfB.below {w w' : World} {B C : Nat} {x : Value} {S : RS} (h : RfB w x C S) (hb : Below B w w') (hB : w.heap.size ≤ B) : RfB w' x C S := by
  obtain ⟨v, h1, h2, h3⟩ := h.ex
  exact ⟨⟨v, h1, h2.below hb hB, h3⟩, h.b8, h.len, h.inv⟩
theorem RfB.wrong (w : World) (B : Nat) : RfB w (.agg #[.slice none 0 0, .bool true]) B ⟨[], true⟩ := ⟨⟨_, rfl, Sl.none _, Lo.none _⟩, B8.nil, by simp, fun _ => rfl⟩
/-- As an argument. -/
structure RfWB (w : World) (x : Value) (B : Nat) (S : RS) : Prop where
  ex : ∃ v, x = .agg #[v, .bool S.wr] ∧ Sw w v S.l ∧ Lo v B
  b8 : B8 S.l
  len : S.l.length ≤ 65536
  inv : S.wr = true → S.l = []
theorem RfB.weak {w : World} {x : Value} {B : Nat} {S : RS} (h : RfB w x B S) : RfWB w x B S := by
  obtain ⟨v, h1, h2, h3⟩ := h.ex
  exact ⟨⟨v, h1, h2.sw, h3⟩, h.b8, h.len, h.inv⟩
theorem RfWB.below {w w' : World} {B C : Nat} {x : Value} {S : RS} (h : RfWB w x C S) (hb : Below B w w') (hB : w.heap.size ≤ B) : RfWB w' x C S := by
  obtain ⟨v, h1, h2, h3⟩ := h.ex
  exact ⟨⟨v, h1, h2.below hb hB, h3⟩, h.b8, h.len, h.inv⟩
theorem RfWB.wk {w : World} {x : Value} {B : Nat} {S : RS} (h : RfWB w x B S) : RfW w x S := by
  obtain ⟨v, h1, h2, _⟩ := h.ex
  exact ⟨⟨v, h1, h2⟩, h.b8, h.len, h.inv⟩
set_option maxRecDepth 100000 in
theorem refNumB_any (w : World) (x : Value) (B : Nat) (S : RS) (h : RfWB w x B S) (m : Nat) :
    Calls Tryd.prog 41 #[x, .int .u64 m] w fun e w' => ∃ x', e = .returned (.tuple #[x', .int .u64 ((numS S m).1 : Nat)]) ∧ RfB w' x' B (numS S m).2 ∧ Below w.heap.size w w' := by
  obtain ⟨v, rfl, h2, h3⟩ := h.ex
  have hl := h.len
  obtain ⟨a, c, rfl, hsrc, _⟩ := h2.arg
  have H3 := Lib.hid h3
  clear h3
  have hbz : ∀ u : Value, ∀ y : Bool, Below w.heap.size w ((w.alloc (.cells #[.slice a S.l.length c, .bool S.wr] RFT)).alloc (.cells #[u, .bool y] RFT)) := fun u y => by
    have h0 : w.heap.size ≤ (w.alloc (.cells #[.slice a S.l.length c, .bool S.wr] RFT)).heap.size := by simp
    exact ((Below.refl w.heap.size w).alloc (Nat.le_refl _) _).alloc h0 _
  have hget := refGet_any a c S.l ((w.alloc (.cells #[.slice a S.l.length c, .bool S.wr] RFT)).alloc (.cells #[.slice none 0 0, .bool false] RFT)) h.b8 (by omega) (hsrc.below (hbz _ _) (Nat.le_refl _))
  have hlt := gt_val_lt S.l
  have hgl := gt_len S.l
  have hmiss : ¬ ((gt S.l).2.2 = 0 ∧ (gt S.l).1 ≤ m) → numS S m = (0, ⟨[], true⟩) := numS_miss
  have hhit : (gt S.l).2.2 = 0 → (gt S.l).1 ≤ m → numS S m = ((gt S.l).1, ⟨S.l.drop (gt S.l).2.1, false⟩) := numS_hit
  have hgv : refV S.l = .tuple #[.int .u64 ((gt S.l).1 : Nat), .int .i64 ((gt S.l).2.1 : Nat), .int .i64 ((gt S.l).2.2 : Nat)] := rfl
  have hger := gt_err_le S.l
  rw [hgv] at hget
  have Hb := Lib.hid hbz
  have Hget := Lib.hid hget
  have Hst := Lib.hid (And.intro h.b8 h2)
  obtain ⟨n, hn⟩ : ∃ n, n = S.l.length := ⟨_, rfl⟩
  have Hn := Lib.hid hn.symm
  obtain ⟨V, hV⟩ : ∃ V, V = (gt S.l).1 := ⟨_, rfl⟩
  obtain ⟨N, hN⟩ : ∃ N, N = (gt S.l).2.1 := ⟨_, rfl⟩
  obtain ⟨F, hF⟩ : ∃ F, F = (gt S.l).2.2 := ⟨_, rfl⟩
  rw [← hV] at hlt hmiss hhit Hget
  rw [← hN] at hgl hhit Hget
  rw [← hF] at hgl hmiss hhit Hget hger
  rw [← hn] at Hget hgl hl Hb H3 ⊢
  generalize S.wr = wr at *
  clear h h2 hsrc hbz hget hgv hn hV hN hF
  by_cases hF0 : F = 0
  · subst hF0
    obtain ⟨k1, k2, k3⟩ := hgl rfl
    clear hgl
    by_cases hm : V ≤ m
    · rw [hhit rfl hm]
      have d1 : decide ((m : Int) < (V : Int)) = false := by simp; omega
      rcases Hst.out.2.sl (fun h => by have := Hn.out; rw [h] at this; simp at this; omega) with ⟨_, h0⟩ | ⟨g, o, c', he, hc, hnc, hcm⟩
      · have := Hn.out; rw [h0] at this; simp at this; omega
      cases he
      have hnc2 : n ≤ c := by rw [← Hn.out]; exact hnc
      have hcm2 : c ≤ 9223372036854775807 := by unfold maxLen at hcm; omega
      have hb8 := Lib.hid (Hst.out.1.drop N)
      rcases Nat.lt_or_ge N c with hNc | hNc
      · have hb := Hb.out (.slice (some ⟨g, o + N, none⟩) (n - N) (c - N)) false
        have hsl := (sl_drop hc Hn.out k2 hnc2 hcm).below hb (Nat.le_refl _)
        have hrf : Hid (RfB ((w.alloc (.cells #[.slice (some ⟨g, o, none⟩) n c, .bool wr] RFT)).alloc (.cells #[.slice (some ⟨g, o + N, none⟩) (n - N) (c - N), .bool false] RFT)) (.agg #[.slice (some ⟨g, o + N, none⟩) (n - N) (c - N), .bool false]) B ⟨S.l.drop N, false⟩) :=
          ⟨⟨_, rfl, hsl, H3.out.same (by omega)⟩, hb8.out, by show (S.l.drop N).length ≤ _; rw [List.length_drop, Hn.out]; omega, fun h => by cases h⟩
        have HB := Lib.hid hb
        have y1 : ¬ (c = N) := by omega
        clear hb hsl hmiss hhit hc hcm hnc Hst Hb
        go_enter Tryd.func41, Tryd.ntmps41
        go_wp2_with fail
        refine Hget.out.mono ?_
        rintro e w' ⟨rfl, rfl⟩
        go_wp2
        refine bodyPost_ret (v := .tuple #[.agg #[.slice (some ⟨g, o + N, none⟩) (n - N) (c - N), .bool false], .int .u64 V]) (by rw [results_cell_tmp rfl]; go_simp) rfl ⟨_, rfl, hrf.out, HB.out⟩
      · obtain rfl : N = c := by omega
        obtain rfl : N = n := by omega
        have hb := Hb.out (.slice (some ⟨g, o, none⟩) 0 0) false
        have hsl := (sl_end (w := w) (g := g) (o := o) Hn.out (Nat.le_refl N)).below hb (Nat.le_refl _)
        have hrf : Hid (RfB ((w.alloc (.cells #[.slice (some ⟨g, o, none⟩) N N, .bool wr] RFT)).alloc (.cells #[.slice (some ⟨g, o, none⟩) 0 0, .bool false] RFT)) (.agg #[.slice (some ⟨g, o, none⟩) 0 0, .bool false]) B ⟨S.l.drop N, false⟩) :=
          ⟨⟨_, rfl, hsl, H3.out.same (by omega)⟩, hb8.out, by show (S.l.drop N).length ≤ _; rw [List.length_drop, Hn.out]; omega, fun h => by cases h⟩
        have HB := Lib.hid hb
        clear hb hsl hmiss hhit hc hcm hnc Hst Hb
        go_enter Tryd.func41, Tryd.ntmps41
        go_wp2_with fail
        refine Hget.out.mono ?_
        rintro e w' ⟨rfl, rfl⟩
        go_wp2
        refine bodyPost_ret (v := .tuple #[.agg #[.slice (some ⟨g, o, none⟩) 0 0, .bool false], .int .u64 V]) (by rw [results_cell_tmp rfl]; go_simp) rfl ⟨_, rfl, hrf.out, HB.out⟩
    · rw [hmiss (fun h => hm h.2)]
      have d1 : decide ((m : Int) < (V : Int)) = true := by simp; omega
      have HB := Lib.hid (Hb.out (.slice none 0 0) true)
      clear hmiss hhit Hb
      go_enter Tryd.func41, Tryd.ntmps41
      go_wp2_with fail
      refine Hget.out.mono ?_
      rintro e w' ⟨rfl, rfl⟩
      go_wp2
      refine bodyPost_ret (v := .tuple #[.agg #[.slice none 0 0, .bool true], .int .u64 0]) (by rw [results_cell_tmp rfl]; go_simp) rfl ⟨_, rfl, RfB.wrong _ _, HB.out⟩
  · rw [hmiss (fun h => hF0 h.1)]
    have d1 : ((F : Int) == 0) = false := by simp; omega
    have HB := Lib.hid (Hb.out (.slice none 0 0) true)
    clear hmiss hhit Hb hgl
    go_enter Tryd.func41, Tryd.ntmps41
    go_wp2_with fail
    refine Hget.out.mono ?_
    rintro e w' ⟨rfl, rfl⟩
    go_wp2
    refine bodyPost_ret (v := .tuple #[.agg #[.slice none 0 0, .bool true], .int .u64 0]) (by rw [results_cell_tmp rfl]; go_simp) rfl ⟨_, rfl, RfB.wrong _ _, HB.out⟩
set_option maxRecDepth 100000 in
set_option maxHeartbeats 4000000 in
theorem refBytesB_any (w : World) (x : Value) (B : Nat) (S : RS) (h : RfWB w x B S) (most : Int) (m : Nat) (hm : m = most.toNat) (h1 : -9223372036854775808 ≤ most) (h2 : most ≤ 9223372036854775807) :
    Calls Tryd.prog 25 #[x, .int .i64 most] w fun e w' => ∃ x' v, e = .returned (.tuple #[x', v]) ∧ RfB w' x' B (bytesS S m).2 ∧ Sl w' v (bytesS S m).1 ∧ Below w.heap.size w w' := by
  obtain ⟨v, rfl, hs, _⟩ := h.ex
  obtain ⟨a, c, rfl, hsrc, _⟩ := hs.arg
  have hb0 : Below w.heap.size w ((w.alloc (.cells #[.slice a S.l.length c, .bool S.wr] RFT)).alloc (.cells #[.slice none 0 0, .bool false] RFT)) := by
    have h0 : w.heap.size ≤ (w.alloc (.cells #[.slice a S.l.length c, .bool S.wr] RFT)).heap.size := by simp
    exact ((Below.refl w.heap.size w).alloc (Nat.le_refl _) _).alloc h0 _
  have hnum := refNumB_any _ _ B S (h.below hb0 (Nat.le_refl _)) m
  have hmid := fun w2 hb v y => ref_mid (w := w) (w2 := w2) (a := a) (n := S.l.length) (c := c) (wr := S.wr) hb v y
  have hhit : (numS S m).2.wr = false → (numS S m).1 ≤ (numS S m).2.l.length → bytesS S m = ((numS S m).2.l.take (numS S m).1, ⟨(numS S m).2.l.drop (numS S m).1, false⟩) := bytesS_hit
  have hmiss : ¬ ((numS S m).2.wr = false ∧ (numS S m).1 ≤ (numS S m).2.l.length) → bytesS S m = ([], ⟨[], true⟩) := bytesS_miss
  have hN64 := numS_lt S m
  have hm64 : m ≤ 9223372036854775807 := by omega
  have hlen := h.len
  obtain ⟨N, hN⟩ : ∃ N, N = (numS S m).1 := ⟨_, rfl⟩
  obtain ⟨S1, hS1⟩ : ∃ S1, S1 = (numS S m).2 := ⟨_, rfl⟩
  rw [← hN] at hnum hhit hmiss hN64
  rw [← hS1] at hnum hhit hmiss
  have Hnum := Lib.hid hnum
  have Hmid := Lib.hid hmid
  generalize S.l.length = n at *
  generalize S.wr = wr at *
  clear hnum hmid h hs hsrc hN hS1 hb0
  have z1 : IntKind.u64.wrap (m : Int) = (m : Int) := by rw [IntKind.wrap_u64]; omega
  obtain ⟨l1, wr1⟩ := S1
  dsimp only at *
  obtain ⟨M, hM⟩ : ∃ M : Int, M = (m : Int) := ⟨_, rfl⟩
  rw [← hM] at Hnum
  have hcase : (decide (most < 0) = true ∧ M = 0) ∨ (decide (most < 0) = false ∧ most = (m : Int) ∧ M = (m : Int)) := by
    rcases Int.lt_or_le most 0 with h | h
    · left; exact ⟨by simpa using h, by omega⟩
    · right; exact ⟨by simpa using h, by omega, hM⟩
  clear hm hM
  rcases hcase with ⟨d0, rfl⟩ | ⟨d0, rfl, rfl⟩
  all_goals
    clear h1 h2
    go_enter Tryd.func25, Tryd.ntmps25
    go_wp2_with fail
    refine Hnum.out.mono ?_
    rintro e w2 ⟨x', rfl, hrf, hb⟩
    obtain ⟨v', rfl, hsl, hlo⟩ := hrf.ex
    have Hlo := Lib.hid hlo
    clear hlo
    obtain ⟨⟨s0, hnb⟩, s1, s2, hbw⟩ := Hmid.out w2 hb v' wr1
    have hsl2 := hsl.turn (turn_set2 w2 w.heap.size v' (.bool wr1)) hnb
    have hl1 := hrf.len
    have h81 := hrf.b8
    dsimp only at hsl hsl2 hl1 h81
    have c0 := s0.c0
    have c1 := s0.c1
    have f0 := s0.fz 0
    have f1 := s0.fz 1
    have hset : ∀ (v : Value) (y : Bool), Below w.heap.size w ((((w2.setCell ⟨w.heap.size, 0, none⟩ v').setCell ⟨w.heap.size, 1, none⟩ (.bool wr1)).setCell ⟨w.heap.size + 1, 0, none⟩ v).setCell ⟨w.heap.size + 1, 1, none⟩ (.bool y)) := fun v y =>
      Below.setCell (p := ⟨w.heap.size + 1, 1, none⟩) (Below.setCell (p := ⟨w.heap.size + 1, 0, none⟩) hbw (by show w.heap.size ≤ w.heap.size + 1; omega) v) (by show w.heap.size ≤ w.heap.size + 1; omega) _
    have Hset := Lib.hid hset
    have Hl := Lib.hid (And.intro hsl2 (And.intro hbw (And.intro s1 s2)))
    clear hset hb hnb s0 hrf hbw Hnum Hmid
    have q0 := s1.c0
    have q1 := s1.c1
    have r0 := s2.c0
    have r1 := s2.c1
    have g0 := s2.fz 0
    have g1 := s2.fz 1
    clear s1 s2
    cases wr1 with
    | true =>
      have HE := Lib.hid (hmiss (by simp))
      obtain ⟨a1, c1', rfl, _⟩ := hsl.arg
      have HB := Lib.hid (Hset.out (.slice none 0 0) true)
      clear hsl hsl2 hhit hmiss Hset
      go_wp2
      refine bodyPost_ret (v := .tuple #[.agg #[.slice none 0 0, .bool true], .slice none 0 0]) (by rw [results_cell_tmp rfl]; go_simp) rfl ⟨_, _, rfl, by rw [HE.out]; exact RfB.wrong _ _, by rw [HE.out]; exact Sl.none _, HB.out⟩
    | false =>
      by_cases hN : N ≤ l1.length
      · have HE := Lib.hid (hhit rfl hN)
        have hdl := h81.drop N
        have hdn : (l1.drop N).length ≤ 65536 := by rw [List.length_drop]; omega
        rcases hsl with ⟨rfl, h0⟩ | ⟨g, o, c', rfl, hc, hnc, hcm⟩
        · subst h0
          obtain rfl : N = 0 := by simpa using hN
          clear hsl2 hhit hmiss Hset
          go_wp2_with fail
          refine wp_region_gt (F := fun i => i = w.heap.size + 1) [(0, true), (1, true), (2, true), (3, true), (4, true), (5, true), (6, true), (7, true), (8, true), (9, false), (10, true)] (by kernel_rfl) (by kernel_rfl) (by kernel_rfl) (by kernel_rfl) (fun _ _ _ _ _ h => h) ?_
          obtain ⟨w4, hw4⟩ : ∃ w4, w4 = ((w2.setCell ⟨w.heap.size, 0, none⟩ (.slice none 0 0)).setCell ⟨w.heap.size, 1, none⟩ (.bool false)).drew := ⟨_, rfl⟩
          obtain ⟨hs3, hb3, s13, s23⟩ := Hl.out
          have hs4 : Sl w4 (.slice none 0 0) ([] : List Nat) := by rw [hw4]; exact hs3
          have hb4 : Below w.heap.size w w4 := by rw [hw4]; exact hb3.drew
          have s14 : SB w4 w.heap.size RFT (.slice none 0 0) false := by rw [hw4]; exact s13
          have s24 : SB w4 (w.heap.size + 1) RFT (.slice none 0 0) false := by rw [hw4]; exact s23
          rw [← hw4]
          clear hw4 hs3 hb3 s13 s23 Hl c0 c1 f0 f1 q0 q1 r0 r1 g0 g1
          have k0 : ∀ w', Turn (fun i => i = w.heap.size + 1) w4 w' → w'.cell? ⟨w.heap.size, 0, none⟩ = some (.slice none 0 0) := fun w' t => (s14.turn t (by omega)).c0
          have r0 := s24.c0
          have r1 := s24.c1
          have g0 := s24.fz 0
          have g1 := s24.fz 1
          have hn4 := s24.noByte
          have hset4 : ∀ u : Value, Below w.heap.size w ((w4.setCell ⟨w.heap.size + 1, 0, none⟩ u).setCell ⟨w.heap.size + 1, 1, none⟩ (.bool false)) := fun u =>
            Below.setCell (p := ⟨w.heap.size + 1, 1, none⟩) (Below.setCell (p := ⟨w.heap.size + 1, 0, none⟩) hb4 (by show w.heap.size ≤ w.heap.size + 1; omega) u) (by show w.heap.size ≤ w.heap.size + 1; omega) _
          have hx1 : Sl w4 (.slice none 0 0) (([] : List Nat).drop 0) := by rw [List.drop_nil]; exact Sl.none _
          have hx2 : Sl w4 (.slice none 0 0) (([] : List Nat).take 0) := by rw [List.take_nil]; exact Sl.none _
          have hx3 := hx1.turn (turn_set2 w4 (w.heap.size + 1) (.slice none 0 0) (.bool false)) hn4
          have hx4 := Lib.hid (hx2.turn (turn_set2 w4 (w.heap.size + 1) (.slice none 0 0) (.bool false)) hn4)
          have hrf : Hid (RfB ((w4.setCell ⟨w.heap.size + 1, 0, none⟩ (.slice none 0 0)).setCell ⟨w.heap.size + 1, 1, none⟩ (.bool false)) (.agg #[.slice none 0 0, .bool false]) B ⟨([] : List Nat).drop 0, false⟩) := ⟨⟨_, rfl, hx3, by first | exact Lo.none _ | exact Hlo.out.same (by omega)⟩, hdl, hdn, fun h => by cases h⟩
          have HB := Lib.hid (hset4 (.slice none 0 0))
          clear hset4 hx1 hx2 hx3 s14 s24 hs4 hb4 hn4
          iterate 9 (refine wpGt_read (o := ⟨_, _, _, _, _, _⟩) (v := ?_) rfl (by rfl) ?_ ?_; rotate_left; (intro w' hw'; go_simp; with_reducible rfl); simp only [Act.put, List.setIfInBounds_toArray, List.set_cons_zero, List.set_cons_succ])
          refine wpGt_call (o := ⟨_, _, _, _, _, _⟩) rfl (by rfl) (fun K hK => ?_)
          go_simp
          refine hK _ _ (turn_set2 _ _ _ _) ?_
          clear hK K k0
          iterate 1 (refine wpGt_read (o := ⟨_, _, _, _, _, _⟩) (v := ?_) rfl (by rfl) ?_ ?_; rotate_left; (intro w' hw'; go_simp; with_reducible rfl); simp only [Act.put, List.setIfInBounds_toArray, List.set_cons_zero, List.set_cons_succ])
          refine wpGt_done ?_
          go_wp2_with fail
          refine bodyPost_ret (v := .tuple #[.agg #[.slice none 0 0, .bool false], .slice none 0 0]) (by rw [results_cell_tmp rfl]; go_simp) rfl ⟨_, _, rfl, by rw [HE.out]; exact hrf.out, by rw [HE.out]; exact hx4.out, HB.out⟩
        · generalize hn1 : l1.length = n1 at *
          have hNn : N ≤ n1 := hN
          have hcm2 : c' ≤ 9223372036854775807 := by unfold maxLen at hcm; omega
          have d1 : decide ((n1 : Int) < (N : Int)) = false := by simp; omega
          have y2 : (N : Int) ≤ n1 := by omega
          have y3 : (n1 : Int) ≤ c' := by omega
          have y5 : (N : Int) ≤ c' := by omega
          clear hsl2 hhit hmiss Hset hc
          rcases Nat.lt_or_ge N c' with hNc | hNc
          · have y4 : ¬ (c' = N) := by omega
            go_wp2_with fail
            refine wp_region_gt (F := fun i => i = w.heap.size + 1) [(0, true), (1, true), (2, true), (3, true), (4, true), (5, true), (6, true), (7, true), (8, true), (9, false), (10, true)] (by kernel_rfl) (by kernel_rfl) (by kernel_rfl) (by kernel_rfl) (fun _ _ _ _ _ h => h) ?_
            obtain ⟨w4, hw4⟩ : ∃ w4, w4 = ((w2.setCell ⟨w.heap.size, 0, none⟩ (.slice (some ⟨g, o, none⟩) n1 c')).setCell ⟨w.heap.size, 1, none⟩ (.bool false)).drew := ⟨_, rfl⟩
            obtain ⟨hs3, hb3, s13, s23⟩ := Hl.out
            have hs4 : Sl w4 (.slice (some ⟨g, o, none⟩) n1 c') l1 := by rw [hw4]; exact hs3
            have hb4 : Below w.heap.size w w4 := by rw [hw4]; exact hb3.drew
            have s14 : SB w4 w.heap.size RFT (.slice (some ⟨g, o, none⟩) n1 c') false := by rw [hw4]; exact s13
            have s24 : SB w4 (w.heap.size + 1) RFT (.slice none 0 0) false := by rw [hw4]; exact s23
            have hc4 : Cs w4 g o l1 := by
              rcases hs4 with ⟨h, _⟩ | ⟨_, _, _, h, hc, _⟩
              · cases h
              · cases h; exact hc
            rw [← hw4]
            clear hw4 hs3 hb3 s13 s23 Hl c0 c1 f0 f1 q0 q1 r0 r1 g0 g1
            have k0 : ∀ w', Turn (fun i => i = w.heap.size + 1) w4 w' → w'.cell? ⟨w.heap.size, 0, none⟩ = some (.slice (some ⟨g, o, none⟩) n1 c') := fun w' t => (s14.turn t (by omega)).c0
            have r0 := s24.c0
            have r1 := s24.c1
            have g0 := s24.fz 0
            have g1 := s24.fz 1
            have hn4 := s24.noByte
            have hset4 : ∀ u : Value, Below w.heap.size w ((w4.setCell ⟨w.heap.size + 1, 0, none⟩ u).setCell ⟨w.heap.size + 1, 1, none⟩ (.bool false)) := fun u =>
              Below.setCell (p := ⟨w.heap.size + 1, 1, none⟩) (Below.setCell (p := ⟨w.heap.size + 1, 0, none⟩) hb4 (by show w.heap.size ≤ w.heap.size + 1; omega) u) (by show w.heap.size ≤ w.heap.size + 1; omega) _
            have hx1 : Sl w4 (.slice (some ⟨g, o + N, none⟩) (n1 - N) (c' - N)) (l1.drop N) := sl_drop hc4 hn1 hNn hnc hcm
            have hx2 : Sl w4 (.slice (some ⟨g, o, none⟩) N c') (l1.take N) := sl_take hc4 hn1 hNn hnc hcm
            have hx3 := hx1.turn (turn_set2 w4 (w.heap.size + 1) (.slice (some ⟨g, o + N, none⟩) (n1 - N) (c' - N)) (.bool false)) hn4
            have hx4 := Lib.hid (hx2.turn (turn_set2 w4 (w.heap.size + 1) (.slice (some ⟨g, o + N, none⟩) (n1 - N) (c' - N)) (.bool false)) hn4)
            have hrf : Hid (RfB ((w4.setCell ⟨w.heap.size + 1, 0, none⟩ (.slice (some ⟨g, o + N, none⟩) (n1 - N) (c' - N))).setCell ⟨w.heap.size + 1, 1, none⟩ (.bool false)) (.agg #[.slice (some ⟨g, o + N, none⟩) (n1 - N) (c' - N), .bool false]) B ⟨l1.drop N, false⟩) := ⟨⟨_, rfl, hx3, by first | exact Lo.none _ | exact Hlo.out.same (by omega)⟩, hdl, hdn, fun h => by cases h⟩
            have HB := Lib.hid (hset4 (.slice (some ⟨g, o + N, none⟩) (n1 - N) (c' - N)))
            clear hset4 hx1 hx2 hx3 s14 s24 hs4 hb4 hn4
            iterate 9 (refine wpGt_read (o := ⟨_, _, _, _, _, _⟩) (v := ?_) rfl (by rfl) ?_ ?_; rotate_left; (intro w' hw'; go_simp; with_reducible rfl); simp only [Act.put, List.setIfInBounds_toArray, List.set_cons_zero, List.set_cons_succ])
            refine wpGt_call (o := ⟨_, _, _, _, _, _⟩) rfl (by rfl) (fun K hK => ?_)
            go_simp
            refine hK _ _ (turn_set2 _ _ _ _) ?_
            clear hK K k0
            iterate 1 (refine wpGt_read (o := ⟨_, _, _, _, _, _⟩) (v := ?_) rfl (by rfl) ?_ ?_; rotate_left; (intro w' hw'; go_simp; with_reducible rfl); simp only [Act.put, List.setIfInBounds_toArray, List.set_cons_zero, List.set_cons_succ])
            refine wpGt_done ?_
            go_wp2_with fail
            refine bodyPost_ret (v := .tuple #[.agg #[.slice (some ⟨g, o + N, none⟩) (n1 - N) (c' - N), .bool false], .slice (some ⟨g, o, none⟩) N c']) (by rw [results_cell_tmp rfl]; go_simp) rfl ⟨_, _, rfl, by rw [HE.out]; exact hrf.out, by rw [HE.out]; exact hx4.out, HB.out⟩
          · obtain rfl : N = c' := by omega
            obtain rfl : N = n1 := by omega
            go_wp2_with fail
            refine wp_region_gt (F := fun i => i = w.heap.size + 1) [(0, true), (1, true), (2, true), (3, true), (4, true), (5, true), (6, true), (7, true), (8, true), (9, false), (10, true)] (by kernel_rfl) (by kernel_rfl) (by kernel_rfl) (by kernel_rfl) (fun _ _ _ _ _ h => h) ?_
            obtain ⟨w4, hw4⟩ : ∃ w4, w4 = ((w2.setCell ⟨w.heap.size, 0, none⟩ (.slice (some ⟨g, o, none⟩) N N)).setCell ⟨w.heap.size, 1, none⟩ (.bool false)).drew := ⟨_, rfl⟩
            obtain ⟨hs3, hb3, s13, s23⟩ := Hl.out
            have hs4 : Sl w4 (.slice (some ⟨g, o, none⟩) N N) l1 := by rw [hw4]; exact hs3
            have hb4 : Below w.heap.size w w4 := by rw [hw4]; exact hb3.drew
            have s14 : SB w4 w.heap.size RFT (.slice (some ⟨g, o, none⟩) N N) false := by rw [hw4]; exact s13
            have s24 : SB w4 (w.heap.size + 1) RFT (.slice none 0 0) false := by rw [hw4]; exact s23
            have hc4 : Cs w4 g o l1 := by
              rcases hs4 with ⟨h, _⟩ | ⟨_, _, _, h, hc, _⟩
              · cases h
              · cases h; exact hc
            rw [← hw4]
            clear hw4 hs3 hb3 s13 s23 Hl c0 c1 f0 f1 q0 q1 r0 r1 g0 g1
            have k0 : ∀ w', Turn (fun i => i = w.heap.size + 1) w4 w' → w'.cell? ⟨w.heap.size, 0, none⟩ = some (.slice (some ⟨g, o, none⟩) N N) := fun w' t => (s14.turn t (by omega)).c0
            have r0 := s24.c0
            have r1 := s24.c1
            have g0 := s24.fz 0
            have g1 := s24.fz 1
            have hn4 := s24.noByte
            have hset4 : ∀ u : Value, Below w.heap.size w ((w4.setCell ⟨w.heap.size + 1, 0, none⟩ u).setCell ⟨w.heap.size + 1, 1, none⟩ (.bool false)) := fun u =>
              Below.setCell (p := ⟨w.heap.size + 1, 1, none⟩) (Below.setCell (p := ⟨w.heap.size + 1, 0, none⟩) hb4 (by show w.heap.size ≤ w.heap.size + 1; omega) u) (by show w.heap.size ≤ w.heap.size + 1; omega) _
            have hx1 : Sl w4 (.slice (some ⟨g, o, none⟩) 0 0) (l1.drop N) := sl_end hn1 (Nat.le_refl _)
            have hx2 : Sl w4 (.slice (some ⟨g, o, none⟩) N N) (l1.take N) := sl_take hc4 hn1 hNn hnc hcm
            have hx3 := hx1.turn (turn_set2 w4 (w.heap.size + 1) (.slice (some ⟨g, o, none⟩) 0 0) (.bool false)) hn4
            have hx4 := Lib.hid (hx2.turn (turn_set2 w4 (w.heap.size + 1) (.slice (some ⟨g, o, none⟩) 0 0) (.bool false)) hn4)
            have hrf : Hid (RfB ((w4.setCell ⟨w.heap.size + 1, 0, none⟩ (.slice (some ⟨g, o, none⟩) 0 0)).setCell ⟨w.heap.size + 1, 1, none⟩ (.bool false)) (.agg #[.slice (some ⟨g, o, none⟩) 0 0, .bool false]) B ⟨l1.drop N, false⟩) := ⟨⟨_, rfl, hx3, by first | exact Lo.none _ | exact Hlo.out.same (by omega)⟩, hdl, hdn, fun h => by cases h⟩
            have HB := Lib.hid (hset4 (.slice (some ⟨g, o, none⟩) 0 0))
            clear hset4 hx1 hx2 hx3 s14 s24 hs4 hb4 hn4
            iterate 9 (refine wpGt_read (o := ⟨_, _, _, _, _, _⟩) (v := ?_) rfl (by rfl) ?_ ?_; rotate_left; (intro w' hw'; go_simp; with_reducible rfl); simp only [Act.put, List.setIfInBounds_toArray, List.set_cons_zero, List.set_cons_succ])
            refine wpGt_call (o := ⟨_, _, _, _, _, _⟩) rfl (by rfl) (fun K hK => ?_)
            go_simp
            refine hK _ _ (turn_set2 _ _ _ _) ?_
            clear hK K k0
            iterate 1 (refine wpGt_read (o := ⟨_, _, _, _, _, _⟩) (v := ?_) rfl (by rfl) ?_ ?_; rotate_left; (intro w' hw'; go_simp; with_reducible rfl); simp only [Act.put, List.setIfInBounds_toArray, List.set_cons_zero, List.set_cons_succ])
            refine wpGt_done ?_
            go_wp2_with fail
            refine bodyPost_ret (v := .tuple #[.agg #[.slice (some ⟨g, o, none⟩) 0 0, .bool false], .slice (some ⟨g, o, none⟩) N N]) (by rw [results_cell_tmp rfl]; go_simp) rfl ⟨_, _, rfl, by rw [HE.out]; exact hrf.out, by rw [HE.out]; exact hx4.out, HB.out⟩
      · have HE := Lib.hid (hmiss (fun h => hN h.2))
        obtain ⟨a1, c1', rfl, _⟩ := hsl.arg
        have HB := Lib.hid (Hset.out (.slice none 0 0) true)
        clear hsl hsl2 hhit hmiss Hset
        generalize l1.length = n1 at *
        have d1 : decide ((n1 : Int) < (N : Int)) = true := by simp; omega
        go_wp2
        refine bodyPost_ret (v := .tuple #[.agg #[.slice none 0 0, .bool true], .slice none 0 0]) (by rw [results_cell_tmp rfl]; go_simp) rfl ⟨_, _, rfl, by rw [HE.out]; exact RfB.wrong _ _, by rw [HE.out]; exact Sl.none _, HB.out⟩
end Go.Proofs.YtjlllkdimfkjaaaDoor
