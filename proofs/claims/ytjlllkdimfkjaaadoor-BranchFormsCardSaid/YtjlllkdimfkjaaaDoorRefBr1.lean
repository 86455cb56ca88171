/-
  The document's May.
-/
import Derived.Test.YtjlllkdimfkjaaaDoorBranch1
import Derived.Test.YtjlllkdimfkjaaaDoorLess
namespace Go.Proofs.YtjlllkdimfkjaaaDoor
open Go Go.RowKit

set_option maxRecDepth 100000 in
set_option maxHeartbeats 4000000 in
theorem refMayF_any (a b : Option Addr) (n c m d : Nat) (ks : List ByteArray) (is : List Int) (w : World) (hn : ks.length = n) (hm : is.length = m) (hs : TxS w a ks) (hp : PgS w b is) (hl : n ≤ 1099511627776) (hl2 : m ≤ 1099511627776) :
    Calls Tryd.prog 14 #[.agg #[.slice a n c, .slice b m d]] w fun e w' => ∃ D, e = .returned (.bool D) ∧ (D = true ↔ mayF ks is) ∧ Below w.heap.size w w' := by
  have Hn := Lib.hid (And.intro hn hm)
  have Hs := Lib.hid (And.intro hs hp)
  have hpt := Lib.hid (chk_parts ks is n m hn hm)
  have hb0 : Hid (Below w.heap.size w (w.alloc (.cells #[.slice a n c, .slice b m d] RFK))) := (Below.refl _ _).alloc (Nat.le_refl _) _
  have hpb : Hid (PB (w.alloc (.cells #[.slice a n c, .slice b m d] RFK)) w.heap.size RFK (.slice a n c) (.slice b m d)) := PB.new _ _ _ _
  clear hs hp hn hm
  go_enter Tryd.func14, Tryd.ntmps14
  go_wp2_with fail
  go_loopw [3] (fun i wr => ∃ k : Nat, i = .int .i64 k ∧ k ≤ n ∧ Hid (keysTo ks k) ∧ Hid (PB wr w.heap.size RFK (.slice a n c) (.slice b m d)) ∧ Hid (Below w.heap.size w wr)) (fun i _ => n - (intOf i).toNat)
  case atStart => exact ⟨0, rfl, by omega, fun i hi => by omega, hpb, hb0⟩
  case round =>
    obtain ⟨k, rfl, hk, ht, hF, hB⟩ := hrel
    have f0 := hF.out.c0
    by_cases hlt : k < n
    · obtain ⟨g, o, rfl, hcell⟩ := Hs.out.1.below hB.out (Nat.le_refl _) (by rw [Hn.out.1]; omega)
      have hA := hcell k (by rw [Hn.out.1]; exact hlt)
      have r0 : ∀ w', Ext wr.drew w' → w'.cell? ⟨w.heap.size, 0, none⟩ = some (.slice (some ⟨g, o, none⟩) n c) := fun w' hw => (hF.out.extD hw).c0
      have r1 : ∀ w', Ext wr.drew w' → w'.cell? ⟨g, o + k, none⟩ = some (.string (sa ks k)) := fun w' hw => by
        rw [((Below.refl wr.heap.size wr).drew.trans hw).cell (p := ⟨g, o + k, none⟩) (block_lt_of_cell hA)]; exact hA
      have hno : Hid (okK (sa ks k) = false ∨ blt (lastK ks k) (sa ks k) = false → ¬ mayF ks is) := fun h => hpt.out.2.2.1 (not_keys (k := k) (by rw [Hn.out.1]; exact hlt) h)
      have hyes : Hid (okK (sa ks k) = true → blt (lastK ks k) (sa ks k) = true → keysTo ks (k + 1)) := fun h1 h2 => keysTo_succ ht.out h1 h2
      have hBd : Hid (Below w.heap.size w wr.drew) := hB.out.drew
      have hFd : Hid (PB wr.drew w.heap.size RFK (.slice (some ⟨g, o, none⟩) n c) (.slice b m d)) := hF.out.ext (Below.refl _ _).drew
      have hz : Hid (lastK ks k = if k = 0 then ByteArray.empty else sa ks (k - 1)) := rfl
      have hlk : Hid (0 < k → okK (sa ks (k - 1)) = true) := fun h => (ht.out (k - 1) (by omega)).1
      have hA2 : Hid (0 < k → wr.cell? ⟨g, o + (k - 1), none⟩ = some (.string (sa ks (k - 1)))) := fun h => hcell (k - 1) (by rw [Hn.out.1]; omega)
      generalize sa ks k = y at *
      generalize lastK ks k = z at *
      clear hcell hA ht hF
      by_cases h1 : y.size < 1
      · have hy := Lib.hid (hno.out (.inl (by unfold okK; simp; omega)))
        have d1 : decide ((y.size : Int) < 1) = true := decide_eq_true (by omega)
        clear hno hyes hz hlk hA2 h1
        go_wp2_with fail
        refine wp_region_gr [(0, true), (1, true), (2, true), (3, true), (4, true), (5, true), (6, true), (7, true), (8, true), (9, true), (10, true), (11, true), (12, true), (13, true), (14, true), (15, true), (16, true), (17, true), (18, true), (19, true), (20, true), (21, true), (22, true), (23, true), (24, true), (25, true), (26, true), (27, true), (28, true), (29, true), (30, true), (31, false), (32, true), (33, true), (34, true)] (by kernel_rfl) (by kernel_rfl) (by kernel_rfl) (by kernel_rfl) (fun _ _ _ _ _ h => h) ?_
        iterate 31 (first | (refine wpGr_read (o := ⟨_, _, _, _, _, _⟩) (v := ?_) rfl (by rfl) ?_ ?_; rotate_left; (intro w' hw'; go_simp; with_reducible rfl); simp only [Act.put, List.setIfInBounds_toArray, List.set_cons_zero, List.set_cons_succ]) | (refine wpGr_skip (o := ⟨_, _, _, _, _, _⟩) rfl (by rfl) ?_; simp only [Act.put, List.setIfInBounds_toArray, List.set_cons_zero, List.set_cons_succ]))
        refine wpGr_skipCall (o := ⟨_, _, _, _, _, _⟩) rfl (by rfl) ?_
        simp only [Act.put, List.setIfInBounds_toArray, List.set_cons_zero, List.set_cons_succ]
        iterate 3 (first | (refine wpGr_read (o := ⟨_, _, _, _, _, _⟩) (v := ?_) rfl (by rfl) ?_ ?_; rotate_left; (intro w' hw'; go_simp; with_reducible rfl); simp only [Act.put, List.setIfInBounds_toArray, List.set_cons_zero, List.set_cons_succ]) | (refine wpGr_skip (o := ⟨_, _, _, _, _, _⟩) rfl (by rfl) ?_; simp only [Act.put, List.setIfInBounds_toArray, List.set_cons_zero, List.set_cons_succ]))
        refine wpGr_done ?_
        go_wp2_with fail
        go_ret
        exact ⟨_, rfl, ⟨(fun h => by cases h), fun h => absurd h hy.out⟩, hBd.out⟩
      have d1 : decide ((y.size : Int) < 1) = false := decide_eq_false (by omega)
      by_cases h2 : 40 < y.size
      · have hy := Lib.hid (hno.out (.inl (by unfold okK; simp; omega)))
        have d2 : decide (40 < (y.size : Int)) = true := decide_eq_true (by omega)
        have d2' : decide (40 < y.size) = true := decide_eq_true h2
        clear hno hyes hz hlk hA2 h1 h2
        go_wp2_with fail
        refine wp_region_gr [(0, true), (1, true), (2, true), (3, true), (4, true), (5, true), (6, true), (7, true), (8, true), (9, true), (10, true), (11, true), (12, true), (13, true), (14, true), (15, true), (16, true), (17, true), (18, true), (19, true), (20, true), (21, true), (22, true), (23, true), (24, true), (25, true), (26, true), (27, true), (28, true), (29, true), (30, true), (31, false), (32, true), (33, true), (34, true)] (by kernel_rfl) (by kernel_rfl) (by kernel_rfl) (by kernel_rfl) (fun _ _ _ _ _ h => h) ?_
        iterate 31 (first | (refine wpGr_read (o := ⟨_, _, _, _, _, _⟩) (v := ?_) rfl (by rfl) ?_ ?_; rotate_left; (intro w' hw'; go_simp; with_reducible rfl); simp only [Act.put, List.setIfInBounds_toArray, List.set_cons_zero, List.set_cons_succ]) | (refine wpGr_skip (o := ⟨_, _, _, _, _, _⟩) rfl (by rfl) ?_; simp only [Act.put, List.setIfInBounds_toArray, List.set_cons_zero, List.set_cons_succ]))
        refine wpGr_skipCall (o := ⟨_, _, _, _, _, _⟩) rfl (by rfl) ?_
        simp only [Act.put, List.setIfInBounds_toArray, List.set_cons_zero, List.set_cons_succ]
        iterate 3 (first | (refine wpGr_read (o := ⟨_, _, _, _, _, _⟩) (v := ?_) rfl (by rfl) ?_ ?_; rotate_left; (intro w' hw'; go_simp; with_reducible rfl); simp only [Act.put, List.setIfInBounds_toArray, List.set_cons_zero, List.set_cons_succ]) | (refine wpGr_skip (o := ⟨_, _, _, _, _, _⟩) rfl (by rfl) ?_; simp only [Act.put, List.setIfInBounds_toArray, List.set_cons_zero, List.set_cons_succ]))
        refine wpGr_done ?_
        go_wp2_with fail
        go_ret
        exact ⟨_, rfl, ⟨(fun h => by cases h), fun h => absurd h hy.out⟩, hBd.out⟩
      have d2 : decide (40 < (y.size : Int)) = false := decide_eq_false (by omega)
      have d2' : decide (40 < y.size) = false := decide_eq_false h2
      have hok : okK y = true := by unfold okK; simp; omega
      have Hok := Lib.hid hok
      rcases Nat.eq_zero_or_pos k with h0 | h0
      · subst h0
        simp only [Nat.add_zero] at r1
        have hy : Hid (keysTo ks (0 + 1)) := hyes.out hok (by rw [hz.out]; exact blt_empty (by omega))
        clear hno hyes hz hlk hA2 h1 h2 hok
        go_wp2_with fail
        refine wp_region_gr [(0, true), (1, true), (2, true), (3, true), (4, true), (5, true), (6, true), (7, true), (8, true), (9, true), (10, true), (11, true), (12, true), (13, true), (14, true), (15, true), (16, true), (17, true), (18, true), (19, true), (20, true), (21, true), (22, true), (23, true), (24, true), (25, true), (26, true), (27, true), (28, true), (29, true), (30, true), (31, false), (32, true), (33, true), (34, true)] (by kernel_rfl) (by kernel_rfl) (by kernel_rfl) (by kernel_rfl) (fun _ _ _ _ _ h => h) ?_
        iterate 31 (first | (refine wpGr_read (o := ⟨_, _, _, _, _, _⟩) (v := ?_) rfl (by rfl) ?_ ?_; rotate_left; (intro w' hw'; go_simp; with_reducible rfl); simp only [Act.put, List.setIfInBounds_toArray, List.set_cons_zero, List.set_cons_succ]) | (refine wpGr_skip (o := ⟨_, _, _, _, _, _⟩) rfl (by rfl) ?_; simp only [Act.put, List.setIfInBounds_toArray, List.set_cons_zero, List.set_cons_succ]))
        refine wpGr_skipCall (o := ⟨_, _, _, _, _, _⟩) rfl (by rfl) ?_
        simp only [Act.put, List.setIfInBounds_toArray, List.set_cons_zero, List.set_cons_succ]
        iterate 3 (first | (refine wpGr_read (o := ⟨_, _, _, _, _, _⟩) (v := ?_) rfl (by rfl) ?_ ?_; rotate_left; (intro w' hw'; go_simp; with_reducible rfl); simp only [Act.put, List.setIfInBounds_toArray, List.set_cons_zero, List.set_cons_succ]) | (refine wpGr_skip (o := ⟨_, _, _, _, _, _⟩) rfl (by rfl) ?_; simp only [Act.put, List.setIfInBounds_toArray, List.set_cons_zero, List.set_cons_succ]))
        refine wpGr_done ?_
        go_wp2_with fail
        go_roundw
        case rel => exact ⟨0 + 1, by go_num, by omega, hy, hFd, hBd⟩
        case measure => simp [intOf]; omega
      · obtain ⟨j, rfl⟩ : ∃ j, k = j + 1 := ⟨k - 1, by omega⟩
        rw [Nat.add_sub_cancel] at hz hlk hA2
        have hzj : Hid (z = sa ks j) := by show _ = _; rw [hz.out, if_neg (by omega)]
        have hA3 := hA2.out (by omega)
        have hkz := okK_size (hlk.out (by omega))
        rw [← hzj.out] at hA3 hkz
        have r2 : ∀ w', Ext wr.drew w' → w'.cell? ⟨g, o + j, none⟩ = some (.string z) := fun w' hw => by
          rw [((Below.refl wr.heap.size wr).drew.trans hw).cell (p := ⟨g, o + j, none⟩) (block_lt_of_cell hA3)]; exact hA3
        have hless := Lib.hid (less_any z y wr.drew (by omega))
        have i1 : (0 : Int) ≤ (j : Int) + 1 := by omega
        have i2 : (j : Int) + 1 < (n : Int) := by omega
        have i3 : (j : Int) < (n : Int) := by omega
        have i4 : IntKind.i64.wrap (j : Int) = (j : Int) := by rw [IntKind.wrap_i64]; omega
        have i5 : (0 : Int) < (j : Int) + 1 := by omega
        generalize blt z y = D at *
        clear hz hlk hA2 hzj hA3 h1 h2 h0 hkz hok
        go_wp2_with fail
        refine wp_region_gr [(0, true), (1, true), (2, true), (3, true), (4, true), (5, true), (6, true), (7, true), (8, true), (9, true), (10, true), (11, true), (12, true), (13, true), (14, true), (15, true), (16, true), (17, true), (18, true), (19, true), (20, true), (21, true), (22, true), (23, true), (24, true), (25, true), (26, true), (27, true), (28, true), (29, true), (30, true), (31, false), (32, true), (33, true), (34, true)] (by kernel_rfl) (by kernel_rfl) (by kernel_rfl) (by kernel_rfl) (fun _ _ _ _ _ h => h) ?_
        iterate 31 (first | (refine wpGr_read (o := ⟨_, _, _, _, _, _⟩) (v := ?_) rfl (by rfl) ?_ ?_; rotate_left; (intro w' hw'; go_simp; with_reducible rfl); simp only [Act.put, List.setIfInBounds_toArray, List.set_cons_zero, List.set_cons_succ]) | (refine wpGr_skip (o := ⟨_, _, _, _, _, _⟩) rfl (by rfl) ?_; simp only [Act.put, List.setIfInBounds_toArray, List.set_cons_zero, List.set_cons_succ]))
        cases D with
        | false =>
          have hy := Lib.hid (hno.out (.inr rfl))
          clear hno hyes r0 r1 r2
          refine wpGr_call (o := ⟨_, _, _, _, _, _⟩) rfl (by rfl) (fun K hK => ?_)
          go_simp
          refine hless.out.mono ?_
          rintro e w5 ⟨rfl, hb5⟩
          refine hK _ _ hb5 ?_
          clear hK K
          have hB5 := Lib.hid (hBd.out.trans (hb5.mono hBd.out.size))
          clear hb5
          iterate 3 (first | (refine wpGr_read (o := ⟨_, _, _, _, _, _⟩) (v := ?_) rfl (by rfl) ?_ ?_; rotate_left; (intro w' hw'; go_simp; with_reducible rfl); simp only [Act.put, List.setIfInBounds_toArray, List.set_cons_zero, List.set_cons_succ]) | (refine wpGr_skip (o := ⟨_, _, _, _, _, _⟩) rfl (by rfl) ?_; simp only [Act.put, List.setIfInBounds_toArray, List.set_cons_zero, List.set_cons_succ]))
          refine wpGr_done ?_
          go_wp2_with fail
          go_ret
          exact ⟨_, rfl, ⟨(fun h => by cases h), fun h => absurd h hy.out⟩, hB5.out⟩
        | true =>
          have hy := Lib.hid (hyes.out Hok.out rfl)
          clear hno hyes r0 r1 r2
          refine wpGr_call (o := ⟨_, _, _, _, _, _⟩) rfl (by rfl) (fun K hK => ?_)
          go_simp
          refine hless.out.mono ?_
          rintro e w5 ⟨rfl, hb5⟩
          refine hK _ _ hb5 ?_
          clear hK K
          have hB5 := Lib.hid (hBd.out.trans (hb5.mono hBd.out.size))
          have hF5 := Lib.hid (hFd.out.ext hb5)
          clear hb5
          iterate 3 (first | (refine wpGr_read (o := ⟨_, _, _, _, _, _⟩) (v := ?_) rfl (by rfl) ?_ ?_; rotate_left; (intro w' hw'; go_simp; with_reducible rfl); simp only [Act.put, List.setIfInBounds_toArray, List.set_cons_zero, List.set_cons_succ]) | (refine wpGr_skip (o := ⟨_, _, _, _, _, _⟩) rfl (by rfl) ?_; simp only [Act.put, List.setIfInBounds_toArray, List.set_cons_zero, List.set_cons_succ]))
          refine wpGr_done ?_
          go_wp2_with fail
          go_roundw
          case rel => exact ⟨(j + 1) + 1, by go_num, by omega, hy, hF5, hB5⟩
          case measure => simp [intOf]; omega
    · obtain rfl : k = n := by omega
      have hkf : Hid (keysF ks) := by show keysTo ks ks.length; rw [Hn.out.1]; exact ht.out
      clear ht
      go_wp2_with fail
      go_loopw [4, 5] (fun i _ wx => ∃ q : Nat, i = .int .i64 q ∧ q ≤ m ∧ Hid (pagesTo is q) ∧ Hid (PB wx w.heap.size RFK (.slice a k c) (.slice b m d)) ∧ Hid (Below w.heap.size w wx)) (fun i _ _ => m - (intOf i).toNat)
      case atStart => exact ⟨0, rfl, by omega, fun i hi => by omega, hF, hB⟩
      case round =>
        clear hF hB f0 hb0 hpb
        obtain ⟨q, rfl, hq, ht, hF, hB⟩ := hrel
        have f1 := hF.out.c1
        by_cases hqm : q < m
        · obtain ⟨g, o, rfl, hcell⟩ := Hs.out.2.below hB.out (Nat.le_refl _) (by rw [Hn.out.2]; omega)
          have hA := hcell q (by rw [Hn.out.2]; exact hqm)
          have hno : Hid (¬ (2 ≤ ia is q ∧ ia is q ≤ 1023) ∨ ¬ freshAt is q → ¬ mayF ks is) := fun h => hpt.out.2.2.2.1 (not_pages (k := q) (by rw [Hn.out.2]; exact hqm) h)
          have hyes : Hid (2 ≤ ia is q ∧ ia is q ≤ 1023 → freshAt is q → pagesTo is (q + 1)) := fun h1 h2 => pagesTo_succ ht.out h1 h2
          have hfr : Hid (freshAt is q = ∀ j, j < q → ia is j ≠ ia is q) := rfl
          generalize hx : ia is q = x at *
          have Hx := Lib.hid hx
          clear hx hcell ht
          by_cases h1 : x < 2
          · have hy := Lib.hid (hno.out (.inl (by omega)))
            have d1 : decide (x < 2) = true := decide_eq_true h1
            clear hno hyes hfr h1
            go_wp2_with fail
            go_ret
            exact ⟨_, rfl, ⟨(fun h => by cases h), fun h => absurd h hy.out⟩, hB.out⟩
          have d1 : decide (x < 2) = false := decide_eq_false h1
          by_cases h2 : 1023 < x
          · have hy := Lib.hid (hno.out (.inl (by omega)))
            have d2 : decide (1023 < x) = true := decide_eq_true h2
            clear hno hyes hfr h1 h2
            go_wp2_with fail
            go_ret
            exact ⟨_, rfl, ⟨(fun h => by cases h), fun h => absurd h hy.out⟩, hB.out⟩
          have d2 : decide (1023 < x) = false := decide_eq_false h2
          have hyes2 : Hid (freshAt is q → pagesTo is (q + 1)) := hyes.out ⟨by omega, by omega⟩
          clear h1 h2 hyes
          go_wp2_with fail
          go_loopw [5] (fun i wy => ∃ p : Nat, i = .int .i64 p ∧ p ≤ q ∧ Hid (∀ j, j < p → ia is j ≠ x) ∧ Hid (PB wy w.heap.size RFK (.slice a k c) (.slice (some ⟨g, o, none⟩) m d)) ∧ Hid (Below w.heap.size w wy)) (fun i _ => q - (intOf i).toNat)
          case atStart => exact ⟨0, rfl, by omega, fun i hi => by omega, hF, hB⟩
          case round =>
            clear hF hB f1 hA d1 d2
            obtain ⟨p, rfl, hp, ht, hF, hB⟩ := hrel
            by_cases hpq : p < q
            · obtain ⟨g', o', e, hcell⟩ := Hs.out.2.below hB.out (Nat.le_refl _) (by rw [Hn.out.2]; omega)
              cases e
              have hA := hcell q (by rw [Hn.out.2]; exact hqm)
              have hA2 := hcell p (by rw [Hn.out.2]; omega)
              rw [Hx.out] at hA
              have r1 : ∀ w', Ext wr.drew w' → w'.cell? ⟨w.heap.size, 1, none⟩ = some (.slice (some ⟨g, o, none⟩) m d) := fun w' hw => (hF.out.extD hw).c1
              have r2 : ∀ w', Ext wr.drew w' → w'.cell? ⟨g, o + q, none⟩ = some (.int .i64 x) := fun w' hw => by
                rw [((Below.refl wr.heap.size wr).drew.trans hw).cell (p := ⟨g, o + q, none⟩) (block_lt_of_cell hA)]; exact hA
              have r3 : ∀ w', Ext wr.drew w' → w'.cell? ⟨g, o + p, none⟩ = some (.int .i64 (ia is p)) := fun w' hw => by
                rw [((Below.refl wr.heap.size wr).drew.trans hw).cell (p := ⟨g, o + p, none⟩) (block_lt_of_cell hA2)]; exact hA2
              have hstop : Hid (ia is p = x → ¬ freshAt is q) := fun h hf => by
                rw [hfr.out] at hf
                exact hf p hpq h
              have hgo : Hid (ia is p ≠ x → ∀ j, j < p + 1 → ia is j ≠ x) := fun h j hj => by
                rcases Nat.lt_or_ge j p with h3 | h3
                · exact ht.out j h3
                · obtain rfl : j = p := by omega
                  exact h
              have hBd : Hid (Below w.heap.size w wr.drew) := hB.out.drew
              have hFd : Hid (PB wr.drew w.heap.size RFK (.slice a k c) (.slice (some ⟨g, o, none⟩) m d)) := hF.out.ext (Below.refl _ _).drew
              have p1 : (p : Int) < (m : Int) := by omega
              have p2 : p < m := by omega
              generalize ia is p = y at *
              obtain ⟨D, hD⟩ : ∃ D, (y == x) = D := ⟨_, rfl⟩
              have HD := Lib.hid hD
              clear hcell hA hA2 hF hB ht
              go_wp2_with fail
              refine wp_region_gr [(0, true), (1, true), (2, true), (3, true), (4, true), (5, true), (6, true), (7, true), (8, true), (9, true), (10, true)] (by kernel_rfl) (by kernel_rfl) (by kernel_rfl) (by kernel_rfl) (fun _ _ _ _ _ h => h) ?_
              iterate 11 (refine wpGr_read (o := ⟨_, _, _, _, _, _⟩) (v := ?_) rfl (by rfl) ?_ ?_; rotate_left; (intro w' hw'; go_simp; with_reducible rfl); simp only [Act.put, List.setIfInBounds_toArray, List.set_cons_zero, List.set_cons_succ])
              refine wpGr_done ?_
              clear r1 r2 r3
              cases D with
              | true =>
                have hy : Hid (¬ mayF ks is) := hno.out (.inr (hstop.out (by have := HD.out; simpa using this)))
                clear hno hyes2 hgo hstop
                go_wp2_with fail
                go_ret
                exact ⟨_, rfl, ⟨(fun h => by cases h), fun h => absurd h hy.out⟩, hBd.out⟩
              | false =>
                have hy := Lib.hid (hgo.out (by have := HD.out; simpa using this))
                clear hgo hstop
                go_wp2_with fail
                go_roundw
                case rel => exact ⟨p + 1, by go_num, by omega, hy, hFd, hBd⟩
                case measure => simp [intOf]; omega
            · obtain rfl : p = q := by omega
              have hy : Hid (pagesTo is (p + 1)) := hyes2.out (by rw [hfr.out]; exact ht.out)
              clear hno hyes2 hfr ht
              go_wp2_with fail
              go_roundw
              case rel => exact ⟨p + 1, by go_num, by omega, hy, hF, hB⟩
              case measure => simp [intOf]; omega
        · obtain rfl : q = m := by omega
          have hpf : Hid (pagesF is) := by show pagesTo is is.length; rw [Hn.out.2]; exact ht.out
          have f0 := hF.out.c0
          clear ht
          by_cases h1 : k < 1
          · have hy := Lib.hid (hpt.out.1 h1)
            have d1 : decide (1 ≤ (k : Int)) = false := decide_eq_false (by omega)
            have d1' : decide (1 ≤ k) = false := decide_eq_false (by omega)
            clear hpt h1
            go_wp2_with fail
            go_ret
            exact ⟨false, rfl, ⟨(fun h => by cases h), fun h => absurd h hy.out⟩, hB.out⟩
          have d1 : decide (1 ≤ (k : Int)) = true := decide_eq_true (by omega)
          have d1' : decide (1 ≤ k) = true := decide_eq_true (by omega)
          have i4 : IntKind.i64.wrap ((k : Int) + 1) = (k : Int) + 1 := by rw [IntKind.wrap_i64]; omega
          by_cases h2 : q = k + 1
          · have hy := Lib.hid (hpt.out.2.2.2.2 h1 h2 hkf.out hpf.out)
            have d2 : ((q : Int) == (k : Int) + 1) = true := by simp; omega
            clear hpt h1 h2
            go_wp2_with fail
            go_ret
            exact ⟨true, rfl, ⟨fun _ => hy.out, fun _ => rfl⟩, hB.out⟩
          · have hy := Lib.hid (hpt.out.2.1 h2)
            have d2 : ((q : Int) == (k : Int) + 1) = false := by simp; omega
            clear hpt h1 h2
            go_wp2_with fail
            go_ret
            exact ⟨false, rfl, ⟨(fun h => by cases h), fun h => absurd h hy.out⟩, hB.out⟩
end Go.Proofs.YtjlllkdimfkjaaaDoor
