/-
  LeafGrows: the law's walk.
-/
import Derived.Test.YtmgbdbpknocgjaaDoorSure8
namespace Go.Proofs.YtmgbdbpknocgjaaDoor
open Go Go.RowKit

theorem vs_100 {n : Nat} (h : n ≤ 100) : vs n = 1 := vs_small (by omega)
theorem ca_take (cs : List Ce) (m i : Nat) (h : i < m) : ca (cs.take m) i = ca cs i := by
  unfold ca; simp [List.getD, h]
theorem take_may {cs : List Ce} (h : allMay cs) (m : Nat) : allMay (cs.take m) := fun i hi => by
  rw [List.length_take] at hi
  rw [ca_take cs m i (by omega)]; exact h i (by omega)
theorem take_asc {cs : List Ce} (h : asc cs) (m : Nat) : asc (cs.take m) := fun i h0 hi => by
  rw [List.length_take] at hi
  rw [ca_take cs m i (by omega), ca_take cs m (i - 1) (by omega)]; exact h i h0 (by omega)
theorem grow_facts {cs : List Ce} {m : Nat} (h : allMay cs) (ha : asc cs) (hm : cs.length = m + 1) (h100 : m + 1 ≤ 100) :
    (loadS cs).length = (loadS (cs.take m)).length + sizeS (ca cs m).k (ca cs m).n ∧
    ((encE (cs.take m) = 5 ∧ encB (cs.take m) = [] ∧ encE cs = 5 ∧ encB cs = []) ∨
      (encE (cs.take m) = 0 ∧ encB (cs.take m) = loadS (cs.take m) ∧ 504 < (loadS cs).length ∧ encE cs = 5 ∧ encB cs = [] ∧ (loadS (cs.take m)).length ≤ 504) ∨
      (encE (cs.take m) = 0 ∧ encB (cs.take m) = loadS (cs.take m) ∧ (loadS cs).length ≤ 504 ∧ encE cs = 0 ∧ encB cs = loadS cs)) := by
  have hl : (loadS cs).length = (loadS (cs.take m)).length + sizeS (ca cs m).k (ca cs m).n := by
    have e1 := sums_succ cs m (by omega)
    rw [one_len (h m (by omega)), sums_all cs (m + 1) (by omega)] at e1
    rw [load_len, load_len, List.length_take, hm, Nat.min_eq_left (by omega), vs_100 h100, vs_100 (show m ≤ 100 by omega), e1]
    unfold sums
    omega
  refine ⟨hl, ?_⟩
  have h1 := take_may h m
  have h2 := take_asc ha m
  rcases Nat.lt_or_ge 504 (loadS (cs.take m)).length with h3 | h3
  · have e1 := enc_5 h1 h2 h3
    have e2 := enc_5 h ha (by omega)
    exact .inl ⟨e1.1, e1.2, e2.1, e2.2⟩
  · have e1 := enc_0 h1 h2 h3
    rcases Nat.lt_or_ge 504 (loadS cs).length with h4 | h4
    · have e2 := enc_5 h ha h4
      exact .inr (.inl ⟨e1.1, e1.2, h4, e2.1, e2.2, h3⟩)
    · have e2 := enc_0 h ha h4
      exact .inr (.inr ⟨e1.1, e1.2, h4, e2.1, e2.2⟩)
theorem errV_5 : errV 5 = .iface 51 (.int .i64 5) := rfl
set_option maxRecDepth 100000 in
set_option maxHeartbeats 4000000 in
theorem grows_any (a : Option Addr) (n c : Nat) (cs : List Ce) (w : World) (hn : cs.length = n) (hs : CSrc w a cs) (hl : n * 48 ≤ 140737488355328) (hg : Hg w) :
    Calls Tryd.prog 5 #[.slice a n c] w fun e w' => e = .returned (.bool true) ∧ Below w.heap.size w w' := by
  have HG := Lib.hid hg
  have Hn := Lib.hid hn
  have hgive := Lib.hid (give_any a n c cs w hn hs hl)
  have fin : ∀ w5 : World, Hid (Below w.heap.size w w5) → Calls Tryd.prog 6 #[] w5 fun e w' => e = .returned (.bool true) ∧ Below w.heap.size w w' := fun w5 h5 =>
    (sure_any w5 (HG.out.below h5.out)).mono fun _ _ h => ⟨h.1, h5.out.trans (h.2.mono h5.out.size)⟩
  have Fin := Lib.hid fin
  have num5 : ∀ wx : World, Hid (Below w.heap.size w wx) → Calls Tryd.prog 12 #[.iface 51 (.int .i64 5)] wx fun e w' => e = .returned (.int .i64 5) ∧ Below w.heap.size w w' := fun wx hb =>
    (num_err 5 wx (HG.out.below hb.out)).mono fun _ _ h => ⟨h.1, hb.out.trans (h.2.mono hb.out.size)⟩
  have Num5 := Lib.hid num5
  clear hg hn hs fin num5
  go_enter Tryd.func5, Tryd.ntmps5
  go_wp2_with fail
  refine hgive.out.mono ?_
  rintro e w1 ⟨v, rfl, hv, hb1⟩
  obtain ⟨a1, c1, rfl, hs1, _, hlc1, hcm1⟩ := hv
  rw [Hn.out] at hlc1 ⊢
  have Hs1 := Lib.hid hs1
  have Hb1 := Lib.hid hb1
  clear hs1 hb1 hgive
  by_cases h100 : 100 < n
  · have d1 : decide (100 < (n : Int)) = true := decide_eq_true (by omega)
    have d1' : decide (100 < n) = true := decide_eq_true h100
    clear hcm1 hlc1
    go_wp2_with fail
    refine (Fin.out w1 Hb1).mono ?_
    rintro e w2 ⟨rfl, hb⟩
    have Hb := Lib.hid hb
    clear hb
    go_wp2
    go_ret
    exact ⟨rfl, Hb.out⟩
  by_cases h0 : n = 0
  · subst h0
    clear hcm1 hlc1
    go_wp2_with fail
    refine (Fin.out w1 Hb1).mono ?_
    rintro e w2 ⟨rfl, hb⟩
    have Hb := Lib.hid hb
    clear hb
    go_wp2
    go_ret
    exact ⟨rfl, Hb.out⟩
  obtain ⟨m, rfl⟩ : ∃ m, n = m + 1 := ⟨n - 1, by omega⟩
  obtain ⟨N, hN⟩ : ∃ N, N = m + 1 := ⟨_, rfl⟩
  rw [← hN] at h100 h0 hlc1 hl Hn ⊢
  have HN := Lib.hid hN
  have d1 : decide (100 < (N : Int)) = false := decide_eq_false (by omega)
  have d2 : ((N : Int) == 0) = false := by simp; omega
  have hNl : N ≤ 100 := by omega
  have hcm2 : c1 ≤ 9223372036854775807 := by unfold maxLen at hcm1; omega
  clear h100 h0 hN hcm1
  go_wp2_with fail
  go_loopw [4] (fun i wr => ∃ k : Nat, k ≤ N ∧ i = .int .i64 k ∧ Hid (∀ j, j < k → mayB (ca cs j) = true) ∧ Hid (ascTo cs k) ∧ Hid (Below w.heap.size w wr) ∧ Hid (CSrc wr a1 cs)) (fun i _ => N - (intOf i).toNat)
  case atStart => exact ⟨0, Nat.zero_le _, rfl, (fun j h => by omega), (fun i h0 hi => by omega), Hb1, Hs1⟩
  case round =>
    obtain ⟨k, hk, rfl, hall, hasc, hB, hsr⟩ := hrel
    by_cases hlt : k < N
    · obtain ⟨g, o, rfl, hcell⟩ := hsr.out (by rw [Hn.out]; omega)
      have hA := hcell k (by rw [Hn.out]; exact hlt)
      have hyes : Hid (mayB (ca cs k) = true → ∀ j, j < k + 1 → mayB (ca cs j) = true) := fun h j hj => by
        rcases Nat.lt_or_ge j k with h1 | h1
        · exact hall.out j h1
        · obtain rfl : j = k := by omega
          exact h
      have hgo : Hid ((0 < k → blt (ca cs (k - 1)).k (ca cs k).k = true) → ascTo cs (k + 1)) := fun h => ascTo_succ hasc.out h
      have r0 : ∀ w', Ext wr.drew w' → w'.cell? ⟨g, o + k * 4, none⟩ = some (.string (ca cs k).k) := fun w' hw => (hA.ext hw).c0
      have r1 : ∀ w', Ext wr.drew w' → w'.cell? ⟨g, o + k * 4 + 1, none⟩ = some (.string (ca cs k).v) := fun w' hw => (hA.ext hw).c1
      have r2 : ∀ w', Ext wr.drew w' → w'.cell? ⟨g, o + k * 4 + 2, none⟩ = some (.int .i64 (ca cs k).n) := fun w' hw => (hA.ext hw).c2
      have r3 : ∀ w', Ext wr.drew w' → w'.cell? ⟨g, o + k * 4 + 3, none⟩ = some (.int .i64 (ca cs k).p) := fun w' hw => (hA.ext hw).c3
      have Hcell := Lib.hid hcell
      clear hcell hall hasc
      generalize hy : ca cs k = y at *
      have Hy := Lib.hid hy
      clear hy
      obtain ⟨y0, y1, y2, y3⟩ := y
      dsimp only at r0 r1 r2 r3
      have hchk := Lib.hid (leafCheck_any y0 y1 y2 y3 wr.drew)
      obtain ⟨MM, hMM⟩ : ∃ MM, MM = mayB ⟨y0, y1, y2, y3⟩ := ⟨_, rfl⟩
      rw [← hMM] at hchk hyes
      unfold chkC at hchk
      clear hMM hA
      have k63 : (k : Int) < (N : Int) := by omega
      go_wp2_with fail
      refine wp_region_gr [(0, true), (1, true), (2, true), (3, true), (4, false), (5, true), (6, true), (7, true), (8, true), (9, true), (10, true), (11, true), (12, true), (13, true), (14, true), (15, true), (16, true), (17, true), (18, true), (19, true), (20, true), (21, true), (22, true), (23, true)] (by kernel_rfl) (by kernel_rfl) (by kernel_rfl) (by kernel_rfl) (fun _ _ _ _ _ h => h) ?_
      iterate 4 (refine wpGr_read (o := ⟨_, _, _, _, _, _⟩) (v := ?_) rfl (by rfl) ?_ ?_; rotate_left; (intro w' hw'; go_simp; with_reducible rfl); simp only [Act.put, List.setIfInBounds_toArray, List.set_cons_zero, List.set_cons_succ])
      cases MM with
      | false =>
        simp only [Bool.false_eq_true, if_false] at hchk
        refine wpGr_call (o := ⟨_, _, _, _, _, _⟩) rfl (by rfl) (fun K hK => ?_)
        go_simp
        refine hchk.out.mono ?_
        rintro e w5 ⟨rfl, hb5⟩
        refine hK _ _ hb5 ?_
        clear hK K
        have hB5 : Hid (Below w.heap.size w w5) := hB.out.trans (((Below.refl wr.heap.size wr).drew.trans hb5).mono hB.out.size)
        clear r0 r1 r2 r3 hb5
        iterate 19 (first | (refine wpGr_read (o := ⟨_, _, _, _, _, _⟩) (v := ?_) rfl (by rfl) ?_ ?_; rotate_left; (intro w' hw'; go_simp; with_reducible rfl); simp only [Act.put, List.setIfInBounds_toArray, List.set_cons_zero, List.set_cons_succ]) | (refine wpGr_skip (o := ⟨_, _, _, _, _, _⟩) rfl (by rfl) ?_; simp only [Act.put, List.setIfInBounds_toArray, List.set_cons_zero, List.set_cons_succ]))
        refine wpGr_done ?_
        go_wp2_with fail
        refine (Fin.out w5 hB5).mono ?_
        rintro e w2 ⟨rfl, hb⟩
        have Hb := Lib.hid hb
        clear hb
        go_wp2
        go_ret
        exact ⟨rfl, Hb.out⟩
      | true =>
        have hy2 := Lib.hid (hyes.out rfl)
        simp only [if_true] at hchk
        refine wpGr_call (o := ⟨_, _, _, _, _, _⟩) rfl (by rfl) (fun K hK => ?_)
        go_simp
        refine hchk.out.mono ?_
        rintro e w5 ⟨rfl, hb5⟩
        refine hK _ _ hb5 ?_
        clear hK K
        have hb5' : Below wr.heap.size wr w5 := (Below.refl wr.heap.size wr).drew.trans hb5
        have hB5 : Hid (Below w.heap.size w w5) := hB.out.trans (hb5'.mono hB.out.size)
        have hs5 := Lib.hid (hsr.out.below hb5' (Nat.le_refl _))
        clear r0 r1 r2 r3 hyes
        rcases Nat.eq_zero_or_pos k with h0 | h0
        · have ha3 := Lib.hid (hgo.out (fun h => by omega))
          have e0 : decide (0 < (k : Int)) = false := decide_eq_false (by omega)
          have e1 : decide (0 < k) = false := decide_eq_false (by omega)
          clear h0 hgo hb5 hb5'
          iterate 19 (first | (refine wpGr_read (o := ⟨_, _, _, _, _, _⟩) (v := ?_) rfl (by rfl) ?_ ?_; rotate_left; (intro w' hw'; go_simp; with_reducible rfl); simp only [Act.put, List.setIfInBounds_toArray, List.set_cons_zero, List.set_cons_succ]) | (refine wpGr_skip (o := ⟨_, _, _, _, _, _⟩) rfl (by rfl) ?_; simp only [Act.put, List.setIfInBounds_toArray, List.set_cons_zero, List.set_cons_succ]))
          refine wpGr_done ?_
          go_wp2_with fail
          go_roundw
          case rel => exact ⟨k + 1, by omega, by go_num, hy2, ha3, hB5, hs5⟩
          case measure => simp [intOf]; omega
        · obtain ⟨j, rfl⟩ : ∃ j, k = j + 1 := ⟨k - 1, by omega⟩
          rw [Nat.add_sub_cancel] at hgo
          have hA := (Hcell.out (j + 1) (by rw [Hn.out]; exact hlt)).below hb5' (block_lt_of_cell (Hcell.out (j + 1) (by rw [Hn.out]; exact hlt)).c0)
          have hC := (Hcell.out j (by rw [Hn.out]; omega)).below hb5' (block_lt_of_cell (Hcell.out j (by rw [Hn.out]; omega)).c0)
          rw [Hy.out] at hA
          have q0 : ∀ w', Ext w5 w' → w'.cell? ⟨g, o + (j + 1) * 4, none⟩ = some (.string y0) := fun w' hw => (hA.below hw hA.lt).c0
          have q1 : ∀ w', Ext w5 w' → w'.cell? ⟨g, o + j * 4, none⟩ = some (.string (ca cs j).k) := fun w' hw => (hC.below hw hC.lt).c0
          have hle : Op.bytesLess (ca cs j).k.toList y0.toList = blt (ca cs j).k y0 := rfl
          obtain ⟨D, hD⟩ : ∃ D, D = blt (ca cs j).k y0 := ⟨_, rfl⟩
          rw [← hD] at hle hgo
          have i1 : (0 : Int) ≤ (j : Int) + 1 := by omega
          have i2 : (j : Int) + 1 < (N : Int) := by omega
          have i3 : (j : Int) < (N : Int) := by omega
          have i4 : IntKind.i64.wrap (j : Int) = (j : Int) := by rw [IntKind.wrap_i64]; omega
          have i5 : (0 : Int) < (j : Int) + 1 := by omega
          have i6 : j < N := by omega
          generalize (ca cs j).k = lastK at *
          clear hD hA hC hb5 hb5' k63
          iterate 19 (first | (refine wpGr_read (o := ⟨_, _, _, _, _, _⟩) (v := ?_) rfl (by rfl) ?_ ?_; rotate_left; (intro w' hw'; go_simp; with_reducible rfl); simp only [Act.put, List.setIfInBounds_toArray, List.set_cons_zero, List.set_cons_succ]) | (refine wpGr_skip (o := ⟨_, _, _, _, _, _⟩) rfl (by rfl) ?_; simp only [Act.put, List.setIfInBounds_toArray, List.set_cons_zero, List.set_cons_succ]))
          refine wpGr_done ?_
          clear q0 q1 hle
          cases D with
          | false =>
            go_wp2_with fail
            refine (Fin.out w5 hB5).mono ?_
            rintro e w2 ⟨rfl, hb⟩
            have Hb := Lib.hid hb
            clear hb
            go_wp2
            go_ret
            exact ⟨rfl, Hb.out⟩
          | true =>
            have ha3 := Lib.hid (hgo.out (fun _ => rfl))
            go_wp2_with fail
            go_roundw
            case rel => exact ⟨j + 1 + 1, by omega, by go_num, hy2, ha3, hB5, hs5⟩
            case measure => simp [intOf]; omega
    · obtain rfl : k = N := by omega
      have hmay : Hid (allMay cs) := fun j hj => hall.out j (by rw [← Hn.out]; exact hj)
      have hasc2 : Hid (asc cs) := by show ascTo cs cs.length; rw [Hn.out]; exact hasc.out
      have hgf := Lib.hid (grow_facts hmay.out hasc2.out (m := m) (by rw [Hn.out, HN.out]) (by rw [← HN.out]; exact hNl))
      have hm1 : m < k := by rw [HN.out]; omega
      have hlast := Lib.hid (hmay.out m (by rw [Hn.out]; exact hm1))
      have e1 : (k : Int) - 1 = (m : Int) := by have := HN.out; omega
      have e2 : IntKind.i64.wrap ((k : Int) - 1) = (m : Int) := by rw [IntKind.wrap_i64]; omega
      have e3 : IntKind.i64.wrap (m : Int) = (m : Int) := by rw [IntKind.wrap_i64]; omega
      have e4 : (m : Int) < (k : Int) := by omega
      have e5 : (m : Int) ≤ (c1 : Int) := by omega
      have htl : Hid ((cs.take m).length = m) := by show _ = _; rw [List.length_take, Hn.out]; omega
      clear hall hasc
      go_wp2_with fail
      refine (encode_any a1 m c1 (cs.take m) wr htl.out (hsr.out.take m) (by omega)).mono ?_
      rintro e w2 ⟨v, rfl, hv, hb2⟩
      have Hs2 := Lib.hid (hsr.out.below hb2 (Nat.le_refl _))
      have Hb2 := Lib.hid (hB.out.trans (hb2.mono hB.out.size))
      obtain ⟨aa, ca1, rfl, _⟩ := hv.arg
      clear hv hb2 hsr hB
      go_wp2_with fail
      refine (encode_any a1 k c1 cs w2 Hn.out Hs2.out (by omega)).mono ?_
      rintro e w3 ⟨v, rfl, hv, hb3⟩
      have Hs3 := Lib.hid (Hs2.out.below hb3 (Nat.le_refl _))
      have Hb3 := Lib.hid (Hb2.out.trans (hb3.mono Hb2.out.size))
      obtain ⟨ab, cb1, rfl, _⟩ := hv.arg
      clear hv hb3 Hs2 Hb2
      obtain ⟨g, o, rfl, hcell⟩ := Hs3.out (by rw [Hn.out]; omega)
      have hA := hcell m (by rw [Hn.out]; exact hm1)
      have r0 : ∀ w', Ext w3.drew w' → w'.cell? ⟨g, o + m * 4, none⟩ = some (.string (ca cs m).k) := fun w' hw => (hA.ext hw).c0
      have r2 : ∀ w', Ext w3.drew w' → w'.cell? ⟨g, o + m * 4 + 2, none⟩ = some (.int .i64 (ca cs m).n) := fun w' hw => (hA.ext hw).c2
      have h1 := may_k hlast.out
      have h2 := may_n0 hlast.out
      have h3 := may_n hlast.out
      have h4 := size_le hlast.out
      clear hcell hA hlast
      generalize (ca cs m).k = lk at *
      generalize (ca cs m).n = ln at *
      obtain ⟨LN, rfl⟩ := Int.eq_ofNat_of_zero_le h2
      have hsz := Lib.hid (leafSize_any lk LN w3.drew (by omega) (by omega))
      obtain ⟨Z, hZ⟩ : ∃ Z, Z = sizeS lk (LN : Int) := ⟨_, rfl⟩
      rw [← hZ] at hsz hgf h4
      clear hZ
      have hBd : Hid (Below w.heap.size w w3.drew) := Hb3.out.drew
      go_wp2_with fail
      refine wp_region_gr [(0, true), (1, true), (2, true), (3, true), (4, true), (5, true), (6, true), (7, true), (8, true), (9, true), (10, true), (11, true), (12, true), (13, true), (14, false), (15, true)] (by kernel_rfl) (by kernel_rfl) (by kernel_rfl) (by kernel_rfl) (fun _ _ _ _ _ h => h) ?_
      iterate 14 (refine wpGr_read (o := ⟨_, _, _, _, _, _⟩) (v := ?_) rfl (by rfl) ?_ ?_; rotate_left; (intro w' hw'; go_simp; with_reducible rfl); simp only [Act.put, List.setIfInBounds_toArray, List.set_cons_zero, List.set_cons_succ])
      refine wpGr_call (o := ⟨_, _, _, _, _, _⟩) rfl (by rfl) (fun K hK => ?_)
      go_simp
      refine hsz.out.mono ?_
      rintro e w' ⟨rfl, rfl⟩
      refine hK _ _ (Ext.refl _) ?_
      clear hK K r0 r2
      iterate 1 (refine wpGr_read (o := ⟨_, _, _, _, _, _⟩) (v := ?_) rfl (by rfl) ?_ ?_; rotate_left; (intro w' hw'; go_simp; with_reducible rfl); simp only [Act.put, List.setIfInBounds_toArray, List.set_cons_zero, List.set_cons_succ])
      refine wpGr_done ?_
      obtain ⟨hT, hways⟩ := hgf.out
      rcases hways with ⟨x1, x2, x3, x4⟩ | ⟨x1, x2, x3, x4, x5, x6⟩ | ⟨x1, x2, x3, x4, x5⟩
      · rw [x1, x2, x3, x4, errV_5]
        clear hT x1 x2 x3 x4 hgf
        go_wp2_with fail
        refine (Num5.out _ hBd).mono ?_
        rintro e w6 ⟨rfl, hb6⟩
        go_wp2_with fail
        refine (Num5.out _ hb6).mono ?_
        rintro e w7 ⟨rfl, hb7⟩
        go_wp2_with fail
        refine (Fin.out _ hb7).mono ?_
        rintro e w8 ⟨rfl, hb8⟩
        have Hb8 := Lib.hid hb8
        clear hb6 hb7 hb8
        go_wp2
        go_ret
        exact ⟨rfl, Hb8.out⟩
      · rw [x1, x2, x4, x5, errV_5, errV_0]
        generalize (loadS (cs.take m)).length = A at *
        generalize (loadS cs).length = T at *
        have hA504 : 504 < A + Z := by omega
        have y1 : decide (504 < (A : Int) + (Z : Int)) = true := decide_eq_true (by omega)
        have y2 : decide (504 < A + Z) = true := decide_eq_true (by omega)
        have y3 : A ≤ 504 := x6
        clear hT x1 x2 x3 x4 x5 x6 hgf
        go_wp2_with fail
        refine (Num5.out _ hBd).mono ?_
        rintro e w6 ⟨rfl, hb6⟩
        go_wp2_with fail
        refine (Fin.out _ hb6).mono ?_
        rintro e w8 ⟨rfl, hb8⟩
        have Hb8 := Lib.hid hb8
        clear hb6 hb8
        go_wp2
        go_ret
        exact ⟨rfl, Hb8.out⟩
      · rw [x1, x2, x4, x5, errV_0]
        generalize (loadS (cs.take m)).length = A at *
        generalize (loadS cs).length = T at *
        have y1 : ((T : Int) == (A : Int) + (Z : Int)) = true := by simp; omega
        have y2 : decide ((T : Int) ≤ 504) = true := decide_eq_true (by omega)
        have y3 : decide (T ≤ 504) = true := decide_eq_true (by omega)
        have y4 : (A : Int) + (Z : Int) = (T : Int) := by omega
        have hT2 : T ≤ 504 := x3
        have hA2 : A ≤ 504 := by omega
        clear hT x1 x2 x3 x4 x5 hgf
        go_wp2_with fail
        refine (Fin.out _ hBd).mono ?_
        rintro e w8 ⟨rfl, hb8⟩
        have Hb8 := Lib.hid hb8
        clear hb8
        go_wp2
        go_ret
        exact ⟨rfl, Hb8.out⟩
end Go.Proofs.YtmgbdbpknocgjaaDoor
