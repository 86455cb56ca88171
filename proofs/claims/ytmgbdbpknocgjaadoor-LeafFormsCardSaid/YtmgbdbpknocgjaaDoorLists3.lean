/-
  The document's Encode.
-/
import Derived.Test.YtmgbdbpknocgjaaDoorLists1
import Derived.Test.YtmgbdbpknocgjaaDoorLeaf4
namespace Go.Proofs.YtmgbdbpknocgjaaDoor
open Go Go.RowKit

/-- An owned row's base may be lower. -/
theorem own_base {w : World} {B B' E sz n : Nat} {v : Value} {xs : List Value} (h : w.ownsRow B E sz v n xs) (hb : B' ≤ B) : w.ownsRow B' E sz v n xs := by
  refine ⟨h.1, ?_⟩
  rcases h.2 with h1 | ⟨g, cap, cur, h1, h2, h3⟩
  · exact .inl h1
  · exact .inr ⟨g, cap, cur, h1, Nat.le_trans hb h2, h3⟩
set_option maxRecDepth 100000 in
set_option maxHeartbeats 1000000 in
theorem refEncode_any (a : Option Addr) (n c : Nat) (cs : List Ce) (w : World) (hn : cs.length = n) (hs : CSrc w a cs) (hl : n ≤ 65536) :
    Calls Tryd.prog 9 #[.slice a n c] w fun e w' => ∃ v, e = .returned (.tuple #[v, .int .i64 (encE cs : Nat)]) ∧ Sl w' v (encB cs) ∧ Below w.heap.size w w' := by
  have Hs := Lib.hid hs
  have Hn := Lib.hid hn
  clear hs hn
  go_enter Tryd.func9, Tryd.ntmps9
  go_wp2_with fail
  go_loopw [4] (fun i wr => ∃ k : Nat, k ≤ n ∧ i = .int .i64 k ∧ Hid (∀ j, j < k → mayB (ca cs j) = true) ∧ Hid (Below w.heap.size w wr)) (fun i _ => n - (intOf i).toNat)
  case atStart => exact ⟨0, Nat.zero_le _, rfl, fun j h => by omega, Below.refl _ _⟩
  case round =>
    obtain ⟨k, hk, rfl, hall, hB⟩ := hrel
    by_cases hlt : k < n
    · obtain ⟨g, o, rfl, hcell⟩ := Hs.out.below hB.out (Nat.le_refl _) (by rw [Hn.out]; omega)
      obtain ⟨q0, q1, q2, q3⟩ := hcell k (by rw [Hn.out]; exact hlt)
      have hyes : Hid (mayB (ca cs k) = true → ∀ j, j < k + 1 → mayB (ca cs j) = true) := fun h j hj => by
        rcases Nat.lt_or_ge j k with h1 | h1
        · exact hall.out j h1
        · obtain rfl : j = k := by omega
          exact h
      have hno : Hid (mayB (ca cs k) = false → ¬ allMay cs) := fun h h2 => by
        have := h2 k (by rw [Hn.out]; exact hlt)
        rw [h] at this; cases this
      clear hcell hall
      generalize ca cs k = y at *
      obtain ⟨x0, x1, x2, x3⟩ := y
      dsimp only at q0 q1 q2 q3
      have hcall := Lib.hid (refMay_any x0 x1 x2 x3 wr)
      generalize mayB ⟨x0, x1, x2, x3⟩ = M at *
      cases M with
      | true =>
        have hy := Lib.hid (hyes.out rfl)
        clear hyes hno
        go_wp2_with fail
        refine hcall.out.mono ?_
        rintro e w' ⟨rfl, hb⟩
        have hB2 := Lib.hid (hB.out.trans (hb.mono hB.out.size))
        clear hb
        go_wp2
        go_roundw
        case rel => exact ⟨k + 1, by omega, by go_num, hy, hB2⟩
        case measure => simp [intOf]; omega
      | false =>
        have hy := Lib.hid (enc_1 (hno.out rfl))
        clear hyes hno
        go_wp2_with fail
        refine hcall.out.mono ?_
        rintro e w' ⟨rfl, hb⟩
        have hB2 := Lib.hid (hB.out.trans (hb.mono hB.out.size))
        clear hb
        go_wp2
        go_ret2
        exact ⟨.slice none 0 0, by rw [hy.out.1]; rfl, by rw [hy.out.2]; exact Sl.none _, hB2.out⟩
    · obtain rfl : k = n := by omega
      have hmay : Hid (allMay cs) := fun j hj => hall.out j (by rw [← Hn.out]; exact hj)
      clear hall
      have hvn := vs_le (show k < 18446744073709551616 by omega)
      have hvl : Hid ((vb k).length = vs k) := rfl
      have hll : Hid ((loadS cs).length = vs k + (body cs).length) := by show _ = _; rw [load_len, Hn.out]
      have hload : Hid (loadS cs = vb k ++ body cs) := by show _ = _; unfold loadS; rw [Hn.out]
      generalize vs k = V at *
      go_wp2_with fail
      refine (refPut_any none 0 [] k wr (by simp) (by omega) (fun _ => rfl) (Src.nil _ _)).mono ?_
      rintro e w4 ⟨v, rfl, hown, hb4⟩
      have ho4 : Hid (w4.ownsRow w.heap.size 5 1 v (vb k ++ body (cs.take 0)).length (bv (vb k ++ body (cs.take 0)))) := by
        show World.ownsRow _ _ _ _ _ _ _
        rw [List.take_zero, body, List.append_nil]; exact own_base hown hB.out.size
      have Hb4 := Lib.hid (hB.out.trans (hb4.mono hB.out.size))
      clear hown hb4 hB
      go_wp2_with fail
      go_loopw [5, 6] (fun b i wx => ∃ (j : Nat) (v : Value), j ≤ k ∧ i = .int .i64 j ∧ b = v ∧ Hid (ascTo cs j) ∧ Hid (wx.ownsRow w.heap.size 5 1 v (vb k ++ body (cs.take j)).length (bv (vb k ++ body (cs.take j)))) ∧ Hid (Below w.heap.size w wx)) (fun _ i _ => k - (intOf i).toNat)
      case atStart => exact ⟨0, v, by omega, rfl, rfl, fun i h0 hi => by omega, ho4, Hb4⟩
      case round =>
        obtain ⟨j, v, hj, rfl, rfl, hasc, hown, hB⟩ := hrel
        by_cases hlt2 : j < k
        · obtain ⟨g, o, rfl, hcell⟩ := Hs.out.below hB.out (Nat.le_refl _) (by rw [Hn.out]; omega)
          have hA := hcell j (by rw [Hn.out]; exact hlt2)
          have hm := hmay.out j (by rw [Hn.out]; exact hlt2)
          have hbs : Hid (vb k ++ body (cs.take (j + 1)) = (vb k ++ body (cs.take j)) ++ oneS (ca cs j)) := by show _ = _; rw [body_succ cs j (by rw [Hn.out]; exact hlt2), List.append_assoc]
          have hlenb : Hid ((vb k ++ body (cs.take j)).length + (oneS (ca cs j)).length ≤ 10 + 124 * 65537) := by
            show _ ≤ _
            have h1 := sums_le hmay.out (j + 1) (by rw [Hn.out]; omega)
            have h2 := sums_succ cs j (by rw [Hn.out]; exact hlt2)
            unfold sums at h1 h2
            have h3 := hvl.out
            rw [List.length_append]; omega
          have hgo : Hid ((0 < j → blt (ca cs (j - 1)).k (ca cs j).k = true) → ascTo cs (j + 1)) := fun h => ascTo_succ hasc.out h
          have hsz := hB.out.size
          have q0 : ∀ w', Ext wr.drew w' → w'.cell? ⟨g, o + j * 4, none⟩ = some (.string (ca cs j).k) := fun w' hw => (hA.ext hw).c0
          have hBd : Hid (Below w.heap.size w wr.drew) := hB.out.drew
          have hownd := Lib.hid hown.out.drew
          have hAd : CAt wr.drew g (o + j * 4) (ca cs j) := hA.ext (Ext.refl _)
          have Had := Lib.hid hAd
          rcases Nat.eq_zero_or_pos j with h0 | h0
          · have hgo1 := Lib.hid (hgo.out (fun h => by omega))
            subst h0
            obtain ⟨r0, r1, r2, r3⟩ := hAd
            clear hcell hA hgo hown hB hasc q0
            rw [Nat.zero_mul, Nat.add_zero] at r0 r1 r2 r3
            generalize ca cs 0 = y at *
            obtain ⟨x0, x1, x2, x3⟩ := y
            dsimp only at r0 r1 r2 r3 hlenb hbs
            have hone := Lib.hid (refOne_any x0 x1 x2 x3 wr.drew hm)
            have hszd := hBd.out.size
            generalize vb k ++ body (cs.take 0) = BB at *
            go_wp2_with fail
            refine wp_region_gr [(0, true), (1, true), (2, true), (3, true), (4, true), (5, true), (6, true), (7, true), (8, true), (9, true), (10, true), (11, true), (12, true), (13, true), (14, true), (15, true)] (by kernel_rfl) (by kernel_rfl) (by kernel_rfl) (by kernel_rfl) (fun _ _ _ _ _ h => h) ?_
            iterate 16 (first | (refine wpGr_read (o := ⟨_, _, _, _, _, _⟩) (v := ?_) rfl (by rfl) ?_ ?_; rotate_left; (intro w' hw'; go_simp; with_reducible rfl); simp only [Act.put, List.setIfInBounds_toArray, List.set_cons_zero, List.set_cons_succ]) | (refine wpGr_skip (o := ⟨_, _, _, _, _, _⟩) rfl (by rfl) ?_; simp only [Act.put, List.setIfInBounds_toArray, List.set_cons_zero, List.set_cons_succ]))
            refine wpGr_done ?_
            go_wp2_with fail
            refine hone.out.mono ?_
            rintro e w5 ⟨r, rfl, hsl, hb5⟩
            obtain ⟨ar, cr, rfl, hsr, hzr, _⟩ := hsl.arg
            have Hsr := Lib.hid hsr
            have Hzr := Lib.hid hzr
            have hown5 := Lib.hid (own_below hownd.out hb5 (Nat.le_refl _))
            have hB5 := Lib.hid (hBd.out.trans (hb5.mono hBd.out.size))
            have hsz5 := hB5.out.size
            obtain ⟨y, hy⟩ : ∃ y, y = oneS ⟨x0, x1, x2, x3⟩ := ⟨_, rfl⟩
            rw [← hy] at hlenb hbs Hsr ⊢
            clear hsr hzr hsl hb5 hownd hBd hone hy
            go_wp2_with (at_builtin; refine wpList_append_bytes rfl (.tmp 45) (.tmp 50) 23 rfl w.heap.size 5 Tryd.underlying23 infoB _ BB (by rfl) hown5 ar cr y (by rfl) Hzr.out Hsr.out (Nat.le_trans hlenb.out (by omega)) hsz5 ?_; intro v' w6 hown6 hgrow6 hnear6)
            have hB6 : Hid (Below w.heap.size w w6) := hB5.out.grown hgrow6.out hsz5 (fun j hj => (hown5.out.lt j hj).1)
            have ho6 : Hid (w6.ownsRow w.heap.size 5 1 v' (vb k ++ body (cs.take (0 + 1))).length (bv (vb k ++ body (cs.take (0 + 1))))) := by show World.ownsRow _ _ _ _ _ _ _; rw [hbs.out]; exact hown6.out
            clear hown6 hgrow6 hnear6 hown5 hB5
            go_wp2
            go_roundw
            case rel => exact ⟨0 + 1, v', by omega, by go_num, rfl, hgo1.out, ho6, hB6⟩
            case measure => simp [intOf]; omega
          · obtain ⟨i, rfl⟩ : ∃ i, j = i + 1 := ⟨j - 1, by omega⟩
            have hC := hcell i (by rw [Hn.out]; omega)
            have p0 : ∀ w', Ext wr.drew w' → w'.cell? ⟨g, o + i * 4, none⟩ = some (.string (ca cs i).k) := fun w' hw => (hC.ext hw).c0
            have hle := ble_eq (ca cs (i + 1)).k (ca cs i).k
            rw [Nat.add_sub_cancel] at hgo
            have hno : Hid (blt (ca cs i).k (ca cs (i + 1)).k = false → ¬ asc cs) := fun h => not_asc (k := i + 1) (by omega) (by rw [Hn.out]; exact hlt2) (by rw [Nat.add_sub_cancel]; exact h)
            generalize blt (ca cs i).k (ca cs (i + 1)).k = D at *
            have i1 : (0 : Int) ≤ (i : Int) + 1 := by omega
            have i2 : (i : Int) + 1 < (k : Int) := by omega
            have i3 : (i : Int) < (k : Int) := by omega
            have i4 : IntKind.i64.wrap (i : Int) = (i : Int) := by rw [IntKind.wrap_i64]; omega
            have i5 : (0 : Int) < (i : Int) + 1 := by omega
            clear hcell hA hown hB hasc hAd hC
            go_wp2_with fail
            refine wp_region_gr [(0, true), (1, true), (2, true), (3, true), (4, true), (5, true), (6, true), (7, true), (8, true), (9, true), (10, true), (11, true), (12, true), (13, true), (14, true), (15, true)] (by kernel_rfl) (by kernel_rfl) (by kernel_rfl) (by kernel_rfl) (fun _ _ _ _ _ h => h) ?_
            iterate 16 (first | (refine wpGr_read (o := ⟨_, _, _, _, _, _⟩) (v := ?_) rfl (by rfl) ?_ ?_; rotate_left; (intro w' hw'; go_simp; with_reducible rfl); simp only [Act.put, List.setIfInBounds_toArray, List.set_cons_zero, List.set_cons_succ]) | (refine wpGr_skip (o := ⟨_, _, _, _, _, _⟩) rfl (by rfl) ?_; simp only [Act.put, List.setIfInBounds_toArray, List.set_cons_zero, List.set_cons_succ]))
            refine wpGr_done ?_
            clear q0 p0 hle
            cases D with
            | false =>
              have hy := Lib.hid (enc_14 hmay.out (hno.out rfl))
              clear hno hgo
              go_wp2
              go_ret2
              exact ⟨.slice none 0 0, by rw [hy.out.1]; rfl, by rw [hy.out.2]; exact Sl.none _, hBd.out⟩
            | true =>
            have hgo1 := Lib.hid (hgo.out (fun _ => rfl))
            obtain ⟨r0, r1, r2, r3⟩ := Had.out
            clear hno hgo Had
            have hm2 := hm
            clear hm
            generalize ca cs (i + 1) = y at *
            obtain ⟨x0, x1, x2, x3⟩ := y
            dsimp only at r0 r1 r2 r3 hlenb hbs
            have hone := Lib.hid (refOne_any x0 x1 x2 x3 wr.drew hm2)
            have hszd := hBd.out.size
            clear hm2
            generalize vb k ++ body (cs.take (i + 1)) = BB at *
            go_wp2_with fail
            refine hone.out.mono ?_
            rintro e w5 ⟨r, rfl, hsl, hb5⟩
            obtain ⟨ar, cr, rfl, hsr, hzr, _⟩ := hsl.arg
            have Hsr := Lib.hid hsr
            have Hzr := Lib.hid hzr
            have hown5 := Lib.hid (own_below hownd.out hb5 (Nat.le_refl _))
            have hB5 := Lib.hid (hBd.out.trans (hb5.mono hBd.out.size))
            have hsz5 := hB5.out.size
            obtain ⟨y, hy⟩ : ∃ y, y = oneS ⟨x0, x1, x2, x3⟩ := ⟨_, rfl⟩
            rw [← hy] at hlenb hbs Hsr ⊢
            clear hsr hzr hsl hb5 hownd hBd hone hy
            go_wp2_with (at_builtin; refine wpList_append_bytes rfl (.tmp 45) (.tmp 50) 23 rfl w.heap.size 5 Tryd.underlying23 infoB _ BB (by rfl) hown5 ar cr y (by rfl) Hzr.out Hsr.out (Nat.le_trans hlenb.out (by omega)) hsz5 ?_; intro v' w6 hown6 hgrow6 hnear6)
            have hB6 : Hid (Below w.heap.size w w6) := hB5.out.grown hgrow6.out hsz5 (fun j hj => (hown5.out.lt j hj).1)
            have ho6 : Hid (w6.ownsRow w.heap.size 5 1 v' (vb k ++ body (cs.take ((i + 1) + 1))).length (bv (vb k ++ body (cs.take ((i + 1) + 1))))) := by show World.ownsRow _ _ _ _ _ _ _; rw [hbs.out]; exact hown6.out
            clear hown6 hgrow6 hnear6 hown5 hB5
            go_wp2
            go_roundw
            case rel => exact ⟨(i + 1) + 1, v', by omega, by go_num, rfl, hgo1.out, ho6, hB6⟩
            case measure => simp [intOf]; omega
        · obtain rfl : j = k := by omega
          have ha : Hid (asc cs) := by show ascTo cs cs.length; rw [Hn.out]; exact hasc.out
          have hown2 := hown.out
          rw [List.take_of_length_le (by rw [Hn.out]; exact Nat.le_refl _), ← hload.out] at hown2
          have h5 := Lib.hid (fun h => enc_5 hmay.out ha.out (show 504 < (loadS cs).length from h))
          have h0 := Lib.hid (fun h => enc_0 hmay.out ha.out (show (loadS cs).length ≤ 504 from h))
          obtain ⟨ar, cr, rfl, _⟩ := own_src hown2
          have hsl := Lib.hid (Sl.own hown2)
          obtain ⟨LL, hLL⟩ : ∃ LL, LL = (loadS cs).length := ⟨_, rfl⟩
          rw [← hLL] at h5 h0 hsl ⊢
          clear hown hown2 hasc hLL hll hload
          by_cases hlong : 504 < LL
          · have he := Lib.hid (h5.out hlong)
            have d1 : decide (504 < (LL : Int)) = true := by simp; omega
            clear h5 h0
            go_wp2
            go_ret2
            exact ⟨.slice none 0 0, by rw [he.out.1]; rfl, by rw [he.out.2]; exact Sl.none _, hB.out⟩
          · have he := Lib.hid (h0.out (by omega))
            have d1 : decide (504 < (LL : Int)) = false := by simp; omega
            clear h5 h0
            go_wp2
            go_ret2
            exact ⟨_, by rw [he.out.1]; rfl, by rw [he.out.2]; exact hsl.out, hB.out⟩
end Go.Proofs.YtmgbdbpknocgjaaDoor
