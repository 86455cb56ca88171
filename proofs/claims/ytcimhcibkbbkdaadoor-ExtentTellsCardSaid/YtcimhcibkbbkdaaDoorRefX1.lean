/-
  The document's marks, May, Pages.
-/
import Derived.Test.YtcimhcibkbbkdaaDoorExt1
import Derived.Test.YtcimhcibkbbkdaaDoorZRow
namespace Go.Proofs.YtcimhcibkbbkdaaDoor
open Go Go.RowKit

set_option maxRecDepth 100000 in
theorem xmarks_any (a : Option Addr) (n c : Nat) (l : List Xt) (p : Int) (w : World) (hn : l.length = n) (hs : XS w a l) (hl : n ≤ 9223372036854775807) (hr : ∀ x ∈ l, XOK x) :
    Calls Tryd.prog 24 #[.slice a n c, .int .i64 p] w fun e w' => Below w.heap.size w w' ∧ ((xmayB l p = true ∧ ∃ v, e = .returned (.tuple #[v, .bool true]) ∧ w'.ownsRow w.heap.size ZT 1 v (xmrow p.toNat (xcovB l)).length (iv (xmrow p.toNat (xcovB l)))) ∨ (xmayB l p = false ∧ e = .returned (.tuple #[.slice none 0 0, .bool false]))) := by
  have Hs := Lib.hid hs
  have Hn := Lib.hid hn
  have Hr := Lib.hid hr
  clear hs hn hr
  by_cases h1 : p < 1
  · have d1 : decide (p < 1) = true := decide_eq_true h1
    have e1 : xmayB l p = false := by unfold xmayB; rw [decide_eq_false (show ¬ 1 ≤ p by omega)]; rfl
    have E1 := Lib.hid e1
    clear e1
    go_enter Tryd.func24, Tryd.ntmps24
    go_wp2
    go_ret2
    exact ⟨Below.refl _ _, .inr ⟨E1.out, rfl⟩⟩
  · have d1 : decide (p < 1) = false := decide_eq_false h1
    by_cases h2 : 1024 < p
    · have d2 : decide (1024 < p) = true := decide_eq_true h2
      have e1 : xmayB l p = false := by unfold xmayB; rw [decide_eq_false (show ¬ p ≤ 1024 by omega), Bool.and_false]; rfl
      have E1 := Lib.hid e1
      clear e1
      go_enter Tryd.func24, Tryd.ntmps24
      go_wp2
      go_ret2
      exact ⟨Below.refl _ _, .inr ⟨E1.out, rfl⟩⟩
    · have d2 : decide (1024 < p) = false := decide_eq_false h2
      obtain ⟨P, rfl⟩ := Int.eq_ofNat_of_zero_le (show 0 ≤ p by omega)
      have hP1 : 1 ≤ P := by omega
      have hP2 : P ≤ 1024 := by omega
      rw [Int.toNat_natCast]
      have hM0 : Hid (XMay [] (P : Int)) := ⟨by omega, by omega, fun x hx => by simp at hx, List.Pairwise.nil⟩
      clear h1 h2
      go_enter Tryd.func24, Tryd.ntmps24
      go_wp2_with (at_make; refine wpList_make_ints rfl _ _ SZT rfl Tryd.underlying44 infoInt _ _ _ _ P rfl rfl rfl rfl (by omega) ?_; intro w1 hr1 hb1)
      have hr2 : Hid (ZRow w1 w.heap.size (xmrow P (xcovB (l.take 0)))) := by
        show ZRow _ _ _
        rw [List.take_zero, show xcovB [] = fun _ => false from rfl, xmrow_none]; exact hr1.out
      have Hb1 := Lib.hid hb1
      clear hr1 hb1
      go_wp2_with fail
      go_loopw [7, 9] (fun i _ wr => ∃ k : Nat, i = .int .i64 k ∧ k ≤ n ∧ Hid (XMay (l.take k) (P : Int)) ∧ Hid (ZRow wr w.heap.size (xmrow P (xcovB (l.take k)))) ∧ Hid (Below w.heap.size w wr)) (fun i _ _ => n - (intOf i).toNat)
      case atStart => exact ⟨0, rfl, by omega, hM0.out, hr2.out, Hb1.out⟩
      case round =>
        obtain ⟨W0, hW0⟩ : ∃ W0, W0 = wr := ⟨_, rfl⟩
        subst hW0
        obtain ⟨k, rfl, hk, hM, hZ, hB⟩ := hrel
        by_cases hlt : k < n
        · have hkl : Hid (k < l.length) := by show _ < _; rw [Hn.out]; exact hlt
          obtain ⟨g, o, rfl, hcell⟩ := (Hs.out.below hB.out (Nat.le_refl _)).xts (by rw [Hn.out]; omega)
          obtain ⟨q0, q1⟩ := hcell k (by rw [Hn.out]; exact hlt)
          have hxm := Lib.hid (xt_mem l k hkl.out)
          have hcov := Lib.hid (fun (j : Int) h0 h1 h2 => xmay_not_cov (l := l) (p := (P : Int)) k hkl.out j h0 h1 h2)
          have htk := Lib.hid (xt_take l k hkl.out)
          obtain ⟨y, hy⟩ : ∃ y, xt l k = y := ⟨_, rfl⟩
          rw [hy] at q0 q1 hxm hcov htk
          obtain ⟨F, M⟩ := y
          dsimp only at q0 q1
          have hno : Hid (¬ XInP (P : Int) ⟨F, M⟩ → xmayB l (P : Int) = false) := fun h => xmay_not_in hxm.out h
          obtain ⟨W, hW⟩ : ∃ W, W0.alloc (.cells #[.int .i64 F, .int .i64 M] RXT) = W := ⟨_, rfl⟩
          have HW := Lib.hid hW
          have hBW : Hid (Below w.heap.size w W) := by rw [← hW]; exact hB.out.alloc hB.out.size _
          have hZW : Hid (ZRow W w.heap.size (xmrow P (xcovB (l.take k)))) := by rw [← hW]; exact hZ.out.alloc _
          have c0 : Hid (W.cell? ⟨W0.heap.size, 0, none⟩ = some (.int .i64 F)) := by show _ = _; rw [← hW]; simp
          have c1 : Hid (W.cell? ⟨W0.heap.size, 1, none⟩ = some (.int .i64 M)) := by show _ = _; rw [← hW]; simp
          have hSg : Hid (w.heap.size < W0.heap.size) := hZ.out.lt
          clear hcell hy hW hB hZ hxm
          by_cases h1 : F < 0
          · have d3 : decide (F < 0) = true := decide_eq_true h1
            have e1 := Lib.hid (hno.out (fun h => by have := h.1; dsimp only at this; omega))
            clear hno
            go_wp2
            rw [HW.out]
            go_ret2
            exact ⟨hBW.out, .inr ⟨e1.out, rfl⟩⟩
          · have d3 : decide (F < 0) = false := decide_eq_false h1
            by_cases h2 : (P : Int) ≤ F
            · have d4 : decide ((P : Int) ≤ F) = true := decide_eq_true h2
              have e1 := Lib.hid (hno.out (fun h => by have := h.2; dsimp only at this; omega))
              clear hno
              go_wp2
              rw [HW.out]
              go_ret2
              exact ⟨hBW.out, .inr ⟨e1.out, rfl⟩⟩
            · have d4 : decide ((P : Int) ≤ F) = false := decide_eq_false h2
              by_cases h3 : M < 1
              · have d5 : decide (M < 1) = true := decide_eq_true h3
                have e1 := Lib.hid (hno.out (fun h => by have := h.2.1; dsimp only at this; omega))
                clear hno
                go_wp2
                rw [HW.out]
                go_ret2
                exact ⟨hBW.out, .inr ⟨e1.out, rfl⟩⟩
              · have d5 : decide (M < 1) = false := decide_eq_false h3
                by_cases h4 : (P : Int) < M
                · have d6 : decide ((P : Int) < M) = true := decide_eq_true h4
                  have e1 := Lib.hid (hno.out (fun h => by have := h.2.2; dsimp only at this; omega))
                  clear hno
                  go_wp2
                  rw [HW.out]
                  go_ret2
                  exact ⟨hBW.out, .inr ⟨e1.out, rfl⟩⟩
                · have d6 : decide ((P : Int) < M) = false := decide_eq_false h4
                  obtain ⟨f, rfl⟩ := Int.eq_ofNat_of_zero_le (show 0 ≤ F by omega)
                  obtain ⟨m, rfl⟩ := Int.eq_ofNat_of_zero_le (show 0 ≤ M by omega)
                  have hf : f < P := by omega
                  have hm1 : 1 ≤ m := by omega
                  have hm2 : m ≤ P := by omega
                  have hZ0 : Hid (ZRow W w.heap.size (xmrow P (xpart (l.take k) ⟨(f : Int), (m : Int)⟩ ((0 : Nat) : Int)))) := by
                    show ZRow _ _ _
                    rw [xmrow_ext (n := P) (P := xpart (l.take k) ⟨(f : Int), (m : Int)⟩ ((0 : Nat) : Int)) (Q := xcovB (l.take k)) (fun i => xpart_0 (l.take k) ⟨(f : Int), (m : Int)⟩ i)]; exact hZW.out
                  clear h1 h2 h3 h4 hZW
                  go_wp2_with fail
                  rw [HW.out]
                  go_loopw [9] (fun j wx => ∃ q : Nat, j = .int .i64 q ∧ q ≤ m ∧ Hid (∀ j : Int, 0 ≤ j → j < (q : Int) → (f : Int) + j < (P : Int) ∧ xcovB (l.take k) ((f : Int) + j) = false) ∧ Hid (ZRow wx w.heap.size (xmrow P (xpart (l.take k) ⟨(f : Int), (m : Int)⟩ (q : Int)))) ∧ Hid (wx.cell? ⟨W0.heap.size, 0, none⟩ = some (.int .i64 (f : Int)) ∧ wx.cell? ⟨W0.heap.size, 1, none⟩ = some (.int .i64 (m : Int))) ∧ Hid (Below w.heap.size w wx)) (fun j _ => m - (intOf j).toNat)
                  case atStart => exact ⟨0, rfl, by omega, fun j h1 h2 => by omega, hZ0.out, ⟨c0.out, c1.out⟩, hBW.out⟩
                  case round =>
                    obtain ⟨q, rfl, hq, hJ, hZq, hc, hBq⟩ := hrel
                    clear hZ0 c0 c1 hBW HW
                    obtain ⟨c0, c1⟩ := hc.out
                    by_cases hqm : q < m
                    · have eZ : (f : Int) + (q : Int) = ((f + q : Nat) : Int) := by omega
                      have hZv : Hid (xpart (l.take k) ⟨(f : Int), (m : Int)⟩ (q : Int) ((f + q : Nat) : Int) = xcovB (l.take k) ((f : Int) + (q : Int))) := by
                        show _ = _
                        rw [← eZ]; exact xpart_not (l.take k) ⟨(f : Int), (m : Int)⟩ (q : Int)
                      obtain ⟨Z, hZd⟩ : ∃ Z, f + q = Z := ⟨_, rfl⟩
                      rw [hZd] at eZ hZv
                      have HZd := Lib.hid hZd
                      have hZ9 : Z ≤ 2048 := by omega
                      by_cases h5 : P ≤ Z
                      · have d7 : decide ((P : Int) ≤ (Z : Int)) = true := decide_eq_true (by omega)
                        have d7' : decide (P ≤ Z) = true := decide_eq_true h5
                        have e1 := Lib.hid (hno.out (fun h => by have := h.2.2; dsimp only at this; omega))
                        clear hno hZd
                        go_wp2
                        go_ret2
                        exact ⟨hBq.out, .inr ⟨e1.out, rfl⟩⟩
                      · have d7 : decide ((P : Int) ≤ (Z : Int)) = false := decide_eq_false (by omega)
                        have d7' : decide (P ≤ Z) = false := decide_eq_false h5
                        have hcell := hZq.out.cell Z (by rw [xmrow_len]; omega)
                        have hia : ia (xmrow P (xpart (l.take k) ⟨(f : Int), (m : Int)⟩ (q : Int))) Z = if xcovB (l.take k) ((f : Int) + (q : Int)) = true then 1 else 0 := by
                          unfold ia; rw [List.getD_eq_getElem?_getD, xmrow_get _ _ _ (by omega), hZv.out]; rfl
                        rw [hia] at hcell
                        clear hia hZd
                        have i1 : (0 : Int) ≤ (Z : Int) := by omega
                        have i2 : (Z : Int) < (P : Int) := by omega
                        have i3 : Z < P := by omega
                        by_cases h6 : xcovB (l.take k) ((f : Int) + (q : Int)) = true
                        · have e1 := Lib.hid (hcov.out (q : Int) (by omega) (by show (q : Int) < (m : Int); omega) h6)
                          rw [if_pos h6] at hcell
                          clear hno h6
                          go_wp2
                          go_ret2
                          exact ⟨hBq.out, .inr ⟨e1.out, rfl⟩⟩
                        · have h6' := Lib.hid (Bool.eq_false_iff.2 h6)
                          rw [if_neg h6] at hcell
                          have hfz := hZq.out.frozen Z
                          have hJ2 : Hid (∀ j : Int, 0 ≤ j → j < ((q + 1 : Nat) : Int) → (f : Int) + j < (P : Int) ∧ xcovB (l.take k) ((f : Int) + j) = false) := fun j h1 h2 => by
                            rcases Int.lt_or_le j (q : Int) with h3 | h3
                            · exact hJ.out j h1 h3
                            · obtain rfl : j = (q : Int) := by omega
                              exact ⟨by omega, h6'.out⟩
                          have hset : Hid (ZRow (wr.setCell ⟨w.heap.size, Z, none⟩ (.int .i64 1)) w.heap.size (xmrow P (xpart (l.take k) ⟨(f : Int), (m : Int)⟩ ((q + 1 : Nat) : Int)))) := by
                            show ZRow _ _ _
                            have := hZq.out.set Z 1
                            rw [xmrow_set] at this
                            rw [xmrow_ext (Q := xpart (l.take k) ⟨(f : Int), (m : Int)⟩ ((q + 1 : Nat) : Int)) (fun i => by
                              rw [← eZ]; exact (xpart_step (l.take k) ⟨(f : Int), (m : Int)⟩ (q : Int) i (by omega)))] at this
                            exact this
                          have c0' : Hid ((wr.setCell ⟨w.heap.size, Z, none⟩ (.int .i64 1)).cell? ⟨W0.heap.size, 0, none⟩ = some (.int .i64 (f : Int))) := by
                            show _ = _
                            rw [World.cell?_setCell_other _ _ _ _ (by simp; have := hSg.out; omega)]; exact c0
                          have c1' : Hid ((wr.setCell ⟨w.heap.size, Z, none⟩ (.int .i64 1)).cell? ⟨W0.heap.size, 1, none⟩ = some (.int .i64 (m : Int))) := by
                            show _ = _
                            rw [World.cell?_setCell_other _ _ _ _ (by simp; have := hSg.out; omega)]; exact c1
                          have hBs : Hid (Below w.heap.size w (wr.setCell ⟨w.heap.size, Z, none⟩ (.int .i64 1))) := hBq.out.setCell (Nat.le_refl _) _
                          clear h6
                          go_wp2
                          go_roundw
                          case rel => exact ⟨q + 1, by go_num, by omega, hJ2.out, hset.out, ⟨c0'.out, c1'.out⟩, hBs.out⟩
                          case measure => simp [intOf]; omega
                    · obtain rfl : q = m := by omega
                      have hMy : Hid (XMay (l.take (k + 1)) (P : Int)) := by
                        show XMay _ _
                        rw [htk.out]
                        exact hM.out.snoc (by simp) (by simp; omega) (fun j h1 h2 => hJ.out j h1 h2)
                      have hZy : Hid (ZRow wr w.heap.size (xmrow P (xcovB (l.take (k + 1))))) := by
                        show ZRow _ _ _
                        rw [htk.out, ← xmrow_ext (fun i => xpart_all (l.take k) ⟨(f : Int), (q : Int)⟩ i)]
                        exact hZq.out
                      clear hZq hM hJ
                      go_wp2
                      go_roundw
                      case rel => exact ⟨k + 1, by go_num, by omega, hMy.out, hZy.out, hBq.out⟩
                      case measure => simp [intOf]; omega
        · obtain rfl : k = n := by omega
          have e1 : Hid (xmayB l (P : Int) = true) := by
            show _ = _
            have := hM.out
            rw [List.take_of_length_le (by rw [Hn.out]; exact Nat.le_refl _)] at this
            exact (xmayB_iff _ _).2 this
          have hZy := hZ.out
          rw [List.take_of_length_le (by rw [Hn.out]; exact Nat.le_refl _)] at hZy
          have hown := Lib.hid (own_of_zrow (B := w.heap.size) hZy (Nat.le_refl _) (by rw [xmrow_len]; unfold maxLen; omega))
          rw [xmrow_len] at hown
          clear hZy hZ hM
          go_wp2
          go_ret2
          refine ⟨hB.out, .inl ⟨e1.out, _, rfl, ?_⟩⟩
          rw [xmrow_len]; exact hown.out
end Go.Proofs.YtcimhcibkbbkdaaDoor
