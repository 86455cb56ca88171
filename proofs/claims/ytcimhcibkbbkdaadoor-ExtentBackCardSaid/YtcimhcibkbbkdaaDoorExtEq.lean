/-
  slices.Equal at stretches; the law's giveExt, areExt.
-/
import Derived.Test.YtcimhcibkbbkdaaDoorExt1
namespace Go.Proofs.YtcimhcibkbbkdaaDoor
open Go Go.RowKit

theorem xlist_ext {l m : List Xt} (hl : l.length = m.length) (h : ∀ k, k < l.length → xt l k = xt m k) : l = m := by
  refine List.ext_getElem hl fun i h1 h2 => ?_
  have := h i h1
  simpa [xt, List.getD, h1, h2] using this
set_option maxRecDepth 100000 in
theorem xequal_any (v u : Value) (l m : List Xt) (w : World) (hv : EV xtE w v l) (hu : EV xtE w u m) (hl : l.length * 16 ≤ 140737488355328) (hm : m.length * 16 ≤ 140737488355328) :
    Calls Tryd.prog 26 #[v, u] w fun e w' => ∃ D, e = .returned (.bool D) ∧ (D = true ↔ l = m) ∧ Below w.heap.size w w' := by
  obtain ⟨a, c, rfl, hs, _, _, _⟩ := hv
  obtain ⟨b, c2, rfl, hs2, _, _, _⟩ := hu
  obtain ⟨n, hn⟩ : ∃ n, l.length = n := ⟨_, rfl⟩
  obtain ⟨n2, hn2⟩ : ∃ n2, m.length = n2 := ⟨_, rfl⟩
  have Hs := Lib.hid hs
  have Hs2 := Lib.hid hs2
  have Hn := Lib.hid hn
  have Hn2 := Lib.hid hn2
  have hn9 : n ≤ 9223372036854775807 := by omega
  have hn29 : n2 ≤ 9223372036854775807 := by omega
  rw [hn, hn2]
  clear hs hs2 hn hn2 hl hm
  by_cases hne : n = n2
  · subst hne
    go_enter Tryd.func26, Tryd.ntmps26
    go_wp2_with fail
    go_loopw [13] (fun i wr => ∃ k : Nat, i = .int .i64 k ∧ k ≤ n ∧ Hid (∀ j, j < k → xt l j = xt m j) ∧ Hid (Below w.heap.size w wr)) (fun i _ => n - (intOf i).toNat)
    case atStart => exact ⟨0, rfl, by omega, fun j hj => by omega, Below.refl _ _⟩
    case round =>
      obtain ⟨k, rfl, hk, hE, hB⟩ := hrel
      by_cases hlt : k < n
      · obtain ⟨g, o, rfl, hcell⟩ := (Hs.out.below hB.out (Nat.le_refl _)).xts (by rw [Hn.out]; omega)
        obtain ⟨g2, o2, rfl, hcell2⟩ := (Hs2.out.below hB.out (Nat.le_refl _)).xts (by rw [Hn2.out]; omega)
        obtain ⟨p0, p1⟩ := hcell k (by rw [Hn.out]; exact hlt)
        obtain ⟨p2, p3⟩ := hcell2 k (by rw [Hn2.out]; exact hlt)
        have up : ∀ (g o : Nat) (x : Value), wr.cell? ⟨g, o, none⟩ = some x → ∀ w', Ext wr.drew w' → w'.cell? ⟨g, o, none⟩ = some x := fun g o x h w' hw => by
          rw [((Below.refl wr.heap.size wr).drew.trans hw).cell (p := ⟨g, o, none⟩) (block_lt_of_cell h)]; exact h
        have q0 := up _ _ _ p0
        have q1 := up _ _ _ p1
        have q2 := up _ _ _ p2
        have q3 := up _ _ _ p3
        have hEn : Hid (xt l k = xt m k → ∀ j, j < k + 1 → xt l j = xt m j) := fun h j hj => by
          rcases Nat.lt_or_ge j k with h1 | h1
          · exact hE.out j h1
          · obtain rfl : j = k := by omega
            exact h
        have hno : Hid (xt l k ≠ xt m k → l ≠ m) := fun h e => h (by rw [e])
        generalize xt l k = x at *
        generalize xt m k = y at *
        obtain ⟨F, M⟩ := x
        obtain ⟨F2, M2⟩ := y
        dsimp only at q0 q1 q2 q3
        have hBd : Hid (Below w.heap.size w wr.drew) := hB.out.drew
        clear hcell hcell2 p0 p1 p2 p3 up hE hB
        by_cases hF : F = F2 ∧ M = M2
        · obtain ⟨rfl, rfl⟩ := hF
          have hE2 := Lib.hid (hEn.out rfl)
          clear hEn hno
          go_wp2_with fail
          refine wp_region_gr [(0, true), (1, true), (2, true), (3, true), (4, true), (5, true), (6, true), (7, true), (8, true)] (by kernel_rfl) (by kernel_rfl) (by kernel_rfl) (by kernel_rfl) (fun _ _ _ _ _ h => h) ?_
          iterate 9 (refine wpGr_read (o := ⟨_, _, _, _, _, _⟩) (v := ?_) rfl (by rfl) ?_ ?_; rotate_left; (intro w' hw'; go_simp; with_reducible rfl); simp only [Act.put, List.setIfInBounds_toArray, List.set_cons_zero, List.set_cons_succ])
          refine wpGr_done ?_
          clear q0 q1 q2 q3
          go_wp2_with fail
          go_roundw
          case rel => exact ⟨k + 1, by go_num, by omega, hE2, hBd⟩
          case measure => simp [intOf]; omega
        · have hN := Lib.hid (hno.out (fun h => hF (by cases h; exact ⟨rfl, rfl⟩)))
          clear hEn hno
          by_cases hF1 : F = F2
          · subst hF1
            have hM1 : ¬ M = M2 := fun h => hF ⟨rfl, h⟩
            clear hF
            go_wp2_with fail
            refine wp_region_gr [(0, true), (1, true), (2, true), (3, true), (4, true), (5, true), (6, true), (7, true), (8, true)] (by kernel_rfl) (by kernel_rfl) (by kernel_rfl) (by kernel_rfl) (fun _ _ _ _ _ h => h) ?_
            iterate 9 (refine wpGr_read (o := ⟨_, _, _, _, _, _⟩) (v := ?_) rfl (by rfl) ?_ ?_; rotate_left; (intro w' hw'; go_simp; with_reducible rfl); simp only [Act.put, List.setIfInBounds_toArray, List.set_cons_zero, List.set_cons_succ])
            refine wpGr_done ?_
            clear q0 q1 q2 q3
            go_wp2_with fail
            go_ret
            exact ⟨false, rfl, ⟨fun h => (by cases h), fun h => absurd h hN.out⟩, hBd.out⟩
          · clear hF
            go_wp2_with fail
            refine wp_region_gr [(0, true), (1, true), (2, true), (3, true), (4, true), (5, true), (6, true), (7, true), (8, true)] (by kernel_rfl) (by kernel_rfl) (by kernel_rfl) (by kernel_rfl) (fun _ _ _ _ _ h => h) ?_
            iterate 9 (refine wpGr_read (o := ⟨_, _, _, _, _, _⟩) (v := ?_) rfl (by rfl) ?_ ?_; rotate_left; (intro w' hw'; go_simp; with_reducible rfl); simp only [Act.put, List.setIfInBounds_toArray, List.set_cons_zero, List.set_cons_succ])
            refine wpGr_done ?_
            clear q0 q1 q2 q3
            go_wp2_with fail
            go_ret
            exact ⟨false, rfl, ⟨fun h => (by cases h), fun h => absurd h hN.out⟩, hBd.out⟩
      · obtain rfl : k = n := by omega
        have e1 : Hid (l = m) := xlist_ext (by rw [Hn.out, Hn2.out]) (fun j hj => hE.out j (by rw [Hn.out] at hj; exact hj))
        clear hE
        go_wp2
        go_ret
        exact ⟨true, rfl, ⟨fun _ => e1.out, fun _ => rfl⟩, hB.out⟩
  · have e1 : Hid (l ≠ m) := fun h => hne (by rw [← Hn.out, ← Hn2.out, h])
    have d1 : ((n : Int) == (n2 : Int)) = false := by rw [beq_eq_false_iff_ne]; omega
    have d2 : decide (n = n2) = false := decide_eq_false hne
    go_enter Tryd.func26, Tryd.ntmps26
    go_wp2
    go_ret
    exact ⟨false, rfl, ⟨fun h => (by cases h), fun h => absurd h e1.out⟩, Below.refl _ _⟩
end Go.Proofs.YtcimhcibkbbkdaaDoor
