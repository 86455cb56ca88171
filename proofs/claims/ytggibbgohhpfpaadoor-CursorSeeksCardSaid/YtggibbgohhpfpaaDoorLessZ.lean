/-
  The document's Less.
  Spans in memory; keys.Has, and the document's.
-/
import Derived.Test.YtggibbgohhpfpaaDoorHasPZ
import Derived.Test.YtggibbgohhpfpaaDoorProg
import Derived.Test.YtggibbgohhpfpaaDoorKeysMathZ
import Derived.Test.YtggibbgohhpfpaaDoorGr
import Derived.Laws.Cover1
import Derived.WalkKit
import Derived.Lib.Hide
namespace Go.Proofs.YtggibbgohhpfpaaDoor
open Go Go.RowKit

set_option maxRecDepth 100000 in
theorem less_any (a b : ByteArray) (w : World) (ha : a.size ≤ 1000000) : Calls Tryd.prog 53 #[.string a, .string b] w fun e w' => e = .returned (.bool (blt a b)) ∧ Below w.heap.size w w' := by
  go_enter Tryd.func53, Tryd.ntmps53
  go_wp2_with fail
  go_loopw [5] (fun i wr => ∃ k : Nat, k ≤ a.size ∧ k ≤ b.size ∧ i = .int .i64 k ∧ Hid ((bl a).take k = (bl b).take k) ∧ Hid (Below w.heap.size w wr)) (fun i _ => a.size - (intOf i).toNat)
  case atStart => exact ⟨0, by omega, by omega, by first | trivial | rfl, by show _ = _; simp, Below.refl _ _⟩
  case round =>
    obtain ⟨k, hka, hkb, rfl, ht, hbel⟩ := hrel
    by_cases hc : k < a.size ∧ k < b.size
    · obtain ⟨hc1, hc2⟩ := hc
      have i1 := index_str a k hc1
      have i2 := index_str b k hc2
      have x1 := byteAt_lt a k
      have x2 := byteAt_lt b k
      by_cases he : byteAt a k = byteAt b k
      · have Hn : Hid ((bl a).take (k + 1) = (bl b).take (k + 1)) := by
          show _ = _
          refine take_both (by rw [bl_len]; exact hc1) (by rw [bl_len]; exact hc2) ht.out ?_
          exact UInt8.toNat_inj.1 he
        rw [he] at i1
        generalize byteAt b k = X at *
        go_wp2_with fail
        refine wp_region_gr [(0, true), (1, true), (2, true), (3, true), (4, true), (5, true), (6, true)] (by kernel_rfl) (by kernel_rfl) (by kernel_rfl) (by kernel_rfl) (fun _ _ _ _ _ h => h) ?_
        iterate 7 (refine wpGr_read (o := ⟨_, _, _, _, _, _⟩) (v := ?_) rfl (by rfl) ?_ ?_; rotate_left; (intro w' hw'; go_simp; with_reducible rfl); simp only [Act.put, List.setIfInBounds_toArray, List.set_cons_zero, List.set_cons_succ])
        refine wpGr_done ?_
        go_wp2_with fail
        go_roundw
        case rel => exact ⟨k + 1, by omega, by omega, rfl, Hn, hbel.out.drew⟩
        case measure => simp [intOf]; omega
      · have Hp := Lib.hid (blt_part a b k hc1 hc2 ht.out he)
        obtain ⟨X, hX⟩ : ∃ X, byteAt a k = X := ⟨_, rfl⟩
        obtain ⟨Y, hY⟩ : ∃ Y, byteAt b k = Y := ⟨_, rfl⟩
        rw [hX] at i1 x1 he Hp
        rw [hY] at i2 x2 he Hp
        clear hX hY
        have hne : ¬ ((X : Int) = (Y : Int)) := by omega
        go_wp2_with fail
        refine wp_region_gr [(0, true), (1, true), (2, true), (3, true), (4, true), (5, true), (6, true)] (by kernel_rfl) (by kernel_rfl) (by kernel_rfl) (by kernel_rfl) (fun _ _ _ _ _ h => h) ?_
        iterate 7 (refine wpGr_read (o := ⟨_, _, _, _, _, _⟩) (v := ?_) rfl (by rfl) ?_ ?_; rotate_left; (intro w' hw'; go_simp; with_reducible rfl); simp only [Act.put, List.setIfInBounds_toArray, List.set_cons_zero, List.set_cons_succ])
        refine wpGr_done ?_
        go_wp2_with fail
        refine wp_region_gr [(0, true), (1, true), (2, true), (3, true), (4, true), (5, true), (6, true), (7, true)] (by kernel_rfl) (by kernel_rfl) (by kernel_rfl) (by kernel_rfl) (fun _ _ _ _ _ h => h) ?_
        iterate 8 (refine wpGr_read (o := ⟨_, _, _, _, _, _⟩) (v := ?_) rfl (by rfl) ?_ ?_; rotate_left; (intro w' hw'; go_simp; with_reducible rfl); simp only [Act.put, List.setIfInBounds_toArray, List.set_cons_zero, List.set_cons_succ])
        refine wpGr_done ?_
        go_wp2_with fail
        go_ret
        exact ⟨by rw [Hp.out]; simp, hbel.out.drew.drew⟩
    · have Hl := Lib.hid (blt_len a b k (by omega) hka hkb ht.out)
      by_cases hc1 : k < a.size
      · have hc2 : ¬ k < b.size := fun h => hc ⟨hc1, h⟩
        go_wp2
        go_ret
        exact ⟨by rw [Hl.out]; simp, hbel.out⟩
      · go_wp2
        go_ret
        exact ⟨by rw [Hl.out]; simp, hbel.out⟩
end Go.Proofs.YtggibbgohhpfpaaDoor
namespace Go.Proofs.YtggibbgohhpfpaaDoor
open Go Go.RowKit

abbrev RSP : TypeId := 25
theorem refHas_any (s : Sp) (k : ByteArray) (w : World) (hk : k.size ≤ 1000000) : Calls Tryd.prog 40 #[s.v, .string k] w fun e w' => e = .returned (.bool (hasS s k)) ∧ Below w.heap.size w w' := by
  obtain ⟨lo, hi, op⟩ := s
  have hb : Hid (Below w.heap.size w (w.alloc (.cells #[.string lo, .string hi, .bool op] RSP))) := (Below.refl _ _).alloc (Nat.le_refl _) _
  unfold Sp.v hasS
  dsimp only
  have l1 := fun w => less_any k lo w hk
  have l2 := fun w => less_any k hi w hk
  generalize blt k lo = D1 at *
  generalize blt k hi = D2 at *
  have L1 := Lib.hid l1
  have L2 := Lib.hid l2
  clear l1 l2
  have hn := Lib.hid (SpIn.new w RSP ⟨lo, hi, op⟩)
  cases D1 with
  | true =>
    go_enter Tryd.func40, Tryd.ntmps40
    go_wp2_with fail
    refine (L1.out _).mono ?_
    rintro e w1 ⟨rfl, hb1⟩
    have Hb1 := Lib.hid (below_new _ _ hb1)
    clear hb1
    go_wp2_with fail
    go_ret
    exact ⟨rfl, Hb1.out⟩
  | false =>
    cases op with
    | true =>
      go_enter Tryd.func40, Tryd.ntmps40
      go_wp2_with fail
      refine (L1.out _).mono ?_
      rintro e w1 ⟨rfl, hb1⟩
      have s1 := hn.out.ext hb1
      have c0 := s1.c0
      have c1 := s1.c1
      have c2 := s1.c2
      dsimp only at c0 c1 c2
      have Hb1 := Lib.hid (below_new _ _ hb1)
      clear hb1 s1
      go_wp2_with fail
      go_ret
      exact ⟨rfl, Hb1.out⟩
    | false =>
      go_enter Tryd.func40, Tryd.ntmps40
      go_wp2_with fail
      refine (L1.out _).mono ?_
      rintro e w1 ⟨rfl, hb1⟩
      have s1 := hn.out.ext hb1
      have c0 := s1.c0
      have c1 := s1.c1
      have c2 := s1.c2
      dsimp only at c0 c1 c2
      have Hb1 := Lib.hid (below_new _ _ hb1)
      clear hb1 s1
      go_wp2_with fail
      refine (L2.out _).mono ?_
      rintro e w2 ⟨rfl, hb2⟩
      have Hb2 := Lib.hid (Hb1.out.trans (hb2.mono Hb1.out.size))
      clear hb2 Hb1 c0 c1 c2
      go_wp2_with fail
      go_ret
      exact ⟨rfl, Hb2.out⟩
end Go.Proofs.YtggibbgohhpfpaaDoor
