/-
  The law's giveCells, areCells; leaf's size.
-/
import Derived.Test.YtmgbdbpknocgjaaDoorCells
import Derived.Test.YtmgbdbpknocgjaaDoorLeaf2
namespace Go.Proofs.YtmgbdbpknocgjaaDoor
open Go Go.RowKit

set_option maxRecDepth 100000 in
theorem give_any (a : Option Addr) (n c : Nat) (cs : List Ce) (w : World) (hn : cs.length = n) (hs : CSrc w a cs) (hl : n * 48 ≤ 140737488355328) :
    Calls Tryd.prog 8 #[.slice a n c] w fun e w' => ∃ v, e = .returned v ∧ Cl w' v cs ∧ Below w.heap.size w w' := by
  have Hs := Lib.hid hs
  have Hn := Lib.hid hn
  have hn63 : n ≤ 9223372036854775807 := by omega
  clear hs hn
  go_enter Tryd.func8, Tryd.ntmps8
  go_wp2_with fail
  go_loopw [3, 4] (fun ov i wr => ∃ (k : Nat) (v : Value), i = .int .i64 k ∧ ov = v ∧ k ≤ n ∧ Hid (wr.ownsRow w.heap.size CT 4 v (cs.take k).length (cvs (cs.take k))) ∧ Hid (Below w.heap.size w wr)) (fun _ i _ => n - (intOf i).toNat)
  case atStart => exact ⟨0, .slice none 0 0, rfl, rfl, by omega, World.ownsRow_nil w w.heap.size CT 4, Below.refl _ _⟩
  case round =>
    obtain ⟨k, v, rfl, rfl, hk, hown, hB⟩ := hrel
    by_cases hlt : k < n
    · obtain ⟨g, o, rfl, hcell⟩ := Hs.out.below hB.out (Nat.le_refl _) (by rw [Hn.out]; omega)
      obtain ⟨q0, q1, q2, q3⟩ := hcell k (by rw [Hn.out]; exact hlt)
      have Htk := Lib.hid (take_ca cs k (by rw [Hn.out]; exact hlt))
      have hsz := hB.out.size
      have htl : (cs.take k).length = k := by rw [List.length_take, Hn.out]; omega
      have Htl := Lib.hid htl
      have hnew := Lib.hid (cat_new wr CT (ca cs k))
      generalize ca cs k = y at *
      clear hcell htl
      go_wp2_with (at_builtin; refine wpList_append_cell rfl (.tmp 11) (.tmp 16) 31 rfl w.heap.size CT Tryd.underlying31 infoC _ (cs.take k) (by rfl) (hown.out.alloc _) wr.heap.size 1 y (by rfl) hnew.out (by rw [Htl.out]; omega) (by simp; omega) ?_; intro v' w2 hown2 hgrow2)
      have hb2 : Hid (Below w.heap.size w w2) := (hB.out.alloc hsz _).grown hgrow2.out (by simp; omega) (fun j hj => (hown.out.lt j hj).1)
      have ho2 : Hid (w2.ownsRow w.heap.size CT 4 v' (cs.take (k + 1)).length (cvs (cs.take (k + 1)))) := by rw [Htk.out]; exact hown2
      clear hown2 hgrow2 hown hB
      go_wp2
      go_roundw
      case rel => exact ⟨k + 1, v', by go_num, rfl, by omega, ho2, hb2⟩
      case measure => simp [intOf]; omega
    · obtain rfl : k = n := by omega
      have ho := hown.out
      rw [List.take_of_length_le (by rw [Hn.out]; exact Nat.le_refl _)] at ho
      have hcl := Lib.hid (own_cells ho)
      clear ho hown
      go_wp2
      go_ret
      exact ⟨_, rfl, hcl.out, hB.out⟩
set_option maxRecDepth 100000 in
theorem are_any (a b : Option Addr) (n c c2 : Nat) (cs : List Ce) (w : World) (hn : cs.length = n) (hs : CSrc w a cs) (hs2 : CSrc w b cs) (hl : n ≤ 9223372036854775807) :
    Calls Tryd.prog 13 #[.slice a n c, .slice b n c2] w fun e w' => e = .returned (.bool true) ∧ Below w.heap.size w w' := by
  have Hs := Lib.hid hs
  have Hs2 := Lib.hid hs2
  have Hn := Lib.hid hn
  clear hs hs2 hn
  go_enter Tryd.func13, Tryd.ntmps13
  go_wp2_with fail
  go_loopw [5] (fun i wr => ∃ k : Nat, i = .int .i64 k ∧ k ≤ n ∧ Hid (Below w.heap.size w wr)) (fun i _ => n - (intOf i).toNat)
  case atStart => exact ⟨0, rfl, by omega, Below.refl _ _⟩
  case round =>
    obtain ⟨k, rfl, hk, hB⟩ := hrel
    by_cases hlt : k < n
    · obtain ⟨g, o, rfl, hcell⟩ := Hs.out.below hB.out (Nat.le_refl _) (by rw [Hn.out]; omega)
      obtain ⟨g2, o2, rfl, hcell2⟩ := Hs2.out.below hB.out (Nat.le_refl _) (by rw [Hn.out]; omega)
      have hA := hcell k (by rw [Hn.out]; exact hlt)
      have hC := hcell2 k (by rw [Hn.out]; exact hlt)
      have q0 : ∀ w', Ext wr.drew w' → w'.cell? ⟨g, o + k * 4, none⟩ = some (.string (ca cs k).k) := fun w' hw => (hA.ext hw).c0
      have q1 : ∀ w', Ext wr.drew w' → w'.cell? ⟨g, o + k * 4 + 1, none⟩ = some (.string (ca cs k).v) := fun w' hw => (hA.ext hw).c1
      have q2 : ∀ w', Ext wr.drew w' → w'.cell? ⟨g, o + k * 4 + 2, none⟩ = some (.int .i64 (ca cs k).n) := fun w' hw => (hA.ext hw).c2
      have q3 : ∀ w', Ext wr.drew w' → w'.cell? ⟨g, o + k * 4 + 3, none⟩ = some (.int .i64 (ca cs k).p) := fun w' hw => (hA.ext hw).c3
      have p0 : ∀ w', Ext wr.drew w' → w'.cell? ⟨g2, o2 + k * 4, none⟩ = some (.string (ca cs k).k) := fun w' hw => (hC.ext hw).c0
      have p1 : ∀ w', Ext wr.drew w' → w'.cell? ⟨g2, o2 + k * 4 + 1, none⟩ = some (.string (ca cs k).v) := fun w' hw => (hC.ext hw).c1
      have p2 : ∀ w', Ext wr.drew w' → w'.cell? ⟨g2, o2 + k * 4 + 2, none⟩ = some (.int .i64 (ca cs k).n) := fun w' hw => (hC.ext hw).c2
      have p3 : ∀ w', Ext wr.drew w' → w'.cell? ⟨g2, o2 + k * 4 + 3, none⟩ = some (.int .i64 (ca cs k).p) := fun w' hw => (hC.ext hw).c3
      generalize ca cs k = y at *
      obtain ⟨x0, x1, x2, x3⟩ := y
      dsimp only at q0 q1 q2 q3 p0 p1 p2 p3
      clear hcell hcell2 hA hC
      go_wp2_with fail
      refine wp_region_gr [(0, true), (1, true), (2, true), (3, true), (4, true), (5, true), (6, true), (7, true), (8, true)] (by kernel_rfl) (by kernel_rfl) (by kernel_rfl) (by kernel_rfl) (fun _ _ _ _ _ h => h) ?_
      iterate 9 (refine wpGr_read (o := ⟨_, _, _, _, _, _⟩) (v := ?_) rfl (by rfl) ?_ ?_; rotate_left; (intro w' hw'; go_simp; with_reducible rfl); simp only [Act.put, List.setIfInBounds_toArray, List.set_cons_zero, List.set_cons_succ])
      refine wpGr_done ?_
      have hB2 : Hid (Below w.heap.size w wr.drew) := hB.out.drew
      clear q0 q1 q2 q3 p0 p1 p2 p3 hB
      go_wp2_with fail
      go_roundw
      case rel => exact ⟨k + 1, by go_num, by omega, hB2⟩
      case measure => simp [intOf]; omega
    · obtain rfl : k = n := by omega
      go_wp2
      go_ret
      exact ⟨rfl, hB.out⟩
set_option maxRecDepth 100000 in
theorem leafSizes_any (a : Option Addr) (n c : Nat) (cs : List Ce) (w : World) (hn : cs.length = n) (hs : CSrc w a cs) (hl : n ≤ 1000000) (hm : allMay cs) :
    Calls Tryd.prog 22 #[.slice a n c] w fun e w' => e = .returned (.int .i64 ((loadS cs).length : Nat)) ∧ Below w.heap.size w w' := by
  have Hs := Lib.hid hs
  have Hn := Lib.hid hn
  have Hm := Lib.hid hm
  have hv := vs_le (show n < 18446744073709551616 by omega)
  have hv2 := size_any n w (by omega)
  have hL : Hid ((loadS cs).length = vs n + (body cs).length) := by show _ = _; rw [load_len, hn]
  clear hs hn hm
  generalize (loadS cs).length = LL at *
  generalize vs n = V at *
  go_enter Tryd.func22, Tryd.ntmps22
  go_wp2_with fail
  refine hv2.mono ?_
  rintro e w' ⟨rfl, rfl⟩
  go_wp2_with fail
  go_loopw [3, 12] (fun s i wr => ∃ k t : Nat, s = .int .i64 t ∧ i = .int .i64 k ∧ k ≤ n ∧ t ≤ 10 + 124 * k ∧ Hid (t = V + sums cs k) ∧ Hid (Below w.heap.size w wr)) (fun _ i _ => n - (intOf i).toNat)
  case atStart => exact ⟨0, V, rfl, rfl, by omega, by omega, rfl, Below.refl _ _⟩
  case round =>
    obtain ⟨k, t, rfl, rfl, hk, ht, hts, hB⟩ := hrel
    by_cases hlt : k < n
    · obtain ⟨g, o, rfl, hcell⟩ := Hs.out.below hB.out (Nat.le_refl _) (by rw [Hn.out]; omega)
      obtain ⟨q0, q1, q2, q3⟩ := hcell k (by rw [Hn.out]; exact hlt)
      have hmay := Hm.out k (by rw [Hn.out]; exact hlt)
      have h1 := may_k hmay
      have h2 := may_n0 hmay
      have h3 := may_n hmay
      have h4 := size_le hmay
      have h5 : Hid (t + sizeS (ca cs k).k (ca cs k).n = V + sums cs (k + 1)) := by
        show _ = _
        rw [sums_succ cs k (by rw [Hn.out]; exact hlt), one_len hmay, hts.out]; omega
      generalize ca cs k = y at *
      obtain ⟨x0, x1, x2, x3⟩ := y
      dsimp only at q0 q1 q2 q3 h1 h2 h3 h4 h5
      obtain ⟨N, rfl⟩ := Int.eq_ofNat_of_zero_le h2
      have hN : N ≤ 2048 := by omega
      have hsz := fun w => leafSize_any x0 N w (by omega) (by omega)
      generalize sizeS x0 (N : Int) = Z at *
      have hB2 : Hid (Below w.heap.size w (wr.alloc (.cells #[.string x0, .string x1, .int .i64 (N : Int), .int .i64 x3] CT))) := hB.out.alloc hB.out.size _
      clear hcell hmay hts
      go_wp2_with fail
      refine (hsz _).mono ?_
      rintro e w' ⟨rfl, rfl⟩
      go_wp2
      go_roundw
      case rel => exact ⟨k + 1, t + Z, by go_num, by go_num, by omega, by omega, h5, hB2⟩
      case measure => simp [intOf]; omega
    · obtain rfl : k = n := by omega
      have h5 : Hid (t = LL) := by show _ = _; rw [hts.out, sums_all cs k (by rw [Hn.out]; exact Nat.le_refl _), hL.out]
      clear hts hL
      go_wp2
      go_ret
      exact ⟨by rw [← h5.out]; rfl, hB.out⟩
end Go.Proofs.YtmgbdbpknocgjaaDoor
