/-
  The law's bigFork and isFork.
-/
import Derived.Test.YtjlllkdimfkjaaaDoorBranch1
namespace Go.Proofs.YtjlllkdimfkjaaaDoor
open Go Go.RowKit

set_option maxRecDepth 100000 in
theorem big_any (a b : Option Addr) (n c m d : Nat) (ks : List ByteArray) (w : World) (hn : ks.length = n) (hs : TxS w a ks) (hl : n ≤ 9223372036854775807) (hl2 : m ≤ 9223372036854775807) :
    Calls Tryd.prog 5 #[.agg #[.slice a n c, .slice b m d]] w fun e w' => ∃ D, e = .returned (.bool D) ∧ (D = false → n ≤ 200 ∧ m ≤ 200) ∧ Below w.heap.size w w' := by
  have Hn := Lib.hid hn
  have Hs := Lib.hid hs
  have hb0 : Hid (Below w.heap.size w (w.alloc (.cells #[.slice a n c, .slice b m d] RFK))) := (Below.refl _ _).alloc (Nat.le_refl _) _
  have hpb : Hid (PB (w.alloc (.cells #[.slice a n c, .slice b m d] RFK)) w.heap.size RFK (.slice a n c) (.slice b m d)) := PB.new _ _ _ _
  clear hs hn
  go_enter Tryd.func5, Tryd.ntmps5
  go_wp2_with fail
  go_loopw [3] (fun i wr => ∃ k : Nat, i = .int .i64 k ∧ k ≤ n ∧ k ≤ 200 ∧ Hid (PB wr w.heap.size RFK (.slice a n c) (.slice b m d)) ∧ Hid (Below w.heap.size w wr)) (fun i _ => n - (intOf i).toNat)
  case atStart => exact ⟨0, rfl, by omega, by omega, hpb, hb0⟩
  case round =>
    obtain ⟨k, rfl, hk, hk2, hF, hB⟩ := hrel
    have f0 := hF.out.c0
    have f1 := hF.out.c1
    have d1 : decide ((k : Int) < (n : Int)) = decide (k < n) := by rw [Bool.eq_iff_iff]; simp
    by_cases hlt : k < n
    · by_cases h2 : k < 200
      · obtain ⟨g, o, rfl, hcell⟩ := Hs.out.below hB.out (Nat.le_refl _) (by rw [Hn.out]; omega)
        have q0 := hcell k (by rw [Hn.out]; exact hlt)
        generalize sa ks k = y at *
        have e1 : decide ((k : Int) < 200) = true := decide_eq_true (by omega)
        have e2 : decide (k < 200) = true := decide_eq_true h2
        clear hcell d1
        by_cases h3 : 300 < y.size
        · have e3 : decide (300 < (y.size : Int)) = true := decide_eq_true (by omega)
          have e3' : decide (300 < y.size) = true := decide_eq_true h3
          go_wp2_with fail
          go_ret
          exact ⟨true, rfl, (fun h => by cases h), hB.out⟩
        · have e3 : decide (300 < (y.size : Int)) = false := decide_eq_false (by omega)
          have e3' : decide (300 < y.size) = false := decide_eq_false h3
          go_wp2_with fail
          go_roundw
          case rel => exact ⟨k + 1, by go_num, by omega, by omega, hF, hB⟩
          case measure => simp [intOf]; omega
      · obtain rfl : k = 200 := by omega
        have e1 : decide (200 < (n : Int)) = true := decide_eq_true (by omega)
        have e2 : decide (200 < n) = true := decide_eq_true hlt
        have e3 : decide (((200 : Nat) : Int) < (n : Int)) = true := decide_eq_true (by omega)
        clear d1
        go_wp2_with fail
        go_ret
        exact ⟨true, rfl, (fun h => by cases h), hB.out⟩
    · obtain rfl : k = n := by omega
      have e1 : decide (200 < (k : Int)) = false := decide_eq_false (by omega)
      have e2 : decide (200 < k) = false := decide_eq_false (by omega)
      clear d1
      by_cases h4 : 200 < m
      · have e3 : decide (200 < (m : Int)) = true := decide_eq_true (by omega)
        have e3' : decide (200 < m) = true := decide_eq_true h4
        go_wp2_with fail
        go_ret
        exact ⟨true, rfl, (fun h => by cases h), hB.out⟩
      · have e3 : decide (200 < (m : Int)) = false := decide_eq_false (by omega)
        have e3' : decide (200 < m) = false := decide_eq_false h4
        go_wp2_with fail
        go_ret
        exact ⟨false, rfl, (fun _ => ⟨hk2, by omega⟩), hB.out⟩
set_option maxRecDepth 100000 in
set_option maxHeartbeats 1000000 in
theorem isFork_any (a b a2 b2 : Option Addr) (n c m d c2 d2 : Nat) (ks : List ByteArray) (is : List Int) (w : World) (hn : ks.length = n) (hm : is.length = m) (hs : TxS w a ks) (hp : PgS w b is) (hs2 : TxS w a2 ks) (hp2 : PgS w b2 is) (hl : n ≤ 65536) (hl2 : m ≤ 65536) :
    Calls Tryd.prog 12 #[.agg #[.slice a n c, .slice b m d], .agg #[.slice a2 n c2, .slice b2 m d2]] w fun e w' => e = .returned (.bool true) ∧ Below w.heap.size w w' := by
  have Hn := Lib.hid (And.intro hn hm)
  have Hs := Lib.hid (And.intro hs (And.intro hp (And.intro hs2 hp2)))
  obtain ⟨w0, hw0⟩ : ∃ w0, w0 = (w.alloc (.cells #[.slice a n c, .slice b m d] FT)).alloc (.cells #[.slice a2 n c2, .slice b2 m d2] RFK) := ⟨_, rfl⟩
  have e0 : (w.alloc (.cells #[.slice a n c, .slice b m d] FT)).heap.size = w.heap.size + 1 := by simp
  have hb0 : Hid (Below w.heap.size w w0) := by rw [hw0]; exact ((Below.refl _ _).alloc (Nat.le_refl _) _).alloc (by simp) _
  have hF0 : Hid (PB w0 w.heap.size FT (.slice a n c) (.slice b m d)) := by rw [hw0]; exact (PB.new _ _ _ _).stay _
  have hG0 : Hid (PB w0 (w.heap.size + 1) RFK (.slice a2 n c2) (.slice b2 m d2)) := by rw [hw0, ← e0]; exact PB.new _ _ _ _
  have hw0' := Lib.hid hw0.symm
  clear hs hn hm hp hs2 hp2 hw0 e0
  go_enter Tryd.func12, Tryd.ntmps12
  go_wp2_with fail
  rw [hw0'.out]
  go_loopw [5] (fun i wr => ∃ k : Nat, i = .int .i64 k ∧ k ≤ n ∧ Hid (PB wr w.heap.size FT (.slice a n c) (.slice b m d)) ∧ Hid (PB wr (w.heap.size + 1) RFK (.slice a2 n c2) (.slice b2 m d2)) ∧ Hid (Below w.heap.size w wr)) (fun i _ => n - (intOf i).toNat)
  case atStart => exact ⟨0, rfl, by omega, hF0, hG0, hb0⟩
  case round =>
    clear hF0 hG0 hb0 hw0'
    obtain ⟨k, rfl, hk, hF, hG, hB⟩ := hrel
    have f0 := hF.out.c0
    by_cases hlt : k < n
    · obtain ⟨g, o, rfl, hcell⟩ := Hs.out.1.below hB.out (Nat.le_refl _) (by rw [Hn.out.1]; omega)
      obtain ⟨g2, o2, rfl, hcell2⟩ := Hs.out.2.2.1.below hB.out (Nat.le_refl _) (by rw [Hn.out.1]; omega)
      have hA := hcell k (by rw [Hn.out.1]; exact hlt)
      have hC := hcell2 k (by rw [Hn.out.1]; exact hlt)
      have r0 : ∀ w', Ext wr.drew w' → w'.cell? ⟨w.heap.size, 0, none⟩ = some (.slice (some ⟨g, o, none⟩) n c) := fun w' hw => (hF.out.extD hw).c0
      have r1 : ∀ w', Ext wr.drew w' → w'.cell? ⟨w.heap.size + 1, 0, none⟩ = some (.slice (some ⟨g2, o2, none⟩) n c2) := fun w' hw => (hG.out.extD hw).c0
      have r2 : ∀ w', Ext wr.drew w' → w'.cell? ⟨g, o + k, none⟩ = some (.string (sa ks k)) := fun w' hw => by
        rw [((Below.refl wr.heap.size wr).drew.trans hw).cell (p := ⟨g, o + k, none⟩) (block_lt_of_cell hA)]; exact hA
      have r3 : ∀ w', Ext wr.drew w' → w'.cell? ⟨g2, o2 + k, none⟩ = some (.string (sa ks k)) := fun w' hw => by
        rw [((Below.refl wr.heap.size wr).drew.trans hw).cell (p := ⟨g2, o2 + k, none⟩) (block_lt_of_cell hC)]; exact hC
      have hFd : Hid (PB wr.drew w.heap.size FT (.slice (some ⟨g, o, none⟩) n c) (.slice b m d)) := hF.out.ext (Below.refl _ _).drew
      have hGd : Hid (PB wr.drew (w.heap.size + 1) RFK (.slice (some ⟨g2, o2, none⟩) n c2) (.slice b2 m d2)) := hG.out.ext (Below.refl _ _).drew
      have hBd : Hid (Below w.heap.size w wr.drew) := hB.out.drew
      generalize sa ks k = y at *
      clear hcell hcell2 hA hC hF hG hB
      go_wp2_with fail
      refine wp_region_gr [(0, true), (1, true), (2, true), (3, true), (4, true), (5, true), (6, true), (7, true), (8, true), (9, true), (10, true)] (by kernel_rfl) (by kernel_rfl) (by kernel_rfl) (by kernel_rfl) (fun _ _ _ _ _ h => h) ?_
      iterate 11 (refine wpGr_read (o := ⟨_, _, _, _, _, _⟩) (v := ?_) rfl (by rfl) ?_ ?_; rotate_left; (intro w' hw'; go_simp; with_reducible rfl); simp only [Act.put, List.setIfInBounds_toArray, List.set_cons_zero, List.set_cons_succ])
      refine wpGr_done ?_
      clear r0 r1 r2 r3
      go_wp2_with fail
      go_roundw
      case rel => exact ⟨k + 1, by go_num, by omega, hFd, hGd, hBd⟩
      case measure => simp [intOf]; omega
    · obtain rfl : k = n := by omega
      go_wp2_with fail
      go_loopw [6] (fun i wx => ∃ q : Nat, i = .int .i64 q ∧ q ≤ m ∧ Hid (PB wx w.heap.size FT (.slice a k c) (.slice b m d)) ∧ Hid (PB wx (w.heap.size + 1) RFK (.slice a2 k c2) (.slice b2 m d2)) ∧ Hid (Below w.heap.size w wx)) (fun i _ => m - (intOf i).toNat)
      case atStart => exact ⟨0, rfl, by omega, hF, hG, hB⟩
      case round =>
        clear hF hG hB f0
        obtain ⟨q, rfl, hq, hF, hG, hB⟩ := hrel
        have f1 := hF.out.c1
        by_cases hqm : q < m
        · obtain ⟨g, o, rfl, hcell⟩ := Hs.out.2.1.below hB.out (Nat.le_refl _) (by rw [Hn.out.2]; omega)
          obtain ⟨g2, o2, rfl, hcell2⟩ := Hs.out.2.2.2.below hB.out (Nat.le_refl _) (by rw [Hn.out.2]; omega)
          have hA := hcell q (by rw [Hn.out.2]; exact hqm)
          have hC := hcell2 q (by rw [Hn.out.2]; exact hqm)
          have r0 : ∀ w', Ext wr.drew w' → w'.cell? ⟨w.heap.size, 1, none⟩ = some (.slice (some ⟨g, o, none⟩) m d) := fun w' hw => (hF.out.extD hw).c1
          have r1 : ∀ w', Ext wr.drew w' → w'.cell? ⟨w.heap.size + 1, 1, none⟩ = some (.slice (some ⟨g2, o2, none⟩) m d2) := fun w' hw => (hG.out.extD hw).c1
          have r2 : ∀ w', Ext wr.drew w' → w'.cell? ⟨g, o + q, none⟩ = some (.int .i64 (ia is q)) := fun w' hw => by
            rw [((Below.refl wr.heap.size wr).drew.trans hw).cell (p := ⟨g, o + q, none⟩) (block_lt_of_cell hA)]; exact hA
          have r3 : ∀ w', Ext wr.drew w' → w'.cell? ⟨g2, o2 + q, none⟩ = some (.int .i64 (ia is q)) := fun w' hw => by
            rw [((Below.refl wr.heap.size wr).drew.trans hw).cell (p := ⟨g2, o2 + q, none⟩) (block_lt_of_cell hC)]; exact hC
          have hFd : Hid (PB wr.drew w.heap.size FT (.slice a k c) (.slice (some ⟨g, o, none⟩) m d)) := hF.out.ext (Below.refl _ _).drew
          have hGd : Hid (PB wr.drew (w.heap.size + 1) RFK (.slice a2 k c2) (.slice (some ⟨g2, o2, none⟩) m d2)) := hG.out.ext (Below.refl _ _).drew
          have hBd : Hid (Below w.heap.size w wr.drew) := hB.out.drew
          generalize ia is q = y at *
          clear hcell hcell2 hA hC hF hG hB
          go_wp2_with fail
          refine wp_region_gr [(0, true), (1, true), (2, true), (3, true), (4, true), (5, true), (6, true), (7, true), (8, true), (9, true), (10, true)] (by kernel_rfl) (by kernel_rfl) (by kernel_rfl) (by kernel_rfl) (fun _ _ _ _ _ h => h) ?_
          iterate 11 (refine wpGr_read (o := ⟨_, _, _, _, _, _⟩) (v := ?_) rfl (by rfl) ?_ ?_; rotate_left; (intro w' hw'; go_simp; with_reducible rfl); simp only [Act.put, List.setIfInBounds_toArray, List.set_cons_zero, List.set_cons_succ])
          refine wpGr_done ?_
          clear r0 r1 r2 r3
          go_wp2_with fail
          go_roundw
          case rel => exact ⟨q + 1, by go_num, by omega, hFd, hGd, hBd⟩
          case measure => simp [intOf]; omega
        · obtain rfl : q = m := by omega
          go_wp2_with fail
          go_ret
          exact ⟨rfl, hB.out⟩
end Go.Proofs.YtjlllkdimfkjaaaDoor
