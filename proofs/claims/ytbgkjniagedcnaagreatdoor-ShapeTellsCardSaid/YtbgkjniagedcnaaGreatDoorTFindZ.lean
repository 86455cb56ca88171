/-
  tree's find: sort.Search with its closure.
-/
import Derived.Test.YtbgkjniagedcnaaGreatDoorNodeZ
import Derived.WalkKit
import Derived.Below
import Derived.Lib.Hide
import Derived.Shelf.GgClosure.Gives
namespace Go.Proofs.YtbgkjniagedcnaaGreatDoor
open Go Go.RowKit Go.Shelf

set_option maxRecDepth 100000 in
theorem tfind1_any (w : World) (b1 b2 h : Nat) (a : Option Addr) (n c : Nat) (cs : List En) (key : ByteArray) (h1 : w.cell? ⟨b1, 0, none⟩ = some (.slice a n c)) (h2 : w.cell? ⟨b2, 0, none⟩ = some (.string key)) (hn : cs.length = n) (hs : CS w a cs) (hh : h < n) :
    Calls Tryz.prog 76 #[.int .i64 h, .pointer (some ⟨b1, 0, none⟩), .pointer (some ⟨b2, 0, none⟩)] w fun e w' => e = .returned (.bool (!blt (ea cs h).k key)) ∧ Below w.heap.size w w' := by
  obtain ⟨g, o, rfl, hcell⟩ := hs.ents (by omega)
  have hA := (hcell h (by omega)).1
  have lA := block_lt_of_cell hA
  have q0 : ∀ w', Ext w.drew w' → w'.cell? ⟨g, o + h * 3, none⟩ = some (.string (ea cs h).k) := fun w' hw => by
    rw [((Below.refl w.heap.size w).drew.trans hw).cell (p := ⟨g, o + h * 3, none⟩) lA]; exact hA
  have l1 := block_lt_of_cell h1
  have l2 := block_lt_of_cell h2
  have q1 : ∀ w', Ext w.drew w' → w'.cell? ⟨b1, 0, none⟩ = some (.slice (some ⟨g, o, none⟩) n c) := fun w' hw => by
    rw [((Below.refl w.heap.size w).drew.trans hw).cell (p := ⟨b1, 0, none⟩) l1]; exact h1
  have q2 : ∀ w', Ext w.drew w' → w'.cell? ⟨b2, 0, none⟩ = some (.string key) := fun w' hw => by
    rw [((Below.refl w.heap.size w).drew.trans hw).cell (p := ⟨b2, 0, none⟩) l2]; exact h2
  have hle : Op.bytesLess (ea cs h).k.toList key.toList = blt (ea cs h).k key := rfl
  generalize blt (ea cs h).k key = D at *
  clear hcell hA lA hs h1 h2 hn
  go_enter Tryz.func76, Tryz.ntmps76
  go_wp2_with fail
  refine wp_region_gr [(0, true), (1, true), (2, true), (3, true), (4, true), (5, true), (6, true), (7, true), (8, true)] (by kernel_rfl) (by kernel_rfl) (by kernel_rfl) (by kernel_rfl) (fun _ _ _ _ _ h => h) ?_
  iterate 9 (refine wpGr_read (o := ⟨_, _, _, _, _, _⟩) (v := ?_) rfl (by rfl) ?_ ?_; rotate_left; (intro w' hw'; go_simp; with_reducible rfl); simp only [Act.put, List.setIfInBounds_toArray, List.set_cons_zero, List.set_cons_succ])
  refine wpGr_done ?_
  go_wp2_with fail
  go_ret
  exact ⟨rfl, (Below.refl _ _).drew⟩
set_option maxRecDepth 100000 in
theorem tsearch_any (w : World) (b1 b2 : Nat) (a : Option Addr) (n c : Nat) (cs : List En) (key : ByteArray) (h1 : w.cell? ⟨b1, 0, none⟩ = some (.slice a n c)) (h2 : w.cell? ⟨b2, 0, none⟩ = some (.string key)) (hn : cs.length = n) (hs : CS w a cs) (ha : srt cs) (hl : n ≤ 65536) :
    Calls Tryz.prog 74 #[.int .i64 n, .func (.func 76) #[] #[.pointer (some ⟨b1, 0, none⟩), .pointer (some ⟨b2, 0, none⟩)]] w fun e w' => e = .returned (.int .i64 (fE cs key : Nat)) ∧ Below w.heap.size w w' := by
  have eg : ∀ args w, (callFunc 76 args).run Tryz.prog w = .ok (.enter 76 args) w := enters_of Tryz.func76 (by kernel_rfl) rfl
  have hcall : ∀ (w' : World) (h : Nat), h < n → Below w.heap.size w w' → Calls Tryz.prog 76 #[.int .i64 h, .pointer (some ⟨b1, 0, none⟩), .pointer (some ⟨b2, 0, none⟩)] w' fun e w'' => e = .returned (.bool (!blt (ea cs h).k key)) ∧ Below w'.heap.size w' w'' := fun w' h hh hb =>
    tfind1_any w' b1 b2 h a n c cs key (by rw [hb.cell (p := ⟨b1, 0, none⟩) (block_lt_of_cell h1)]; exact h1) (by rw [hb.cell (p := ⟨b2, 0, none⟩) (block_lt_of_cell h2)]; exact h2) hn (hs.below hb (Nat.le_refl _)) hh
  have Hcall := Lib.hid hcall
  have hyes : ∀ h, h < n → blt (ea cs h).k key = true → h < fE cs key := fun h hh hb => by
    rcases Nat.lt_or_ge h (fE cs key) with h3 | h3
    · exact h3
    · rw [fE_ge ha key h h3 (by omega)] at hb; cases hb
  have hno : ∀ h, h < n → blt (ea cs h).k key = false → fE cs key ≤ h := fun h hh hb => by
    rcases Nat.lt_or_ge h (fE cs key) with h3 | h3
    · rw [fE_lt cs key h h3] at hb; cases hb
    · exact h3
  have Hyes := Lib.hid (And.intro hyes hno)
  have hF : fE cs key ≤ n := by have := fE_le cs key; unfold goneE at this; split at this <;> omega
  clear hcall hyes hno h1 h2 hn hs ha
  generalize fE cs key = F at *
  go_enter Tryz.func74, Tryz.ntmps74
  go_wp2_with fail
  go_loopw [5, 6] (fun i j wr => ∃ x y : Nat, i = .int .i64 x ∧ j = .int .i64 y ∧ x ≤ y ∧ y ≤ n ∧ x ≤ F ∧ F ≤ y ∧ Hid (Below w.heap.size w wr)) (fun i j _ => (intOf j - intOf i).toNat)
  case atStart => exact ⟨0, n, rfl, rfl, by omega, by omega, by omega, by omega, Below.refl _ _⟩
  case round =>
    obtain ⟨x, y, rfl, rfl, hxy, hyn, hx, hy, hB⟩ := hrel
    by_cases hlt : x < y
    · obtain ⟨H, hH⟩ : ∃ H, H = (x + y) / 2 := ⟨_, rfl⟩
      have e1 : ((x : Int) + (y : Int)) / 2 = (H : Int) := by omega
      have z1 : x ≤ H := by omega
      have z2 : H < y := by omega
      have hc := Lib.hid (Hcall.out wr H (by omega) hB.out)
      have hs := Hyes.out.1 H (by omega)
      have hs2 := Hyes.out.2 H (by omega)
      clear hH
      generalize blt (ea cs H).k key = D at *
      cases D with
      | true =>
        have hs' := hs rfl
        clear hs hs2
        rw [show (!true) = false from rfl] at hc
        go_wp2_with (go_at_fn 76; refine hc.out.mono ?_; rintro e w' ⟨rfl, hb⟩)
        have hB2 := Lib.hid (hB.out.trans (hb.mono hB.out.size))
        clear hb
        go_roundw
        case rel => exact ⟨H + 1, y, by go_num, rfl, by omega, by omega, by omega, by omega, hB2⟩
        case measure => simp [intOf]; omega
      | false =>
        have hs' := hs2 rfl
        clear hs hs2
        rw [show (!false) = true from rfl] at hc
        go_wp2_with (go_at_fn 76; refine hc.out.mono ?_; rintro e w' ⟨rfl, hb⟩)
        have hB2 := Lib.hid (hB.out.trans (hb.mono hB.out.size))
        clear hb
        go_roundw
        case rel => exact ⟨x, H, rfl, by go_num, by omega, by omega, by omega, by omega, hB2⟩
        case measure => simp [intOf]; omega
    · obtain rfl : x = F := by omega
      go_wp2
      go_ret
      exact ⟨rfl, hB.out⟩
set_option maxRecDepth 100000 in
theorem tfind_any (a : Option Addr) (n c : Nat) (cs : List En) (key : ByteArray) (w : World) (hn : cs.length = n) (hs : CS w a cs) (ha : srt cs) (hl : n ≤ 65536) :
    Calls Tryz.prog 55 #[.slice a n c, .string key] w fun e w' => e = .returned (.tuple #[.int .i64 (fE cs key : Nat), .bool (isE cs key)]) ∧ Below w.heap.size w w' := by
  obtain ⟨w2, hw2⟩ : ∃ w2, w2 = (w.alloc (.cells #[.slice a n c] SCT)).alloc (.cells #[.string key] 9) := ⟨_, rfl⟩
  have hb2 : Below w.heap.size w w2 := by rw [hw2]; exact ((Below.refl _ _).alloc (Nat.le_refl _) _).alloc (by simp) _
  have c1 : w2.cell? ⟨w.heap.size, 0, none⟩ = some (.slice a n c) := by rw [hw2]; simp
  have c2 : w2.cell? ⟨w.heap.size + 1, 0, none⟩ = some (.string key) := by rw [hw2]; simp
  have hsr := Lib.hid (tsearch_any w2 w.heap.size (w.heap.size + 1) a n c cs key c1 c2 hn (hs.below hb2 (Nat.le_refl _)) ha hl)
  have l1 : w.heap.size < w2.heap.size := by rw [hw2]; simp; omega
  have l2 : w.heap.size + 1 < w2.heap.size := by rw [hw2]; simp
  have hmf : ∀ (fn : Fn) (first cap : Array Value) (w : World), (Instr.makeFunc fn first cap).run Tryz.prog w = .ok (.func fn first cap) w := fun _ _ _ _ => rfl
  have hF : fE cs key ≤ n := by have := fE_le cs key; unfold goneE at this; split at this <;> omega
  have hat : Hid (isE cs key = (decide (fE cs key < n) && ((ea cs (fE cs key)).k.toList == key.toList))) := by show _ = _; rw [isE_eq, hn]
  have Hs := Lib.hid hs
  have Hn := Lib.hid hn
  have Hb2 := Lib.hid hb2
  have Hc := Lib.hid (And.intro c1 c2)
  clear c1 c2 hs hn hb2 ha
  generalize isE cs key = AT at *
  generalize fE cs key = F at *
  subst hw2
  go_enter Tryz.func55, Tryz.ntmps55
  go_wp2_with fail
  refine hsr.out.mono ?_
  rintro e w3 ⟨rfl, hb3⟩
  have r1 : ∀ w', Ext w3.drew w' → w'.cell? ⟨w.heap.size, 0, none⟩ = some (.slice a n c) := fun w' hw => by
    have hb4 := (hb3.drew).trans (hw.mono hb3.size)
    rw [hb4.cell (p := ⟨w.heap.size, 0, none⟩) l1]; exact Hc.out.1
  have r2 : ∀ w', Ext w3.drew w' → w'.cell? ⟨w.heap.size + 1, 0, none⟩ = some (.string key) := fun w' hw => by
    have hb4 := (hb3.drew).trans (hw.mono hb3.size)
    rw [hb4.cell (p := ⟨w.heap.size + 1, 0, none⟩) l2]; exact Hc.out.2
  have HB := Lib.hid (Hb2.out.trans (hb3.mono Hb2.out.size))
  have Hs3 := Lib.hid (Hs.out.below HB.out (Nat.le_refl _))
  have HBd : Hid (Below w.heap.size w w3.drew) := HB.out.drew
  clear hb3 hsr Hc Hb2 hmf l1 l2 HB
  by_cases hlt : F < n
  · obtain ⟨g, o, rfl, hcell⟩ := Hs3.out.ents (by rw [Hn.out]; omega)
    have hA := (hcell F (by rw [Hn.out]; exact hlt)).1
    have lA := block_lt_of_cell hA
    have q0 : ∀ w', Ext w3.drew w' → w'.cell? ⟨g, o + F * 3, none⟩ = some (.string (ea cs F).k) := fun w' hw => by
      rw [((Below.refl w3.heap.size w3).drew.trans hw).cell (p := ⟨g, o + F * 3, none⟩) lA]; exact hA
    have hD : ∃ D, ((ea cs F).k.toList == key.toList) = D := ⟨_, rfl⟩
    obtain ⟨D, hD⟩ := hD
    have hat2 : Hid (AT = D) := by show _ = _; rw [hat.out, hD]; simp [hlt]
    generalize ea cs F = y at *
    obtain ⟨y0, y1, _⟩ := y
    dsimp only at q0 hD
    clear hcell hA lA hat
    go_wp2_with fail
    refine wp_region_gr [(0, true), (1, true), (2, true), (3, true), (4, true), (5, true), (6, true), (7, true), (8, true), (9, true), (10, true), (11, true), (12, true), (13, true), (14, true), (15, true), (16, true)] (by kernel_rfl) (by kernel_rfl) (by kernel_rfl) (by kernel_rfl) (fun _ _ _ _ _ h => h) ?_
    iterate 17 (first | (refine wpGr_read (o := ⟨_, _, _, _, _, _⟩) (v := ?_) rfl (by rfl) ?_ ?_; rotate_left; (intro w' hw'; go_simp; with_reducible rfl); simp only [Act.put, List.setIfInBounds_toArray, List.set_cons_zero, List.set_cons_succ]) | (refine wpGr_skip (o := ⟨_, _, _, _, _, _⟩) rfl (by rfl) ?_; simp only [Act.put, List.setIfInBounds_toArray, List.set_cons_zero, List.set_cons_succ]))
    refine wpGr_done ?_
    go_wp2_with fail
    go_ret2
    exact ⟨by rw [hat2.out]; rfl, HBd.out⟩
  · have hat2 : Hid (AT = false) := by show _ = _; rw [hat.out]; simp [hlt]
    clear hat
    go_wp2_with fail
    refine wp_region_gr [(0, true), (1, true), (2, true), (3, true), (4, true), (5, true), (6, true), (7, true), (8, true), (9, true), (10, true), (11, true), (12, true), (13, true), (14, true), (15, true), (16, true)] (by kernel_rfl) (by kernel_rfl) (by kernel_rfl) (by kernel_rfl) (fun _ _ _ _ _ h => h) ?_
    iterate 17 (first | (refine wpGr_read (o := ⟨_, _, _, _, _, _⟩) (v := ?_) rfl (by rfl) ?_ ?_; rotate_left; (intro w' hw'; go_simp; with_reducible rfl); simp only [Act.put, List.setIfInBounds_toArray, List.set_cons_zero, List.set_cons_succ]) | (refine wpGr_skip (o := ⟨_, _, _, _, _, _⟩) rfl (by rfl) ?_; simp only [Act.put, List.setIfInBounds_toArray, List.set_cons_zero, List.set_cons_succ]))
    refine wpGr_done ?_
    go_wp2_with fail
    go_ret2
    exact ⟨by rw [hat2.out]; rfl, HBd.out⟩
end Go.Proofs.YtbgkjniagedcnaaGreatDoor
