/-
  branch's Way: sort.Search with its closure.
-/
import Derived.Test.YtbgkjniagedcnaaGreatDoorBranchMathZ
import Derived.Test.YtbgkjniagedcnaaGreatDoorTextsZ
import Derived.WalkKit
import Derived.Below
import Derived.Lib.Hide
import Derived.Shelf.GgClosure.Gives
namespace Go.Proofs.YtbgkjniagedcnaaGreatDoor
open Go Go.RowKit Go.Shelf

theorem bgt_eq (a b : ByteArray) : (!Op.bytesLess a.toList b.toList && !a.toList == b.toList) = blt b a := by
  rw [← Bool.not_or, ble_eq, Bool.not_not]
abbrev STS : TypeId := 73
set_option maxRecDepth 100000 in
theorem way1_any (w : World) (b1 b2 h : Nat) (a : Option Addr) (n c : Nat) (ks : List ByteArray) (key : ByteArray) (h1 : w.cell? ⟨b1, 0, none⟩ = some (.slice a n c)) (h2 : w.cell? ⟨b2, 0, none⟩ = some (.string key)) (hn : ks.length = n) (hs : TxS w a ks) (hh : h < n) :
    Calls Tryz.prog 75 #[.int .i64 h, .pointer (some ⟨b1, 0, none⟩), .pointer (some ⟨b2, 0, none⟩)] w fun e w' => e = .returned (.bool (blt key (sa ks h))) ∧ Below w.heap.size w w' := by
  obtain ⟨g, o, rfl, hcell⟩ := hs (by omega)
  have hA := hcell h (by omega)
  have q0 : ∀ w', Ext w.drew w' → w'.cell? ⟨g, o + h, none⟩ = some (.string (sa ks h)) := fun w' hw => by
    rw [((Below.refl w.heap.size w).drew.trans hw).cell (p := ⟨g, o + h, none⟩) (block_lt_of_cell hA)]; exact hA
  have l1 := block_lt_of_cell h1
  have l2 := block_lt_of_cell h2
  have q1 : ∀ w', Ext w.drew w' → w'.cell? ⟨b1, 0, none⟩ = some (.slice (some ⟨g, o, none⟩) n c) := fun w' hw => by
    rw [((Below.refl w.heap.size w).drew.trans hw).cell (p := ⟨b1, 0, none⟩) l1]; exact h1
  have q2 : ∀ w', Ext w.drew w' → w'.cell? ⟨b2, 0, none⟩ = some (.string key) := fun w' hw => by
    rw [((Below.refl w.heap.size w).drew.trans hw).cell (p := ⟨b2, 0, none⟩) l2]; exact h2
  have hle := bgt_eq (sa ks h) key
  generalize blt key (sa ks h) = D at *
  clear hcell hA hs h1 h2 hn
  go_enter Tryz.func75, Tryz.ntmps75
  go_wp2_with fail
  refine wp_region_gr [(0, true), (1, true), (2, true), (3, true), (4, true), (5, true), (6, true)] (by kernel_rfl) (by kernel_rfl) (by kernel_rfl) (by kernel_rfl) (fun _ _ _ _ _ h => h) ?_
  iterate 7 (refine wpGr_read (o := ⟨_, _, _, _, _, _⟩) (v := ?_) rfl (by rfl) ?_ ?_; rotate_left; (intro w' hw'; go_simp; with_reducible rfl); simp only [Act.put, List.setIfInBounds_toArray, List.set_cons_zero, List.set_cons_succ])
  refine wpGr_done ?_
  go_wp2_with fail
  go_ret
  exact ⟨rfl, (Below.refl _ _).drew⟩
set_option maxRecDepth 100000 in
theorem waySearch_any (w : World) (b1 b2 : Nat) (a : Option Addr) (n c : Nat) (ks : List ByteArray) (key : ByteArray) (h1 : w.cell? ⟨b1, 0, none⟩ = some (.slice a n c)) (h2 : w.cell? ⟨b2, 0, none⟩ = some (.string key)) (hn : ks.length = n) (hs : TxS w a ks) (ha : keysF ks) (hl : n ≤ 65536) :
    Calls Tryz.prog 74 #[.int .i64 n, .func (.func 75) #[] #[.pointer (some ⟨b1, 0, none⟩), .pointer (some ⟨b2, 0, none⟩)]] w fun e w' => e = .returned (.int .i64 (wayS ks key : Nat)) ∧ Below w.heap.size w w' := by
  have eg : ∀ args w, (callFunc 75 args).run Tryz.prog w = .ok (.enter 75 args) w := enters_of Tryz.func75 (by kernel_rfl) rfl
  have hcall : ∀ (w' : World) (h : Nat), h < n → Below w.heap.size w w' → Calls Tryz.prog 75 #[.int .i64 h, .pointer (some ⟨b1, 0, none⟩), .pointer (some ⟨b2, 0, none⟩)] w' fun e w'' => e = .returned (.bool (blt key (sa ks h))) ∧ Below w'.heap.size w' w'' := fun w' h hh hb =>
    way1_any w' b1 b2 h a n c ks key (by rw [hb.cell (p := ⟨b1, 0, none⟩) (block_lt_of_cell h1)]; exact h1) (by rw [hb.cell (p := ⟨b2, 0, none⟩) (block_lt_of_cell h2)]; exact h2) hn (hs.below hb (Nat.le_refl _)) hh
  have Hcall := Lib.hid hcall
  have hyes : ∀ h, h < n → blt key (sa ks h) = false → h < wayS ks key := fun h hh hb => by
    rcases Nat.lt_or_ge h (wayS ks key) with h3 | h3
    · exact h3
    · rw [wayS_ge ha key h h3 (by omega)] at hb; cases hb
  have hno : ∀ h, h < n → blt key (sa ks h) = true → wayS ks key ≤ h := fun h hh hb => by
    rcases Nat.lt_or_ge h (wayS ks key) with h3 | h3
    · rw [wayS_lt ks key h h3] at hb; cases hb
    · exact h3
  have Hyes := Lib.hid (And.intro hyes hno)
  have hF : wayS ks key ≤ n := by have := wayS_le ks key; omega
  clear hcall hyes hno h1 h2 hn hs ha
  generalize wayS ks key = F at *
  go_enter Tryz.func74, Tryz.ntmps74
  go_wp2_with fail
  go_loopw [5, 6] (fun i j wr => ∃ x y : Nat, i = .int .i64 x ∧ j = .int .i64 y ∧ x ≤ y ∧ y ≤ n ∧ x ≤ F ∧ F ≤ y ∧ Hid (Below w.heap.size w wr)) (fun i j _ => (intOf j - intOf i).toNat)
  case atStart => exact ⟨0, n, rfl, rfl, by omega, by omega, by omega, by omega, Below.refl _ _⟩
  case round =>
    obtain ⟨x, y, rfl, rfl, hxy, hyn, hx, hy, hB⟩ := hrel
    by_cases hlt : x < y
    · obtain ⟨H, hH⟩ : ∃ H, H = (x + y) / 2 := ⟨_, rfl⟩
      have e1 : ((x : Int) + (y : Int)) / 2 = (H : Int) := by omega
      have z1 : x ≤ H := by omega
      have z2 : H < y := by omega
      have hc := Lib.hid (Hcall.out wr H (by omega) hB.out)
      have hs := Hyes.out.1 H (by omega)
      have hs2 := Hyes.out.2 H (by omega)
      clear hH
      generalize blt key (sa ks H) = D at *
      cases D with
      | false =>
        have hs' := hs rfl
        clear hs hs2
        go_wp2_with (go_at_fn 75; refine hc.out.mono ?_; rintro e w' ⟨rfl, hb⟩)
        have hB2 := Lib.hid (hB.out.trans (hb.mono hB.out.size))
        clear hb
        go_roundw
        case rel => exact ⟨H + 1, y, by go_num, rfl, by omega, by omega, by omega, by omega, hB2⟩
        case measure => simp [intOf]; omega
      | true =>
        have hs' := hs2 rfl
        clear hs hs2
        go_wp2_with (go_at_fn 75; refine hc.out.mono ?_; rintro e w' ⟨rfl, hb⟩)
        have hB2 := Lib.hid (hB.out.trans (hb.mono hB.out.size))
        clear hb
        go_roundw
        case rel => exact ⟨x, H, rfl, by go_num, by omega, by omega, by omega, by omega, hB2⟩
        case measure => simp [intOf]; omega
    · obtain rfl : x = F := by omega
      go_wp2
      go_ret
      exact ⟨rfl, hB.out⟩
set_option maxRecDepth 100000 in
theorem brWay_any (a : Option Addr) (n c : Nat) (ks : List ByteArray) (key : ByteArray) (w : World) (hn : ks.length = n) (hs : TxS w a ks) (ha : keysF ks) (hl : n ≤ 65536) :
    Calls Tryz.prog 54 #[.slice a n c, .string key] w fun e w' => e = .returned (.int .i64 (wayS ks key : Nat)) ∧ Below w.heap.size w w' := by
  obtain ⟨w2, hw2⟩ : ∃ w2, w2 = (w.alloc (.cells #[.slice a n c] STS)).alloc (.cells #[.string key] 9) := ⟨_, rfl⟩
  have hb2 : Below w.heap.size w w2 := by rw [hw2]; exact ((Below.refl _ _).alloc (Nat.le_refl _) _).alloc (by simp) _
  have c1 : w2.cell? ⟨w.heap.size, 0, none⟩ = some (.slice a n c) := by rw [hw2]; simp
  have c2 : w2.cell? ⟨w.heap.size + 1, 0, none⟩ = some (.string key) := by rw [hw2]; simp
  have hsr := Lib.hid (waySearch_any w2 w.heap.size (w.heap.size + 1) a n c ks key c1 c2 hn (hs.below hb2 (Nat.le_refl _)) ha hl)
  have hmf : ∀ (fn : Fn) (first cap : Array Value) (w : World), (Instr.makeFunc fn first cap).run Tryz.prog w = .ok (.func fn first cap) w := fun _ _ _ _ => rfl
  have Hb2 := Lib.hid hb2
  clear c1 c2 hs hn hb2 ha
  generalize wayS ks key = F at *
  subst hw2
  go_enter Tryz.func54, Tryz.ntmps54
  go_wp2_with fail
  refine hsr.out.mono ?_
  rintro e w3 ⟨rfl, hb3⟩
  have HB := Lib.hid (Hb2.out.trans (hb3.mono Hb2.out.size))
  clear hb3 hsr Hb2 hmf
  go_wp2
  go_ret
  exact ⟨rfl, HB.out⟩
end Go.Proofs.YtbgkjniagedcnaaGreatDoor
