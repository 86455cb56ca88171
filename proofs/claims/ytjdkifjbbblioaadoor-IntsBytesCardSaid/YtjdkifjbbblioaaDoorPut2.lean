/-
  The document's Put.
-/
import Derived.Test.YtjdkifjbbblioaaDoorProg
import Derived.Test.YtjdkifjbbblioaaDoorMath2
import Derived.Test.YtjdkifjbbblioaaDoorPut
import Derived.WalkKit
import Derived.OwnWalk
import Derived.Below
import Derived.Lib.Hide
namespace Go.Proofs.YtjdkifjbbblioaaDoor
open Go.RowKit

theorem refPut_out (a : Option Addr) (c : Nat) (l : List Nat) (v : Nat) (s : Int) (w : World) (hl : l.length ≤ 65536) (hs : s < 1 ∨ 64 < s) (hz : a = none → c = 0) (hsrc : Src w a l) :
    Calls Tryd.prog 11 #[.slice a l.length c, .int .u64 v, .int .i64 s] w fun e w' => ∃ r, e = .returned r ∧ w'.ownsRow w.heap.size 5 1 r l.length (bv l) ∧ Below w.heap.size w w' := by
  have hs2 : (decide (s < 1) = true) ∨ (decide (s < 1) = false ∧ decide (64 < s) = true) := by simp; omega
  clear hs
  have hown0 := Lib.hid (World.ownsRow_nil w w.heap.size 5 1)
  rcases hs2 with d1 | ⟨d1, d2⟩
  all_goals
    go_enter Tryd.func11, Tryd.ntmps11
    go_wp2_with (at_builtin; refine wpList_append_bytes rfl (.tmp 11) (.tmp 12) 22 rfl w.heap.size 5 Tryd.underlying22 infoByte _ [] rfl hown0 a c l (by rfl) hz hsrc (by simp; omega) (Nat.le_refl _) ?_; intro r w1 hown1 hgrow1 hnear1)
    have hb := (Below.refl w.heap.size w).grown hgrow1.out (Nat.le_refl _) (by intro k hk; cases hk)
    have ho := hown1.out
    rw [List.nil_append] at ho
    go_ret
    exact ⟨_, rfl, ho, hb⟩
theorem refPut_in (a : Option Addr) (c : Nat) (l : List Nat) (v s : Nat) (w : World) (hl : l.length ≤ 65536) (hs1 : 1 ≤ s) (hs : s ≤ 64) (hv : v < 18446744073709551616) (hz : a = none → c = 0) (hsrc : Src w a l) :
    Calls Tryd.prog 11 #[.slice a l.length c, .int .u64 v, .int .i64 s] w fun e w' => ∃ r, e = .returned r ∧ w'.ownsRow w.heap.size 5 1 r (l ++ beL v s).length (bv (l ++ beL v s)) ∧ Below w.heap.size w w' := by
  have hown0 := Lib.hid (World.ownsRow_nil w w.heap.size 5 1)
  have d1 : decide ((s : Int) < 1) = false := by simp; omega
  have d2 : decide (64 < (s : Int)) = false := by simp; omega
  go_enter Tryd.func11, Tryd.ntmps11
  go_wp2_with (at_builtin; refine wpList_append_bytes rfl (.tmp 11) (.tmp 12) 22 rfl w.heap.size 5 Tryd.underlying22 infoByte _ [] rfl hown0 a c l (by rfl) hz hsrc (by simp; omega) (Nat.le_refl _) ?_; intro r w1 hown1 hgrow1 hnear1)
  have hb1 : Below w.heap.size w w1 := (Below.refl w.heap.size w).grown hgrow1.out (Nat.le_refl _) (by intro k hk; cases hk)
  have Ho : Hid (w1.ownsRow w.heap.size 5 1 r l.length (bv l)) := by have := hown1.out; rw [List.nil_append] at this; exact this
  clear hown1 hgrow1 hnear1 hown0
  go_loopw [1, 8, 9] (fun V low I wr => ∃ k : Nat, k ≤ s ∧ I = .int .i64 k ∧ V = .int .u64 (v / 256 ^ k : Nat) ∧ Hid (wr.ownsRow w1.heap.size 5 1 low (leL v k).length (bv (leL v k))) ∧ Below w1.heap.size w1 wr) (fun _ _ I _ => s - (intOf I).toNat)
  case atStart => exact ⟨0, Nat.zero_le _, rfl, by rw [Nat.pow_zero, Nat.div_one], World.ownsRow_nil _ _ _ _, Below.refl _ _⟩
  case round =>
    obtain ⟨k, hk, rfl, rfl, hown, hbel⟩ := hrel
    have hsz := hbel.size
    by_cases hlt : k < s
    · have hV : v / 256 ^ k < 18446744073709551616 := Nat.lt_of_le_of_lt (Nat.div_le_self _ _) hv
      have hnext := Lib.hid (show v / 256 ^ (k + 1) = v / 256 ^ k / 256 by rw [Nat.pow_succ, Nat.div_div_eq_div_mul])
      have hsn := Lib.hid (leL_snoc v k)
      have hlen : (leL v k).length + 1 ≤ 140737488355328 := by rw [leL_length]; omega
      generalize v / 256 ^ k = V at *
      go_wp2_with (at_builtin; refine wpList_append_bytes rfl (.tmp 26) (.tmp 30) 22 rfl w1.heap.size 5 Tryd.underlying22 infoByte _ (leL v k) rfl (hown.out.alloc _) (some ⟨wr.heap.size, 0, none⟩) 1 [V % 256] (by rfl) (by intro h; cases h) (by exact src_one wr _ (V % 256)) hlen (by simp; omega) ?_; intro low' w2 hown2 hgrow2 hnear2)
      have hown2' := hown2.out
      rw [hsn.out] at hown2'
      have Hown2 := Lib.hid hown2'
      have hb2 := (hbel.alloc hsz (.cells #[.int .u8 ((V : Int) % 256)] 5)).grown hgrow2.out (by simp; omega) (fun j hj => (hown.out.lt j hj).1)
      clear hown2' hown2 hgrow2 hnear2 hown
      go_wp2
      go_roundw
      case rel => exact ⟨k + 1, by omega, by go_num, by rw [hnext.out]; rfl, Hown2, hb2⟩
      case measure => simp [intOf]; omega
    · obtain rfl : k = s := by omega
      have hout : Hid (wr.ownsRow w.heap.size 5 1 r l.length (bv l)) := own_below Ho.out hbel (Nat.le_refl _)
      have hrow : ∃ gl lc, u8 = Value.slice (some ⟨gl, 0, none⟩) (leL v k).length lc := by
        rcases hown.out.2 with ⟨_, h0⟩ | ⟨g, cap, cur, h0, _⟩
        · rw [leL_length] at h0; omega
        · exact ⟨g, cap, h0⟩
      obtain ⟨gl, lc, rfl⟩ := hrow
      have hgl := hown.out.lt gl rfl
      have hcl := Lib.hid fun j (hj : j < (leL v k).length) => (hown.out.cellAt j (by omega)).trans (bv_get _ j hj)
      have Hr := Lib.hid fun j hj => (Ho.out.lt j hj).2
      have hbw : Below w.heap.size w wr := hb1.trans (hbel.mono hb1.size)
      clear hown hbel
      have hlk := Lib.hid (leL_length v k)
      have eo : l ++ downTo v k k = l := by rw [downTo_top, List.append_nil]
      have Hst : Hid (wr.ownsRow w.heap.size 5 1 r (l ++ downTo v k k).length (bv (l ++ downTo v k k))) := by rw [eo]; exact hout
      clear hout eo Ho
      obtain ⟨wo, rfl⟩ : ∃ wo : World, wo = wr := ⟨_, rfl⟩
      generalize v / 256 ^ k = V at *
      go_wp2_with fail
      go_loopw [7, 10] (fun O I wr => ∃ (j : Nat) (i : Int), j ≤ k ∧ I = .int .i64 i ∧ i + 1 ≤ j ∧ (j : Int) ≤ i + 1 ∧ Hid (wr.ownsRow w.heap.size 5 1 O (l ++ downTo v k j).length (bv (l ++ downTo v k j))) ∧ Below w.heap.size w wr ∧ wo.heap.size ≤ wr.heap.size ∧
        Hid (∀ q, w1.heap.size ≤ q → q < wo.heap.size → wr.heap[q]? = wo.heap[q]?) ∧ Hid (∀ q, O.ownBlock = some q → q < w1.heap.size ∨ wo.heap.size ≤ q)) (fun _ I _ => (intOf I + 1).toNat)
      case atStart => exact ⟨k, (k : Int) - 1, Nat.le_refl _, rfl, by omega, by omega, Hst, hbw, Nat.le_refl _, fun _ _ _ => rfl, fun q hq => .inl (Hr.out q hq)⟩
      case round =>
        obtain ⟨j, i, hjk, rfl, hi1, hi2, hown, hbel, hszx, hmid, hnear⟩ := hrel
        by_cases hlt : 0 < j
        · obtain ⟨j, rfl⟩ : ∃ j', j = j' + 1 := ⟨j - 1, by omega⟩
          obtain rfl : i = (j : Int) := by omega
          have hcell : wr.cell? ⟨gl, j, none⟩ = some (.int .u8 (((leL v k).getD j 0 : Nat) : Int)) := by
            rw [World.cell?_of_block (w := wo) (w' := wr) (hmid.out gl hgl.1 hgl.2)]
            exact hcl.out j (by rw [hlk.out]; omega)
          have hstep := Lib.hid (show (l ++ downTo v k (j + 1)) ++ [(leL v k).getD j 0] = l ++ downTo v k j by rw [List.append_assoc, downTo_step v k j (by omega)])
          have hlen : (l ++ downTo v k (j + 1)).length + 1 ≤ 140737488355328 := by rw [List.length_append]; unfold downTo; rw [List.length_reverse, List.length_drop, leL_length]; omega
          have hjl : j < (leL v k).length := by rw [leL_length]; omega
          have hbw0 := hbel.size
          generalize (leL v k).getD j 0 = X at *
          go_wp2_with (at_builtin; refine wpList_append_bytes rfl (.tmp 40) (.tmp 45) 22 rfl w.heap.size 5 Tryd.underlying22 infoByte u7 (l ++ downTo v k (j + 1)) (by rfl) (hown.out.alloc _) (some ⟨wr.heap.size, 0, none⟩) 1 [X] (by rfl) (by intro h; cases h) (by exact src_one wr _ X) hlen (by simp; omega) ?_; intro O' w4 hown4 hgrow4 hnear4)
          have ho4 := hown4.out
          rw [hstep.out] at ho4
          have Ho4 := Lib.hid ho4
          have hb4 := (hbel.alloc hbw0 (.cells #[.int .u8 (X : Int)] 5)).grown hgrow4.out (by simp; omega) (fun j hj => (hown.out.lt j hj).1)
          have hs4 : wo.heap.size ≤ w4.heap.size := by have := hgrow4.out.size; simp at this; omega
          have hm4 : Hid (∀ q, w1.heap.size ≤ q → q < wo.heap.size → w4.heap[q]? = wo.heap[q]?) := fun q h1 h2 => by
            rw [hgrow4.out.block q (by simp; omega) (fun e => by rcases hnear.out q e.symm with h | h <;> omega), Below.heap_alloc _ _ _ (by omega), hmid.out q h1 h2]
          have hn4 : Hid (∀ q, O'.ownBlock = some q → q < w1.heap.size ∨ wo.heap.size ≤ q) := fun q hq => by
            rcases hnear4.out with h | h
            · exact hnear.out q (by rw [← h]; exact hq)
            · have := h q hq; simp at this; right; omega
          clear ho4 hown4 hgrow4 hnear4 hown hmid hnear
          go_wp2
          go_roundw
          case rel => exact ⟨j, (j : Int) - 1, by omega, rfl, by omega, by omega, Ho4, hb4, hs4, hm4, hn4⟩
          case measure => simp [intOf]
        · obtain rfl : j = 0 := by omega
          have ho := hown.out
          rw [downTo_zero] at ho
          have Ho := Lib.hid ho
          clear ho hown
          go_wp2
          go_ret
          exact ⟨_, rfl, Ho.out, hbel⟩
end Go.Proofs.YtjdkifjbbblioaaDoor
