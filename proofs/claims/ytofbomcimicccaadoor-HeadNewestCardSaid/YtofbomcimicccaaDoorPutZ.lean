/-
  ints.Put, and the document's: a number's lowest bytes behind bytes.
-/
import Derived.Test.YtofbomcimicccaaDoorByteInfo
import Derived.Test.YtofbomcimicccaaDoorProg
import Derived.Test.YtofbomcimicccaaDoorMemZ
import Derived.WalkKit
import Derived.OwnWalk
import Derived.Laws.CopyOwn
import Derived.Below
import Derived.Lib.Hide
import Derived.Outline
namespace Go.Proofs.YtofbomcimicccaaDoor
open Go.RowKit

theorem put_in (a : Option Addr) (c : Nat) (l : List Nat) (v s : Nat) (w : World) (hl : l.length ≤ 65536) (hs1 : 1 ≤ s) (hs : s ≤ 64) (hv : v < 18446744073709551616) (hsrc : Src w a l) :
    Calls Tryd.prog 34 #[.slice a l.length c, .int .u64 v, .int .i64 s] w fun e w' => e = .returned (.slice (some ⟨w.heap.size, 0, none⟩) (l.length + s : Nat) (l.length + s : Nat)) ∧ Row w' w.heap.size 5 (l ++ beL v s) ∧ Below w.heap.size w w' := by
  have Hsrc := Lib.hid hsrc
  clear hsrc
  have d1 : decide ((s : Int) < 1) = false := by simp; omega
  have d2 : decide (64 < (s : Int)) = false := by simp; omega
  go_enter Tryd.func34, Tryd.ntmps34
  go_wp2_with (first | (at_make; refine wpList_make_bytes rfl _ _ 25 rfl 5 Tryd.underlying25 infoByte _ _ _ _ (l.length + s) rfl rfl (by omega) (by omega) (by omega) ?_; intro w1 hr1 hb1; have hs1' := Lib.hid (Hsrc.out.below hb1 (Nat.le_refl _))) | (show wpList _ _ _ (⟨some 22, _, _, _, _, _⟩ :: _) _ _; refine wpList_copy_bytes rfl (.tmp 20) (.tmp 21) 25 25 rfl 5 Tryd.underlying25 sizeByte w.heap.size 0 (l.length + s) (l.length + s) a c (List.replicate (l.length + s) 0) l (by rfl) (by rfl) hr1 hs1'.out (by simp) (by omega) w.heap.size w hb1 (Nat.le_refl _) ?_; intro w2 hr2 hb2; clear hr1 hs1' hb1))
  have Hr2 : Hid (Row w2 w.heap.size 5 (putRow l v s 0)) := by
    have := hr2.out
    rw [splice_start] at this
    have e : l ++ List.drop l.length (List.replicate (l.length + s) 0) = putRow l v s 0 := by
      unfold putRow; rw [List.drop_replicate, Nat.add_sub_cancel_left]; simp [beL]
    rw [e] at this
    exact this
  clear hr2
  go_loopw [1, 8] (fun V I wr => ∃ (k : Nat) (i : Int), k ≤ s ∧ I = .int .i64 i ∧ i + k + 1 ≤ l.length + s ∧ (l.length : Int) + s ≤ i + k + 1 ∧ V = .int .u64 (v / 256 ^ k : Nat) ∧ Hid (Row wr w.heap.size 5 (putRow l v s k)) ∧ Below w.heap.size w wr) (fun _ I _ => (intOf I + 1).toNat)
  case atStart => exact ⟨0, (l.length : Int) + s - 1, Nat.zero_le _, rfl, by omega, by omega, by rw [Nat.pow_zero, Nat.div_one], Hr2, hb2⟩
  case round =>
    obtain ⟨k, i, hk, rfl, hi1, hi2, rfl, hrow, hbel⟩ := hrel
    by_cases hlt : k < s
    · obtain ⟨j, rfl⟩ := Int.eq_ofNat_of_zero_le (show 0 ≤ i by omega)
      have hj : j + k + 1 = l.length + s := by omega
      have hcell := hrow.out.cell j (by rw [putRow_length _ _ _ _ hk]; omega)
      have hfr := hrow.out.frozen j
      have hset := Lib.hid ((hrow.out.set j (v / 256 ^ k % 256)))
      rw [putRow_set l v s k j hlt hj] at hset
      have hV : v / 256 ^ k < 18446744073709551616 := Nat.lt_of_le_of_lt (Nat.div_le_self _ _) hv
      have hnext := Lib.hid (show v / 256 ^ (k + 1) = v / 256 ^ k / 256 by rw [Nat.pow_succ, Nat.div_div_eq_div_mul])
      have Hj := Lib.hid hj
      clear hj hrow
      generalize v / 256 ^ k = V at *
      generalize (putRow l v s k).getD j 0 = X at *
      go_wp2
      go_roundw
      case rel => exact ⟨k + 1, (j : Int) - 1, by omega, rfl, by omega, by omega, by rw [hnext.out]; rfl, hset, hbel.setCell (Nat.le_refl _) _⟩
      case measure => simp [intOf]
    · obtain rfl : k = s := by omega
      have hlast := hrow.out
      have e : putRow l v k k = l ++ beL v k := by unfold putRow; simp
      rw [e] at hlast
      have Hlast := Lib.hid hlast
      clear hlast hrow e
      generalize v / 256 ^ k = V at *
      go_wp2
      go_ret
      exact ⟨rfl, Hlast.out, hbel⟩
theorem put_out (a : Option Addr) (c : Nat) (l : List Nat) (v : Nat) (s : Int) (w : World) (hl : l.length ≤ 65536) (hs : s < 1 ∨ 64 < s) (hsrc : Src w a l) :
    Calls Tryd.prog 34 #[.slice a l.length c, .int .u64 v, .int .i64 s] w fun e w' => e = .returned (.slice (some ⟨w.heap.size, 0, none⟩) l.length l.length) ∧ Row w' w.heap.size 5 l ∧ Below w.heap.size w w' := by
  have Hsrc := Lib.hid hsrc
  clear hsrc
  have hs2 : (decide (s < 1) = true) ∨ (decide (s < 1) = false ∧ decide (64 < s) = true) := by simp; omega
  clear hs
  have fin : ∀ w2 : World, Hid (Row w2 w.heap.size 5 (splice (List.replicate l.length 0) 0 l)) → Row w2 w.heap.size 5 l := by
    intro w2 h
    have := h.out
    rw [splice_start, List.drop_replicate, Nat.sub_self] at this
    simpa using this
  have Hfin := Lib.hid fin
  clear fin
  rcases hs2 with d1 | ⟨d1, d2⟩
  all_goals
    go_enter Tryd.func34, Tryd.ntmps34
    go_wp2_with (first | (at_make; refine wpList_make_bytes rfl _ _ 25 rfl 5 Tryd.underlying25 infoByte _ _ _ _ l.length rfl rfl (by omega) (by omega) (by omega) ?_; intro w1 hr1 hb1; have hs1' := Lib.hid (Hsrc.out.below hb1 (Nat.le_refl _))) | (show wpList _ _ _ (⟨some 22, _, _, _, _, _⟩ :: _) _ _; refine wpList_copy_bytes rfl (.tmp 20) (.tmp 21) 25 25 rfl 5 Tryd.underlying25 sizeByte w.heap.size 0 l.length l.length a c (List.replicate l.length 0) l (by rfl) (by rfl) hr1 hs1'.out (by simp) (by omega) w.heap.size w hb1 (Nat.le_refl _) ?_; intro w2 hr2 hb2; clear hr1 hs1' hb1))
    go_loopw [1, 8] (fun _ I wr => I = .int .i64 ((l.length : Int) - 1) ∧ Hid (Row wr w.heap.size 5 (splice (List.replicate l.length 0) 0 l)) ∧ Below w.heap.size w wr) (fun _ _ _ => 0)
    case atStart => exact ⟨rfl, hr2, hb2⟩
    case round =>
      obtain ⟨rfl, hrow, hbel⟩ := hrel
      go_wp2
      go_ret
      exact ⟨rfl, Hfin.out _ hrow, hbel⟩
end Go.Proofs.YtofbomcimicccaaDoor
