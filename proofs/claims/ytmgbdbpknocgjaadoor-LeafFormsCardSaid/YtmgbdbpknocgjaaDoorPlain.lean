/-
  leaf's plain: bytes, one by one.
-/
import Derived.Test.YtmgbdbpknocgjaaDoorRdB
namespace Go.Proofs.YtmgbdbpknocgjaaDoor
open Go Go.RowKit

def plainRow (S : RS) (n k : Nat) : List Nat := (plainS S k).1 ++ List.replicate (n - k) 0
theorem plainRow_len (S : RS) (n k : Nat) (h : k ≤ n) : (plainRow S n k).length = n := by
  unfold plainRow; rw [List.length_append, plainS_len, List.length_replicate]; omega
theorem plainRow_set (S : RS) (n k : Nat) (h : k < n) : (plainRow S n k).set k (byteS (plainS S k).2).1 = plainRow S n (k + 1) := by
  unfold plainRow
  have e : n - k = (n - (k + 1)) + 1 := by omega
  rw [List.set_append_right _ _ (by rw [plainS_len]; exact Nat.le_refl _), plainS_len, Nat.sub_self, e, List.replicate_succ, List.set_cons_zero, plainS, List.append_assoc]
  rfl
theorem plainRow_end (S : RS) (n : Nat) : plainRow S n n = (plainS S n).1 := by unfold plainRow; simp
theorem Row.turn {w w' : World} {g E : Nat} {l : List Nat} {F : Nat → Prop} (h : Row w g E l) (t : Turn F w w') (hg : ¬ F g) : Row w' g E l := t.hg h hg
set_option maxRecDepth 100000 in
theorem plain_any (w : World) (b B : Nat) (S : RS) (h : Rb w b B S) (hB : B ≤ w.heap.size) (n : Nat) (hn : n ≤ 65536) :
    Calls Tryd.prog 52 #[.pointer (some ⟨b, 0, none⟩), .int .i64 n] w fun e w' => ∃ v, e = .returned v ∧ Sl w' v (plainS S n).1 ∧ Rb w' b B (plainS S n).2 ∧ Turn (fun i => i = b) w w' := by
  have hblt := h.lt
  have Hrb := Lib.hid h
  clear h
  go_enter Tryd.func52, Tryd.ntmps52
  go_wp2_with (at_make; refine wpList_make_bytes rfl _ _ 23 rfl 5 Tryd.underlying23 infoB _ _ _ _ n rfl rfl (by omega) (by omega) (by omega) ?_; intro w1 hr1 hb1)
  have Hr1 : Hid (Row w1 w.heap.size 5 (plainRow S n 0)) := hr1
  have Hb1 := Lib.hid hb1
  have Hrb1 := Lib.hid (Hrb.out.below hb1)
  clear hr1 hb1 Hrb
  go_loopw [11] (fun i wr => ∃ k : Nat, k ≤ n ∧ i = .int .i64 k ∧ Hid (Row wr w.heap.size 5 (plainRow S n k)) ∧ Hid (Rb wr b B (plainS S k).2) ∧ Hid (Turn (fun i => i = b) w wr)) (fun i _ => n - (intOf i).toNat)
  case atStart => exact ⟨0, Nat.zero_le _, rfl, Hr1, Hrb1, Turn.ofBelow Hb1.out⟩
  case round =>
    obtain ⟨k, hk, rfl, hrow, hrb, ht⟩ := hrel
    by_cases hlt : k < n
    · have hset := Lib.hid (plainRow_set S n k hlt)
      have hpl := Lib.hid (plainRow_len S n k hk)
      have hS : Hid ((plainS S (k + 1)).2 = (byteS (plainS S k).2).2) := rfl
      have hby := Lib.hid (rbyteB_any wr b B (plainS S k).2 hrb.out)
      generalize (byteS (plainS S k).2).1 = X at *
      clear hrb
      go_wp2_with fail
      refine hby.out.mono ?_
      rintro e w2 ⟨rfl, hrb2, ht2⟩
      have hrow2 : Row w2 w.heap.size 5 (plainRow S n k) := hrow.out.turn ht2 (by show ¬ w.heap.size = b; omega)
      have hc := hrow2.cell k (by rw [hpl.out]; exact hlt)
      have hf := hrow2.frozen k
      have hrow3 := hrow2.set k X
      rw [hset.out] at hrow3
      have Hrow3 := Lib.hid hrow3
      have Hrb3 : Hid (Rb (w2.setCell ⟨w.heap.size, k, none⟩ (.int .u8 (X : Int))) b B (plainS S (k + 1)).2) := by
        show Rb _ _ _ _
        rw [hS.out]; exact hrb2.over (turn_set1 w2 w.heap.size k _) hB (by omega)
      have Ht3 : Hid (Turn (fun i => i = b) w (w2.setCell ⟨w.heap.size, k, none⟩ (.int .u8 (X : Int)))) :=
        Turn.setCell (p := ⟨w.heap.size, k, none⟩) (ht.out.trans ht2) _ (fun hl => by exact absurd hl (Nat.lt_irrefl _))
      generalize (plainRow S n k).getD k 0 = Y at *
      clear hrow hrow2 hrow3 hrb2 ht2 ht hby hset
      go_wp2
      go_roundw
      case rel => exact ⟨k + 1, by omega, by go_num, Hrow3, Hrb3, Ht3⟩
      case measure => simp [intOf]; omega
    · obtain rfl : k = n := by omega
      have hrow2 := hrow.out
      have hpl := plainRow_len S k k hk
      rw [plainRow_end] at hrow2 hpl
      have hsl := Sl.row hrow2 (by rw [hpl]; unfold maxLen; omega)
      rw [hpl] at hsl
      have Hsl := Lib.hid hsl
      have Hrd := Lib.hid hrb.out
      clear hrow hrow2 hpl hsl hrb
      go_wp2
      go_ret
      exact ⟨_, rfl, Hsl.out, Hrd.out, ht.out⟩
end Go.Proofs.YtmgbdbpknocgjaaDoor
