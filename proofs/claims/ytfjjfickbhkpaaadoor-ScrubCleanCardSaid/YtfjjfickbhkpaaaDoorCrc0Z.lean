/-
  The calls of package crc, in plain numbers.
-/
import Derived.Test.YtfjjfickbhkpaaaDoorProg
import Derived.Test.YtfjjfickbhkpaaaDoorCrcMathZ
import Derived.Test.YtfjjfickbhkpaaaDoorGetZ
import Derived.WalkKit
import Derived.Below
import Derived.Lib.Hide
namespace Go.Proofs.YtfjjfickbhkpaaaDoor
open Go.RowKit

/-- The worths, in their variable. -/
def WorthIn (w : World) : Prop := ∀ j, j < 16 → w.cell? ⟨0, j, none⟩ = some (.int .u32 ((worths.getD j 0 : Nat) : Int))
theorem add_any (x : BitVec 32) (c : Nat) (w : World) (hc : c < 256) (hT : WorthIn w) :
    Calls Tryd.prog 36 #[.int .u32 (x.toNat : Nat), .int .u8 c] w fun e w' => e = .returned (.int .u32 ((byt x c).toNat : Nat)) ∧ w = w' := by
  have hx := xor_byte x c hc
  have Ht := Lib.hid hT
  clear hT
  obtain ⟨y, hy⟩ : ∃ y, y = x ^^^ BitVec.ofNat 32 c := ⟨_, rfl⟩
  have hb : Hid (byt x c = st4 (st4 y)) := by subst hy; rfl
  rw [← hy] at hx
  clear hy
  generalize hX : x.toNat = X at *
  generalize hY : y.toNat = Y at *
  have hYl : Y < 4294967296 := by have := y.isLt; omega
  have Hy := Lib.hid hY
  clear hX hY
  go_enter Tryd.func36, Tryd.ntmps36
  go_wp2
  go_loop [0, 9] (fun s i => ∃ (z : BitVec 32) (k : Nat), k ≤ 2 ∧ i = .int .i64 k ∧ s = .int .u32 (z.toNat : Nat) ∧ (k = 0 → z = y) ∧ (k = 1 → z = st4 y) ∧ (k = 2 → z = st4 (st4 y))) (fun _ i => 2 - (intOf i).toNat)
  case atStart => exact ⟨y, 0, by omega, rfl, by rw [Hy.out], fun _ => rfl, fun h => by omega, fun h => by omega⟩
  case round =>
    obtain ⟨z, k, hk, rfl, rfl, h0, h1, h2⟩ := hrel
    have H := Lib.hid (And.intro h0 (And.intro h1 h2))
    clear h0 h1 h2
    by_cases hlt : k < 2
    · have hw := worth_step z
      have hcell := Ht.out (z.toNat % 16) (by omega)
      generalize worths.getD (z.toNat % 16) 0 = V at *
      have hzl : z.toNat < 4294967296 := by have := z.isLt; omega
      have hand := and15_nat z.toNat hzl
      have hil : z.toNat % 16 < 16 := by omega
      have hdiv : ((z.toNat / 16 : Nat) : Int) = (z.toNat : Int) / 16 := by omega
      rw [hdiv] at hw
      have Hw := Lib.hid hw
      clear hw hdiv
      generalize hI : z.toNat % 16 = I at *
      generalize hZ : z.toNat = Z at *
      have HZ := Lib.hid (And.intro hI hZ)
      clear hI hZ
      go_wp2
      go_round
      case rel => exact ⟨st4 z, k + 1, by omega, by go_num, by rw [← Hw.out], fun h => by omega, fun h => by rw [H.out.1 (by omega)], fun h => by rw [H.out.2.1 (by omega)]⟩
      case measure => simp [intOf]; omega
    · obtain rfl : k = 2 := by omega
      have e := H.out.2.2 rfl
      subst e
      go_wp2
      go_ret
      exact ⟨by rw [hb.out]; rfl, rfl⟩
theorem run_take_succ (x : BitVec 32) (l : List Nat) (k : Nat) (h : k < l.length) : run x (l.take (k + 1)) = byt (run x (l.take k)) (l.getD k 0) := by
  rw [take_snoc l k h, run_snoc]
theorem more_any (s : BitVec 32) (a : Option Addr) (c : Nat) (l : List Nat) (w : World) (hb : B8 l) (hl : l.length ≤ 9223372036854775807) (hsrc : Src w a l) (hT : WorthIn w) :
    Calls Tryd.prog 35 #[.int .u32 (s.toNat : Nat), .slice a l.length c] w fun e w' => e = .returned (.int .u32 ((more s l).toNat : Nat)) ∧ w = w' := by
  have Ht := Lib.hid hT
  have Hs := Lib.hid hsrc
  clear hT hsrc
  have hn := not_bv s
  go_enter Tryd.func35, Tryd.ntmps35
  go_wp2
  go_loop [5, 7, 12] (fun v _ i => ∃ k : Nat, k ≤ l.length ∧ i = .int .i64 k ∧ v = .int .u32 ((run (~~~ s) (l.take k)).toNat : Nat)) (fun _ _ i => l.length - (intOf i).toNat)
  case atStart => exact ⟨0, Nat.zero_le _, rfl, by simp [run]⟩
  case round =>
    obtain ⟨k, hk, rfl, rfl⟩ := hrel
    by_cases hlt : k < l.length
    · obtain ⟨b, o, rfl, hc⟩ := Hs.out (by omega)
      have hcell := hc k hlt
      have hx := hb.get k
      have hstep := Lib.hid (run_take_succ (~~~ s) l k hlt)
      have hadd := add_any (run (~~~ s) (l.take k)) (l.getD k 0) w hx Ht.out
      clear hc
      generalize run (~~~ s) (l.take k) = R at *
      generalize l.getD k 0 = X at *
      go_wp2_with (go_at_call 36; refine hadd.mono ?_; rintro e w' ⟨rfl, rfl⟩)
      go_round
      case rel => exact ⟨k + 1, by omega, by go_num, by rw [hstep.out]⟩
      case measure => simp [intOf]; omega
    · obtain rfl : k = l.length := by omega
      have e : l.take l.length = l := List.take_length
      rw [e]
      clear e
      have hm : bits .xor .u32 IntKind.u32.max (((run (~~~ s) l).toNat : Nat) : Int) = ((more s l).toNat : Nat) := not_bv _
      generalize run (~~~ s) l = R at *
      go_wp2
      go_ret
      exact ⟨rfl, rfl⟩
theorem sum_any (a : Option Addr) (c : Nat) (l : List Nat) (w : World) (hb : B8 l) (hl : l.length ≤ 9223372036854775807) (hsrc : Src w a l) (hT : WorthIn w) :
    Calls Tryd.prog 34 #[.slice a l.length c] w fun e w' => e = .returned (.int .u32 ((more 0#32 l).toNat : Nat)) ∧ w = w' := by
  have hm := more_any 0#32 a c l w hb hl hsrc hT
  generalize (more 0#32 l).toNat = R at *
  go_enter Tryd.func34, Tryd.ntmps34
  go_wp2_with (go_at_call 35; refine hm.mono ?_; rintro e w' ⟨rfl, rfl⟩)
  go_ret
  exact ⟨rfl, rfl⟩
theorem is_short (a : Option Addr) (n c : Nat) (w : World) (h : n < 4) :
    Calls Tryd.prog 31 #[.slice a n c] w fun e w' => e = .returned (.bool false) ∧ w = w' := by
  have h1 : decide ((n : Int) - 4 < 0) = true := by simp; omega
  go_enter Tryd.func31, Tryd.ntmps31
  go_wp2
  go_ret
  exact ⟨rfl, rfl⟩
theorem is_long (b o c : Nat) (m t : List Nat) (w : World) (ht : t.length = 4) (hl : m.length + 4 ≤ c) (hcm : c ≤ 9223372036854775807) (hc : Cs w b o (m ++ t)) (hb : B8 (m ++ t)) (hT : WorthIn w) :
    Calls Tryd.prog 31 #[.slice (some ⟨b, o, none⟩) (m.length + 4 : Nat) c] w fun e w' => e = .returned (.bool (decide (numL t = (more 0#32 m).toNat))) ∧ w = w' := by
  have hcm' : Cs w b o m := fun i hi => by
    have := hc i (by rw [List.length_append]; omega)
    rwa [show (m ++ t).getD i 0 = m.getD i 0 by simp [List.getD, List.getElem?_append_left hi]] at this
  have hct : Cs w b (o + m.length) t := fun i hi => by
    have := hc (m.length + i) (by rw [List.length_append]; omega)
    rwa [show (m ++ t).getD (m.length + i) 0 = t.getD i 0 by simp [List.getD, List.getElem?_append_right], ← Nat.add_assoc] at this
  have hget := get_in b (o + m.length) (c - m.length) t w (by omega) (by omega) hct (fun x hx => hb x (List.mem_append_right _ hx))
  have hsum := sum_any (some ⟨b, o, none⟩) c m w (fun x hx => hb x (List.mem_append_left _ hx)) (by omega) (fun _ => ⟨b, o, rfl, hcm'⟩) hT
  rw [ht] at hget
  have hN : numL t < 18446744073709551616 := by
    have := numL_lt (l := t) (fun x hx => hb x (List.mem_append_right _ hx))
    rw [ht] at this; omega
  have hM : (more 0#32 m).toNat < 4294967296 := by have := (more 0#32 m).isLt; omega
  have hbeq := Lib.hid (show ((numL t : Int) == ((more 0#32 m).toNat : Int)) = decide (numL t = (more 0#32 m).toNat) by rw [Bool.eq_iff_iff, beq_iff_eq, decide_eq_true_iff]; omega)
  have h1 : decide ((m.length : Int) + 4 - 4 < 0) = false := by simp
  generalize (more 0#32 m).toNat = M at *
  generalize numL t = N at *
  have H := Lib.hid (And.intro hget hsum)
  clear hget hsum hcm' hct hc hb
  go_enter Tryd.func31, Tryd.ntmps31
  go_wp2_with fail
  refine H.out.1.mono ?_; rintro e w' ⟨rfl, rfl⟩
  go_wp2_with fail
  refine H.out.2.mono ?_; rintro e w' ⟨rfl, rfl⟩
  go_wp2_with fail
  go_ret
  exact ⟨by rw [← hbeq.out]; rfl, rfl⟩
theorem WorthIn.below {w w' : World} (h : WorthIn w) (hb : Below w.heap.size w w') : WorthIn w' := fun j hj => by
  have hc := h j hj
  have hlt : 0 < w.heap.size := by
    rcases Nat.lt_or_ge 0 w.heap.size with h1 | h1
    · exact h1
    · simp [World.cell?, Array.getElem?_eq_none h1] at hc
  rw [hb.cell (p := ⟨0, j, none⟩) hlt]; exact hc
end Go.Proofs.YtfjjfickbhkpaaaDoor
