/-
  sheet.isKind, Blank.
-/
import Derived.Test.YtfjjfickbhkpaaaDoorProg
import Derived.Test.YtfjjfickbhkpaaaDoorSheetMathZ
import Derived.Test.YtfjjfickbhkpaaaDoorByZ
import Derived.WalkKit
import Derived.Below
import Derived.Lib.Hide
import Derived.Shelf.GgClosure.Gives
namespace Go.Proofs.YtfjjfickbhkpaaaDoor
open Go.RowKit Go.Shelf

theorem isKind_any (k : Nat) (w : World) (hk : k < 256) : Calls Tryd.prog 33 #[.int .u8 k] w fun e w' => e = .returned (.bool (decide (1 ≤ k ∧ k ≤ 5))) ∧ w = w' := by
  by_cases h1 : 1 ≤ k
  · have d1 : decide (1 ≤ (k : Int)) = true := by simp; omega
    have d2 : decide ((k : Int) ≤ 5) = decide (1 ≤ k ∧ k ≤ 5) := by rw [Bool.eq_iff_iff]; simp; omega
    generalize decide (1 ≤ k ∧ k ≤ 5) = D at *
    go_enter Tryd.func33, Tryd.ntmps33
    go_wp2
    go_ret
    exact ⟨rfl, rfl⟩
  · have d1 : decide (1 ≤ (k : Int)) = false := by simp; omega
    have d2 : decide (1 ≤ k ∧ k ≤ 5) = false := by simp; omega
    rw [d2]
    go_enter Tryd.func33, Tryd.ntmps33
    go_wp2
    go_ret
    exact ⟨rfl, rfl⟩
theorem not_zero (c : Nat) (w : World) : Calls Tryd.prog 27 #[.int .u8 c] w fun e w' => e = .returned (.bool (!(c == 0))) ∧ w = w' := by
  have d1 : ((c : Int) != 0) = (!(c == 0)) := by rw [Bool.eq_iff_iff]; simp
  generalize (!(c == 0)) = D at *
  go_enter Tryd.func27, Tryd.ntmps27
  go_wp2
  go_ret
  exact ⟨rfl, rfl⟩
/-- The place of the first that is not nought; -1: there is none. -/
def firstN : List Nat → Nat → Int
  | [], _ => -1
  | x :: r, i => if x = 0 then firstN r (i + 1) else i
theorem firstN_neg (l : List Nat) (i : Nat) : decide (0 ≤ firstN l i) = !allZero l := by
  induction l generalizing i with
  | nil => rfl
  | cons x r ih =>
    unfold firstN
    by_cases h : x = 0
    · subst h
      rw [if_pos rfl, ih]; simp [allZero]
    · rw [if_neg h]; simp [allZero, h]
theorem firstN_drop (l : List Nat) (k : Nat) (h : k < l.length) (m : Nat) : firstN (l.drop k) m = if l.getD k 0 = 0 then firstN (l.drop (k + 1)) (m + 1) else m := by
  have e : l.drop k = l.getD k 0 :: l.drop (k + 1) := by
    rw [List.drop_eq_getElem_cons h]; simp [List.getD, h]
  rw [e]; rfl
theorem index_any (a : Option Addr) (c : Nat) (l : List Nat) (w : World) (hl : l.length ≤ 9223372036854775807) (hs : Src w a l) :
    Calls Tryd.prog 30 #[.slice a l.length c, .func (.func 27) #[] #[]] w fun e w' => e = .returned (.int .i64 (firstN l 0)) ∧ w = w' := by
  have Hs := Lib.hid hs
  clear hs
  have eg : ∀ args w, (callFunc 27 args).run Tryd.prog w = .ok (.enter 27 args) w := enters_of Tryd.func27 (by kernel_rfl) rfl
  have hd := Lib.hid (fun k h => firstN_drop l k h k)
  generalize hR : firstN l 0 = R
  have HR := Lib.hid hR
  clear hR
  go_enter Tryd.func30, Tryd.ntmps30
  go_wp2
  go_loop [5, 8] (fun _ i => ∃ k : Nat, k ≤ l.length ∧ i = .int .i64 k ∧ Hid (firstN (l.drop k) k = R)) (fun _ i => l.length - (intOf i).toNat)
  case atStart => exact ⟨0, Nat.zero_le _, rfl, HR.out⟩
  case round =>
    obtain ⟨k, hk, rfl, hrest⟩ := hrel
    by_cases hlt : k < l.length
    · obtain ⟨b, o, rfl, hc⟩ := Hs.out (by omega)
      have hcell := hc k hlt
      have hdk := hd.out k hlt
      have hcall := not_zero (l.getD k 0) w
      clear hc
      generalize l.getD k 0 = X at *
      rw [hdk] at hrest
      clear hdk
      by_cases hX : X = 0
      · subst hX
        rw [show (!(0 == 0)) = false from rfl] at hcall
        have Hr : Hid (firstN (List.drop (k + 1) l) (k + 1) = R) := by
          have := hrest.out; rwa [if_pos rfl] at this
        clear hrest
        go_wp2_with (go_at_fn 27; refine hcall.mono ?_; rintro e w' ⟨rfl, rfl⟩)
        go_round
        case rel => exact ⟨k + 1, by omega, by go_num, Hr⟩
        case measure => simp [intOf]; omega
      · have : (!(X == 0)) = true := by simp [hX]
        rw [this] at hcall
        clear this
        have Hr : Hid ((k : Int) = R) := by
          have := hrest.out; rwa [if_neg hX] at this
        clear hrest
        go_wp2_with (go_at_fn 27; refine hcall.mono ?_; rintro e w' ⟨rfl, rfl⟩)
        go_ret
        exact ⟨by rw [← Hr.out]; rfl, rfl⟩
    · obtain rfl : k = l.length := by omega
      have Hr : Hid (-1 = R) := by
        have := hrest.out; rwa [List.drop_length] at this
      clear hrest
      go_wp2
      go_ret
      exact ⟨by rw [← Hr.out]; rfl, rfl⟩
theorem contains_any (a : Option Addr) (c : Nat) (l : List Nat) (w : World) (hl : l.length ≤ 9223372036854775807) (hs : Src w a l) :
    Calls Tryd.prog 26 #[.slice a l.length c, .func (.func 27) #[] #[]] w fun e w' => e = .returned (.bool (!allZero l)) ∧ w = w' := by
  have hI := index_any a c l w hl hs
  have hd := firstN_neg l 0
  generalize firstN l 0 = R at *
  generalize (!allZero l) = D at *
  go_enter Tryd.func26, Tryd.ntmps26
  go_wp2_with (go_at_call 30; refine hI.mono ?_; rintro e w' ⟨rfl, rfl⟩)
  go_ret
  exact ⟨rfl, rfl⟩
theorem blank_any (a : Option Addr) (n c : Nat) (l : List Nat) (hn : l.length = n) (w : World) (hl : n ≤ 9223372036854775807) (hs : Src w a l) :
    Calls Tryd.prog 15 #[.slice a n c] w fun e w' => e = .returned (.bool (allZero l)) ∧ w = w' := by
  subst hn
  have hI := contains_any a c l w hl hs
  have hnn : (!(!allZero l)) = allZero l := by cases allZero l <;> rfl
  generalize hD : (!allZero l) = D at *
  rw [← hnn]
  clear hD hnn
  go_enter Tryd.func15, Tryd.ntmps15
  go_wp2_with (go_at_call 26; refine hI.mono ?_; rintro e w' ⟨rfl, rfl⟩)
  go_ret
  exact ⟨rfl, rfl⟩
end Go.Proofs.YtfjjfickbhkpaaaDoor
