/-
  A reader's Num.
-/
import Derived.Test.YtofbomcimicccaaDoorRd2Z
namespace Go.Proofs.YtofbomcimicccaaDoor
open Go Go.RowKit

theorem rnum_nil (w : World) (m : Int) : Calls Tryd.prog 24 #[.pointer none, .int .u64 m] w fun e w' => e = .returned (.int .u64 0) ∧ w = w' := by
  go_enter Tryd.func24, Tryd.ntmps24
  go_wp2
  go_ret
  exact ⟨rfl, rfl⟩
set_option maxRecDepth 100000 in
theorem rnum_any (w : World) (b : Nat) (S : RS) (h : Rd w b S) (m : Nat) :
    Calls Tryd.prog 24 #[.pointer (some ⟨b, 0, none⟩), .int .u64 m] w fun e w' => e = .returned (.int .u64 ((numS S m).1 : Nat)) ∧ Rd w' b (numS S m).2 ∧ Turn (fun i => i = b) w w' := by
  obtain ⟨v, h1, h2⟩ := h.ex
  have c0 := h1.c0
  obtain ⟨a, c, rfl, hsrc, _⟩ := h2.arg
  have hget := get_any a c S.l w h.b8 (by have := h.len; omega) hsrc
  have H := Lib.hid h
  have Hget := Lib.hid hget
  have hlt := gt_val_lt S.l
  have hgl := gt_len S.l
  have hS : S.l.length ≤ 65536 := h.len
  have hnd : ∀ k, takeS S k = if k ≤ S.l.length then (S.l.take k, ⟨S.l.drop k, S.wr⟩) else ([], ⟨[], true⟩) := fun _ => rfl
  have hwr : (gt S.l).2.2 = 0 → S.wr = false := fun he => by
    cases hw : S.wr with
    | false => rfl
    | true => have := h.inv hw; rw [this, gt_nil] at he; cases he
  by_cases he : (gt S.l).2.2 = 0
  · by_cases hm : (gt S.l).1 ≤ m
    · have hn := numS_hit he hm
      have hg : gotV S.l = .tuple #[.int .u64 ((gt S.l).1 : Nat), .int .i64 ((gt S.l).2.1 : Nat), .nilIface] := by unfold gotV; rw [he]; rfl
      have htk : takeS S (gt S.l).2.1 = (S.l.take (gt S.l).2.1, ⟨S.l.drop (gt S.l).2.1, false⟩) := by rw [hnd, if_pos (hgl he).2.1, hwr he]
      rw [hn]
      have ht := take_any w b S h (gt S.l).2.1 (by have := (hgl he).2.1; omega)
      rw [htk] at ht
      rw [hg] at Hget
      have Ht := Lib.hid ht
      clear h h1 h2 hget hnd hwr hn hg htk ht hsrc hgl he H
      generalize (gt S.l).1 = V at *
      generalize (gt S.l).2.1 = N at *
      have d1 : decide ((m : Int) < (V : Int)) = false := by simp; omega
      generalize S.l.length = n at *
      go_enter Tryd.func24, Tryd.ntmps24
      go_wp2_with fail
      refine Hget.out.mono ?_
      rintro e w' ⟨rfl, rfl⟩
      go_wp2_with fail
      refine Ht.out.mono ?_
      rintro e w' ⟨v, rfl, _, hr, htn⟩
      go_wp2
      go_ret
      exact ⟨rfl, hr, htn⟩
    · have hn := numS_miss (S := S) (most := m) (fun hx => hm hx.2)
      have hg : gotV S.l = .tuple #[.int .u64 ((gt S.l).1 : Nat), .int .i64 ((gt S.l).2.1 : Nat), .nilIface] := by unfold gotV; rw [he]; rfl
      rw [hn]
      have ht := spoil_any w b S h
      rw [hg] at Hget
      have Ht := Lib.hid ht
      clear h h1 h2 hget hnd hwr hn hg ht hsrc hgl he H
      generalize (gt S.l).1 = V at *
      generalize (gt S.l).2.1 = N at *
      have d1 : decide ((m : Int) < (V : Int)) = true := by simp; omega
      generalize S.l.length = n at *
      go_enter Tryd.func24, Tryd.ntmps24
      go_wp2_with fail
      refine Hget.out.mono ?_
      rintro e w' ⟨rfl, rfl⟩
      go_wp2_with fail
      refine Ht.out.mono ?_
      rintro e w' ⟨rfl, hr, htn⟩
      go_wp2
      go_ret
      exact ⟨rfl, hr, htn⟩
  · have hn := numS_miss (S := S) (most := m) (fun hx => he hx.1)
    have hg : gotV S.l = .tuple #[.int .u64 ((gt S.l).1 : Nat), .int .i64 ((gt S.l).2.1 : Nat), .iface 59 (.int .i64 (gt S.l).2.2)] := by unfold gotV errV; rw [if_neg he]
    rw [hn]
    have ht := spoil_any w b S h
    rw [hg] at Hget
    have Ht := Lib.hid ht
    clear h h1 h2 hget hnd hwr hn hg ht hsrc hgl he H
    generalize (gt S.l).1 = V at *
    generalize (gt S.l).2.1 = N at *
    generalize (gt S.l).2.2 = F at *
    generalize S.l.length = n at *
    go_enter Tryd.func24, Tryd.ntmps24
    go_wp2_with fail
    refine Hget.out.mono ?_
    rintro e w' ⟨rfl, rfl⟩
    go_wp2_with fail
    refine Ht.out.mono ?_
    rintro e w' ⟨rfl, hr, htn⟩
    go_wp2
    go_ret
    exact ⟨rfl, hr, htn⟩
end Go.Proofs.YtofbomcimicccaaDoor
