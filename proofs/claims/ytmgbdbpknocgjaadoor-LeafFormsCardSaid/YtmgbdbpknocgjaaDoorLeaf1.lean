/-
  leaf's isInline, placed, Check; the document's May.
-/
import Derived.Test.YtmgbdbpknocgjaaDoorKeysChk
import Derived.Test.YtmgbdbpknocgjaaDoorLeafMath
import Derived.WalkKit
import Derived.Below
import Derived.Lib.Hide
namespace Go.Proofs.YtmgbdbpknocgjaaDoor
open Go Go.RowKit

abbrev CT : TypeId := 45
abbrev RCT : TypeId := 26
def ccs (c : Ce) : Array Value := #[.string c.k, .string c.v, .int .i64 c.n, .int .i64 c.p]
def Ce.val (c : Ce) : Value := .agg #[.string c.k, .string c.v, .int .i64 c.n, .int .i64 c.p]
theorem isIn_any (n : Int) (w : World) : Calls Tryd.prog 36 #[.int .i64 n] w fun e w' => e = .returned (.bool (decide (n ≤ 64))) ∧ w = w' := by
  generalize hD : decide (n ≤ 64) = D
  go_enter Tryd.func36, Tryd.ntmps36
  go_wp2
  go_ret
  exact ⟨rfl, rfl⟩
theorem plB_in (k v : ByteArray) (n p : Int) (h : n ≤ 64) : plB ⟨k, v, n, p⟩ = (((v.size : Int) == n) && (p == 0)) := by
  unfold plB; simp only; rw [if_pos h, Bool.eq_iff_iff]; simp
theorem plB_out (k v : ByteArray) (n p : Int) (h : ¬ n ≤ 64) : plB ⟨k, v, n, p⟩ = (v.toList.isEmpty && (decide (2 ≤ p) && decide (p < 1024))) := by
  have e : v.toList.isEmpty = decide (v.size = 0) := by
    rw [Bool.eq_iff_iff, List.isEmpty_iff, decide_eq_true_iff, Lib.toList_data]
    constructor
    · intro h; have := congrArg List.length h; simpa using this
    · intro h; exact List.eq_nil_of_length_eq_zero (by simpa using h)
  unfold plB; simp only; rw [if_neg h, e, Bool.eq_iff_iff]; simp; omega
theorem placed_any (k v : ByteArray) (n p : Int) (w : World) : Calls Tryd.prog 41 #[.agg #[.string k, .string v, .int .i64 n, .int .i64 p]] w fun e w' => e = .returned (.bool (plB ⟨k, v, n, p⟩)) ∧ Below w.heap.size w w' := by
  have hb : Hid (Below w.heap.size w (w.alloc (.cells #[.string k, .string v, .int .i64 n, .int .i64 p] CT))) := (Below.refl _ _).alloc (Nat.le_refl _) _
  have hi := fun w => isIn_any n w
  by_cases h1 : n ≤ 64
  · have hp := Lib.hid (plB_in k v n p h1)
    have d1 : decide (n ≤ 64) = true := by simpa using h1
    rw [d1] at hi
    obtain ⟨D, hD⟩ : ∃ D, ((v.size : Int) == n) = D := ⟨_, rfl⟩
    rw [hD] at hp
    obtain ⟨E, hE⟩ : ∃ E, (p == 0) = E := ⟨_, rfl⟩
    rw [hE] at hp
    clear d1 h1
    go_enter Tryd.func41, Tryd.ntmps41
    go_wp2_with fail
    refine (hi _).mono ?_
    rintro e w' ⟨rfl, rfl⟩
    cases D
    all_goals
      go_wp2
      go_ret
      exact ⟨by rw [hp.out]; rfl, hb.out⟩
  · have hp := Lib.hid (plB_out k v n p h1)
    have d1 : decide (n ≤ 64) = false := by simpa using h1
    rw [d1] at hi
    obtain ⟨E, hE⟩ : ∃ E, decide (2 ≤ p) = E := ⟨_, rfl⟩
    rw [hE] at hp
    obtain ⟨F, hF⟩ : ∃ F, decide (p < 1024) = F := ⟨_, rfl⟩
    rw [hF] at hp
    clear d1 h1
    by_cases hv : v.toList = []
    · have hp2 : Hid (plB ⟨k, v, n, p⟩ = (E && F)) := by show _ = _; rw [hp.out, hv]; rfl
      clear hp
      go_enter Tryd.func41, Tryd.ntmps41
      go_wp2_with fail
      refine (hi _).mono ?_
      rintro e w' ⟨rfl, rfl⟩
      cases E
      all_goals
        go_wp2
        go_ret
        exact ⟨by rw [hp2.out]; rfl, hb.out⟩
    · have hp2 : Hid (plB ⟨k, v, n, p⟩ = false) := by
        show _ = _
        rw [hp.out, show v.toList.isEmpty = false from by simpa using hv]; rfl
      have hv2 : v.toList.isEmpty = false := by simpa using hv
      clear hp
      go_enter Tryd.func41, Tryd.ntmps41
      go_wp2_with fail
      refine (hi _).mono ?_
      rintro e w' ⟨rfl, rfl⟩
      go_wp2
      go_ret
      exact ⟨by rw [hp2.out]; rfl, hb.out⟩
/-- Check's answer. -/
def chkC (b : Bool) : Value := if b = true then .nilIface else .iface 51 (.int .i64 1)
theorem leafCheck_any (k v : ByteArray) (n p : Int) (w : World) : Calls Tryd.prog 17 #[.agg #[.string k, .string v, .int .i64 n, .int .i64 p]] w fun e w' => e = .returned (chkC (mayB ⟨k, v, n, p⟩)) ∧ Below w.heap.size w w' := by
  have hb0 : Below w.heap.size w (w.alloc (.cells #[.string k, .string v, .int .i64 n, .int .i64 p] CT)) := (Below.refl _ _).alloc (Nat.le_refl _) _
  have hb := Lib.hid hb0
  have hm : Hid (mayB ⟨k, v, n, p⟩ = (okK k && (decide (n ≤ 2048) && plB ⟨k, v, n, p⟩))) := rfl
  have hk := fun w => check_any k w
  have hp := Lib.hid (placed_any k v n p (w.alloc (.cells #[.string k, .string v, .int .i64 n, .int .i64 p] CT)))
  clear hb0
  unfold chkV at hk
  generalize plB ⟨k, v, n, p⟩ = P at *
  generalize mayB ⟨k, v, n, p⟩ = M at *
  obtain ⟨K, hK⟩ : ∃ K, okK k = K := ⟨_, rfl⟩
  rw [hK] at hk hm
  clear hK
  cases K with
  | false =>
    simp only [Bool.false_eq_true, if_false] at hk
    have hM : Hid (M = false) := by show _ = _; rw [hm.out]; rfl
    clear hm
    go_enter Tryd.func17, Tryd.ntmps17
    go_wp2_with fail
    refine (hk _).mono ?_
    rintro e w' ⟨rfl, rfl⟩
    go_wp2
    go_ret
    exact ⟨by rw [hM.out]; rfl, hb.out⟩
  | true =>
    simp only [if_true] at hk
    by_cases h1 : 2048 < n
    · have hM : Hid (M = false) := by show _ = _; rw [hm.out, show decide (n ≤ 2048) = false by simp; omega]; rfl
      have d1 : decide (2048 < n) = true := by simpa using h1
      clear hm h1
      go_enter Tryd.func17, Tryd.ntmps17
      go_wp2_with fail
      refine (hk _).mono ?_
      rintro e w' ⟨rfl, rfl⟩
      go_wp2
      go_ret
      exact ⟨by rw [hM.out]; rfl, hb.out⟩
    · have hM : Hid (M = P) := by show _ = _; rw [hm.out, show decide (n ≤ 2048) = true by simp; omega]; simp
      have d1 : decide (2048 < n) = false := by simpa using h1
      clear hm h1
      go_enter Tryd.func17, Tryd.ntmps17
      go_wp2_with fail
      refine (hk _).mono ?_
      rintro e w' ⟨rfl, rfl⟩
      go_wp2_with fail
      refine hp.out.mono ?_
      rintro e w' ⟨rfl, hb2⟩
      have Hb2 := Lib.hid (hb.out.trans (hb2.mono hb.out.size))
      clear hb2 hp hb
      cases P
      all_goals
        go_wp2
        go_ret
        exact ⟨by rw [hM.out]; rfl, Hb2.out⟩
theorem may_eq (k v : ByteArray) (n p : Int) : mayB ⟨k, v, n, p⟩ = (!decide ((k.size : Int) < 1) && (!decide (40 < (k.size : Int)) && (!decide (n < 0) && (!decide (2048 < n) && plB ⟨k, v, n, p⟩)))) := by
  by_cases h0 : n < 0
  · have : plB ⟨k, v, n, p⟩ = false := by rw [plB_in k v n p (by omega)]; simp; omega
    unfold mayB
    rw [this]; simp
  · unfold mayB okK
    rw [show decide (n < 0) = false by simpa using h0, Bool.eq_iff_iff]
    simp
    constructor
    · rintro ⟨⟨h1, h2⟩, h3, h4⟩; exact ⟨by omega, by omega, by omega, h4⟩
    · rintro ⟨h1, h2, h3, h4⟩; exact ⟨⟨by omega, by omega⟩, by omega, h4⟩
set_option maxRecDepth 100000 in
theorem refMay_any (k v : ByteArray) (n p : Int) (w : World) : Calls Tryd.prog 18 #[.agg #[.string k, .string v, .int .i64 n, .int .i64 p]] w fun e w' => e = .returned (.bool (mayB ⟨k, v, n, p⟩)) ∧ Below w.heap.size w w' := by
  have hb : Hid (Below w.heap.size w (w.alloc (.cells #[.string k, .string v, .int .i64 n, .int .i64 p] RCT))) := (Below.refl _ _).alloc (Nat.le_refl _) _
  have hm := Lib.hid (may_eq k v n p)
  generalize mayB ⟨k, v, n, p⟩ = M at *
  obtain ⟨A, hA⟩ : ∃ A, decide ((k.size : Int) < 1) = A := ⟨_, rfl⟩
  obtain ⟨B, hB⟩ : ∃ B, decide (40 < (k.size : Int)) = B := ⟨_, rfl⟩
  obtain ⟨C, hC⟩ : ∃ C, decide (n < 0) = C := ⟨_, rfl⟩
  obtain ⟨D, hD⟩ : ∃ D, decide (2048 < n) = D := ⟨_, rfl⟩
  rw [hA, hB, hC, hD] at hm
  have key : A = true ∨ (A = false ∧ B = true) ∨ (A = false ∧ B = false ∧ C = true) ∨ (A = false ∧ B = false ∧ C = false ∧ D = true) ∨ (A = false ∧ B = false ∧ C = false ∧ D = false) := by
    cases A <;> cases B <;> cases C <;> cases D <;> simp
  rcases key with rfl | ⟨rfl, rfl⟩ | ⟨rfl, rfl, rfl⟩ | ⟨rfl, rfl, rfl, rfl⟩ | ⟨rfl, rfl, rfl, rfl⟩
  rotate_left 4
  · by_cases h1 : 64 < n
    · have hp := Lib.hid (plB_out k v n p (by omega))
      have d1 : decide (64 < n) = true := by simpa using h1
      obtain ⟨E, hE⟩ : ∃ E, decide (2 ≤ p) = E := ⟨_, rfl⟩
      rw [hE] at hp
      have eF : decide (p < 1024) = decide (p ≤ 1023) := by rw [Bool.eq_iff_iff]; simp; omega
      rw [eF] at hp
      obtain ⟨F, hF⟩ : ∃ F, decide (p ≤ 1023) = F := ⟨_, rfl⟩
      rw [hF] at hp
      generalize plB ⟨k, v, n, p⟩ = P at *
      clear h1 eF
      by_cases hv : v.toList = []
      · have hp2 : Hid (M = (E && F)) := by show _ = _; rw [hm.out, hp.out, hv]; rfl
        clear hp hm
        go_enter Tryd.func18, Tryd.ntmps18
        cases E
        all_goals
          go_wp2
          go_ret
          exact ⟨by rw [hp2.out]; rfl, hb.out⟩
      · have hp2 : Hid (M = false) := by
          show _ = _
          rw [hm.out, hp.out, show v.toList.isEmpty = false from by simpa using hv]; rfl
        have hv2 : v.toList.isEmpty = false := by simpa using hv
        clear hp hm
        go_enter Tryd.func18, Tryd.ntmps18
        go_wp2
        go_ret
        exact ⟨by rw [hp2.out]; rfl, hb.out⟩
    · have hp := Lib.hid (plB_in k v n p (by omega))
      have d1 : decide (64 < n) = false := by simpa using h1
      obtain ⟨E, hE⟩ : ∃ E, ((v.size : Int) == n) = E := ⟨_, rfl⟩
      rw [hE] at hp
      obtain ⟨F, hF⟩ : ∃ F, (p == 0) = F := ⟨_, rfl⟩
      rw [hF] at hp
      generalize plB ⟨k, v, n, p⟩ = P at *
      have hp2 : Hid (M = (E && F)) := by show _ = _; rw [hm.out, hp.out]; rfl
      clear hp hm h1
      go_enter Tryd.func18, Tryd.ntmps18
      cases E
      all_goals
        go_wp2
        go_ret
        exact ⟨by rw [hp2.out]; rfl, hb.out⟩
  all_goals
    have hM : Hid (M = false) := by show _ = _; rw [hm.out]; rfl
    clear hm
    go_enter Tryd.func18, Tryd.ntmps18
    go_wp2
    go_ret
    exact ⟨by rw [hM.out]; rfl, hb.out⟩
end Go.Proofs.YtmgbdbpknocgjaaDoor
