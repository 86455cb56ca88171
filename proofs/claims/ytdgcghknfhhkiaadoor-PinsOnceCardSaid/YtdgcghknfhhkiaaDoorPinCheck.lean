/-
  pins' Check.
-/
import Derived.Test.YtdgcghknfhhkiaaDoorPinRow
namespace Go.Proofs.YtdgcghknfhhkiaaDoor
open Go Go.RowKit

/-- Readers as a value: the greatest number, a row. -/
abbrev psv (N : Nat) (v : Value) : Array Value := #[.int .u64 (N : Nat), v]
theorem Blk.ps0 {w : World} {b : Nat} {t : TypeId} {N : Nat} {v : Value} (h : Blk w b t (psv N v)) : w.cell? ⟨b, 0, none⟩ = some (.int .u64 (N : Nat)) := by rw [h.cell]; rfl
theorem Blk.ps1 {w : World} {b : Nat} {t : TypeId} {N : Nat} {v : Value} (h : Blk w b t (psv N v)) : w.cell? ⟨b, 1, none⟩ = some v := by rw [h.cell]; rfl
/-- Whether they may be, as an error. -/
def mayE (l : List Pn) (N : Nat) : Int := if pmayB l N = true then 0 else 1
theorem errC_6 : errC 6 = .iface 67 (.int .i64 6) := rfl
theorem errC_7 : errC 7 = .iface 67 (.int .i64 7) := rfl
set_option maxRecDepth 100000 in
theorem check_any (v : Value) (l : List Pn) (N : Nat) (w : World) (hv : EV pinE w v l) :
    Calls Tryd.prog 20 #[.agg (psv N v)] w fun e w' => e = .returned (errC (mayE l N)) ∧ Below w.heap.size w w' := by
  obtain ⟨a, c, rfl, hs, hz, hc, hm⟩ := hv
  obtain ⟨R, hR⟩ : ∃ R, errC (mayE l N) = R := ⟨_, rfl⟩
  rw [hR]
  have HR := Lib.hid hR
  have hno : Hid (pmayB l N = false → R = .iface 67 (.int .i64 1)) := fun h => by rw [← HR.out, mayE, if_neg (by rw [h]; decide)]; rfl
  have hyes : Hid (pmayB l N = true → R = .nilIface) := fun h => by rw [← HR.out, mayE, if_pos h]; rfl
  have Hs := Lib.hid hs
  obtain ⟨n, hn⟩ : ∃ n, l.length = n := ⟨_, rfl⟩
  have Hn := Lib.hid hn
  have hn9 : n ≤ 9223372036854775807 := by unfold maxLen at hm; omega
  rw [hn]
  clear hs hR HR hz hc hm hn
  by_cases h1 : 8 < n
  · have d1 : decide ((8 : Int) < (n : Int)) = true := decide_eq_true (by omega)
    obtain rfl := hno.out (by unfold pmayB; rw [Hn.out, decide_eq_false (show ¬ n ≤ 8 by omega)]; rfl)
    clear hno hyes h1
    go_enter Tryd.func20, Tryd.ntmps20
    go_wp2_with (refine wpList_box_arr rfl PS (.tmp 0) rfl (psv N (.slice a n c)) (by rfl) ?_; intro g1 w1 hg1 hk1 hb1; have q0 := hk1.ps0; have q1 := hk1.ps1)
    go_ret
    exact ⟨rfl, hb1⟩
  · have d1 : decide ((8 : Int) < (n : Int)) = false := decide_eq_false (by omega)
    by_cases h2 : 4611686018427387904 < N
    · have d2 : decide ((4611686018427387904 : Int) < (N : Int)) = true := decide_eq_true (by omega)
      obtain rfl := hno.out (by unfold pmayB; rw [decide_eq_false (show ¬ N ≤ 4611686018427387904 by omega), Bool.false_and, Bool.and_false])
      clear hno hyes h1 h2
      go_enter Tryd.func20, Tryd.ntmps20
      go_wp2_with (refine wpList_box_arr rfl PS (.tmp 0) rfl (psv N (.slice a n c)) (by rfl) ?_; intro g1 w1 hg1 hk1 hb1; have q0 := hk1.ps0; have q1 := hk1.ps1)
      go_ret
      exact ⟨rfl, hb1⟩
    · have d2 : decide ((4611686018427387904 : Int) < (N : Int)) = false := decide_eq_false (by omega)
      have hp : Hid (pmayB l N = pasB 0 l N) := by
        show _ = _
        unfold pmayB; rw [Hn.out, decide_eq_true (show n ≤ 8 by omega), decide_eq_true (show N ≤ 4611686018427387904 by omega), Bool.true_and, Bool.true_and]
      have H1 := Lib.hid (fun (w1 : World) (h : ES pinE w1 a l) => ascend_any a n c l N w1 Hn.out h hn9)
      cases hA : pasB 0 l N with
      | false =>
        obtain rfl := hno.out (by rw [hp.out, hA])
        rw [hA] at H1
        clear hno hyes hp hA h1 h2
        go_enter Tryd.func20, Tryd.ntmps20
        go_wp2_with (refine wpList_box_arr rfl PS (.tmp 0) rfl (psv N (.slice a n c)) (by rfl) ?_; intro g1 w1 hg1 hk1 hb1; have q0 := hk1.ps0; have q1 := hk1.ps1)
        have Hb := Lib.hid hb1
        refine (H1.out w1 (Hs.out.below hb1 (Nat.le_refl _))).mono ?_
        rintro e w2 ⟨rfl, hb2⟩
        have Hb2 := Lib.hid (Hb.out.trans (hb2.mono Hb.out.size))
        clear hb1 hb2 H1 q0 q1 hk1
        go_wp2
        go_ret
        exact ⟨rfl, Hb2.out⟩
      | true =>
        obtain rfl := hyes.out (by rw [hp.out, hA])
        rw [hA] at H1
        clear hno hyes hp hA h1 h2
        go_enter Tryd.func20, Tryd.ntmps20
        go_wp2_with (refine wpList_box_arr rfl PS (.tmp 0) rfl (psv N (.slice a n c)) (by rfl) ?_; intro g1 w1 hg1 hk1 hb1; have q0 := hk1.ps0; have q1 := hk1.ps1)
        have Hb := Lib.hid hb1
        refine (H1.out w1 (Hs.out.below hb1 (Nat.le_refl _))).mono ?_
        rintro e w2 ⟨rfl, hb2⟩
        have Hb2 := Lib.hid (Hb.out.trans (hb2.mono Hb.out.size))
        clear hb1 hb2 H1 q0 q1 hk1
        go_wp2
        go_ret
        exact ⟨rfl, Hb2.out⟩
end Go.Proofs.YtdgcghknfhhkiaaDoor
