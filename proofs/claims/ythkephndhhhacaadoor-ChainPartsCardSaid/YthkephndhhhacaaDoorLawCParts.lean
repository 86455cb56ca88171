/-
  ChainParts: the law's walk.
-/
import Derived.Test.YthkephndhhhacaaDoorSure10
namespace Go.Proofs.YthkephndhhhacaaDoor
open Go Go.RowKit

set_option maxRecDepth 100000 in
set_option maxHeartbeats 4000000 in
theorem parts_any (A B : ByteArray) (w : World) (hg : Hg w) :
    Calls Tryd.prog 5 #[.string A, .string B] w fun e w' => e = .returned (.bool true) ∧ Below w.heap.size w w' := by
  have HG := Lib.hid hg
  have fin : ∀ w5 : World, Hid (Below w.heap.size w w5) → Calls Tryd.prog 6 #[] w5 fun e w' => e = .returned (.bool true) ∧ Below w5.heap.size w5 w' := fun w5 h5 => sure_any w5 (HG.out.below h5.out)
  have Fin := Lib.hid fin
  have hB0 : Hid (Below w.heap.size w w) := Below.refl _ _
  clear hg fin
  by_cases hbig : 3000 < A.size
  · have d1 : decide (3000 < (A.size : Int)) = true := decide_eq_true (by omega)
    have d1' : decide (3000 < A.size) = true := decide_eq_true hbig
    clear hbig
    go_enter Tryd.func5, Tryd.ntmps5
    go_wp2_with fail
    refine (Fin.out w hB0).mono ?_
    rintro e w2 ⟨rfl, hb⟩
    have Hbx := Lib.hid hb
    clear hb
    go_wp2
    go_ret
    exact ⟨rfl, Hbx.out⟩
  have d1 : decide (3000 < (A.size : Int)) = false := decide_eq_false (by omega)
  have d1' : decide (3000 < A.size) = false := decide_eq_false hbig
  by_cases hbig2 : 3000 < B.size
  · have d2 : decide (3000 < (B.size : Int)) = true := decide_eq_true (by omega)
    have d2' : decide (3000 < B.size) = true := decide_eq_true hbig2
    clear hbig hbig2
    go_enter Tryd.func5, Tryd.ntmps5
    go_wp2_with fail
    refine (Fin.out w hB0).mono ?_
    rintro e w2 ⟨rfl, hb⟩
    have Hbx := Lib.hid hb
    clear hb
    go_wp2
    go_ret
    exact ⟨rfl, Hbx.out⟩
  have d2 : decide (3000 < (B.size : Int)) = false := decide_eq_false (by omega)
  have d2' : decide (3000 < B.size) = false := decide_eq_false hbig2
  obtain ⟨C, hC⟩ : ∃ C, A ++ B = C := ⟨_, rfl⟩
  obtain ⟨A2, hA2⟩ : ∃ A2, A ++ ⟨#[46]⟩ = A2 := ⟨_, rfl⟩
  have hCs : Hid (C.size = A.size + B.size) := by show _ = _; rw [← hC, ByteArray.size_append]
  have hA2s : Hid (A2.size = A.size + 1) := by show _ = _; rw [← hA2, ByteArray.size_append]; rfl
  have hn1 : ¬ (9223372036854775807 < A.size + B.size) := by omega
  have hn2 : ¬ (9223372036854775807 < A.size + 1) := by omega
  obtain ⟨x, hx⟩ : ∃ x, x = nP A.size := ⟨_, rfl⟩
  obtain ⟨y, hy⟩ : ∃ y, y = nP B.size := ⟨_, rfl⟩
  obtain ⟨z, hz⟩ : ∃ z, z = nP C.size := ⟨_, rfl⟩
  obtain ⟨m, hm⟩ : ∃ m, m = nP A2.size := ⟨_, rfl⟩
  obtain ⟨R, hR⟩ : ∃ R, R = A.size % 502 := ⟨_, rfl⟩
  have lx : Hid ((chs A).length = x) := by show _ = _; rw [chs_len, hx]
  have ly : Hid ((chs B).length = y) := by show _ = _; rw [chs_len, hy]
  have lz : Hid ((chs C).length = z) := by show _ = _; rw [chs_len, hz]
  have lm : Hid ((chs A2).length = m) := by show _ = _; rw [chs_len, hm]
  rw [hCs.out] at hz
  rw [hA2s.out] at hm
  unfold nP at hx hy hz hm
  have t1 : (A.size : Int).tmod 502 = (R : Int) := by rw [Int.tmod_eq_emod_of_nonneg (by omega)]; omega
  have b1 : x ≤ 6 := by omega
  have b2 : y ≤ 6 := by omega
  have b3 : z ≤ 12 := by omega
  have b4 : m ≤ 7 := by omega
  have b5 : R < 502 := by omega
  have c1 : decide ((x : Int) ≤ (z : Int)) = true := decide_eq_true (by omega)
  have c2 : decide ((y : Int) ≤ (z : Int)) = true := decide_eq_true (by omega)
  have c3 : decide ((z : Int) ≤ (x : Int) + (y : Int)) = true := decide_eq_true (by omega)
  have c4 : decide ((x : Int) ≤ (m : Int)) = true := decide_eq_true (by omega)
  have c5 : decide ((m : Int) ≤ (x : Int) + 1) = true := decide_eq_true (by omega)
  have c1' : decide (x ≤ z) = true := decide_eq_true (by omega)
  have c2' : decide (y ≤ z) = true := decide_eq_true (by omega)
  have c3' : decide (z ≤ x + y) = true := decide_eq_true (by omega)
  have c4' : decide (x ≤ m) = true := decide_eq_true (by omega)
  have c5' : decide (m ≤ x + 1) = true := decide_eq_true (by omega)
  obtain ⟨D1, hD1⟩ : ∃ D1, D1 = decide (R = 0) := ⟨_, rfl⟩
  obtain ⟨D2, hD2⟩ : ∃ D2, D2 = decide (A.size = 0) := ⟨_, rfl⟩
  have f1 : ((m : Int) == (x : Int) + 1) = D1 := by
    rw [hD1, Bool.eq_iff_iff, beq_iff_eq, decide_eq_true_iff]; omega
  have f1' : (m == x + 1) = D1 := by
    rw [hD1, Bool.eq_iff_iff, beq_iff_eq, decide_eq_true_iff]; omega
  have f2 : ((R : Int) == 0) = D1 := by
    rw [hD1, Bool.eq_iff_iff, beq_iff_eq, decide_eq_true_iff]; omega
  have f2' : (R == 0) = D1 := by
    rw [hD1, Bool.eq_iff_iff, beq_iff_eq, decide_eq_true_iff]
  have f3 : ((x : Int) == 0) = D2 := by
    rw [hD2, Bool.eq_iff_iff, beq_iff_eq, decide_eq_true_iff]; omega
  have f3' : (x == 0) = D2 := by
    rw [hD2, Bool.eq_iff_iff, beq_iff_eq, decide_eq_true_iff]; omega
  have f4 : A.toList.isEmpty = D2 := by
    rw [hD2, Bool.eq_iff_iff, decide_eq_true_iff, List.isEmpty_iff, ByteArray.toList_eq, ← bl_size]
    exact ⟨fun h => by show (List.length (bl A)) = 0; rw [show bl A = [] from h]; rfl, fun h => List.eq_nil_of_length_eq_zero h⟩
  have hpa := Lib.hid (pieces_any A (by omega) w)
  have hpb := Lib.hid (fun wx => pieces_any B (by omega) wx)
  have hpc := Lib.hid (fun wx => pieces_any C (by rw [hCs.out]; omega) wx)
  have hpm := Lib.hid (fun wx => pieces_any A2 (by rw [hA2s.out]; omega) wx)
  clear hbig hbig2 hx hy hz hm hR hD1 hD2
  go_enter Tryd.func5, Tryd.ntmps5
  go_wp2_with fail
  refine hpa.out.mono ?_
  rintro e w1 ⟨v, rfl, ⟨a1, k1, rfl, _⟩, hb1⟩
  rw [lx.out]
  have Hb1 := Lib.hid hb1
  clear hb1 hpa
  go_wp2_with fail
  refine (hpb.out w1).mono ?_
  rintro e w2 ⟨v, rfl, ⟨a2, k2, rfl, _⟩, hb2⟩
  rw [ly.out]
  have Hb2 := Lib.hid (Hb1.out.trans (hb2.mono Hb1.out.size))
  clear hb2 hpb Hb1
  go_wp2_with fail
  refine (hpc.out w2).mono ?_
  rintro e w3 ⟨v, rfl, ⟨a3, k3, rfl, _⟩, hb3⟩
  rw [lz.out]
  have Hb3 := Lib.hid (Hb2.out.trans (hb3.mono Hb2.out.size))
  clear hb3 hpc Hb2
  go_wp2_with fail
  refine (hpm.out w3).mono ?_
  rintro e w4 ⟨v, rfl, ⟨a4, k4, rfl, _⟩, hb4⟩
  rw [lm.out]
  have Hb4 := Lib.hid (Hb3.out.trans (hb4.mono Hb3.out.size))
  clear hb4 hpm Hb3
  go_wp2_with fail
  refine (Fin.out w4 Hb4).mono ?_
  rintro e w5 ⟨rfl, hb5⟩
  have Hbx := Lib.hid (Hb4.out.trans (hb5.mono Hb4.out.size))
  clear hb5
  go_wp2
  go_ret
  exact ⟨rfl, Hbx.out⟩
end Go.Proofs.YthkephndhhhacaaDoor
