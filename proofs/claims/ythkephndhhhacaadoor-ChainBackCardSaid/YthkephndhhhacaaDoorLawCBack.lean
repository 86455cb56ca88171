/-
  ChainBack: the law's walk.
-/
import Derived.Test.YthkephndhhhacaaDoorSure10
namespace Go.Proofs.YthkephndhhhacaaDoor
open Go Go.RowKit

/-- A piece is laid on a page of its own, and comes back. -/
theorem lay_any (p : Int) (y : ByteArray) (w : World) (h : chOk p y = true) :
    Calls Tryd.prog 10 #[.int .i64 p, .string y] w fun e w' => ∃ a c M, e = .returned (.tuple #[.slice a M c, .nilIface]) ∧ M ≤ 504 ∧ Below w.heap.size w w' ∧
      ∀ w2, Below w'.heap.size w' w2 → Calls Tryd.prog 12 #[.slice a M c] w2 fun e w3 => e = .returned (.tuple #[.int .i64 p, .string y, .nilIface]) ∧ Below w2.heap.size w2 w3 := by
  have hp : 0 ≤ p ∧ 1 ≤ y.size ∧ y.size ≤ 502 := by
    have h' := h
    unfold chOk nextB sizeB at h'; simp at h'; omega
  obtain ⟨P, rfl⟩ := Int.eq_ofNat_of_zero_le hp.1
  have hE : chE P y = 0 := by unfold chE; rw [h]; rfl
  have hB : chB P y = beL P 2 ++ bn y := by unfold chB; rw [h]; rfl
  refine (encode_any P y w (by omega)).mono ?_
  rw [hE, hB, errC_0]
  rintro e w' ⟨v, rfl, ho, hb⟩
  obtain ⟨a, c, rfl, hs, hn, hc, _⟩ := own_slice ho
  refine ⟨a, c, _, rfl, by rw [pl_len]; omega, hb, fun w2 hb2 => ?_⟩
  have := decode_any a _ c (beL P 2 ++ bn y) w2 rfl (hs.below hb2 (Nat.le_refl _)) hn (by rw [pl_len]; omega) hc (pl_b8 P y)
  rw [(pl_back P y h).1, (pl_back P y h).2.1, (pl_back P y h).2.2, errC_0] at this
  exact this
set_option maxRecDepth 100000 in
set_option maxHeartbeats 4000000 in
theorem back_any (V : ByteArray) (w : World) (hg : Hg w) :
    Calls Tryd.prog 4 #[.string V] w fun e w' => e = .returned (.bool true) ∧ Below w.heap.size w w' := by
  have HG := Lib.hid hg
  have fin : ∀ w5 : World, Hid (Below w.heap.size w w5) → Calls Tryd.prog 6 #[] w5 fun e w' => e = .returned (.bool true) ∧ Below w5.heap.size w5 w' := fun w5 h5 => sure_any w5 (HG.out.below h5.out)
  have Fin := Lib.hid fin
  have hB0 : Hid (Below w.heap.size w w) := Below.refl _ _
  clear hg fin
  by_cases hbig : 5000 < V.size
  · have d1 : decide (5000 < (V.size : Int)) = true := decide_eq_true (by omega)
    have d1' : decide (5000 < V.size) = true := decide_eq_true hbig
    clear hbig
    go_enter Tryd.func4, Tryd.ntmps4
    go_wp2_with fail
    refine (Fin.out w hB0).mono ?_
    rintro e w2 ⟨rfl, hb⟩
    have Hbx := Lib.hid hb
    clear hb
    go_wp2
    go_ret
    exact ⟨rfl, Hbx.out⟩
  have d1 : decide (5000 < (V.size : Int)) = false := decide_eq_false (by omega)
  have d1' : decide (5000 < V.size) = false := decide_eq_false hbig
  obtain ⟨K, hK⟩ : ∃ K, K = nP V.size := ⟨_, rfl⟩
  have hK11 : K ≤ 11 := by rw [hK]; unfold nP; omega
  have hlen : Hid ((chs V).length = K) := by show _ = _; rw [chs_len, hK]
  have HK := Lib.hid hK
  have HV : Hid (V.size ≤ 5000) := by show _ ≤ _; omega
  have hcn : Hid (cntS (V.size : Int) = (K : Int)) := by show _ = _; rw [cnt_np, hK]
  have hh0 : Hid (ByteArray.empty = headS V 0) := (head_zero V).symm
  have hpc := Lib.hid (pieces_any V (by omega) w)
  have hct := Lib.hid (fun wx => count_any (V.size : Int) wx (by omega) (by omega))
  rw [hcn.out] at hct
  clear hK hbig
  go_enter Tryd.func4, Tryd.ntmps4
  go_wp2_with fail
  refine hpc.out.mono ?_
  rintro e w1 ⟨v, rfl, ⟨a1, c1, rfl, ht1, _⟩, hb1⟩
  rw [hlen.out]
  have Ht1 := Lib.hid ht1
  have Hb1 := Lib.hid hb1
  clear ht1 hb1 hpc
  go_wp2_with fail
  go_loopw [4, 5] (fun av i wr => ∃ (k : Nat) (A : ByteArray), i = .int .i64 k ∧ av = .string A ∧ k ≤ K ∧ Hid (A = headS V k) ∧ Hid (TxS wr a1 (chs V)) ∧ Hid (Below w.heap.size w wr)) (fun _ i _ => K - (intOf i).toNat)
  case atStart => exact ⟨0, ByteArray.empty, rfl, rfl, by omega, hh0.out, Ht1.out, Hb1.out⟩
  case round =>
    obtain ⟨k, A, rfl, rfl, hk, hA, hT, hB⟩ := hrel
    by_cases hlt : k < K
    · obtain ⟨g1, o1, rfl, hc1⟩ := hT.out (by rw [hlen.out]; omega)
      have q1 := hc1 k (by rw [hlen.out]; exact hlt)
      have hkn : k < nP V.size := by rw [← HK.out]; exact hlt
      have hy0 := cut_some hkn
      have hk5 := nP_lt.1 hkn
      have hsa : Hid (sa (chs V) k = cutS V k) := sa_chs V k hkn
      rw [hsa.out] at q1
      have hnx : Hid (A ++ cutS V k = headS V (k + 1)) := by show _ = _; rw [hA.out]; exact head_succ V k (by omega)
      have hAs : Hid (A.size ≤ 5000) := by show _ ≤ _; rw [hA.out]; unfold headS; rw [ByteArray.size_extract]; have := HV.out; omega
      have hfull : Hid (k + 1 < K → (cutS V k).size = 502) := fun h => cut_full (by rw [← HK.out]; exact h)
      have hd1 : Hid (1 ≤ (cutS V k).size ∧ (cutS V k).size ≤ 502) := hy0
      have i1 : (k : Int) < (K : Int) := by omega
      clear hc1 hkn hy0 hk5 hsa Ht1 Hb1
      generalize cutS V k = y at *
      have hnov : ¬ (9223372036854775807 < A.size + y.size) := by have := hAs.out; have := hd1.out.2; omega
      have hnov' : ¬ ((9223372036854775807 : Int) < (A.size : Int) + (y.size : Int)) := by omega
      obtain ⟨A2, hA2⟩ : ∃ A2, A ++ y = A2 := ⟨_, rfl⟩
      rw [hA2] at hnx
      by_cases hl : k + 1 < K
      · have e1 : decide ((k : Int) + 1 < (K : Int)) = true := decide_eq_true (by omega)
        have e1' : decide (k + 1 < K) = true := decide_eq_true hl
        obtain ⟨P, hP⟩ : ∃ P, P = k + 2 := ⟨_, rfl⟩
        have e2 : (k : Int) + 2 = (P : Int) := by omega
        have e3 : P ≤ 14 := by omega
        have okA : Hid (chOk (P : Int) y = true) := by
          show _ = _
          unfold chOk nextB sizeB
          have := hd1.out
          simp; omega
        have s1 : ((y.size : Int) != 502) = false := by rw [hfull.out hl]; rfl
        have s2 : (y.size != 502) = false := by rw [hfull.out hl]; rfl
        have s3 : ((y.size : Int) == 502) = true := by rw [hfull.out hl]; rfl
        have s4 : (y.size == 502) = true := by rw [hfull.out hl]; rfl
        clear hl hP hfull
        have hlay := Lib.hid (lay_any (P : Int) y wr okA.out)
        clear okA
        go_wp2_with fail
        refine hlay.out.mono ?_
        rintro e w2 ⟨a2, c2, M, rfl, hM, hb2, hde⟩
        have hTT := Lib.hid (hT.out.below hb2 (Nat.le_refl _))
        have hB2 := Lib.hid (hB.out.trans (hb2.mono hB.out.size))
        have q2 : w2.cell? ⟨g1, o1 + k, none⟩ = some (.string y) := by rw [hb2.cell (p := ⟨g1, o1 + k, none⟩) (block_lt_of_cell q1)]; exact q1
        have hdd := Lib.hid (hde w2 (Below.refl _ _))
        have m1 : decide (504 < (M : Int)) = false := decide_eq_false (by omega)
        have m2 : decide (504 < M) = false := decide_eq_false (by omega)
        clear hlay hb2 hde q1 hT hB
        go_wp2_with fail
        refine hdd.out.mono ?_
        rintro e w3 ⟨rfl, hb3⟩
        have q3 : w3.cell? ⟨g1, o1 + k, none⟩ = some (.string y) := by rw [hb3.cell (p := ⟨g1, o1 + k, none⟩) (block_lt_of_cell q2)]; exact q2
        replace hTT := Lib.hid (hTT.out.below hb3 (Nat.le_refl _))
        have hB3 := Lib.hid (hB2.out.trans (hb3.mono hB2.out.size))
        clear hb3 hB2 hdd q2
        go_wp2
        go_roundw
        case rel => exact ⟨k + 1, A2, by go_num, rfl, by omega, hnx.out, hTT.out, hB3.out⟩
        case measure => simp [intOf]; omega
      · have e1 : decide ((k : Int) + 1 < (K : Int)) = false := decide_eq_false (by omega)
        have e1' : decide (k + 1 < K) = false := decide_eq_false hl
        have okB : Hid (chOk (0 : Int) y = true) := by
          show _ = _
          unfold chOk nextB sizeB
          have := hd1.out
          simp; omega
        clear hl hfull
        have hlay := Lib.hid (lay_any (0 : Int) y wr okB.out)
        clear okB
        go_wp2_with fail
        refine hlay.out.mono ?_
        rintro e w2 ⟨a2, c2, M, rfl, hM, hb2, hde⟩
        have hTT := Lib.hid (hT.out.below hb2 (Nat.le_refl _))
        have hB2 := Lib.hid (hB.out.trans (hb2.mono hB.out.size))
        have q2 : w2.cell? ⟨g1, o1 + k, none⟩ = some (.string y) := by rw [hb2.cell (p := ⟨g1, o1 + k, none⟩) (block_lt_of_cell q1)]; exact q1
        have hdd := Lib.hid (hde w2 (Below.refl _ _))
        have m1 : decide (504 < (M : Int)) = false := decide_eq_false (by omega)
        have m2 : decide (504 < M) = false := decide_eq_false (by omega)
        clear hlay hb2 hde q1 hT hB
        go_wp2_with fail
        refine hdd.out.mono ?_
        rintro e w3 ⟨rfl, hb3⟩
        have q3 : w3.cell? ⟨g1, o1 + k, none⟩ = some (.string y) := by rw [hb3.cell (p := ⟨g1, o1 + k, none⟩) (block_lt_of_cell q2)]; exact q2
        replace hTT := Lib.hid (hTT.out.below hb3 (Nat.le_refl _))
        have hB3 := Lib.hid (hB2.out.trans (hb3.mono hB2.out.size))
        clear hb3 hB2 hdd q2
        go_wp2
        go_roundw
        case rel => exact ⟨k + 1, A2, by go_num, rfl, by omega, hnx.out, hTT.out, hB3.out⟩
        case measure => simp [intOf]; omega
    · obtain rfl : k = K := by omega
      have hall : Hid (A = V) := by show _ = _; rw [hA.out, HK.out]; exact head_all V
      rw [hall.out]
      clear hT Ht1 Hb1 hall
      go_wp2_with fail
      refine (hct.out wr).mono ?_
      rintro e w3 ⟨rfl, rfl⟩
      clear hct
      go_wp2_with fail
      refine (Fin.out wr hB).mono ?_
      rintro e w10 ⟨rfl, hb10⟩
      have Hbx := Lib.hid (hB.out.trans (hb10.mono hB.out.size))
      clear hb10
      go_wp2
      go_ret
      exact ⟨rfl, Hbx.out⟩
end Go.Proofs.YthkephndhhhacaaDoor
