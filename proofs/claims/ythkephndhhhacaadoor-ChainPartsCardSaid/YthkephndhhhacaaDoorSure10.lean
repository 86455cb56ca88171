/-
  Layer 10's sure.
-/
import Derived.Test.YthkephndhhhacaaDoorChain1
import Derived.Test.YthkephndhhhacaaDoorChain2
import Derived.Test.YthkephndhhhacaaDoorNum2
namespace Go.Proofs.YthkephndhhhacaaDoor
open Go Go.RowKit

theorem errC_is (f : Int) : NumIs (errC f) f := by
  unfold errC
  by_cases h : f = 0
  · rw [if_pos h]; exact .inl ⟨rfl, h⟩
  · rw [if_neg h]; exact .inr rfl
/-- 503 noughts. -/
def ZL : List Nat := List.replicate 503 0
def ZV : ByteArray := bstr ZL
theorem ZL_len : ZL.length = 503 := List.length_replicate
theorem ZV_size : ZV.size = 503 := by unfold ZV; rw [bstr_size, ZL_len]
theorem ZV_chs : (chs ZV).length = 2 := by rw [chs_len, ZV_size]; rfl
theorem ZV_cut : (sa (chs ZV) 1).size = 1 := by
  rw [sa_chs ZV 1 (by rw [ZV_size]; decide), cut_size, ZV_size]; rfl
def XV : ByteArray := ⟨#[120]⟩
theorem XV_size : XV.size = 1 := rfl
theorem enc7 : chOk 7 XV = true := by decide +kernel
theorem enc7_0 : chE 7 XV = 0 := by unfold chE; rw [enc7]; rfl
theorem enc7_b : chB 7 XV = beL 7 2 ++ bn XV := by unfold chB; rw [enc7]; rfl
theorem enc7_len : (chB 7 XV).length = 3 := by rw [enc7_b]; exact pl_len 7 XV
theorem enc7_b8 : B8 (chB 7 XV) := by rw [enc7_b]; exact pl_b8 7 XV
theorem dec7 : dcN (chB 7 XV) = 7 ∧ dcV (chB 7 XV) = XV ∧ dcE (chB 7 XV) = 0 := by rw [enc7_b]; exact pl_back 7 XV enc7
theorem enc1_1 : chE 1 XV = 1 := by
  unfold chE; rw [show chOk 1 XV = false by decide +kernel]; rfl
set_option maxRecDepth 100000 in
set_option maxHeartbeats 1000000 in
theorem sure_any (w : World) (hg : Hg w) : Calls Tryd.prog 6 #[] w fun e w' => e = .returned (.bool true) ∧ Below w.heap.size w w' := by
  have HG := Lib.hid hg
  have HZ : Hid (List.replicate 503 0 = ZL) := rfl
  clear hg
  go_enter Tryd.func6, Tryd.ntmps6
  go_wp2_with (at_make; refine wpList_make_bytes rfl _ _ 22 rfl 5 Tryd.underlying22 infoI _ _ _ _ 503 rfl rfl rfl rfl (by omega) ?_; intro w1 hr1 hb1; rw [HZ.out] at hr1; have hcv1 := conv_row (P := Tryd.prog) CBS CU8 CST2 Tryd.underlying22 Tryd.underlying5 Tryd.underlying9 w.heap.size 503 503 ZL ZL_len w1 hr1.out; rw [show bstr ZL = ZV from rfl] at hcv1)
  refine (pieces_any ZV (by rw [ZV_size]; omega) w1).mono ?_
  rintro e w2 ⟨v, rfl, hv, hb2⟩
  obtain ⟨a2, c2, rfl, ht2, _⟩ := hv
  rw [ZV_chs]
  have Ht2 := Lib.hid ht2
  have Hb2 := Lib.hid (hb1.trans (hb2.mono hb1.size))
  clear ht2 hb1 hb2 hr1 hcv1
  have henc := Lib.hid (encode_any 7 XV w2 (by rw [XV_size]; omega))
  rw [enc7_0, errC_0] at henc
  go_wp2_with fail
  refine henc.out.mono ?_
  rintro e w3 ⟨v3, rfl, ho3, hb3⟩
  obtain ⟨a3, c3, rfl, hs3, hn3, hc3, hz3⟩ := own_slice ho3
  have hdec := Lib.hid (decode_any a3 3 c3 (chB 7 XV) w3 enc7_len hs3 (by rw [enc7_len] at hn3; exact hn3) (by omega) hc3 enc7_b8)
  rw [dec7.1, dec7.2.1, dec7.2.2, errC_0, show XV = ⟨#[120]⟩ from rfl] at hdec
  rw [enc7_len]
  replace Ht2 := Lib.hid (Ht2.out.below hb3 (Nat.le_refl _))
  have Hb3 := Lib.hid (Hb2.out.trans (hb3.mono Hb2.out.size))
  clear henc ho3 hb3 Hb2 hs3 hn3 hc3 hz3
  go_wp2_with fail
  refine hdec.out.mono ?_
  rintro e w4 ⟨rfl, hb4⟩
  replace Ht2 := Lib.hid (Ht2.out.below hb4 (Nat.le_refl _))
  have Hb4 := Lib.hid (Hb3.out.trans (hb4.mono Hb3.out.size))
  have henc := Lib.hid (encode_any 1 XV w4 (by rw [XV_size]; omega))
  rw [enc1_1, errC_1] at henc
  clear hdec hb4 Hb3
  go_wp2_with fail
  refine henc.out.mono ?_
  rintro e w5 ⟨v5, rfl, _, hb5⟩
  replace Ht2 := Lib.hid (Ht2.out.below hb5 (Nat.le_refl _))
  have Hb5 := Lib.hid (Hb4.out.trans (hb5.mono Hb4.out.size))
  clear henc hb5 Hb4
  obtain ⟨g, o, rfl, hcell⟩ := Ht2.out (by rw [ZV_chs]; omega)
  have q1 := hcell 1 (by rw [ZV_chs]; omega)
  have qs := ZV_cut
  generalize sa (chs ZV) 1 = y at *
  clear hcell Ht2
  go_wp2_with fail
  refine (num_err 1 w5 (HG.out.below Hb5.out)).mono ?_
  rintro e w6 ⟨rfl, hb6⟩
  have Hb6 := Lib.hid (Hb5.out.trans (hb6.mono Hb5.out.size))
  clear hb6 Hb5
  go_wp2_with fail
  refine (count_any 503 w6 (by omega) (by omega)).mono ?_
  rintro e w7 ⟨rfl, rfl⟩
  rw [show cntS 503 = 2 from rfl]
  go_wp2_with fail
  refine (count_any 0 w6 (by omega) (by omega)).mono ?_
  rintro e w7 ⟨rfl, rfl⟩
  rw [show cntS 0 = 0 from rfl]
  go_wp2
  go_ret
  exact ⟨rfl, Hb6.out⟩
end Go.Proofs.YthkephndhhhacaaDoor
