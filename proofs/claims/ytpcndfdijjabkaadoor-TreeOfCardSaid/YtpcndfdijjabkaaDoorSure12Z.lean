/-
  The law's are and sure.
-/
import Derived.Test.YtpcndfdijjabkaaDoorPutTZ
import Derived.Test.YtpcndfdijjabkaaDoorHeightZ
import Derived.Test.YtpcndfdijjabkaaDoorAreZ
import Derived.Test.YtpcndfdijjabkaaDoorAsZ
namespace Go.Proofs.YtpcndfdijjabkaaDoor
open Go Go.RowKit

theorem tp_ok0 {es : List En} {key v : ByteArray} (hk : okK key = true) (hv : v.size ≤ 2048) (hl : es.length < 4096) : tpF es key v = 0 ∧ tpL es key v = rep es key [⟨key, v, []⟩] := by
  have : tpF es key v = 0 := by unfold tpF; rw [if_neg (by rw [hk]; decide), if_neg (by omega), if_neg (fun h => by omega)]
  exact ⟨this, by unfold tpL; rw [this]; rfl⟩
theorem TreeP.one {w : World} {p : Option Addr} {es : List En} {H : Nat} (h : TreeP w p es H) (h0 : es ≠ []) (hl : es.length < 4) : H = 1 := by
  obtain ⟨es', rfl, h⟩ := h
  rw [bare_len] at hl
  rcases h with ⟨_, h1, _⟩ | ⟨b, h, s, _, hn, _, hs, _, rfl⟩
  · exact absurd (bare_nil.2 h1) h0
  · cases h with
    | zero => rfl
    | succ h =>
      obtain ⟨ks, ps, ess, _, h2, h3, h4⟩ := hn
      have h7 := KRow.count (m := 2 * 4 ^ h) (fun lo hi p e hg => Good.count h lo hi p e hg) h2
      have h5 : 1 ≤ ks.length := by
        have := hs (by omega)
        cases ks with
        | nil => unfold brSz kss at h4; simp at h4; omega
        | cons a r => simp
      have h6 : 2 * 4 ^ h * 2 ≤ 2 * 4 ^ h * (ks.length + 1) := Nat.mul_le_mul_left _ (by omega)
      have : 1 ≤ 4 ^ h := Nat.one_le_pow _ _ (by omega)
      rw [h3] at hl
      omega
abbrev xa : ByteArray := ⟨#[97]⟩
abbrev xb : ByteArray := ⟨#[98]⟩
abbrev xx : ByteArray := ⟨#[120]⟩
abbrev xy : ByteArray := ⟨#[121]⟩
theorem sure1 : tpF [] xb xx = 0 ∧ tpL [] xb xx = [⟨xb, xx, []⟩] := by
  have h := tp_ok0 (es := []) (key := xb) (v := xx) rfl (by decide) (by decide)
  exact ⟨h.1, h.2.trans rfl⟩
theorem lt_ab : blt xb xa = false ∧ blt xa xb = true ∧ blt xb xb = false := by
  refine ⟨?_, ?_, blt_self _⟩
  · rw [blt_not]; decide
  · rw [blt_iff]; decide
theorem ne_ab : (xb.toList == xa.toList) = false := blt_ne' lt_ab.2.1
theorem sure2 : tpF [⟨xb, xx, []⟩] xa xy = 0 ∧ tpL [⟨xb, xx, []⟩] xa xy = [⟨xa, xy, []⟩, ⟨xb, xx, []⟩] := by
  have h := tp_ok0 (es := [⟨xb, xx, []⟩]) (key := xa) (v := xy) rfl (by decide) (by decide)
  refine ⟨h.1, h.2.trans ?_⟩
  have e1 : fE [⟨xb, xx, []⟩] xa = 0 := by unfold fE; rw [if_neg (by rw [lt_ab.1]; decide)]
  have e2 : isE [⟨xb, xx, []⟩] xa = false := by unfold isE; rw [if_neg (by rw [lt_ab.1]; decide)]; exact ne_ab
  unfold rep goneE
  rw [e1, e2]; rfl
theorem sure3 : fE [⟨xa, xy, []⟩, ⟨xb, xx, []⟩] xb = 1 ∧ isE [⟨xa, xy, []⟩, ⟨xb, xx, []⟩] xb = true := by
  constructor
  · unfold fE; rw [if_pos lt_ab.2.1]; unfold fE; rw [if_neg (by rw [lt_ab.2.2]; decide)]
  · unfold isE; rw [if_pos lt_ab.2.1]; unfold isE; rw [if_neg (by rw [lt_ab.2.2]; decide)]; exact beq_self _
theorem sure4 : getE [⟨xa, xy, []⟩, ⟨xb, xx, []⟩] xb = xx ∧ tdL [⟨xa, xy, []⟩, ⟨xb, xx, []⟩] xb = [⟨xa, xy, []⟩] := by
  constructor
  · unfold getE; rw [if_pos sure3.2, sure3.1]; rfl
  · unfold tdL; rw [if_pos sure3.2]; unfold rep goneE; rw [sure3.1, if_pos sure3.2]; rfl
theorem sure5 (es : List En) : tpF es ⟨#[]⟩ ⟨#[]⟩ = 1 := rfl
set_option maxRecDepth 100000 in
theorem sure_any (w : World) (hg : Hg w) : Calls Tryd.prog 18 #[] w fun e w' => e = .returned (.bool true) ∧ Below w.heap.size w w' := by
  have Hhg := Lib.hid hg
  have H1 := Lib.hid (put_all none [] 0 xb xx w (TreeP.none w) (by simp))
  rw [sure1.1, sure1.2] at H1
  clear hg
  go_enter Tryd.func18, Tryd.ntmps18
  go_wp2_with fail
  refine H1.out.mono ?_
  rintro e w1 ⟨p1, G1, rfl, ht1, hb1⟩
  rw [show errC ((0 : Nat) : Int) = .nilIface from rfl, show (([⟨xb, xx, []⟩] : List En).length : Int) = 1 from rfl]
  obtain ⟨W1, hW1, hT1, hbW1⟩ := alloc_own w1 TT #[.pointer p1, .int .i64 1]
  have hb01 := hb1.trans (hbW1.mono hb1.size)
  have H2 := Lib.hid (put_all p1 [⟨xb, xx, []⟩] G1 xa xy W1 (ht1.ext hbW1) (by simp))
  rw [sure2.1, sure2.2] at H2
  have HW1 := Lib.hid hW1
  have T1 : Hid (TB W1 w1.heap.size p1 1) := hT1
  have HB := Lib.hid hb01
  have Hl1 := Lib.hid hb1.size
  clear hW1 hT1 hb01 hbW1 ht1 hb1 H1
  go_wp2_with fail
  rw [HW1.out]
  refine H2.out.mono ?_
  rintro e w2 ⟨p2, G2, rfl, ht2, hb2⟩
  rw [show errC ((0 : Nat) : Int) = .nilIface from rfl, show (([⟨xa, xy, []⟩, ⟨xb, xx, []⟩] : List En).length : Int) = 2 from rfl]
  have t2 := T1.out.ext hb2
  have c0 := t2.c0
  have c1 := t2.c1
  have f0 := t2.fz 0
  have f1 := t2.fz 1
  obtain ⟨W2, hW2⟩ : ∃ W, (w2.setCell ⟨w1.heap.size, 0, none⟩ (.pointer p2)).setCell ⟨w1.heap.size, 1, none⟩ (.int .i64 2) = W := ⟨_, rfl⟩
  have htn := turn_put w2 w1.heap.size (.pointer p2) (.int .i64 2)
  have hT2 := t2.put p2 2
  have htr2 := ht2.turn htn (TF.one t2)
  have hb02 : Below w.heap.size w W2 := by rw [← hW2]; exact below_put (HB.out.trans (hb2.mono HB.out.size)) Hl1.out
  rw [hW2] at hT2 htr2
  have T2 := Lib.hid hT2
  have R2 := Lib.hid htr2
  have HW2 := Lib.hid hW2
  replace HB := Lib.hid hb02
  have H3 := Lib.hid (get_any p2 2 _ G2 xb W2 htr2)
  rw [sure4.1, sure3.2] at H3
  have d0 := hT2.c0
  have d1 := hT2.c1
  clear htn hT2 htr2 hW2 ht2 hb2 t2 T1 Hl1 hb02 H2
  go_wp2_with fail
  rw [HW2.out]
  refine H3.out.mono ?_
  rintro e w3 ⟨rfl, hb3⟩
  have hT3 := T2.out.ext hb3
  have htr3 := R2.out.ext hb3
  replace HB := Lib.hid (HB.out.trans (hb3.mono HB.out.size))
  have H4 := Lib.hid (delete_all p2 _ G2 xb w3 htr3 (by simp))
  rw [sure4.2, sure3.2] at H4
  have T3 := Lib.hid hT3
  have R3 := Lib.hid htr3
  have c0 := hT3.c0
  have c1 := hT3.c1
  clear hT3 htr3 hb3 T2 R2 H3 d0 d1
  go_wp2_with fail
  refine H4.out.mono ?_
  rintro e w4 ⟨p4, G4, rfl, ht4, hb4⟩
  rw [show (([⟨xa, xy, []⟩] : List En).length : Int) = 1 from rfl]
  obtain ⟨W4, hW4, hT4, hbW4⟩ := alloc_own w4 TT #[.pointer p4, .int .i64 1]
  have hb34 := hb4.trans (hbW4.mono hb4.size)
  have hT3 := T3.out.ext hb34
  have htr3 := R3.out.ext hb34
  replace HB := Lib.hid (HB.out.trans (hb34.mono HB.out.size))
  have H5 := Lib.hid (put_all p2 _ G2 ⟨#[]⟩ ⟨#[]⟩ W4 htr3 (by simp))
  rw [sure5] at H5
  have HW4 := Lib.hid hW4
  have T4 := Lib.hid hT3
  have R4 := Lib.hid htr3
  have U4 : Hid (TB W4 w4.heap.size p4 1) := hT4
  have c0 := (T3.out.ext hb4).c0
  have c1 := (T3.out.ext hb4).c1
  have e0 : (w4.alloc (.cells #[.pointer p4, .int .i64 1] TT)).cell? ⟨w1.heap.size, 0, none⟩ = some (.pointer p2) := by rw [hW4]; exact hT3.c0
  have e1 : (w4.alloc (.cells #[.pointer p4, .int .i64 1] TT)).cell? ⟨w1.heap.size, 1, none⟩ = some (.int .i64 2) := by rw [hW4]; exact hT3.c1
  clear hW4 hT4 hbW4 hb34 hT3 htr3 hb4 ht4 T3 R3 H4
  go_wp2_with fail
  rw [HW4.out]
  refine H5.out.mono ?_
  rintro e w5 ⟨p5, G5, rfl, ht5, hb5⟩
  rw [show errC ((1 : Nat) : Int) = .iface 62 (.int .i64 1) from rfl]
  obtain ⟨N5, hN5⟩ : ∃ N, (((tpL [⟨xa, xy, []⟩, ⟨xb, xx, []⟩] ⟨#[]⟩ ⟨#[]⟩).length : Nat) : Int) = N := ⟨_, rfl⟩
  rw [hN5]
  obtain ⟨W5, hW5, hT5, hbW5⟩ := alloc_own w5 TT #[.pointer p5, .int .i64 N5]
  have hb45 := hb5.trans (hbW5.mono hb5.size)
  have hT4 := T4.out.ext hb45
  have htr4 := R4.out.ext hb45
  have hU4 := U4.out.ext hb45
  replace HB := Lib.hid (HB.out.trans (hb45.mono HB.out.size))
  have H6 := Lib.hid (all_any p2 [⟨xa, xy, []⟩, ⟨xb, xx, []⟩] G2 W5 htr4 (by simp))
  rw [show (([⟨xa, xy, []⟩, ⟨xb, xx, []⟩] : List En).length : Int) = 2 from rfl] at H6
  have HW5 := Lib.hid hW5
  have T5 := Lib.hid hT4
  have R5 := Lib.hid htr4
  have U5 := Lib.hid hU4
  have c0 := (T4.out.ext hb5).c0
  have c1 := (T4.out.ext hb5).c1
  have e0 : (w5.alloc (.cells #[.pointer p5, .int .i64 N5] TT)).cell? ⟨w1.heap.size, 0, none⟩ = some (.pointer p2) := by rw [hW5]; exact hT4.c0
  have e1 : (w5.alloc (.cells #[.pointer p5, .int .i64 N5] TT)).cell? ⟨w1.heap.size, 1, none⟩ = some (.int .i64 2) := by rw [hW5]; exact hT4.c1
  clear hW5 hT5 hbW5 hb45 hT4 htr4 hU4 hb5 ht5 T4 R4 U4 H5 hN5
  go_wp2_with fail
  rw [HW5.out]
  refine H6.out.mono ?_
  rintro e w6 ⟨v, rfl, ⟨a6, n6, rfl, s6, _⟩, hb6⟩
  obtain ⟨g6, o6, rfl, hcell⟩ := s6.ents (by simp)
  have k0 := (hcell 0 (by simp)).1
  simp only [Nat.zero_mul, Nat.add_zero] at k0
  have k0' : w6.cell? ⟨g6, o6, none⟩ = some (.string xa) := k0
  have HK := Lib.hid k0'
  replace T5 := Lib.hid (T5.out.ext hb6)
  replace R5 := Lib.hid (R5.out.ext hb6)
  replace U5 := Lib.hid (U5.out.ext hb6)
  replace HB := Lib.hid (HB.out.trans (hb6.mono HB.out.size))
  have e0 := T5.out.c0
  have e1 := T5.out.c1
  have u0 := U5.out.c0
  have u1 := U5.out.c1
  have H7 := Lib.hid (len_any p4 1 w6)
  rw [show (([⟨xa, xy, []⟩, ⟨xb, xx, []⟩] : List En).length) = 2 from rfl]
  clear hcell k0 k0' s6 hb6 H6
  go_wp2_with fail
  refine H7.out.mono ?_
  rintro e w7 ⟨rfl, hb7⟩
  replace T5 := Lib.hid (T5.out.ext hb7)
  replace R5 := Lib.hid (R5.out.ext hb7)
  replace HK : Hid (w7.cell? ⟨g6, o6, none⟩ = some (.string xa)) := by show _ = _; rw [hb7.cell (p := ⟨g6, o6, none⟩) (block_lt_of_cell HK.out)]; exact HK.out
  replace HB := Lib.hid (HB.out.trans (hb7.mono HB.out.size))
  have e0 := T5.out.c0
  have e1 := T5.out.c1
  have H8 := Lib.hid (len_any p2 2 w7)
  clear hb7 H7 u0 u1
  go_wp2_with fail
  refine H8.out.mono ?_
  rintro e w8 ⟨rfl, hb8⟩
  replace T5 := Lib.hid (T5.out.ext hb8)
  replace R5 := Lib.hid (R5.out.ext hb8)
  replace HK : Hid (w8.cell? ⟨g6, o6, none⟩ = some (.string xa)) := by show _ = _; rw [hb8.cell (p := ⟨g6, o6, none⟩) (block_lt_of_cell HK.out)]; exact HK.out
  replace HB := Lib.hid (HB.out.trans (hb8.mono HB.out.size))
  have H9 := Lib.hid (num_err 1 w8 (Hhg.out.below HB.out))
  clear hb8 H8 e0 e1
  go_wp2_with fail
  refine H9.out.mono ?_
  rintro e w9 ⟨rfl, hb9⟩
  replace T5 := Lib.hid (T5.out.ext hb9)
  replace R5 := Lib.hid (R5.out.ext hb9)
  have k9 : w9.cell? ⟨g6, o6, none⟩ = some (.string xa) := by rw [hb9.cell (p := ⟨g6, o6, none⟩) (block_lt_of_cell HK.out)]; exact HK.out
  replace HB := Lib.hid (HB.out.trans (hb9.mono HB.out.size))
  have hG2 := R5.out.one (by simp) (by simp)
  have Hh := Lib.hid (height_any p2 2 _ G2 w9 R5.out (by omega))
  rw [hG2] at Hh
  have e0 := T5.out.c0
  have e1 := T5.out.c1
  clear hb9 H9 HK hG2
  go_wp2_with fail
  refine Hh.out.mono ?_
  rintro e w10 ⟨rfl, hb10⟩
  replace HB := Lib.hid (HB.out.trans (hb10.mono HB.out.size))
  have Hh2 := Lib.hid (height_any none 0 [] 0 w10 (TreeP.none _) (by omega))
  clear hb10 Hh e0 e1 k9
  go_wp2_with fail
  refine Hh2.out.mono ?_
  rintro e w11 ⟨rfl, hb11⟩
  replace HB := Lib.hid (HB.out.trans (hb11.mono HB.out.size))
  clear hb11 Hh2
  go_wp2
  go_ret
  exact ⟨rfl, HB.out⟩
end Go.Proofs.YtpcndfdijjabkaaDoor
