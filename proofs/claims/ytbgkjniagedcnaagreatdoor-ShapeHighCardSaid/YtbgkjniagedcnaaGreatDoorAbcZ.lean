/-
  Short texts: their order; a put that goes well.
-/
import Derived.Test.YtbgkjniagedcnaaGreatDoorRefTreeZ
import Derived.Test.YtbgkjniagedcnaaGreatDoorKeysMathZ
namespace Go.Proofs.YtbgkjniagedcnaaGreatDoor
open Go Go.RowKit

abbrev xa : ByteArray := ⟨#[97]⟩
abbrev xb : ByteArray := ⟨#[98]⟩
abbrev xc : ByteArray := ⟨#[99]⟩
abbrev xx : ByteArray := ⟨#[120]⟩
abbrev xn : ByteArray := ⟨#[]⟩
abbrev spA : Sp := ⟨xn, xn, true⟩
theorem b_ab : blt xa xb = true := by rw [blt_iff]; decide
theorem b_ac : blt xa xc = true := by rw [blt_iff]; decide
theorem b_bc : blt xb xc = true := by rw [blt_iff]; decide
theorem b_ba : blt xb xa = false := by rw [blt_not]; decide
theorem b_ca : blt xc xa = false := by rw [blt_not]; decide
theorem b_cb : blt xc xb = false := by rw [blt_not]; decide
theorem b_an : blt xa xn = false := by rw [blt_not]; decide
theorem b_bn : blt xb xn = false := by rw [blt_not]; decide
theorem b_cn : blt xc xn = false := by rw [blt_not]; decide
theorem n_ba : (xb.toList == xa.toList) = false := blt_ne' b_ab
theorem n_ca : (xc.toList == xa.toList) = false := blt_ne' b_ac
theorem n_cb : (xc.toList == xb.toList) = false := blt_ne' b_bc
theorem n_ab : (xa.toList == xb.toList) = false := blt_ne b_ab
theorem n_ac : (xa.toList == xc.toList) = false := blt_ne b_ac
theorem n_bc : (xb.toList == xc.toList) = false := blt_ne b_bc
theorem tp_ok13 {es : List En} {key v : ByteArray} (hk : okK key = true) (hv : v.size ≤ 2048) (hl : es.length < 4096) : tpF es key v = 0 ∧ tpL es key v = rep es key [⟨key, v, []⟩] := by
  have : tpF es key v = 0 := by unfold tpF; rw [if_neg (by rw [hk]; decide), if_neg (by omega), if_neg (fun h => by omega)]
  exact ⟨this, by unfold tpL; rw [this]; rfl⟩
end Go.Proofs.YtbgkjniagedcnaaGreatDoor
