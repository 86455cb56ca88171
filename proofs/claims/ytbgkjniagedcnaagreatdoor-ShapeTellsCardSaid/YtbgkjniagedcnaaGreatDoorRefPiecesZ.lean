/-
  The document's Pieces.
-/
import Derived.Test.YtbgkjniagedcnaaGreatDoorProg
import Derived.Test.YtbgkjniagedcnaaGreatDoorChainMathZ
import Derived.Test.YtbgkjniagedcnaaGreatDoorTextsZ
import Derived.WalkKit
import Derived.Lib.Hide
import Derived.Deep.LoopGhost
namespace Go.Proofs.YtbgkjniagedcnaaGreatDoor
open Go Go.RowKit

abbrev CST2 : TypeId := 9
abbrev CSS2 : TypeId := 73
theorem cell_text (w : World) (T : TypeId) (x : ByteArray) : (w.alloc (.cells #[.string x] T)).cell? ⟨w.heap.size, 0, none⟩ = some (.string x) := by simp
set_option maxRecDepth 100000 in
set_option maxHeartbeats 1000000 in
theorem refPieces_any (V : ByteArray) (w : World) (hV : V.size ≤ 1000000) :
    Calls Tryz.prog 28 #[.string V] w fun e w' => ∃ v, e = .returned v ∧ TxV w' v (chs V) ∧ Below w.heap.size w w' := by
  have HV := Lib.hid hV
  have h0 : Hid (V = restS V 0) := (rest_zero V).symm
  clear hV
  go_enter Tryz.func28, Tryz.ntmps28
  go_wp2_with fail
  go_loopg [0, 3] V.size (fun m v ov wr => ∃ (k : Nat) (R : ByteArray) (o : Value), v = .string R ∧ ov = o ∧ R.size = m ∧ m ≤ 1000000 ∧ Hid (R = restS V k ∧ (k = 0 ∨ 502 * k < V.size)) ∧ Hid (wr.ownsRow w.heap.size CST2 1 o (pcT V k).length (sv (pcT V k))) ∧ Hid (Below w.heap.size w wr))
  case atStart => exact ⟨0, V, _, rfl, rfl, rfl, HV.out, ⟨h0.out, .inl rfl⟩, World.ownsRow_nil _ _ _ _, Below.refl _ _⟩
  case round =>
    obtain ⟨k, R, o, rfl, rfl, hm, hm6, hR, hown, hB⟩ := hrel
    have hsz := hB.out.size
    have hrs : Hid (gk = V.size - 502 * k) := by show _ = _; rw [← hm, hR.out.1, rest_size]
    have hkl : Hid ((pcT V k).length ≤ 2000) := by
      show _ ≤ _; rw [pcT_len]
      have := HV.out
      rcases hR.out.2 with h | h <;> omega
    by_cases hlt : 502 < gk
    · have d1 : decide (502 < (R.size : Int)) = true := decide_eq_true (by omega)
      have d1' : decide (502 < R.size) = true := decide_eq_true (by omega)
      have hfit : Hid (502 * k + 502 ≤ V.size) := by have := hrs.out; show _ ≤ _; omega
      have hcut : Hid (R.extract 0 502 = cutS V k) := by show _ = _; rw [hR.out.1]; exact rest_cut V k
      have hrest : Hid (R.extract 502 R.size = restS V (k + 1)) := by show _ = _; rw [hR.out.1]; exact rest_rest V k hfit.out
      have z1 : (502 : Int) ≤ (R.size : Int) := by omega
      have z2 : 502 ≤ R.size := by omega
      have hms : Hid (R.size = gk) := hm
      clear hm
      go_wp2_with (at_builtin; refine wpList_append_text rfl (.tmp 7) (.tmp 10) CSS2 rfl w.heap.size CST2 Tryz.underlying73 infoStr _ (pcT V k) (by rfl) (hown.out.alloc _) wr.heap.size 1 (R.extract 0 502) (by rfl) (cell_text wr CST2 _) (by have := hkl.out; omega) (by simp; omega) ?_; intro v' w2 hown2 hgrow2)
      have hb2 : Hid (Below w.heap.size w w2) := (hB.out.alloc hsz _).grown hgrow2.out (by simp; omega) (fun j hj => (hown.out.lt j hj).1)
      have ho2 : Hid (w2.ownsRow w.heap.size CST2 1 v' (pcT V (k + 1)).length (sv (pcT V (k + 1)))) := by rw [pcT_succ, ← hcut.out]; exact hown2
      clear hown2 hgrow2 hown hB
      go_wp2
      go_roundg (gk - 502)
      case measure => omega
      case rel => exact ⟨k + 1, _, v', rfl, rfl, by rw [hrest.out, rest_size]; have := hrs.out; omega, by omega, ⟨hrest.out, .inr (by have := hrs.out; omega)⟩, ho2, hb2⟩
    · have d1 : decide (502 < (R.size : Int)) = false := decide_eq_false (by omega)
      have d1' : decide (502 < R.size) = false := decide_eq_false (by omega)
      by_cases hz : R.toList = []
      · have hz0 : R.size = 0 := by
          have h2 : bl R = [] := by show R.data.toList = []; rw [← ByteArray.toList_eq]; exact hz
          rw [← bl_size, h2]; rfl
        have hch : Hid (chs V = pcT V k) := by
          show _ = _
          have h1 := hrs.out
          have h2 := hR.out.2
          have h3 : V.size = 0 ∧ k = 0 := by omega
          unfold chs; rw [h3.1, h3.2]; rfl
        have hms : Hid (R.size = gk) := hm
        clear hm hz0
        go_wp2
        go_ret
        exact ⟨_, rfl, by rw [hch.out]; exact own_texts hown.out, hB.out⟩
      · have hz0 : 1 ≤ R.size := by
          have h2 : bl R ≠ [] := by show R.data.toList ≠ []; rw [← ByteArray.toList_eq]; exact hz
          have h3 : 0 < (bl R).length := List.length_pos_iff.2 h2
          rw [bl_size] at h3; exact h3
        have hch : Hid (chs V = pcT V (k + 1)) := by
          show _ = _
          have h1 := hrs.out
          unfold chs; congr 1; unfold nP; omega
        have hlast : Hid (R = cutS V k) := by
          show _ = _
          rw [hR.out.1]; exact rest_last V k (by have := hrs.out; omega)
        have hms : Hid (R.size = gk) := hm
        have hze : R.toList.isEmpty = false := List.isEmpty_eq_false_iff.2 hz
        clear hm hz0
        go_wp2_with (at_builtin; refine wpList_append_text rfl (.tmp 16) (.tmp 18) CSS2 rfl w.heap.size CST2 Tryz.underlying73 infoStr _ (pcT V k) (by rfl) (hown.out.alloc _) wr.heap.size 1 R (by rfl) (cell_text wr CST2 _) (by have := hkl.out; omega) (by simp; omega) ?_; intro v' w2 hown2 hgrow2)
        have hb2 : Hid (Below w.heap.size w w2) := (hB.out.alloc hsz _).grown hgrow2.out (by simp; omega) (fun j hj => (hown.out.lt j hj).1)
        have ho2 : Hid (w2.ownsRow w.heap.size CST2 1 v' (chs V).length (sv (chs V))) := by rw [hch.out, pcT_succ, ← hlast.out]; exact hown2
        clear hown2 hgrow2 hown hB
        go_wp2
        go_ret
        exact ⟨_, rfl, own_texts ho2.out, hb2.out⟩
end Go.Proofs.YtbgkjniagedcnaaGreatDoor
