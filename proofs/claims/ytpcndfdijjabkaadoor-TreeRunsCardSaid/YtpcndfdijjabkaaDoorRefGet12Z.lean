/-
  The document's Get.
-/
import Derived.Test.YtpcndfdijjabkaaDoorRefTreeZ
namespace Go.Proofs.YtpcndfdijjabkaaDoor
open Go Go.RowKit

set_option maxRecDepth 100000 in
theorem refGet_any (a : Option Addr) (n c : Nat) (es : List En) (key : ByteArray) (w : World) (hn : es.length = n) (hs : ES entE w a es) (hl : n ≤ 100000) :
    Calls Tryd.prog 14 #[.slice a n c, .string key] w fun e w' => e = .returned (.tuple #[.string (getE es key), .bool (isE es key)]) ∧ Below w.heap.size w w' := by
  have Hat := Lib.hid (refAt_any a n c es key w hn hs hl)
  have hie := isE_eq es key
  have hget : getE es key = if isE es key = true then (ea es (fE es key)).v else ByteArray.empty := rfl
  cases hI : isE es key with
  | false =>
    rw [hI] at Hat hget
    have Hg : Hid (getE es key = ByteArray.empty) := hget
    clear hie hget hI hs hn
    go_enter Tryd.func14, Tryd.ntmps14
    go_wp2_with fail
    refine Hat.out.mono ?_
    rintro e w1 ⟨rfl, hb1⟩
    have HB := Lib.hid hb1
    clear hb1 Hat
    go_wp2
    go_ret2
    exact ⟨by rw [Hg.out]; rfl, HB.out⟩
  | true =>
    rw [hI] at Hat hget hie
    have Hg : Hid (getE es key = (ea es (fE es key)).v) := hget
    have hF : fE es key < n := by
      have := hie.symm
      rw [Bool.and_eq_true, decide_eq_true_iff, hn] at this
      exact this.1
    obtain ⟨g, o, rfl, hcell⟩ := hs.ents (by omega)
    have p0 := (hcell (fE es key) (by omega)).2
    have Hp := Lib.hid p0
    clear hie hget hI hs hn hcell p0
    generalize fE es key = F at *
    have hF' : (F : Int) < (n : Int) := by omega
    generalize (ea es F).v = y at *
    go_enter Tryd.func14, Tryd.ntmps14
    go_wp2_with fail
    refine Hat.out.mono ?_
    rintro e w1 ⟨rfl, hb1⟩
    have HB := Lib.hid hb1
    have q1 : w1.cell? ⟨g, o + F * 2 + 1, none⟩ = some (.string y) := by
      rw [hb1.cell (p := ⟨g, o + F * 2 + 1, none⟩) (block_lt_of_cell Hp.out)]; exact Hp.out
    clear hb1 Hat
    go_wp2
    go_ret2
    exact ⟨by rw [Hg.out]; rfl, HB.out⟩
end Go.Proofs.YtpcndfdijjabkaaDoor
