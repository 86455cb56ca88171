/-
  Layer 8's sure.
-/
import Derived.Test.YtmgbdbpknocgjaaDoorLists2
import Derived.Test.YtmgbdbpknocgjaaDoorDecode
import Derived.Test.YtmgbdbpknocgjaaDoorFind
import Derived.Test.YtmgbdbpknocgjaaDoorNum2
namespace Go.Proofs.YtmgbdbpknocgjaaDoor
open Go Go.RowKit

def CA : Ce := ⟨⟨#[97]⟩, ⟨#[120, 121]⟩, 2, 0⟩
def CB : Ce := ⟨⟨#[]⟩, ⟨#[]⟩, 0, 0⟩
def L6 : List Nat := [1, 1, 97, 2, 120, 121]
theorem CA_load : loadS [CA] = L6 := by decide +kernel
theorem one_may {c : Ce} (h : mayB c = true) : allMay [c] := fun i hi => by
  obtain rfl : i = 0 := by simpa using hi
  exact h
theorem one_asc (c : Ce) : asc [c] := fun i h0 hi => by simp at hi; omega
theorem CA_enc : encE [CA] = 0 ∧ encB [CA] = L6 := by
  have := enc_0 (cs := [CA]) (one_may (by decide +kernel)) (one_asc CA) (by rw [CA_load]; decide)
  rw [CA_load] at this; exact this
theorem CA_dec : decC L6 = [CA] ∧ decE L6 = 0 := by
  have := decS_load (cs := [CA]) (one_may (by decide +kernel)) (one_asc CA) (by rw [CA_load]; decide)
  rw [CA_load] at this; exact dec_some this
theorem CB_enc : encE [CB] = 1 ∧ encB [CB] = [] := enc_1 (fun h => by
  have := h 0 (by simp)
  revert this
  decide +kernel)
theorem CA_find : findS [CA] ⟨#[98]⟩ = 1 ∧ isAt [CA] ⟨#[98]⟩ = false := by decide +kernel
theorem size_100 : sizeS ⟨#[97]⟩ 100 = 5 := by decide +kernel
theorem size_2 : sizeS ⟨#[97]⟩ 2 = 5 := by decide +kernel
theorem csrc_one (w : World) (E : TypeId) (c : Ce) : CSrc (w.alloc (.cells #[.string c.k, .string c.v, .int .i64 c.n, .int .i64 c.p] E)) (some ⟨w.heap.size, 0, none⟩) [c] := fun _ => ⟨_, 0, rfl, fun i hi => by
  obtain rfl : i = 0 := by simpa using hi
  exact cat_new w E c⟩
theorem L6_b8 : B8 L6 := fun x hx => by
  unfold L6 at hx
  simp at hx; omega
set_option maxRecDepth 100000 in
set_option maxHeartbeats 1000000 in
theorem sure_any (w : World) (hg : Hg w) : Calls Tryd.prog 6 #[] w fun e w' => e = .returned (.bool true) ∧ Below w.heap.size w w' := by
  have HG := Lib.hid hg
  have hb0 : Below w.heap.size w (w.alloc (.cells #[.string ⟨#[97]⟩, .string ⟨#[120, 121]⟩, .int .i64 2, .int .i64 0] CT)) := (Below.refl _ _).alloc (Nat.le_refl _) _
  have he1 := Lib.hid (encode_any (some ⟨w.heap.size, 0, none⟩) 1 1 [CA] (w.alloc (.cells #[.string ⟨#[97]⟩, .string ⟨#[120, 121]⟩, .int .i64 2, .int .i64 0] CT)) rfl (csrc_one w CT CA) (by omega))
  rw [CA_enc.1, CA_enc.2] at he1
  have Hb0 := Lib.hid hb0
  clear hg hb0
  go_enter Tryd.func6, Tryd.ntmps6
  go_wp2_with fail
  refine he1.out.mono ?_
  rintro e w1 ⟨v, rfl, hv, hb1⟩
  rw [errV_0]
  have Hv := Lib.hid hv
  have Hb1 := Lib.hid (Hb0.out.trans (hb1.mono Hb0.out.size))
  obtain ⟨a1, c1, rfl, hs1, hz1, _⟩ := hv.arg
  rw [show L6.length = 6 from rfl] at Hv ⊢
  have hd := Lib.hid (decode_any a1 6 c1 L6 w1 rfl hs1 hz1 (by omega) L6_b8)
  rw [CA_dec.1, CA_dec.2] at hd
  clear hv hb1 hs1 hz1 he1 Hb0
  go_wp2_with fail
  refine hd.out.mono ?_
  rintro e w2 ⟨v, rfl, hv, hb2⟩
  rw [errV_0]
  obtain ⟨a2, c2, rfl, hs2, _⟩ := hv
  rw [show [CA].length = 1 from rfl]
  have Hv2 := Lib.hid (Hv.out.below hb2 (Nat.le_refl _))
  have Hb2 := Lib.hid (Hb1.out.trans (hb2.mono Hb1.out.size))
  have Hs2 := Lib.hid hs2
  have hf := Lib.hid (find_any a2 1 c2 [CA] ⟨#[98]⟩ w2 rfl hs2 (one_asc CA) (by omega))
  rw [CA_find.1, CA_find.2] at hf
  clear hs2 hb2 hd Hb1 Hv
  go_wp2_with fail
  refine hf.out.mono ?_
  rintro e w3 ⟨rfl, hb3⟩
  have Hv3 := Lib.hid (Hv2.out.below hb3 (Nat.le_refl _))
  have Hb3 := Lib.hid (Hb2.out.trans (hb3.mono Hb2.out.size))
  have Hs3 := Lib.hid (Hs2.out.below hb3 (Nat.le_refl _))
  have hb4 : Below w3.heap.size w3 (w3.alloc (.cells #[.string ⟨#[]⟩, .string ⟨#[]⟩, .int .i64 0, .int .i64 0] CT)) := (Below.refl _ _).alloc (Nat.le_refl _) _
  have he2 := Lib.hid (encode_any (some ⟨w3.heap.size, 0, none⟩) 1 1 [CB] (w3.alloc (.cells #[.string ⟨#[]⟩, .string ⟨#[]⟩, .int .i64 0, .int .i64 0] CT)) rfl (csrc_one w3 CT CB) (by omega))
  rw [CB_enc.1] at he2
  have Hb4 := Lib.hid (Hb3.out.trans (hb4.mono Hb3.out.size))
  have Hv4 := Lib.hid (Hv3.out.below hb4 (Nat.le_refl _))
  have Hs4 := Lib.hid (Hs3.out.below hb4 (Nat.le_refl _))
  clear hb3 hf Hb2 Hs2 Hv2 hb4 Hv3 Hs3 Hb3
  go_wp2_with fail
  refine he2.out.mono ?_
  rintro e w5 ⟨v, rfl, _, hb5⟩
  rw [show errV 1 = .iface 51 (.int .i64 1) from rfl]
  have Hb5 := Lib.hid (Hb4.out.trans (hb5.mono Hb4.out.size))
  have hcv := (Hv4.out.below hb5 (Nat.le_refl _)).conv
  rw [show bstr L6 = ⟨#[1, 1, 97, 2, 120, 121]⟩ from rfl] at hcv
  obtain ⟨g, o, rfl, hcell⟩ := (Hs4.out.below hb5 (Nat.le_refl _)) (by simp)
  have c1 := (hcell 0 (by simp)).c1
  rw [Nat.zero_mul, Nat.add_zero] at c1
  have c1' : w5.cell? ⟨g, o + 1, none⟩ = some (.string ⟨#[120, 121]⟩) := c1
  have hs5 := fun w => leafSize_any ⟨#[97]⟩ 100 w (by decide) (by omega)
  have hs6 := fun w => leafSize_any ⟨#[97]⟩ 2 w (by decide) (by omega)
  have e5 : sizeS ⟨#[97]⟩ (100 : Nat) = 5 := size_100
  have e6 : sizeS ⟨#[97]⟩ (2 : Nat) = 5 := size_2
  rw [e5] at hs5
  rw [e6] at hs6
  clear hb5 he2 Hb4 Hv4 Hs4 hcell c1 e5 e6
  go_wp2_with fail
  refine (num_err 1 w5 (HG.out.below Hb5.out)).mono ?_
  rintro e w6 ⟨rfl, hb6⟩
  have Hb6 := Lib.hid (Hb5.out.trans (hb6.mono Hb5.out.size))
  clear hb6 Hb5 hcv c1'
  go_wp2_with fail
  refine (hs5 _).mono ?_
  rintro e w' ⟨rfl, rfl⟩
  go_wp2_with fail
  refine (hs6 _).mono ?_
  rintro e w' ⟨rfl, rfl⟩
  go_wp2
  go_ret
  exact ⟨rfl, Hb6.out⟩
end Go.Proofs.YtmgbdbpknocgjaaDoor
