/-
  Layer 9's sure.
-/
import Derived.Test.YtjlllkdimfkjaaaDoorBranch4
import Derived.Test.YtjlllkdimfkjaaaDoorNum2
namespace Go.Proofs.YtjlllkdimfkjaaaDoor
open Go Go.RowKit

def KB : List ByteArray := [⟨#[98]⟩]
def KBD : List ByteArray := [⟨#[98]⟩, ⟨#[100]⟩]
def I23 : List Int := [2, 3]
def LB6 : List Nat := [0, 2, 1, 98, 0, 3]
theorem KB_keys : keysF KB := fun i hi => by
  obtain rfl : i = 0 := by simpa [KB] using hi
  exact ⟨by decide +kernel, by decide +kernel⟩
theorem KBD_keys : keysF KBD := fun i hi => by
  have h : i = 0 ∨ i = 1 := by have : i < 2 := hi; omega
  rcases h with rfl | rfl
  · exact ⟨by decide +kernel, by decide +kernel⟩
  · exact ⟨by decide +kernel, by decide +kernel⟩
theorem KB_may : mayF KB I23 := by
  refine ⟨KB_keys, fun i hi => ?_, Nat.le_refl _, rfl⟩
  have h : i = 0 ∨ i = 1 := by have : i < 2 := hi; omega
  rcases h with rfl | rfl
  · exact ⟨by decide, fun j hj => by omega⟩
  · refine ⟨by decide, fun j hj => ?_⟩
    obtain rfl : j = 0 := by omega
    decide
theorem KB_load : forkS KB I23 = LB6 := by decide +kernel
theorem KB_enc : encFE KB I23 = 0 ∧ encFB KB I23 = LB6 := by
  have := encF_0 KB_may (by rw [KB_load]; decide)
  rw [KB_load] at this; exact this
theorem KB_dec : decFK LB6 = KB ∧ decFI LB6 = I23 ∧ decFE LB6 = 0 := by
  have := decFS_load KB_may (by rw [KB_load]; decide)
  rw [KB_load] at this; exact decF_yes this
theorem no_enc : encFE [] [2] = 1 ∧ encFB [] [2] = [] := encF_1 (fun h => by have := h.2.2.1; simp at this)
theorem way_b : wayS KBD ⟨#[98]⟩ = 1 := by decide +kernel
theorem way_a : wayS KBD ⟨#[97]⟩ = 0 := by decide +kernel
theorem LB6_b8 : B8 LB6 := fun x hx => by
  unfold LB6 at hx
  simp at hx; omega
theorem txs_one (w : World) (T : TypeId) (x : ByteArray) : TxS (w.alloc (.cells #[.string x] T)) (some ⟨w.heap.size, 0, none⟩) [x] := fun _ => ⟨_, 0, rfl, fun i hi => by
  obtain rfl : i = 0 := by simpa using hi
  simp [sa]⟩
theorem txs_two (w : World) (T : TypeId) (x y : ByteArray) : TxS (w.alloc (.cells #[.string x, .string y] T)) (some ⟨w.heap.size, 0, none⟩) [x, y] := fun _ => ⟨_, 0, rfl, fun i hi => by
  have h : i = 0 ∨ i = 1 := by have : i < 2 := hi; omega
  rcases h with rfl | rfl <;> simp [sa]⟩
theorem pgs_one (w : World) (T : TypeId) (x : Int) : PgS (w.alloc (.cells #[.int .i64 x] T)) (some ⟨w.heap.size, 0, none⟩) [x] := fun _ => ⟨_, 0, rfl, fun i hi => by
  obtain rfl : i = 0 := by simpa using hi
  simp [ia]⟩
theorem pgs_two (w : World) (T : TypeId) (x y : Int) : PgS (w.alloc (.cells #[.int .i64 x, .int .i64 y] T)) (some ⟨w.heap.size, 0, none⟩) [x, y] := fun _ => ⟨_, 0, rfl, fun i hi => by
  have h : i = 0 ∨ i = 1 := by have : i < 2 := hi; omega
  rcases h with rfl | rfl <;> simp [ia]⟩
set_option maxRecDepth 100000 in
set_option maxHeartbeats 1000000 in
theorem sure_any (w : World) (hg : Hg w) : Calls Tryd.prog 6 #[] w fun e w' => e = .returned (.bool true) ∧ Below w.heap.size w w' := by
  have HG := Lib.hid hg
  obtain ⟨w0, hw0⟩ : ∃ w0, w0 = (w.alloc (.cells #[.string ⟨#[98]⟩] STY)).alloc (.cells #[.int .i64 2, .int .i64 3] ITY) := ⟨_, rfl⟩
  have e0 : (w.alloc (.cells #[.string ⟨#[98]⟩] STY)).heap.size = w.heap.size + 1 := by simp
  have hb0 : Hid (Below w.heap.size w w0) := by rw [hw0]; exact ((Below.refl _ _).alloc (Nat.le_refl _) _).alloc (by simp) _
  have ht0 : TxS w0 (some ⟨w.heap.size, 0, none⟩) KB := by rw [hw0]; exact (txs_one w STY _).below ((Below.refl _ _).alloc (Nat.le_refl _) _) (Nat.le_refl _)
  have hp0 : PgS w0 (some ⟨w.heap.size + 1, 0, none⟩) I23 := by rw [hw0, ← e0]; exact pgs_two _ _ _ _
  have he1 := Lib.hid (brEncode_any (some ⟨w.heap.size, 0, none⟩) (some ⟨w.heap.size + 1, 0, none⟩) 1 1 2 2 KB I23 w0 rfl rfl ht0 hp0 (by omega) (by omega))
  rw [KB_enc.1, KB_enc.2] at he1
  have hw0' := Lib.hid hw0.symm
  clear hg hw0 e0 ht0 hp0
  go_enter Tryd.func6, Tryd.ntmps6
  go_wp2_with fail
  rw [hw0'.out]
  refine he1.out.mono ?_
  rintro e w1 ⟨v, rfl, hv, hb1⟩
  rw [errV_0]
  have Hv := Lib.hid hv
  have Hb1 := Lib.hid (hb0.out.trans (hb1.mono hb0.out.size))
  obtain ⟨a1, c1, rfl, hs1, hz1, _⟩ := hv.arg
  rw [show LB6.length = 6 from rfl] at Hv ⊢
  have hd := Lib.hid (brDecode_any a1 6 c1 LB6 w1 rfl hs1 hz1 (by omega) LB6_b8)
  rw [KB_dec.1, KB_dec.2.1, KB_dec.2.2] at hd
  clear hv hb1 hs1 hz1 he1 hb0 hw0'
  go_wp2_with fail
  refine hd.out.mono ?_
  rintro e w2 ⟨u, v, rfl, hu, hv2, hb2⟩
  rw [errV_0]
  obtain ⟨a2, c2, rfl, _⟩ := hu
  obtain ⟨a3, c3, rfl, hp3, _⟩ := hv2
  rw [show KB.length = 1 from rfl, show I23.length = 2 from rfl]
  obtain ⟨w3, hw3⟩ : ∃ w3, w3 = (w2.alloc (.cells #[.slice a2 1 c2, .slice a3 2 c3] FT)).alloc (.cells #[.int .i64 2] ITY) := ⟨_, rfl⟩
  have e2 : (w2.alloc (.cells #[.slice a2 1 c2, .slice a3 2 c3] FT)).heap.size = w2.heap.size + 1 := by simp
  have hb23 : Below w2.heap.size w2 w3 := by rw [hw3]; exact ((Below.refl _ _).alloc (Nat.le_refl _) _).alloc (by simp) _
  have hf3 : Hid (PB w3 w2.heap.size FT (.slice a2 1 c2) (.slice a3 2 c3)) := by rw [hw3]; exact (PB.new _ _ _ _).stay _
  have hpp : PgS w3 (some ⟨w2.heap.size + 1, 0, none⟩) [2] := by rw [hw3, ← e2]; exact pgs_one _ _ _
  have he2 := Lib.hid (brEncode_any none (some ⟨w2.heap.size + 1, 0, none⟩) 0 0 1 1 [] [2] w3 rfl rfl (TxS.nil _ _) hpp (by omega) (by omega))
  rw [no_enc.1] at he2
  have Hv3 := Lib.hid ((Hv.out.below hb2 (Nat.le_refl _)).below hb23 (Nat.le_refl _))
  have Hb3 := Lib.hid ((Hb1.out.trans (hb2.mono Hb1.out.size)).trans (hb23.mono (Nat.le_trans Hb1.out.size hb2.size)))
  have Hp3 := Lib.hid (hp3.below hb23 (Nat.le_refl _))
  have hw3' := Lib.hid hw3.symm
  clear hb2 hd Hb1 Hv hw3 e2 hb23 hpp hp3
  go_wp2_with fail
  rw [hw3'.out]
  refine he2.out.mono ?_
  rintro e w5 ⟨v, rfl, _, hb5⟩
  rw [show errV 1 = .iface 47 (.int .i64 1) from rfl]
  have Hb5 := Lib.hid (Hb3.out.trans (hb5.mono Hb3.out.size))
  have hcv := (Hv3.out.below hb5 (Nat.le_refl _)).conv
  rw [show bstr LB6 = ⟨#[0, 2, 1, 98, 0, 3]⟩ from rfl] at hcv
  have hf5 := hf3.out.ext hb5
  have f1 := hf5.c1
  obtain ⟨g, o, rfl, hcell⟩ := (Hp3.out.below hb5 (Nat.le_refl _)) (by decide)
  have q1 := hcell 1 (by decide)
  have q1' : w5.cell? ⟨g, o + 1, none⟩ = some (.int .i64 3) := q1
  clear hb5 he2 Hb3 Hv3 hcell q1 hf5 hf3 Hp3 hw3'
  go_wp2_with fail
  refine (num_err 1 w5 (HG.out.below Hb5.out)).mono ?_
  rintro e w6 ⟨rfl, hb6⟩
  have Hb6 := Lib.hid (Hb5.out.trans (hb6.mono Hb5.out.size))
  clear hb6 Hb5 hcv f1 q1'
  have hn6 : Below w6.heap.size w6 (w6.alloc (.cells #[.string ⟨#[98]⟩, .string ⟨#[100]⟩] STY)) := (Below.refl _ _).alloc (Nat.le_refl _) _
  have hwy := Lib.hid (brWay_any (some ⟨w6.heap.size, 0, none⟩) 2 2 KBD ⟨#[98]⟩ (w6.alloc (.cells #[.string ⟨#[98]⟩, .string ⟨#[100]⟩] STY)) rfl (txs_two _ _ _ _) KBD_keys (by omega))
  rw [way_b] at hwy
  have Hb7 := Lib.hid (Hb6.out.trans (hn6.mono Hb6.out.size))
  clear hn6 Hb6
  go_wp2_with fail
  refine hwy.out.mono ?_
  rintro e w7 ⟨rfl, hb7⟩
  have Hb8 := Lib.hid (Hb7.out.trans (hb7.mono Hb7.out.size))
  have hn7 : Below w7.heap.size w7 (w7.alloc (.cells #[.string ⟨#[98]⟩, .string ⟨#[100]⟩] STY)) := (Below.refl _ _).alloc (Nat.le_refl _) _
  have hwy2 := Lib.hid (brWay_any (some ⟨w7.heap.size, 0, none⟩) 2 2 KBD ⟨#[97]⟩ (w7.alloc (.cells #[.string ⟨#[98]⟩, .string ⟨#[100]⟩] STY)) rfl (txs_two _ _ _ _) KBD_keys (by omega))
  rw [way_a] at hwy2
  have Hb9 := Lib.hid (Hb8.out.trans (hn7.mono Hb8.out.size))
  clear hb7 hwy Hb7 hn7 Hb8
  go_wp2_with fail
  refine hwy2.out.mono ?_
  rintro e w8 ⟨rfl, hb8⟩
  have Hbe := Lib.hid (Hb9.out.trans (hb8.mono Hb9.out.size))
  clear hb8 hwy2 Hb9
  go_wp2
  go_ret
  exact ⟨rfl, Hbe.out⟩
end Go.Proofs.YtjlllkdimfkjaaaDoor
