/-
  The law's sure.
-/
import Derived.Test.YtbgkjniagedcnaaGreatDoorNodesZ
import Derived.Test.YtbgkjniagedcnaaGreatDoorCheck1Z
import Derived.Test.YtbgkjniagedcnaaGreatDoorChCountZ
import Derived.Test.YtbgkjniagedcnaaGreatDoorGrownZ
import Derived.Test.YtbgkjniagedcnaaGreatDoorAbcZ
import Derived.Test.YtbgkjniagedcnaaGreatDoorAsZ
namespace Go.Proofs.YtbgkjniagedcnaaGreatDoor
open Go Go.RowKit

def S2 (z : ByteArray) : List En := [⟨xa, xx, []⟩, ⟨xb, z, []⟩]
theorem s2_of (z : ByteArray) (hz : z.size = 600) : ofT [] (S2 z) = (S2 z, 0) := by
  have h1 := tp_ok (es := []) (key := xa) (v := xx) rfl (by decide) (by decide)
  have h2 := tp_ok (es := [⟨xa, xx, []⟩]) (key := xb) (v := z) rfl (by omega) (by decide)
  have e1 : rep [] xa [⟨xa, xx, []⟩] = [⟨xa, xx, []⟩] := rfl
  have e2 : rep [⟨xa, xx, []⟩] xb [⟨xb, z, []⟩] = S2 z := by
    have f : fE [⟨xa, xx, []⟩] xb = 1 := by simp [fE, b_ab]
    have g : isE [⟨xa, xx, []⟩] xb = false := by simp [isE, b_ab]
    unfold rep goneE; rw [f, g]; rfl
  rw [e1] at h1
  rw [e2] at h2
  unfold S2 at h2 ⊢
  simp only [ofT]
  rw [if_pos h1.1, h1.2, if_pos h2.1, h2.2]
theorem vs_600 : vs 600 = 2 := by rw [vs_big (by omega), vs_small (by omega)]
theorem s2_szs (z : ByteArray) (hz : z.size = 600) : szs (S2 z) = 10 := by
  have h1 : szE ⟨xa, xx, []⟩ = 4 := by
    unfold szE sizeS
    rw [show (xa.size) = 1 from rfl, show (xx.size) = 1 from rfl, vs_small (by omega)]
    rw [show (((1 : Nat) : Int)).toNat = 1 from rfl, vs_small (by omega)]
    rfl
  have h2 : szE ⟨xb, z, []⟩ = 6 := by
    unfold szE sizeS
    dsimp only
    rw [show (xb.size) = 1 from rfl, hz, vs_small (show 1 < 128 by omega), show (((600 : Nat) : Int)).toNat = 600 from rfl, vs_600]
    rfl
  unfold S2
  rw [szs_cons, szs_cons, h1, h2]; rfl
theorem s2_pgs (z : ByteArray) (hz : z.size = 600) : pgs (S2 z) = 2 := by
  have h1 : pnE ⟨xa, xx, []⟩ = 0 := rfl
  have h2 : pnE ⟨xb, z, []⟩ = 2 := by unfold pnE; dsimp only; rw [hz]; rfl
  unfold S2
  rw [pgs_cons, pgs_cons, h1, h2]; rfl
theorem s2_ok (z : ByteArray) (hz : z.size = 600) : ∀ x ∈ S2 z, okE x := fun x hx => by
  unfold S2 at hx
  simp only [List.mem_cons, List.not_mem_nil, or_false] at hx
  rcases hx with rfl | rfl
  · exact ⟨rfl, by decide⟩
  · exact ⟨rfl, by show z.size ≤ 2048; omega⟩
theorem s2_srt (z : ByteArray) : srt (S2 z) := by
  unfold S2 srt
  simp [b_ab]
theorem s2_most (z : ByteArray) (hz : z.size = 600) : mosN (S2 z) = 4 ∧ mosE (S2 z) = 0 := by
  have h := mayS_yes (s2_srt z) (s2_ok z hz) (by unfold S2; simp)
  unfold mosN mosE
  rw [if_pos h, if_pos h, s2_szs z hz, s2_pgs z hz]
  exact ⟨rfl, rfl⟩
theorem e1_most : mosN [⟨⟨#[]⟩, ⟨#[]⟩, []⟩] = 0 ∧ mosE [⟨⟨#[]⟩, ⟨#[]⟩, []⟩] = 1 := by
  have h : mayS [⟨⟨#[]⟩, ⟨#[]⟩, []⟩] = false := by
    unfold mayS
    simp [mbB, stepB, okB, okK, ea]
    intro h
    exact absurd h (by decide)
  unfold mosN mosE
  rw [h]; exact ⟨rfl, rfl⟩
theorem s2_ct {z : ByteArray} (hz : z.size = 600) {H L B : Nat} (h : CT0 H (S2 z) L B) : H = 1 ∧ L = 1 ∧ B = 0 := by
  obtain ⟨h1, h2, h3, h4, h5⟩ := h
  rw [s2_szs z hz] at h3
  have hH : H = 1 := by
    rcases Nat.lt_or_ge H 2 with h6 | h6
    · rcases Nat.eq_zero_or_pos H with h7 | h7
      · have := (h1 h7).2.2
        unfold S2 at this
        cases this
      · omega
    · have := h3 h6
      omega
  exact ⟨hH, h2 hH⟩
theorem infoU8s : (Tryz.prog.info? 5).map (fun i => (i.zero, i.size, i.bytes)) = some (some (.int .u8 0), 1, 1) := by kernel_rfl
set_option maxHeartbeats 4000000 in
set_option maxRecDepth 100000 in
theorem sure_any (w : World) (hg : Hg w) : Calls Tryz.prog 7 #[] w fun e w' => e = .returned (.bool true) ∧ Below w.heap.size w w' := by
  have Hg0 : Hid (∀ {w'}, Below w.heap.size w w' → Hg w') := fun h => hg.below h
  obtain ⟨W1, hmk, hrow, hb1⟩ := run_make_bytes (P := Tryz.prog) w 64 5 Tryz.underlying64 infoU8s .i64 .i64 600 (by omega)
  rw [show ((600 : Nat) : Int) = 600 from rfl] at hmk
  have hcv := conv_src (P := Tryz.prog) 64 5 9 Tryz.underlying64 Tryz.underlying5 Tryz.underlying9 (some ⟨w.heap.size, 0, none⟩) 600 600 (List.replicate 600 0) (List.length_replicate) W1 (row_src hrow)
  have hzs := bstr_size (List.replicate 600 0)
  rw [List.length_replicate] at hzs
  generalize bstr (List.replicate 600 0) = z at *
  clear hrow
  obtain ⟨W2, hW2, hn2, hb2⟩ := alloc_own W1 ET #[.string xa, .string xx, .string xb, .string z]
  have hlit : ES entE W2 (some ⟨W1.heap.size, 0, none⟩) (S2 z) := ES.lit (E := entE) (l := S2 z) hn2
  have hof := of_any (some ⟨W1.heap.size, 0, none⟩) 2 2 (S2 z) W2 rfl (fun _ => hlit.loose) (by decide)
  rw [s2_of z hzs] at hof
  have Hof := Lib.hid hof
  have Hz := Lib.hid hzs
  have HW2 := Lib.hid hW2
  have HB2 := Lib.hid (hb1.trans (hb2.mono hb1.size))
  clear hW2 hn2 hb2 hlit hof hzs hb1 hg
  go_enter Tryz.func7, Tryz.ntmps7
  go_wp2_with fail
  rw [HW2.out]
  refine Hof.out.mono ?_
  rintro e w3 ⟨p, H, rfl, ht, hb3⟩
  rw [show (S2 z).length = 2 from rfl, show errC ((0 : Nat) : Int) = .nilIface from rfl]
  obtain ⟨W4, hW4, hT4, hb4⟩ : ∃ W, w3.alloc (.cells #[.pointer p, .int .i64 2] TT) = W ∧ TB W w3.heap.size p 2 ∧ Below w3.heap.size w3 W := ⟨_, rfl, heap_new w3 TT _, (Below.refl _ _).alloc (Nat.le_refl _) _⟩
  obtain ⟨bt, hbt⟩ : ∃ bt, w3.heap.size = bt := ⟨_, rfl⟩
  rw [hbt] at hT4
  have hb03 := HB2.out.trans (hb3.mono HB2.out.size)
  have HB4 := Lib.hid (hb03.trans (hb4.mono hb03.size))
  have HTr := Lib.hid (ht.ext hb4)
  have HT4 := Lib.hid hT4
  have HW4 := Lib.hid hW4
  have hofs := shOf_any p (S2 z) H W4 HTr.out (by unfold S2; simp)
  rw [show (((S2 z).length : Nat) : Int) = 2 from rfl] at hofs
  have Hofs := Lib.hid hofs
  clear hW4 hT4 hb4 hb03 ht hb3 hofs Hof hmk hcv
  go_wp2_with fail
  rw [HW4.out]
  refine Hofs.out.mono ?_
  rintro e w5 ⟨L, B, rfl, hct, hb5⟩
  obtain ⟨rfl, rfl, rfl⟩ := s2_ct Hz.out hct
  rw [s2_szs z Hz.out, s2_pgs z Hz.out, show (((S2 z).length : Nat) : Int) = 2 from rfl, show ((1 : Nat) : Int) = 1 from rfl, show ((0 : Nat) : Int) = 0 from rfl, show ((10 : Nat) : Int) = 10 from rfl, show ((2 : Nat) : Int) = 2 from rfl]
  obtain ⟨W6, hW6, hF6, hb6⟩ : ∃ W, w5.alloc (.cells #[.int .i64 2, .int .i64 1, .int .i64 1, .int .i64 0, .int .i64 2, .int .i64 10] FAT) = W ∧ FB W w5.heap.size 2 1 1 0 2 10 ∧ Below w5.heap.size w5 W := ⟨_, rfl, FB.new w5 _ _ _ _ _ _, (Below.refl _ _).alloc (Nat.le_refl _) _⟩
  obtain ⟨bf, hbf⟩ : ∃ bf, w5.heap.size = bf := ⟨_, rfl⟩
  rw [hbf] at hF6
  have hx6 := hb5.trans (hb6.mono hb5.size)
  have HT6 := Lib.hid (HT4.out.ext hx6)
  have HTr6 := Lib.hid (HTr.out.ext hx6)
  have HB6 := Lib.hid (HB4.out.trans (hx6.mono HB4.out.size))
  have HF6 := Lib.hid hF6
  have HW6 := Lib.hid hW6
  have a0 := HT6.out.c0
  have a1 := HT6.out.c1
  rw [← hW6] at a0 a1
  have Hall := Lib.hid (all_any p (S2 z) 1 W6 HTr6.out (by unfold S2; simp))
  rw [show (((S2 z).length : Nat) : Int) = 2 from rfl] at Hall
  clear hW6 hF6 hb6 hx6 hb5 hct HT4 HTr HB4 HW4 Hofs
  go_wp2_with fail
  rw [HW6.out]
  refine Hall.out.mono ?_
  rintro e w7 ⟨v7, rfl, ⟨a7, c7, rfl, hs7, _⟩, hb7⟩
  rw [show (S2 z).length = 2 from rfl]
  have Hmo := Lib.hid (shMost_any a7 2 c7 (S2 z) w7 rfl hs7 (fun x hx => by have := s2_ok z Hz.out x hx; have h1 := okK_size this.1; have h2 := this.2; omega) (by omega))
  rw [(s2_most z Hz.out).1, (s2_most z Hz.out).2] at Hmo
  have HT7 := Lib.hid (HT6.out.ext hb7)
  have HTr7 := Lib.hid (HTr6.out.ext hb7)
  have HF7 := Lib.hid (HF6.out.ext hb7)
  have HB7 := Lib.hid (HB6.out.trans (hb7.mono HB6.out.size))
  clear hb7 hs7 HT6 HTr6 HF6 HB6 Hall a0 a1 HW6
  go_wp2_with fail
  refine Hmo.out.mono ?_
  rintro e w8 ⟨rfl, hb8⟩
  rw [show errC ((0 : Nat) : Int) = .nilIface from rfl]
  obtain ⟨W9, hW9, hn9, hb9⟩ := alloc_own w8 ET #[.string ⟨#[]⟩, .string ⟨#[]⟩]
  have hlit : ES entE W9 (some ⟨w8.heap.size, 0, none⟩) [⟨⟨#[]⟩, ⟨#[]⟩, []⟩] := ES.lit (E := entE) (l := [⟨⟨#[]⟩, ⟨#[]⟩, []⟩]) hn9
  have Hm2 := Lib.hid (shMost_any (some ⟨w8.heap.size, 0, none⟩) 1 1 [⟨⟨#[]⟩, ⟨#[]⟩, []⟩] W9 rfl hlit (fun x hx => by simp at hx; subst hx; exact ⟨by decide, by decide⟩) (by omega))
  rw [e1_most.1, e1_most.2] at Hm2
  have hx9 := hb8.trans (hb9.mono hb8.size)
  have HT9 := Lib.hid (HT7.out.ext hx9)
  have HTr9 := Lib.hid (HTr7.out.ext hx9)
  have HF9 := Lib.hid (HF7.out.ext hx9)
  have HB9 := Lib.hid (HB7.out.trans (hx9.mono HB7.out.size))
  have HW9 := Lib.hid hW9
  clear hW9 hn9 hb9 hlit hx9 hb8 HT7 HTr7 HF7 HB7 Hmo
  go_wp2_with fail
  rw [HW9.out]
  refine Hm2.out.mono ?_
  rintro e w10 ⟨rfl, hb10⟩
  rw [show errC ((1 : Nat) : Int) = .iface 69 (.int .i64 1) from rfl]
  have HT10 := Lib.hid (HT9.out.ext hb10)
  have HTr10 := Lib.hid (HTr9.out.ext hb10)
  have HF10 := Lib.hid (HF9.out.ext hb10)
  have HB10 := Lib.hid (HB9.out.trans (hb10.mono HB9.out.size))
  have Hn1 := Lib.hid (num_nil w10)
  clear hb10 HT9 HTr9 HF9 HB9 Hm2
  go_wp2_with fail
  refine Hn1.out.mono ?_
  rintro e w11 ⟨rfl, hb11⟩
  have HT11 := Lib.hid (HT10.out.ext hb11)
  have HTr11 := Lib.hid (HTr10.out.ext hb11)
  have hF11 := HF10.out.ext hb11
  have HF11 := Lib.hid hF11
  have HB11 := Lib.hid (HB10.out.trans (hb11.mono HB10.out.size))
  have c0 := hF11.c0
  have c1 := hF11.c1
  have c2 := hF11.c2
  have c3 := hF11.c3
  have c4 := hF11.c4
  have c5 := hF11.c5
  have Hpg := Lib.hid (pages_any 2 1 10 1 0 2 w11 (by omega))
  clear hb11 HT10 HTr10 HF10 HB10 Hn1 hF11
  go_wp2_with fail
  refine Hpg.out.mono ?_
  rintro e w12 ⟨rfl, hb12⟩
  have hT12 := HT11.out.ext hb12
  have HT12 := Lib.hid hT12
  have HTr12 := Lib.hid (HTr11.out.ext hb12)
  have HB12 := Lib.hid (HB11.out.trans (hb12.mono HB11.out.size))
  have a0 := hT12.c0
  have a1 := hT12.c1
  have Hck := Lib.hid (shCheck_any p (S2 z) 1 w12 HTr12.out (by unfold S2; simp))
  rw [show (((S2 z).length : Nat) : Int) = 2 from rfl] at Hck
  clear hb12 hT12 HT11 HTr11 HB11 Hpg c0 c1 c2 c3 c4 c5
  go_wp2_with fail
  refine Hck.out.mono ?_
  rintro e w13 ⟨rfl, hb13⟩
  have HB13 := Lib.hid (HB12.out.trans (hb13.mono HB12.out.size))
  have Hn2 := Lib.hid (num_err 1 w13 (Hg0.out HB13.out))
  clear hb13 HB12 a0 a1 Hck
  go_wp2_with fail
  refine Hn2.out.mono ?_
  rintro e w14 ⟨rfl, hb14⟩
  have HB14 := Lib.hid (HB13.out.trans (hb14.mono HB13.out.size))
  clear hb14 Hn2
  go_wp2
  go_ret
  exact ⟨rfl, HB14.out⟩
end Go.Proofs.YtbgkjniagedcnaaGreatDoor
