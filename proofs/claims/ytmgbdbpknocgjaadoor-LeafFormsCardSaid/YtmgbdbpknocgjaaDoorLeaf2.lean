/-
  leaf's Size, put; the document's Size, one.
-/
import Derived.Test.YtmgbdbpknocgjaaDoorLeaf1
import Derived.Test.YtmgbdbpknocgjaaDoorStrBy
import Derived.Test.YtmgbdbpknocgjaaDoorIntPut
import Derived.Test.YtmgbdbpknocgjaaDoorPack1
import Derived.Test.YtmgbdbpknocgjaaDoorGr
namespace Go.Proofs.YtmgbdbpknocgjaaDoor
open Go Go.RowKit

set_option maxRecDepth 100000 in
theorem leafSize_any (k : ByteArray) (n : Nat) (w : World) (hk : k.size ≤ 65536) (hn : n ≤ 65536) : Calls Tryd.prog 14 #[.string k, .int .i64 n] w fun e w' => e = .returned (.int .i64 (sizeS k n : Nat)) ∧ w = w' := by
  have h1 := size_any k.size w (by omega)
  have h2 := size_any n w (by omega)
  have v1 := vs_le (show k.size < 18446744073709551616 by omega)
  have v2 := vs_le (show n < 18446744073709551616 by omega)
  have hi := isIn_any n w
  have hmx : max (n : Int) 0 = (n : Int) := by omega
  have hS : Hid (sizeS k n = vs k.size + k.size + vs n + (if (n : Int) ≤ 64 then n else 2)) := by show _ = _; unfold sizeS; rw [show ((n : Int)).toNat = n from rfl]
  generalize sizeS k n = S at *
  generalize vs k.size = A at *
  generalize vs n = B at *
  by_cases h64 : (n : Int) ≤ 64
  · have d1 : decide ((n : Int) ≤ 64) = true := by simpa using h64
    rw [d1] at hi
    have hS2 : Hid (S = A + k.size + B + n) := by show _ = _; rw [hS.out, if_pos h64]
    clear hS d1
    go_enter Tryd.func14, Tryd.ntmps14
    go_wp2_with fail
    refine h1.mono ?_
    rintro e w' ⟨rfl, rfl⟩
    go_wp2_with fail
    refine h2.mono ?_
    rintro e w' ⟨rfl, rfl⟩
    go_wp2_with fail
    refine hi.mono ?_
    rintro e w' ⟨rfl, rfl⟩
    go_wp2
    go_ret
    exact ⟨by rw [hS2.out]; simp, rfl⟩
  · have d1 : decide ((n : Int) ≤ 64) = false := by simpa using h64
    rw [d1] at hi
    have hS2 : Hid (S = A + k.size + B + 2) := by show _ = _; rw [hS.out, if_neg h64]
    clear hS d1
    go_enter Tryd.func14, Tryd.ntmps14
    go_wp2_with fail
    refine h1.mono ?_
    rintro e w' ⟨rfl, rfl⟩
    go_wp2_with fail
    refine h2.mono ?_
    rintro e w' ⟨rfl, rfl⟩
    go_wp2_with fail
    refine hi.mono ?_
    rintro e w' ⟨rfl, rfl⟩
    go_wp2
    go_ret
    exact ⟨by rw [hS2.out]; simp, rfl⟩
set_option maxRecDepth 100000 in
theorem refSize_any (k : ByteArray) (n : Nat) (w : World) (hk : k.size ≤ 32768) (hn : n ≤ 65536) : Calls Tryd.prog 15 #[.string k, .int .i64 n] w fun e w' => e = .returned (.int .i64 (sizeS k n : Nat)) ∧ Below w.heap.size w w' := by
  have v1 := vs_le (show k.size < 18446744073709551616 by omega)
  have v2 := vs_le (show n < 18446744073709551616 by omega)
  have hS : Hid (sizeS k n = vs k.size + k.size + vs n + (if (n : Int) ≤ 64 then n else 2)) := by show _ = _; unfold sizeS; rw [show ((n : Int)).toNat = n from rfl]
  obtain ⟨g, c, w1, hcv, hsrc, hc1, hc2, hb1⟩ := conv_str w k (by omega)
  have Hsrc := Lib.hid hsrc
  have Hb1 := Lib.hid hb1
  clear hsrc hb1 hc2
  have hl1 : Hid (([] ++ vb k.size ++ bn k).length = vs k.size + k.size) := by show _ = _; rw [List.nil_append, List.length_append, bn_len]; rfl
  have hl2 : Hid (([] ++ vb k.size ++ bn k ++ vb n).length = vs k.size + k.size + vs n) := by show _ = _; rw [List.length_append, hl1.out]; rfl
  have hp := Lib.hid (refPutBytes_any none (some ⟨g, 0, none⟩) 0 0 k.size c [] (bn k) rfl (bn_len k) w1 (Src.nil _ _) (fun _ => rfl) Hsrc.out (fun h => by cases h) (by omega) (by omega))
  generalize sizeS k n = S at *
  generalize vs k.size = A at *
  generalize vs n = B at *
  generalize [] ++ vb k.size ++ bn k = L at *
  have hd : decide ((n : Int) < 0) = false := by simp
  go_enter Tryd.func15, Tryd.ntmps15
  go_wp2_with fail
  refine hp.out.mono ?_
  rintro e w2 ⟨v, rfl, hv, hb2⟩
  obtain ⟨a2, c2, rfl, hs2, hz2, _⟩ := hv.arg
  have Hs2 := Lib.hid hs2
  have Hz2 := Lib.hid hz2
  have Hb2 := Lib.hid (Hb1.out.trans (hb2.mono Hb1.out.size))
  clear hv hs2 hz2 hb2 hp Hb1 Hsrc hcv
  rw [hl1.out]
  have hput := Lib.hid (refPut_any a2 c2 L n w2 (by rw [hl1.out]; omega) (by omega) Hz2.out Hs2.out)
  rw [hl1.out] at hput
  go_wp2_with fail
  refine hput.out.mono ?_
  rintro e w3 ⟨v, rfl, hown, hb3⟩
  obtain ⟨a3, c3, rfl, _⟩ := own_src hown
  have Hb3 := Lib.hid (Hb2.out.trans (hb3.mono Hb2.out.size))
  clear hown hb3 hput Hb2 Hs2 Hz2
  rw [hl2.out]
  by_cases h64 : (n : Int) ≤ 64
  · have d1 : decide (64 < (n : Int)) = false := by simp; omega
    have hS2 : Hid (S = A + k.size + B + n) := by show _ = _; rw [hS.out, if_pos h64]
    clear hS
    go_wp2
    go_ret
    exact ⟨by rw [hS2.out]; simp, Hb3.out⟩
  · have d1 : decide (64 < (n : Int)) = true := by simp; omega
    have hS2 : Hid (S = A + k.size + B + 2) := by show _ = _; rw [hS.out, if_neg h64]
    clear hS
    go_wp2
    go_ret
    exact ⟨by rw [hS2.out]; simp, Hb3.out⟩
end Go.Proofs.YtmgbdbpknocgjaaDoor
