/-
  leaf's put; the document's one: a cell's bytes.
-/
import Derived.Test.YtmgbdbpknocgjaaDoorLeaf2
namespace Go.Proofs.YtmgbdbpknocgjaaDoor
open Go Go.RowKit

theorem one_parts (c : Ce) (l : List Nat) : l ++ oneS c = ((l ++ vb c.k.size ++ bn c.k) ++ vb c.n.toNat) ++ tailS c := by
  unfold oneS; simp only [List.append_assoc]
theorem beL_two (v : Nat) : beL v 2 = [v / 256 % 256, v % 256] := rfl
set_option maxRecDepth 100000 in
set_option maxHeartbeats 1000000 in
theorem leafPut_any (a : Option Addr) (m cap : Nat) (l : List Nat) (k v : ByteArray) (n p : Int) (w : World) (hm : l.length = m) (hs : Src w a l) (hl : m ≤ 32768) (h : mayB ⟨k, v, n, p⟩ = true) :
    Calls Tryd.prog 24 #[.slice a m cap, .agg #[.string k, .string v, .int .i64 n, .int .i64 p]] w fun e w' => ∃ r, e = .returned r ∧ Sl w' r (l ++ oneS ⟨k, v, n, p⟩) ∧ Below w.heap.size w w' := by
  have hk := may_k h
  obtain ⟨N, rfl⟩ := Int.eq_ofNat_of_zero_le (may_n0 h)
  have hn := may_n h
  have hin := may_in h
  have hout := may_out h
  dsimp only at hk hn hin hout
  have hN : N ≤ 2048 := by omega
  have hk40 : k.size ≤ 40 := hk.2
  have hparts := one_parts ⟨k, v, (N : Int), p⟩ l
  dsimp only at hparts
  rw [show ((N : Int)).toNat = N from rfl] at hparts
  have v1 := vs_le (show k.size < 18446744073709551616 by omega)
  have v2 := vs_le (show N < 18446744073709551616 by omega)
  obtain ⟨w0, hw0⟩ : ∃ w0, w0 = w.alloc (.cells #[.string k, .string v, .int .i64 (N : Int), .int .i64 p] CT) := ⟨_, rfl⟩
  have hb0 : Below w.heap.size w w0 := by rw [hw0]; exact (Below.refl _ _).alloc (Nat.le_refl _) _
  have c0 : w0.cell? ⟨w.heap.size, 0, none⟩ = some (.string k) := by rw [hw0]; simp
  have c1 : w0.cell? ⟨w.heap.size, 1, none⟩ = some (.string v) := by rw [hw0]; simp
  have c2 : w0.cell? ⟨w.heap.size, 2, none⟩ = some (.int .i64 (N : Int)) := by rw [hw0]; simp
  have c3 : w0.cell? ⟨w.heap.size, 3, none⟩ = some (.int .i64 p) := by rw [hw0]; simp
  have hlt : w.heap.size < w0.heap.size := by rw [hw0]; simp
  obtain ⟨g, c, w1, hcv, hsrc, hc1, hc2, hb1⟩ := conv_str w0 k (by omega)
  have hcs : ∀ w' : World, Below w0.heap.size w0 w' → w'.cell? ⟨w.heap.size, 1, none⟩ = some (.string v) ∧ w'.cell? ⟨w.heap.size, 2, none⟩ = some (.int .i64 (N : Int)) ∧ w'.cell? ⟨w.heap.size, 3, none⟩ = some (.int .i64 p) := fun w' hb =>
    ⟨by rw [hb.cell (p := ⟨w.heap.size, 1, none⟩) hlt]; exact c1, by rw [hb.cell (p := ⟨w.heap.size, 2, none⟩) hlt]; exact c2, by rw [hb.cell (p := ⟨w.heap.size, 3, none⟩) hlt]; exact c3⟩
  have Hsrc := Lib.hid hsrc
  have Hb1 := Lib.hid hb1
  have Hb0 := Lib.hid hb0
  have Hcs := Lib.hid hcs
  have Hm := Lib.hid hm
  have hl1 : Hid ((l ++ vb k.size ++ bn k).length = m + vs k.size + k.size) := by show _ = _; rw [List.length_append, bn_len, List.length_append, hm]; rfl
  have hl2 : Hid ((l ++ vb k.size ++ bn k ++ vb N).length = m + vs k.size + k.size + vs N) := by show _ = _; rw [List.length_append, hl1.out]; rfl
  have hp := Lib.hid (packBytes_any a (some ⟨g, 0, none⟩) m cap k.size c l (bn k) hm (bn_len k) w1 ((hs.below hb0 (Nat.le_refl _)).below hb1 (Nat.le_refl _)) Hsrc.out (fun h => by cases h) (by omega) (by omega))
  have Hparts := Lib.hid hparts
  have hi := fun w => isIn_any (N : Int) w
  have htail : Hid (tailS ⟨k, v, (N : Int), p⟩ = if (N : Int) ≤ 64 then bn v else [p.toNat / 256 % 256, p.toNat % 256]) := rfl
  clear hparts hs hm hcs hb0 hb1 hsrc hc2 hk h hn
  generalize oneS ⟨k, v, (N : Int), p⟩ = ONE at *
  generalize tailS ⟨k, v, (N : Int), p⟩ = TL at *
  generalize vs k.size = A at *
  generalize l ++ vb k.size ++ bn k = L at *
  generalize hLN : L ++ vb N = LN at *
  have HLN := Lib.hid hLN
  clear hLN
  generalize vs N = B at *
  clear c0 c1 c2 c3 hlt
  subst hw0
  go_enter Tryd.func24, Tryd.ntmps24
  go_wp2_with fail
  refine hp.out.mono ?_
  rintro e w2 ⟨r, rfl, hv, hb2⟩
  obtain ⟨a2, cp2, rfl, hs2, hz2, _⟩ := hv.arg
  have hb02 := Hb1.out.trans (hb2.mono Hb1.out.size)
  obtain ⟨d1, d2, d3⟩ := Hcs.out w2 hb02
  have Hb02 := Lib.hid hb02
  have Hs2 := Lib.hid hs2
  clear hv hs2 hz2 hb2 hp Hb1 Hsrc hcv hb02
  rw [hl1.out]
  go_wp2_with fail
  refine (packNum_any a2 _ cp2 L hl1.out N w2 Hs2.out (by omega) (by omega)).mono ?_
  rintro e w3 ⟨r, rfl, hv, hb3⟩
  rw [HLN.out] at hv
  obtain ⟨a3, cp3, rfl, hs3, hz3, _⟩ := hv.arg
  have hb03 := Hb02.out.trans (hb3.mono Hb02.out.size)
  obtain ⟨d1', d2', d3'⟩ := Hcs.out w3 hb03
  have Hb03 := Lib.hid hb03
  have Hs3 := Lib.hid hs3
  have Hz3 := Lib.hid hz3
  clear hv hs3 hz3 hb3 Hb02 Hs2 hb03 d1 d2 d3
  rw [hl2.out]
  by_cases h64 : (N : Int) ≤ 64
  · have e1 : decide ((N : Int) ≤ 64) = true := by simpa using h64
    rw [e1] at hi
    have hT : Hid (TL = bn v) := by show _ = _; rw [htail.out, if_pos h64]
    have hvs := (hin h64).1
    have hvn : v.size ≤ 64 := by omega
    clear htail h64 hin hout e1
    obtain ⟨g4, c4, w4, hcv4, hsrc4, _, hc4, hb4⟩ := conv_str w3 v (by omega)
    have Hs4 := Lib.hid (And.intro (Hs3.out.below hb4 (Nat.le_refl _)) hsrc4)
    have Hb4 := Lib.hid (Hb03.out.trans (hb4.mono Hb03.out.size))
    clear hsrc4 hb4 hc4 Hs3
    go_wp2_with fail
    refine (hi _).mono ?_
    rintro e w' ⟨rfl, rfl⟩
    go_wp2_with fail
    refine (concat_two w4 _ _ _ a3 (some ⟨g4, 0, none⟩) _ cp3 v.size c4 LN (bn v) (by rfl) rfl hl2.out (bn_len v) Hs4.out.1 Hs4.out.2 Hz3.out (fun h => by cases h) (by omega)).mono ?_
    rintro e w5 ⟨r, rfl, hv, hb5⟩
    have hbn := Hb0.out.trans ((Hb4.out.trans (hb5.mono Hb4.out.size)).mono Hb0.out.size)
    rw [← hT.out, ← Hparts.out] at hv
    go_wp2
    go_ret
    exact ⟨_, rfl, hv, hbn⟩
  · have e1 : decide ((N : Int) ≤ 64) = false := by simpa using h64
    rw [e1] at hi
    have hT : Hid (TL = [p.toNat / 256 % 256, p.toNat % 256]) := by show _ = _; rw [htail.out, if_neg h64]
    obtain ⟨h1, h2, h3⟩ := hout (by omega)
    obtain ⟨P, rfl⟩ := Int.eq_ofNat_of_zero_le (show 0 ≤ p by omega)
    have hP : P ≤ 1023 := by omega
    rw [show ((P : Int)).toNat = P from rfl] at hT
    clear htail h64 hin hout e1 h1 h2 h3
    have hput := Lib.hid (intPut_in a3 cp3 LN P 2 w3 (by rw [hl2.out]; omega) (by omega) (by omega) (by omega) Hs3.out)
    rw [hl2.out] at hput
    go_wp2_with fail
    refine (hi _).mono ?_
    rintro e w' ⟨rfl, rfl⟩
    go_wp2_with fail
    refine hput.out.mono ?_
    rintro e w5 ⟨rfl, hr, hb5⟩
    have hbn := Hb0.out.trans ((Hb03.out.trans (hb5.mono Hb03.out.size)).mono Hb0.out.size)
    have e5 : (LN ++ beL P 2).length = m + A + k.size + B + 2 := by rw [List.length_append, hl2.out]; rfl
    have hsl := Sl.row hr (by rw [e5]; unfold maxLen; omega)
    rw [e5, beL_two, ← hT.out, ← Hparts.out] at hsl
    go_wp2
    go_ret
    exact ⟨_, rfl, hsl, hbn⟩
end Go.Proofs.YtmgbdbpknocgjaaDoor
