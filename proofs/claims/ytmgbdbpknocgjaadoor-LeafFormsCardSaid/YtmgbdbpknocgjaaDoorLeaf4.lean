/-
  The document's one: a cell's bytes.
-/
import Derived.Test.YtmgbdbpknocgjaaDoorLeaf3
namespace Go.Proofs.YtmgbdbpknocgjaaDoor
open Go Go.RowKit

set_option maxRecDepth 100000 in
set_option maxHeartbeats 1000000 in
theorem refOne_any (k v : ByteArray) (n p : Int) (w : World) (h : mayB ⟨k, v, n, p⟩ = true) :
    Calls Tryd.prog 26 #[.agg #[.string k, .string v, .int .i64 n, .int .i64 p]] w fun e w' => ∃ r, e = .returned r ∧ Sl w' r (oneS ⟨k, v, n, p⟩) ∧ Below w.heap.size w w' := by
  have hk := may_k h
  obtain ⟨N, rfl⟩ := Int.eq_ofNat_of_zero_le (may_n0 h)
  have hn := may_n h
  have hin := may_in h
  have hout := may_out h
  dsimp only at hk hn hin hout
  have hN : N ≤ 2048 := by omega
  have x0 : IntKind.u64.wrap (N : Int) = (N : Int) := by rw [IntKind.wrap_u64]; omega
  have hk40 : k.size ≤ 40 := hk.2
  have hparts := one_parts ⟨k, v, (N : Int), p⟩ []
  dsimp only at hparts
  rw [show ((N : Int)).toNat = N from rfl, List.nil_append (oneS _)] at hparts
  have v1 := vs_le (show k.size < 18446744073709551616 by omega)
  have v2 := vs_le (show N < 18446744073709551616 by omega)
  obtain ⟨w0, hw0⟩ : ∃ w0, w0 = (w.alloc (.cells #[.string k, .string v, .int .i64 (N : Int), .int .i64 p] RCT)).drew := ⟨_, rfl⟩
  have hb0 : Below w.heap.size w w0 := by rw [hw0]; exact ((Below.refl _ _).alloc (Nat.le_refl _) _).drew
  have c0 : w0.cell? ⟨w.heap.size, 0, none⟩ = some (.string k) := by rw [hw0]; simp
  have c1 : w0.cell? ⟨w.heap.size, 1, none⟩ = some (.string v) := by rw [hw0]; simp
  have c2 : w0.cell? ⟨w.heap.size, 2, none⟩ = some (.int .i64 (N : Int)) := by rw [hw0]; simp
  have c3 : w0.cell? ⟨w.heap.size, 3, none⟩ = some (.int .i64 p) := by rw [hw0]; simp
  have hlt : w.heap.size < w0.heap.size := by rw [hw0]; simp
  obtain ⟨g, c, w1, hcv, hsrc, hc1, hc2, hb1⟩ := conv_str w0 k (by omega)
  have hcs : ∀ w' : World, Below w0.heap.size w0 w' → w'.cell? ⟨w.heap.size, 0, none⟩ = some (.string k) ∧ w'.cell? ⟨w.heap.size, 1, none⟩ = some (.string v) ∧ w'.cell? ⟨w.heap.size, 2, none⟩ = some (.int .i64 (N : Int)) ∧ w'.cell? ⟨w.heap.size, 3, none⟩ = some (.int .i64 p) := fun w' hb =>
    ⟨by rw [hb.cell (p := ⟨w.heap.size, 0, none⟩) hlt]; exact c0, by rw [hb.cell (p := ⟨w.heap.size, 1, none⟩) hlt]; exact c1, by rw [hb.cell (p := ⟨w.heap.size, 2, none⟩) hlt]; exact c2, by rw [hb.cell (p := ⟨w.heap.size, 3, none⟩) hlt]; exact c3⟩
  have Hsrc := Lib.hid hsrc
  have Hb1 := Lib.hid hb1
  have Hb0 := Lib.hid hb0
  have Hcs := Lib.hid hcs
  have hl1 : Hid (([] ++ vb k.size ++ bn k).length = vs k.size + k.size) := by show _ = _; rw [List.nil_append, List.length_append, bn_len]; rfl
  have hl2 : Hid (([] ++ vb k.size ++ bn k ++ vb N).length = vs k.size + k.size + vs N) := by show _ = _; rw [List.length_append, hl1.out]; rfl
  have hp := Lib.hid (refPutBytes_any none (some ⟨g, 0, none⟩) 0 0 k.size c [] (bn k) rfl (bn_len k) w1 (Src.nil _ _) (fun _ => rfl) Hsrc.out (fun h => by cases h) (by omega) (by omega))
  have Hparts := Lib.hid hparts
  have htail : Hid (tailS ⟨k, v, (N : Int), p⟩ = if (N : Int) ≤ 64 then bn v else [p.toNat / 256 % 256, p.toNat % 256]) := rfl
  clear hparts hcs hb0 hb1 hsrc hc2 hk h hn
  generalize oneS ⟨k, v, (N : Int), p⟩ = ONE at *
  generalize tailS ⟨k, v, (N : Int), p⟩ = TL at *
  generalize vs k.size = A at *
  generalize [] ++ vb k.size ++ bn k = L at *
  generalize hLN : L ++ vb N = LN at *
  have HLN := Lib.hid hLN
  clear hLN
  generalize vs N = B at *
  go_enter Tryd.func26, Tryd.ntmps26
  go_wp2_with fail
  refine wp_region_gr [(0, true), (1, true), (4, true), (5, true), (6, true), (2, false), (3, false), (7, false), (8, true)] (by kernel_rfl) (by kernel_rfl) (by kernel_rfl) (by kernel_rfl) (fun _ _ _ _ _ h => h) ?_
  rw [← hw0]
  have r0 : ∀ w', Ext w0 w' → w'.cell? ⟨w.heap.size, 0, none⟩ = some (.string k) := fun w' hb => (Hcs.out w' hb).1
  have r2 : ∀ w', Ext w0 w' → w'.cell? ⟨w.heap.size, 2, none⟩ = some (.int .i64 (N : Int)) := fun w' hb => (Hcs.out w' hb).2.2.1
  clear hw0 c0 c1 c2 c3
  iterate 5 (refine wpGr_read (o := ⟨_, _, _, _, _, _⟩) (v := ?_) rfl (by rfl) ?_ ?_; rotate_left; (intro w' hw'; go_simp; with_reducible rfl); simp only [Act.put, List.setIfInBounds_toArray, List.set_cons_zero, List.set_cons_succ])
  clear r0 r2
  refine wpGr_call (o := ⟨_, _, _, _, _, _⟩) rfl (by rfl) (fun K hK => ?_)
  go_simp
  refine hK _ _ Hb1.out ?_
  clear hK K hcv
  refine wpGr_call (o := ⟨_, _, _, _, _, _⟩) rfl (by rfl) (fun K hK => ?_)
  go_simp
  refine hp.out.mono ?_
  rintro e w2 ⟨r, rfl, hv, hb2⟩
  refine hK _ _ hb2 ?_
  clear hK K
  obtain ⟨a2, cp2, rfl, hs2, hz2, _⟩ := hv.arg
  have Hb02 := Lib.hid (Hb1.out.trans (hb2.mono Hb1.out.size))
  have Hs2 := Lib.hid hs2
  have Hz2 := Lib.hid hz2
  clear hv hs2 hz2 hb2 hp Hb1 Hsrc
  rw [hl1.out]
  have hput := Lib.hid (refPut_any a2 cp2 L N w2 (by rw [hl1.out]; omega) (by omega) Hz2.out Hs2.out)
  rw [hl1.out, HLN.out, hl2.out] at hput
  refine wpGr_call (o := ⟨_, _, _, _, _, _⟩) rfl (by rfl) (fun K hK => ?_)
  go_simp
  refine hput.out.mono ?_
  rintro e w3 ⟨r, rfl, hown, hb3⟩
  refine hK _ _ hb3 ?_
  clear hK K hput Hs2 Hz2
  iterate 1 (refine wpGr_read (o := ⟨_, _, _, _, _, _⟩) (v := ?_) rfl (by rfl) ?_ ?_; rotate_left; (intro w' hw'; go_simp; with_reducible rfl); simp only [Act.put, List.setIfInBounds_toArray, List.set_cons_zero, List.set_cons_succ])
  refine wpGr_done ?_
  have hb03 := Hb02.out.trans (hb3.mono Hb02.out.size)
  obtain ⟨d0, d1, d2, d3⟩ := Hcs.out w3 hb03
  have Hb3 := Lib.hid (Hb0.out.trans (hb03.mono Hb0.out.size))
  have hsz := Hb3.out.size
  have ho : Hid (w3.ownsRow w.heap.size 5 1 r LN.length (bv LN)) := by
    refine ⟨hown.1.trans (by rw [hl2.out]), ?_⟩
    rcases hown.2 with ⟨h1, h2⟩ | ⟨g, cap, cur, h1, h2, h3⟩
    · exact .inl ⟨h1, by rw [hl2.out]; exact h2⟩
    · exact .inr ⟨g, cap, cur, by rw [hl2.out]; exact h1, Nat.le_trans (Nat.le_trans Hb0.out.size Hb02.out.size) h2, by rw [hl2.out]; exact h3⟩
  clear hown hb3 hb03
  by_cases h64 : (N : Int) ≤ 64
  · have e1 : decide (64 < (N : Int)) = false := by simp; omega
    have hT : Hid (TL = bn v) := by show _ = _; rw [htail.out, if_pos h64]
    have hvs := (hin h64).1
    have hvn : v.size ≤ 64 := by omega
    clear htail h64 hin hout hvs
    obtain ⟨g4, c4, w4, hcv4, hsrc4, _, hc4, hb4⟩ := conv_str w3 v (by omega)
    have ho4 : Hid (w4.ownsRow w.heap.size 5 1 r LN.length (bv LN)) := own_below ho.out hb4 (Nat.le_refl _)
    have Hs4 := Lib.hid hsrc4
    have Hb4 := Lib.hid (Hb3.out.trans (hb4.mono Hb3.out.size))
    have hsz4 := Hb4.out.size
    clear hsrc4 hb4 hc4 ho
    go_wp2_with (at_builtin; refine wpList_append_bytes rfl (.tmp 26) (.tmp 29) 23 rfl w.heap.size 5 Tryd.underlying23 infoB _ LN (by rfl) ho4 (some ⟨g4, 0, none⟩) c4 (bn v) (by rw [bn_len]; rfl) (fun h => by cases h) Hs4.out (by rw [hl2.out, bn_len]; omega) hsz4 ?_; intro v' w5 hown5 hgrow5 hnear5)
    have hbn := Hb4.out.grown hgrow5.out hsz4 (fun j hj => (ho4.out.lt j hj).1)
    have hsl := Sl.own hown5.out
    rw [← hT.out, ← Hparts.out] at hsl
    go_ret
    exact ⟨_, rfl, hsl, hbn⟩
  · have e1 : decide (64 < (N : Int)) = true := by simp; omega
    have hT : Hid (TL = [p.toNat / 256 % 256, p.toNat % 256]) := by show _ = _; rw [htail.out, if_neg h64]
    obtain ⟨h1, h2, h3⟩ := hout (by omega)
    obtain ⟨P, rfl⟩ := Int.eq_ofNat_of_zero_le (show 0 ≤ p by omega)
    have hP : P ≤ 1023 := by omega
    rw [show ((P : Int)).toNat = P from rfl] at hT
    clear htail h64 hin hout h1 h2 h3
    obtain ⟨P1, hP1⟩ : ∃ P1, P1 = P / 256 := ⟨_, rfl⟩
    obtain ⟨P2, hP2⟩ : ∃ P2, P2 = P % 256 := ⟨_, rfl⟩
    have x1 : (P : Int).tdiv 256 = (P1 : Int) := by rw [hP1, Int.tdiv_eq_ediv_of_nonneg (by omega)]; omega
    have x2 : (P : Int).tmod 256 = (P2 : Int) := by rw [hP2, Int.tmod_eq_emod_of_nonneg (by omega)]; omega
    have y1 : P1 < 256 := by omega
    have y2 : P2 < 256 := by omega
    have hT2 : Hid (TL = [P1, P2]) := by show _ = _; rw [hT.out, hP1, hP2, Nat.mod_eq_of_lt (by omega)]
    clear hT hP1 hP2
    go_wp2_with (at_builtin; refine wpList_append_bytes rfl (.tmp 15) (.tmp 24) 23 rfl w.heap.size 5 Tryd.underlying23 infoB _ LN (by rfl) (ho.out.alloc _) (some ⟨w3.heap.size, 0, none⟩) 2 [P1, P2] (by rfl) (fun h => by cases h) (by exact (src_new w3 _ (0, 0) [P1, P2]).src) (by rw [hl2.out]; simp; omega) (by simp; omega) ?_; intro v' w5 hown5 hgrow5 hnear5)
    have hbn := (Hb3.out.alloc hsz _).grown hgrow5.out (by simp; omega) (fun j hj => (ho.out.lt j hj).1)
    have hsl := Sl.own hown5.out
    rw [← hT2.out, ← Hparts.out] at hsl
    go_ret
    exact ⟨_, rfl, hsl, hbn⟩
end Go.Proofs.YtmgbdbpknocgjaaDoor
