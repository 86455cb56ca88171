/-
  The document's Pieces, Encode, Decode.
-/
import Derived.Test.YthkephndhhhacaaDoorChain2
import Derived.Test.YthkephndhhhacaaDoorStrBy
import Derived.Deep.LoopGhost
import Derived.Deep.CutBlock
import Derived.Deep.DeepCutAuto
namespace Go.Proofs.YthkephndhhhacaaDoor
open Go Go.RowKit

abbrev CSS2 : TypeId := 24
theorem cell_text (w : World) (T : TypeId) (x : ByteArray) : (w.alloc (.cells #[.string x] T)).cell? ⟨w.heap.size, 0, none⟩ = some (.string x) := by simp
set_option maxRecDepth 100000 in
set_option maxHeartbeats 1000000 in
theorem refPieces_any (V : ByteArray) (w : World) (hV : V.size ≤ 1000000) :
    Calls Tryd.prog 8 #[.string V] w fun e w' => ∃ v, e = .returned v ∧ TxV w' v (chs V) ∧ Below w.heap.size w w' := by
  have HV := Lib.hid hV
  have h0 : Hid (V = restS V 0) := (rest_zero V).symm
  clear hV
  go_enter Tryd.func8, Tryd.ntmps8
  go_wp2_with fail
  go_loopg [0, 3] V.size (fun m v ov wr => ∃ (k : Nat) (R : ByteArray) (o : Value), v = .string R ∧ ov = o ∧ R.size = m ∧ m ≤ 1000000 ∧ Hid (R = restS V k ∧ (k = 0 ∨ 502 * k < V.size)) ∧ Hid (wr.ownsRow w.heap.size CST2 1 o (pcT V k).length (sv (pcT V k))) ∧ Hid (Below w.heap.size w wr))
  case atStart => exact ⟨0, V, _, rfl, rfl, rfl, HV.out, ⟨h0.out, .inl rfl⟩, World.ownsRow_nil _ _ _ _, Below.refl _ _⟩
  case round =>
    obtain ⟨k, R, o, rfl, rfl, hm, hm6, hR, hown, hB⟩ := hrel
    have hsz := hB.out.size
    have hrs : Hid (gk = V.size - 502 * k) := by show _ = _; rw [← hm, hR.out.1, rest_size]
    have hkl : Hid ((pcT V k).length ≤ 2000) := by
      show _ ≤ _; rw [pcT_len]
      have := HV.out
      rcases hR.out.2 with h | h <;> omega
    by_cases hlt : 502 < gk
    · have d1 : decide (502 < (R.size : Int)) = true := decide_eq_true (by omega)
      have d1' : decide (502 < R.size) = true := decide_eq_true (by omega)
      have hfit : Hid (502 * k + 502 ≤ V.size) := by have := hrs.out; show _ ≤ _; omega
      have hcut : Hid (R.extract 0 502 = cutS V k) := by show _ = _; rw [hR.out.1]; exact rest_cut V k
      have hrest : Hid (R.extract 502 R.size = restS V (k + 1)) := by show _ = _; rw [hR.out.1]; exact rest_rest V k hfit.out
      have z1 : (502 : Int) ≤ (R.size : Int) := by omega
      have z2 : 502 ≤ R.size := by omega
      have hms : Hid (R.size = gk) := hm
      clear hm
      go_wp2_with (at_builtin; refine wpList_append_text rfl (.tmp 7) (.tmp 10) CSS2 rfl w.heap.size CST2 Tryd.underlying24 infoStr _ (pcT V k) (by rfl) (hown.out.alloc _) wr.heap.size 1 (R.extract 0 502) (by rfl) (cell_text wr CST2 _) (by have := hkl.out; omega) (by simp; omega) ?_; intro v' w2 hown2 hgrow2)
      have hb2 : Hid (Below w.heap.size w w2) := (hB.out.alloc hsz _).grown hgrow2.out (by simp; omega) (fun j hj => (hown.out.lt j hj).1)
      have ho2 : Hid (w2.ownsRow w.heap.size CST2 1 v' (pcT V (k + 1)).length (sv (pcT V (k + 1)))) := by rw [pcT_succ, ← hcut.out]; exact hown2
      clear hown2 hgrow2 hown hB
      go_wp2
      go_roundg (gk - 502)
      case measure => omega
      case rel => exact ⟨k + 1, _, v', rfl, rfl, by rw [hrest.out, rest_size]; have := hrs.out; omega, by omega, ⟨hrest.out, .inr (by have := hrs.out; omega)⟩, ho2, hb2⟩
    · have d1 : decide (502 < (R.size : Int)) = false := decide_eq_false (by omega)
      have d1' : decide (502 < R.size) = false := decide_eq_false (by omega)
      by_cases hz : R.toList = []
      · have hz0 : R.size = 0 := by
          have h2 : bl R = [] := by show R.data.toList = []; rw [← ByteArray.toList_eq]; exact hz
          rw [← bl_size, h2]; rfl
        have hch : Hid (chs V = pcT V k) := by
          show _ = _
          have h1 := hrs.out
          have h2 := hR.out.2
          have h3 : V.size = 0 ∧ k = 0 := by omega
          unfold chs; rw [h3.1, h3.2]; rfl
        have hms : Hid (R.size = gk) := hm
        clear hm hz0
        go_wp2
        go_ret
        exact ⟨_, rfl, by rw [hch.out]; exact own_texts hown.out, hB.out⟩
      · have hz0 : 1 ≤ R.size := by
          have h2 : bl R ≠ [] := by show R.data.toList ≠ []; rw [← ByteArray.toList_eq]; exact hz
          have h3 : 0 < (bl R).length := List.length_pos_iff.2 h2
          rw [bl_size] at h3; exact h3
        have hch : Hid (chs V = pcT V (k + 1)) := by
          show _ = _
          have h1 := hrs.out
          unfold chs; congr 1; unfold nP; omega
        have hlast : Hid (R = cutS V k) := by
          show _ = _
          rw [hR.out.1]; exact rest_last V k (by have := hrs.out; omega)
        have hms : Hid (R.size = gk) := hm
        have hze : R.toList.isEmpty = false := List.isEmpty_eq_false_iff.2 hz
        clear hm hz0
        go_wp2_with (at_builtin; refine wpList_append_text rfl (.tmp 16) (.tmp 18) CSS2 rfl w.heap.size CST2 Tryd.underlying24 infoStr _ (pcT V k) (by rfl) (hown.out.alloc _) wr.heap.size 1 R (by rfl) (cell_text wr CST2 _) (by have := hkl.out; omega) (by simp; omega) ?_; intro v' w2 hown2 hgrow2)
        have hb2 : Hid (Below w.heap.size w w2) := (hB.out.alloc hsz _).grown hgrow2.out (by simp; omega) (fun j hj => (hown.out.lt j hj).1)
        have ho2 : Hid (w2.ownsRow w.heap.size CST2 1 v' (chs V).length (sv (chs V))) := by rw [hch.out, pcT_succ, ← hlast.out]; exact hown2
        clear hown2 hgrow2 hown hB
        go_wp2
        go_ret
        exact ⟨_, rfl, own_texts ho2.out, hb2.out⟩
set_option maxRecDepth 100000 in
set_option maxHeartbeats 1000000 in
theorem refEncode_any (p : Int) (V : ByteArray) (w : World) (hV : V.size ≤ 1000000) :
    Calls Tryd.prog 11 #[.int .i64 p, .string V] w fun e w' => ∃ v, e = .returned (.tuple #[v, .int .i64 (chE p V)]) ∧ w'.ownsRow w.heap.size CU8 1 v (chB p V).length (bv (chB p V)) ∧ Below w.heap.size w w' := by
  have hok : Hid (chOk p V = true ↔ (p = 0 ∨ 2 ≤ p) ∧ p < 1024 ∧ 1 ≤ V.size ∧ V.size ≤ 502) := by
    show _ ↔ _
    unfold chOk nextB sizeB; simp; omega
  have hE : Hid (chE p V = if chOk p V = true then 0 else 1) := rfl
  have hB : Hid (chB p V = if chOk p V = true then beL p.toNat 2 ++ bn V else []) := rfl
  have hbad : Hid (¬ ((p = 0 ∨ 2 ≤ p) ∧ p < 1024 ∧ 1 ≤ V.size ∧ V.size ≤ 502) → chE p V = 1 ∧ chB p V = []) := fun h => by
    have h2 : ¬ chOk p V = true := fun h3 => h (hok.out.1 h3)
    rw [hE.out, hB.out, if_neg h2, if_neg h2]; exact ⟨rfl, rfl⟩
  have hgood : Hid (((p = 0 ∨ 2 ≤ p) ∧ p < 1024 ∧ 1 ≤ V.size ∧ V.size ≤ 502) → chE p V = 0 ∧ chB p V = beL p.toNat 2 ++ bn V) := fun h => by
    have h2 := hok.out.2 h
    rw [hE.out, hB.out, if_pos h2, if_pos h2]; exact ⟨rfl, rfl⟩
  generalize chE p V = EE at *
  generalize chB p V = EB at *
  clear hok hE hB
  by_cases k1 : p < 0
  · have d1 : decide (p < 0) = true := decide_eq_true k1
    have h1 := Lib.hid (hbad.out (by omega))
    clear hbad hgood
    go_enter Tryd.func11, Tryd.ntmps11
    go_wp2
    go_ret2
    exact ⟨.slice none 0 0, by rw [h1.out.1]; rfl, by rw [h1.out.2]; exact World.ownsRow_nil _ _ _ _, Below.refl _ _⟩
  have d1 : decide (p < 0) = false := decide_eq_false k1
  obtain ⟨P, rfl⟩ := Int.eq_ofNat_of_zero_le (show 0 ≤ p by omega)
  by_cases k2 : P = 1
  · subst k2
    have h1 := Lib.hid (hbad.out (by omega))
    clear hbad hgood
    go_enter Tryd.func11, Tryd.ntmps11
    go_wp2
    go_ret2
    exact ⟨.slice none 0 0, by rw [h1.out.1]; rfl, by rw [h1.out.2]; exact World.ownsRow_nil _ _ _ _, Below.refl _ _⟩
  have d2 : ((P : Int) == 1) = false := by rw [beq_eq_false_iff_ne]; omega
  have d2' : (P == 1) = false := by rw [beq_eq_false_iff_ne]; omega
  by_cases k3 : 1023 < P
  · have d3 : decide (1023 < (P : Int)) = true := decide_eq_true (by omega)
    have d3' : decide (1023 < P) = true := decide_eq_true (by omega)
    have h1 := Lib.hid (hbad.out (by omega))
    clear hbad hgood k1 k2
    go_enter Tryd.func11, Tryd.ntmps11
    go_wp2
    go_ret2
    exact ⟨.slice none 0 0, by rw [h1.out.1]; rfl, by rw [h1.out.2]; exact World.ownsRow_nil _ _ _ _, Below.refl _ _⟩
  have d3 : decide (1023 < (P : Int)) = false := decide_eq_false (by omega)
  have d3' : decide (1023 < P) = false := decide_eq_false (by omega)
  by_cases k4 : V.size < 1
  · have d4 : decide ((V.size : Int) < 1) = true := decide_eq_true (by omega)
    have h1 := Lib.hid (hbad.out (by omega))
    clear hbad hgood k1 k2 k3
    go_enter Tryd.func11, Tryd.ntmps11
    go_wp2
    go_ret2
    exact ⟨.slice none 0 0, by rw [h1.out.1]; rfl, by rw [h1.out.2]; exact World.ownsRow_nil _ _ _ _, Below.refl _ _⟩
  have d4 : decide ((V.size : Int) < 1) = false := decide_eq_false (by omega)
  by_cases k5 : 502 < V.size
  · have d5 : decide (502 < (V.size : Int)) = true := decide_eq_true (by omega)
    have d5' : decide (502 < V.size) = true := decide_eq_true (by omega)
    have h1 := Lib.hid (hbad.out (by omega))
    clear hbad hgood k1 k2 k3
    go_enter Tryd.func11, Tryd.ntmps11
    go_wp2
    go_ret2
    exact ⟨.slice none 0 0, by rw [h1.out.1]; rfl, by rw [h1.out.2]; exact World.ownsRow_nil _ _ _ _, Below.refl _ _⟩
  have d5 : decide (502 < (V.size : Int)) = false := decide_eq_false (by omega)
  have d5' : decide (502 < V.size) = false := decide_eq_false (by omega)
  have h1 := Lib.hid (hgood.out (by omega))
  obtain ⟨X, hX⟩ : ∃ X, X = P / 256 := ⟨_, rfl⟩
  obtain ⟨Y, hY⟩ : ∃ Y, Y = P % 256 := ⟨_, rfl⟩
  have x1 : (P : Int).tdiv 256 = (X : Int) := by rw [Int.tdiv_eq_ediv_of_nonneg (by omega)]; omega
  have x1' : (P : Int) / 256 = (X : Int) := by omega
  have x2 : (P : Int).tmod 256 = (Y : Int) := by rw [Int.tmod_eq_emod_of_nonneg (by omega)]; omega
  have x2' : (P : Int) % 256 = (Y : Int) := by omega
  have x3 : IntKind.u8.wrap (X : Int) = (X : Int) := by rw [IntKind.wrap_u8]; omega
  have x4 : IntKind.u8.wrap (Y : Int) = (Y : Int) := by rw [IntKind.wrap_u8]; omega
  have x6 : X ≤ 3 := by omega
  have x7 : Y ≤ 255 := by omega
  have hbe : Hid (beL P 2 = [X, Y]) := by show [P / 256 % 256, P % 256] = _; rw [hX, hY, Nat.mod_eq_of_lt (by omega)]
  obtain ⟨w0, hw0⟩ : ∃ w0, w0 = w.alloc (.cells #[.int .u8 (X : Int), .int .u8 (Y : Int)] CU8) := ⟨_, rfl⟩
  have hb0 : Hid (Below w.heap.size w w0) := by rw [hw0]; exact (Below.refl _ _).alloc (Nat.le_refl _) _
  have ho0 : Hid (w0.ownsRow w.heap.size CU8 1 (.slice (some ⟨w.heap.size, 0, none⟩) 2 2) ([X, Y]).length (bv [X, Y])) := by
    rw [hw0]; exact own_new w CU8 [X, Y] (by unfold maxLen; simp)
  obtain ⟨g, c, w1, hcv, hsrc, hc1, hc2, hb1⟩ := conv_str w0 V (by omega)
  have Hsrc := Lib.hid hsrc
  have Hb1 := Lib.hid (hb0.out.trans (hb1.mono hb0.out.size))
  have Ho1 : Hid (w1.ownsRow w.heap.size CU8 1 (.slice (some ⟨w.heap.size, 0, none⟩) 2 2) ([X, Y]).length (bv [X, Y])) := own_below ho0.out hb1 (Nat.le_refl _)
  have hw0' := Lib.hid hw0.symm
  clear hsrc hb1 hb0 ho0 hgood hbad k1 k2 k3 k4 hX hY hw0 hc2
  go_enter Tryd.func11, Tryd.ntmps11
  go_upto_region 4 with fail
  rw [hw0'.out]
  go_wp2_with (at_builtin; refine wpList_append_bytes rfl (.tmp 34) (.tmp 36) CBS rfl w.heap.size CU8 Tryd.underlying22 infoI _ [X, Y] (by rfl) Ho1 (some ⟨g, 0, none⟩) c (bn V) (by rw [bn_len]; rfl) (fun h => by cases h) Hsrc.out (by simp; rw [bn_len]; omega) Hb1.out.size ?_; intro v' w2 hown2 hgrow2 _)
  go_ret2
  refine ⟨v', by rw [h1.out.1]; rfl, ?_, Hb1.out.grown hgrow2.out Hb1.out.size ?_⟩
  · rw [h1.out.2, show ((P : Int)).toNat = P from rfl, hbe.out]; exact hown2.out
  · intro k hk
    cases hk; exact Nat.le_refl _
set_option maxRecDepth 100000 in
theorem refDecode_any (a : Option Addr) (n c : Nat) (l : List Nat) (w : World) (hn : l.length = n) (hs : Src w a l) (hnc : n ≤ c) (hl : n ≤ 1000000) (hc : c ≤ maxLen) (hb8 : B8 l) :
    Calls Tryd.prog 13 #[.slice a n c] w fun e w' => e = .returned (.tuple #[.int .i64 (dcN l), .string (dcV l), .int .i64 (dcE l)]) ∧ Below w.heap.size w w' := by
  have hok : Hid (dcOk l = true ↔ 3 ≤ n ∧ n ≤ 504 ∧ chP l ≠ 1 ∧ chP l < 1024) := by
    show _ ↔ _
    unfold dcOk nextB sizeB; rw [hn]; simp; omega
  have hno : Hid (¬ (3 ≤ n ∧ n ≤ 504 ∧ chP l ≠ 1 ∧ chP l < 1024) → dcN l = 0 ∧ dcV l = ByteArray.empty ∧ dcE l = 3) := fun h => by
    have h2 : dcOk l = false := by rw [← Bool.not_eq_true]; exact fun h3 => h (hok.out.1 h3)
    unfold dcN dcV dcE; rw [h2]; exact ⟨rfl, rfl, rfl⟩
  have hyes : Hid ((3 ≤ n ∧ n ≤ 504 ∧ chP l ≠ 1 ∧ chP l < 1024) → dcN l = (chP l : Nat) ∧ dcV l = bstr (l.drop 2) ∧ dcE l = 0) := fun h => by
    unfold dcN dcV dcE; rw [hok.out.2 h]; exact ⟨rfl, rfl, rfl⟩
  have hpl := chP_lt hb8
  generalize dcN l = N at *
  generalize dcV l = V at *
  generalize dcE l = E at *
  clear hok
  by_cases k1 : n < 3
  · have d1 : decide ((n : Int) < 3) = true := decide_eq_true (by omega)
    have h1 := Lib.hid (hno.out (by omega))
    clear hno hyes hs hpl
    go_enter Tryd.func13, Tryd.ntmps13
    go_wp2
    go_ret3
    exact ⟨by rw [h1.out.1, h1.out.2.1, h1.out.2.2]; rfl, Below.refl _ _⟩
  have d1 : decide ((n : Int) < 3) = false := decide_eq_false (by omega)
  by_cases k2 : 504 < n
  · have d2 : decide (504 < (n : Int)) = true := decide_eq_true (by omega)
    have d2' : decide (504 < n) = true := decide_eq_true (by omega)
    have h1 := Lib.hid (hno.out (by omega))
    clear hno hyes hs hpl
    go_enter Tryd.func13, Tryd.ntmps13
    go_wp2
    go_ret3
    exact ⟨by rw [h1.out.1, h1.out.2.1, h1.out.2.2]; rfl, Below.refl _ _⟩
  have d2 : decide (504 < (n : Int)) = false := decide_eq_false (by omega)
  have d2' : decide (504 < n) = false := decide_eq_false (by omega)
  obtain ⟨b, o, rfl, hcs⟩ := hs (by omega)
  have q0 := hcs 0 (by omega)
  have q1 := hcs 1 (by omega)
  rw [Nat.add_zero] at q0
  have hlt := block_lt_of_cell q0
  have r0 : ∀ w', Ext w.drew w' → w'.cell? ⟨b, o, none⟩ = some (.int .u8 ((l.getD 0 0 : Nat) : Int)) := fun w' hw => by
    rw [((Below.refl w.heap.size w).drew.trans hw).cell (p := ⟨b, o, none⟩) hlt]; exact q0
  have r1 : ∀ w', Ext w.drew w' → w'.cell? ⟨b, o + 1, none⟩ = some (.int .u8 ((l.getD 1 0 : Nat) : Int)) := fun w' hw => by
    rw [((Below.refl w.heap.size w).drew.trans hw).cell (p := ⟨b, o + 1, none⟩) hlt]; exact q1
  have hp2 : Hid (chP l = l.getD 0 0 * 256 + l.getD 1 0) := chP_two (by omega)
  have hcv : Hid (∀ w0, Below w.heap.size w w0 → ∀ w', Ext w0.drew w' → (convert CBS CST2 (.slice (some ⟨b, o + 2, none⟩) (n - 2) (c - 2))).run Tryd.prog w' = .ok (.string (bstr (l.drop 2))) w') := fun w0 h0 w' hw =>
    conv_src (P := Tryd.prog) CBS CU8 CST2 Tryd.underlying22 Tryd.underlying5 Tryd.underlying9 (some ⟨b, o + 2, none⟩) (n - 2) (c - 2) (l.drop 2) (by rw [List.length_drop]; omega) w' ((hcs.rest 2).below ((h0.drew).trans (hw.mono h0.size)) hlt).src
  have g0 := hb8.get 0
  have g1 := hb8.get 1
  generalize l.getD 0 0 = x0 at *
  generalize l.getD 1 0 = x1 at *
  generalize bstr (l.drop 2) = T at *
  have hc' : c ≤ 9223372036854775807 := by unfold maxLen at hc; omega
  have y3 : ((256 : Int) * (x0 : Int)) + (x1 : Int) = ((chP l : Nat) : Int) := by rw [hp2.out]; omega
  clear hcs hs hb8 q0 q1 hc hp2
  generalize chP l = P at *
  have i0 : (0 : Int) < (n : Int) := by omega
  have i0' : 0 < n := by omega
  have i1' : 1 < n := by omega
  have i2' : 2 ≤ n := by omega
  have i1 : (1 : Int) < (n : Int) := by omega
  have i2 : (2 : Int) ≤ (n : Int) := by omega
  have i3 : ¬ c = 2 := by omega
  have j0 : IntKind.i64.wrap (x0 : Int) = (x0 : Int) := by rw [IntKind.wrap_i64]; omega
  have j1 : IntKind.i64.wrap (x1 : Int) = (x1 : Int) := by rw [IntKind.wrap_i64]; omega
  have j2 : IntKind.i64.wrap ((256 : Int) * (x0 : Int)) = (256 : Int) * (x0 : Int) := by rw [IntKind.wrap_i64]; omega
  have j3 : IntKind.i64.wrap (P : Int) = (P : Int) := by rw [IntKind.wrap_i64]; omega
  by_cases k3 : P = 1
  · subst k3
    have h1 := Lib.hid (hno.out (by omega))
    clear hno hyes hcv
    go_enter Tryd.func13, Tryd.ntmps13
    go_wp2_with fail
    refine wp_region_gr [(0, true), (1, true), (2, true), (3, true), (4, true), (5, true), (6, true), (7, true), (8, true), (9, true), (10, true)] (by kernel_rfl) (by kernel_rfl) (by kernel_rfl) (by kernel_rfl) (fun _ _ _ _ _ h => h) ?_
    iterate 11 (refine wpGr_read (o := ⟨_, _, _, _, _, _⟩) (v := ?_) rfl (by rfl) ?_ ?_; rotate_left; (intro w' hw'; go_simp; with_reducible rfl); simp only [Act.put, List.setIfInBounds_toArray, List.set_cons_zero, List.set_cons_succ])
    refine wpGr_done ?_
    go_wp2
    go_ret3
    exact ⟨by rw [h1.out.1, h1.out.2.1, h1.out.2.2]; rfl, (Below.refl _ _).drew⟩
  have d3 : ((P : Int) == 1) = false := by rw [beq_eq_false_iff_ne]; omega
  have d3' : (P == 1) = false := by rw [beq_eq_false_iff_ne]; omega
  by_cases k4 : 1023 < P
  · have d4 : decide (1023 < (P : Int)) = true := decide_eq_true (by omega)
    have d4' : decide (1023 < P) = true := decide_eq_true (by omega)
    have h1 := Lib.hid (hno.out (by omega))
    clear hno hyes hcv
    go_enter Tryd.func13, Tryd.ntmps13
    go_wp2_with fail
    refine wp_region_gr [(0, true), (1, true), (2, true), (3, true), (4, true), (5, true), (6, true), (7, true), (8, true), (9, true), (10, true)] (by kernel_rfl) (by kernel_rfl) (by kernel_rfl) (by kernel_rfl) (fun _ _ _ _ _ h => h) ?_
    iterate 11 (refine wpGr_read (o := ⟨_, _, _, _, _, _⟩) (v := ?_) rfl (by rfl) ?_ ?_; rotate_left; (intro w' hw'; go_simp; with_reducible rfl); simp only [Act.put, List.setIfInBounds_toArray, List.set_cons_zero, List.set_cons_succ])
    refine wpGr_done ?_
    go_wp2
    go_ret3
    exact ⟨by rw [h1.out.1, h1.out.2.1, h1.out.2.2]; rfl, (Below.refl _ _).drew⟩
  have d4 : decide (1023 < (P : Int)) = false := decide_eq_false (by omega)
  have d4' : decide (1023 < P) = false := decide_eq_false (by omega)
  have h1 := Lib.hid (hyes.out (by omega))
  have hcv1 := Lib.hid (hcv.out w.drew (Below.refl _ _).drew)
  clear hno hyes hcv
  go_enter Tryd.func13, Tryd.ntmps13
  go_wp2_with fail
  refine wp_region_gr [(0, true), (1, true), (2, true), (3, true), (4, true), (5, true), (6, true), (7, true), (8, true), (9, true), (10, true)] (by kernel_rfl) (by kernel_rfl) (by kernel_rfl) (by kernel_rfl) (fun _ _ _ _ _ h => h) ?_
  iterate 11 (refine wpGr_read (o := ⟨_, _, _, _, _, _⟩) (v := ?_) rfl (by rfl) ?_ ?_; rotate_left; (intro w' hw'; go_simp; with_reducible rfl); simp only [Act.put, List.setIfInBounds_toArray, List.set_cons_zero, List.set_cons_succ])
  refine wpGr_done ?_
  have hcv2 := hcv1.out
  go_wp2_with fail
  refine wp_region_gr [(0, true), (1, true), (2, true), (3, true), (4, true), (5, true), (6, true)] (by kernel_rfl) (by kernel_rfl) (by kernel_rfl) (by kernel_rfl) (fun _ _ _ _ _ h => h) ?_
  iterate 7 (refine wpGr_read (o := ⟨_, _, _, _, _, _⟩) (v := ?_) rfl (by rfl) ?_ ?_; rotate_left; (intro w' hw'; go_simp; with_reducible rfl); simp only [Act.put, List.setIfInBounds_toArray, List.set_cons_zero, List.set_cons_succ])
  refine wpGr_done ?_
  go_wp2
  go_ret3
  exact ⟨by rw [h1.out.1, h1.out.2.1, h1.out.2.2]; rfl, ((Below.refl _ _).drew).drew⟩
end Go.Proofs.YthkephndhhhacaaDoor
