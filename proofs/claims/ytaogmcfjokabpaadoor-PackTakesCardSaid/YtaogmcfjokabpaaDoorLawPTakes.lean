/-
  PackTakes: the law's walk.
-/
import Derived.Test.YtaogmcfjokabpaaDoorSure6
import Derived.Test.YtaogmcfjokabpaaDoorRefRd3
import Derived.Deep.CutBlock
import Derived.Deep.DeepCutAuto
namespace Go.Proofs.YtaogmcfjokabpaaDoor
open Go Go.RowKit

/-- A slice that reads as pairs of int16. -/
def KSrc (w : World) (a : Option Addr) (l : List (Int × Int)) : Prop := 0 < l.length → ∃ b o, a = some ⟨b, o, none⟩ ∧ ∀ i, i < l.length →
  w.cell? ⟨b, o + i * 2, none⟩ = some (.int .i16 (l.getD i (0, 0)).1) ∧ w.cell? ⟨b, o + i * 2 + 1, none⟩ = some (.int .i16 (l.getD i (0, 0)).2)
def K16 (l : List (Int × Int)) : Prop := ∀ i, i < l.length → -32768 ≤ (l.getD i (0, 0)).1 ∧ (l.getD i (0, 0)).1 ≤ 32767 ∧ -32768 ≤ (l.getD i (0, 0)).2 ∧ (l.getD i (0, 0)).2 ≤ 32767
/-- Both readers, in one state. -/
structure Both (w wx : World) (b gx : Nat) (S : RS) : Prop where
  rd : Rd wx b S
  xv : ∃ a c, SB wx gx RFT (.slice a S.l.length c) S.wr ∧ Sw wx (.slice a S.l.length c) S.l
  ne : b ≠ gx
  hb : w.heap.size ≤ b
  hx : w.heap.size ≤ gx
  bel : Below w.heap.size w wx
/-- The program's reader is in its next state, the document's not yet. -/
structure Mid (w w1 : World) (b gx : Nat) (S S1 : RS) : Prop where
  rd : Rd w1 b S1
  xv : ∃ a c, SB w1 gx RFT (.slice a S.l.length c) S.wr ∧ RfW w1 (.agg #[.slice a S.l.length c, .bool S.wr]) S
  ne : b ≠ gx
  hb : w.heap.size ≤ b
  hx : w.heap.size ≤ gx
  bel : Below w.heap.size w w1
theorem Both.mid {w wr w1 : World} {b gx : Nat} {S S1 : RS} (h : Both w wr b gx S) (hr : Rd w1 b S1) (t : Turn (fun i => i = b) wr w1) : Mid w w1 b gx S S1 := by
  obtain ⟨a, c, h1, h2⟩ := h.xv
  exact ⟨hr, ⟨a, c, h1.turn t (fun e => h.ne e.symm), ⟨⟨_, rfl, h2.turn t h.rd.noByte⟩, h.rd.b8, h.rd.len, h.rd.inv⟩⟩, h.ne, h.hb, h.hx, Turn.own h.bel t h.hb (Nat.le_refl _)⟩
theorem Both.rf {w wr : World} {b gx : Nat} {S : RS} (h : Both w wr b gx S) : ∃ a c, SB wr gx RFT (.slice a S.l.length c) S.wr ∧ RfW wr (.agg #[.slice a S.l.length c, .bool S.wr]) S := by
  obtain ⟨a, c, h1, h2⟩ := h.xv
  exact ⟨a, c, h1, ⟨⟨_, rfl, h2⟩, h.rd.b8, h.rd.len, h.rd.inv⟩⟩
theorem Rd.drew {w : World} {b : Nat} {S : RS} (h : Rd w b S) : Rd w.drew b S := ⟨h.ex, h.b8, h.len, h.inv⟩
theorem Mid.drew {w w1 : World} {b gx : Nat} {S S1 : RS} (h : Mid w w1 b gx S S1) : Mid w w1.drew b gx S S1 := by
  obtain ⟨a, c, h1, h2⟩ := h.xv
  exact ⟨h.rd.drew, ⟨a, c, h1, ⟨h2.ex, h2.b8, h2.len, h2.inv⟩⟩, h.ne, h.hb, h.hx, h.bel.drew⟩
theorem Mid.lt {w w1 : World} {b gx : Nat} {S S1 : RS} (h : Mid w w1 b gx S S1) : gx < w1.heap.size := by
  obtain ⟨a, c, h1, _⟩ := h.xv; exact h1.lt
/-- The document's reader is in its next state, too. -/
theorem Mid.step {w w1 w3 : World} {b gx : Nat} {S S1 : RS} (h : Mid w w1 b gx S S1) (hb : Below w1.heap.size w1 w3) {a : Option Addr} {c : Nat} (hv : Sl w3 (.slice a S1.l.length c) S1.l) :
    Both w ((w3.setCell ⟨gx, 0, none⟩ (.slice a S1.l.length c)).setCell ⟨gx, 1, none⟩ (.bool S1.wr)) b gx S1 ∧
    (∀ v L, Sl w3 v L → Sl ((w3.setCell ⟨gx, 0, none⟩ (.slice a S1.l.length c)).setCell ⟨gx, 1, none⟩ (.bool S1.wr)) v L) ∧
    (∃ u y, SB w3 gx RFT u y) := by
  obtain ⟨a0, c0, h1, _⟩ := h.xv
  have h3 := h1.below hb h1.lt
  have hn := h3.noByte
  have t := turn_set2 w3 gx (.slice a S1.l.length c) (.bool S1.wr)
  refine ⟨⟨(h.rd.below hb (Nat.le_refl _)).turn t h.ne hn, ⟨a, c, (h3.set0 _).set1 _, (hv.turn t hn).sw⟩, h.ne, h.hb, h.hx, Turn.own (h.bel.trans (hb.mono h.bel.size)) t h.hx (Nat.le_refl _)⟩, fun v L hL => hL.turn t hn, ⟨_, _, h3⟩⟩
theorem Both.below {w w1 w2 : World} {b gx : Nat} {S : RS} (h : Both w w1 b gx S) (hb : Below w1.heap.size w1 w2) : Both w w2 b gx S := by
  obtain ⟨a, c, h1, h2⟩ := h.xv
  exact ⟨h.rd.below hb (Nat.le_refl _), ⟨a, c, h1.below hb h1.lt, h2.below hb (Nat.le_refl _)⟩, h.ne, h.hb, h.hx, h.bel.trans (hb.mono h.bel.size)⟩
theorem byteS_wr {S : RS} (h : (byteS S).2.wr = true) : (byteS S).1 = 0 := by
  by_cases h0 : S.l = []
  · rw [byteS_nil h0]
  · rw [byteS_cons h0] at h; cases h
theorem byteS_lt {S : RS} (h : B8 S.l) : (byteS S).1 < 256 := by
  by_cases h0 : S.l = []
  · rw [byteS_nil h0]; show 0 < 256; omega
  · rw [byteS_cons h0]; exact h.get 0
theorem bytesS_wr {S : RS} {m : Nat} (h : (bytesS S m).2.wr = true) : (bytesS S m).1 = [] := by
  by_cases h0 : (numS S m).2.wr = false ∧ (numS S m).1 ≤ (numS S m).2.l.length
  · rw [bytesS_hit h0.1 h0.2] at h; cases h
  · rw [bytesS_miss h0]
theorem KSrc.below {w w' : World} {a : Option Addr} {l : List (Int × Int)} (h : KSrc w a l) (hb : Below w.heap.size w w') : KSrc w' a l := fun h0 => by
  obtain ⟨b, o, rfl, hc⟩ := h h0
  refine ⟨b, o, rfl, fun i hi => ?_⟩
  obtain ⟨h1, h2⟩ := hc i hi
  rw [hb.cell (p := ⟨b, o + i * 2, none⟩) (block_lt_of_cell h1), hb.cell (p := ⟨b, o + i * 2 + 1, none⟩) (block_lt_of_cell h2)]
  exact ⟨h1, h2⟩
theorem sl_turn0 {w w' : World} {v : Value} {l : List Nat} (h : Sl w v l) (t : Turn (fun _ => False) w w') : Sl w' v l := h.below (t.below (Nat.le_refl _) (fun _ h => h.elim)) (Nat.le_refl _)
theorem src_turn0 {w w' : World} {a : Option Addr} {l : List Nat} (h : Src w a l) (t : Turn (fun _ => False) w w') : Src w' a l := h.below (t.below (Nat.le_refl _) (fun _ h => h.elim)) (Nat.le_refl _)
set_option maxRecDepth 100000 in
set_option maxHeartbeats 8000000 in
theorem takes_any (a : Option Addr) (l : List Nat) (n c : Nat) (ka : Option Addr) (kl : List (Int × Int)) (kn kc : Nat) (a2 : Option Addr) (l2 : List Nat) (n2 c2 : Nat) (w : World) (hn : l.length = n) (hkn : kl.length = kn) (hn2 : l2.length = n2)
    (hb8 : B8 l) (hb82 : B8 l2) (hs : Src w a l) (hz : a = none → c = 0) (hks : KSrc w ka kl) (hk16 : K16 kl) (hs2 : Src w a2 l2) (hz2 : a2 = none → c2 = 0) (hg : Hg w)
    (hn63 : n ≤ 9223372036854775807) (hkn63 : kn ≤ 9223372036854775807) (hn263 : n2 ≤ 9223372036854775807) (hlc : n ≤ c) (hcm : c ≤ maxLen) :
    Calls Tryd.prog 3 #[.slice a n c, .slice ka kn kc, .slice a2 n2 c2] w fun e w' => e = .returned (.bool true) ∧ Below w.heap.size w w' := by
  by_cases h1 : 600 < n
  · have d1 : decide (600 < (n : Int)) = true := by simp; omega
    go_enter Tryd.func3, Tryd.ntmps3
    go_wp2_with fail
    refine (sure_any _ hg).mono ?_
    rintro e w6 ⟨rfl, hb6⟩
    go_wp2_with fail
    go_ret
    exact ⟨rfl, hb6⟩
  have d1 : decide (600 < (n : Int)) = false := by simp; omega
  by_cases h2 : 100 < kn
  · have d2 : decide (100 < (kn : Int)) = true := by simp; omega
    go_enter Tryd.func3, Tryd.ntmps3
    go_wp2_with fail
    refine (sure_any _ hg).mono ?_
    rintro e w6 ⟨rfl, hb6⟩
    go_wp2_with fail
    go_ret
    exact ⟨rfl, hb6⟩
  have d2 : decide (100 < (kn : Int)) = false := by simp; omega
  by_cases h3 : 600 < n2
  · have d3 : decide (600 < (n2 : Int)) = true := by simp; omega
    go_enter Tryd.func3, Tryd.ntmps3
    go_wp2_with fail
    refine (sure_any _ hg).mono ?_
    rintro e w6 ⟨rfl, hb6⟩
    go_wp2_with fail
    go_ret
    exact ⟨rfl, hb6⟩
  have d3 : decide (600 < (n2 : Int)) = false := by simp; omega
  have HG := Lib.hid hg
  have Hs := Lib.hid (And.intro hs hz)
  have Hs2 := Lib.hid (And.intro hs2 hz2)
  have Hk := Lib.hid (And.intro hks hk16)
  have Hn := Lib.hid (And.intro hn (And.intro hkn hn2))
  have H8 := Lib.hid (And.intro hb8 hb82)
  have hc63 : c ≤ 9223372036854775807 := by unfold maxLen at hcm; omega
  have Hcm := Lib.hid hcm
  clear hg hs hz hs2 hz2 hks hk16 hn hkn hn2 hb8 hb82 hn63 hkn63 hn263 hcm
  go_enter Tryd.func3, Tryd.ntmps3
  go_wp2_with fail
  refine (rbyte_nil w).mono ?_
  rintro e w' ⟨rfl, rfl⟩
  go_wp2_with fail
  refine (rnum_nil w 9).mono ?_
  rintro e w' ⟨rfl, rfl⟩
  go_wp2_with fail
  refine (rbytes_nil w).mono ?_
  rintro e w' ⟨rfl, rfl⟩
  go_wp2_with fail
  refine (left_nil w).mono ?_
  rintro e w' ⟨rfl, rfl⟩
  go_wp2_with fail
  refine (done_nil w).mono ?_
  rintro e w' ⟨rfl, rfl⟩
  rw [errV_3]
  go_wp2_with fail
  refine (num_err 3 w HG.out).mono ?_
  rintro e w1 ⟨rfl, hb1⟩
  go_wp2_with fail
  refine wp_region_gt (F := fun _ => False) [(0, true), (3, true), (4, true), (5, true), (1, false), (2, true), (6, true), (7, true), (8, true), (9, true), (10, true), (11, true), (14, true), (15, true), (16, true), (17, true), (12, false), (13, true), (18, false), (19, true), (20, true), (21, true), (22, true), (23, true), (24, true), (27, true), (28, true), (25, false), (26, true), (29, false), (30, true), (31, true), (32, true)] (by kernel_rfl) (by kernel_rfl) (by kernel_rfl) (by kernel_rfl) (fun _ _ _ _ _ h => h) ?_
  have Hb1 := Lib.hid hb1.drew
  clear hb1
  generalize w1.drew = w2 at *
  have hs2' := Hs.out.1.below Hb1.out (Nat.le_refl _)
  have cb : ∀ w', Turn (fun _ => False) w2 w' → (convert 22 9 (.slice a n c)).run Tryd.prog w' = .ok (.string (bstr l)) w' := fun w' t =>
    conv_src 22 5 9 Tryd.underlying22 Tryd.underlying5 Tryd.underlying9 a n c l Hn.out.1 w' (src_turn0 hs2' t)
  obtain ⟨X1, hX1⟩ : ∃ X, X = bstr (l ++ [7]) := ⟨_, rfl⟩
  obtain ⟨X0, hX0⟩ : ∃ X, X = bstr l := ⟨_, rfl⟩
  have ca : X0 ++ (⟨#[7]⟩ : ByteArray) = X1 := by rw [hX0, hX1, bstr_append]; rfl
  have cz : ¬ (9223372036854775807 < X0.size + 1) := by rw [hX0, bstr_size, Hn.out.1]; omega
  rw [← hX0] at cb
  have HX1 := Lib.hid hX1
  clear hX1 hX0 hs2'
  iterate 4 (refine wpGt_read (o := ⟨_, _, _, _, _, _⟩) (v := ?_) rfl (by rfl) ?_ ?_; rotate_left; (intro w' hw'; go_simp; with_reducible rfl); simp only [Act.put, List.setIfInBounds_toArray, List.set_cons_zero, List.set_cons_succ])
  clear ca cz cb
  refine wpGt_call (o := ⟨_, _, _, _, _, _⟩) rfl (by rfl) (fun K hK => ?_)
  go_simp
  refine (packByte_any a n c l Hn.out.1 7 w2 (Hs.out.1.below Hb1.out (Nat.le_refl _)) Hs.out.2 (by omega)).mono ?_
  rintro e w3 ⟨v1, rfl, hv1, hb3⟩
  refine hK _ _ (Turn.ofBelow hb3) ?_
  clear hK K
  have Hb3 := Lib.hid (Hb1.out.trans (hb3.mono Hb1.out.size))
  have cv : ∀ w', Turn (fun _ => False) w3 w' → (convert 22 9 v1).run Tryd.prog w' = .ok (.string X1) w' := fun w' t => by
    have := (sl_turn0 hv1 t).conv
    rwa [← HX1.out] at this
  clear hv1 hb3 Hb1
  have z1 : IntKind.u64.wrap (n2 : Int) = (n2 : Int) := by rw [IntKind.wrap_u64]; omega
  iterate 11 (refine wpGt_read (o := ⟨_, _, _, _, _, _⟩) (v := ?_) rfl (by rfl) ?_ ?_; rotate_left; (intro w' hw'; go_simp; with_reducible rfl); simp only [Act.put, List.setIfInBounds_toArray, List.set_cons_zero, List.set_cons_succ])
  clear cv
  refine wpGt_call (o := ⟨_, _, _, _, _, _⟩) rfl (by rfl) (fun K hK => ?_)
  go_simp
  refine (packNum_any a n c l Hn.out.1 n2 w3 (Hs.out.1.below Hb3.out (Nat.le_refl _)) (by omega) (by omega)).mono ?_
  rintro e w4 ⟨v2, rfl, hv2, hb4⟩
  refine hK _ _ (Turn.ofBelow hb4) ?_
  clear hK K
  have Hb4 := Lib.hid (Hb3.out.trans (hb4.mono Hb3.out.size))
  obtain ⟨X2, hX2⟩ : ∃ X, X = bstr (l ++ vb n2) := ⟨_, rfl⟩
  have HX2 := Lib.hid hX2
  have cv : ∀ w', Turn (fun _ => False) w4 w' → (convert 22 9 v2).run Tryd.prog w' = .ok (.string X2) w' := fun w' t => by
    have := (sl_turn0 hv2 t).conv
    rwa [← HX2.out] at this
  clear hv2 hb4 Hb3 hX2
  iterate 1 (refine wpGt_read (o := ⟨_, _, _, _, _, _⟩) (v := ?_) rfl (by rfl) ?_ ?_; rotate_left; (intro w' hw'; go_simp; with_reducible rfl); simp only [Act.put, List.setIfInBounds_toArray, List.set_cons_zero, List.set_cons_succ])
  clear cv
  refine wpGt_call (o := ⟨_, _, _, _, _, _⟩) rfl (by rfl) (fun K hK => ?_)
  go_simp
  refine (by have := refPut_any a c l n2 w4 (by rw [Hn.out.1]; omega) (by omega) Hs.out.2 (Hs.out.1.below Hb4.out (Nat.le_refl _)); rw [Hn.out.1] at this; exact this : Calls Tryd.prog 15 #[.slice a n c, .int .u64 (n2 : Int)] w4 fun e w' => ∃ r, e = .returned r ∧ w'.ownsRow w4.heap.size 5 1 r (l ++ vb n2).length (bv (l ++ vb n2)) ∧ Below w4.heap.size w4 w').mono ?_
  rintro e w5 ⟨v3, rfl, hv3, hb5⟩
  refine hK _ _ (Turn.ofBelow hb5) ?_
  clear hK K
  have Hb5 := Lib.hid (Hb4.out.trans (hb5.mono Hb4.out.size))
  have cv : ∀ w', Turn (fun _ => False) w5 w' → (convert 22 9 v3).run Tryd.prog w' = .ok (.string X2) w' := fun w' t => by
    have := (sl_turn0 (Sl.own hv3) t).conv
    rwa [← HX2.out] at this
  clear hv3 hb5 Hb4
  iterate 8 (refine wpGt_read (o := ⟨_, _, _, _, _, _⟩) (v := ?_) rfl (by rfl) ?_ ?_; rotate_left; (intro w' hw'; go_simp; with_reducible rfl); simp only [Act.put, List.setIfInBounds_toArray, List.set_cons_zero, List.set_cons_succ])
  clear cv
  refine wpGt_call (o := ⟨_, _, _, _, _, _⟩) rfl (by rfl) (fun K hK => ?_)
  go_simp
  refine (packBytes_any a a2 n c n2 c2 l l2 Hn.out.1 Hn.out.2.2 w5 (Hs.out.1.below Hb5.out (Nat.le_refl _)) (Hs2.out.1.below Hb5.out (Nat.le_refl _)) Hs2.out.2 (by omega) (by omega)).mono ?_
  rintro e w6 ⟨v4, rfl, hv4, hb6⟩
  refine hK _ _ (Turn.ofBelow hb6) ?_
  clear hK K
  have Hb6 := Lib.hid (Hb5.out.trans (hb6.mono Hb5.out.size))
  obtain ⟨X3, hX3⟩ : ∃ X, X = bstr (l ++ vb n2 ++ l2) := ⟨_, rfl⟩
  have HX3 := Lib.hid hX3
  have cv : ∀ w', Turn (fun _ => False) w6 w' → (convert 22 9 v4).run Tryd.prog w' = .ok (.string X3) w' := fun w' t => by
    have := (sl_turn0 hv4 t).conv
    rwa [← HX3.out] at this
  clear hv4 hb6 Hb5 hX3 HX2
  iterate 1 (refine wpGt_read (o := ⟨_, _, _, _, _, _⟩) (v := ?_) rfl (by rfl) ?_ ?_; rotate_left; (intro w' hw'; go_simp; with_reducible rfl); simp only [Act.put, List.setIfInBounds_toArray, List.set_cons_zero, List.set_cons_succ])
  clear cv
  refine wpGt_call (o := ⟨_, _, _, _, _, _⟩) rfl (by rfl) (fun K hK => ?_)
  go_simp
  refine (refPutBytes_any a a2 n c n2 c2 l l2 Hn.out.1 Hn.out.2.2 w6 (Hs.out.1.below Hb6.out (Nat.le_refl _)) Hs.out.2 (Hs2.out.1.below Hb6.out (Nat.le_refl _)) Hs2.out.2 (by omega) (by omega)).mono ?_
  rintro e w7 ⟨v5, rfl, hv5, hb7⟩
  refine hK _ _ (Turn.ofBelow hb7) ?_
  clear hK K
  have Hb7 := Lib.hid (Hb6.out.trans (hb7.mono Hb6.out.size))
  have cv : ∀ w', Turn (fun _ => False) w7 w' → (convert 22 9 v5).run Tryd.prog w' = .ok (.string X3) w' := fun w' t => by
    have := (sl_turn0 hv5 t).conv
    rwa [← HX3.out] at this
  clear hv5 hb7 Hb6
  iterate 3 (refine wpGt_read (o := ⟨_, _, _, _, _, _⟩) (v := ?_) rfl (by rfl) ?_ ?_; rotate_left; (intro w' hw'; go_simp; with_reducible rfl); simp only [Act.put, List.setIfInBounds_toArray, List.set_cons_zero, List.set_cons_succ])
  refine wpGt_done ?_
  clear cv z1
  go_wp2_with fail
  refine (new_any a n c l Hn.out.1 w7 (Hs.out.1.below Hb7.out (Nat.le_refl _)) Hs.out.2 (by omega) H8.out.1).mono ?_
  rintro e w8 ⟨b, rfl, hbb, hr8, hb8⟩
  have hal : Below w8.heap.size w8 (w8.alloc (.cells #[.slice a n c, .bool false] RFT)) := (Below.refl _ _).alloc (Nat.le_refl _) _
  have hbw8 : Below w.heap.size w w8 := Hb7.out.trans (hb8.mono Hb7.out.size)
  have hB : Hid (Both w (w8.alloc (.cells #[.slice a n c, .bool false] RFT)) b w8.heap.size ⟨l, false⟩) :=
    ⟨hr8.below hal (Nat.le_refl _), ⟨a, c, by rw [Hn.out.1]; exact SB.new w8 RFT _ false, ⟨a, c, rfl, (Hs.out.1.below hbw8 (Nat.le_refl _)).below hal (Nat.le_refl _), Hs.out.2, by rw [Hn.out.1]; exact hlc, Hcm.out⟩⟩,
      by have := hr8.lt; omega, Nat.le_trans Hb7.out.size hbb, hbw8.size, hbw8.trans (hal.mono hbw8.size)⟩
  clear hbb hr8 hb8 hal hbw8 Hb7
  go_wp2_with fail
  generalize w8.heap.size = gx at *
  go_loopw [10] (fun i wr => ∃ (k : Nat) (S : RS), k ≤ kn ∧ i = .int .i64 k ∧ Hid (Both w wr b gx S)) (fun i _ => kn - (intOf i).toNat)
  case atStart => exact ⟨0, _, Nat.zero_le _, rfl, hB⟩
  case round =>
    clear hB
    obtain ⟨k, S, hkn, rfl, hT⟩ := hrel
    by_cases hlt : k < kn
    · obtain ⟨kb, ko, rfl, hkc⟩ := Hk.out.1.below (hT.out.bel.mono (Nat.le_refl _)) (by rw [Hn.out.2.1]; omega)
      obtain ⟨q0, q1⟩ := hkc k (by rw [Hn.out.2.1]; exact hlt)
      obtain ⟨kb', ko', hke, hkc'⟩ := Hk.out.1 (by rw [Hn.out.2.1]; omega)
      cases hke
      have Q1 := (hkc' k (by rw [Hn.out.2.1]; exact hlt)).2
      have Hkb := Lib.hid (block_lt_of_cell Q1)
      clear hkc'
      obtain ⟨p1, p2, p3, p4⟩ := Hk.out.2 k (by rw [Hn.out.2.1]; exact hlt)
      clear hkc
      generalize (kl.getD k (0, 0)).1 = P at *
      generalize (kl.getD k (0, 0)).2 = Q at *
      have HQ : Hid (∀ w', Below w.heap.size w w' → w'.cell? ⟨kb, ko + k * 2 + 1, none⟩ = some (.int .i16 Q)) := fun w' hb => by rw [hb.cell (p := ⟨kb, ko + k * 2 + 1, none⟩) Hkb.out]; exact Q1
      clear Q1
      obtain ⟨R, hR⟩ : ∃ R, R = P.tmod 3 := ⟨_, rfl⟩
      have eR : P.tmod 3 = R := hR.symm
      clear hR
      go_upto_block 2 with fail
      go_cut [11, 12, 13, 14] (fun s11 s12 s13 s14 wx => ∃ (V : Nat) (L : List Nat) (S2 : RS) (sv tv : Value), s11 = .int .u64 V ∧ s12 = .int .u64 V ∧ s13 = sv ∧ s14 = tv ∧ V < 18446744073709551616 ∧ Hid (Sl wx sv L ∧ Sl wx tv L ∧ (S2.wr = true → V = 0 ∧ L = [])) ∧ Hid (Both w wx b gx S2))
      case first =>
        by_cases hR0 : R = 0
        · as_aux_lemma =>
            subst hR0
            go_wp2_with fail
            refine (rbyte_any wr b S hT.out.rd).mono ?_
            rintro e w9 ⟨rfl, hr9, ht9⟩
            have hx := byteS_lt hT.out.rd.b8
            have hw0 := byteS_wr (S := S)
            have hm := hT.out.mid hr9 ht9
            have hbyte : ∀ w x, RfW w x S → Calls Tryd.prog 19 #[x] w fun e w' => ∃ x', e = .returned (.tuple #[x', .int .u8 ((byteS S).1 : Nat)]) ∧ Rf w' x' (byteS S).2 ∧ Below w.heap.size w w' := fun w x h => refByte_any w x S h
            generalize (byteS S).1 = V at *
            generalize (byteS S).2 = S2 at *
            have Hm := Lib.hid hm
            obtain ⟨xa, xc, hsb, hrw⟩ := hm.xv
            have Hbyte := Lib.hid (hbyte _ _ hrw)
            have g0 := hsb.c0
            have g1 := hsb.c1
            have Hw0 := Lib.hid hw0
            clear hr9 ht9 hT hm hsb hrw hbyte hw0
            go_wp2_with fail
            refine Hbyte.out.mono ?_
            rintro e w10 ⟨x', rfl, hrf, hb10⟩
            obtain ⟨v', rfl, hv'⟩ := hrf.ex
            obtain ⟨a', c', rfl, _⟩ := hv'.arg
            have hal : Below w10.heap.size w10 (w10.alloc (.cells #[.slice a' S2.l.length c', .bool S2.wr] RFT)) := (Below.refl _ _).alloc (Nat.le_refl _) _
            have hb9 := hb10.trans (hal.mono hb10.size)
            obtain ⟨hB, _, u, y, h3⟩ := Hm.out.step hb9 (hv'.below hal (Nat.le_refl _))
            have e0 := h3.c0
            have e1 := h3.c1
            have z0 := h3.fz 0
            have z1 := h3.fz 1
            have HB := Lib.hid hB
            clear g0 g1 hrf hb10 hv' hal hb9 hB h3 Hbyte Hm
            go_wp2
            go_meet
            exact ⟨V, [], S2, _, _, by go_num, by go_num, rfl, rfl, by omega, ⟨Sl.none _, Sl.none _, fun h => ⟨Hw0.out h, rfl⟩⟩, HB⟩
        · by_cases hR1 : R = 1
          · as_aux_lemma =>
              subst hR1
              obtain ⟨m, hmm⟩ : ∃ m : Nat, IntKind.u64.wrap Q = (m : Int) := Int.eq_ofNat_of_zero_le (by rw [IntKind.wrap_u64]; omega)
              go_wp2_with fail
              refine (rnum_any wr b S hT.out.rd m).mono ?_
              rintro e w9 ⟨rfl, hr9, ht9⟩
              have hx := numS_lt S m
              have hw0 : (numS S m).2.wr = true → (numS S m).1 = 0 := fun h => by rw [numS_wr h]
              have hm := (hT.out.mid hr9 ht9).drew
              have hbyte : ∀ w x, RfW w x S → Calls Tryd.prog 20 #[x, .int .u64 (m : Int)] w fun e w' => ∃ x', e = .returned (.tuple #[x', .int .u64 ((numS S m).1 : Nat)]) ∧ Rf w' x' (numS S m).2 ∧ Below w.heap.size w w' := fun w x h => refNum_any w x S h m
              generalize (numS S m).1 = V at *
              generalize (numS S m).2 = S2 at *
              have Hm := Lib.hid hm
              have Hw0 := Lib.hid hw0
              have Hbyte := Lib.hid hbyte
              clear hr9 ht9 hT hm hbyte hw0
              go_wp2_with fail
              refine wp_region_gt (F := fun i => i = gx) [(1, true), (2, true), (3, true), (4, true), (5, true), (6, true), (0, false), (7, false), (8, true), (9, true), (10, true), (11, false), (12, true)] (by kernel_rfl) (by kernel_rfl) (by kernel_rfl) (by kernel_rfl) (fun _ _ _ _ _ h => h) ?_
              generalize w9.drew = w9d at *
              obtain ⟨xa, xc, hsb, hrw⟩ := Hm.out.xv
              have g0 := hsb.c0
              have g1 := hsb.c1
              have Hb2 := Lib.hid (Hbyte.out _ _ hrw)
              have kq : ∀ w', Turn (fun i => i = gx) w9d w' → w'.cell? ⟨kb, ko + k * 2 + 1, none⟩ = some (.int .i16 Q) := fun w' t => HQ.out w' (Turn.own Hm.out.bel t Hm.out.hx (Nat.le_refl _))
              have i1 : (0 : Int) ≤ k := by omega
              have i2 : (k : Int) < kn := by omega
              clear hsb hrw Hbyte q0 q1
              iterate 6 (refine wpGt_read (o := ⟨_, _, _, _, _, _⟩) (v := ?_) rfl (by rfl) ?_ ?_; rotate_left; (intro w' hw'; go_simp; with_reducible rfl); simp only [Act.put, List.setIfInBounds_toArray, List.set_cons_zero, List.set_cons_succ])
              clear kq
              refine wpGt_call (o := ⟨_, _, _, _, _, _⟩) rfl (by rfl) (fun K hK => ?_)
              go_simp
              refine hK _ _ (Turn.refl _ _) ?_
              clear hK K g0 g1
              refine wpGt_call (o := ⟨_, _, _, _, _, _⟩) rfl (by rfl) (fun K hK => ?_)
              go_simp
              refine Hb2.out.mono ?_
              rintro e w10 ⟨x', rfl, hrf, hb10⟩
              refine hK _ _ (Turn.ofBelow hb10) ?_
              clear hK K Hb2
              obtain ⟨v', rfl, hv'⟩ := hrf.ex
              obtain ⟨a', c', rfl, _⟩ := hv'.arg
              obtain ⟨hB, _, u, y, h3⟩ := Hm.out.step hb10 hv'
              have e0 := h3.c0
              have e1 := h3.c1
              have z0 := h3.fz 0
              have z1 := h3.fz 1
              have HB := Lib.hid hB
              clear hrf hb10 hv' hB h3 Hm
              iterate 3 (refine wpGt_read (o := ⟨_, _, _, _, _, _⟩) (v := ?_) rfl (by rfl) ?_ ?_; rotate_left; (intro w' hw'; go_simp; with_reducible rfl); simp only [Act.put, List.setIfInBounds_toArray, List.set_cons_zero, List.set_cons_succ])
              refine wpGt_call (o := ⟨_, _, _, _, _, _⟩) rfl (by rfl) (fun K hK => ?_)
              go_simp
              refine hK _ _ (turn_set2 _ _ _ _) ?_
              clear hK K e0 e1 z0 z1
              iterate 1 (refine wpGt_read (o := ⟨_, _, _, _, _, _⟩) (v := ?_) rfl (by rfl) ?_ ?_; rotate_left; (intro w' hw'; go_simp; with_reducible rfl); simp only [Act.put, List.setIfInBounds_toArray, List.set_cons_zero, List.set_cons_succ])
              refine wpGt_done ?_
              go_wp2
              go_meet
              exact ⟨V, [], S2, _, _, by go_num, by go_num, rfl, rfl, hx, ⟨Sl.none _, Sl.none _, fun h => ⟨Hw0.out h, rfl⟩⟩, HB⟩
          · as_aux_lemma =>
              have dR0 : (R == 0) = false := by simp [hR0]
              have dR1 : (R == 1) = false := by simp [hR1]
              have zq : IntKind.i64.wrap Q = Q := IntWalk.i64_in _ (by omega)
              obtain ⟨m, hmm⟩ : ∃ m : Nat, m = Q.toNat := ⟨_, rfl⟩
              go_wp2_with fail
              refine (rbytes_any wr b S hT.out.rd Q m hmm (by omega) (by omega)).mono ?_
              rintro e w9 ⟨sv, rfl, hsv, hr9, ht9⟩
              have hw0 : (bytesS S m).2.wr = true → (bytesS S m).1 = [] := bytesS_wr
              have hm := (hT.out.mid hr9 ht9).drew
              have hbyte : ∀ w x, RfW w x S → Calls Tryd.prog 21 #[x, .int .i64 Q] w fun e w' => ∃ x' v, e = .returned (.tuple #[x', v]) ∧ Rf w' x' (bytesS S m).2 ∧ Sl w' v (bytesS S m).1 ∧ Below w.heap.size w w' := fun w x h => refBytes_any w x S h Q m hmm (by omega) (by omega)
              generalize (bytesS S m).1 = L at *
              generalize (bytesS S m).2 = S2 at *
              have Hm := Lib.hid hm
              have Hw0 := Lib.hid hw0
              have Hbyte := Lib.hid hbyte
              have Hsv : Hid (Sl w9.drew sv L) := hsv
              clear hr9 ht9 hT hm hbyte hw0 hmm hsv
              go_wp2_with fail
              refine wp_region_gt (F := fun i => i = gx) [(1, true), (2, true), (3, true), (4, true), (5, true), (6, true), (0, false), (7, false), (8, true), (9, true), (10, true), (11, false), (12, true)] (by kernel_rfl) (by kernel_rfl) (by kernel_rfl) (by kernel_rfl) (fun _ _ _ _ _ h => h) ?_
              generalize w9.drew = w9d at *
              obtain ⟨xa, xc, hsb, hrw⟩ := Hm.out.xv
              have g0 := hsb.c0
              have g1 := hsb.c1
              have Hb2 := Lib.hid (Hbyte.out _ _ hrw)
              have kq : ∀ w', Turn (fun i => i = gx) w9d w' → w'.cell? ⟨kb, ko + k * 2 + 1, none⟩ = some (.int .i16 Q) := fun w' t => HQ.out w' (Turn.own Hm.out.bel t Hm.out.hx (Nat.le_refl _))
              have i1 : (0 : Int) ≤ k := by omega
              have i2 : (k : Int) < kn := by omega
              clear hsb hrw Hbyte q0 q1
              iterate 6 (refine wpGt_read (o := ⟨_, _, _, _, _, _⟩) (v := ?_) rfl (by rfl) ?_ ?_; rotate_left; (intro w' hw'; go_simp; with_reducible rfl); simp only [Act.put, List.setIfInBounds_toArray, List.set_cons_zero, List.set_cons_succ])
              clear kq
              refine wpGt_call (o := ⟨_, _, _, _, _, _⟩) rfl (by rfl) (fun K hK => ?_)
              go_simp
              refine hK _ _ (Turn.refl _ _) ?_
              clear hK K g0 g1
              refine wpGt_call (o := ⟨_, _, _, _, _, _⟩) rfl (by rfl) (fun K hK => ?_)
              go_simp
              refine Hb2.out.mono ?_
              rintro e w10 ⟨x', tv, rfl, hrf, htv, hb10⟩
              refine hK _ _ (Turn.ofBelow hb10) ?_
              clear hK K Hb2
              obtain ⟨v', rfl, hv'⟩ := hrf.ex
              obtain ⟨a', c', rfl, _⟩ := hv'.arg
              obtain ⟨hB, hmov, u, y, h3⟩ := Hm.out.step hb10 hv'
              have e0 := h3.c0
              have e1 := h3.c1
              have z0 := h3.fz 0
              have z1 := h3.fz 1
              have HB := Lib.hid hB
              have Hvs := Lib.hid (And.intro (hmov _ _ (Hsv.out.below hb10 (Nat.le_refl _))) (hmov _ _ htv))
              clear hrf hb10 hv' hB h3 Hm htv hmov Hsv
              iterate 3 (refine wpGt_read (o := ⟨_, _, _, _, _, _⟩) (v := ?_) rfl (by rfl) ?_ ?_; rotate_left; (intro w' hw'; go_simp; with_reducible rfl); simp only [Act.put, List.setIfInBounds_toArray, List.set_cons_zero, List.set_cons_succ])
              refine wpGt_call (o := ⟨_, _, _, _, _, _⟩) rfl (by rfl) (fun K hK => ?_)
              go_simp
              refine hK _ _ (turn_set2 _ _ _ _) ?_
              clear hK K e0 e1 z0 z1
              iterate 1 (refine wpGt_read (o := ⟨_, _, _, _, _, _⟩) (v := ?_) rfl (by rfl) ?_ ?_; rotate_left; (intro w' hw'; go_simp; with_reducible rfl); simp only [Act.put, List.setIfInBounds_toArray, List.set_cons_zero, List.set_cons_succ])
              refine wpGt_done ?_
              go_wp2
              go_meet
              exact ⟨0, L, S2, _, _, by go_num, by go_num, rfl, rfl, by omega, ⟨Hvs.out.1, Hvs.out.2, fun h => ⟨rfl, Hw0.out h⟩⟩, HB⟩
      case rest =>
        obtain ⟨V, L, S2, sv, tv, rfl, rfl, rfl, rfl, hV, hsl, hT2⟩ := hcut
        obtain ⟨xa, xc, hsb, hrw⟩ := hT2.out.rf
        have hdone := done_any wc b S2 hT2.out.rd
        have hleft := left_any wc.drew b S2 hT2.out.rd.drew
        have hrdone := refDone_any wc.drew (.agg #[.slice xa S2.l.length xc, .bool S2.wr]) S2 ⟨hrw.ex, hrw.b8, hrw.len, hrw.inv⟩
        have hinv := hT2.out.rd.inv
        have hBd : Both w wc.drew b gx S2 := hT2.out.below (Below.refl _ _).drew
        have hl16 := hT2.out.rd.len
        have k0 : ∀ w', Turn (fun _ => False) wc.drew w' → w'.cell? ⟨gx, 0, none⟩ = some (.slice xa S2.l.length xc) := fun w' t => (SB.turn (w := wc.drew) hsb t (fun h => h)).c0
        have k1 : ∀ w', Turn (fun _ => False) wc.drew w' → w'.cell? ⟨gx, 1, none⟩ = some (.bool S2.wr) := fun w' t => (SB.turn (w := wc.drew) hsb t (fun h => h)).c1
        have g1 := hsb.c1
        have cs := fun w' (t : Turn (fun _ => False) wc.drew w') => (sl_turn0 (w := wc.drew) hsl.out.1 t).conv
        have ct := fun w' (t : Turn (fun _ => False) wc.drew w') => (sl_turn0 (w := wc.drew) hsl.out.2.1 t).conv
        have cn : ∀ w', Turn (fun _ => False) wc.drew w' → (convert 22 9 (.slice none 0 0)).run Tryd.prog w' = .ok (.string (bstr [])) w' := fun w' t => (Sl.none w').conv
        obtain ⟨l1, wr1⟩ := S2
        dsimp only at *
        cases wr1 with
        | true =>
          as_aux_lemma =>
            obtain rfl : l1 = [] := hinv rfl
            obtain ⟨rfl, rfl⟩ := hsl.out.2.2 rfl
            rw [doneV_wr] at hdone
            rw [show okS ⟨[], true⟩ = false from rfl] at hrdone
            have HF := Lib.hid (And.intro cs (And.intro cn (And.intro k0 (And.intro k1 (And.intro hleft (And.intro hrdone hBd))))))
            have hDone := Lib.hid hdone
            clear cs ct cn k0 k1 hleft hrdone hBd hT2 hsb hrw hinv hsl hdone q0 q1
            generalize bstr [] = XL at *
            go_wp2_with fail
            refine hDone.out.mono ?_
            rintro e w' ⟨rfl, rfl⟩
            go_wp2_with fail
            refine wp_region_gt (F := fun _ => False) [(0, true), (1, true), (2, true), (3, true), (4, true), (5, true), (6, true), (7, true), (8, true), (9, true), (10, true), (11, true), (13, true), (14, true), (15, true), (12, false), (16, true), (17, true), (18, true), (19, true), (20, true), (21, true), (22, false), (23, true), (24, true), (25, true), (26, true), (27, true), (28, true), (29, true), (30, false), (31, true), (32, true), (33, true)] (by kernel_rfl) (by kernel_rfl) (by kernel_rfl) (by kernel_rfl) (fun _ _ _ _ _ h => h) ?_
            obtain ⟨wd, hwd⟩ : ∃ wd, wd = wc.drew := ⟨_, rfl⟩
            rw [← hwd] at HF ⊢
            clear hwd
            have cs := HF.out.1
            have ct := HF.out.2.1
            have c0 := HF.out.2.2.1
            have c1 := HF.out.2.2.2.1
            iterate 15 (refine wpGt_read (o := ⟨_, _, _, _, _, _⟩) (v := ?_) rfl (by rfl) ?_ ?_; rotate_left; (intro w' hw'; go_simp; with_reducible rfl); simp only [Act.put, List.setIfInBounds_toArray, List.set_cons_zero, List.set_cons_succ])
            clear cs ct
            refine wpGt_call (o := ⟨_, _, _, _, _, _⟩) rfl (by rfl) (fun K hK => ?_)
            go_simp
            refine HF.out.2.2.2.2.1.mono ?_
            rintro e w' ⟨rfl, rfl⟩
            refine hK _ _ (Turn.refl _ _) ?_
            clear hK K
            iterate 6 (refine wpGt_read (o := ⟨_, _, _, _, _, _⟩) (v := ?_) rfl (by rfl) ?_ ?_; rotate_left; (intro w' hw'; go_simp; with_reducible rfl); simp only [Act.put, List.setIfInBounds_toArray, List.set_cons_zero, List.set_cons_succ])
            clear c0 c1
            refine wpGt_call (o := ⟨_, _, _, _, _, _⟩) rfl (by rfl) (fun K hK => ?_)
            go_simp
            refine HF.out.2.2.2.2.2.1.mono ?_
            rintro e w10 ⟨rfl, hb10⟩
            refine hK _ _ (Turn.ofBelow hb10) ?_
            clear hK K
            have HB10 := Lib.hid (HF.out.2.2.2.2.2.2.below hb10)
            clear hb10 HF
            iterate 7 (refine wpGt_read (o := ⟨_, _, _, _, _, _⟩) (v := ?_) rfl (by rfl) ?_ ?_; rotate_left; (intro w' hw'; go_simp; with_reducible rfl); simp only [Act.put, List.setIfInBounds_toArray, List.set_cons_zero, List.set_cons_succ])
            refine wpGt_call (o := ⟨_, _, _, _, _, _⟩) rfl (by rfl) (fun K hK => ?_)
            go_simp
            refine (num_err 3 w10 (HG.out.below HB10.out.bel)).mono ?_
            rintro e w11 ⟨rfl, hb11⟩
            refine hK _ _ (Turn.ofBelow hb11) ?_
            clear hK K
            have HB11 := Lib.hid (HB10.out.below hb11)
            clear hb11
            iterate 3 (refine wpGt_read (o := ⟨_, _, _, _, _, _⟩) (v := ?_) rfl (by rfl) ?_ ?_; rotate_left; (intro w' hw'; go_simp; with_reducible rfl); simp only [Act.put, List.setIfInBounds_toArray, List.set_cons_zero, List.set_cons_succ])
            refine wpGt_done ?_
            clear HB10
            go_wp2
            go_roundw
            case rel => exact ⟨k + 1, _, by omega, by go_num, HB11⟩
            case measure => simp [intOf]; omega
        | false =>
          by_cases hl0 : l1 = []
          · as_aux_lemma =>
              subst hl0
              rw [doneV_ok] at hdone
              rw [show okS ⟨[], false⟩ = true from rfl] at hrdone
              have HF := Lib.hid (And.intro cs (And.intro ct (And.intro k0 (And.intro k1 (And.intro hleft (And.intro hrdone hBd))))))
              have hDone := Lib.hid hdone
              clear cs ct cn k0 k1 hleft hrdone hBd hT2 hsb hrw hinv hsl hdone q0 q1
              generalize bstr L = XL at *
              go_wp2_with fail
              refine hDone.out.mono ?_
              rintro e w' ⟨rfl, rfl⟩
              go_wp2_with fail
              refine wp_region_gt (F := fun _ => False) [(0, true), (1, true), (2, true), (3, true), (4, true), (5, true), (6, true), (7, true), (8, true), (9, true), (10, true), (11, true), (13, true), (14, true), (15, true), (12, false), (16, true), (17, true), (18, true), (19, true), (20, true), (21, true), (22, false), (23, true), (24, true), (25, true), (26, true), (27, true), (28, true), (29, true), (30, false), (31, true), (32, true), (33, true)] (by kernel_rfl) (by kernel_rfl) (by kernel_rfl) (by kernel_rfl) (fun _ _ _ _ _ h => h) ?_
              obtain ⟨wd, hwd⟩ : ∃ wd, wd = wc.drew := ⟨_, rfl⟩
              rw [← hwd] at HF ⊢
              clear hwd
              have cs := HF.out.1
              have ct := HF.out.2.1
              have c0 := HF.out.2.2.1
              have c1 := HF.out.2.2.2.1
              iterate 15 (refine wpGt_read (o := ⟨_, _, _, _, _, _⟩) (v := ?_) rfl (by rfl) ?_ ?_; rotate_left; (intro w' hw'; go_simp; with_reducible rfl); simp only [Act.put, List.setIfInBounds_toArray, List.set_cons_zero, List.set_cons_succ])
              clear cs ct
              refine wpGt_call (o := ⟨_, _, _, _, _, _⟩) rfl (by rfl) (fun K hK => ?_)
              go_simp
              refine HF.out.2.2.2.2.1.mono ?_
              rintro e w' ⟨rfl, rfl⟩
              refine hK _ _ (Turn.refl _ _) ?_
              clear hK K
              iterate 6 (refine wpGt_read (o := ⟨_, _, _, _, _, _⟩) (v := ?_) rfl (by rfl) ?_ ?_; rotate_left; (intro w' hw'; go_simp; with_reducible rfl); simp only [Act.put, List.setIfInBounds_toArray, List.set_cons_zero, List.set_cons_succ])
              clear c0 c1
              refine wpGt_call (o := ⟨_, _, _, _, _, _⟩) rfl (by rfl) (fun K hK => ?_)
              go_simp
              refine HF.out.2.2.2.2.2.1.mono ?_
              rintro e w10 ⟨rfl, hb10⟩
              refine hK _ _ (Turn.ofBelow hb10) ?_
              clear hK K
              have HB10 := Lib.hid (HF.out.2.2.2.2.2.2.below hb10)
              clear hb10 HF
              iterate 6 (refine wpGt_read (o := ⟨_, _, _, _, _, _⟩) (v := ?_) rfl (by rfl) ?_ ?_; rotate_left; (intro w' hw'; go_simp; with_reducible rfl); simp only [Act.put, List.setIfInBounds_toArray, List.set_cons_zero, List.set_cons_succ])
              refine wpGt_skip (o := ⟨_, _, _, _, _, _⟩) rfl (by rfl) ?_
              simp only [Act.put, List.setIfInBounds_toArray, List.set_cons_zero, List.set_cons_succ]
              refine wpGt_skipCall (o := ⟨_, _, _, _, _, _⟩) rfl (by rfl) ?_
              simp only [Act.put, List.setIfInBounds_toArray, List.set_cons_zero, List.set_cons_succ]
              refine wpGt_skip (o := ⟨_, _, _, _, _, _⟩) rfl (by rfl) ?_
              simp only [Act.put, List.setIfInBounds_toArray, List.set_cons_zero, List.set_cons_succ]
              iterate 2 (refine wpGt_read (o := ⟨_, _, _, _, _, _⟩) (v := ?_) rfl (by rfl) ?_ ?_; rotate_left; (intro w' hw'; go_simp; with_reducible rfl); simp only [Act.put, List.setIfInBounds_toArray, List.set_cons_zero, List.set_cons_succ])
              refine wpGt_done ?_
              have HB11 := HB10
              clear HB10
              go_wp2
              go_roundw
              case rel => exact ⟨k + 1, _, by omega, by go_num, HB11⟩
              case measure => simp [intOf]; omega
          · as_aux_lemma =>
              rw [doneV_left hl0] at hdone
              rw [show okS ⟨l1, false⟩ = false by unfold okS; simp [hl0]] at hrdone
              have HF := Lib.hid (And.intro cs (And.intro ct (And.intro k0 (And.intro k1 (And.intro hleft (And.intro hrdone hBd))))))
              have hDone := Lib.hid hdone
              clear cs ct cn k0 k1 hleft hrdone hBd hT2 hsb hrw hinv hsl hdone q0 q1
              generalize bstr L = XL at *
              generalize l1.length = N1 at *
              go_wp2_with fail
              refine hDone.out.mono ?_
              rintro e w' ⟨rfl, rfl⟩
              go_wp2_with fail
              refine wp_region_gt (F := fun _ => False) [(0, true), (1, true), (2, true), (3, true), (4, true), (5, true), (6, true), (7, true), (8, true), (9, true), (10, true), (11, true), (13, true), (14, true), (15, true), (12, false), (16, true), (17, true), (18, true), (19, true), (20, true), (21, true), (22, false), (23, true), (24, true), (25, true), (26, true), (27, true), (28, true), (29, true), (30, false), (31, true), (32, true), (33, true)] (by kernel_rfl) (by kernel_rfl) (by kernel_rfl) (by kernel_rfl) (fun _ _ _ _ _ h => h) ?_
              obtain ⟨wd, hwd⟩ : ∃ wd, wd = wc.drew := ⟨_, rfl⟩
              rw [← hwd] at HF ⊢
              clear hwd
              have cs := HF.out.1
              have ct := HF.out.2.1
              have c0 := HF.out.2.2.1
              have c1 := HF.out.2.2.2.1
              iterate 15 (refine wpGt_read (o := ⟨_, _, _, _, _, _⟩) (v := ?_) rfl (by rfl) ?_ ?_; rotate_left; (intro w' hw'; go_simp; with_reducible rfl); simp only [Act.put, List.setIfInBounds_toArray, List.set_cons_zero, List.set_cons_succ])
              clear cs ct
              refine wpGt_call (o := ⟨_, _, _, _, _, _⟩) rfl (by rfl) (fun K hK => ?_)
              go_simp
              refine HF.out.2.2.2.2.1.mono ?_
              rintro e w' ⟨rfl, rfl⟩
              refine hK _ _ (Turn.refl _ _) ?_
              clear hK K
              iterate 6 (refine wpGt_read (o := ⟨_, _, _, _, _, _⟩) (v := ?_) rfl (by rfl) ?_ ?_; rotate_left; (intro w' hw'; go_simp; with_reducible rfl); simp only [Act.put, List.setIfInBounds_toArray, List.set_cons_zero, List.set_cons_succ])
              clear c0 c1
              refine wpGt_call (o := ⟨_, _, _, _, _, _⟩) rfl (by rfl) (fun K hK => ?_)
              go_simp
              refine HF.out.2.2.2.2.2.1.mono ?_
              rintro e w10 ⟨rfl, hb10⟩
              refine hK _ _ (Turn.ofBelow hb10) ?_
              clear hK K
              have HB10 := Lib.hid (HF.out.2.2.2.2.2.2.below hb10)
              clear hb10 HF
              iterate 7 (refine wpGt_read (o := ⟨_, _, _, _, _, _⟩) (v := ?_) rfl (by rfl) ?_ ?_; rotate_left; (intro w' hw'; go_simp; with_reducible rfl); simp only [Act.put, List.setIfInBounds_toArray, List.set_cons_zero, List.set_cons_succ])
              refine wpGt_call (o := ⟨_, _, _, _, _, _⟩) rfl (by rfl) (fun K hK => ?_)
              go_simp
              refine (num_err 3 w10 (HG.out.below HB10.out.bel)).mono ?_
              rintro e w11 ⟨rfl, hb11⟩
              refine hK _ _ (Turn.ofBelow hb11) ?_
              clear hK K
              have HB11 := Lib.hid (HB10.out.below hb11)
              clear hb11
              iterate 3 (refine wpGt_read (o := ⟨_, _, _, _, _, _⟩) (v := ?_) rfl (by rfl) ?_ ?_; rotate_left; (intro w' hw'; go_simp; with_reducible rfl); simp only [Act.put, List.setIfInBounds_toArray, List.set_cons_zero, List.set_cons_succ])
              refine wpGt_done ?_
              clear HB10
              go_wp2
              go_roundw
              case rel => exact ⟨k + 1, _, by omega, by go_num, HB11⟩
              case measure => simp [intOf]; omega
    · obtain rfl : k = kn := by omega
      have HB9 : Hid (Below w.heap.size w wr) := hT.out.bel
      clear hT
      go_wp2_with fail
      refine (sure_any _ (HG.out.below HB9.out)).mono ?_
      rintro e w9 ⟨rfl, hb9⟩
      have hb := HB9.out.trans (hb9.mono HB9.out.size)
      go_wp2_with fail
      go_ret
      exact ⟨rfl, hb⟩
end Go.Proofs.YtaogmcfjokabpaaDoor
