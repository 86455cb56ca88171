/-
  The document's Put and Encode.
-/
import Derived.Test.YtjlllkdimfkjaaaDoorRefBr1
import Derived.Test.YtjlllkdimfkjaaaDoorBranch3
namespace Go.Proofs.YtjlllkdimfkjaaaDoor
open Go Go.RowKit

set_option maxRecDepth 100000 in
theorem refPutOwn_any (a a2 : Option Addr) (n c n2 c2 : Nat) (l l2 : List Nat) (hn : l.length = n) (hn2 : l2.length = n2) (w : World) (hs : Src w a l) (hz : a = none → c = 0) (hs2 : Src w a2 l2) (hz2 : a2 = none → c2 = 0) (hl : n ≤ 65536) (hl2 : n2 ≤ 1000000) :
    Calls Tryd.prog 19 #[.slice a n c, .slice a2 n2 c2] w fun e w' => ∃ v, e = .returned v ∧ w'.ownsRow w.heap.size 5 1 v (l ++ vb n2 ++ l2).length (bv (l ++ vb n2 ++ l2)) ∧ Below w.heap.size w w' := by
  subst hn
  have h := refPut_any a c l n2 w hl (by omega) hz hs
  have Hs2 := Lib.hid hs2
  have Hz2 := Lib.hid hz2
  have h10 := vs_le (show n2 < 18446744073709551616 by omega)
  have Hlen : Hid ((l ++ vb n2).length = l.length + vs n2) := by show _ = _; rw [List.length_append]; rfl
  have Hn := Lib.hid hn2
  clear hs hs2 hz2 hz hn2
  go_enter Tryd.func19, Tryd.ntmps19
  go_wp2_with fail
  refine h.mono ?_
  rintro e w1 ⟨v, rfl, hown, hb⟩
  have hs2 := Lib.hid (Hs2.out.below hb (Nat.le_refl _))
  have Ho := Lib.hid hown
  have Hb := Lib.hid hb
  clear hown hb h
  have hsz := Hb.out.size
  go_wp2_with (at_builtin; refine wpList_append_bytes rfl (.tmp 9) (.tmp 10) 26 rfl w.heap.size 5 Tryd.underlying26 infoB _ (l ++ vb n2) (by rfl) Ho a2 c2 l2 (by rw [Hn.out]; rfl) Hz2.out hs2.out (by rw [Hlen.out, Hn.out]; omega) hsz ?_; intro v' w2 hown2 hgrow2 hnear2)
  have hbn := Hb.out.grown hgrow2.out hsz (fun j hj => (Ho.out.lt j hj).1)
  have ho := hown2.out
  go_ret
  exact ⟨_, rfl, ho, hbn⟩
section
variable {P : Program} {w : World} {o : Oper} {a : Act} {K : Act → World → Prop} {Q : Exit → Act → World → Prop}
/-- append of a new row of bytes, in a drawn region. -/
theorem wp_append_row (s x : Operand) (t : TypeId)
    (ho : o.op = .call { callee := .builtin .append, args := #[s, x], argTypes := #[t, t] })
    (base : Nat) (e : TypeId) (ht : P.underlying t = some (.slice e)) (h2 : (P.info? e).map (fun i => (i.zero, i.size, i.bytes)) = some (some (.int .u8 0), 1, 1))
    (v : Value) (l : List Nat) (hs : a.eval s = v) (hown : Hid (w.ownsRow base e 1 v l.length (bv l)))
    (g c : Nat) (y : List Nat) (hx : a.eval x = .slice (some ⟨g, 0, none⟩) y.length c) (hy : Cs w g 0 y)
    (hlen : l.length + y.length ≤ 65536) (hbase : base ≤ w.heap.size)
    (h : ∀ v' w', Hid (w'.ownsRow base e 1 v' (l ++ y).length (bv (l ++ y))) → Hid (w.grownBy w' v.ownBlock) → K (a.put o.dst v') w') :
    Oper.wp P o a w K Q := by
  obtain ⟨i0, hi, hz0, hz1, hz2⟩ := info_parts h2
  obtain ⟨v', w', hr, h3, h4, _⟩ := run_append_near (P := P) (w := w) base t o.type e i0 (.int .u8 0) 1 1 ht hi hz0 hz1 hz2 rfl (by decide) v l.length (bv l) hown.out ⟨g, 0, none⟩ y.length c (bv y) (by rw [bv_length, Nat.mul_one]) (by
    intro j u hj
    have hj2 : j < y.length := by
      rcases Nat.lt_or_ge j y.length with h | h
      · exact h
      · rw [List.getElem?_eq_none (by rw [bv_length]; exact h)] at hj; cases hj
    have := hy j hj2
    rw [bv_get y j hj2] at hj
    rw [addr_add, this, ← hj]) (bv_one y) (by unfold maxLen; omega) (by omega) hbase
  unfold Oper.wp
  simp [execOp, ho, resolve, invoke, builtin, hs, hx, hr, Result.andThen]
  exact h v' w' (by show w'.ownsRow _ _ _ _ _ _; rw [bv_append, List.length_append]; exact h3) h4
end
theorem twoP_halves (P : Nat) (h : P ≤ 1023) : twoP (P : Int) = [P / 256, P % 256] := by
  show [P / 256 % 256, P % 256] = _
  rw [Nat.mod_eq_of_lt (show P / 256 < 256 by omega)]
set_option maxRecDepth 100000 in
set_option maxHeartbeats 4000000 in
theorem refEncodeF_any (a b : Option Addr) (n c m d : Nat) (ks : List ByteArray) (is : List Int) (w : World) (hn : ks.length = n) (hm : is.length = m) (hs : TxS w a ks) (hp : PgS w b is) (hl : n ≤ 1000) (hl2 : m ≤ 1001) :
    Calls Tryd.prog 8 #[.agg #[.slice a n c, .slice b m d]] w fun e w' => ∃ v, e = .returned (.tuple #[v, .int .i64 (encFE ks is : Nat)]) ∧ Sl w' v (encFB ks is) ∧ Below w.heap.size w w' := by
  have Hn := Lib.hid (And.intro hn hm)
  obtain ⟨w0, hw0⟩ : ∃ w0, w0 = w.alloc (.cells #[.slice a n c, .slice b m d] RFK) := ⟨_, rfl⟩
  have hb0 : Hid (Below w.heap.size w w0) := by rw [hw0]; exact (Below.refl _ _).alloc (Nat.le_refl _) _
  have hpb : Hid (PB w0 w.heap.size RFK (.slice a n c) (.slice b m d)) := by rw [hw0]; exact PB.new _ _ _ _
  have hw0' := Lib.hid hw0.symm
  have Hs := Lib.hid (And.intro (hs.below hb0.out (Nat.le_refl _)) (hp.below hb0.out (Nat.le_refl _)))
  have hC := Lib.hid (refMayF_any a b n c m d ks is w0 hn hm Hs.out.1 Hs.out.2 (by omega) (by omega))
  have Hs0 := Lib.hid (And.intro hs hp)
  clear hs hn hm hp hw0
  go_enter Tryd.func8, Tryd.ntmps8
  go_wp2_with fail
  rw [hw0'.out]
  refine hC.out.mono ?_
  rintro e w1 ⟨D, rfl, hD, hb1⟩
  have HD := Lib.hid hD
  have Hb1 := Lib.hid (hb0.out.trans (hb1.mono hb0.out.size))
  have Hpb := Lib.hid (hpb.out.ext hb1)
  have Hs1 := Lib.hid (And.intro (Hs.out.1.below hb1 (Nat.le_refl _)) (Hs.out.2.below hb1 (Nat.le_refl _)))
  clear hD hb1 hC hw0' hb0 hpb Hs
  cases D with
  | false =>
    have he := Lib.hid (encF_1 (fun h => by have := HD.out.2 h; cases this))
    go_wp2
    go_ret2
    exact ⟨.slice none 0 0, by rw [he.out.1]; rfl, by rw [he.out.2]; exact Sl.none _, Hb1.out⟩
  | true =>
    have hmay := Lib.hid (HD.out.1 rfl)
    have hll : Hid ((forkS ks is).length = sizeTo ks n) := by show _ = _; rw [fork_len hmay.out.1, Hn.out.1]
    have hle := sizeTo_le hmay.out.1 n (by rw [Hn.out.1]; exact Nat.le_refl _)
    have hmono := Lib.hid (sizeTo_mono ks n)
    have h5 : Hid (504 < sizeTo ks n → encFE ks is = 5 ∧ encFB ks is = []) := fun h => encF_5 hmay.out (by rw [hll.out]; exact h)
    have h0 : Hid (sizeTo ks n ≤ 504 → encFE ks is = 0 ∧ encFB ks is = forkS ks is) := fun h => encF_0 hmay.out (by rw [hll.out]; exact h)
    generalize sizeTo ks n = LL at *
    clear HD
    have hm1 : m = n + 1 := by have := hmay.out.2.2.2; rw [Hn.out.1, Hn.out.2] at this; exact this
    obtain ⟨g2, o2, rfl, hpc⟩ := Hs1.out.2 (by rw [Hn.out.2]; omega)
    have hpg := Lib.hid (fun i hi => (hmay.out.2.1 i hi).1)
    have hg2 : Hid (g2 < w.heap.size) := by
      obtain ⟨g', o', e, hc⟩ := Hs0.out.2 (by rw [Hn.out.2]; omega)
      cases e
      exact block_lt_of_cell (hc 0 (by rw [Hn.out.2]; omega))
    have q0 := hpc 0 (by rw [Hn.out.2]; omega)
    have hr0 := hpg.out 0 (by rw [Hn.out.2]; omega)
    obtain ⟨p0, hp0⟩ := Int.eq_ofNat_of_zero_le (show 0 ≤ ia is 0 by omega)
    rw [hp0, Nat.add_zero] at q0
    obtain ⟨P1, hP1⟩ : ∃ P1, P1 = p0 / 256 := ⟨_, rfl⟩
    obtain ⟨P2, hP2⟩ : ∃ P2, P2 = p0 % 256 := ⟨_, rfl⟩
    have hst : Hid ([P1, P2] = putF ks is 0) := by show _ = _; rw [putF, hp0, twoP_halves p0 (by omega), hP1, hP2]
    have x1 : (p0 : Int).tdiv 256 = (P1 : Int) := by rw [hP1, Int.tdiv_eq_ediv_of_nonneg (by omega)]; omega
    have x2 : (p0 : Int).tmod 256 = (P2 : Int) := by rw [hP2, Int.tmod_eq_emod_of_nonneg (by omega)]; omega
    have y1 : P1 < 256 := by omega
    have y2 : P2 < 256 := by omega
    have z1 : IntKind.u8.wrap (P1 : Int) = (P1 : Int) := by rw [IntKind.wrap_u8]; omega
    have z2 : IntKind.u8.wrap (P2 : Int) = (P2 : Int) := by rw [IntKind.wrap_u8]; omega
    have w1i : IntKind.i64.wrap (P1 : Int) = (P1 : Int) := by rw [IntKind.wrap_i64]; omega
    have w2i : IntKind.i64.wrap (P2 : Int) = (P2 : Int) := by rw [IntKind.wrap_i64]; omega
    have hm0 : (0 : Int) < (m : Int) := by omega
    have hm0' : 0 < m := by omega
    have Hm1 := Lib.hid hm1
    have r1 : ∀ w', Ext w1.drew w' → w'.cell? ⟨w.heap.size, 1, none⟩ = some (.slice (some ⟨g2, o2, none⟩) m d) := fun w' hw => (Hpb.out.extD hw).c1
    have r2 : ∀ w', Ext w1.drew w' → w'.cell? ⟨g2, o2, none⟩ = some (.int .i64 p0) := fun w' hw => by
      rw [((Below.refl w1.heap.size w1).drew.trans hw).cell (p := ⟨g2, o2, none⟩) (block_lt_of_cell q0)]; exact q0
    clear hpc hp0 hr0 hm1 hP1 hP2 q0
    go_wp2_with fail
    refine wp_region_gr [(0, true), (1, true), (2, true), (3, true), (4, true), (5, true), (6, true), (7, true), (8, true), (9, true), (10, true), (11, true), (12, false), (13, true)] (by kernel_rfl) (by kernel_rfl) (by kernel_rfl) (by kernel_rfl) (fun _ _ _ _ _ h => h) ?_
    iterate 12 (refine wpGr_read (o := ⟨_, _, _, _, _, _⟩) (v := ?_) rfl (by rfl) ?_ ?_; rotate_left; (intro w' hw'; go_simp; with_reducible rfl); simp only [Act.put, List.setIfInBounds_toArray, List.set_cons_zero, List.set_cons_succ])
    clear r1 r2 x1 x2 z1 z2 w1i w2i
    have hnw : Hid (Below w1.drew.heap.size w1.drew (w1.drew.alloc (.cells #[.int .u8 (P1 : Int), .int .u8 (P2 : Int)] 5))) := (Below.refl _ _).alloc (Nat.le_refl _) _
    have how := own_new w1.drew 5 [P1, P2] (by unfold maxLen; simp)
    have How := Lib.hid how
    clear how
    refine wpGr_call (o := ⟨_, _, _, _, _, _⟩) rfl (by rfl) (fun K hK => ?_)
    go_simp
    refine hK _ _ hnw.out ?_
    clear hK K
    iterate 1 (refine wpGr_read (o := ⟨_, _, _, _, _, _⟩) (v := ?_) rfl (by rfl) ?_ ?_; rotate_left; (intro w' hw'; go_simp; with_reducible rfl); simp only [Act.put, List.setIfInBounds_toArray, List.set_cons_zero, List.set_cons_succ])
    refine wpGr_done ?_
    obtain ⟨wA, hwA⟩ : ∃ x, x = (w1.alloc (.cells #[.int .u8 (P1 : Int), .int .u8 (P2 : Int)] 5)).drew := ⟨_, rfl⟩
    have hb1A : Hid (Below w1.heap.size w1 wA) := by rw [hwA]; exact ((Below.refl _ _).alloc (Nat.le_refl _) _).drew
    have hoA : Hid (wA.ownsRow w.heap.size 5 1 (.slice (some ⟨w1.heap.size, 0, none⟩) 2 2) (putF ks is 0).length (bv (putF ks is 0))) := by
      show World.ownsRow _ _ _ _ _ _ _
      rw [← hst.out, hwA]
      exact own_base How.out Hb1.out.size
    have hFA := Lib.hid (Hpb.out.ext hb1A.out)
    have hBA := Lib.hid (Hb1.out.trans (hb1A.out.mono Hb1.out.size))
    rw [← hwA]
    clear hwA hnw How hb1A hst Hpb Hs1 Hb1 y1 y2
    go_wp2_with fail
    go_loopw [4, 5] (fun bv2 i wr => ∃ (k : Nat) (r : Value), bv2 = r ∧ i = .int .i64 k ∧ k ≤ n ∧ Hid (wr.ownsRow w.heap.size 5 1 r (putF ks is k).length (bv (putF ks is k))) ∧ Hid (PB wr w.heap.size RFK (.slice a n c) (.slice (some ⟨g2, o2, none⟩) m d)) ∧ Hid (Below w.heap.size w wr)) (fun _ i _ => n - (intOf i).toNat)
    case atStart => exact ⟨0, _, rfl, rfl, by omega, hoA, hFA, hBA⟩
    case round =>
      clear hoA hFA hBA
      obtain ⟨k, r, rfl, rfl, hk, hown, hF, hB⟩ := hrel
      have hS := Lib.hid (And.intro (Hs0.out.1.below hB.out (Nat.le_refl _)) (Hs0.out.2.below hB.out (Nat.le_refl _)))
      have f0 := hF.out.c0
      have hsl := Sl.own hown.out
      obtain ⟨ab, cb, rfl, hsb, hzb, _⟩ := hsl.arg
      by_cases hlt : k < n
      · obtain ⟨g, o, rfl, hcell⟩ := hS.out.1 (by rw [Hn.out.1]; omega)
        obtain ⟨g', o', e, hpc⟩ := hS.out.2 (by rw [Hn.out.2]; omega)
        cases e
        have q0 := hcell k (by rw [Hn.out.1]; exact hlt)
        have q1 := hpc (k + 1) (by rw [Hn.out.2, Hm1.out]; omega)
        have hr0 := hpg.out (k + 1) (by rw [Hn.out.2, Hm1.out]; omega)
        have hksz := okK_size (hmay.out.1 k (by rw [Hn.out.1]; exact hlt)).1
        obtain ⟨p1, hp1⟩ := Int.eq_ofNat_of_zero_le (show 0 ≤ ia is (k + 1) by omega)
        have hpn := Lib.hid (putF_next ks is k)
        have hpl : Hid ((putF ks is k).length + (3 + (sa ks k).size) ≤ LL) := by
          have h1 := putF_len (is := is) (keys_small hmay.out.1) k (by rw [Hn.out.1]; exact hk)
          have h2 := hmono.out (k + 1) hlt
          rw [sizeTo] at h2
          show _ ≤ _; rw [h1]; omega
        rw [hp1] at hpn q1 hr0
        clear hp1
        generalize sa ks k = y at *
        obtain ⟨L, hL⟩ : ∃ L, L = putF ks is k := ⟨_, rfl⟩
        rw [← hL] at hsb hpn hpl hown ⊢
        obtain ⟨M, hM⟩ : ∃ M, M = L.length := ⟨_, rfl⟩
        rw [← hM] at hpl ⊢
        obtain ⟨g4, c4, w4, hcv4, hsrc4, _, hc4, hb4⟩ := conv_str wr y (by omega)
        have hv10 := vs_le (show y.size < 18446744073709551616 by omega)
        have hlen1 : Hid ((L ++ vb y.size ++ bn y).length = M + vs y.size + y.size) := by show _ = _; rw [List.length_append, bn_len, List.length_append, hM]; rfl
        have hput := Lib.hid (refPutOwn_any ab (some ⟨g4, 0, none⟩) M cb y.size c4 L (bn y) hM.symm (bn_len y) w4 (hsb.below hb4 (Nat.le_refl _)) hzb hsrc4 (fun h => by cases h) (by have := hpl.out; omega) (by omega))
        obtain ⟨LN, hLN⟩ : ∃ LN, LN = L ++ vb y.size ++ bn y := ⟨_, rfl⟩
        rw [← hLN] at hput hpn hlen1
        have HM := Lib.hid (And.intro hM.symm hpl.out)
        have Hb4 := Lib.hid hb4
        have l1 := block_lt_of_cell q1
        have hkm : k + 1 < m := by have := Hm1.out; omega
        have hkm' : (k : Int) + 1 < (m : Int) := by omega
        clear hsb hzb hsl hcell hpc hL hM hsrc4 hc4 hb4 hLN hpl hown
        go_wp2_with fail
        refine hput.out.mono ?_
        rintro e w5 ⟨v, rfl, hown5, hb5⟩
        have Hb5 : Hid (Below wr.heap.size wr w5) := Hb4.out.trans (hb5.mono Hb4.out.size)
        have Ho5 : Hid (w5.ownsRow w.heap.size 5 1 v LN.length (bv LN)) := own_base hown5 (Nat.le_trans hB.out.size Hb4.out.size)
        have hF5 := Lib.hid (hF.out.ext Hb5.out)
        have hB5 := Lib.hid (hB.out.trans (Hb5.out.mono hB.out.size))
        have hcp : w5.cell? ⟨g2, o2 + (k + 1), none⟩ = some (.int .i64 p1) := by rw [Hb5.out.cell (p := ⟨g2, o2 + (k + 1), none⟩) l1]; exact q1
        have Hcp := Lib.hid hcp
        clear hown5 hb5 hput Hb4 hcv4 hF hB hS q0 q1 f0 l1 hcp
        obtain ⟨P1, hP1⟩ : ∃ P1, P1 = p1 / 256 := ⟨_, rfl⟩
        obtain ⟨P2, hP2⟩ : ∃ P2, P2 = p1 % 256 := ⟨_, rfl⟩
        have hst : Hid (LN ++ [P1, P2] = putF ks is (k + 1)) := by show _ = _; rw [hpn.out, twoP_halves p1 (by omega), hP1, hP2]
        have x1 : (p1 : Int).tdiv 256 = (P1 : Int) := by rw [hP1, Int.tdiv_eq_ediv_of_nonneg (by omega)]; omega
        have x2 : (p1 : Int).tmod 256 = (P2 : Int) := by rw [hP2, Int.tmod_eq_emod_of_nonneg (by omega)]; omega
        have z1 : IntKind.u8.wrap (P1 : Int) = (P1 : Int) := by rw [IntKind.wrap_u8]; omega
        have z2 : IntKind.u8.wrap (P2 : Int) = (P2 : Int) := by rw [IntKind.wrap_u8]; omega
        have w1i : IntKind.i64.wrap (P1 : Int) = (P1 : Int) := by rw [IntKind.wrap_i64]; omega
        have w2i : IntKind.i64.wrap (P2 : Int) = (P2 : Int) := by rw [IntKind.wrap_i64]; omega
        have i4 : IntKind.i64.wrap ((k : Int) + 1) = (k : Int) + 1 := by rw [IntKind.wrap_i64]; omega
        have i1 : (0 : Int) ≤ (k : Int) + 1 := by omega
        have hnF : Hid (∀ i, v.ownBlock = some i → w.heap.size ≤ i ∧ i ≠ w.heap.size) := fun i hi => ⟨own_ge Ho5.out i hi, own_other Ho5.out hF5.out (by decide) i hi⟩
        have hFd : Hid (PB w5.drew w.heap.size RFK (.slice (some ⟨g, o, none⟩) n c) (.slice (some ⟨g2, o2, none⟩) m d)) := hF5.out.ext (Below.refl _ _).drew
        have r1 : ∀ w', Turn (fun i => v.ownBlock = some i) w5.drew w' → w'.cell? ⟨w.heap.size, 1, none⟩ = some (.slice (some ⟨g2, o2, none⟩) m d) := fun w' t => (hFd.out.turn t (fun h => (hnF.out _ h).2 rfl)).c1
        have r2 : ∀ w', Turn (fun i => v.ownBlock = some i) w5.drew w' → w'.cell? ⟨g2, o2 + (k + 1), none⟩ = some (.int .i64 p1) := fun w' t => by
          rw [t.cell (p := ⟨g2, o2 + (k + 1), none⟩) (block_lt_of_cell Hcp.out) (fun h => absurd (hnF.out _ h).1 (Nat.not_le.2 hg2.out))]; exact Hcp.out
        clear hP1 hP2 hpn
        go_wp2_with fail
        refine wp_region_gt (F := fun i => v.ownBlock = some i) [(0, true), (1, true), (2, true), (3, true), (4, true), (5, true), (6, true), (7, true), (8, true), (9, true), (10, true), (11, true), (12, true), (13, true), (14, true), (15, true), (16, true), (17, false), (18, false), (19, true)] (by kernel_rfl) (by kernel_rfl) (by kernel_rfl) (by kernel_rfl) (fun _ _ _ _ _ h => h) ?_
        iterate 17 (refine wpGt_read (o := ⟨_, _, _, _, _, _⟩) (v := ?_) rfl (by rfl) ?_ ?_; rotate_left; (intro w' hw'; go_simp; with_reducible rfl); simp only [Act.put, List.setIfInBounds_toArray, List.set_cons_zero, List.set_cons_succ])
        clear r1 r2 x1 x2 z1 z2 w1i w2i i4 i1
        refine wpGt_call (o := ⟨_, _, _, _, _, _⟩) rfl (by rfl) (fun K hK => ?_)
        go_simp
        refine hK _ _ ((Turn.refl _ _).alloc _) ?_
        clear hK K
        obtain ⟨w6, hw6⟩ : ∃ x, x = w5.drew.alloc (.cells #[.int .u8 (P1 : Int), .int .u8 (P2 : Int)] 5) := ⟨_, rfl⟩
        have hb56 : Hid (Below w5.heap.size w5 w6) := by rw [hw6]; exact ((Below.refl w5.heap.size w5).drew).alloc (Nat.le_refl _) _
        have hcs6 : Hid (Cs w6 w5.heap.size 0 [P1, P2]) := by rw [hw6]; exact src_new w5.drew _ (0, 0) [P1, P2]
        have ho6 := Lib.hid (own_below Ho5.out hb56.out (Nat.le_refl _))
        have hF6 := Lib.hid (hF5.out.ext hb56.out)
        have hB6 := Lib.hid (hB5.out.trans (hb56.out.mono hB5.out.size))
        show wpGt _ _ _ _ _ _ (w5.drew.alloc (.cells #[.int .u8 (P1 : Int), .int .u8 (P2 : Int)] 5))
        rw [← hw6]
        clear hw6 Ho5 hF5 hB5 Hcp hFd hb56
        refine wpGt_call (o := ⟨_, _, _, _, _, _⟩) rfl (by rfl) (fun K hK => ?_)
        refine wp_append_row (.tmp 37) (.tmp 54) 26 rfl w.heap.size 5 Tryd.underlying26 infoB v LN (by rfl) ho6 w5.heap.size 2 [P1, P2] (by rfl) hcs6.out (by rw [hlen1.out]; have := HM.out.2; simp; omega) hB6.out.size ?_
        intro v' w7 ho7 hg7
        refine hK _ _ (turn_grown hg7.out) ?_
        clear hK K
        have hF7 := Lib.hid (hF6.out.turn (turn_grown hg7.out) (fun h => (hnF.out _ h).2 rfl))
        have hB7 := Lib.hid (hB6.out.grown hg7.out hB6.out.size (fun i hi => (hnF.out i hi).1))
        have ho7' := ho7.out
        rw [hst.out] at ho7'
        have Ho7 := Lib.hid ho7'
        clear ho7 ho7' hg7 ho6 hF6 hB6 hcs6 hnF
        iterate 1 (refine wpGt_read (o := ⟨_, _, _, _, _, _⟩) (v := ?_) rfl (by rfl) ?_ ?_; rotate_left; (intro w' hw'; go_simp; with_reducible rfl); simp only [Act.put, List.setIfInBounds_toArray, List.set_cons_zero, List.set_cons_succ])
        refine wpGt_done ?_
        go_wp2_with fail
        go_roundw
        case rel => exact ⟨k + 1, v', rfl, by go_num, by omega, Ho7, hF7, hB7⟩
        case measure => simp [intOf]; omega
      · obtain rfl : k = n := by omega
        have hsl1 := hsl
        have hfl : (putF ks is k).length = LL := by rw [show putF ks is k = forkS ks is by unfold forkS; rw [Hn.out.1]]; exact hll.out
        rw [show putF ks is k = forkS ks is by unfold forkS; rw [Hn.out.1]] at hsl1
        rw [hfl]
        rw [hll.out] at hsl1
        have hsl2 := Lib.hid hsl1
        clear hsl hsl1 hown hsb hzb hfl
        by_cases hlong : 504 < LL
        · have he := Lib.hid (h5.out hlong)
          have d1 : decide (504 < (LL : Int)) = true := decide_eq_true (by omega)
          have d1' : decide (504 < LL) = true := decide_eq_true hlong
          clear h5 h0
          go_wp2
          go_ret2
          exact ⟨.slice none 0 0, by rw [he.out.1]; rfl, by rw [he.out.2]; exact Sl.none _, hB.out⟩
        · have he := Lib.hid (h0.out (by omega))
          have d1 : decide (504 < (LL : Int)) = false := decide_eq_false (by omega)
          have d1' : decide (504 < LL) = false := decide_eq_false hlong
          clear h5 h0
          go_wp2
          go_ret2
          exact ⟨_, by rw [he.out.1]; rfl, by rw [he.out.2]; exact hsl2.out, hB.out⟩
end Go.Proofs.YtjlllkdimfkjaaaDoor
