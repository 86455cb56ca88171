/-
  What the law PlanFew stands on.
-/
import Derived.Test.YtdgladhfibfdlaaGreatDoorQPlanFew23
import Derived.Test.YtdgladhfibfdlaaGreatDoorQPlanFew15
import Derived.Test.YtdgladhfibfdlaaGreatDoorQPlanFew08
import Derived.Test.YtdgladhfibfdlaaGreatDoorQPlanFew06
import Derived.Test.YtdgladhfibfdlaaGreatDoorQPlanFew19
import Derived.Shelf.GgClosure.Gives
import Derived.Test.YtdgladhfibfdlaaGreatDoorQPlanFew21
import Derived.Test.YtdgladhfibfdlaaGreatDoorQPlanFew18
import Derived.Test.YtdgladhfibfdlaaGreatDoorQPlanFew25
import Derived.Deep.LoopGhost
namespace Go.Proofs.YtdgladhfibfdlaaGreatDoor
open Go Go.RowKit Go.Shelf
theorem brPut_any (a : Option Addr) (n c : Nat) (l : List Nat) (p : Nat) (w : World) (hn : l.length = n) (hs : Src w a l) (hl : n ≤ 65536) (hp : p ≤ 1023) :
    Calls Tryz.prog 141 #[.slice a n c, .int .i64 p] w fun e w' => ∃ r, e = .returned r ∧ Sl w' r (l ++ twoP p) ∧ Below w.heap.size w w' := by
  subst hn
  have hput := Lib.hid (intPut_in a c l p 2 w hl (by omega) (by omega) (by omega) hs)
  have z1 : IntKind.u64.wrap (p : Int) = (p : Int) := by rw [IntKind.wrap_u64]; omega
  have htw : Hid (twoP p = beL p 2) := rfl
  have hlen : Hid ((l ++ beL p 2).length = l.length + 2) := by show _ = _; rw [List.length_append]; rfl
  clear hs
  go_enter Tryz.func141, Tryz.ntmps141
  go_wp2_with fail
  refine hput.out.mono ?_
  rintro e w' ⟨rfl, hr, hb⟩
  have hs := Sl.row hr (by rw [hlen.out]; unfold maxLen; omega)
  rw [hlen.out] at hs
  go_wp2
  go_ret
  exact ⟨_, rfl, by rw [htw.out]; exact hs, hb⟩
theorem putF_next (ks : List ByteArray) (is : List Int) (k : Nat) : putF ks is (k + 1) = (putF ks is k ++ vb (sa ks k).size ++ bn (sa ks k)) ++ twoP (ia is (k + 1)) := by
  rw [putF]; unfold pcF; simp only [List.append_assoc]
set_option maxRecDepth 100000 in
set_option maxHeartbeats 1000000 in
theorem brEncode_any (a b : Option Addr) (n c m d : Nat) (ks : List ByteArray) (is : List Int) (w : World) (hn : ks.length = n) (hm : is.length = m) (hs : TxS w a ks) (hp : PgS w b is) (hl : n ≤ 65536) (hl2 : m ≤ 65537) :
    Calls Tryz.prog 101 #[.agg #[.slice a n c, .slice b m d]] w fun e w' => ∃ v, e = .returned (.tuple #[v, errV (encFE ks is)]) ∧ Sl w' v (encFB ks is) ∧ Below w.heap.size w w' := by
  have Hn := Lib.hid (And.intro hn hm)
  obtain ⟨w0, hw0⟩ : ∃ w0, w0 = w.alloc (.cells #[.slice a n c, .slice b m d] FT) := ⟨_, rfl⟩
  have hb0 : Hid (Below w.heap.size w w0) := by rw [hw0]; exact (Below.refl _ _).alloc (Nat.le_refl _) _
  have hpb : Hid (PB w0 w.heap.size FT (.slice a n c) (.slice b m d)) := by rw [hw0]; exact PB.new _ _ _ _
  have hw0' := Lib.hid hw0.symm
  have Hs := Lib.hid (And.intro (hs.below hb0.out (Nat.le_refl _)) (hp.below hb0.out (Nat.le_refl _)))
  have hC := Lib.hid (brCheck_any a b n c m d ks is w0 hn hm Hs.out.1 Hs.out.2 (by omega) (by omega))
  clear hs hn hm hp hw0
  go_enter Tryz.func101, Tryz.ntmps101
  go_wp2_with fail
  rw [hw0'.out]
  refine hC.out.mono ?_
  rintro e w1 ⟨D, rfl, hD, hb1⟩
  have HD := Lib.hid hD
  have Hb1 := Lib.hid (hb0.out.trans (hb1.mono hb0.out.size))
  have Hpb := Lib.hid (hpb.out.ext hb1)
  have Hs1 := Lib.hid (And.intro (Hs.out.1.below hb1 (Nat.le_refl _)) (Hs.out.2.below hb1 (Nat.le_refl _)))
  clear hD hb1 hC hw0' hb0 hpb Hs
  unfold chkF
  cases D with
  | false =>
    have he := Lib.hid (encF_1 (fun h => by have := HD.out.2 h; cases this))
    simp only [Bool.false_eq_true, if_false]
    go_wp2
    go_ret2
    exact ⟨.slice none 0 0, by rw [he.out.1]; rfl, by rw [he.out.2]; exact Sl.none _, Hb1.out⟩
  | true =>
    have hmay := Lib.hid (HD.out.1 rfl)
    have c0 := Hpb.out.c0
    have c1 := Hpb.out.c1
    have hsz := Lib.hid (brSize_any a n c ks w1 Hn.out.1 Hs1.out.1 (by omega) hmay.out.1)
    have hll : Hid ((forkS ks is).length = sizeTo ks n) := by show _ = _; rw [fork_len hmay.out.1, Hn.out.1]
    have hle := sizeTo_le hmay.out.1 n (by rw [Hn.out.1]; exact Nat.le_refl _)
    have hmono := Lib.hid (sizeTo_mono ks n)
    have h5 : Hid (504 < sizeTo ks n → encFE ks is = 5 ∧ encFB ks is = []) := fun h => encF_5 hmay.out (by rw [hll.out]; exact h)
    have h0 : Hid (sizeTo ks n ≤ 504 → encFE ks is = 0 ∧ encFB ks is = forkS ks is) := fun h => encF_0 hmay.out (by rw [hll.out]; exact h)
    generalize sizeTo ks n = LL at *
    clear HD
    simp only [if_true]
    go_wp2_with fail
    refine hsz.out.mono ?_
    rintro e w2 ⟨rfl, hb2⟩
    have Hpb2 := Lib.hid (Hpb.out.ext hb2)
    have Hs2 := Lib.hid (And.intro (Hs1.out.1.below hb2 (Nat.le_refl _)) (Hs1.out.2.below hb2 (Nat.le_refl _)))
    have Hb2 := Lib.hid (Hb1.out.trans (hb2.mono Hb1.out.size))
    clear hb2 Hb1 Hs1 Hpb hsz c0 c1
    by_cases hlong : 504 < LL
    · have he := Lib.hid (h5.out hlong)
      have d1 : decide (504 < (LL : Int)) = true := decide_eq_true (by omega)
      clear h5 h0
      go_wp2
      go_ret2
      exact ⟨.slice none 0 0, by rw [he.out.1]; rfl, by rw [he.out.2]; exact Sl.none _, Hb2.out⟩
    · have he := Lib.hid (h0.out (by omega))
      have d1 : decide (504 < (LL : Int)) = false := decide_eq_false (by omega)
      have c0 := Hpb2.out.c0
      have c1 := Hpb2.out.c1
      have hm1 : m = n + 1 := by have := hmay.out.2.2.2; rw [Hn.out.1, Hn.out.2] at this; exact this
      obtain ⟨g2, o2, rfl, hpc⟩ := Hs2.out.2 (by rw [Hn.out.2]; omega)
      have hpg := Lib.hid (fun i hi => (hmay.out.2.1 i hi).1)
      have q0 := hpc 0 (by rw [Hn.out.2]; omega)
      have hr0 := hpg.out 0 (by rw [Hn.out.2]; omega)
      obtain ⟨p0, hp0⟩ := Int.eq_ofNat_of_zero_le (show 0 ≤ ia is 0 by omega)
      have hst : Hid ([] ++ twoP (p0 : Int) = putF ks is 0) := by show _ = _; rw [putF, hp0]; rfl
      rw [hp0, Nat.add_zero] at q0
      have hm0 : (0 : Int) < (m : Int) := by omega
      have hput := Lib.hid (brPut_any none 0 0 [] p0 w2 rfl (Src.nil _ _) (by omega) (by omega))
      rw [hst.out] at hput
      have Hm1 := Lib.hid hm1
      clear h5 h0 hpc hp0 hr0 hst hm1
      go_wp2_with fail
      refine hput.out.mono ?_
      rintro e w3 ⟨r, rfl, hr, hb3⟩
      have Hr := Lib.hid hr
      have Hpb3 := Lib.hid (Hpb2.out.ext hb3)
      have Hs3 := Lib.hid (And.intro (Hs2.out.1.below hb3 (Nat.le_refl _)) (Hs2.out.2.below hb3 (Nat.le_refl _)))
      have Hb3 := Lib.hid (Hb2.out.trans (hb3.mono Hb2.out.size))
      have c0' := Hpb3.out.c0
      clear hr hb3 Hb2 Hs2 Hpb2 hput c0 c1 q0
      go_wp2_with fail
      go_loopw [4, 5, 6, 24] (fun bv _ _ i wr => ∃ (k : Nat) (r : Value), bv = r ∧ i = .int .i64 k ∧ k ≤ n ∧ Hid (Sl wr r (putF ks is k)) ∧ Hid (PB wr w.heap.size FT (.slice a n c) (.slice (some ⟨g2, o2, none⟩) m d)) ∧ Hid (TxS wr a ks ∧ PgS wr (some ⟨g2, o2, none⟩) is) ∧ Hid (Below w.heap.size w wr)) (fun _ _ _ i _ => n - (intOf i).toNat)
      case atStart => exact ⟨0, r, rfl, rfl, by omega, Hr, Hpb3, Hs3, Hb3⟩
      case round =>
        obtain ⟨k, r, rfl, rfl, hk, hsl, hpb, hS, hB⟩ := hrel
        by_cases hlt : k < n
        · obtain ⟨g, o, rfl, hcell⟩ := hS.out.1 (by rw [Hn.out.1]; omega)
          obtain ⟨g', o', e, hpc⟩ := hS.out.2 (by rw [Hn.out.2]; omega)
          cases e
          have q0 := hcell k (by rw [Hn.out.1]; exact hlt)
          have q1 := hpc (k + 1) (by rw [Hn.out.2, Hm1.out]; omega)
          have hr0 := hpg.out (k + 1) (by rw [Hn.out.2, Hm1.out]; omega)
          have hksz := okK_size (hmay.out.1 k (by rw [Hn.out.1]; exact hlt)).1
          obtain ⟨p0, hp0⟩ := Int.eq_ofNat_of_zero_le (show 0 ≤ ia is (k + 1) by omega)
          have hpn := Lib.hid (putF_next ks is k)
          have hpl : Hid ((putF ks is k).length + (3 + (sa ks k).size) ≤ 504) := by
            have h1 := putF_len (is := is) (keys_small hmay.out.1) k (by rw [Hn.out.1]; exact hk)
            have h2 := hmono.out (k + 1) hlt
            rw [sizeTo] at h2
            show _ ≤ _; rw [h1]; omega
          rw [hp0] at hpn q1 hr0
          clear hp0
          generalize sa ks k = y at *
          obtain ⟨ab, cb, rfl, hsb, hzb, _⟩ := hsl.out.arg
          obtain ⟨L, hL⟩ : ∃ L, L = putF ks is k := ⟨_, rfl⟩
          rw [← hL] at hsb hpn hpl ⊢
          obtain ⟨M, hM⟩ : ∃ M, M = L.length := ⟨_, rfl⟩
          rw [← hM] at hpl ⊢
          have hbd : Below wr.heap.size wr wr.drew := (Below.refl _ _).drew
          obtain ⟨g4, c4, w4, hcv4, hsrc4, _, hc4, hb4⟩ := conv_str wr.drew y (by omega)
          have hb04 : Below wr.heap.size wr w4 := hbd.trans (hb4.mono (Nat.le_refl _))
          have hpk := Lib.hid (packBytes_any ab (some ⟨g4, 0, none⟩) M cb y.size c4 L (bn y) hM.symm (bn_len y) w4 (hsb.below hb04 (Nat.le_refl _)) hsrc4 (fun h => by cases h) (by have := hpl.out; omega) (by omega))
          have hv10 := vs_le (show y.size < 18446744073709551616 by omega)
          have hl1 : Hid ((L ++ vb y.size ++ bn y).length = M + vs y.size + y.size) := by show _ = _; rw [List.length_append, bn_len, List.length_append, hM]; rfl
          have r1 : ∀ w', Ext wr.drew w' → w'.cell? ⟨w.heap.size, 1, none⟩ = some (.slice (some ⟨g2, o2, none⟩) m d) := fun w' hw => (hpb.out.extD hw).c1
          have l1 := block_lt_of_cell q1
          have r2 : ∀ w', Ext wr.drew w' → w'.cell? ⟨g2, o2 + (k + 1), none⟩ = some (.int .i64 p0) := fun w' hw => by
            rw [((Below.refl wr.heap.size wr).drew.trans hw).cell (p := ⟨g2, o2 + (k + 1), none⟩) l1]; exact q1
          have i4 : IntKind.i64.wrap ((k : Int) + 1) = (k : Int) + 1 := by rw [IntKind.wrap_i64]; omega
          have i1 : (0 : Int) ≤ (k : Int) + 1 := by omega
          have hkm : k + 1 < m := by have := Hm1.out; omega
          have i2 : (k : Int) + 1 < (m : Int) := by omega
          have Hb4 := Lib.hid hb4
          have hS2 := Lib.hid (fun w' (hb : Below wr.heap.size wr w') => And.intro (hpb.out.ext hb) (And.intro (hS.out.1.below hb (Nat.le_refl _)) (hS.out.2.below hb (Nat.le_refl _))))
          have Hb04 := Lib.hid hb04
          have hpl' := hpl.out
          clear hcell hpc hsl hsb hzb hL hM hbd hsrc4 hc4 hb4 hb04 hpb hS l1 hpl
          go_wp2_with fail
          refine wp_region_gr [(0, true), (1, true), (4, true), (5, true), (6, true), (7, true), (8, true), (9, true), (2, false), (3, false), (10, false), (11, true)] (by kernel_rfl) (by kernel_rfl) (by kernel_rfl) (by kernel_rfl) (fun _ _ _ _ _ h => h) ?_
          iterate 8 (refine wpGr_read (o := ⟨_, _, _, _, _, _⟩) (v := ?_) rfl (by rfl) ?_ ?_; rotate_left; (intro w' hw'; go_simp; with_reducible rfl); simp only [Act.put, List.setIfInBounds_toArray, List.set_cons_zero, List.set_cons_succ])
          clear r1 r2 q0 q1
          refine wpGr_call (o := ⟨_, _, _, _, _, _⟩) rfl (by rfl) (fun K hK => ?_)
          go_simp
          refine hK _ _ Hb4.out ?_
          clear hK K hcv4
          refine wpGr_call (o := ⟨_, _, _, _, _, _⟩) rfl (by rfl) (fun K hK => ?_)
          go_simp
          refine hpk.out.mono ?_
          rintro e w5 ⟨r, rfl, hv, hb5⟩
          refine hK _ _ hb5 ?_
          clear hK K hpk
          obtain ⟨a5, c5, rfl, hs5, _⟩ := hv.arg
          have Hb5 := Lib.hid (Hb04.out.trans (hb5.mono Hb04.out.size))
          have hput := Lib.hid (brPut_any a5 _ c5 (L ++ vb y.size ++ bn y) p0 w5 hl1.out hs5 (by omega) (by omega))
          rw [← hpn.out] at hput
          clear hv hs5 hb5 Hb04 hpn
          rw [hl1.out]
          refine wpGr_call (o := ⟨_, _, _, _, _, _⟩) rfl (by rfl) (fun K hK => ?_)
          go_simp
          refine hput.out.mono ?_
          rintro e w6 ⟨r, rfl, hv, hb6⟩
          refine hK _ _ hb6 ?_
          clear hK K hput
          have hb06 := Hb5.out.trans (hb6.mono Hb5.out.size)
          have hf := hS2.out w6 hb06
          have Hf := Lib.hid hf
          have Hv := Lib.hid hv
          have Hb6 := Lib.hid (hB.out.trans (hb06.mono hB.out.size))
          clear hb06 hf hv hb6 Hb5 hS2 hB hl1
          iterate 1 (refine wpGr_read (o := ⟨_, _, _, _, _, _⟩) (v := ?_) rfl (by rfl) ?_ ?_; rotate_left; (intro w' hw'; go_simp; with_reducible rfl); simp only [Act.put, List.setIfInBounds_toArray, List.set_cons_zero, List.set_cons_succ])
          refine wpGr_done ?_
          go_wp2_with fail
          go_roundw
          case rel => exact ⟨k + 1, r, rfl, by go_num, by omega, Hv, Hf.out.1, Hf.out.2, Hb6⟩
          case measure => simp [intOf]; omega
        · obtain rfl : k = n := by omega
          have hsl1 := hsl.out
          rw [show putF ks is k = forkS ks is by unfold forkS; rw [Hn.out.1]] at hsl1
          have hsl2 := Lib.hid hsl1
          clear hsl hpb hS hsl1
          go_wp2
          go_ret2
          exact ⟨_, by rw [he.out.1]; rfl, by rw [he.out.2]; exact hsl2.out, hB.out⟩
end Go.Proofs.YtdgladhfibfdlaaGreatDoor
namespace Go.Proofs.YtdgladhfibfdlaaGreatDoor
open Go Go.RowKit
abbrev TT : TypeId := 28
def TreeQ (w : World) (p : Option Addr) (es : List En) (H : Nat) : Prop :=
  (p = none ∧ es = [] ∧ H = 0) ∨ ∃ b h s, p = some ⟨b, 0, none⟩ ∧ Nd w h none none b es s ∧ s ≤ 504 ∧ (0 < h → 3 ≤ s) ∧ es ≠ [] ∧ H = h + 1
def TreeT (w : World) (p : Option Addr) (ts : List Tr) (H : Nat) : Prop :=
  (p = none ∧ ts = [] ∧ H = 0) ∨ ∃ b h t, p = some ⟨b, 0, none⟩ ∧ ts = [t] ∧ NdT w h none none b t ∧ t.sz ≤ 504 ∧ (0 < h → 3 ≤ t.sz) ∧ t.es ≠ [] ∧ H = h + 1
theorem TreeT.none (w : World) : TreeT w none [] 0 := .inl ⟨rfl, rfl, rfl⟩
theorem TreeT.tq {w : World} {p : Option Addr} {ts : List Tr} {H : Nat} (h : TreeT w p ts H) : TreeQ w p (esL ts) H := by
  rcases h with ⟨h1, rfl, h2⟩ | ⟨b, h, t, h1, rfl, h2, h3, h4, h5, h6⟩
  · exact .inl ⟨h1, rfl, h2⟩
  · exact .inr ⟨b, h, t.sz, h1, by rw [esL_one]; exact NdT.nd h h2, h3, h4, by rw [esL_one]; exact h5, h6⟩
theorem TreeT.ext {w w' : World} {p : Option Addr} {ts : List Tr} {H : Nat} (h : TreeT w p ts H) (hb : Below w.heap.size w w') : TreeT w' p ts H := by
  rcases h with h | ⟨b, h, t, h1, h0, h2, h3⟩
  · exact .inl h
  · exact .inr ⟨b, h, t, h1, h0, NdT.ext hb h h2, h3⟩
def TreeP (w : World) (p : Option Addr) (es : List En) (H : Nat) : Prop := ∃ es', es = bare es' ∧ TreeQ w p es' H
theorem TreeQ.tp {w : World} {p : Option Addr} {es : List En} {H : Nat} (h : TreeQ w p es H) : TreeP w p (bare es) H := ⟨es, rfl, h⟩
theorem TreeT.tp {w : World} {p : Option Addr} {ts : List Tr} {H : Nat} (h : TreeT w p ts H) : TreeP w p (bare (esL ts)) H := h.tq.tp
theorem TreeQ.low {w : World} {p : Option Addr} {es : List En} {H : Nat} (h : TreeQ w p es H) (hl : es.length < 200) : H ≤ 4 ∧ (H = 0 ↔ es = []) := by
  rcases h with ⟨_, rfl, rfl⟩ | ⟨b, h, s, h1, h2, h3, h4, h5, rfl⟩
  · exact ⟨by omega, by simp⟩
  · have := h2.low h4 hl
    exact ⟨by omega, fun h => by omega, fun h => absurd h h5⟩
theorem TreeP.low {w : World} {p : Option Addr} {es : List En} {H : Nat} (h : TreeP w p es H) (hl : es.length < 200) : H ≤ 4 ∧ (H = 0 ↔ es = []) := by
  obtain ⟨es', rfl, h⟩ := h
  rw [bare_nil]
  exact h.low (by rw [bare_len] at hl; exact hl)
theorem alloc_own (W : World) (T : TypeId) (vs : Array Value) : ∃ W', W.alloc (.cells vs T) = W' ∧ W'.heap[W.heap.size]? = some (.cells vs T (0, 0)) ∧ Below W.heap.size W W' :=
  ⟨_, rfl, by show (W.heap.push _)[W.heap.size]? = _; rw [Array.getElem?_push_size], (Below.refl _ _).alloc (Nat.le_refl _) _⟩
theorem ins_none (k : ByteArray) : ins none none k := ⟨trivial, trivial⟩
set_option maxRecDepth 100000 in
theorem getQ_any (p : Option Addr) (n : Int) (es : List En) (H : Nat) (key : ByteArray) (w : World) (ht : TreeQ w p es H) :
    Calls Tryz.prog 57 #[.agg #[.pointer p, .int .i64 n], .string key] w fun e w' => e = .returned (.tuple #[.string (getE es key), .bool (isE es key)]) ∧ Below w.heap.size w w' := by
  obtain ⟨w0, hw0, hc0, hb0⟩ := alloc_own w TT #[.pointer p, .int .i64 n]
  have HG := Lib.hid hw0
  have HB := Lib.hid hb0
  rcases ht with ⟨rfl, rfl, _⟩ | ⟨b, h, s, rfl, hn, hs, hs3, _⟩
  · clear hc0 hw0 hb0
    go_enter Tryz.func57, Tryz.ntmps57
    go_wp2
    go_ret2
    exact ⟨rfl, by rw [HG.out]; exact HB.out⟩
  · have hn0 := Lib.hid (Nd.ext hb0 h hn)
    have Hs := Lib.hid (And.intro hs hs3)
    clear hc0 hw0 hb0 hn hs hs3
    go_enter Tryz.func57, Tryz.ntmps57
    go_wp2_with fail
    rw [HG.out]
    go_loopg [6] h (fun k u wr => ∃ (b : Nat) (lo hi : SB) (es' : List En) (s' : Nat), u = pt b ∧ Hid (Nd wr k lo hi b es' s') ∧ Hid (ins lo hi key) ∧ Hid (getE es' key = getE es key ∧ isE es' key = isE es key) ∧ Hid (s' ≤ 504 ∧ (0 < k → 3 ≤ s')) ∧ Hid (Below w.heap.size w wr))
    case atStart => exact ⟨b, none, none, es, s, rfl, hn0, ins_none key, ⟨rfl, rfl⟩, Hs, HB⟩
    case round =>
      obtain ⟨b, lo, hi, es', s', rfl, hn, hin, heq, hss, hB⟩ := hrel
      cases gk with
      | zero =>
        obtain ⟨⟨vc, nb, a0, c0, rfl, s0, z0, hnc, hcm⟩, _, hsr, hok, hsz⟩ := hn.out
        have g1 := szs_range (fun x hx => (hok x hx).1)
        have hel : es'.length ≤ 200 := by have := hss.out.1; unfold leafSz at hsz; omega
        have q0 := nb.c1
        have Hnb := Lib.hid nb
        have hil := Lib.hid (isLeaf_yes b _ _ wr nb)
        have Hfd := Lib.hid (tfind_any a0 es'.length c0 es' key wr rfl s0 hsr (by omega))
        have HS := Lib.hid s0
        have Hie := Lib.hid (isE_eq es' key)
        have hget : Hid (getE es' key = if isE es' key = true then (ea es' (fE es' key)).v else ByteArray.empty) := rfl
        obtain ⟨N, hN⟩ : ∃ N, es'.length = N := ⟨_, rfl⟩
        have HN := Lib.hid hN
        rw [hN] at q0 Hfd Hnb hel
        rw [hN] at Hie
        have Heq := Lib.hid (And.intro heq.out.1.symm heq.out.2.symm)
        clear nb s0 z0 hnc hcm hsr hok hsz g1 hN hn hin hss heq
        generalize fE es' key = F at *
        cases hI : isE es' key with
        | true =>
          rw [hI] at Hfd Hie Heq
          have hFN : F < N := by
            have := Hie.out.symm
            rw [Bool.and_eq_true, decide_eq_true_iff] at this
            exact this.1
          obtain ⟨g, o, rfl, hcell⟩ := HS.out.ents (by rw [HN.out]; omega)
          have r1 := (hcell F (by rw [HN.out]; exact hFN)).2.1
          have Hg2 : Hid (getE es' key = (ea es' F).v) := by rw [hget.out, if_pos hI]; rfl
          have hg3 : Hid (getE es key = (ea es' F).v) := by rw [Heq.out.1]; exact Hg2.out
          have i1 : (F : Int) < (N : Int) := by omega
          generalize (ea es' F).v = y at *
          have lr := block_lt_of_cell r1
          have Hr1 := Lib.hid r1
          clear hcell hget Hie hI r1 HS Hg2
          go_wp2_with fail
          refine hil.out.mono ?_
          rintro e w' ⟨rfl, rfl⟩
          go_wp2_with fail
          refine Hfd.out.mono ?_
          rintro e w2 ⟨rfl, hb2⟩
          have q1 := (Hnb.out.ext hb2).c1
          have r2 : w2.cell? ⟨g, o + F * 3 + 1, none⟩ = some (.string y) := by
            rw [hb2.cell (p := ⟨g, o + F * 3 + 1, none⟩) lr]; exact Hr1.out
          have HB2 := Lib.hid (hB.out.trans (hb2.mono hB.out.size))
          clear hb2 Hfd hil q0 lr
          go_wp2
          go_ret2
          exact ⟨by rw [hg3.out, Heq.out.2]; rfl, HB2.out⟩
        | false =>
          rw [hI] at Hfd Hie Heq
          have Hg2 : Hid (getE es' key = ByteArray.empty) := by rw [hget.out, if_neg (by rw [hI]; decide)]; rfl
          have hg3 : Hid (getE es key = ByteArray.empty) := by rw [Heq.out.1]; exact Hg2.out
          clear hget Hie hI HS Hg2
          go_wp2_with fail
          refine hil.out.mono ?_
          rintro e w' ⟨rfl, rfl⟩
          go_wp2_with fail
          refine Hfd.out.mono ?_
          rintro e w2 ⟨rfl, hb2⟩
          have HB2 := Lib.hid (hB.out.trans (hb2.mono hB.out.size))
          clear hb2 Hfd hil q0
          go_wp2
          go_ret2
          exact ⟨by rw [hg3.out, Heq.out.2]; rfl, HB2.out⟩
      | succ h =>
        obtain ⟨ks, ps, ess, ⟨vk, vp, nb, ⟨a0, c0, rfl, s0, _⟩, ⟨a1, c1, rfl, s1, _⟩⟩, hr, hfl, hsz⟩ := hn.out
        have hle := hr.len
        have hkf := hr.keys Good.facts
        have hgr := kss_range (hr.facts Good.facts).2.2.2
        have hkl : ks.length ≤ 126 := by have := hss.out.1; unfold brSz at hsz; omega
        have hway := hr.way Good.facts hin.out
        have hwl := wayS_le ks key
        have hsplit : es' = (ess.take (wayS ks key)).flatten ++ (ess.getD (wayS ks key) [] ++ (ess.drop (wayS ks key + 1)).flatten) := by
          rw [hfl, ← ess_drop (by omega), ← List.flatten_append, List.take_append_drop]
        have hg1 := getE_mid hway.2.1 hway.2.2 (ess.getD (wayS ks key) [])
        have hg2 := (fE_mid hway.2.1 hway.2.2 (ess.getD (wayS ks key) [])).2
        rw [← hsplit] at hg1 hg2
        have Heq : Hid (getE (ess.getD (wayS ks key) []) key = getE es key ∧ isE (ess.getD (wayS ks key) []) key = isE es key) := ⟨hg1.symm.trans heq.out.1, hg2.symm.trans heq.out.2⟩
        obtain ⟨sk, hk1, hk2, hk3⟩ := hr.kid (d := []) hwl
        obtain ⟨g2, o2, rfl, hc2⟩ := s1.ptrs (by omega)
        have hil := Lib.hid (isLeaf_no b _ _ _ _ _ wr nb (by omega))
        obtain ⟨W, hW⟩ : ∃ W, wr.drew = W := ⟨_, rfl⟩
        have hbd : Below wr.heap.size wr W := by rw [← hW]; exact (Below.refl _ _).drew
        have q1 : ∀ w', Ext W w' → w'.cell? ⟨b, 2, none⟩ = some (.slice a0 ks.length c0) := fun w' hx => ((nb.ext hbd).ext hx).c2
        have q2 : ∀ w', Ext W w' → w'.cell? ⟨b, 3, none⟩ = some (.slice (some ⟨g2, o2, none⟩) ps.length c1) := fun w' hx => ((nb.ext hbd).ext hx).c3
        have Hway := Lib.hid (brWay_any a0 ks.length c0 ks key W rfl (s0.below hbd (Nat.le_refl _)).texts hkf (by omega))
        have hpt := hc2 (wayS ks key) (by omega)
        have lpt := block_lt_of_cell hpt
        have Hk := Lib.hid (And.intro hk1 (And.intro hk2 hk3))
        have Hin := Lib.hid hway.1
        have HW := Lib.hid (And.intro hW hbd)
        have hwm : wayS ks key < ps.length := by omega
        have hm1 : ps.length ≤ 127 := by omega
        have Hpt := Lib.hid hpt
        clear nb s0 s1 hc2 hway hwl hsplit hkf hr hgr hle hkl hg1 hg2 hfl hsz hW hbd hpt hn hin heq hss hk1 hk2 hk3
        generalize wayS ks key = A at *
        generalize na ps A = pk at *
        generalize ps.length = m at *
        generalize ks.length = n0 at *
        have i1 : (0 : Int) ≤ (A : Int) := by omega
        have i2 : (A : Int) < (m : Int) := by omega
        have z0 : IntKind.i64.wrap (A : Int) = (A : Int) := by rw [IntKind.wrap_i64]; omega
        go_wp2_with fail
        refine hil.out.mono ?_
        rintro e w' ⟨rfl, rfl⟩
        clear hil
        go_wp2_with fail
        refine wp_region_gr [(0, true), (1, true), (2, true), (3, true), (4, true), (5, true), (6, true), (7, true), (8, true), (9, false), (10, true), (11, true), (12, true)] (by kernel_rfl) (by kernel_rfl) (by kernel_rfl) (by kernel_rfl) (fun _ _ _ _ _ h => h) ?_
        rw [HW.out.1]
        iterate 9 (refine wpGr_read (o := ⟨_, _, _, _, _, _⟩) (v := ?_) rfl (by rfl) ?_ ?_; rotate_left; (intro w' hw'; go_simp; with_reducible rfl); simp only [Act.put, List.setIfInBounds_toArray, List.set_cons_zero, List.set_cons_succ])
        clear q1 q2
        refine wpGr_call (o := ⟨_, _, _, _, _, _⟩) rfl (by rfl) (fun K hK => ?_)
        go_simp
        refine Hway.out.mono ?_
        rintro e w2 ⟨rfl, hb2⟩
        refine hK _ _ hb2 ?_
        clear hK K Hway
        have hbx := HW.out.2.trans (hb2.mono HW.out.2.size)
        have r2 : ∀ w', Ext w2 w' → w'.cell? ⟨g2, o2 + A, none⟩ = some (pt pk) := fun w' hx => by
          rw [(hbx.trans (hx.mono hbx.size)).cell (p := ⟨g2, o2 + A, none⟩) lpt]; exact Hpt.out
        have HB2 := Lib.hid (hB.out.trans (hbx.mono hB.out.size))
        have Hn2 : Hid (Nd w2 h (lob lo ks A) (hib hi ks A) pk (ess.getD A []) sk) := Nd.ext hbx h Hk.out.1
        have Hs2 : Hid (sk ≤ 504 ∧ (0 < h → 3 ≤ sk)) := ⟨Hk.out.2.2, fun _ => by have := Hk.out.2.1; omega⟩
        clear hb2 hbx lpt Hpt HW Hk hB
        iterate 3 (refine wpGr_read (o := ⟨_, _, _, _, _, _⟩) (v := ?_) rfl (by rfl) ?_ ?_; rotate_left; (intro w' hw'; go_simp; with_reducible rfl); simp only [Act.put, List.setIfInBounds_toArray, List.set_cons_zero, List.set_cons_succ])
        refine wpGr_done ?_
        clear r2
        go_wp2_with fail
        go_roundg h
        case measure => omega
        case rel => exact ⟨pk, _, _, _, sk, rfl, Hn2, Hin, Heq, Hs2, HB2⟩
end Go.Proofs.YtdgladhfibfdlaaGreatDoor
namespace Go.Proofs.YtdgladhfibfdlaaGreatDoor
open Go Go.RowKit
def GathPost (w0 w : World) (L es : List En) (e : Ending) (w' : World) : Prop :=
  ∃ v', e = .returned v' ∧ w'.ownsRow w0.heap.size ET entE.sz v' (L.length + es.length) (entE.row (L ++ es)) ∧ Below w0.heap.size w0 w' ∧ Below w0.heap.size w w'
theorem ents_take (es : List En) (k : Nat) (h : k < es.length) : es.take (k + 1) = es.take k ++ [ea es k] := ea_take es k h
set_option maxRecDepth 100000 in
theorem withCells_any (w0 : World) (v : Value) (L : List En) (a : Option Addr) (n c : Nat) (es : List En) (w : World) (hB : Below w0.heap.size w0 w) (hown : w.ownsRow w0.heap.size ET entE.sz v L.length (entE.row L)) (hn : es.length = n) (hs : CS w0 a es) (hl : L.length + n ≤ 100000) :
    Calls Tryz.prog 82 #[v, .slice a n c] w fun e w' => GathPost w0 w L es e w' := by
  have Hs := Lib.hid hs
  have Hn := Lib.hid hn
  have Hb0 := Lib.hid hB
  have Hw0 : Hid (w.ownsRow w0.heap.size ET entE.sz v (L.length + 0) (entE.row (L ++ es.take 0))) := by
    rw [List.take_zero, List.append_nil, Nat.add_zero]; exact hown
  clear hs hn hB hown
  go_enter Tryz.func82, Tryz.ntmps82
  go_wp2_with fail
  go_loopw [0, 6, 9] (fun u _ i wr => ∃ (k : Nat) (x : Value), x = u ∧ i = .int .i64 k ∧ k ≤ n ∧ Hid (wr.ownsRow w0.heap.size ET entE.sz x (L.length + k) (entE.row (L ++ es.take k))) ∧ Hid (Below w0.heap.size w0 wr) ∧ Hid (Below w0.heap.size w wr)) (fun _ _ i _ => n - (intOf i).toNat)
  case atStart => exact ⟨0, v, rfl, rfl, by omega, Hw0, Hb0, Below.refl _ _⟩
  case round =>
    obtain ⟨k, x, rfl, rfl, hk, hown, hB, hC⟩ := hrel
    by_cases hlt : k < n
    · obtain ⟨g, o, rfl, hcell⟩ := (Hs.out.below hB.out (Nat.le_refl _)).ents (by rw [Hn.out]; omega)
      obtain ⟨p0, p1, _, p2, ⟨sa, sc, rfl, _⟩⟩ := hcell k (by rw [Hn.out]; exact hlt)
      have hsz := hB.out.size
      have hsz2 := hC.out.size
      obtain ⟨i0, hi, hz, hs0, hby⟩ := info_parts infoE
      have hlit : ES entE ((wr.alloc (.cells #[.string (ea es k).k, .string (ea es k).v, .slice sa (ea es k).ch.length sc] TCT)).alloc (.cells #[.string (ea es k).k, .string (ea es k).v] ET)) (some ⟨wr.heap.size + 1, 0, none⟩) [ea es k] := by
        have h1 := heap_new (wr.alloc (.cells #[.string (ea es k).k, .string (ea es k).v, .slice sa (ea es k).ch.length sc] TCT)) ET #[.string (ea es k).k, .string (ea es k).v]
        rw [show (wr.alloc (.cells #[.string (ea es k).k, .string (ea es k).v, .slice sa (ea es k).ch.length sc] TCT)).heap.size = wr.heap.size + 1 by simp] at h1
        exact ES.lit (E := entE) (l := [ea es k]) h1
      obtain ⟨v1, w1, hrun, hb1, ho1⟩ := run_app_own (P := Tryz.prog) (E := entE) w0.heap.size 45 45 ET Tryz.underlying45 infoE x (L.length + k) (L ++ es.take k) ((hown.out.alloc _).alloc _) (by simp; omega) (some ⟨wr.heap.size + 1, 0, none⟩) 1 1 [ea es k] rfl (fun h => by cases h) hlit (by unfold maxLen; omega) (by show _ * 32 ≤ _; omega)
      have hba : Below w0.heap.size wr w1 := (((Below.refl _ wr).alloc hsz _).alloc (by simp; omega) _).trans hb1
      have Ho1 : Hid (w1.ownsRow w0.heap.size ET entE.sz v1 (L.length + (k + 1)) (entE.row (L ++ es.take (k + 1)))) := by
        rw [ents_take es k (by rw [Hn.out]; exact hlt), ← List.append_assoc, ← Nat.add_assoc]; exact ho1
      have HB1 := Lib.hid (hB.out.trans hba)
      have HC1 := Lib.hid (hC.out.trans hba)
      generalize ea es k = y at *
      obtain ⟨yk, yv, yc⟩ := y
      dsimp only at p0 p1 p2 hrun
      generalize yc.length = yn at *
      clear hcell hi hz hs0 hby hlit hb1 ho1 hba hown hB hC
      go_wp2_with (at_builtin; refine Lib.wpList_append_run _ rfl (.tmp 13) (.tmp 16) _ _ rfl _ _ (by rfl) (by rfl) _ _ hrun ?_)
      go_wp2
      go_roundw
      case rel => exact ⟨k + 1, v1, rfl, by go_num, by omega, Ho1, HB1, HC1⟩
      case measure => simp [intOf]; omega
    · obtain rfl : k = n := by omega
      have ho := hown.out
      rw [List.take_of_length_le (by rw [Hn.out]; exact Nat.le_refl _)] at ho
      have Ho2 : Hid (wr.ownsRow w0.heap.size ET entE.sz x (L.length + es.length) (entE.row (L ++ es))) := by rw [Hn.out]; exact ho
      clear hown ho
      go_wp2
      go_ret
      exact ⟨x, rfl, Ho2.out, hB.out, hC.out⟩
set_option maxRecDepth 100000 in
theorem gathered_leaf (w0 : World) {lo hi : SB} (b : Nat) (es : List En) (s : Nat) (hn : Nd w0 0 lo hi b es s) (v : Value) (L : List En) (w : World) (hB : Below w0.heap.size w0 w) (hown : w.ownsRow w0.heap.size ET entE.sz v L.length (entE.row L)) (hl : L.length + es.length ≤ 100000) :
    Calls Tryz.prog 51 #[v, pt b] w fun e w' => GathPost w0 w L es e w' := by
  obtain ⟨⟨vc, nb, a0, c0, rfl, s0, z0, _⟩, _⟩ := hn
  have lb := nb.lt
  have q0 : w.cell? ⟨b, 1, none⟩ = some (.slice a0 es.length c0) := by rw [hB.cell (p := ⟨b, 1, none⟩) lb]; exact nb.c1
  have Hcall := Lib.hid (withCells_any w0 v L a0 es.length c0 es w hB hown rfl s0 hl)
  have Hnb := Lib.hid nb
  obtain ⟨n, hn⟩ : ∃ n, es.length = n := ⟨_, rfl⟩
  rw [hn] at q0 Hcall
  clear nb s0 z0 hown hn hB hl
  go_enter Tryz.func51, Tryz.ntmps51
  go_wp2_with fail
  refine Hcall.out.mono ?_
  rintro e w1 ⟨v1, rfl, ho1, hb1, hb2⟩
  have q2 : w1.cell? ⟨b, 3, none⟩ = some nilS := by
    rw [hb1.cell (p := ⟨b, 3, none⟩) lb]; exact Hnb.out.c3
  have HB := Lib.hid hb1
  have Ho := Lib.hid ho1
  have Hb1 := Lib.hid hb2
  clear ho1 hb1 hb2 Hcall lb q0
  go_wp2_with fail
  go_loopw [0, 6, 18] (fun u _ i wr => v1 = u ∧ i = .int .i64 0 ∧ w1 = wr) (fun _ _ _ _ => 0)
  case atStart => exact ⟨by first | trivial | rfl, rfl, by first | trivial | rfl⟩
  case round =>
    obtain ⟨rfl, rfl, rfl⟩ := hrel
    go_wp2
    go_ret
    exact ⟨v1, rfl, Ho.out, HB.out, Hb1.out⟩
set_option maxRecDepth 100000 in
theorem gathered_bran (w0 : World) {h : Nat} {lo hi : SB} (b : Nat) (es : List En) (s : Nat) (hn : Nd w0 (h + 1) lo hi b es s) (v : Value) (L : List En) (w : World) (hB : Below w0.heap.size w0 w) (hown : w.ownsRow w0.heap.size ET entE.sz v L.length (entE.row L)) (hl : L.length + es.length ≤ 100000)
    (hks : s ≤ 100000)
    (ih : ∀ (lo hi : SB) (b : Nat) (es : List En) (s : Nat) (v : Value) (L : List En) (w : World), Nd w0 h lo hi b es s → s ≤ 100000 → Below w0.heap.size w0 w → w.ownsRow w0.heap.size ET entE.sz v L.length (entE.row L) → L.length + es.length ≤ 100000 → Calls Tryz.prog 51 #[v, pt b] w fun e w' => GathPost w0 w L es e w') :
    Calls Tryz.prog 51 #[v, pt b] w fun e w' => GathPost w0 w L es e w' := by
  obtain ⟨ks, ps, ess, ⟨vk, vp, nb, _, ⟨a1, c1, rfl, s1, _⟩⟩, hr, rfl, rfl⟩ := hn
  have hle := hr.len
  have hgk := kss_range (hr.facts Good.facts).2.2.2
  have hkl : ks.length ≤ 100000 := by unfold brSz at hks; omega
  obtain ⟨g2, o2, rfl, hc2⟩ := s1.ptrs (by omega)
  have lb := nb.lt
  have q0 : w.cell? ⟨b, 1, none⟩ = some nilS := by rw [hB.cell (p := ⟨b, 1, none⟩) lb]; exact nb.c1
  have Hcall := Lib.hid (withCells_any w0 v L none 0 0 [] w hB hown rfl (CS.nil _) (by omega))
  have Hnb := Lib.hid nb
  have Hc2 := Lib.hid hc2
  have Hr := Lib.hid hr
  have Hih := Lib.hid ih
  have Hl := Lib.hid (And.intro hl hle)
  obtain ⟨n, hn⟩ : ∃ n, ps.length = n := ⟨_, rfl⟩
  have Hn := Lib.hid hn
  have hn9 : n ≤ 100001 := by omega
  have Hlb := Lib.hid lb
  have Hn2 := Lib.hid hn
  clear nb s1 hown hn hB lb hl ih hr hc2 hle hgk hkl hks
  go_enter Tryz.func51, Tryz.ntmps51
  go_wp2_with fail
  refine Hcall.out.mono ?_
  rintro e w1 ⟨v1, rfl, ho1, hb1, hb2⟩
  have q3 : w1.cell? ⟨b, 3, none⟩ = some (.slice (some ⟨g2, o2, none⟩) n c1) := by
    rw [hb1.cell (p := ⟨b, 3, none⟩) Hlb.out, ← Hn2.out]; exact Hnb.out.c3
  rw [List.append_nil] at ho1
  have HB := Lib.hid hb1
  have Ho := Lib.hid ho1
  have Hb1 := Lib.hid hb2
  clear ho1 hb1 hb2 Hcall q0
  go_wp2_with fail
  go_loopw [0, 6, 18] (fun u _ i wr => ∃ (k : Nat) (v : Value), v = u ∧ i = .int .i64 k ∧ k ≤ n ∧ Hid (wr.ownsRow w0.heap.size ET entE.sz v (L.length + (ess.take k).flatten.length) (entE.row (L ++ (ess.take k).flatten))) ∧ Hid (Below w0.heap.size w0 wr) ∧ Hid (Below w0.heap.size w wr)) (fun _ _ i _ => n - (intOf i).toNat)
  case atStart => exact ⟨0, v1, rfl, rfl, by omega, by rw [List.take_zero, List.flatten_nil, List.append_nil]; exact Ho, HB, Hb1⟩
  case round =>
    obtain ⟨k, v, rfl, rfl, hk, hown, hB, hC⟩ := hrel
    by_cases hlt : k < n
    · have hkid := Hr.out.kid (d := []) (m := k) (by have := Hl.out.2; have := Hn.out; omega)
      have p0 := Hc2.out k (by rw [Hn.out]; exact hlt)
      have p1 : wr.cell? ⟨g2, o2 + k, none⟩ = some (pt (na ps k)) := by
        rw [hB.out.cell (p := ⟨g2, o2 + k, none⟩) (block_lt_of_cell p0)]; exact p0
      have het : (ess.take (k + 1)).flatten = (ess.take k).flatten ++ ess.getD k [] := ess_take (ess := ess) (i := k) (by have := Hl.out.2; have := Hn.out; omega)
      have hsum : (ess.take (k + 1)).flatten.length ≤ ess.flatten.length := by
        conv => rhs; rw [← List.take_append_drop (k + 1) ess, List.flatten_append, List.length_append]
        omega
      have hlen : (L ++ (ess.take k).flatten).length + (ess.getD k []).length ≤ 100000 := by
        rw [het, List.length_append] at hsum
        rw [List.length_append]; have := Hl.out.1; omega
      obtain ⟨sk, hk1, _, hk3⟩ := hkid
      have Hcall := Lib.hid (Hih.out _ _ (na ps k) (ess.getD k []) sk v (L ++ (ess.take k).flatten) wr hk1 (by omega) hB.out (by rw [List.length_append]; exact hown.out) hlen)
      have Het := Lib.hid het
      generalize na ps k = pk at *
      clear p0 het hsum hlen hk1 hk3 hown
      go_wp2_with fail
      refine Hcall.out.mono ?_
      rintro e w2 ⟨v2, rfl, ho2, hb2, hb3⟩
      have Ho2 : Hid (w2.ownsRow w0.heap.size ET entE.sz v2 (L.length + (ess.take (k + 1)).flatten.length) (entE.row (L ++ (ess.take (k + 1)).flatten))) := by
        rw [Het.out, ← List.append_assoc]
        rw [List.length_append] at ho2
        rw [List.length_append, ← Nat.add_assoc]; exact ho2
      have Hb2 := Lib.hid hb2
      have Hc2' := Lib.hid (hC.out.trans hb3)
      clear ho2 hb2 hb3 Hcall hB hC p1
      go_wp2_with fail
      go_roundw
      case rel => exact ⟨k + 1, v2, rfl, by go_num, by omega, Ho2, Hb2, Hc2'⟩
      case measure => simp [intOf]; omega
    · obtain rfl : k = n := by omega
      have ho := hown.out
      rw [List.take_of_length_le (by have := Hl.out.2; have := Hn.out; omega)] at ho
      have Ho2 := Lib.hid ho
      clear hown ho
      go_wp2
      go_ret
      exact ⟨v, rfl, Ho2.out, hB.out, hC.out⟩
theorem gathered_any (w0 : World) : ∀ (h : Nat) (lo hi : SB) (b : Nat) (es : List En) (s : Nat) (v : Value) (L : List En) (w : World), Nd w0 h lo hi b es s → s ≤ 100000 → Below w0.heap.size w0 w → w.ownsRow w0.heap.size ET entE.sz v L.length (entE.row L) → L.length + es.length ≤ 100000 → Calls Tryz.prog 51 #[v, pt b] w fun e w' => GathPost w0 w L es e w'
  | 0, _, _, b, es, s, v, L, w, hn, _, hB, ho, hl => gathered_leaf w0 b es s hn v L w hB ho hl
  | h + 1, _, _, b, es, s, v, L, w, hn, hs, hB, ho, hl => gathered_bran w0 b es s hn v L w hB ho hl hs (gathered_any w0 h)
end Go.Proofs.YtdgladhfibfdlaaGreatDoor
