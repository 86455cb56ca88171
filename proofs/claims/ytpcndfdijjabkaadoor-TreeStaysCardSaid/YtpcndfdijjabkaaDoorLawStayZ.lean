/-
  The law TreeStays.
-/
import Derived.Test.YtpcndfdijjabkaaDoorLawOrdZ
import Derived.Test.YtpcndfdijjabkaaDoorActsZ
namespace Go.Proofs.YtpcndfdijjabkaaDoor
open Go Go.RowKit

/-- What stands between the acts: the tree ahead, what it held, the tree at hand. -/
structure St (w wr : World) (b5 b8 : Nat) (l es : List En) (lv : Value) (p5 p : Option Addr) (H5 H : Nat) : Prop where
  o : Or w wr b5 b8 l es lv p5 p H
  t0 : TreeP wr p5 l H5
theorem St.ext {w wr w6 : World} {b5 b8 : Nat} {l es : List En} {lv : Value} {p5 p : Option Addr} {H5 H : Nat} (h : St w wr b5 b8 l es lv p5 p H5 H) (hb : Below wr.heap.size wr w6) : St w w6 b5 b8 l es lv p5 p H5 H := ⟨h.o.ext hb, h.t0.ext hb⟩
theorem St.next {w wr w6 : World} {b5 b8 : Nat} {l es es2 : List En} {lv : Value} {p5 p p2 : Option Addr} {H5 H H2 : Nat} (h : St w wr b5 b8 l es lv p5 p H5 H) (hb : Below wr.heap.size wr w6) (ht : TreeP w6 p2 es2 H2) :
    St w ((w6.setCell ⟨b8, 0, none⟩ (.pointer p2)).setCell ⟨b8, 1, none⟩ (.int .i64 es2.length)) b5 b8 l es2 lv p5 p2 H5 H2 := by
  have h6 := h.ext hb
  exact ⟨h.o.next hb ht, h6.t0.turn (turn_put w6 b8 (.pointer p2) (.int .i64 es2.length)) (TF.one h6.o.t8)⟩
set_option maxHeartbeats 4000000 in
set_option maxRecDepth 100000 in
theorem stays_any (A S : Nat) (a : Option Addr) (m c : Nat) (acts : List Ac) (w : World) (hA : A < 65536) (hS : S < 65536) (hm : acts.length = m) (hs : AS w a acts) (hml : m ≤ 9223372036854775807) (hg : Hg w) :
    Calls Tryd.prog 5 #[.agg #[.int .u16 A, .int .u16 S], .slice a m c] w fun e w' => e = .returned (.bool true) ∧ Below w.heap.size w w' := by
  obtain ⟨W, hW, _, hb⟩ := alloc_own w 23 #[.int .u16 A, .int .u16 S]
  obtain ⟨N, hN⟩ : ∃ N, N = A % 200 := ⟨_, rfl⟩
  have eN : (A : Int).tmod 200 = (N : Int) := by rw [Int.tmod_eq_emod_of_nonneg (by omega)]; omega
  have hN9 : N ≤ 199 := by omega
  have Hgr := Lib.hid (grown_any N S W (by omega) (by omega) (hg.below hb))
  have HW := Lib.hid hW
  have HB := Lib.hid hb
  have Hg0 : Hid (∀ {w'}, Below w.heap.size w w' → Hg w') := fun x => hg.below x
  have Hact := Lib.hid (And.intro hm hs)
  clear hW hb hg hN hs hm
  go_enter Tryd.func5, Tryd.ntmps5
  go_wp2_with fail
  rw [HW.out]
  refine Hgr.out.mono ?_
  rintro e w1 ⟨p5, H5, l, lv0, rfl, ht5, hl, hln, hb1⟩
  replace ht5 := ht5.tp
  obtain ⟨W5, hW5, hT5, hb5⟩ := alloc_own w1 TT #[.pointer p5, .int .i64 l.length]
  have hb01 := HB.out.trans (hb1.mono HB.out.size)
  have hb05 := hb01.trans (hb5.mono hb01.size)
  have hf := ht5.facts
  have Hf := Lib.hid (And.intro hf.1 hf.2)
  have hlow := ht5.low (by omega)
  have Hlow := Lib.hid hlow
  obtain ⟨Wd, hWd⟩ : ∃ Wd, W5.drew = Wd := ⟨_, rfl⟩
  have hbd : Below W5.heap.size W5 Wd := by rw [← hWd]; exact (Below.refl _ _).drew
  have hb0d := hb05.trans (hbd.mono hb05.size)
  have hTd : TB Wd w1.heap.size p5 l.length := TB.ext (w := W5) hT5 hbd
  have htd := (ht5.ext hb5).ext hbd
  have HWd : Hid ((w1.alloc (.cells #[.pointer p5, .int .i64 l.length] TT)).drew = Wd) := by show _ = _; rw [hW5, hWd]
  have q0 : ∀ w', Ext Wd w' → w'.cell? ⟨w1.heap.size, 0, none⟩ = some (.pointer p5) := fun w' t => (TB.ext (w := Wd) hTd t).c0
  have q1 : ∀ w', Ext Wd w' → w'.cell? ⟨w1.heap.size, 1, none⟩ = some (.int .i64 l.length) := fun w' t => (TB.ext (w := Wd) hTd t).c1
  have Hall := Lib.hid (all_any p5 l H5 Wd htd (by omega))
  have HTd := Lib.hid (And.intro hTd htd)
  have HB0 := Lib.hid hb0d
  have Hlo1 := Lib.hid hb01.size
  obtain ⟨az, cz, rfl, _⟩ := hl
  obtain ⟨n, hn⟩ : ∃ n, l.length = n := ⟨_, rfl⟩
  have Hn := Lib.hid hn
  have hn9 : n ≤ 199 := by omega
  rw [hn] at HWd q1 Hall ⊢
  clear hW5 hT5 hb5 hb01 hb05 hf ht5 hln hb1 hn HB Hgr HW hlow hWd hbd hb0d hTd htd
  go_wp2_with fail
  refine wp_region_gr [(0, true), (2, true), (1, false), (3, false), (4, true), (5, true)] (by kernel_rfl) (by kernel_rfl) (by kernel_rfl) (by kernel_rfl) (fun _ _ _ _ _ h => h) ?_
  rw [HWd.out]
  iterate 2 (refine wpGr_read (o := ⟨_, _, _, _, _, _⟩) (v := ?_) rfl (by rfl) ?_ ?_; rotate_left; (intro w' hw'; go_simp; with_reducible rfl); simp only [Act.put, List.setIfInBounds_toArray, List.set_cons_zero, List.set_cons_succ])
  clear q0 q1
  refine wpGr_call (o := ⟨_, _, _, _, _, _⟩) rfl (by rfl) (fun K hK => ?_)
  go_simp
  refine Hall.out.mono ?_
  rintro e w2 ⟨v, rfl, hev2, hb2⟩
  refine hK _ _ hb2 ?_
  clear hK K Hall
  have hT2 := TB.ext (w := Wd) HTd.out.1 hb2
  have ht2 := HTd.out.2.ext hb2
  have Hh := Lib.hid (height_any p5 (n : Int) l H5 w2 ht2 (by have := Hlow.out.1; omega))
  have HTd2 := Lib.hid (And.intro hT2 (And.intro ht2 hev2))
  have HB2 := Lib.hid (HB0.out.trans (hb2.mono HB0.out.size))
  clear hT2 ht2 hev2 hb2 HTd HB0
  refine wpGr_call (o := ⟨_, _, _, _, _, _⟩) rfl (by rfl) (fun K hK => ?_)
  go_simp
  refine Hh.out.mono ?_
  rintro e w3 ⟨rfl, hb3⟩
  refine hK _ _ hb3 ?_
  clear hK K Hh
  have hT3 := HTd2.out.1.ext hb3
  have ht3 := HTd2.out.2.1.ext hb3
  have hev3 := HTd2.out.2.2.ext hb3
  have hb03 := HB2.out.trans (hb3.mono HB2.out.size)
  obtain ⟨W8, hW8, hT8, hb8⟩ := alloc_own w3 TT #[.pointer p5, .int .i64 n]
  have hb08 := hb03.trans (hb8.mono hb03.size)
  have hlt3 := hT3.lt
  have HSt : Hid (St w W8 w1.heap.size w3.heap.size l l v p5 p5 H5 H5) := ⟨⟨hev3.ext hb8, hT3.ext hb8, by have h := hT8; rw [← Hn.out] at h; exact h, ht3.ext hb8, hb08, hb03.size, by omega, fun x => Hg0.out x⟩, ht3.ext hb8⟩
  have HW8 := Lib.hid hW8
  have e0 := hT3.c0
  have e1 := hT3.c1
  rw [Hn.out] at e1
  obtain ⟨a0, c0, rfl, _⟩ := hev3
  rw [Hn.out]
  clear hT3 ht3 hb03 hW8 hT8 hb8 hb08 hlt3 hb3 HTd2 HB2
  iterate 2 (refine wpGr_read (o := ⟨_, _, _, _, _, _⟩) (v := ?_) rfl (by rfl) ?_ ?_; rotate_left; (intro w' hw'; go_simp; with_reducible rfl); simp only [Act.put, List.setIfInBounds_toArray, List.set_cons_zero, List.set_cons_succ])
  refine wpGr_done ?_
  go_wp2_with fail
  rw [HW8.out]
  clear e0 e1
  go_loopw [12, 13, 14, 15, 16, 17, 18, 19, 20, 21] (fun iv _ _ _ _ _ _ _ _ _ wr => ∃ (i : Nat) (es : List En) (p : Option Addr) (H : Nat), iv = .int .i64 i ∧ i ≤ m ∧ i ≤ 60 ∧ es.length ≤ 199 + i ∧ Hid (St w wr w1.heap.size w3.heap.size l es (.slice a0 l.length c0) p5 p H5 H)) (fun iv _ _ _ _ _ _ _ _ _ _ => 60 - (intOf iv).toNat)
  case atStart => exact ⟨0, l, p5, H5, rfl, by omega, by omega, by rw [Hn.out]; omega, HSt⟩
  case round =>
    obtain ⟨i, es, p, H, rfl, him, hi60, hel, hst⟩ := hrel
    by_cases hlt : i < m ∧ i < 60
    · obtain ⟨hl1, hl2⟩ := hlt
      have hIl : (i : Int) < (m : Int) := by omega
      obtain ⟨ga, oa, rfl, hacts⟩ := (Hact.out.2.below hst.out.o.b (Nat.le_refl _)) (by rw [Hact.out.1]; omega)
      obtain ⟨k0, k1, k2⟩ := hacts i (by rw [Hact.out.1]; exact hl1)
      have i1 : (0 : Int) ≤ (i : Int) := by omega
      have i2 : (i : Int) < 60 := by omega
      generalize aca acts i = y at *
      obtain ⟨kx, key, val⟩ := y
      dsimp only at k0 k1 k2
      obtain ⟨R, hR⟩ : ∃ R, kx.tmod 3 = R := ⟨_, rfl⟩
      -- the act's own block
      obtain ⟨W1, hW1, hA1, hbW1⟩ := alloc_own wr ACT #[.int .i64 kx, .string key, .string val]
      have HW1 := Lib.hid hW1
      have hst1 := hst.out.ext hbW1
      have HA1 := Lib.hid hA1
      have Hst1 := Lib.hid hst1
      have e0 : (wr.alloc (.cells #[.int .i64 kx, .string key, .string val] ACT)).cell? ⟨w3.heap.size, 0, none⟩ = some (.pointer p) := by rw [hW1]; exact hst1.o.t8.c0
      have e1 : (wr.alloc (.cells #[.int .i64 kx, .string key, .string val] ACT)).cell? ⟨w3.heap.size, 1, none⟩ = some (.int .i64 es.length) := by rw [hW1]; exact hst1.o.t8.c1
      have Hskip : Hid (St w (wr.alloc (.cells #[.int .i64 kx, .string key, .string val] ACT)) w1.heap.size w3.heap.size l es (.slice a0 l.length c0) p5 p H5 H) := by show St _ _ _ _ _ _ _ _ _ _ _; rw [hW1]; exact hst1
      clear hacts hW1 hA1 hbW1 hst1
      by_cases g1 : key.size < 1
      · have d1 : decide ((key.size : Int) < 1) = true := decide_eq_true (by omega)
        clear g1 e0 e1 HW1 HA1 Hst1 hR
        go_wp2_with fail
        go_roundw
        case rel => exact ⟨i + 1, es, p, H, by go_num, by omega, by omega, by omega, Hskip⟩
        case measure => simp [intOf]; omega
      have d1 : decide ((key.size : Int) < 1) = false := decide_eq_false (by omega)
      by_cases g2 : 40 < key.size
      · have d2 : decide (40 < (key.size : Int)) = true := decide_eq_true (by omega)
        clear g1 g2 e0 e1 HW1 HA1 Hst1 hR
        go_wp2_with fail
        go_roundw
        case rel => exact ⟨i + 1, es, p, H, by go_num, by omega, by omega, by omega, Hskip⟩
        case measure => simp [intOf]; omega
      have d2 : decide (40 < (key.size : Int)) = false := decide_eq_false (by omega)
      by_cases g3 : 2048 < val.size
      · have d3 : decide (2048 < (val.size : Int)) = true := decide_eq_true (by omega)
        clear g1 g2 g3 e0 e1 HW1 HA1 Hst1 hR
        go_wp2_with fail
        go_roundw
        case rel => exact ⟨i + 1, es, p, H, by go_num, by omega, by omega, by omega, Hskip⟩
        case measure => simp [intOf]; omega
      have d3 : decide (2048 < (val.size : Int)) = false := decide_eq_false (by omega)
      have hkey : Hid (okK key = true) := by show _ = _; unfold okK; simp; omega
      have hval : Hid (val.size ≤ 2048) := by show _ ≤ _; omega
      clear g1 g2 g3
      by_cases hdel : R = 1
      · have dR : (R == 1) = true := by rw [beq_iff_eq]; exact hdel
        clear Hskip hdel
        have hsrt := hst.out.o.tr.facts.1
        have hlen := tdL_len es key
        have hdn := del_not hsrt key
        obtain ⟨es2, hes2⟩ : ∃ es2, tdL es key = es2 := ⟨_, rfl⟩
        rw [hes2] at hlen hdn
        have hcall := delete_all p es H key W1 Hst1.out.o.tr (by omega)
        rw [hes2] at hcall
        have Hcall := Lib.hid hcall
        obtain ⟨m1, hm1⟩ : ∃ m, es.length = m := ⟨_, rfl⟩
        obtain ⟨N2, hN2⟩ : ∃ m, es2.length = m := ⟨_, rfl⟩
        have HN2 := Lib.hid hN2
        rw [hm1] at e1
        rw [hm1, hN2] at Hcall
        have hN9 : N2 ≤ 260 := by omega
        have hN8 : N2 ≤ 199 + (i + 1) := by omega
        clear hcall hsrt hlen hm1 hN2 hes2 
        go_wp2_with fail
        rw [HW1.out]
        refine Hcall.out.mono ?_
        rintro e w4 ⟨p2, H2, rfl, ht2, hb4⟩
        obtain ⟨W4, hW4, hT4, hbW4⟩ := alloc_own w4 TT #[.pointer p2, .int .i64 (N2 : Int)]
        have HW4 := Lib.hid hW4
        have hb14 := hb4.trans (hbW4.mono hb4.size)
        have Hst4 := Lib.hid (Hst1.out.ext hb14)
        have HT4 : Hid (TB W4 w4.heap.size p2 (N2 : Int)) := hT4
        have HA4 : Hid (W4.heap[wr.heap.size]? = some (.cells #[.int .i64 kx, .string key, .string val] ACT (0, 0))) := (hb14.block _ (Array.getElem?_eq_some_iff.1 HA1.out).1).trans HA1.out
        have Hget := Lib.hid (get_any p2 (N2 : Int) es2 H2 key W4 (ht2.ext hbW4))
        have Ht4 := Lib.hid (ht2.ext hbW4)
        have Hb14 := Lib.hid hb14
        have x1 : w4.cell? ⟨wr.heap.size, 1, none⟩ = some (.string key) := by
          have h := (hb4.block _ (Array.getElem?_eq_some_iff.1 HA1.out).1).trans HA1.out
          simp [World.cell?, h]
        have x1' : (w4.alloc (.cells #[.pointer p2, .int .i64 (N2 : Int)] TT)).cell? ⟨wr.heap.size, 1, none⟩ = some (.string key) := by
          rw [hW4]
          have h := HA4.out
          simp [World.cell?, h]
        rw [hdn] at Hget
        generalize getE es2 key = gv at *
        clear hW4 hT4 hbW4 hb14 hb4 ht2 Hcall e0 e1 hdn
        go_wp2_with fail
        rw [HW4.out]
        refine Hget.out.mono ?_
        rintro e w5 ⟨rfl, hb5⟩
        have hst5 := Hst4.out.ext hb5
        have hT5 := HT4.out.ext hb5
        have c0' := hT5.c0
        have c1' := hT5.c1
        have d0 := hst5.o.t8.c0
        have d1' := hst5.o.t8.c1
        have f0 := hst5.o.t8.fz 0
        have f1 := hst5.o.t8.fz 1
        have hb15 := Hb14.out.trans (hb5.mono Hb14.out.size)
        have hfin := Hst1.out.next (es2 := es2) hb15 (Ht4.out.ext hb5)
        rw [HN2.out] at hfin
        have Hfin := Lib.hid hfin
        clear hst5 hT5 hb15 hfin hb5 Hget Hst4 HT4 HA4 Ht4 Hb14 x1 x1'
        go_wp2_with fail
        go_roundw
        case rel => exact ⟨i + 1, es2, p2, H2, by go_num, by omega, by omega, by rw [HN2.out]; exact hN8, Hfin⟩
        case measure => simp [intOf]; omega
      · have dR : (R == 1) = false := by rw [beq_eq_false_iff_ne]; exact hdel
        clear Hskip hdel
        have hsrt := hst.out.o.tr.facts.1
        have htp := tp_ok (es := es) hkey.out hval.out (by omega)
        have hlen := tpL_len es key val
        obtain ⟨es2, hes2⟩ : ∃ es2, rep es key [⟨key, val, []⟩] = es2 := ⟨_, rfl⟩
        have hgp := get_put hsrt key val
        rw [htp.2, hes2] at hlen
        rw [hes2] at hgp
        have hcall := put_all p es H key val W1 Hst1.out.o.tr (by omega)
        rw [htp.1, htp.2, hes2] at hcall
        rw [show errC ((0 : Nat) : Int) = .nilIface from rfl] at hcall
        have Hcall := Lib.hid hcall
        obtain ⟨m1, hm1⟩ : ∃ m, es.length = m := ⟨_, rfl⟩
        obtain ⟨N2, hN2⟩ : ∃ m, es2.length = m := ⟨_, rfl⟩
        have HN2 := Lib.hid hN2
        rw [hm1] at e1
        rw [hm1, hN2] at Hcall
        have hN9 : N2 ≤ 260 := by omega
        have hN8 : N2 ≤ 199 + (i + 1) := by omega
        clear hcall hsrt hlen hm1 hN2 hes2 htp
        go_wp2_with fail
        rw [HW1.out]
        refine Hcall.out.mono ?_
        rintro e w4 ⟨p2, H2, rfl, ht2, hb4⟩
        obtain ⟨W4, hW4, hT4, hbW4⟩ := alloc_own w4 TT #[.pointer p2, .int .i64 (N2 : Int)]
        have HW4 := Lib.hid hW4
        have hb14 := hb4.trans (hbW4.mono hb4.size)
        have Hst4 := Lib.hid (Hst1.out.ext hb14)
        have HT4 : Hid (TB W4 w4.heap.size p2 (N2 : Int)) := hT4
        have HA4 : Hid (W4.heap[wr.heap.size]? = some (.cells #[.int .i64 kx, .string key, .string val] ACT (0, 0))) := (hb14.block _ (Array.getElem?_eq_some_iff.1 HA1.out).1).trans HA1.out
        have Hget := Lib.hid (get_any p2 (N2 : Int) es2 H2 key W4 (ht2.ext hbW4))
        have Ht4 := Lib.hid (ht2.ext hbW4)
        have Hb14 := Lib.hid hb14
        have x1 : w4.cell? ⟨wr.heap.size, 1, none⟩ = some (.string key) := by
          have h := (hb4.block _ (Array.getElem?_eq_some_iff.1 HA1.out).1).trans HA1.out
          simp [World.cell?, h]
        have x1' : (w4.alloc (.cells #[.pointer p2, .int .i64 (N2 : Int)] TT)).cell? ⟨wr.heap.size, 1, none⟩ = some (.string key) := by
          rw [hW4]
          have h := HA4.out
          simp [World.cell?, h]
        rw [hgp.1, hgp.2] at Hget
        clear hW4 hT4 hbW4 hb14 hb4 ht2 Hcall e0 e1 hgp
        go_wp2_with fail
        rw [HW4.out]
        refine Hget.out.mono ?_
        rintro e w5 ⟨rfl, hb5⟩
        have hst5 := Hst4.out.ext hb5
        have hT5 := HT4.out.ext hb5
        have c0' := hT5.c0
        have c1' := hT5.c1
        have d0 := hst5.o.t8.c0
        have d1' := hst5.o.t8.c1
        have f0 := hst5.o.t8.fz 0
        have f1 := hst5.o.t8.fz 1
        have hb15 := Hb14.out.trans (hb5.mono Hb14.out.size)
        have hfin := Hst1.out.next (es2 := es2) hb15 (Ht4.out.ext hb5)
        rw [HN2.out] at hfin
        have Hfin := Lib.hid hfin
        have x2 : w5.cell? ⟨wr.heap.size, 2, none⟩ = some (.string val) := by
          have h := (hb5.block _ (Array.getElem?_eq_some_iff.1 HA4.out).1).trans HA4.out
          simp [World.cell?, h]
        clear hst5 hT5 hb15 hfin hb5 Hget Hst4 HT4 HA4 Ht4 Hb14 x1 x1'
        go_wp2_with fail
        go_roundw
        case rel => exact ⟨i + 1, es2, p2, H2, by go_num, by omega, by omega, by rw [HN2.out]; exact hN8, Hfin⟩
        case measure => simp [intOf]; omega
    · rcases Nat.lt_or_ge i m with hl1 | hl1
      · have hIl : (i : Int) < (m : Int) := by omega
        have i2 : ¬ (i : Int) < 60 := by omega
        clear hlt
        have c0' := hst.out.o.t5.c0
        have c1' := hst.out.o.t5.c1
        have Hall := Lib.hid (all_any p5 l H5 wr hst.out.t0 (by rw [Hn.out]; omega))
        rw [Hn.out] at c1' Hall
        go_wp2_with fail
        refine Hall.out.mono ?_
        rintro e w4 ⟨v, rfl, ⟨a4, c4, rfl, s4, _⟩, hb4⟩
        have hst4 := hst.out.ext hb4
        have e0 := hst4.o.t5.c0
        have e1 := hst4.o.t5.c1
        have Hh := Lib.hid (height_any p5 (n : Int) l H5 w4 hst4.t0 (by have := Hlow.out.1; omega))
        have Hst4 := Lib.hid hst4
        have HS4 := Lib.hid s4
        rw [Hn.out] at e1 ⊢
        clear hst4 hb4 s4 Hall c0' c1' hst
        go_wp2_with fail
        refine Hh.out.mono ?_
        rintro e w5 ⟨rfl, hb5⟩
        have hst5 := Hst4.out.ext hb5
        have Hst5 := Lib.hid hst5
        have HS5 := Lib.hid (HS4.out.below hb5 (Nat.le_refl _))
        have dh1 : decide (4 < (H5 : Int)) = false := decide_eq_false (by have := Hlow.out.1; omega)
        have dh2 : ((H5 : Int) == 0) = ((n : Int) == 0) := by
          have h := Hlow.out.2
          rw [Bool.eq_iff_iff, beq_iff_eq, beq_iff_eq]
          constructor
          · intro h1
            have h2 := h.1 (by omega)
            have := Hn.out
            rw [h2] at this; simp at this; omega
          · intro h1
            have h2 : l = [] := List.eq_nil_of_length_eq_zero (by rw [Hn.out]; omega)
            have := h.2 h2
            omega
        obtain ⟨D, hD⟩ : ∃ D, ((n : Int) == 0) = D := ⟨_, rfl⟩
        rw [hD] at dh2
        have hDD : (D != D) = false := by cases D <;> rfl
        clear hst5 hb5 Hst4 HS4 Hh e0 e1
        go_wp2_with fail
        go_loopw [23] (fun iv wr => ∃ j : Nat, iv = .int .i64 j ∧ j ≤ n ∧ Hid (Below w5.heap.size w5 wr)) (fun iv _ => n - (intOf iv).toNat)
        case atStart => exact ⟨0, rfl, by omega, Below.refl _ _⟩
        case round =>
          obtain ⟨j, rfl, hj, hB⟩ := hrel
          by_cases hjn : j < n
          · obtain ⟨W6, hW6⟩ : ∃ W, wr.drew = W := ⟨_, rfl⟩
            have hbd : Below wr.heap.size wr W6 := by rw [← hW6]; exact (Below.refl _ _).drew
            have hb56 := hB.out.trans (hbd.mono hB.out.size)
            obtain ⟨g6, o6, rfl, hc6⟩ := (HS5.out.below hb56 (Nat.le_refl _)).ents (by rw [Hn.out]; omega)
            have hst6 := Hst5.out.ext hb56
            obtain ⟨g7, o7, h7, hc7⟩ := hst6.o.ls_at (by rw [Hn.out]; omega)
            subst h7
            obtain ⟨p0, p1⟩ := hc6 j (by rw [Hn.out]; exact hjn)
            obtain ⟨p2, p3⟩ := hc7 j (by rw [Hn.out]; exact hjn)
            have q0 : ∀ w', Ext W6 w' → w'.cell? ⟨g6, o6 + j * 2, none⟩ = some (.string (ea l j).k) := fun w' hx => by rw [hx.cell (p := ⟨g6, o6 + j * 2, none⟩) (block_lt_of_cell p0)]; exact p0
            have q1 : ∀ w', Ext W6 w' → w'.cell? ⟨g6, o6 + j * 2 + 1, none⟩ = some (.string (ea l j).v) := fun w' hx => by rw [hx.cell (p := ⟨g6, o6 + j * 2 + 1, none⟩) (block_lt_of_cell p1)]; exact p1
            have q2 : ∀ w', Ext W6 w' → w'.cell? ⟨g7, o7 + j * 2, none⟩ = some (.string (ea l j).k) := fun w' hx => by rw [hx.cell (p := ⟨g7, o7 + j * 2, none⟩) (block_lt_of_cell p2)]; exact p2
            have q3 : ∀ w', Ext W6 w' → w'.cell? ⟨g7, o7 + j * 2 + 1, none⟩ = some (.string (ea l j).v) := fun w' hx => by rw [hx.cell (p := ⟨g7, o7 + j * 2 + 1, none⟩) (block_lt_of_cell p3)]; exact p3
            have HW6 := Lib.hid hW6
            have HB6 := Lib.hid hb56
            have i1 : (0 : Int) ≤ (j : Int) := by omega
            have i2' : (j : Int) < (n : Int) := by omega
            have zj : IntKind.i64.wrap (j : Int) = (j : Int) := by rw [IntKind.wrap_i64]; omega
            by_cases hj0 : j = 0
            · subst hj0
              simp only [Nat.zero_mul, Nat.add_zero] at q0 q1 q2 q3
              have z00 : IntKind.i64.wrap 0 = 0 := by decide
              have hn0 : (0 : Int) < (n : Int) := by omega
              generalize ea l 0 = y at *
              obtain ⟨y0, y1⟩ := y
              dsimp only at q0 q1 q2 q3
              clear p0 p1 p2 p3 hc6 hc7 hst6 hbd hW6 hb56 hB
              go_wp2_with fail
              refine wp_region_gr [(0, true), (1, true), (2, true), (3, true), (4, true), (5, true), (6, true), (7, true), (8, true), (9, true), (10, true), (11, true), (12, true), (13, true), (14, true), (15, true), (16, true), (17, true), (18, true), (19, true), (20, true), (21, true), (22, true), (23, true), (24, true), (25, true), (26, true)] (by kernel_rfl) (by kernel_rfl) (by kernel_rfl) (by kernel_rfl) (fun _ _ _ _ _ h => h) ?_
              rw [HW6.out]
              iterate 27 (first | (refine wpGr_read (o := ⟨_, _, _, _, _, _⟩) (v := ?_) rfl (by rfl) ?_ ?_; rotate_left; (intro w' hw'; go_simp; with_reducible rfl); simp only [Act.put, List.setIfInBounds_toArray, List.set_cons_zero, List.set_cons_succ]) | (refine wpGr_skip (o := ⟨_, _, _, _, _, _⟩) rfl (by rfl) ?_; simp only [Act.put, List.setIfInBounds_toArray, List.set_cons_zero, List.set_cons_succ]))
              refine wpGr_done ?_
              clear q0 q1 q2 q3
              go_wp2_with fail
              go_roundw
              case rel => exact ⟨1, by go_num, by omega, HB6⟩
              case measure => simp [intOf]; omega
            · obtain ⟨r, hr⟩ : ∃ r, r = j - 1 := ⟨_, rfl⟩
              have zr : IntKind.i64.wrap ((j : Int) - 1) = (r : Int) := by rw [IntKind.wrap_i64]; omega
              have zr2 : IntKind.i64.wrap (r : Int) = (r : Int) := by rw [IntKind.wrap_i64]; omega
              have hr0 : (0 : Int) ≤ (r : Int) := by omega
              have hrn : (r : Int) < (n : Int) := by omega
              have hj1 : (0 : Int) < (j : Int) := by omega
              have hj2 : 0 < j := by omega
              have p4 := (hc6 r (by rw [Hn.out]; omega)).1
              have q4 : ∀ w', Ext W6 w' → w'.cell? ⟨g6, o6 + r * 2, none⟩ = some (.string (ea l r).k) := fun w' hx => by rw [hx.cell (p := ⟨g6, o6 + r * 2, none⟩) (block_lt_of_cell p4)]; exact p4
              have hsl := srt_at Hf.out.1 (i := r) (j := j) (by omega) (by rw [Hn.out]; exact hjn)
              have hcmp := bgt_eq (ea l j).k (ea l r).k
              have hgeq : (!Op.bytesLess (ea l r).k.toList (ea l j).k.toList) = false := by
                have h : Op.bytesLess (ea l r).k.toList (ea l j).k.toList = true := hsl
                rw [h]; rfl
              have hbl : Op.bytesLess (ea l r).k.toList (ea l j).k.toList = true := hsl
              generalize (ea l r).k = yr at *
              generalize ea l j = y at *
              obtain ⟨y0, y1⟩ := y
              dsimp only at q0 q1 q2 q3 hgeq hbl
              clear p0 p1 p2 p3 p4 hc6 hc7 hst6 hbd hW6 hb56 hB hr hsl hcmp
              go_wp2_with fail
              refine wp_region_gr [(0, true), (1, true), (2, true), (3, true), (4, true), (5, true), (6, true), (7, true), (8, true), (9, true), (10, true), (11, true), (12, true), (13, true), (14, true), (15, true), (16, true), (17, true), (18, true), (19, true), (20, true), (21, true), (22, true), (23, true), (24, true), (25, true), (26, true)] (by kernel_rfl) (by kernel_rfl) (by kernel_rfl) (by kernel_rfl) (fun _ _ _ _ _ h => h) ?_
              rw [HW6.out]
              iterate 27 (first | (refine wpGr_read (o := ⟨_, _, _, _, _, _⟩) (v := ?_) rfl (by rfl) ?_ ?_; rotate_left; (intro w' hw'; go_simp; with_reducible rfl); simp only [Act.put, List.setIfInBounds_toArray, List.set_cons_zero, List.set_cons_succ]) | (refine wpGr_skip (o := ⟨_, _, _, _, _, _⟩) rfl (by rfl) ?_; simp only [Act.put, List.setIfInBounds_toArray, List.set_cons_zero, List.set_cons_succ]))
              refine wpGr_done ?_
              clear q0 q1 q2 q3 q4
              go_wp2_with fail
              go_roundw
              case rel => exact ⟨j + 1, by go_num, by omega, HB6⟩
              case measure => simp [intOf]; omega
          · obtain rfl : j = n := by omega
            have hst6 := Hst5.out.ext hB.out
            have Hs := Lib.hid (sure_any wr (hst6.o.g0 hst6.o.b))
            have HB3 := Lib.hid hst6.o.b
            clear hst6
            go_wp2_with fail
            refine Hs.out.mono ?_
            rintro e w7 ⟨rfl, hb7⟩
            have HB4 := Lib.hid (HB3.out.trans (hb7.mono HB3.out.size))
            clear hb7 Hs
            go_wp2
            go_ret
            exact ⟨rfl, HB4.out⟩
      · have hIl : ¬ (i : Int) < (m : Int) := by omega
        clear hlt
        have c0' := hst.out.o.t5.c0
        have c1' := hst.out.o.t5.c1
        have Hall := Lib.hid (all_any p5 l H5 wr hst.out.t0 (by rw [Hn.out]; omega))
        rw [Hn.out] at c1' Hall
        go_wp2_with fail
        refine Hall.out.mono ?_
        rintro e w4 ⟨v, rfl, ⟨a4, c4, rfl, s4, _⟩, hb4⟩
        have hst4 := hst.out.ext hb4
        have e0 := hst4.o.t5.c0
        have e1 := hst4.o.t5.c1
        have Hh := Lib.hid (height_any p5 (n : Int) l H5 w4 hst4.t0 (by have := Hlow.out.1; omega))
        have Hst4 := Lib.hid hst4
        have HS4 := Lib.hid s4
        rw [Hn.out] at e1 ⊢
        clear hst4 hb4 s4 Hall c0' c1' hst
        go_wp2_with fail
        refine Hh.out.mono ?_
        rintro e w5 ⟨rfl, hb5⟩
        have hst5 := Hst4.out.ext hb5
        have Hst5 := Lib.hid hst5
        have HS5 := Lib.hid (HS4.out.below hb5 (Nat.le_refl _))
        have dh1 : decide (4 < (H5 : Int)) = false := decide_eq_false (by have := Hlow.out.1; omega)
        have dh2 : ((H5 : Int) == 0) = ((n : Int) == 0) := by
          have h := Hlow.out.2
          rw [Bool.eq_iff_iff, beq_iff_eq, beq_iff_eq]
          constructor
          · intro h1
            have h2 := h.1 (by omega)
            have := Hn.out
            rw [h2] at this; simp at this; omega
          · intro h1
            have h2 : l = [] := List.eq_nil_of_length_eq_zero (by rw [Hn.out]; omega)
            have := h.2 h2
            omega
        obtain ⟨D, hD⟩ : ∃ D, ((n : Int) == 0) = D := ⟨_, rfl⟩
        rw [hD] at dh2
        have hDD : (D != D) = false := by cases D <;> rfl
        clear hst5 hb5 Hst4 HS4 Hh e0 e1
        go_wp2_with fail
        go_loopw [23] (fun iv wr => ∃ j : Nat, iv = .int .i64 j ∧ j ≤ n ∧ Hid (Below w5.heap.size w5 wr)) (fun iv _ => n - (intOf iv).toNat)
        case atStart => exact ⟨0, rfl, by omega, Below.refl _ _⟩
        case round =>
          obtain ⟨j, rfl, hj, hB⟩ := hrel
          by_cases hjn : j < n
          · obtain ⟨W6, hW6⟩ : ∃ W, wr.drew = W := ⟨_, rfl⟩
            have hbd : Below wr.heap.size wr W6 := by rw [← hW6]; exact (Below.refl _ _).drew
            have hb56 := hB.out.trans (hbd.mono hB.out.size)
            obtain ⟨g6, o6, rfl, hc6⟩ := (HS5.out.below hb56 (Nat.le_refl _)).ents (by rw [Hn.out]; omega)
            have hst6 := Hst5.out.ext hb56
            obtain ⟨g7, o7, h7, hc7⟩ := hst6.o.ls_at (by rw [Hn.out]; omega)
            subst h7
            obtain ⟨p0, p1⟩ := hc6 j (by rw [Hn.out]; exact hjn)
            obtain ⟨p2, p3⟩ := hc7 j (by rw [Hn.out]; exact hjn)
            have q0 : ∀ w', Ext W6 w' → w'.cell? ⟨g6, o6 + j * 2, none⟩ = some (.string (ea l j).k) := fun w' hx => by rw [hx.cell (p := ⟨g6, o6 + j * 2, none⟩) (block_lt_of_cell p0)]; exact p0
            have q1 : ∀ w', Ext W6 w' → w'.cell? ⟨g6, o6 + j * 2 + 1, none⟩ = some (.string (ea l j).v) := fun w' hx => by rw [hx.cell (p := ⟨g6, o6 + j * 2 + 1, none⟩) (block_lt_of_cell p1)]; exact p1
            have q2 : ∀ w', Ext W6 w' → w'.cell? ⟨g7, o7 + j * 2, none⟩ = some (.string (ea l j).k) := fun w' hx => by rw [hx.cell (p := ⟨g7, o7 + j * 2, none⟩) (block_lt_of_cell p2)]; exact p2
            have q3 : ∀ w', Ext W6 w' → w'.cell? ⟨g7, o7 + j * 2 + 1, none⟩ = some (.string (ea l j).v) := fun w' hx => by rw [hx.cell (p := ⟨g7, o7 + j * 2 + 1, none⟩) (block_lt_of_cell p3)]; exact p3
            have HW6 := Lib.hid hW6
            have HB6 := Lib.hid hb56
            have i1 : (0 : Int) ≤ (j : Int) := by omega
            have i2' : (j : Int) < (n : Int) := by omega
            have zj : IntKind.i64.wrap (j : Int) = (j : Int) := by rw [IntKind.wrap_i64]; omega
            by_cases hj0 : j = 0
            · subst hj0
              simp only [Nat.zero_mul, Nat.add_zero] at q0 q1 q2 q3
              have z00 : IntKind.i64.wrap 0 = 0 := by decide
              have hn0 : (0 : Int) < (n : Int) := by omega
              generalize ea l 0 = y at *
              obtain ⟨y0, y1⟩ := y
              dsimp only at q0 q1 q2 q3
              clear p0 p1 p2 p3 hc6 hc7 hst6 hbd hW6 hb56 hB
              go_wp2_with fail
              refine wp_region_gr [(0, true), (1, true), (2, true), (3, true), (4, true), (5, true), (6, true), (7, true), (8, true), (9, true), (10, true), (11, true), (12, true), (13, true), (14, true), (15, true), (16, true), (17, true), (18, true), (19, true), (20, true), (21, true), (22, true), (23, true), (24, true), (25, true), (26, true)] (by kernel_rfl) (by kernel_rfl) (by kernel_rfl) (by kernel_rfl) (fun _ _ _ _ _ h => h) ?_
              rw [HW6.out]
              iterate 27 (first | (refine wpGr_read (o := ⟨_, _, _, _, _, _⟩) (v := ?_) rfl (by rfl) ?_ ?_; rotate_left; (intro w' hw'; go_simp; with_reducible rfl); simp only [Act.put, List.setIfInBounds_toArray, List.set_cons_zero, List.set_cons_succ]) | (refine wpGr_skip (o := ⟨_, _, _, _, _, _⟩) rfl (by rfl) ?_; simp only [Act.put, List.setIfInBounds_toArray, List.set_cons_zero, List.set_cons_succ]))
              refine wpGr_done ?_
              clear q0 q1 q2 q3
              go_wp2_with fail
              go_roundw
              case rel => exact ⟨1, by go_num, by omega, HB6⟩
              case measure => simp [intOf]; omega
            · obtain ⟨r, hr⟩ : ∃ r, r = j - 1 := ⟨_, rfl⟩
              have zr : IntKind.i64.wrap ((j : Int) - 1) = (r : Int) := by rw [IntKind.wrap_i64]; omega
              have zr2 : IntKind.i64.wrap (r : Int) = (r : Int) := by rw [IntKind.wrap_i64]; omega
              have hr0 : (0 : Int) ≤ (r : Int) := by omega
              have hrn : (r : Int) < (n : Int) := by omega
              have hj1 : (0 : Int) < (j : Int) := by omega
              have hj2 : 0 < j := by omega
              have p4 := (hc6 r (by rw [Hn.out]; omega)).1
              have q4 : ∀ w', Ext W6 w' → w'.cell? ⟨g6, o6 + r * 2, none⟩ = some (.string (ea l r).k) := fun w' hx => by rw [hx.cell (p := ⟨g6, o6 + r * 2, none⟩) (block_lt_of_cell p4)]; exact p4
              have hsl := srt_at Hf.out.1 (i := r) (j := j) (by omega) (by rw [Hn.out]; exact hjn)
              have hcmp := bgt_eq (ea l j).k (ea l r).k
              have hgeq : (!Op.bytesLess (ea l r).k.toList (ea l j).k.toList) = false := by
                have h : Op.bytesLess (ea l r).k.toList (ea l j).k.toList = true := hsl
                rw [h]; rfl
              have hbl : Op.bytesLess (ea l r).k.toList (ea l j).k.toList = true := hsl
              generalize (ea l r).k = yr at *
              generalize ea l j = y at *
              obtain ⟨y0, y1⟩ := y
              dsimp only at q0 q1 q2 q3 hgeq hbl
              clear p0 p1 p2 p3 p4 hc6 hc7 hst6 hbd hW6 hb56 hB hr hsl hcmp
              go_wp2_with fail
              refine wp_region_gr [(0, true), (1, true), (2, true), (3, true), (4, true), (5, true), (6, true), (7, true), (8, true), (9, true), (10, true), (11, true), (12, true), (13, true), (14, true), (15, true), (16, true), (17, true), (18, true), (19, true), (20, true), (21, true), (22, true), (23, true), (24, true), (25, true), (26, true)] (by kernel_rfl) (by kernel_rfl) (by kernel_rfl) (by kernel_rfl) (fun _ _ _ _ _ h => h) ?_
              rw [HW6.out]
              iterate 27 (first | (refine wpGr_read (o := ⟨_, _, _, _, _, _⟩) (v := ?_) rfl (by rfl) ?_ ?_; rotate_left; (intro w' hw'; go_simp; with_reducible rfl); simp only [Act.put, List.setIfInBounds_toArray, List.set_cons_zero, List.set_cons_succ]) | (refine wpGr_skip (o := ⟨_, _, _, _, _, _⟩) rfl (by rfl) ?_; simp only [Act.put, List.setIfInBounds_toArray, List.set_cons_zero, List.set_cons_succ]))
              refine wpGr_done ?_
              clear q0 q1 q2 q3 q4
              go_wp2_with fail
              go_roundw
              case rel => exact ⟨j + 1, by go_num, by omega, HB6⟩
              case measure => simp [intOf]; omega
          · obtain rfl : j = n := by omega
            have hst6 := Hst5.out.ext hB.out
            have Hs := Lib.hid (sure_any wr (hst6.o.g0 hst6.o.b))
            have HB3 := Lib.hid hst6.o.b
            clear hst6
            go_wp2_with fail
            refine Hs.out.mono ?_
            rintro e w7 ⟨rfl, hb7⟩
            have HB4 := Lib.hid (HB3.out.trans (hb7.mono HB3.out.size))
            clear hb7 Hs
            go_wp2
            go_ret
            exact ⟨rfl, HB4.out⟩
end Go.Proofs.YtpcndfdijjabkaaDoor
