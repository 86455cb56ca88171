/-
  The law TreeRuns.
-/
import Derived.Test.YtpcndfdijjabkaaDoorLawOrdZ
import Derived.Test.YtpcndfdijjabkaaDoorActsZ
import Derived.Test.YtpcndfdijjabkaaDoorRefDelZ
import Derived.Test.YtpcndfdijjabkaaDoorRefGet12Z
namespace Go.Proofs.YtpcndfdijjabkaaDoor
open Go Go.RowKit

/-- What stands between the acts: the list and the tree at hand, of the same entries. -/
structure Rn (w wr : World) (b5 : Nat) (es : List En) (lv : Value) (p : Option Addr) (H : Nat) : Prop where
  ls : EV entE wr lv es
  t5 : TB wr b5 p es.length
  tr : TreeP wr p es H
  b : Below w.heap.size w wr
  lo : w.heap.size ≤ b5
  g0 : ∀ {w'}, Below w.heap.size w w' → Hg w'
theorem Rn.ext {w wr w6 : World} {b5 : Nat} {es : List En} {lv : Value} {p : Option Addr} {H : Nat} (h : Rn w wr b5 es lv p H) (hb : Below wr.heap.size wr w6) : Rn w w6 b5 es lv p H :=
  ⟨h.ls.ext hb, h.t5.ext hb, h.tr.ext hb, h.b.trans (hb.mono h.b.size), h.lo, fun x => h.g0 x⟩
theorem Rn.next {w wr w6 : World} {b5 : Nat} {es es2 : List En} {lv u : Value} {p p2 : Option Addr} {H H2 : Nat} (h : Rn w wr b5 es lv p H) (hb : Below wr.heap.size wr w6) (hu : EV entE w6 u es2) (ht : TreeP w6 p2 es2 H2) :
    Rn w ((w6.setCell ⟨b5, 0, none⟩ (.pointer p2)).setCell ⟨b5, 1, none⟩ (.int .i64 es2.length)) b5 es2 u p2 H2 := by
  have h6 := h.ext hb
  have t := turn_put w6 b5 (.pointer p2) (.int .i64 es2.length)
  have hF : TF w6 (fun i => i = b5) := TF.one h6.t5
  exact ⟨hu.turn entE_str t hF, h6.t5.put p2 _, ht.turn t hF, below_put h6.b h.lo, h.lo, fun x => h.g0 x⟩
set_option maxHeartbeats 4000000 in
set_option maxRecDepth 100000 in
theorem runs_any (A S : Nat) (a : Option Addr) (m c : Nat) (acts : List Ac) (w : World) (hA : A < 65536) (hS : S < 65536) (hm : acts.length = m) (hs : AS w a acts) (hml : m ≤ 9223372036854775807) (hg : Hg w) :
    Calls Tryd.prog 3 #[.agg #[.int .u16 A, .int .u16 S], .slice a m c] w fun e w' => e = .returned (.bool true) ∧ Below w.heap.size w w' := by
  obtain ⟨W, hW, _, hb⟩ := alloc_own w 23 #[.int .u16 A, .int .u16 S]
  obtain ⟨N, hN⟩ : ∃ N, N = A % 200 := ⟨_, rfl⟩
  have eN : (A : Int).tmod 200 = (N : Int) := by rw [Int.tmod_eq_emod_of_nonneg (by omega)]; omega
  have hN9 : N ≤ 199 := by omega
  have Hgr := Lib.hid (grown_any N S W (by omega) (by omega) (hg.below hb))
  have HW := Lib.hid hW
  have HB := Lib.hid hb
  have Hg0 : Hid (∀ {w'}, Below w.heap.size w w' → Hg w') := fun x => hg.below x
  have Hact := Lib.hid (And.intro hm hs)
  clear hW hb hg hN hs hm
  go_enter Tryd.func3, Tryd.ntmps3
  go_wp2_with fail
  rw [HW.out]
  refine Hgr.out.mono ?_
  rintro e w1 ⟨p5, H5, l, lv0, rfl, ht5, hl, hln, hb1⟩
  replace ht5 := ht5.tp
  obtain ⟨W5, hW5, hT5, hb5⟩ := alloc_own w1 TT #[.pointer p5, .int .i64 l.length]
  have hb01 := HB.out.trans (hb1.mono HB.out.size)
  have hb05 := hb01.trans (hb5.mono hb01.size)
  have HRn : Hid (Rn w W5 w1.heap.size l lv0 p5 H5) := ⟨hl.ext hb5, hT5, ht5.ext hb5, hb05, hb01.size, fun x => Hg0.out x⟩
  have HW5 := Lib.hid hW5
  have Hln := Lib.hid hln
  obtain ⟨az, cz, rfl, _⟩ := hl
  clear hW5 hT5 hb5 hb01 hb05 ht5 hln hb1 HB Hgr HW
  go_wp2_with fail
  rw [HW5.out]
  go_loopw [6, 8, 9, 10, 11, 12, 13, 14, 15, 16, 17, 18, 19, 20, 21] (fun lv iv _ _ _ _ _ _ _ _ _ _ _ _ _ wr => ∃ (i : Nat) (es : List En) (v : Value) (p : Option Addr) (H : Nat), v = lv ∧ iv = .int .i64 i ∧ i ≤ m ∧ i ≤ 60 ∧ es.length ≤ 199 + i ∧ Hid (Rn w wr w1.heap.size es v p H)) (fun _ iv _ _ _ _ _ _ _ _ _ _ _ _ _ _ => 60 - (intOf iv).toNat)
  case atStart => exact ⟨0, l, _, p5, H5, rfl, rfl, by omega, by omega, by have := Hln.out; omega, HRn⟩
  case round =>
    obtain ⟨i, es, v, p, H, rfl, rfl, him, hi60, hel, hst⟩ := hrel
    by_cases hlt : i < m ∧ i < 60
    · obtain ⟨hl1, hl2⟩ := hlt
      have hIl : (i : Int) < (m : Int) := by omega
      obtain ⟨ga, oa, rfl, hacts⟩ := (Hact.out.2.below hst.out.b (Nat.le_refl _)) (by rw [Hact.out.1]; omega)
      obtain ⟨k0, k1, k2⟩ := hacts i (by rw [Hact.out.1]; exact hl1)
      have i1 : (0 : Int) ≤ (i : Int) := by omega
      have i2 : (i : Int) < 60 := by omega
      generalize aca acts i = y at *
      obtain ⟨kx, key, val⟩ := y
      dsimp only at k0 k1 k2
      obtain ⟨R, hR⟩ : ∃ R, kx.tmod 3 = R := ⟨_, rfl⟩
      -- the act's own block
      obtain ⟨W1, hW1, hA1, hbW1⟩ := alloc_own wr ACT #[.int .i64 kx, .string key, .string val]
      have HW1 := Lib.hid hW1
      have hst1 := hst.out.ext hbW1
      have HA1 := Lib.hid hA1
      have Hst1 := Lib.hid hst1
      have e0 : (wr.alloc (.cells #[.int .i64 kx, .string key, .string val] ACT)).cell? ⟨w1.heap.size, 0, none⟩ = some (.pointer p) := by rw [hW1]; exact hst1.t5.c0
      have e1 : (wr.alloc (.cells #[.int .i64 kx, .string key, .string val] ACT)).cell? ⟨w1.heap.size, 1, none⟩ = some (.int .i64 es.length) := by rw [hW1]; exact hst1.t5.c1
      have Hskip : Hid (Rn w (wr.alloc (.cells #[.int .i64 kx, .string key, .string val] ACT)) w1.heap.size es v p H) := by show Rn _ _ _ _ _ _ _; rw [hW1]; exact hst1
      clear hacts hW1 hA1 hbW1 hst1
      by_cases g2 : 100 < key.size
      · have d2 : decide (100 < (key.size : Int)) = true := decide_eq_true (by omega)
        clear g2 e0 e1 HW1 HA1 Hst1 hR
        go_wp2_with fail
        go_roundw
        case rel => exact ⟨i + 1, es, v, p, H, rfl, by go_num, by omega, by omega, by omega, Hskip⟩
        case measure => simp [intOf]; omega
      have d2 : decide (100 < (key.size : Int)) = false := decide_eq_false (by omega)
      by_cases g3 : 3000 < val.size
      · have d3 : decide (3000 < (val.size : Int)) = true := decide_eq_true (by omega)
        clear g2 g3 e0 e1 HW1 HA1 Hst1 hR
        go_wp2_with fail
        go_roundw
        case rel => exact ⟨i + 1, es, v, p, H, rfl, by go_num, by omega, by omega, by omega, Hskip⟩
        case measure => simp [intOf]; omega
      have d3 : decide (3000 < (val.size : Int)) = false := decide_eq_false (by omega)
      clear g2 g3
      obtain ⟨a0, cz0, hv, hsv, hzv, hcv, hmv⟩ := hst.out.ls
      have HS := Lib.hid (And.intro hsv (And.intro hzv (And.intro hcv hmv)))
      subst hv
      clear hsv hzv hcv hmv Hskip
      by_cases hput : R = 0
      · have dR : (R == 0) = true := by rw [beq_iff_eq]; exact hput
        by_cases hF0 : tpF es key val = 0
        · clear hput
          have HS1 : Hid (ES entE W1 a0 es) := by
            obtain ⟨a9, c9, e9, h9, _⟩ := Hst1.out.ls
            cases e9; exact h9
          have hcall := put_all p es H key val W1 Hst1.out.tr (by omega)
          have hlen := tpL_len es key val
          obtain ⟨es2, hes2⟩ : ∃ es2, tpL es key val = es2 := ⟨_, rfl⟩
          obtain ⟨F, hF⟩ : ∃ F, tpF es key val = F := ⟨_, rfl⟩
          have Href : Hid (∀ w4 : World, ES entE w4 a0 es → Calls Tryd.prog 9 #[.slice a0 es.length cz0, .string key, .string val] w4 fun e w' => ∃ u, e = .returned (.tuple #[u, .int .i64 (F : Nat)]) ∧ EV entE w' u es2 ∧ Below w4.heap.size w4 w') := fun w4 h1 => by
            have := refPut_all a0 es.length cz0 es key val w4 rfl h1 (by omega) HS.out.2.1 HS.out.2.2.1 HS.out.2.2.2
            rw [hF, hes2] at this; exact this
          rw [hF, hes2] at hcall
          rw [hF] at hF0
          rw [hes2] at hlen
          subst hF0
          rw [show errC ((0 : Nat) : Int) = .nilIface from rfl] at hcall
          have Hnum : Hid (∀ w5 : World, Hg w5 → Calls Tryd.prog 10 #[.nilIface] w5 fun e' w' => e' = .returned (.int .i64 0) ∧ Below w5.heap.size w5 w') := fun w5 h => num_any _ _ w5 (.inl ⟨rfl, rfl⟩) h
          have Hcall := Lib.hid hcall
          have dLL : ((es2.length : Int) != (es2.length : Int)) = false := by simp
          have dL1 : ((es.length : Int) != (es.length : Int)) = false := by simp
          have hN8 : es2.length ≤ 199 + (i + 1) := by omega
          clear hcall hlen HS hF hes2
          go_wp2_with fail
          rw [HW1.out]
          refine Hcall.out.mono ?_
          rintro e w4 ⟨p2, H2, rfl, ht2, hb4⟩
          obtain ⟨W4, hW4, hT4, hbW4⟩ := alloc_own w4 TT #[.pointer p2, .int .i64 (es2.length : Int)]
          have HW4 := Lib.hid hW4
          have hb14 := hb4.trans (hbW4.mono hb4.size)
          have HT4 : Hid (TB W4 w4.heap.size p2 (es2.length : Int)) := hT4
          have HA4 : Hid (W4.heap[wr.heap.size]? = some (.cells #[.int .i64 kx, .string key, .string val] ACT (0, 0))) := (hb14.block _ (Array.getElem?_eq_some_iff.1 HA1.out).1).trans HA1.out
          have Ht4 := Lib.hid (ht2.ext hbW4)
          have Hb14 := Lib.hid hb14
          have hst4 := Hst1.out.ext hb14
          have Hdoc := Lib.hid (Href.out W4 (HS1.out.below hb14 (Nat.le_refl _)))
          have x1' : (w4.alloc (.cells #[.pointer p2, .int .i64 (es2.length : Int)] TT)).cell? ⟨wr.heap.size, 1, none⟩ = some (.string key) := by
            rw [hW4]
            have h := HA4.out
            simp [World.cell?, h]
          have x2' : (w4.alloc (.cells #[.pointer p2, .int .i64 (es2.length : Int)] TT)).cell? ⟨wr.heap.size, 2, none⟩ = some (.string val) := by
            rw [hW4]
            have h := HA4.out
            simp [World.cell?, h]
          clear hW4 hT4 hbW4 hb14 hb4 ht2 Hcall e0 e1 hst4 Href HS1 HW1 HA1
          go_wp2_with fail
          rw [HW4.out]
          refine Hdoc.out.mono ?_
          rintro e w5 ⟨u, rfl, hev, hb5⟩
          have hst5 := (Hst1.out.ext Hb14.out).ext hb5
          have Hn5 := Lib.hid (Hnum.out w5 (hst5.g0 hst5.b))
          have Hev5 := Lib.hid hev
          have Hb5 := Lib.hid hb5
          clear hst5 hev hb5 Hdoc Hnum x1' x2' HW4 HA4
          go_wp2_with fail
          refine Hn5.out.mono ?_
          rintro e w6 ⟨rfl, hb6⟩
          have hb56 := Hb5.out.trans (hb6.mono Hb5.out.size)
          have hstX := (Hst1.out.ext Hb14.out).ext hb56
          have d0 := hstX.t5.c0
          have d1' := hstX.t5.c1
          have hTX := HT4.out.ext hb56
          have c0' := hTX.c0
          have c1' := hTX.c1
          have f0 := hstX.t5.fz 0
          have f1 := hstX.t5.fz 1
          have hev6 := Hev5.out.ext hb6
          have Hfin := Lib.hid (Hst1.out.next (Hb14.out.trans (hb56.mono Hb14.out.size)) hev6 (Ht4.out.ext hb56))
          obtain ⟨au, cu, rfl, _⟩ := hev6
          clear hstX hTX hb56 hb6 Hn5 Hb5 Hev5 Hb14 Ht4 HT4 Hst1
          go_wp2_with fail
          refine (len_any p2 (es2.length : Int) _).mono ?_
          rintro e w8 ⟨rfl, hb8⟩
          have Hfin8 := Lib.hid (Hfin.out.ext hb8)
          clear hb8 Hfin
          go_wp2_with fail
          go_roundw
          case rel => exact ⟨i + 1, es2, _, p2, H2, rfl, by go_num, by omega, by omega, by omega, Hfin8⟩
          case measure => simp [intOf]; omega
        · clear hput
          have HS1 : Hid (ES entE W1 a0 es) := by
            obtain ⟨a9, c9, e9, h9, _⟩ := Hst1.out.ls
            cases e9; exact h9
          have hcall := put_all p es H key val W1 Hst1.out.tr (by omega)
          have hlen := tpL_len es key val
          obtain ⟨es2, hes2⟩ : ∃ es2, tpL es key val = es2 := ⟨_, rfl⟩
          obtain ⟨F, hF⟩ : ∃ F, tpF es key val = F := ⟨_, rfl⟩
          have Href : Hid (∀ w4 : World, ES entE w4 a0 es → Calls Tryd.prog 9 #[.slice a0 es.length cz0, .string key, .string val] w4 fun e w' => ∃ u, e = .returned (.tuple #[u, .int .i64 (F : Nat)]) ∧ EV entE w' u es2 ∧ Below w4.heap.size w4 w') := fun w4 h1 => by
            have := refPut_all a0 es.length cz0 es key val w4 rfl h1 (by omega) HS.out.2.1 HS.out.2.2.1 HS.out.2.2.2
            rw [hF, hes2] at this; exact this
          rw [hF, hes2] at hcall
          rw [hF] at hF0
          rw [hes2] at hlen
          have hFi : ¬ ((F : Nat) : Int) = 0 := by omega
          rw [show errC ((F : Nat) : Int) = .iface 62 (.int .i64 ((F : Nat) : Int)) from if_neg hFi] at hcall
          have Hnum : Hid (∀ w5 : World, Hg w5 → Calls Tryd.prog 10 #[.iface 62 (.int .i64 ((F : Nat) : Int))] w5 fun e' w' => e' = .returned (.int .i64 ((F : Nat) : Int)) ∧ Below w5.heap.size w5 w') := fun w5 h => num_any _ _ w5 (.inr rfl) h
          have dFF : ((F : Int) != (F : Int)) = false := by simp
          clear hFi
          have Hcall := Lib.hid hcall
          have dLL : ((es2.length : Int) != (es2.length : Int)) = false := by simp
          have dL1 : ((es.length : Int) != (es.length : Int)) = false := by simp
          have hN8 : es2.length ≤ 199 + (i + 1) := by omega
          clear hcall hlen HS hF hes2
          go_wp2_with fail
          rw [HW1.out]
          refine Hcall.out.mono ?_
          rintro e w4 ⟨p2, H2, rfl, ht2, hb4⟩
          obtain ⟨W4, hW4, hT4, hbW4⟩ := alloc_own w4 TT #[.pointer p2, .int .i64 (es2.length : Int)]
          have HW4 := Lib.hid hW4
          have hb14 := hb4.trans (hbW4.mono hb4.size)
          have HT4 : Hid (TB W4 w4.heap.size p2 (es2.length : Int)) := hT4
          have HA4 : Hid (W4.heap[wr.heap.size]? = some (.cells #[.int .i64 kx, .string key, .string val] ACT (0, 0))) := (hb14.block _ (Array.getElem?_eq_some_iff.1 HA1.out).1).trans HA1.out
          have Ht4 := Lib.hid (ht2.ext hbW4)
          have Hb14 := Lib.hid hb14
          have hst4 := Hst1.out.ext hb14
          have Hdoc := Lib.hid (Href.out W4 (HS1.out.below hb14 (Nat.le_refl _)))
          have x1' : (w4.alloc (.cells #[.pointer p2, .int .i64 (es2.length : Int)] TT)).cell? ⟨wr.heap.size, 1, none⟩ = some (.string key) := by
            rw [hW4]
            have h := HA4.out
            simp [World.cell?, h]
          have x2' : (w4.alloc (.cells #[.pointer p2, .int .i64 (es2.length : Int)] TT)).cell? ⟨wr.heap.size, 2, none⟩ = some (.string val) := by
            rw [hW4]
            have h := HA4.out
            simp [World.cell?, h]
          clear hW4 hT4 hbW4 hb14 hb4 ht2 Hcall e0 e1 hst4 Href HS1 HW1 HA1
          go_wp2_with fail
          rw [HW4.out]
          refine Hdoc.out.mono ?_
          rintro e w5 ⟨u, rfl, hev, hb5⟩
          have hst5 := (Hst1.out.ext Hb14.out).ext hb5
          have Hn5 := Lib.hid (Hnum.out w5 (hst5.g0 hst5.b))
          have Hev5 := Lib.hid hev
          have Hb5 := Lib.hid hb5
          clear hst5 hev hb5 Hdoc Hnum x1' x2' HW4 HA4
          go_wp2_with fail
          refine Hn5.out.mono ?_
          rintro e w6 ⟨rfl, hb6⟩
          have hb56 := Hb5.out.trans (hb6.mono Hb5.out.size)
          have hstX := (Hst1.out.ext Hb14.out).ext hb56
          have d0 := hstX.t5.c0
          have d1' := hstX.t5.c1
          have Hfin := Lib.hid hstX
          clear hstX hb56 hb6 Hn5 Hb5 Hev5 Hb14 Ht4 HT4 Hst1
          go_wp2_with fail
          refine (len_any p (es.length : Int) _).mono ?_
          rintro e w8 ⟨rfl, hb8⟩
          have Hfin8 := Lib.hid (Hfin.out.ext hb8)
          clear hb8 Hfin
          go_wp2_with fail
          go_roundw
          case rel => exact ⟨i + 1, es, _, p, H, rfl, by go_num, by omega, by omega, by omega, Hfin8⟩
          case measure => simp [intOf]; omega
      · have dR : (R == 0) = false := by rw [beq_eq_false_iff_ne]; exact hput
        by_cases hdel : R = 1
        · have dR1 : (R == 1) = true := by rw [beq_iff_eq]; exact hdel
          clear hdel hput
          have HS1 : Hid (ES entE W1 a0 es) := by
            obtain ⟨a9, c9, e9, h9, _⟩ := Hst1.out.ls
            cases e9; exact h9
          have hcall := delete_all p es H key W1 Hst1.out.tr (by omega)
          have hlen := tdL_len es key
          obtain ⟨es2, hes2⟩ : ∃ es2, tdL es key = es2 := ⟨_, rfl⟩
          obtain ⟨B, hB⟩ : ∃ B, isE es key = B := ⟨_, rfl⟩
          have Href : Hid (∀ w4 : World, ES entE w4 a0 es → Calls Tryd.prog 12 #[.slice a0 es.length cz0, .string key] w4 fun e w' => ∃ u, e = .returned (.tuple #[u, .bool B]) ∧ EV entE w' u es2 ∧ Below w4.heap.size w4 w') := fun w4 h1 => by
            have := refDelete_all a0 es.length cz0 es key w4 rfl h1 (by omega) HS.out.2.1 HS.out.2.2.1 HS.out.2.2.2
            rw [hB, hes2] at this; exact this
          rw [hB, hes2] at hcall
          rw [hes2] at hlen
          have Hcall := Lib.hid hcall
          have dBB : (B != B) = false := by cases B <;> rfl
          have dLL : ((es2.length : Int) != (es2.length : Int)) = false := by simp
          have hN8 : es2.length ≤ 199 + (i + 1) := by omega
          clear hcall hlen HS hB hes2
          go_wp2_with fail
          rw [HW1.out]
          refine Hcall.out.mono ?_
          rintro e w4 ⟨p2, H2, rfl, ht2, hb4⟩
          obtain ⟨W4, hW4, hT4, hbW4⟩ := alloc_own w4 TT #[.pointer p2, .int .i64 (es2.length : Int)]
          have HW4 := Lib.hid hW4
          have hb14 := hb4.trans (hbW4.mono hb4.size)
          have HT4 : Hid (TB W4 w4.heap.size p2 (es2.length : Int)) := hT4
          have HA4 : Hid (W4.heap[wr.heap.size]? = some (.cells #[.int .i64 kx, .string key, .string val] ACT (0, 0))) := (hb14.block _ (Array.getElem?_eq_some_iff.1 HA1.out).1).trans HA1.out
          have Ht4 := Lib.hid (ht2.ext hbW4)
          have Hb14 := Lib.hid hb14
          have hst4 := Hst1.out.ext hb14
          have Hdoc := Lib.hid (Href.out W4 (HS1.out.below hb14 (Nat.le_refl _)))
          have x1' : (w4.alloc (.cells #[.pointer p2, .int .i64 (es2.length : Int)] TT)).cell? ⟨wr.heap.size, 1, none⟩ = some (.string key) := by
            rw [hW4]
            have h := HA4.out
            simp [World.cell?, h]
          clear hW4 hT4 hbW4 hb14 hb4 ht2 Hcall e0 e1 hst4 Href HS1 HW1 HA1
          go_wp2_with fail
          rw [HW4.out]
          refine Hdoc.out.mono ?_
          rintro e w5 ⟨u, rfl, hev, hb5⟩
          have hstX := (Hst1.out.ext Hb14.out).ext hb5
          have d0 := hstX.t5.c0
          have d1' := hstX.t5.c1
          have hTX := HT4.out.ext hb5
          have c0' := hTX.c0
          have c1' := hTX.c1
          have f0 := hstX.t5.fz 0
          have f1 := hstX.t5.fz 1
          have Hfin := Lib.hid (Hst1.out.next (Hb14.out.trans (hb5.mono Hb14.out.size)) hev (Ht4.out.ext hb5))
          obtain ⟨au, cu, rfl, _⟩ := hev
          clear hstX hTX hb5 Hdoc x1' HW4 HA4 Hb14 Ht4 HT4 Hst1
          go_wp2_with fail
          refine (len_any p2 (es2.length : Int) _).mono ?_
          rintro e w8 ⟨rfl, hb8⟩
          have Hfin8 := Lib.hid (Hfin.out.ext hb8)
          clear hb8 Hfin
          go_wp2_with fail
          go_roundw
          case rel => exact ⟨i + 1, es2, _, p2, H2, rfl, by go_num, by omega, by omega, by omega, Hfin8⟩
          case measure => simp [intOf]; omega
        · have dR1 : (R == 1) = false := by rw [beq_eq_false_iff_ne]; exact hdel
          clear hdel hput
          have Hget := Lib.hid (get_any p (es.length : Int) es H key W1 Hst1.out.tr)
          have hrg : ∀ w4 : World, Below W1.heap.size W1 w4 → Calls Tryd.prog 14 #[.slice a0 es.length cz0, .string key] w4 fun e w' => e = .returned (.tuple #[.string (getE es key), .bool (isE es key)]) ∧ Below w4.heap.size w4 w' := fun w4 hb => by
            obtain ⟨a9, c9, e9, h9, _⟩ := (Hst1.out.ext hb).ls
            cases e9
            exact refGet_any a0 es.length cz0 es key w4 rfl h9 (by omega)
          obtain ⟨gv, hgv⟩ : ∃ gv, getE es key = gv := ⟨_, rfl⟩
          obtain ⟨B, hB⟩ : ∃ B, isE es key = B := ⟨_, rfl⟩
          rw [hgv, hB] at Hget
          simp only [hgv, hB] at hrg
          have Hrg := Lib.hid hrg
          have dBB : (B != B) = false := by cases B <;> rfl
          have dGG : (gv.toList != gv.toList) = false := by simp
          have dL1 : ((es.length : Int) != (es.length : Int)) = false := by simp
          clear hrg hgv hB
          go_wp2_with fail
          rw [HW1.out]
          refine Hget.out.mono ?_
          rintro e w4 ⟨rfl, hb4⟩
          have x1 : w4.cell? ⟨wr.heap.size, 1, none⟩ = some (.string key) := by
            have h := (hb4.block _ (Array.getElem?_eq_some_iff.1 HA1.out).1).trans HA1.out
            simp [World.cell?, h]
          have Hr4 := Lib.hid (Hrg.out w4 hb4)
          have Hb4 := Lib.hid hb4
          clear hb4 Hrg Hget e0 e1 HW1 HA1
          go_wp2_with fail
          refine Hr4.out.mono ?_
          rintro e w5 ⟨rfl, hb5⟩
          have hstX := (Hst1.out.ext Hb4.out).ext hb5
          have d0 := hstX.t5.c0
          have d1' := hstX.t5.c1
          have Hfin := Lib.hid hstX
          clear hstX hb5 Hr4 Hb4 Hst1 x1
          go_wp2_with fail
          refine (len_any p (es.length : Int) _).mono ?_
          rintro e w8 ⟨rfl, hb8⟩
          have Hfin8 := Lib.hid (Hfin.out.ext hb8)
          clear hb8 Hfin
          go_wp2_with fail
          go_roundw
          case rel => exact ⟨i + 1, es, _, p, H, rfl, by go_num, by omega, by omega, by omega, Hfin8⟩
          case measure => simp [intOf]; omega
    · rcases Nat.lt_or_ge i m with hl1 | hl1
      · have hIl : (i : Int) < (m : Int) := by omega
        have i2 : ¬ (i : Int) < 60 := by omega
        clear hlt
        have c0' := hst.out.t5.c0
        have c1' := hst.out.t5.c1
        have Hall := Lib.hid (all_any p es H wr hst.out.tr (by omega))
        have HLs := Lib.hid hst.out.ls
        obtain ⟨a0, cz0, rfl, _⟩ := hst.out.ls
        go_wp2_with fail
        refine Hall.out.mono ?_
        rintro e w4 ⟨v4, rfl, ⟨a4, c4, rfl, s4, _⟩, hb4⟩
        obtain ⟨a9, c9, e9, h9, _⟩ := HLs.out.ext hb4
        cases e9
        have Ha := Lib.hid (are_yes a4 a0 es.length c4 cz0 es w4 rfl s4 h9 (by omega))
        have Hst4 := Lib.hid (hst.out.ext hb4)
        clear hb4 s4 h9 Hall c0' c1' hst HLs
        go_wp2_with fail
        refine Ha.out.mono ?_
        rintro e w5 ⟨rfl, hb5⟩
        have hst5 := Hst4.out.ext hb5
        have Hs := Lib.hid (sure_any w5 (hst5.g0 hst5.b))
        have HB3 := Lib.hid hst5.b
        clear hst5 hb5 Hst4 Ha
        go_wp2_with fail
        refine Hs.out.mono ?_
        rintro e w7 ⟨rfl, hb7⟩
        have HB4 := Lib.hid (HB3.out.trans (hb7.mono HB3.out.size))
        clear hb7 Hs
        go_wp2
        go_ret
        exact ⟨rfl, HB4.out⟩
      · have hIl : ¬ (i : Int) < (m : Int) := by omega
        clear hlt
        have c0' := hst.out.t5.c0
        have c1' := hst.out.t5.c1
        have Hall := Lib.hid (all_any p es H wr hst.out.tr (by omega))
        have HLs := Lib.hid hst.out.ls
        obtain ⟨a0, cz0, rfl, _⟩ := hst.out.ls
        go_wp2_with fail
        refine Hall.out.mono ?_
        rintro e w4 ⟨v4, rfl, ⟨a4, c4, rfl, s4, _⟩, hb4⟩
        obtain ⟨a9, c9, e9, h9, _⟩ := HLs.out.ext hb4
        cases e9
        have Ha := Lib.hid (are_yes a4 a0 es.length c4 cz0 es w4 rfl s4 h9 (by omega))
        have Hst4 := Lib.hid (hst.out.ext hb4)
        clear hb4 s4 h9 Hall c0' c1' hst HLs
        go_wp2_with fail
        refine Ha.out.mono ?_
        rintro e w5 ⟨rfl, hb5⟩
        have hst5 := Hst4.out.ext hb5
        have Hs := Lib.hid (sure_any w5 (hst5.g0 hst5.b))
        have HB3 := Lib.hid hst5.b
        clear hst5 hb5 Hst4 Ha
        go_wp2_with fail
        refine Hs.out.mono ?_
        rintro e w7 ⟨rfl, hb7⟩
        have HB4 := Lib.hid (HB3.out.trans (hb7.mono HB3.out.size))
        clear hb7 Hs
        go_wp2
        go_ret
        exact ⟨rfl, HB4.out⟩
end Go.Proofs.YtpcndfdijjabkaaDoor
