/-
  ShapeTells.
-/
import Derived.Test.YtbgkjniagedcnaaGreatDoorSure15Z
import Derived.Test.YtbgkjniagedcnaaGreatDoorGrownZ
import Derived.Test.YtbgkjniagedcnaaGreatDoorRefShapeZ
namespace Go.Proofs.YtbgkjniagedcnaaGreatDoor
open Go Go.RowKit

abbrev ARR : TypeId := 23
set_option maxHeartbeats 8000000 in
set_option maxRecDepth 100000 in
theorem shTells_any (n0 m0 : Nat) (a1 : Option Addr) (m c1 : Nat) (l : List En) (w : World) (h1 : n0 < 65536) (h2 : m0 < 65536) (hm : l.length = m) (hl1 : 0 < m → ES entA w a1 l) (hm9 : m ≤ 9223372036854775807) (hg : Hg w) :
    Calls Tryz.prog 3 #[.agg #[.int .u16 n0, .int .u16 m0], .slice a1 m c1] w fun e w' => e = .returned (.bool true) ∧ Below w.heap.size w w' := by
  have Hg0 : Hid (∀ {w'}, Below w.heap.size w w' → Hg w') := fun h => hg.below h
  obtain ⟨W0, hW0, k1, hb0⟩ := alloc_own w ARR #[.int .u16 n0, .int .u16 m0]
  obtain ⟨N0, hN0⟩ : ∃ N0, n0 % 160 = N0 := ⟨_, rfl⟩
  have eN : (n0 : Int).tmod 160 = (N0 : Int) := by rw [Int.tmod_eq_emod_of_nonneg (by omega)]; omega
  have wN : IntKind.i64.wrap (N0 : Int) = (N0 : Int) := by rw [IntKind.wrap_i64]; omega
  have wM : IntKind.i64.wrap (m0 : Int) = (m0 : Int) := by rw [IntKind.wrap_i64]; omega
  have Hgr := Lib.hid (grown_any N0 m0 W0 (by omega) (by omega) (Hg0.out hb0))
  have HN9 : Hid (N0 ≤ 200) := by show _ ≤ _; omega
  have HB0 := Lib.hid hb0
  have HW0 := Lib.hid hW0
  have Hsu := Lib.hid (fun x (hx : Below w.heap.size w x) => sure_any x (Hg0.out hx))
  have HL1 := Lib.hid hl1
  have HM := Lib.hid hm
  clear hW0 k1 hb0 hN0 hg hl1 hm
  go_enter Tryz.func3, Tryz.ntmps3
  go_wp2_with fail
  rw [HW0.out]
  refine Hgr.out.mono ?_
  rintro e w1 ⟨p, H, es, lv, rfl, ht, hl, hlen, hb1⟩
  replace ht := ht.tp
  have hl9 : es.length ≤ 4096 := by have := HN9.out; omega
  obtain ⟨n, hn⟩ : ∃ n, es.length = n := ⟨_, rfl⟩
  obtain ⟨W1, hW1, hT1, hbW1⟩ : ∃ W, w1.alloc (.cells #[.pointer p, .int .i64 (n : Int)] TT) = W ∧ TB W w1.heap.size p (n : Int) ∧ Below w1.heap.size w1 W := ⟨_, rfl, heap_new w1 TT _, (Below.refl _ _).alloc (Nat.le_refl _) _⟩
  obtain ⟨bt, hbt⟩ : ∃ bt, w1.heap.size = bt := ⟨_, rfl⟩
  rw [hbt] at hT1
  have hb01 := HB0.out.trans (hb1.mono HB0.out.size)
  have HB1 := Lib.hid (hb01.trans (hbW1.mono hb01.size))
  have HTr1 := Lib.hid (ht.ext hbW1)
  have HT1 := Lib.hid hT1
  have HW1 := Lib.hid hW1
  have HN := Lib.hid hn
  have Hl9 := Lib.hid hl9
  obtain ⟨al, cl, rfl, hsl, _⟩ := hl
  have HSl := Lib.hid (hsl.below hbW1 (Nat.le_refl _)).loose
  rw [hn]
  clear hW1 hT1 hbW1 hb01 hb1 ht hlen Hgr HB0 HW0 hl9 hsl hn
  by_cases hm2 : 200 < m
  · have d1 : decide (200 < (m : Int)) = true := decide_eq_true (by omega)
    have d1' : decide (200 < m) = true := decide_eq_true hm2
    have Hsu1 := Lib.hid (Hsu.out W1 HB1.out)
    clear hm2
    go_wp2_with fail
    rw [HW1.out]
    refine Hsu1.out.mono ?_
    rintro e w2 ⟨rfl, hb2⟩
    have HB2 := Lib.hid (HB1.out.trans (hb2.mono HB1.out.size))
    clear hb2 Hsu1
    go_wp2
    go_ret
    exact ⟨rfl, HB2.out⟩
  have d1 : decide (200 < (m : Int)) = false := decide_eq_false (by omega)
  have d1' : decide (200 < m) = false := decide_eq_false hm2
  have Hm2 : Hid (m ≤ 200) := by show _ ≤ _; omega
  clear hm2
  go_wp2_with fail
  rw [HW1.out]
  go_loopw [8, 9] (fun u i wr => ∃ (j : Nat) (v : Value), v = u ∧ i = .int .i64 j ∧ j ≤ m ∧ Hid (wr.ownsRow W1.heap.size ET entE.sz v j (entE.row (l.take j))) ∧ Hid (∀ x ∈ l.take j, x.k.size ≤ 1000000 ∧ x.v.size ≤ 1000000) ∧ Hid (Below W1.heap.size W1 wr)) (fun _ i _ => m - (intOf i).toNat)
  case atStart => exact ⟨0, nilS, rfl, rfl, by omega, World.ownsRow_nil _ _ _ _, (fun x hx => by simp at hx), Below.refl _ _⟩
  case round =>
    obtain ⟨j, v, rfl, rfl, hj, hown, hsz, hB⟩ := hrel
    have HBr := Lib.hid (HB1.out.trans (hB.out.mono HB1.out.size))
    by_cases hlt : j < m
    · obtain ⟨g, o, rfl, hcell⟩ := ((HL1.out (by omega)).below HBr.out (Nat.le_refl _)).entsA (by rw [HM.out]; omega)
      obtain ⟨p0, p1⟩ := hcell j (by rw [HM.out]; exact hlt)
      have htk := ea_take l j (by rw [HM.out]; exact hlt)
      by_cases k1 : 100 < (ea l j).k.size
      · have d2 : decide (100 < ((ea l j).k.size : Int)) = true := decide_eq_true (by omega)
        have d2' : decide (100 < (ea l j).k.size) = true := decide_eq_true k1
        have Hsu2 := Lib.hid (Hsu.out wr HBr.out)
        generalize ea l j = y at *
        obtain ⟨yk, yv⟩ := y
        dsimp only at p0 p1 d2 d2'
        clear hcell htk hown hsz hB k1
        go_wp2_with fail
        refine Hsu2.out.mono ?_
        rintro e w2 ⟨rfl, hb2⟩
        have HB2 := Lib.hid (HBr.out.trans (hb2.mono HBr.out.size))
        clear hb2 Hsu2 p0 p1
        go_wp2
        go_ret
        exact ⟨rfl, HB2.out⟩
      have d2 : decide (100 < ((ea l j).k.size : Int)) = false := decide_eq_false (by omega)
      have d2' : decide (100 < (ea l j).k.size) = false := decide_eq_false k1
      by_cases k2 : 3000 < (ea l j).v.size
      · have d3 : decide (3000 < ((ea l j).v.size : Int)) = true := decide_eq_true (by omega)
        have d3' : decide (3000 < (ea l j).v.size) = true := decide_eq_true k2
        have Hsu2 := Lib.hid (Hsu.out wr HBr.out)
        generalize ea l j = y at *
        obtain ⟨yk, yv⟩ := y
        dsimp only at p0 p1 d2 d2' d3 d3'
        clear hcell htk hown hsz hB k1 k2
        go_wp2_with fail
        refine Hsu2.out.mono ?_
        rintro e w2 ⟨rfl, hb2⟩
        have HB2 := Lib.hid (HBr.out.trans (hb2.mono HBr.out.size))
        clear hb2 Hsu2 p0 p1
        go_wp2
        go_ret
        exact ⟨rfl, HB2.out⟩
      have d3 : decide (3000 < ((ea l j).v.size : Int)) = false := decide_eq_false (by omega)
      have d3' : decide (3000 < (ea l j).v.size) = false := decide_eq_false k2
      have hlit : ES entE (wr.alloc (.cells #[.string (ea l j).k, .string (ea l j).v] ET)) (some ⟨wr.heap.size, 0, none⟩) [ea l j] := ES.lit (heap_new wr ET #[.string (ea l j).k, .string (ea l j).v])
      have hsz1 := hB.out.size
      have hlj : (l.take j).length = j := by rw [List.length_take, HM.out]; omega
      obtain ⟨v1, w2, hrun, hb2, ho2⟩ := run_app_own (P := Tryz.prog) (w := wr.alloc (.cells #[.string (ea l j).k, .string (ea l j).v] ET)) (E := entE) W1.heap.size 31 31 ET Tryz.underlying31 infoE v j (l.take j) (hown.out.alloc _) (by simp; omega) (some ⟨wr.heap.size, 0, none⟩) 1 1 [ea l j] rfl (fun h => by cases h) hlit (by have := Hm2.out; unfold maxLen; omega) (by have := Hm2.out; show _ * 32 ≤ _; omega)
      rw [← htk] at ho2
      have Ho2 := Lib.hid ho2
      have HB2 := Lib.hid ((hB.out.alloc hsz1 _).trans hb2)
      have Hsz2 : Hid (∀ x ∈ l.take (j + 1), x.k.size ≤ 1000000 ∧ x.v.size ≤ 1000000) := fun x hx => by
        rw [htk, List.mem_append] at hx
        rcases hx with hx | hx
        · exact hsz.out x hx
        · rw [List.mem_singleton] at hx
          subst hx
          omega
      generalize ea l j = y at *
      obtain ⟨yk, yv⟩ := y
      dsimp only at p0 p1 d2 d2' d3 d3' hrun
      clear hcell htk hown hsz hB k1 k2 hlit hsz1 hlj hb2 ho2 HBr
      go_wp2_with (at_builtin; refine Lib.wpList_append_run _ rfl (.tmp 63) (.tmp 68) _ _ rfl _ _ (by rfl) (by rfl) _ _ hrun ?_)
      clear hrun p0 p1
      go_wp2_with fail
      go_roundw
      case rel => exact ⟨j + 1, v1, rfl, by go_num, by omega, Ho2, Hsz2, HB2⟩
      case measure => simp [intOf]; omega
    · obtain rfl : j = m := by omega
      have ho := hown.out
      rw [List.take_of_length_le (by rw [HM.out]; exact Nat.le_refl _)] at ho
      rw [List.take_of_length_le (by rw [HM.out]; exact Nat.le_refl _)] at hsz
      have hev : EV entE wr v l := own_ev (T := ET) (B := W1.heap.size) (by rw [HM.out]; exact ho)
      obtain ⟨a3, c3, rfl, hs3, _⟩ := hev
      rw [HM.out]
      have Hmo := Lib.hid (shMost_any a3 j c3 l wr HM.out hs3 hsz.out (by have := Hm2.out; omega))
      have HX := Lib.hid hB.out
      have hok := HTr1.out.facts.2
      have hn9 : n ≤ 4096 := by rw [← HN.out]; exact Hl9.out
      have hz9 := (szs_range hok).2
      have hp9 := pgs_le hok
      have Hrm := Lib.hid (fun x (hx : Below w.heap.size w x) => refShMost_any a1 j c1 l x HM.out (fun h => (HL1.out h).below hx (Nat.le_refl _)) (by have := Hm2.out; omega))
      have Htk := Lib.hid (fun x (hx : Below W1.heap.size W1 x) => refTaken_any al n cl es x HN.out (HSl.out.below hx (Nat.le_refl _)) hok (by omega))
      have Hof := Lib.hid (fun x (hx : Below W1.heap.size W1 x) => shOf_any p es H x (HTr1.out.ext hx) Hl9.out)
      have hHi := HTr1.out.high
      rw [HN.out] at Hof hHi hz9 hp9
      have hH9 : H ≤ 5000 := by omega
      have Hhe := Lib.hid (fun x (hx : Below W1.heap.size W1 x) => height_any p (n : Int) es H x (HTr1.out.ext hx) (by omega))
      obtain ⟨S, hS⟩ : ∃ S, szs es = S := ⟨_, rfl⟩
      obtain ⟨P, hP⟩ : ∃ P, pgs es = P := ⟨_, rfl⟩
      obtain ⟨M, hM⟩ : ∃ M, mosN l = M := ⟨_, rfl⟩
      obtain ⟨E, hE⟩ : ∃ E, mosE l = E := ⟨_, rfl⟩
      obtain ⟨U, hU, hUn⟩ : ∃ U, errC (E : Int) = U ∧ NumIs U (E : Int) := ⟨_, rfl, errC_is _⟩
      rw [hS, hP] at Htk
      rw [hM, hE] at Hmo Hrm
      rw [hU] at Hmo
      rw [hS] at hz9
      rw [hP] at hp9
      have hS9 : S ≤ 1000000 := by omega
      have hP9 : P ≤ 1000000 := by omega
      have HUn := Lib.hid hUn
      have HSP := Lib.hid (And.intro hS hP)
      clear hs3 hsz hown ho hB hlt hS hP hM hE hU hUn hz9 hp9 hok hHi
      go_wp2_with fail
      refine Hmo.out.mono ?_
      rintro e w3 ⟨rfl, hb3⟩
      have HX3 := Lib.hid (HX.out.trans (hb3.mono HX.out.size))
      have HB3 := Lib.hid (HB1.out.trans (HX3.out.mono HB1.out.size))
      have Hrm3 := Lib.hid (Hrm.out w3 HB3.out)
      clear hb3 Hmo HX HBr Hrm
      go_wp2_with fail
      refine Hrm3.out.mono ?_
      rintro e w4 ⟨rfl, hb4⟩
      have HX4 := Lib.hid (HX3.out.trans (hb4.mono HX3.out.size))
      have Htk4 := Lib.hid (Htk.out w4 HX4.out)
      clear hb4 Hrm3 HX3 HB3 Htk
      go_wp2_with fail
      refine Htk4.out.mono ?_
      rintro e w5 ⟨rfl, hb5⟩
      have HX5 := Lib.hid (HX4.out.trans (hb5.mono HX4.out.size))
      have hT5 := HT1.out.ext HX5.out
      have HT5 := Lib.hid hT5
      have a0 := hT5.c0
      have a1' := hT5.c1
      have Hof5 := Lib.hid (Hof.out w5 HX5.out)
      clear hb5 Htk4 HX4 hT5 Hof
      go_wp2_with fail
      refine Hof5.out.mono ?_
      rintro e w6 ⟨L, B, rfl, hct, hb6⟩
      rw [HN.out, HSP.out.1, HSP.out.2]
      obtain ⟨W7, hW7, hF7, hbW7⟩ : ∃ W, w6.alloc (.cells #[.int .i64 (n : Int), .int .i64 (H : Int), .int .i64 (L : Int), .int .i64 (B : Int), .int .i64 (P : Int), .int .i64 (S : Int)] FAT) = W ∧ FB W w6.heap.size (n : Int) (H : Int) (L : Int) (B : Int) (P : Int) (S : Int) ∧ Below w6.heap.size w6 W := ⟨_, rfl, FB.new w6 _ _ _ _ _ _, (Below.refl _ _).alloc (Nat.le_refl _) _⟩
      obtain ⟨bf, hbf⟩ : ∃ bf, w6.heap.size = bf := ⟨_, rfl⟩
      rw [hbf] at hF7
      obtain ⟨X, hX⟩ : ∃ X, W7.drew = X := ⟨_, rfl⟩
      have hbx : Below W7.heap.size W7 X := by rw [← hX]; exact (Below.refl _ _).drew
      have HX : Hid ((w6.alloc (.cells #[.int .i64 (n : Int), .int .i64 (H : Int), .int .i64 (L : Int), .int .i64 (B : Int), .int .i64 (P : Int), .int .i64 (S : Int)] FAT)).drew = X) := by show _ = _; rw [hW7, hX]
      have hx7 := hb6.trans ((hbW7.trans (hbx.mono hbW7.size)).mono hb6.size)
      have HX7 := Lib.hid (HX5.out.trans (hx7.mono HX5.out.size))
      have HB7 := Lib.hid (HB1.out.trans (HX7.out.mono HB1.out.size))
      have HF7 := Lib.hid (hF7.ext hbx)
      have HT7 := Lib.hid (HT1.out.ext HX7.out)
      have hL9 := hct.2.2.2.1
      have hfew := hct.few
      rw [HN.out] at hL9
      rw [HSP.out.1] at hfew
      have hLn : (0 < L) ↔ (0 < n) := by
        obtain ⟨t1, t2, t3, t4, t5⟩ := hct
        rcases Nat.eq_zero_or_pos H with h0 | h0
        · obtain ⟨x1, x2, x3⟩ := t1 h0
          rw [← HN.out, x3, x1]; simp
        · have h3 : 0 < n := by
            rw [← HN.out]; exact List.length_pos_iff.2 (t5 h0)
          have h4 : 0 < L := by
            rcases Nat.lt_or_ge H 2 with h6 | h6
            · have := (t2 (by omega)).1; omega
            · have := (t3 h6).1; omega
          exact ⟨fun _ => h3, fun _ => h4⟩
      obtain ⟨Q, hQ⟩ : ∃ Q, Q = L + B := ⟨_, rfl⟩
      obtain ⟨R, hR⟩ : ∃ R, R = L + B + P := ⟨_, rfl⟩
      have z1 : IntKind.i64.wrap ((L : Int) + (B : Int)) = (Q : Int) := by rw [IntKind.wrap_i64]; omega
      have z2 : IntKind.i64.wrap ((Q : Int) + (P : Int)) = (R : Int) := by rw [IntKind.wrap_i64]; omega
      have Hpg : Hid (∀ x, Calls Tryz.prog 14 #[.agg #[.int .i64 (n : Int), .int .i64 (H : Int), .int .i64 (L : Int), .int .i64 (B : Int), .int .i64 (P : Int), .int .i64 (S : Int)]] x fun e w' => e = .returned (.int .i64 (R : Int)) ∧ Below x.heap.size x w') := fun x => by
        have := pages_any (n : Int) (H : Int) (S : Int) L B P x (by omega)
        rw [← hR] at this; exact this
      obtain ⟨D, hD⟩ : ∃ D, decide (0 < n) = D := ⟨_, rfl⟩
      have e1 : decide ((0 : Int) < (n : Int)) = D := by rw [← hD]; rw [Bool.eq_iff_iff]; simp
      have e2 : decide ((0 : Int) < (L : Int)) = D := by rw [← hD]; rw [Bool.eq_iff_iff]; simp; omega
      have e3 : decide (0 < L) = D := by rw [← hD]; rw [Bool.eq_iff_iff]; simp; omega
      have dD : (D == D) = true := by simp
      have dM : ((M : Int) == (M : Int)) = true := by simp
      have dE : ((E : Int) == (E : Int)) = true := by simp
      have dn : ((n : Int) == (n : Int)) = true := by simp
      have dS : ((S : Int) == (S : Int)) = true := by simp
      have dP : ((P : Int) == (P : Int)) = true := by simp
      have dH : ((H : Int) == (H : Int)) = true := by simp
      have dR : ((R : Int) == (R : Int)) = true := by simp
      have q0 : ∀ w', Ext X w' → w'.cell? ⟨bf, 0, none⟩ = some (.int .i64 (n : Int)) := fun w' hx => (HF7.out.ext hx).c0
      have q1 : ∀ w', Ext X w' → w'.cell? ⟨bf, 1, none⟩ = some (.int .i64 (H : Int)) := fun w' hx => (HF7.out.ext hx).c1
      have q2 : ∀ w', Ext X w' → w'.cell? ⟨bf, 2, none⟩ = some (.int .i64 (L : Int)) := fun w' hx => (HF7.out.ext hx).c2
      have q3 : ∀ w', Ext X w' → w'.cell? ⟨bf, 3, none⟩ = some (.int .i64 (B : Int)) := fun w' hx => (HF7.out.ext hx).c3
      have q4 : ∀ w', Ext X w' → w'.cell? ⟨bf, 4, none⟩ = some (.int .i64 (P : Int)) := fun w' hx => (HF7.out.ext hx).c4
      have q5 : ∀ w', Ext X w' → w'.cell? ⟨bf, 5, none⟩ = some (.int .i64 (S : Int)) := fun w' hx => (HF7.out.ext hx).c5
      have r0 : ∀ w', Ext X w' → w'.cell? ⟨bt, 0, none⟩ = some (.pointer p) := fun w' hx => (HT7.out.ext hx).c0
      have r1 : ∀ w', Ext X w' → w'.cell? ⟨bt, 1, none⟩ = some (.int .i64 (n : Int)) := fun w' hx => (HT7.out.ext hx).c1
      have Hnm := Lib.hid (num_any U (E : Int) X HUn.out (Hg0.out HB7.out))
      have Hhe7 := Lib.hid (fun x (hx : Ext X x) => Hhe.out x (HX7.out.trans (Below.mono hx HX7.out.size)))
      have Hsu7 := Lib.hid (fun x (hx : Ext X x) => Hsu.out x (HB7.out.trans (Below.mono hx HB7.out.size)))
      clear hW7 hF7 hbW7 hX hbx hx7 hb6 hct hfew hLn hQ hR a0 a1' Hof5 HX5 HT5 Hhe HX7 HF7 HT7
      go_wp2_with fail
      refine wp_region_gr [(0, true), (1, true), (2, true), (3, true), (4, true), (6, true), (5, false), (7, true), (8, true), (9, true), (10, true), (11, true), (12, true), (13, true), (14, true), (15, true), (16, true), (17, true), (18, true), (19, true), (20, true), (21, true), (22, true), (23, true), (24, true), (25, true), (26, true), (27, true), (28, true), (29, true), (30, true), (31, true), (32, false), (33, true), (34, true), (35, true), (36, true), (38, true), (39, true), (40, true), (41, true), (42, true), (43, true), (44, true), (37, false), (45, true), (46, true), (47, true), (48, true), (49, true), (50, true), (51, true), (52, true), (53, true), (54, true), (55, true), (56, true), (57, false), (58, true), (59, true)] (by kernel_rfl) (by kernel_rfl) (by kernel_rfl) (by kernel_rfl) (fun _ _ _ _ _ h => h) ?_
      rw [HX.out]
      iterate 6 (refine wpGr_read (o := ⟨_, _, _, _, _, _⟩) (v := ?_) rfl (by rfl) ?_ ?_; rotate_left; (intro w' hw'; go_simp; with_reducible rfl); simp only [Act.put, List.setIfInBounds_toArray, List.set_cons_zero, List.set_cons_succ])
      refine wpGr_call (o := ⟨_, _, _, _, _, _⟩) rfl (by rfl) (fun K hK => ?_)
      go_simp
      refine Hnm.out.mono ?_
      rintro e w8 ⟨rfl, hb8⟩
      refine hK _ _ hb8 ?_
      clear hK K Hnm
      have HE8 : Hid (Ext X w8) := hb8
      replace q0 := fun w' (hx : Ext w8 w') => q0 w' (HE8.out.trans hx)
      replace q1 := fun w' (hx : Ext w8 w') => q1 w' (HE8.out.trans hx)
      replace q2 := fun w' (hx : Ext w8 w') => q2 w' (HE8.out.trans hx)
      replace q3 := fun w' (hx : Ext w8 w') => q3 w' (HE8.out.trans hx)
      replace q4 := fun w' (hx : Ext w8 w') => q4 w' (HE8.out.trans hx)
      replace q5 := fun w' (hx : Ext w8 w') => q5 w' (HE8.out.trans hx)
      replace r0 := fun w' (hx : Ext w8 w') => r0 w' (HE8.out.trans hx)
      replace r1 := fun w' (hx : Ext w8 w') => r1 w' (HE8.out.trans hx)
      clear hb8
      iterate 25 (refine wpGr_read (o := ⟨_, _, _, _, _, _⟩) (v := ?_) rfl (by rfl) ?_ ?_; rotate_left; (intro w' hw'; go_simp; with_reducible rfl); simp only [Act.put, List.setIfInBounds_toArray, List.set_cons_zero, List.set_cons_succ])
      refine wpGr_call (o := ⟨_, _, _, _, _, _⟩) rfl (by rfl) (fun K hK => ?_)
      go_simp
      refine (Hhe7.out w8 HE8.out).mono ?_
      rintro e w9 ⟨rfl, hb9⟩
      refine hK _ _ hb9 ?_
      clear hK K Hhe7
      have HE9 : Hid (Ext w8 w9) := hb9
      replace q0 := fun w' (hx : Ext w9 w') => q0 w' (HE9.out.trans hx)
      replace q1 := fun w' (hx : Ext w9 w') => q1 w' (HE9.out.trans hx)
      replace q2 := fun w' (hx : Ext w9 w') => q2 w' (HE9.out.trans hx)
      replace q3 := fun w' (hx : Ext w9 w') => q3 w' (HE9.out.trans hx)
      replace q4 := fun w' (hx : Ext w9 w') => q4 w' (HE9.out.trans hx)
      replace q5 := fun w' (hx : Ext w9 w') => q5 w' (HE9.out.trans hx)
      clear hb9 r0 r1
      iterate 11 (refine wpGr_read (o := ⟨_, _, _, _, _, _⟩) (v := ?_) rfl (by rfl) ?_ ?_; rotate_left; (intro w' hw'; go_simp; with_reducible rfl); simp only [Act.put, List.setIfInBounds_toArray, List.set_cons_zero, List.set_cons_succ])
      refine wpGr_call (o := ⟨_, _, _, _, _, _⟩) rfl (by rfl) (fun K hK => ?_)
      go_simp
      refine (Hpg.out w9).mono ?_
      rintro e w10 ⟨rfl, hb10⟩
      refine hK _ _ hb10 ?_
      clear hK K Hpg
      have HE10 : Hid (Ext w9 w10) := hb10
      replace q2 := fun w' (hx : Ext w10 w') => q2 w' (HE10.out.trans hx)
      clear hb10 q0 q1 q3 q4 q5
      iterate 12 (refine wpGr_read (o := ⟨_, _, _, _, _, _⟩) (v := ?_) rfl (by rfl) ?_ ?_; rotate_left; (intro w' hw'; go_simp; with_reducible rfl); simp only [Act.put, List.setIfInBounds_toArray, List.set_cons_zero, List.set_cons_succ])
      clear q2
      refine wpGr_call (o := ⟨_, _, _, _, _, _⟩) rfl (by rfl) (fun K hK => ?_)
      go_simp
      refine (Hsu7.out w10 (HE8.out.trans (HE9.out.trans HE10.out))).mono ?_
      rintro e w11 ⟨rfl, hb11⟩
      refine hK _ _ hb11 ?_
      clear hK K Hsu7
      have HB11 := Lib.hid (HB7.out.trans (Below.mono (HE8.out.trans (HE9.out.trans (HE10.out.trans hb11))) HB7.out.size))
      clear hb11
      iterate 2 (refine wpGr_read (o := ⟨_, _, _, _, _, _⟩) (v := ?_) rfl (by rfl) ?_ ?_; rotate_left; (intro w' hw'; go_simp; with_reducible rfl); simp only [Act.put, List.setIfInBounds_toArray, List.set_cons_zero, List.set_cons_succ])
      refine wpGr_done ?_
      go_wp2
      go_ret
      exact ⟨rfl, HB11.out⟩
end Go.Proofs.YtbgkjniagedcnaaGreatDoor
