/-
  ShapeHigh.
-/
import Derived.Test.YtbgkjniagedcnaaGreatDoorSure15Z
import Derived.Test.YtbgkjniagedcnaaGreatDoorGrownZ
import Derived.Test.YtbgkjniagedcnaaGreatDoorMostTZ
namespace Go.Proofs.YtbgkjniagedcnaaGreatDoor
open Go Go.RowKit

abbrev ARR : TypeId := 23
set_option maxHeartbeats 4000000 in
set_option maxRecDepth 100000 in
theorem high_any (n0 m0 : Nat) (w : World) (h1 : n0 < 65536) (h2 : m0 < 65536) (hg : Hg w) :
    Calls Tryz.prog 5 #[.agg #[.int .u16 n0, .int .u16 m0]] w fun e w' => e = .returned (.bool true) ∧ Below w.heap.size w w' := by
  have Hg0 : Hid (∀ {w'}, Below w.heap.size w w' → Hg w') := fun h => hg.below h
  obtain ⟨W0, hW0, k1, hb0⟩ := alloc_own w ARR #[.int .u16 n0, .int .u16 m0]
  obtain ⟨N0, hN0⟩ : ∃ N0, n0 % 200 = N0 := ⟨_, rfl⟩
  have eN : (n0 : Int).tmod 200 = (N0 : Int) := by rw [Int.tmod_eq_emod_of_nonneg (by omega)]; omega
  have wN : IntKind.i64.wrap (N0 : Int) = (N0 : Int) := by rw [IntKind.wrap_i64]; omega
  have wM : IntKind.i64.wrap (m0 : Int) = (m0 : Int) := by rw [IntKind.wrap_i64]; omega
  have Hgr := Lib.hid (grown_any N0 m0 W0 (by omega) (by omega) (Hg0.out hb0))
  have HN9 : Hid (N0 ≤ 200) := by show _ ≤ _; omega
  have HB0 := Lib.hid hb0
  have HW0 := Lib.hid hW0
  have Hsu := Lib.hid (fun x (hx : Below w.heap.size w x) => sure_any x (Hg0.out hx))
  clear hW0 k1 hb0 hN0 hg
  go_enter Tryz.func5, Tryz.ntmps5
  go_wp2_with fail
  rw [HW0.out]
  refine Hgr.out.mono ?_
  rintro e w1 ⟨p, H, es, l, rfl, ht, hl, hlen, hb1⟩
  replace ht := ht.tp
  have hl9 : es.length ≤ 4096 := by have := HN9.out; omega
  obtain ⟨n, hn⟩ : ∃ n, es.length = n := ⟨_, rfl⟩
  obtain ⟨W1, hW1, hT1, hbW1⟩ : ∃ W, w1.alloc (.cells #[.pointer p, .int .i64 (n : Int)] TT) = W ∧ TB W w1.heap.size p (n : Int) ∧ Below w1.heap.size w1 W := ⟨_, rfl, heap_new w1 TT _, (Below.refl _ _).alloc (Nat.le_refl _) _⟩
  obtain ⟨bt, hbt⟩ : ∃ bt, w1.heap.size = bt := ⟨_, rfl⟩
  rw [hbt] at hT1
  have hb01 := HB0.out.trans (hb1.mono HB0.out.size)
  have HB1 := Lib.hid (hb01.trans (hbW1.mono hb01.size))
  have HTr1 := Lib.hid (ht.ext hbW1)
  have HT1 := Lib.hid hT1
  have HW1 := Lib.hid hW1
  have HN := Lib.hid hn
  have Hl9 := Lib.hid hl9
  have Hof := Lib.hid (shOf_any p es H W1 HTr1.out hl9)
  rw [hn] at Hof ⊢
  obtain ⟨al, cl, rfl, _⟩ := hl
  rw [hn]
  clear hW1 hT1 hbW1 hb01 hb1 ht hlen Hgr HB0 HW0 hn hl9
  go_wp2_with fail
  rw [HW1.out]
  refine Hof.out.mono ?_
  rintro e w2 ⟨L, B, rfl, hct, hb2⟩
  rw [HN.out]
  have Hct := Lib.hid hct
  have hok := HTr1.out.facts.2
  have hz9 := (szs_range hok).2
  have hp9 := pgs_le hok
  have hmt := most_tree HTr1.out Hl9.out
  have hR9 := hmt.2.1 L B hct
  have hM9 := hmt.2.2
  have hLl := hct.2.2.2.1
  have Hall := Lib.hid (fun x (hx : Below W1.heap.size W1 x) => all_any p es H x (HTr1.out.ext hx) (by have := Hl9.out; omega))
  have Hck := Lib.hid (fun x (hx : Below W1.heap.size W1 x) => shCheck_any p es H x (HTr1.out.ext hx) Hl9.out)
  have Hmo := Lib.hid (fun a c x (hx : ES entE x a es) => shMost_any a n c es x HN.out hx (fun y hy => by have := hok y hy; have h3 := okK_size this.1; have h4 := this.2; omega) (by have := Hl9.out; have := HN.out; omega))
  rw [hmt.1] at Hmo
  rw [HN.out] at Hall Hck
  have hl9 : n ≤ 4096 := by rw [← HN.out]; exact Hl9.out
  obtain ⟨S, hS⟩ : ∃ S, szs es = S := ⟨_, rfl⟩
  obtain ⟨P, hP⟩ : ∃ P, pgs es = P := ⟨_, rfl⟩
  obtain ⟨M, hM⟩ : ∃ M, mosN es = M := ⟨_, rfl⟩
  rw [hS] at hz9 ⊢
  rw [hP] at hp9 hR9 ⊢
  rw [hM] at hM9 hR9 Hmo
  have HS := Lib.hid hS
  obtain ⟨W2, hW2, hF2, hbW2⟩ : ∃ W, w2.alloc (.cells #[.int .i64 (n : Int), .int .i64 (H : Int), .int .i64 (L : Int), .int .i64 (B : Int), .int .i64 (P : Int), .int .i64 (S : Int)] FAT) = W ∧ FB W w2.heap.size (n : Int) (H : Int) (L : Int) (B : Int) (P : Int) (S : Int) ∧ Below w2.heap.size w2 W := ⟨_, rfl, FB.new w2 _ _ _ _ _ _, (Below.refl _ _).alloc (Nat.le_refl _) _⟩
  obtain ⟨bf, hbf⟩ : ∃ bf, w2.heap.size = bf := ⟨_, rfl⟩
  rw [hbf] at hF2
  have hx2 := hb2.trans (hbW2.mono hb2.size)
  have HX2 := Lib.hid hx2
  have hT2 := HT1.out.ext hx2
  have HT2 := Lib.hid hT2
  have HB2 := Lib.hid (HB1.out.trans (hx2.mono HB1.out.size))
  have HF2 := Lib.hid hF2
  have HW2 := Lib.hid hW2
  have a0 := hT2.c0
  have a1 := hT2.c1
  rw [← hW2] at a0 a1
  have Hall2 := Lib.hid (Hall.out W2 hx2)
  have hHi := HTr1.out.high
  rw [HN.out] at hHi hz9 hp9 hLl
  have hH9 : H ≤ 5000 := by omega
  have hS9 : S ≤ 1000000 := by omega
  have hP9 : P ≤ 1000000 := by omega
  have hL9 : L ≤ 5000 := by omega
  have hB9 : B ≤ 2000000 := by omega
  have HR := Lib.hid hR9
  clear hW2 hT2 hF2 hbW2 hx2 hb2 hct hok hmt hS hP hM HT1 HB1 HW1 Hall Hof hz9 hp9 hLl hHi hR9
  go_wp2_with fail
  rw [HW2.out]
  refine Hall2.out.mono ?_
  rintro e w3 ⟨v3, rfl, ⟨a3, c3, rfl, hs3, _⟩, hb3⟩
  rw [HN.out]
  have Hmo3 := Lib.hid (Hmo.out a3 c3 w3 hs3)
  have HX3 := Lib.hid (HX2.out.trans (hb3.mono HX2.out.size))
  have HT3 := Lib.hid (HT2.out.ext hb3)
  have HF3 := Lib.hid (HF2.out.ext hb3)
  have HB3 := Lib.hid (HB2.out.trans (hb3.mono HB2.out.size))
  clear hb3 hs3 Hall2 a0 a1 HX2 HT2 HF2 HB2 HW2 Hmo
  go_wp2_with fail
  refine Hmo3.out.mono ?_
  rintro e w4 ⟨rfl, hb4⟩
  rw [show errC ((0 : Nat) : Int) = .nilIface from rfl]
  obtain ⟨X, hX⟩ : ∃ X, w4.drew = X := ⟨_, rfl⟩
  have hbx : Below w4.heap.size w4 X := by rw [← hX]; exact (Below.refl _ _).drew
  have hx4 := hb4.trans (hbx.mono hb4.size)
  have HX := Lib.hid hX
  have HX4 := Lib.hid (HX3.out.trans (hx4.mono HX3.out.size))
  have hT4 := HT3.out.ext hx4
  have hF4 := HF3.out.ext hx4
  have HF4 := Lib.hid hF4
  have HT4 := Lib.hid hT4
  have HB4 := Lib.hid (HB3.out.trans (hx4.mono HB3.out.size))
  have r0 : ∀ w', Ext X w' → w'.cell? ⟨bt, 0, none⟩ = some (.pointer p) := fun w' hx => (hT4.ext hx).c0
  have r1 : ∀ w', Ext X w' → w'.cell? ⟨bt, 1, none⟩ = some (.int .i64 (n : Int)) := fun w' hx => (hT4.ext hx).c1
  have Hck4 := Lib.hid (Hck.out X HX4.out)
  have Hlen := Lib.hid (fun x => len_any p (n : Int) x)
  have dn : ((n : Int) == (n : Int)) = true := by simp
  clear hX hbx hx4 hb4 hT4 hF4 HX3 HT3 HF3 HB3 Hmo3 Hck
  go_wp2_with fail
  refine wp_region_gr [(0, true), (1, true), (2, true), (3, true), (4, false), (5, true), (6, true), (7, true), (8, true), (9, true), (10, true), (11, false), (12, true), (13, true)] (by kernel_rfl) (by kernel_rfl) (by kernel_rfl) (by kernel_rfl) (fun _ _ _ _ _ h => h) ?_
  rw [HX.out]
  iterate 4 (refine wpGr_read (o := ⟨_, _, _, _, _, _⟩) (v := ?_) rfl (by rfl) ?_ ?_; rotate_left; (intro w' hw'; go_simp; with_reducible rfl); simp only [Act.put, List.setIfInBounds_toArray, List.set_cons_zero, List.set_cons_succ])
  clear r0 r1
  refine wpGr_call (o := ⟨_, _, _, _, _, _⟩) rfl (by rfl) (fun K hK => ?_)
  go_simp
  refine Hck4.out.mono ?_
  rintro e w5 ⟨rfl, hb5⟩
  refine hK _ _ hb5 ?_
  clear hK K Hck4
  have hT5 := HT4.out.ext hb5
  have hF5 := HF4.out.ext hb5
  have HF5 := Lib.hid hF5
  have HB5 := Lib.hid (HB4.out.trans (hb5.mono HB4.out.size))
  have r0 : ∀ w', Ext w5 w' → w'.cell? ⟨bt, 0, none⟩ = some (.pointer p) := fun w' hx => (hT5.ext hx).c0
  have r1 : ∀ w', Ext w5 w' → w'.cell? ⟨bt, 1, none⟩ = some (.int .i64 (n : Int)) := fun w' hx => (hT5.ext hx).c1
  have q0 : ∀ w', Ext w5 w' → w'.cell? ⟨bf, 0, none⟩ = some (.int .i64 (n : Int)) := fun w' hx => (hF5.ext hx).c0
  clear hb5 hT5 hF5 HF4 HB4 HT4
  iterate 6 (refine wpGr_read (o := ⟨_, _, _, _, _, _⟩) (v := ?_) rfl (by rfl) ?_ ?_; rotate_left; (intro w' hw'; go_simp; with_reducible rfl); simp only [Act.put, List.setIfInBounds_toArray, List.set_cons_zero, List.set_cons_succ])
  clear r0 r1 q0
  refine wpGr_call (o := ⟨_, _, _, _, _, _⟩) rfl (by rfl) (fun K hK => ?_)
  go_simp
  refine (Hlen.out _).mono ?_
  rintro e w6 ⟨rfl, hb6⟩
  refine hK _ _ hb6 ?_
  clear hK K Hlen
  have hF6 := HF5.out.ext hb6
  have HF6 := Lib.hid hF6
  have HB6 := Lib.hid (HB5.out.trans (hb6.mono HB5.out.size))
  clear hb6 HF5 HB5
  iterate 2 (refine wpGr_read (o := ⟨_, _, _, _, _, _⟩) (v := ?_) rfl (by rfl) ?_ ?_; rotate_left; (intro w' hw'; go_simp; with_reducible rfl); simp only [Act.put, List.setIfInBounds_toArray, List.set_cons_zero, List.set_cons_succ])
  refine wpGr_done ?_
  have c0 := hF6.c0
  have c1 := hF6.c1
  have c2 := hF6.c2
  have c3 := hF6.c3
  have c4 := hF6.c4
  have c5 := hF6.c5
  clear hF6
  obtain ⟨t1, t2, t3, t4, t5⟩ := Hct.out
  by_cases hH : H < 2
  · have dH : decide ((H : Int) < 2) = true := decide_eq_true (by omega)
    have dH' : decide (H < 2) = true := decide_eq_true hH
    have hx : B = 0 ∧ L = H ∧ (H = 0 ↔ n = 0) := by
      rcases Nat.eq_zero_or_pos H with h0 | h0
      · obtain ⟨x1, x2, x3⟩ := t1 h0
        refine ⟨x2, by omega, fun _ => ?_, fun _ => h0⟩
        rw [← HN.out, x3]; rfl
      · obtain ⟨x1, x2⟩ := t2 (by omega)
        refine ⟨x2, by omega, fun h => by omega, fun h => ?_⟩
        exact absurd (List.eq_nil_of_length_eq_zero (by rw [HN.out, h])) (t5 h0)
    obtain ⟨x1, x2, x3⟩ := hx
    have dB : ((B : Int) == 0) = true := by rw [beq_iff_eq]; omega
    have dB' : (B == 0) = true := by rw [beq_iff_eq]; omega
    have dL : ((L : Int) == (H : Int)) = true := by rw [beq_iff_eq]; omega
    have dL' : (L == H) = true := by rw [beq_iff_eq]; omega
    obtain ⟨D, hD⟩ : ∃ D, decide (n = 0) = D := ⟨_, rfl⟩
    have e1 : ((H : Int) == 0) = D := by rw [← hD]; rw [Bool.eq_iff_iff]; simp; omega
    have e2 : (H == 0) = D := by rw [← hD]; rw [Bool.eq_iff_iff]; simp; omega
    have e3 : ((n : Int) == 0) = D := by rw [← hD]; rw [Bool.eq_iff_iff]; simp
    have e4 : (n == 0) = D := by rw [← hD]; rw [Bool.eq_iff_iff]; simp
    have dD : (D == D) = true := by simp
    have Hsu6 := Lib.hid (Hsu.out w6 HB6.out)
    clear hD x1 x2 x3 t1 t2 t3 t4 t5 hH
    go_wp2_with fail
    refine Hsu6.out.mono ?_
    rintro e w7 ⟨rfl, hb7⟩
    have HB7 := Lib.hid (HB6.out.trans (hb7.mono HB6.out.size))
    clear hb7 Hsu6 c0 c1 c2 c3 c4 c5
    go_wp2
    go_ret
    exact ⟨rfl, HB7.out⟩
  · have dH : decide ((H : Int) < 2) = false := decide_eq_false (by omega)
    have dH' : decide (H < 2) = false := decide_eq_false hH
    obtain ⟨x1, x2, x3, x4⟩ := t3 (by omega)
    rw [HS.out] at x4
    rw [HN.out] at t4
    obtain ⟨H1, hH1⟩ : ∃ H1, H = H1 + 1 := ⟨H - 1, by omega⟩
    have z1 : IntKind.i64.wrap ((H : Int) - 1) = (H1 : Int) := by rw [IntKind.wrap_i64]; omega
    obtain ⟨Q, hQ⟩ : ∃ Q, Q = 124 * L := ⟨_, rfl⟩
    have z2 : IntKind.i64.wrap (124 * (L : Int)) = (Q : Int) := by rw [IntKind.wrap_i64]; omega
    obtain ⟨R, hR⟩ : ∃ R, R = L + B + P := ⟨_, rfl⟩
    have hpg := pages_any (n : Int) (H : Int) (S : Int) L B P w6 (by omega)
    rw [← hR] at hpg
    have Hpg := Lib.hid hpg
    have d1 : decide ((2 : Int) ≤ (L : Int)) = true := decide_eq_true (by omega)
    have d1' : decide (2 ≤ L) = true := decide_eq_true (by omega)
    have d2 : decide ((H1 : Int) ≤ (B : Int)) = true := decide_eq_true (by omega)
    have d2' : decide (H1 ≤ B) = true := decide_eq_true (by omega)
    have d3 : decide ((Q : Int) ≤ (S : Int)) = true := decide_eq_true (by omega)
    have d3' : decide (Q ≤ S) = true := decide_eq_true (by omega)
    have d4 : decide ((L : Int) ≤ (n : Int)) = true := decide_eq_true (by omega)
    have d4' : decide (L ≤ n) = true := decide_eq_true (by omega)
    have d5 : decide ((R : Int) ≤ (M : Int)) = true := decide_eq_true (by have := HR.out; omega)
    have d5' : decide (R ≤ M) = true := decide_eq_true (by have := HR.out; omega)
    clear hH1 hQ hR hpg x1 x2 x3 x4 t1 t2 t3 t4 t5 hH
    go_wp2_with fail
    refine Hpg.out.mono ?_
    rintro e w7 ⟨rfl, hb7⟩
    have HB7 := Lib.hid (HB6.out.trans (hb7.mono HB6.out.size))
    have Hsu7 := Lib.hid (Hsu.out w7 HB7.out)
    clear hb7 Hpg c0 c1 c2 c3 c4 c5
    go_wp2_with fail
    refine Hsu7.out.mono ?_
    rintro e w8 ⟨rfl, hb8⟩
    have HB8 := Lib.hid (HB7.out.trans (hb8.mono HB7.out.size))
    clear hb8 Hsu7
    go_wp2
    go_ret
    exact ⟨rfl, HB8.out⟩
end Go.Proofs.YtbgkjniagedcnaaGreatDoor
