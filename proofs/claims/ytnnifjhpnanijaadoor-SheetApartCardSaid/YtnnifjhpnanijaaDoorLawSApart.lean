/-
  SheetApart: the law's walk.
-/
import Derived.Test.YtnnifjhpnanijaaDoorSure5
namespace Go.Proofs.YtnnifjhpnanijaaDoor
open Go Go.RowKit

theorem page_rest {k : Nat} {l : List Nat} (h : l.length ≤ 504) : allZero (((pageL k l).take 508).drop (4 + l.length)) = true := by
  rw [pageL_take h, body_rest, allZero_replicate]
/-- Two pages are one just if kind and load are. -/
theorem page_eq {p q : Nat} {l m : List Nat} (hp1 : 1 ≤ p) (hp5 : p ≤ 5) (hq1 : 1 ≤ q) (hq5 : q ≤ 5) (hl : l.length ≤ 504) (hm : m.length ≤ 504) (h8l : B8 l) (h8m : B8 m) :
    ((bstr (pageL p l)).toList == (bstr (pageL q m)).toList) = (decide (p = q) && ((bstr l).toList == (bstr m).toList)) := by
  rw [bstr_eq (pageL_b8 (by omega) hl h8l) (pageL_b8 (by omega) hm h8m), bstr_eq h8l h8m, Bool.eq_iff_iff]
  simp only [Bool.and_eq_true, decide_eq_true_iff]
  constructor
  · exact pageL_inj hp1 hp5 hl hq1 hq5 hm
  · rintro ⟨rfl, rfl⟩; rfl
theorem turn_src {w w' : World} {a : Option Addr} {l : List Nat} (h : Src w a l) (t : Turn (fun _ => False) w w') : Src w' a l := h.below (t.below (Nat.le_refl _) (fun _ h => h.elim)) (Nat.le_refl _)
set_option maxRecDepth 100000 in
set_option maxHeartbeats 4000000 in
theorem apart_any (a b : Option Addr) (la lb : List Nat) (na nb ca cb k0 k1 : Nat) (w : World) (ha : la.length = na) (hb : lb.length = nb) (h8a : B8 la) (h8b : B8 lb) (hsa : Src w a la) (hsb : Src w b lb) (hna : na ≤ 140737488355328) (hnb : nb ≤ 140737488355328) (hk0 : k0 < 256) (hk1 : k1 < 256) (hg : Hg w) (hT : WorthIn w) :
    Calls Tryd.prog 5 #[.slice a na ca, .slice b nb cb, .agg #[.int .u8 k0, .int .u8 k1]] w fun e w' => e = .returned (.bool true) ∧ Below w.heap.size w w' := by
  have hbx : Below w.heap.size w (w.alloc (.cells #[.int .u8 k0, .int .u8 k1] 41)) := (Below.refl _ _).alloc (Nat.le_refl _) _
  by_cases hbig : 504 < na
  · have d1 : decide (504 < (na : Int)) = true := by simp; omega
    go_enter Tryd.func5, Tryd.ntmps5
    go_wp2_with fail
    refine (sure_any _ (hg.below hbx) (hT.below hbx)).mono ?_
    rintro e w6 ⟨rfl, hb6⟩
    go_wp2_with fail
    go_ret
    exact ⟨rfl, hbx.trans (hb6.mono hbx.size)⟩
  have d1 : decide (504 < (na : Int)) = false := by simp; omega
  by_cases hbig2 : 504 < nb
  · have d2 : decide (504 < (nb : Int)) = true := by simp; omega
    go_enter Tryd.func5, Tryd.ntmps5
    go_wp2_with fail
    refine (sure_any _ (hg.below hbx) (hT.below hbx)).mono ?_
    rintro e w6 ⟨rfl, hb6⟩
    go_wp2_with fail
    go_ret
    exact ⟨rfl, hbx.trans (hb6.mono hbx.size)⟩
  have d2 : decide (504 < (nb : Int)) = false := by simp; omega
  obtain ⟨r0, hr0⟩ : ∃ r, r = k0 % 5 := ⟨_, rfl⟩
  obtain ⟨r1, hr1⟩ : ∃ r, r = k1 % 5 := ⟨_, rfl⟩
  obtain ⟨p, hp⟩ : ∃ p, p = 1 + r0 := ⟨_, rfl⟩
  obtain ⟨q, hq⟩ : ∃ q, q = 1 + r1 := ⟨_, rfl⟩
  have e0 : (k0 : Int).tmod 5 = (r0 : Int) := by rw [Int.tmod_eq_emod_of_nonneg (by omega)]; omega
  have e1 : (k1 : Int).tmod 5 = (r1 : Int) := by rw [Int.tmod_eq_emod_of_nonneg (by omega)]; omega
  have e2 : (1 : Int) + (r0 : Int) = (p : Int) := by omega
  have e3 : (1 : Int) + (r1 : Int) = (q : Int) := by omega
  have hp1 : 1 ≤ p := by omega
  have hp5 : p ≤ 5 := by omega
  have hq1 : 1 ≤ q := by omega
  have hq5 : q ≤ 5 := by omega
  have z2 : IntKind.u8.wrap (p : Int) = (p : Int) := by simp only [IntKind.wrap, IntKind.bits, IntKind.signed]; simp; omega
  have z3 : IntKind.u8.wrap (q : Int) = (q : Int) := by simp only [IntKind.wrap, IntKind.bits, IntKind.signed]; simp; omega
  clear hr0 hr1 hp hq
  have HB := Lib.hid hbx
  have Hsa := Lib.hid hsa
  have Hsb := Lib.hid hsb
  have HG := Lib.hid hg
  have HT := Lib.hid hT
  have Hl := Lib.hid (And.intro ha hb)
  clear hbx hsa hsb hg hT ha hb
  have hbd := Lib.hid HB.out.drew
  have q0 : (w.alloc (.cells #[.int .u8 k0, .int .u8 k1] 41)).drew.cell? ⟨w.heap.size, 0, none⟩ = some (.int .u8 k0) := by
    show (w.alloc _).cell? _ = _
    simp
  have q1 : (w.alloc (.cells #[.int .u8 k0, .int .u8 k1] 41)).drew.cell? ⟨w.heap.size, 1, none⟩ = some (.int .u8 k1) := by
    show (w.alloc _).cell? _ = _
    simp
  have Hq := Lib.hid (And.intro q0 q1)
  have Hz : Hid (w.heap.size < (w.alloc (.cells #[.int .u8 k0, .int .u8 k1] 41)).drew.heap.size) := by
    show w.heap.size < (w.alloc _).heap.size
    simp
  clear q0 q1 HB
  go_enter Tryd.func5, Tryd.ntmps5
  go_wp2_with fail
  refine wp_region_gt (F := fun _ => False) [(0, true), (1, true), (2, true), (3, true), (4, true), (5, true), (6, true), (7, true), (8, true), (9, true)] (by kernel_rfl) (by kernel_rfl) (by kernel_rfl) (by kernel_rfl) (fun _ _ _ _ _ h => h) ?_
  generalize (w.alloc (.cells #[.int .u8 k0, .int .u8 k1] 41)).drew = w1 at *
  have c0 : ∀ w', Turn (fun _ => False) w1 w' → w'.cell? ⟨w.heap.size, 0, none⟩ = some (.int .u8 k0) := fun w' t => (t.cell Hz.out (fun h => h)).trans Hq.out.1
  have c1 : ∀ w', Turn (fun _ => False) w1 w' → w'.cell? ⟨w.heap.size, 1, none⟩ = some (.int .u8 k1) := fun w' t => (t.cell Hz.out (fun h => h)).trans Hq.out.2
  iterate 10 (refine wpGt_read (o := ⟨_, _, _, _, _, _⟩) (v := ?_) rfl (by rfl) ?_ ?_; rotate_left; (intro w' hw'; go_simp; with_reducible rfl); simp only [Act.put, List.setIfInBounds_toArray, List.set_cons_zero, List.set_cons_succ])
  refine wpGt_done ?_
  clear c0 c1 e0 e1 e2 e3 z2 z3
  go_wp2_with fail
  have hla : la.length ≤ 504 := by have := Hl.out.1; omega
  have hlb : lb.length ≤ 504 := by have := Hl.out.2; omega
  refine (seal_in p a na ca la Hl.out.1 w1 hp1 hp5 (by omega) h8a (Hsa.out.below hbd.out (Nat.le_refl _)) (HT.out.below hbd.out)).mono ?_
  rintro e w2 ⟨rfl, hrx, hb2⟩
  have hgx : w.heap.size ≤ w1.heap.size := hbd.out.size
  generalize w1.heap.size = gx at *
  have hbw2 : Hid (Below w.heap.size w w2) := hbd.out.trans (hb2.mono hgx)
  have Hrx := Lib.hid hrx
  clear hrx hb2
  go_wp2_with fail
  refine (seal_in q b nb cb lb Hl.out.2 w2 hq1 hq5 (by omega) h8b (Hsb.out.below hbw2.out (Nat.le_refl _)) (HT.out.below hbw2.out)).mono ?_
  rintro e w3 ⟨rfl, hry, hb3⟩
  have hgy : w.heap.size ≤ w2.heap.size := hbw2.out.size
  have hrx := Hrx.out.below hb3 Hrx.out.lt
  have hbw3 : Hid (Below w.heap.size w w3) := hbw2.out.trans (hb3.mono hgy)
  generalize w2.heap.size = gy at *
  clear hb3 hbw2 Hrx
  have HX := Lib.hid (And.intro hrx hry)
  clear hrx hry
  go_wp2_with fail
  refine (room_in na w3 (by omega)).mono ?_
  rintro e w' ⟨rfl, rfl⟩
  go_wp2_with fail
  refine wp_region_gt (F := fun _ => False) [(0, true), (1, true), (2, true), (3, true), (4, true), (5, true), (6, true), (7, true), (8, true), (9, true), (10, true), (11, true), (12, true), (13, true), (14, true), (15, true), (16, true), (17, true), (18, true), (19, true), (20, true), (21, true), (22, true), (23, true), (24, true), (25, true), (26, true), (27, true), (28, true), (29, true), (30, true), (31, true), (32, true), (33, false), (34, true), (35, true), (36, true), (37, true), (38, true), (39, true), (40, true), (41, true), (42, true), (43, true), (44, true), (45, true), (46, true), (47, false), (48, true), (49, true)] (by kernel_rfl) (by kernel_rfl) (by kernel_rfl) (by kernel_rfl) (fun _ _ _ _ _ h => h) ?_
  have hrx : Row w3.drew gx 5 (pageL p la) := HX.out.1
  have hry : Row w3.drew gy 5 (pageL q lb) := HX.out.2
  have hbd4 : Hid (Below w.heap.size w w3.drew) := hbw3.out.drew
  clear HX hbw3
  generalize w3.drew = w4 at *
  have hsa4 := Hsa.out.below hbd4.out (Nat.le_refl _)
  have hsb4 := Hsb.out.below hbd4.out (Nat.le_refl _)
  have cx : ∀ w', Turn (fun _ => False) w4 w' → (convert 22 9 (.slice (some ⟨gx, 0, none⟩) 512 512)).run Tryd.prog w' = .ok (.string (bstr (pageL p la))) w' := fun w' t => conv_row (P := Tryd.prog) 22 5 9 Tryd.underlying22 Tryd.underlying5 Tryd.underlying9 gx 512 512 _ (pageL_length hla) w' (t.hg hrx (fun h => h))
  have cy : ∀ w', Turn (fun _ => False) w4 w' → (convert 22 9 (.slice (some ⟨gy, 0, none⟩) 512 512)).run Tryd.prog w' = .ok (.string (bstr (pageL q lb))) w' := fun w' t => conv_row (P := Tryd.prog) 22 5 9 Tryd.underlying22 Tryd.underlying5 Tryd.underlying9 gy 512 512 _ (pageL_length hlb) w' (t.hg hry (fun h => h))
  have ca4 : ∀ w', Turn (fun _ => False) w4 w' → (convert 22 9 (.slice a na ca)).run Tryd.prog w' = .ok (.string (bstr la)) w' := fun w' t => conv_src (P := Tryd.prog) 22 5 9 Tryd.underlying22 Tryd.underlying5 Tryd.underlying9 a na ca la Hl.out.1 w' (turn_src hsa4 t)
  have cb4 : ∀ w', Turn (fun _ => False) w4 w' → (convert 22 9 (.slice b nb cb)).run Tryd.prog w' = .ok (.string (bstr lb)) w' := fun w' t => conv_src (P := Tryd.prog) 22 5 9 Tryd.underlying22 Tryd.underlying5 Tryd.underlying9 b nb cb lb Hl.out.2 w' (turn_src hsb4 t)
  have cl : ∀ w', Turn (fun _ => False) w4 w' → (convert 22 9 (.slice (some ⟨gx, 4, none⟩) na 508)).run Tryd.prog w' = .ok (.string (bstr la)) w' := fun w' t => by
    refine conv_src (P := Tryd.prog) 22 5 9 Tryd.underlying22 Tryd.underlying5 Tryd.underlying9 (some ⟨gx, 4, none⟩) na 508 la Hl.out.1 w' ?_
    have h := (Row.cs (t.hg hrx (fun h => h) : Row w' gx 5 (pageL p la))).cut 4 la.length
    rw [page_load, Nat.zero_add] at h
    exact h.src
  have hbl := blank_any (some ⟨gx, 4 + na, none⟩) (508 - (4 + na)) (512 - (4 + na)) (((pageL p la).take 508).drop (4 + la.length)) (by rw [List.length_drop, List.length_take, pageL_length hla, Hl.out.1]; omega) w4 (by omega) (by
    have h := (hrx.cs.start 508).rest (4 + la.length)
    rw [Nat.zero_add] at h
    rw [← Hl.out.1]; exact h.src)
  rw [page_rest hla] at hbl
  have hD := page_eq hp1 hp5 hq1 hq5 hla hlb h8a h8b
  have hE : ((p : Int) == (q : Int)) = decide (p = q) := by rw [Bool.eq_iff_iff, beq_iff_eq, decide_eq_true_iff]; omega
  generalize bstr (pageL p la) = SX at *
  generalize bstr (pageL q lb) = SY at *
  generalize bstr la = SA at *
  generalize bstr lb = SB at *
  generalize decide (p = q) = E at *
  have y0 : IntKind.i64.wrap (504 - (na : Int)) = 504 - (na : Int) := IntWalk.i64_in _ (by omega)
  have y1 : IntKind.i64.wrap (4 + (na : Int)) = 4 + (na : Int) := IntWalk.i64_in _ (by omega)
  have y2 : (0 : Int) ≤ 4 + (na : Int) := by omega
  have y3 : (4 : Int) + (na : Int) ≤ 508 := by omega
  have y4 : ((4 : Int) + (na : Int)).toNat = 4 + na := by omega
  have y6 : (4 : Int) + (na : Int) ≤ 512 := by omega
  have y7 : (4 : Int) ≤ 4 + (na : Int) := by omega
  have y5 : ¬ ((512 : Nat) = 4 + na) := by omega
  have Hbl := Lib.hid hbl
  clear hrx hry hsa4 hsb4 hbl
  cases E with
  | true =>
    rw [Bool.true_and] at hD
    obtain ⟨D, hD2⟩ : ∃ D, (SA.toList == SB.toList) = D := ⟨_, rfl⟩
    rw [hD2] at hD
    iterate 33 (refine wpGt_read (o := ⟨_, _, _, _, _, _⟩) (v := ?_) rfl (by rfl) ?_ ?_; rotate_left; (intro w' hw'; go_simp; with_reducible rfl); simp only [Act.put, List.setIfInBounds_toArray, List.set_cons_zero, List.set_cons_succ])
    refine wpGt_call (o := ⟨_, _, _, _, _, _⟩) rfl (by rfl) (fun K hK => ?_)
    go_simp
    refine Hbl.out.mono ?_
    rintro e w' ⟨rfl, rfl⟩
    refine hK _ _ (Turn.refl _ _) ?_
    clear hK K
    iterate 13 (refine wpGt_read (o := ⟨_, _, _, _, _, _⟩) (v := ?_) rfl (by rfl) ?_ ?_; rotate_left; (intro w' hw'; go_simp; with_reducible rfl); simp only [Act.put, List.setIfInBounds_toArray, List.set_cons_zero, List.set_cons_succ])
    refine wpGt_call (o := ⟨_, _, _, _, _, _⟩) rfl (by rfl) (fun K hK => ?_)
    go_simp
    refine (sure_any w4 (HG.out.below hbd4.out) (HT.out.below hbd4.out)).mono ?_
    rintro e w6 ⟨rfl, hb6⟩
    refine hK _ _ (Turn.ofBelow hb6) ?_
    clear hK K cx cy ca4 cb4 cl
    have hb6' := Lib.hid (hbd4.out.trans (hb6.mono hbd4.out.size))
    iterate 2 (refine wpGt_read (o := ⟨_, _, _, _, _, _⟩) (v := ?_) rfl (by rfl) ?_ ?_; rotate_left; (intro w' hw'; go_simp; with_reducible rfl); simp only [Act.put, List.setIfInBounds_toArray, List.set_cons_zero, List.set_cons_succ])
    refine wpGt_done ?_
    go_wp2_with fail
    go_ret
    exact ⟨rfl, hb6'.out⟩
  | false =>
    rw [Bool.false_and] at hD
    clear cb4
    iterate 9 (refine wpGt_read (o := ⟨_, _, _, _, _, _⟩) (v := ?_) rfl (by rfl) ?_ ?_; rotate_left; (intro w' hw'; go_simp; with_reducible rfl); simp only [Act.put, List.setIfInBounds_toArray, List.set_cons_zero, List.set_cons_succ])
    iterate 5
      refine wpGt_skip (o := ⟨_, _, _, _, _, _⟩) rfl (by rfl) ?_
      simp only [Act.put, List.setIfInBounds_toArray, List.set_cons_zero, List.set_cons_succ]
    iterate 19 (refine wpGt_read (o := ⟨_, _, _, _, _, _⟩) (v := ?_) rfl (by rfl) ?_ ?_; rotate_left; (intro w' hw'; go_simp; with_reducible rfl); simp only [Act.put, List.setIfInBounds_toArray, List.set_cons_zero, List.set_cons_succ])
    refine wpGt_call (o := ⟨_, _, _, _, _, _⟩) rfl (by rfl) (fun K hK => ?_)
    go_simp
    refine Hbl.out.mono ?_
    rintro e w' ⟨rfl, rfl⟩
    refine hK _ _ (Turn.refl _ _) ?_
    clear hK K
    iterate 13 (refine wpGt_read (o := ⟨_, _, _, _, _, _⟩) (v := ?_) rfl (by rfl) ?_ ?_; rotate_left; (intro w' hw'; go_simp; with_reducible rfl); simp only [Act.put, List.setIfInBounds_toArray, List.set_cons_zero, List.set_cons_succ])
    refine wpGt_call (o := ⟨_, _, _, _, _, _⟩) rfl (by rfl) (fun K hK => ?_)
    go_simp
    refine (sure_any w4 (HG.out.below hbd4.out) (HT.out.below hbd4.out)).mono ?_
    rintro e w6 ⟨rfl, hb6⟩
    refine hK _ _ (Turn.ofBelow hb6) ?_
    clear hK K cx cy ca4 cl
    have hb6' := Lib.hid (hbd4.out.trans (hb6.mono hbd4.out.size))
    iterate 2 (refine wpGt_read (o := ⟨_, _, _, _, _, _⟩) (v := ?_) rfl (by rfl) ?_ ?_; rotate_left; (intro w' hw'; go_simp; with_reducible rfl); simp only [Act.put, List.setIfInBounds_toArray, List.set_cons_zero, List.set_cons_succ])
    refine wpGt_done ?_
    go_wp2_with fail
    go_ret
    exact ⟨rfl, hb6'.out⟩
end Go.Proofs.YtnnifjhpnanijaaDoor
