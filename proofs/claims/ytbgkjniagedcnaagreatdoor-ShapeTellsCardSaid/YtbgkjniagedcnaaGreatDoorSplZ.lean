/-
  tree's spliced, at cells, pointers and texts.
-/
import Derived.Test.YtbgkjniagedcnaaGreatDoorNodeZ
import Derived.Test.YtbgkjniagedcnaaGreatDoorTurnZ
import Derived.WalkKit
import Derived.Below
import Derived.Lib.Hide
import Derived.Lib.AppendZerosOnto
import Derived.Lib.SliceRun
namespace Go.Proofs.YtbgkjniagedcnaaGreatDoor
open Go Go.RowKit

theorem turn_of_below {B : Nat} {a b : World} (h : Below B a b) : Turn (fun i => B ≤ i) a b := ⟨h.os, h.tape, h.output, h.size, fun i _ hF => h.block i (by omega)⟩
set_option maxRecDepth 100000 in
theorem splE_any (a : Option Addr) (n c : Nat) (l : List Rw) (p q : Nat) (a2 : Option Addr) (n2 c2 : Nat) (m : List Rw) (w : World) (hn : l.length = n) (hs : ES celE w a l) (hnc : n ≤ c) (hcm : c ≤ maxLen) (hz : a = none → c = 0)
    (hpq : p + q ≤ n) (hn2 : m.length = n2) (hz2 : a2 = none → c2 = 0) (hm : ES celE w a2 m) (hl : n ≤ 1000000) (hl2 : n2 ≤ 1000000) :
    Calls Tryz.prog 79 #[.slice a n c, .int .i64 p, .int .i64 q, .slice a2 n2 c2] w fun e w' => ∃ v, e = .returned v ∧ EV celE w' v (l.take p ++ (m ++ l.drop (p + q))) ∧ Below w.heap.size w w' := by
  have hbd : Below w.heap.size w w.drew := (Below.refl _ _).drew
  have hcm' : c ≤ 9223372036854775807 := by unfold maxLen at hcm; omega
  have z00 : IntKind.i64.wrap 0 = 0 := by decide
  rcases hs with ⟨rfl, rfl⟩ | ⟨g, o, rfl, hc⟩
  · obtain rfl : n = 0 := hn.symm
    obtain rfl := hz rfl
    obtain rfl : p = 0 := by omega
    obtain rfl : q = 0 := by omega
    obtain ⟨v1, w1, v2, w2, h1, hb1, h2, hb12, hb2, hev⟩ := run_app_two (P := Tryz.prog) (w := w.drew) (E := celE) 75 75 75 94 Tryz.underlying75 infoTC none 0 [] rfl (ES.nil _) a2 n2 c2 m hn2 hz2 (hm.below hbd (Nat.le_refl _)) none 0 0 [] rfl (fun _ => rfl) (ES.nil _) (by unfold maxLen; omega) (by show (0 + n2 + 0) * 56 ≤ _; omega)
    have Hev := Lib.hid hev
    have Hb := Lib.hid (hbd.trans hb2)
    have e1 := Lib.hid (turn_of_below hb1)
    have e2 := Lib.hid (turn_of_below hb12)
    clear hev hb1 hb2 hb12 hbd hm hn2 hz2 hl2 hn
    go_enter Tryz.func79, Tryz.ntmps79
    go_wp2_with fail
    refine wp_region_gt (F := fun i => w.heap.size ≤ i) [(0, true), (1, true), (2, true), (3, true), (4, true), (6, true), (7, true), (8, true), (9, true), (10, true), (5, false), (11, false), (12, true)] (by kernel_rfl) (by kernel_rfl) (by kernel_rfl) (by kernel_rfl) (fun _ _ _ _ _ h => h) ?_
    iterate 10 (refine wpGt_read (o := ⟨_, _, _, _, _, _⟩) (v := ?_) rfl (by rfl) ?_ ?_; rotate_left; (intro w' hw'; go_simp; with_reducible rfl); simp only [Act.put, List.setIfInBounds_toArray, List.set_cons_zero, List.set_cons_succ])
    refine wpGt_call (o := ⟨_, _, _, _, _, _⟩) rfl (by rfl) (fun K hK => ?_)
    refine wp_app_run (.tmp 12) (.tmp 13) 75 rfl (by rfl) (by rfl) h1 ?_
    refine hK _ _ e1.out ?_
    simp only [Act.put, List.setIfInBounds_toArray, List.set_cons_zero, List.set_cons_succ]
    clear hK K h1
    refine wpGt_call (o := ⟨_, _, _, _, _, _⟩) rfl (by rfl) (fun K hK => ?_)
    refine wp_app_run (.tmp 14) (.tmp 19) 75 rfl (by rfl) (by rfl) h2 ?_
    refine hK _ _ e2.out ?_
    simp only [Act.put, List.setIfInBounds_toArray, List.set_cons_zero, List.set_cons_succ]
    clear hK K h2
    (refine wpGt_read (o := ⟨_, _, _, _, _, _⟩) (v := ?_) rfl (by rfl) ?_ ?_; rotate_left; (intro w' hw'; go_simp; with_reducible rfl); simp only [Act.put, List.setIfInBounds_toArray, List.set_cons_zero, List.set_cons_succ])
    refine wpGt_done ?_
    go_wp2_with fail
    go_ret
    exact ⟨_, rfl, Hev.out, Hb.out⟩
  · have z1 : IntKind.i64.wrap ((p : Int) + (q : Int)) = ((p + q : Nat) : Int) := by rw [IntKind.wrap_i64]; omega
    have z0 : IntKind.i64.wrap (p : Int) = (p : Int) := by rw [IntKind.wrap_i64]; omega
    obtain ⟨r, hr⟩ : ∃ r, r = p + q := ⟨_, rfl⟩
    rw [← hr] at z1 ⊢
    have z2 : IntKind.i64.wrap (r : Int) = (r : Int) := by rw [IntKind.wrap_i64]; omega
    have hs : ES celE w (some ⟨g, o, none⟩) l := .inr ⟨g, o, rfl, hc⟩
    obtain ⟨A3, hA3⟩ : ∃ A3, (if c = r then some (⟨g, o, none⟩ : Addr) else some ⟨g, o + r * 3, none⟩) = A3 := ⟨_, rfl⟩
    have hs3 : ES celE w A3 (l.drop r) := by
      rw [← hA3]
      by_cases h : c = r
      · rw [if_pos h, List.drop_of_length_le (by omega)]
        exact .inr ⟨g, o, rfl, hc.1, fun j u hu => by simp [Elt.row] at hu⟩
      · rw [if_neg h]; exact hs.drop r _ (by omega) (by show _ = o + r * 3; omega)
    have hz3 : A3 = none → c - r = 0 := fun h => by rw [← hA3] at h; split at h <;> cases h
    obtain ⟨v1, w1, v2, w2, h1, hb1, h2, hb12, hb2, hev⟩ := run_app_two (P := Tryz.prog) (w := w.drew) (E := celE) 75 75 75 94 Tryz.underlying75 infoTC (some ⟨g, o, none⟩) p (l.take p) (by rw [List.length_take]; omega) ((hs.take p).below hbd (Nat.le_refl _)) a2 n2 c2 m hn2 hz2 (hm.below hbd (Nat.le_refl _))
      A3 (n - r) (c - r) (l.drop r) (by rw [List.length_drop]; omega) hz3 (hs3.below hbd (Nat.le_refl _)) (by unfold maxLen; omega) (by show (p + n2 + (n - r)) * 56 ≤ _; omega)
    have Hev := Lib.hid hev
    have Hb := Lib.hid (hbd.trans hb2)
    have e1 := Lib.hid (turn_of_below hb1)
    have e2 := Lib.hid (turn_of_below hb12)
    have i1 : (0 : Int) ≤ (p : Int) := by omega
    have i2 : (p : Int) ≤ (c : Int) := by omega
    have i3 : (r : Int) ≤ (n : Int) := by omega
    have i4 : (0 : Int) ≤ (r : Int) := by omega
    have i5 : (n : Int) ≤ (c : Int) := by omega
    have j2 : p ≤ c := by omega
    have j3 : r ≤ n := by omega
    clear hev hb1 hb2 hb12 hbd hm hn2 hz2 hl2 hn hs hc hz hpq hr hs3 hz3
    go_enter Tryz.func79, Tryz.ntmps79
    go_wp2_with fail
    refine wp_region_gt (F := fun i => w.heap.size ≤ i) [(0, true), (1, true), (2, true), (3, true), (4, true), (6, true), (7, true), (8, true), (9, true), (10, true), (5, false), (11, false), (12, true)] (by kernel_rfl) (by kernel_rfl) (by kernel_rfl) (by kernel_rfl) (fun _ _ _ _ _ h => h) ?_
    iterate 10 (refine wpGt_read (o := ⟨_, _, _, _, _, _⟩) (v := ?_) rfl (by rfl) ?_ ?_; rotate_left; (intro w' hw'; go_simp; with_reducible rfl); simp only [Act.put, List.setIfInBounds_toArray, List.set_cons_zero, List.set_cons_succ])
    refine wpGt_call (o := ⟨_, _, _, _, _, _⟩) rfl (by rfl) (fun K hK => ?_)
    refine wp_app_run (.tmp 12) (.tmp 13) 75 rfl (by rfl) (by rfl) h1 ?_
    refine hK _ _ e1.out ?_
    simp only [Act.put, List.setIfInBounds_toArray, List.set_cons_zero, List.set_cons_succ]
    clear hK K h1
    refine wpGt_call (o := ⟨_, _, _, _, _, _⟩) rfl (by rfl) (fun K hK => ?_)
    refine wp_app_run (.tmp 14) (.tmp 19) 75 rfl (by rfl) (by rfl) h2 ?_
    refine hK _ _ e2.out ?_
    simp only [Act.put, List.setIfInBounds_toArray, List.set_cons_zero, List.set_cons_succ]
    clear hK K h2
    (refine wpGt_read (o := ⟨_, _, _, _, _, _⟩) (v := ?_) rfl (by rfl) ?_ ?_; rotate_left; (intro w' hw'; go_simp; with_reducible rfl); simp only [Act.put, List.setIfInBounds_toArray, List.set_cons_zero, List.set_cons_succ])
    refine wpGt_done ?_
    go_wp2_with fail
    go_ret
    exact ⟨_, rfl, Hev.out, Hb.out⟩
set_option maxRecDepth 100000 in
theorem splP_any (a : Option Addr) (n c : Nat) (l : List Nat) (p q : Nat) (a2 : Option Addr) (n2 c2 : Nat) (m : List Nat) (w : World) (hn : l.length = n) (hs : ES ptrE w a l) (hnc : n ≤ c) (hcm : c ≤ maxLen) (hz : a = none → c = 0)
    (hpq : p + q ≤ n) (hn2 : m.length = n2) (hz2 : a2 = none → c2 = 0) (hm : ES ptrE w a2 m) (hl : n ≤ 1000000) (hl2 : n2 ≤ 1000000) :
    Calls Tryz.prog 89 #[.slice a n c, .int .i64 p, .int .i64 q, .slice a2 n2 c2] w fun e w' => ∃ v, e = .returned v ∧ EV ptrE w' v (l.take p ++ (m ++ l.drop (p + q))) ∧ Below w.heap.size w w' := by
  have hbd : Below w.heap.size w w.drew := (Below.refl _ _).drew
  have hcm' : c ≤ 9223372036854775807 := by unfold maxLen at hcm; omega
  have z00 : IntKind.i64.wrap 0 = 0 := by decide
  rcases hs with ⟨rfl, rfl⟩ | ⟨g, o, rfl, hc⟩
  · obtain rfl : n = 0 := hn.symm
    obtain rfl := hz rfl
    obtain rfl : p = 0 := by omega
    obtain rfl : q = 0 := by omega
    obtain ⟨v1, w1, v2, w2, h1, hb1, h2, hb12, hb2, hev⟩ := run_app_two (P := Tryz.prog) (w := w.drew) (E := ptrE) 76 76 76 25 Tryz.underlying76 infoP none 0 [] rfl (ES.nil _) a2 n2 c2 m hn2 hz2 (hm.below hbd (Nat.le_refl _)) none 0 0 [] rfl (fun _ => rfl) (ES.nil _) (by unfold maxLen; omega) (by show (0 + n2 + 0) * 8 ≤ _; omega)
    have Hev := Lib.hid hev
    have Hb := Lib.hid (hbd.trans hb2)
    have e1 := Lib.hid (turn_of_below hb1)
    have e2 := Lib.hid (turn_of_below hb12)
    clear hev hb1 hb2 hb12 hbd hm hn2 hz2 hl2 hn
    go_enter Tryz.func89, Tryz.ntmps89
    go_wp2_with fail
    refine wp_region_gt (F := fun i => w.heap.size ≤ i) [(0, true), (1, true), (2, true), (3, true), (4, true), (6, true), (7, true), (8, true), (9, true), (10, true), (5, false), (11, false), (12, true)] (by kernel_rfl) (by kernel_rfl) (by kernel_rfl) (by kernel_rfl) (fun _ _ _ _ _ h => h) ?_
    iterate 10 (refine wpGt_read (o := ⟨_, _, _, _, _, _⟩) (v := ?_) rfl (by rfl) ?_ ?_; rotate_left; (intro w' hw'; go_simp; with_reducible rfl); simp only [Act.put, List.setIfInBounds_toArray, List.set_cons_zero, List.set_cons_succ])
    refine wpGt_call (o := ⟨_, _, _, _, _, _⟩) rfl (by rfl) (fun K hK => ?_)
    refine wp_app_run (.tmp 12) (.tmp 13) 76 rfl (by rfl) (by rfl) h1 ?_
    refine hK _ _ e1.out ?_
    simp only [Act.put, List.setIfInBounds_toArray, List.set_cons_zero, List.set_cons_succ]
    clear hK K h1
    refine wpGt_call (o := ⟨_, _, _, _, _, _⟩) rfl (by rfl) (fun K hK => ?_)
    refine wp_app_run (.tmp 14) (.tmp 19) 76 rfl (by rfl) (by rfl) h2 ?_
    refine hK _ _ e2.out ?_
    simp only [Act.put, List.setIfInBounds_toArray, List.set_cons_zero, List.set_cons_succ]
    clear hK K h2
    (refine wpGt_read (o := ⟨_, _, _, _, _, _⟩) (v := ?_) rfl (by rfl) ?_ ?_; rotate_left; (intro w' hw'; go_simp; with_reducible rfl); simp only [Act.put, List.setIfInBounds_toArray, List.set_cons_zero, List.set_cons_succ])
    refine wpGt_done ?_
    go_wp2_with fail
    go_ret
    exact ⟨_, rfl, Hev.out, Hb.out⟩
  · have z1 : IntKind.i64.wrap ((p : Int) + (q : Int)) = ((p + q : Nat) : Int) := by rw [IntKind.wrap_i64]; omega
    have z0 : IntKind.i64.wrap (p : Int) = (p : Int) := by rw [IntKind.wrap_i64]; omega
    obtain ⟨r, hr⟩ : ∃ r, r = p + q := ⟨_, rfl⟩
    rw [← hr] at z1 ⊢
    have z2 : IntKind.i64.wrap (r : Int) = (r : Int) := by rw [IntKind.wrap_i64]; omega
    have hs : ES ptrE w (some ⟨g, o, none⟩) l := .inr ⟨g, o, rfl, hc⟩
    obtain ⟨A3, hA3⟩ : ∃ A3, (if c = r then some (⟨g, o, none⟩ : Addr) else some ⟨g, o + r, none⟩) = A3 := ⟨_, rfl⟩
    have hs3 : ES ptrE w A3 (l.drop r) := by
      rw [← hA3]
      by_cases h : c = r
      · rw [if_pos h, List.drop_of_length_le (by omega)]
        exact .inr ⟨g, o, rfl, hc.1, fun j u hu => by simp [Elt.row] at hu⟩
      · rw [if_neg h]; exact hs.drop r _ (by omega) (by show _ = o + r * 1; omega)
    have hz3 : A3 = none → c - r = 0 := fun h => by rw [← hA3] at h; split at h <;> cases h
    obtain ⟨v1, w1, v2, w2, h1, hb1, h2, hb12, hb2, hev⟩ := run_app_two (P := Tryz.prog) (w := w.drew) (E := ptrE) 76 76 76 25 Tryz.underlying76 infoP (some ⟨g, o, none⟩) p (l.take p) (by rw [List.length_take]; omega) ((hs.take p).below hbd (Nat.le_refl _)) a2 n2 c2 m hn2 hz2 (hm.below hbd (Nat.le_refl _))
      A3 (n - r) (c - r) (l.drop r) (by rw [List.length_drop]; omega) hz3 (hs3.below hbd (Nat.le_refl _)) (by unfold maxLen; omega) (by show (p + n2 + (n - r)) * 8 ≤ _; omega)
    have Hev := Lib.hid hev
    have Hb := Lib.hid (hbd.trans hb2)
    have e1 := Lib.hid (turn_of_below hb1)
    have e2 := Lib.hid (turn_of_below hb12)
    have i1 : (0 : Int) ≤ (p : Int) := by omega
    have i2 : (p : Int) ≤ (c : Int) := by omega
    have i3 : (r : Int) ≤ (n : Int) := by omega
    have i4 : (0 : Int) ≤ (r : Int) := by omega
    have i5 : (n : Int) ≤ (c : Int) := by omega
    have j2 : p ≤ c := by omega
    have j3 : r ≤ n := by omega
    clear hev hb1 hb2 hb12 hbd hm hn2 hz2 hl2 hn hs hc hz hpq hr hs3 hz3
    go_enter Tryz.func89, Tryz.ntmps89
    go_wp2_with fail
    refine wp_region_gt (F := fun i => w.heap.size ≤ i) [(0, true), (1, true), (2, true), (3, true), (4, true), (6, true), (7, true), (8, true), (9, true), (10, true), (5, false), (11, false), (12, true)] (by kernel_rfl) (by kernel_rfl) (by kernel_rfl) (by kernel_rfl) (fun _ _ _ _ _ h => h) ?_
    iterate 10 (refine wpGt_read (o := ⟨_, _, _, _, _, _⟩) (v := ?_) rfl (by rfl) ?_ ?_; rotate_left; (intro w' hw'; go_simp; with_reducible rfl); simp only [Act.put, List.setIfInBounds_toArray, List.set_cons_zero, List.set_cons_succ])
    refine wpGt_call (o := ⟨_, _, _, _, _, _⟩) rfl (by rfl) (fun K hK => ?_)
    refine wp_app_run (.tmp 12) (.tmp 13) 76 rfl (by rfl) (by rfl) h1 ?_
    refine hK _ _ e1.out ?_
    simp only [Act.put, List.setIfInBounds_toArray, List.set_cons_zero, List.set_cons_succ]
    clear hK K h1
    refine wpGt_call (o := ⟨_, _, _, _, _, _⟩) rfl (by rfl) (fun K hK => ?_)
    refine wp_app_run (.tmp 14) (.tmp 19) 76 rfl (by rfl) (by rfl) h2 ?_
    refine hK _ _ e2.out ?_
    simp only [Act.put, List.setIfInBounds_toArray, List.set_cons_zero, List.set_cons_succ]
    clear hK K h2
    (refine wpGt_read (o := ⟨_, _, _, _, _, _⟩) (v := ?_) rfl (by rfl) ?_ ?_; rotate_left; (intro w' hw'; go_simp; with_reducible rfl); simp only [Act.put, List.setIfInBounds_toArray, List.set_cons_zero, List.set_cons_succ])
    refine wpGt_done ?_
    go_wp2_with fail
    go_ret
    exact ⟨_, rfl, Hev.out, Hb.out⟩
set_option maxRecDepth 100000 in
theorem splS_any (a : Option Addr) (n c : Nat) (l : List ByteArray) (p q : Nat) (a2 : Option Addr) (n2 c2 : Nat) (m : List ByteArray) (w : World) (hn : l.length = n) (hs : ES strE w a l) (hnc : n ≤ c) (hcm : c ≤ maxLen) (hz : a = none → c = 0)
    (hpq : p + q ≤ n) (hn2 : m.length = n2) (hz2 : a2 = none → c2 = 0) (hm : ES strE w a2 m) (hl : n ≤ 1000000) (hl2 : n2 ≤ 1000000) :
    Calls Tryz.prog 91 #[.slice a n c, .int .i64 p, .int .i64 q, .slice a2 n2 c2] w fun e w' => ∃ v, e = .returned v ∧ EV strE w' v (l.take p ++ (m ++ l.drop (p + q))) ∧ Below w.heap.size w w' := by
  have hbd : Below w.heap.size w w.drew := (Below.refl _ _).drew
  have hcm' : c ≤ 9223372036854775807 := by unfold maxLen at hcm; omega
  have z00 : IntKind.i64.wrap 0 = 0 := by decide
  rcases hs with ⟨rfl, rfl⟩ | ⟨g, o, rfl, hc⟩
  · obtain rfl : n = 0 := hn.symm
    obtain rfl := hz rfl
    obtain rfl : p = 0 := by omega
    obtain rfl : q = 0 := by omega
    obtain ⟨v1, w1, v2, w2, h1, hb1, h2, hb12, hb2, hev⟩ := run_app_two (P := Tryz.prog) (w := w.drew) (E := strE) 73 73 73 9 Tryz.underlying73 infoSt none 0 [] rfl (ES.nil _) a2 n2 c2 m hn2 hz2 (hm.below hbd (Nat.le_refl _)) none 0 0 [] rfl (fun _ => rfl) (ES.nil _) (by unfold maxLen; omega) (by show (0 + n2 + 0) * 16 ≤ _; omega)
    have Hev := Lib.hid hev
    have Hb := Lib.hid (hbd.trans hb2)
    have e1 := Lib.hid (turn_of_below hb1)
    have e2 := Lib.hid (turn_of_below hb12)
    clear hev hb1 hb2 hb12 hbd hm hn2 hz2 hl2 hn
    go_enter Tryz.func91, Tryz.ntmps91
    go_wp2_with fail
    refine wp_region_gt (F := fun i => w.heap.size ≤ i) [(0, true), (1, true), (2, true), (3, true), (4, true), (6, true), (7, true), (8, true), (9, true), (10, true), (5, false), (11, false), (12, true)] (by kernel_rfl) (by kernel_rfl) (by kernel_rfl) (by kernel_rfl) (fun _ _ _ _ _ h => h) ?_
    iterate 10 (refine wpGt_read (o := ⟨_, _, _, _, _, _⟩) (v := ?_) rfl (by rfl) ?_ ?_; rotate_left; (intro w' hw'; go_simp; with_reducible rfl); simp only [Act.put, List.setIfInBounds_toArray, List.set_cons_zero, List.set_cons_succ])
    refine wpGt_call (o := ⟨_, _, _, _, _, _⟩) rfl (by rfl) (fun K hK => ?_)
    refine wp_app_run (.tmp 12) (.tmp 13) 73 rfl (by rfl) (by rfl) h1 ?_
    refine hK _ _ e1.out ?_
    simp only [Act.put, List.setIfInBounds_toArray, List.set_cons_zero, List.set_cons_succ]
    clear hK K h1
    refine wpGt_call (o := ⟨_, _, _, _, _, _⟩) rfl (by rfl) (fun K hK => ?_)
    refine wp_app_run (.tmp 14) (.tmp 19) 73 rfl (by rfl) (by rfl) h2 ?_
    refine hK _ _ e2.out ?_
    simp only [Act.put, List.setIfInBounds_toArray, List.set_cons_zero, List.set_cons_succ]
    clear hK K h2
    (refine wpGt_read (o := ⟨_, _, _, _, _, _⟩) (v := ?_) rfl (by rfl) ?_ ?_; rotate_left; (intro w' hw'; go_simp; with_reducible rfl); simp only [Act.put, List.setIfInBounds_toArray, List.set_cons_zero, List.set_cons_succ])
    refine wpGt_done ?_
    go_wp2_with fail
    go_ret
    exact ⟨_, rfl, Hev.out, Hb.out⟩
  · have z1 : IntKind.i64.wrap ((p : Int) + (q : Int)) = ((p + q : Nat) : Int) := by rw [IntKind.wrap_i64]; omega
    have z0 : IntKind.i64.wrap (p : Int) = (p : Int) := by rw [IntKind.wrap_i64]; omega
    obtain ⟨r, hr⟩ : ∃ r, r = p + q := ⟨_, rfl⟩
    rw [← hr] at z1 ⊢
    have z2 : IntKind.i64.wrap (r : Int) = (r : Int) := by rw [IntKind.wrap_i64]; omega
    have hs : ES strE w (some ⟨g, o, none⟩) l := .inr ⟨g, o, rfl, hc⟩
    obtain ⟨A3, hA3⟩ : ∃ A3, (if c = r then some (⟨g, o, none⟩ : Addr) else some ⟨g, o + r, none⟩) = A3 := ⟨_, rfl⟩
    have hs3 : ES strE w A3 (l.drop r) := by
      rw [← hA3]
      by_cases h : c = r
      · rw [if_pos h, List.drop_of_length_le (by omega)]
        exact .inr ⟨g, o, rfl, hc.1, fun j u hu => by simp [Elt.row] at hu⟩
      · rw [if_neg h]; exact hs.drop r _ (by omega) (by show _ = o + r * 1; omega)
    have hz3 : A3 = none → c - r = 0 := fun h => by rw [← hA3] at h; split at h <;> cases h
    obtain ⟨v1, w1, v2, w2, h1, hb1, h2, hb12, hb2, hev⟩ := run_app_two (P := Tryz.prog) (w := w.drew) (E := strE) 73 73 73 9 Tryz.underlying73 infoSt (some ⟨g, o, none⟩) p (l.take p) (by rw [List.length_take]; omega) ((hs.take p).below hbd (Nat.le_refl _)) a2 n2 c2 m hn2 hz2 (hm.below hbd (Nat.le_refl _))
      A3 (n - r) (c - r) (l.drop r) (by rw [List.length_drop]; omega) hz3 (hs3.below hbd (Nat.le_refl _)) (by unfold maxLen; omega) (by show (p + n2 + (n - r)) * 16 ≤ _; omega)
    have Hev := Lib.hid hev
    have Hb := Lib.hid (hbd.trans hb2)
    have e1 := Lib.hid (turn_of_below hb1)
    have e2 := Lib.hid (turn_of_below hb12)
    have i1 : (0 : Int) ≤ (p : Int) := by omega
    have i2 : (p : Int) ≤ (c : Int) := by omega
    have i3 : (r : Int) ≤ (n : Int) := by omega
    have i4 : (0 : Int) ≤ (r : Int) := by omega
    have i5 : (n : Int) ≤ (c : Int) := by omega
    have j2 : p ≤ c := by omega
    have j3 : r ≤ n := by omega
    clear hev hb1 hb2 hb12 hbd hm hn2 hz2 hl2 hn hs hc hz hpq hr hs3 hz3
    go_enter Tryz.func91, Tryz.ntmps91
    go_wp2_with fail
    refine wp_region_gt (F := fun i => w.heap.size ≤ i) [(0, true), (1, true), (2, true), (3, true), (4, true), (6, true), (7, true), (8, true), (9, true), (10, true), (5, false), (11, false), (12, true)] (by kernel_rfl) (by kernel_rfl) (by kernel_rfl) (by kernel_rfl) (fun _ _ _ _ _ h => h) ?_
    iterate 10 (refine wpGt_read (o := ⟨_, _, _, _, _, _⟩) (v := ?_) rfl (by rfl) ?_ ?_; rotate_left; (intro w' hw'; go_simp; with_reducible rfl); simp only [Act.put, List.setIfInBounds_toArray, List.set_cons_zero, List.set_cons_succ])
    refine wpGt_call (o := ⟨_, _, _, _, _, _⟩) rfl (by rfl) (fun K hK => ?_)
    refine wp_app_run (.tmp 12) (.tmp 13) 73 rfl (by rfl) (by rfl) h1 ?_
    refine hK _ _ e1.out ?_
    simp only [Act.put, List.setIfInBounds_toArray, List.set_cons_zero, List.set_cons_succ]
    clear hK K h1
    refine wpGt_call (o := ⟨_, _, _, _, _, _⟩) rfl (by rfl) (fun K hK => ?_)
    refine wp_app_run (.tmp 14) (.tmp 19) 73 rfl (by rfl) (by rfl) h2 ?_
    refine hK _ _ e2.out ?_
    simp only [Act.put, List.setIfInBounds_toArray, List.set_cons_zero, List.set_cons_succ]
    clear hK K h2
    (refine wpGt_read (o := ⟨_, _, _, _, _, _⟩) (v := ?_) rfl (by rfl) ?_ ?_; rotate_left; (intro w' hw'; go_simp; with_reducible rfl); simp only [Act.put, List.setIfInBounds_toArray, List.set_cons_zero, List.set_cons_succ])
    refine wpGt_done ?_
    go_wp2_with fail
    go_ret
    exact ⟨_, rfl, Hev.out, Hb.out⟩
/-- spliced at cells, by what they say. -/
theorem splC_any (a : Option Addr) (n c : Nat) (l : List En) (p q : Nat) (a2 : Option Addr) (n2 c2 : Nat) (m : List En) (w : World) (hn : l.length = n) (hs : CS w a l) (hnc : n ≤ c) (hcm : c ≤ maxLen) (hz : a = none → c = 0)
    (hpq : p + q ≤ n) (hn2 : m.length = n2) (hz2 : a2 = none → c2 = 0) (hm : CS w a2 m) (hl : n ≤ 1000000) (hl2 : n2 ≤ 1000000) :
    Calls Tryz.prog 79 #[.slice a n c, .int .i64 p, .int .i64 q, .slice a2 n2 c2] w fun e w' => ∃ v, e = .returned v ∧ CV w' v (l.take p ++ (m ++ l.drop (p + q))) ∧ Below w.heap.size w w' := by
  obtain ⟨xs, h1, h2⟩ := hs
  obtain ⟨ys, k1, k2⟩ := hm
  refine (splE_any a n c xs p q a2 n2 c2 ys w (by rw [h2.len]; exact hn) h1 hnc hcm hz hpq (by rw [k2.len]; exact hn2) hz2 k1 hl hl2).mono ?_
  rintro e w' ⟨v, rfl, hev, hb⟩
  exact ⟨v, rfl, CV.of hev (((h2.take p).app (k2.app (h2.drop _))).below hb (Nat.le_refl _)), hb⟩
end Go.Proofs.YtbgkjniagedcnaaGreatDoor
