/-
  What the law PlanFew stands on.
-/
import Derived.Test.YtdgladhfibfdlaaGreatDoorQPlanFew14
import Derived.Test.YtdgladhfibfdlaaGreatDoorQPlanFew01
import Derived.WalkKit
import Derived.Below
import Derived.Lib.Hide
import Derived.Lib.AppendZerosOnto
import Derived.Lib.SliceRun
import Derived.Shelf.GgClosure.Gives
import Derived.Test.YtdgladhfibfdlaaGreatDoorProg
import Derived.Test.YtdgladhfibfdlaaGreatDoorQPlanFew07
import Derived.Test.YtdgladhfibfdlaaGreatDoorQPlanFew15
namespace Go.Proofs.YtdgladhfibfdlaaGreatDoor
open Go Go.RowKit
theorem turn_of_below {B : Nat} {a b : World} (h : Below B a b) : Turn (fun i => B ≤ i) a b := ⟨h.os, h.tape, h.output, h.size, fun i _ hF => h.block i (by omega)⟩
set_option maxRecDepth 100000 in
theorem splE_any (a : Option Addr) (n c : Nat) (l : List Rw) (p q : Nat) (a2 : Option Addr) (n2 c2 : Nat) (m : List Rw) (w : World) (hn : l.length = n) (hs : ES celE w a l) (hnc : n ≤ c) (hcm : c ≤ maxLen) (hz : a = none → c = 0)
    (hpq : p + q ≤ n) (hn2 : m.length = n2) (hz2 : a2 = none → c2 = 0) (hm : ES celE w a2 m) (hl : n ≤ 1000000) (hl2 : n2 ≤ 1000000) :
    Calls Tryz.prog 120 #[.slice a n c, .int .i64 p, .int .i64 q, .slice a2 n2 c2] w fun e w' => ∃ v, e = .returned v ∧ EV celE w' v (l.take p ++ (m ++ l.drop (p + q))) ∧ Below w.heap.size w w' := by
  have hbd : Below w.heap.size w w.drew := (Below.refl _ _).drew
  have hcm' : c ≤ 9223372036854775807 := by unfold maxLen at hcm; omega
  have z00 : IntKind.i64.wrap 0 = 0 := by decide
  rcases hs with ⟨rfl, rfl⟩ | ⟨g, o, rfl, hc⟩
  · obtain rfl : n = 0 := hn.symm
    obtain rfl := hz rfl
    obtain rfl : p = 0 := by omega
    obtain rfl : q = 0 := by omega
    obtain ⟨v1, w1, v2, w2, h1, hb1, h2, hb12, hb2, hev⟩ := run_app_two (P := Tryz.prog) (w := w.drew) (E := celE) 91 91 91 128 Tryz.underlying91 infoTC none 0 [] rfl (ES.nil _) a2 n2 c2 m hn2 hz2 (hm.below hbd (Nat.le_refl _)) none 0 0 [] rfl (fun _ => rfl) (ES.nil _) (by unfold maxLen; omega) (by show (0 + n2 + 0) * 56 ≤ _; omega)
    have Hev := Lib.hid hev
    have Hb := Lib.hid (hbd.trans hb2)
    have e1 := Lib.hid (turn_of_below hb1)
    have e2 := Lib.hid (turn_of_below hb12)
    clear hev hb1 hb2 hb12 hbd hm hn2 hz2 hl2 hn
    go_enter Tryz.func120, Tryz.ntmps120
    go_wp2_with fail
    refine wp_region_gt (F := fun i => w.heap.size ≤ i) [(0, true), (1, true), (2, true), (3, true), (4, true), (6, true), (7, true), (8, true), (9, true), (10, true), (5, false), (11, false), (12, true)] (by kernel_rfl) (by kernel_rfl) (by kernel_rfl) (by kernel_rfl) (fun _ _ _ _ _ h => h) ?_
    iterate 10 (refine wpGt_read (o := ⟨_, _, _, _, _, _⟩) (v := ?_) rfl (by rfl) ?_ ?_; rotate_left; (intro w' hw'; go_simp; with_reducible rfl); simp only [Act.put, List.setIfInBounds_toArray, List.set_cons_zero, List.set_cons_succ])
    refine wpGt_call (o := ⟨_, _, _, _, _, _⟩) rfl (by rfl) (fun K hK => ?_)
    refine wp_app_run (.tmp 12) (.tmp 13) 91 rfl (by rfl) (by rfl) h1 ?_
    refine hK _ _ e1.out ?_
    simp only [Act.put, List.setIfInBounds_toArray, List.set_cons_zero, List.set_cons_succ]
    clear hK K h1
    refine wpGt_call (o := ⟨_, _, _, _, _, _⟩) rfl (by rfl) (fun K hK => ?_)
    refine wp_app_run (.tmp 14) (.tmp 19) 91 rfl (by rfl) (by rfl) h2 ?_
    refine hK _ _ e2.out ?_
    simp only [Act.put, List.setIfInBounds_toArray, List.set_cons_zero, List.set_cons_succ]
    clear hK K h2
    (refine wpGt_read (o := ⟨_, _, _, _, _, _⟩) (v := ?_) rfl (by rfl) ?_ ?_; rotate_left; (intro w' hw'; go_simp; with_reducible rfl); simp only [Act.put, List.setIfInBounds_toArray, List.set_cons_zero, List.set_cons_succ])
    refine wpGt_done ?_
    go_wp2_with fail
    go_ret
    exact ⟨_, rfl, Hev.out, Hb.out⟩
  · have z1 : IntKind.i64.wrap ((p : Int) + (q : Int)) = ((p + q : Nat) : Int) := by rw [IntKind.wrap_i64]; omega
    have z0 : IntKind.i64.wrap (p : Int) = (p : Int) := by rw [IntKind.wrap_i64]; omega
    obtain ⟨r, hr⟩ : ∃ r, r = p + q := ⟨_, rfl⟩
    rw [← hr] at z1 ⊢
    have z2 : IntKind.i64.wrap (r : Int) = (r : Int) := by rw [IntKind.wrap_i64]; omega
    have hs : ES celE w (some ⟨g, o, none⟩) l := .inr ⟨g, o, rfl, hc⟩
    obtain ⟨A3, hA3⟩ : ∃ A3, (if c = r then some (⟨g, o, none⟩ : Addr) else some ⟨g, o + r * 3, none⟩) = A3 := ⟨_, rfl⟩
    have hs3 : ES celE w A3 (l.drop r) := by
      rw [← hA3]
      by_cases h : c = r
      · rw [if_pos h, List.drop_of_length_le (by omega)]
        exact .inr ⟨g, o, rfl, hc.1, fun j u hu => by simp [Elt.row] at hu⟩
      · rw [if_neg h]; exact hs.drop r _ (by omega) (by show _ = o + r * 3; omega)
    have hz3 : A3 = none → c - r = 0 := fun h => by rw [← hA3] at h; split at h <;> cases h
    obtain ⟨v1, w1, v2, w2, h1, hb1, h2, hb12, hb2, hev⟩ := run_app_two (P := Tryz.prog) (w := w.drew) (E := celE) 91 91 91 128 Tryz.underlying91 infoTC (some ⟨g, o, none⟩) p (l.take p) (by rw [List.length_take]; omega) ((hs.take p).below hbd (Nat.le_refl _)) a2 n2 c2 m hn2 hz2 (hm.below hbd (Nat.le_refl _))
      A3 (n - r) (c - r) (l.drop r) (by rw [List.length_drop]; omega) hz3 (hs3.below hbd (Nat.le_refl _)) (by unfold maxLen; omega) (by show (p + n2 + (n - r)) * 56 ≤ _; omega)
    have Hev := Lib.hid hev
    have Hb := Lib.hid (hbd.trans hb2)
    have e1 := Lib.hid (turn_of_below hb1)
    have e2 := Lib.hid (turn_of_below hb12)
    have i1 : (0 : Int) ≤ (p : Int) := by omega
    have i2 : (p : Int) ≤ (c : Int) := by omega
    have i3 : (r : Int) ≤ (n : Int) := by omega
    have i4 : (0 : Int) ≤ (r : Int) := by omega
    have i5 : (n : Int) ≤ (c : Int) := by omega
    have j2 : p ≤ c := by omega
    have j3 : r ≤ n := by omega
    clear hev hb1 hb2 hb12 hbd hm hn2 hz2 hl2 hn hs hc hz hpq hr hs3 hz3
    go_enter Tryz.func120, Tryz.ntmps120
    go_wp2_with fail
    refine wp_region_gt (F := fun i => w.heap.size ≤ i) [(0, true), (1, true), (2, true), (3, true), (4, true), (6, true), (7, true), (8, true), (9, true), (10, true), (5, false), (11, false), (12, true)] (by kernel_rfl) (by kernel_rfl) (by kernel_rfl) (by kernel_rfl) (fun _ _ _ _ _ h => h) ?_
    iterate 10 (refine wpGt_read (o := ⟨_, _, _, _, _, _⟩) (v := ?_) rfl (by rfl) ?_ ?_; rotate_left; (intro w' hw'; go_simp; with_reducible rfl); simp only [Act.put, List.setIfInBounds_toArray, List.set_cons_zero, List.set_cons_succ])
    refine wpGt_call (o := ⟨_, _, _, _, _, _⟩) rfl (by rfl) (fun K hK => ?_)
    refine wp_app_run (.tmp 12) (.tmp 13) 91 rfl (by rfl) (by rfl) h1 ?_
    refine hK _ _ e1.out ?_
    simp only [Act.put, List.setIfInBounds_toArray, List.set_cons_zero, List.set_cons_succ]
    clear hK K h1
    refine wpGt_call (o := ⟨_, _, _, _, _, _⟩) rfl (by rfl) (fun K hK => ?_)
    refine wp_app_run (.tmp 14) (.tmp 19) 91 rfl (by rfl) (by rfl) h2 ?_
    refine hK _ _ e2.out ?_
    simp only [Act.put, List.setIfInBounds_toArray, List.set_cons_zero, List.set_cons_succ]
    clear hK K h2
    (refine wpGt_read (o := ⟨_, _, _, _, _, _⟩) (v := ?_) rfl (by rfl) ?_ ?_; rotate_left; (intro w' hw'; go_simp; with_reducible rfl); simp only [Act.put, List.setIfInBounds_toArray, List.set_cons_zero, List.set_cons_succ])
    refine wpGt_done ?_
    go_wp2_with fail
    go_ret
    exact ⟨_, rfl, Hev.out, Hb.out⟩
set_option maxRecDepth 100000 in
theorem splP_any (a : Option Addr) (n c : Nat) (l : List Nat) (p q : Nat) (a2 : Option Addr) (n2 c2 : Nat) (m : List Nat) (w : World) (hn : l.length = n) (hs : ES ptrE w a l) (hnc : n ≤ c) (hcm : c ≤ maxLen) (hz : a = none → c = 0)
    (hpq : p + q ≤ n) (hn2 : m.length = n2) (hz2 : a2 = none → c2 = 0) (hm : ES ptrE w a2 m) (hl : n ≤ 1000000) (hl2 : n2 ≤ 1000000) :
    Calls Tryz.prog 150 #[.slice a n c, .int .i64 p, .int .i64 q, .slice a2 n2 c2] w fun e w' => ∃ v, e = .returned v ∧ EV ptrE w' v (l.take p ++ (m ++ l.drop (p + q))) ∧ Below w.heap.size w w' := by
  have hbd : Below w.heap.size w w.drew := (Below.refl _ _).drew
  have hcm' : c ≤ 9223372036854775807 := by unfold maxLen at hcm; omega
  have z00 : IntKind.i64.wrap 0 = 0 := by decide
  rcases hs with ⟨rfl, rfl⟩ | ⟨g, o, rfl, hc⟩
  · obtain rfl : n = 0 := hn.symm
    obtain rfl := hz rfl
    obtain rfl : p = 0 := by omega
    obtain rfl : q = 0 := by omega
    obtain ⟨v1, w1, v2, w2, h1, hb1, h2, hb12, hb2, hev⟩ := run_app_two (P := Tryz.prog) (w := w.drew) (E := ptrE) 93 93 93 26 Tryz.underlying93 infoP none 0 [] rfl (ES.nil _) a2 n2 c2 m hn2 hz2 (hm.below hbd (Nat.le_refl _)) none 0 0 [] rfl (fun _ => rfl) (ES.nil _) (by unfold maxLen; omega) (by show (0 + n2 + 0) * 8 ≤ _; omega)
    have Hev := Lib.hid hev
    have Hb := Lib.hid (hbd.trans hb2)
    have e1 := Lib.hid (turn_of_below hb1)
    have e2 := Lib.hid (turn_of_below hb12)
    clear hev hb1 hb2 hb12 hbd hm hn2 hz2 hl2 hn
    go_enter Tryz.func150, Tryz.ntmps150
    go_wp2_with fail
    refine wp_region_gt (F := fun i => w.heap.size ≤ i) [(0, true), (1, true), (2, true), (3, true), (4, true), (6, true), (7, true), (8, true), (9, true), (10, true), (5, false), (11, false), (12, true)] (by kernel_rfl) (by kernel_rfl) (by kernel_rfl) (by kernel_rfl) (fun _ _ _ _ _ h => h) ?_
    iterate 10 (refine wpGt_read (o := ⟨_, _, _, _, _, _⟩) (v := ?_) rfl (by rfl) ?_ ?_; rotate_left; (intro w' hw'; go_simp; with_reducible rfl); simp only [Act.put, List.setIfInBounds_toArray, List.set_cons_zero, List.set_cons_succ])
    refine wpGt_call (o := ⟨_, _, _, _, _, _⟩) rfl (by rfl) (fun K hK => ?_)
    refine wp_app_run (.tmp 12) (.tmp 13) 93 rfl (by rfl) (by rfl) h1 ?_
    refine hK _ _ e1.out ?_
    simp only [Act.put, List.setIfInBounds_toArray, List.set_cons_zero, List.set_cons_succ]
    clear hK K h1
    refine wpGt_call (o := ⟨_, _, _, _, _, _⟩) rfl (by rfl) (fun K hK => ?_)
    refine wp_app_run (.tmp 14) (.tmp 19) 93 rfl (by rfl) (by rfl) h2 ?_
    refine hK _ _ e2.out ?_
    simp only [Act.put, List.setIfInBounds_toArray, List.set_cons_zero, List.set_cons_succ]
    clear hK K h2
    (refine wpGt_read (o := ⟨_, _, _, _, _, _⟩) (v := ?_) rfl (by rfl) ?_ ?_; rotate_left; (intro w' hw'; go_simp; with_reducible rfl); simp only [Act.put, List.setIfInBounds_toArray, List.set_cons_zero, List.set_cons_succ])
    refine wpGt_done ?_
    go_wp2_with fail
    go_ret
    exact ⟨_, rfl, Hev.out, Hb.out⟩
  · have z1 : IntKind.i64.wrap ((p : Int) + (q : Int)) = ((p + q : Nat) : Int) := by rw [IntKind.wrap_i64]; omega
    have z0 : IntKind.i64.wrap (p : Int) = (p : Int) := by rw [IntKind.wrap_i64]; omega
    obtain ⟨r, hr⟩ : ∃ r, r = p + q := ⟨_, rfl⟩
    rw [← hr] at z1 ⊢
    have z2 : IntKind.i64.wrap (r : Int) = (r : Int) := by rw [IntKind.wrap_i64]; omega
    have hs : ES ptrE w (some ⟨g, o, none⟩) l := .inr ⟨g, o, rfl, hc⟩
    obtain ⟨A3, hA3⟩ : ∃ A3, (if c = r then some (⟨g, o, none⟩ : Addr) else some ⟨g, o + r, none⟩) = A3 := ⟨_, rfl⟩
    have hs3 : ES ptrE w A3 (l.drop r) := by
      rw [← hA3]
      by_cases h : c = r
      · rw [if_pos h, List.drop_of_length_le (by omega)]
        exact .inr ⟨g, o, rfl, hc.1, fun j u hu => by simp [Elt.row] at hu⟩
      · rw [if_neg h]; exact hs.drop r _ (by omega) (by show _ = o + r * 1; omega)
    have hz3 : A3 = none → c - r = 0 := fun h => by rw [← hA3] at h; split at h <;> cases h
    obtain ⟨v1, w1, v2, w2, h1, hb1, h2, hb12, hb2, hev⟩ := run_app_two (P := Tryz.prog) (w := w.drew) (E := ptrE) 93 93 93 26 Tryz.underlying93 infoP (some ⟨g, o, none⟩) p (l.take p) (by rw [List.length_take]; omega) ((hs.take p).below hbd (Nat.le_refl _)) a2 n2 c2 m hn2 hz2 (hm.below hbd (Nat.le_refl _))
      A3 (n - r) (c - r) (l.drop r) (by rw [List.length_drop]; omega) hz3 (hs3.below hbd (Nat.le_refl _)) (by unfold maxLen; omega) (by show (p + n2 + (n - r)) * 8 ≤ _; omega)
    have Hev := Lib.hid hev
    have Hb := Lib.hid (hbd.trans hb2)
    have e1 := Lib.hid (turn_of_below hb1)
    have e2 := Lib.hid (turn_of_below hb12)
    have i1 : (0 : Int) ≤ (p : Int) := by omega
    have i2 : (p : Int) ≤ (c : Int) := by omega
    have i3 : (r : Int) ≤ (n : Int) := by omega
    have i4 : (0 : Int) ≤ (r : Int) := by omega
    have i5 : (n : Int) ≤ (c : Int) := by omega
    have j2 : p ≤ c := by omega
    have j3 : r ≤ n := by omega
    clear hev hb1 hb2 hb12 hbd hm hn2 hz2 hl2 hn hs hc hz hpq hr hs3 hz3
    go_enter Tryz.func150, Tryz.ntmps150
    go_wp2_with fail
    refine wp_region_gt (F := fun i => w.heap.size ≤ i) [(0, true), (1, true), (2, true), (3, true), (4, true), (6, true), (7, true), (8, true), (9, true), (10, true), (5, false), (11, false), (12, true)] (by kernel_rfl) (by kernel_rfl) (by kernel_rfl) (by kernel_rfl) (fun _ _ _ _ _ h => h) ?_
    iterate 10 (refine wpGt_read (o := ⟨_, _, _, _, _, _⟩) (v := ?_) rfl (by rfl) ?_ ?_; rotate_left; (intro w' hw'; go_simp; with_reducible rfl); simp only [Act.put, List.setIfInBounds_toArray, List.set_cons_zero, List.set_cons_succ])
    refine wpGt_call (o := ⟨_, _, _, _, _, _⟩) rfl (by rfl) (fun K hK => ?_)
    refine wp_app_run (.tmp 12) (.tmp 13) 93 rfl (by rfl) (by rfl) h1 ?_
    refine hK _ _ e1.out ?_
    simp only [Act.put, List.setIfInBounds_toArray, List.set_cons_zero, List.set_cons_succ]
    clear hK K h1
    refine wpGt_call (o := ⟨_, _, _, _, _, _⟩) rfl (by rfl) (fun K hK => ?_)
    refine wp_app_run (.tmp 14) (.tmp 19) 93 rfl (by rfl) (by rfl) h2 ?_
    refine hK _ _ e2.out ?_
    simp only [Act.put, List.setIfInBounds_toArray, List.set_cons_zero, List.set_cons_succ]
    clear hK K h2
    (refine wpGt_read (o := ⟨_, _, _, _, _, _⟩) (v := ?_) rfl (by rfl) ?_ ?_; rotate_left; (intro w' hw'; go_simp; with_reducible rfl); simp only [Act.put, List.setIfInBounds_toArray, List.set_cons_zero, List.set_cons_succ])
    refine wpGt_done ?_
    go_wp2_with fail
    go_ret
    exact ⟨_, rfl, Hev.out, Hb.out⟩
set_option maxRecDepth 100000 in
theorem splS_any (a : Option Addr) (n c : Nat) (l : List ByteArray) (p q : Nat) (a2 : Option Addr) (n2 c2 : Nat) (m : List ByteArray) (w : World) (hn : l.length = n) (hs : ES strE w a l) (hnc : n ≤ c) (hcm : c ≤ maxLen) (hz : a = none → c = 0)
    (hpq : p + q ≤ n) (hn2 : m.length = n2) (hz2 : a2 = none → c2 = 0) (hm : ES strE w a2 m) (hl : n ≤ 1000000) (hl2 : n2 ≤ 1000000) :
    Calls Tryz.prog 153 #[.slice a n c, .int .i64 p, .int .i64 q, .slice a2 n2 c2] w fun e w' => ∃ v, e = .returned v ∧ EV strE w' v (l.take p ++ (m ++ l.drop (p + q))) ∧ Below w.heap.size w w' := by
  have hbd : Below w.heap.size w w.drew := (Below.refl _ _).drew
  have hcm' : c ≤ 9223372036854775807 := by unfold maxLen at hcm; omega
  have z00 : IntKind.i64.wrap 0 = 0 := by decide
  rcases hs with ⟨rfl, rfl⟩ | ⟨g, o, rfl, hc⟩
  · obtain rfl : n = 0 := hn.symm
    obtain rfl := hz rfl
    obtain rfl : p = 0 := by omega
    obtain rfl : q = 0 := by omega
    obtain ⟨v1, w1, v2, w2, h1, hb1, h2, hb12, hb2, hev⟩ := run_app_two (P := Tryz.prog) (w := w.drew) (E := strE) 92 92 92 9 Tryz.underlying92 infoSt none 0 [] rfl (ES.nil _) a2 n2 c2 m hn2 hz2 (hm.below hbd (Nat.le_refl _)) none 0 0 [] rfl (fun _ => rfl) (ES.nil _) (by unfold maxLen; omega) (by show (0 + n2 + 0) * 16 ≤ _; omega)
    have Hev := Lib.hid hev
    have Hb := Lib.hid (hbd.trans hb2)
    have e1 := Lib.hid (turn_of_below hb1)
    have e2 := Lib.hid (turn_of_below hb12)
    clear hev hb1 hb2 hb12 hbd hm hn2 hz2 hl2 hn
    go_enter Tryz.func153, Tryz.ntmps153
    go_wp2_with fail
    refine wp_region_gt (F := fun i => w.heap.size ≤ i) [(0, true), (1, true), (2, true), (3, true), (4, true), (6, true), (7, true), (8, true), (9, true), (10, true), (5, false), (11, false), (12, true)] (by kernel_rfl) (by kernel_rfl) (by kernel_rfl) (by kernel_rfl) (fun _ _ _ _ _ h => h) ?_
    iterate 10 (refine wpGt_read (o := ⟨_, _, _, _, _, _⟩) (v := ?_) rfl (by rfl) ?_ ?_; rotate_left; (intro w' hw'; go_simp; with_reducible rfl); simp only [Act.put, List.setIfInBounds_toArray, List.set_cons_zero, List.set_cons_succ])
    refine wpGt_call (o := ⟨_, _, _, _, _, _⟩) rfl (by rfl) (fun K hK => ?_)
    refine wp_app_run (.tmp 12) (.tmp 13) 92 rfl (by rfl) (by rfl) h1 ?_
    refine hK _ _ e1.out ?_
    simp only [Act.put, List.setIfInBounds_toArray, List.set_cons_zero, List.set_cons_succ]
    clear hK K h1
    refine wpGt_call (o := ⟨_, _, _, _, _, _⟩) rfl (by rfl) (fun K hK => ?_)
    refine wp_app_run (.tmp 14) (.tmp 19) 92 rfl (by rfl) (by rfl) h2 ?_
    refine hK _ _ e2.out ?_
    simp only [Act.put, List.setIfInBounds_toArray, List.set_cons_zero, List.set_cons_succ]
    clear hK K h2
    (refine wpGt_read (o := ⟨_, _, _, _, _, _⟩) (v := ?_) rfl (by rfl) ?_ ?_; rotate_left; (intro w' hw'; go_simp; with_reducible rfl); simp only [Act.put, List.setIfInBounds_toArray, List.set_cons_zero, List.set_cons_succ])
    refine wpGt_done ?_
    go_wp2_with fail
    go_ret
    exact ⟨_, rfl, Hev.out, Hb.out⟩
  · have z1 : IntKind.i64.wrap ((p : Int) + (q : Int)) = ((p + q : Nat) : Int) := by rw [IntKind.wrap_i64]; omega
    have z0 : IntKind.i64.wrap (p : Int) = (p : Int) := by rw [IntKind.wrap_i64]; omega
    obtain ⟨r, hr⟩ : ∃ r, r = p + q := ⟨_, rfl⟩
    rw [← hr] at z1 ⊢
    have z2 : IntKind.i64.wrap (r : Int) = (r : Int) := by rw [IntKind.wrap_i64]; omega
    have hs : ES strE w (some ⟨g, o, none⟩) l := .inr ⟨g, o, rfl, hc⟩
    obtain ⟨A3, hA3⟩ : ∃ A3, (if c = r then some (⟨g, o, none⟩ : Addr) else some ⟨g, o + r, none⟩) = A3 := ⟨_, rfl⟩
    have hs3 : ES strE w A3 (l.drop r) := by
      rw [← hA3]
      by_cases h : c = r
      · rw [if_pos h, List.drop_of_length_le (by omega)]
        exact .inr ⟨g, o, rfl, hc.1, fun j u hu => by simp [Elt.row] at hu⟩
      · rw [if_neg h]; exact hs.drop r _ (by omega) (by show _ = o + r * 1; omega)
    have hz3 : A3 = none → c - r = 0 := fun h => by rw [← hA3] at h; split at h <;> cases h
    obtain ⟨v1, w1, v2, w2, h1, hb1, h2, hb12, hb2, hev⟩ := run_app_two (P := Tryz.prog) (w := w.drew) (E := strE) 92 92 92 9 Tryz.underlying92 infoSt (some ⟨g, o, none⟩) p (l.take p) (by rw [List.length_take]; omega) ((hs.take p).below hbd (Nat.le_refl _)) a2 n2 c2 m hn2 hz2 (hm.below hbd (Nat.le_refl _))
      A3 (n - r) (c - r) (l.drop r) (by rw [List.length_drop]; omega) hz3 (hs3.below hbd (Nat.le_refl _)) (by unfold maxLen; omega) (by show (p + n2 + (n - r)) * 16 ≤ _; omega)
    have Hev := Lib.hid hev
    have Hb := Lib.hid (hbd.trans hb2)
    have e1 := Lib.hid (turn_of_below hb1)
    have e2 := Lib.hid (turn_of_below hb12)
    have i1 : (0 : Int) ≤ (p : Int) := by omega
    have i2 : (p : Int) ≤ (c : Int) := by omega
    have i3 : (r : Int) ≤ (n : Int) := by omega
    have i4 : (0 : Int) ≤ (r : Int) := by omega
    have i5 : (n : Int) ≤ (c : Int) := by omega
    have j2 : p ≤ c := by omega
    have j3 : r ≤ n := by omega
    clear hev hb1 hb2 hb12 hbd hm hn2 hz2 hl2 hn hs hc hz hpq hr hs3 hz3
    go_enter Tryz.func153, Tryz.ntmps153
    go_wp2_with fail
    refine wp_region_gt (F := fun i => w.heap.size ≤ i) [(0, true), (1, true), (2, true), (3, true), (4, true), (6, true), (7, true), (8, true), (9, true), (10, true), (5, false), (11, false), (12, true)] (by kernel_rfl) (by kernel_rfl) (by kernel_rfl) (by kernel_rfl) (fun _ _ _ _ _ h => h) ?_
    iterate 10 (refine wpGt_read (o := ⟨_, _, _, _, _, _⟩) (v := ?_) rfl (by rfl) ?_ ?_; rotate_left; (intro w' hw'; go_simp; with_reducible rfl); simp only [Act.put, List.setIfInBounds_toArray, List.set_cons_zero, List.set_cons_succ])
    refine wpGt_call (o := ⟨_, _, _, _, _, _⟩) rfl (by rfl) (fun K hK => ?_)
    refine wp_app_run (.tmp 12) (.tmp 13) 92 rfl (by rfl) (by rfl) h1 ?_
    refine hK _ _ e1.out ?_
    simp only [Act.put, List.setIfInBounds_toArray, List.set_cons_zero, List.set_cons_succ]
    clear hK K h1
    refine wpGt_call (o := ⟨_, _, _, _, _, _⟩) rfl (by rfl) (fun K hK => ?_)
    refine wp_app_run (.tmp 14) (.tmp 19) 92 rfl (by rfl) (by rfl) h2 ?_
    refine hK _ _ e2.out ?_
    simp only [Act.put, List.setIfInBounds_toArray, List.set_cons_zero, List.set_cons_succ]
    clear hK K h2
    (refine wpGt_read (o := ⟨_, _, _, _, _, _⟩) (v := ?_) rfl (by rfl) ?_ ?_; rotate_left; (intro w' hw'; go_simp; with_reducible rfl); simp only [Act.put, List.setIfInBounds_toArray, List.set_cons_zero, List.set_cons_succ])
    refine wpGt_done ?_
    go_wp2_with fail
    go_ret
    exact ⟨_, rfl, Hev.out, Hb.out⟩
theorem splC_any (a : Option Addr) (n c : Nat) (l : List En) (p q : Nat) (a2 : Option Addr) (n2 c2 : Nat) (m : List En) (w : World) (hn : l.length = n) (hs : CS w a l) (hnc : n ≤ c) (hcm : c ≤ maxLen) (hz : a = none → c = 0)
    (hpq : p + q ≤ n) (hn2 : m.length = n2) (hz2 : a2 = none → c2 = 0) (hm : CS w a2 m) (hl : n ≤ 1000000) (hl2 : n2 ≤ 1000000) :
    Calls Tryz.prog 120 #[.slice a n c, .int .i64 p, .int .i64 q, .slice a2 n2 c2] w fun e w' => ∃ v, e = .returned v ∧ CV w' v (l.take p ++ (m ++ l.drop (p + q))) ∧ Below w.heap.size w w' := by
  obtain ⟨xs, h1, h2⟩ := hs
  obtain ⟨ys, k1, k2⟩ := hm
  refine (splE_any a n c xs p q a2 n2 c2 ys w (by rw [h2.len]; exact hn) h1 hnc hcm hz hpq (by rw [k2.len]; exact hn2) hz2 k1 hl hl2).mono ?_
  rintro e w' ⟨v, rfl, hev, hb⟩
  exact ⟨v, rfl, CV.of hev (((h2.take p).app (k2.app (h2.drop _))).below hb (Nat.le_refl _)), hb⟩
end Go.Proofs.YtdgladhfibfdlaaGreatDoor
namespace Go.Proofs.YtdgladhfibfdlaaGreatDoor
open Go Go.RowKit Go.Shelf
set_option maxRecDepth 100000 in
theorem tfind1_any (w : World) (b1 b2 h : Nat) (a : Option Addr) (n c : Nat) (cs : List En) (key : ByteArray) (h1 : w.cell? ⟨b1, 0, none⟩ = some (.slice a n c)) (h2 : w.cell? ⟨b2, 0, none⟩ = some (.string key)) (hn : cs.length = n) (hs : CS w a cs) (hh : h < n) :
    Calls Tryz.prog 117 #[.int .i64 h, .pointer (some ⟨b1, 0, none⟩), .pointer (some ⟨b2, 0, none⟩)] w fun e w' => e = .returned (.bool (!blt (ea cs h).k key)) ∧ Below w.heap.size w w' := by
  obtain ⟨g, o, rfl, hcell⟩ := hs.ents (by omega)
  have hA := (hcell h (by omega)).1
  have lA := block_lt_of_cell hA
  have q0 : ∀ w', Ext w.drew w' → w'.cell? ⟨g, o + h * 3, none⟩ = some (.string (ea cs h).k) := fun w' hw => by
    rw [((Below.refl w.heap.size w).drew.trans hw).cell (p := ⟨g, o + h * 3, none⟩) lA]; exact hA
  have l1 := block_lt_of_cell h1
  have l2 := block_lt_of_cell h2
  have q1 : ∀ w', Ext w.drew w' → w'.cell? ⟨b1, 0, none⟩ = some (.slice (some ⟨g, o, none⟩) n c) := fun w' hw => by
    rw [((Below.refl w.heap.size w).drew.trans hw).cell (p := ⟨b1, 0, none⟩) l1]; exact h1
  have q2 : ∀ w', Ext w.drew w' → w'.cell? ⟨b2, 0, none⟩ = some (.string key) := fun w' hw => by
    rw [((Below.refl w.heap.size w).drew.trans hw).cell (p := ⟨b2, 0, none⟩) l2]; exact h2
  have hle : Op.bytesLess (ea cs h).k.toList key.toList = blt (ea cs h).k key := rfl
  generalize blt (ea cs h).k key = D at *
  clear hcell hA lA hs h1 h2 hn
  go_enter Tryz.func117, Tryz.ntmps117
  go_wp2_with fail
  refine wp_region_gr [(0, true), (1, true), (2, true), (3, true), (4, true), (5, true), (6, true), (7, true), (8, true)] (by kernel_rfl) (by kernel_rfl) (by kernel_rfl) (by kernel_rfl) (fun _ _ _ _ _ h => h) ?_
  iterate 9 (refine wpGr_read (o := ⟨_, _, _, _, _, _⟩) (v := ?_) rfl (by rfl) ?_ ?_; rotate_left; (intro w' hw'; go_simp; with_reducible rfl); simp only [Act.put, List.setIfInBounds_toArray, List.set_cons_zero, List.set_cons_succ])
  refine wpGr_done ?_
  go_wp2_with fail
  go_ret
  exact ⟨rfl, (Below.refl _ _).drew⟩
set_option maxRecDepth 100000 in
theorem tsearch_any (w : World) (b1 b2 : Nat) (a : Option Addr) (n c : Nat) (cs : List En) (key : ByteArray) (h1 : w.cell? ⟨b1, 0, none⟩ = some (.slice a n c)) (h2 : w.cell? ⟨b2, 0, none⟩ = some (.string key)) (hn : cs.length = n) (hs : CS w a cs) (ha : srt cs) (hl : n ≤ 65536) :
    Calls Tryz.prog 115 #[.int .i64 n, .func (.func 117) #[] #[.pointer (some ⟨b1, 0, none⟩), .pointer (some ⟨b2, 0, none⟩)]] w fun e w' => e = .returned (.int .i64 (fE cs key : Nat)) ∧ Below w.heap.size w w' := by
  have eg : ∀ args w, (callFunc 117 args).run Tryz.prog w = .ok (.enter 117 args) w := enters_of Tryz.func117 (by kernel_rfl) rfl
  have hcall : ∀ (w' : World) (h : Nat), h < n → Below w.heap.size w w' → Calls Tryz.prog 117 #[.int .i64 h, .pointer (some ⟨b1, 0, none⟩), .pointer (some ⟨b2, 0, none⟩)] w' fun e w'' => e = .returned (.bool (!blt (ea cs h).k key)) ∧ Below w'.heap.size w' w'' := fun w' h hh hb =>
    tfind1_any w' b1 b2 h a n c cs key (by rw [hb.cell (p := ⟨b1, 0, none⟩) (block_lt_of_cell h1)]; exact h1) (by rw [hb.cell (p := ⟨b2, 0, none⟩) (block_lt_of_cell h2)]; exact h2) hn (hs.below hb (Nat.le_refl _)) hh
  have Hcall := Lib.hid hcall
  have hyes : ∀ h, h < n → blt (ea cs h).k key = true → h < fE cs key := fun h hh hb => by
    rcases Nat.lt_or_ge h (fE cs key) with h3 | h3
    · exact h3
    · rw [fE_ge ha key h h3 (by omega)] at hb; cases hb
  have hno : ∀ h, h < n → blt (ea cs h).k key = false → fE cs key ≤ h := fun h hh hb => by
    rcases Nat.lt_or_ge h (fE cs key) with h3 | h3
    · rw [fE_lt cs key h h3] at hb; cases hb
    · exact h3
  have Hyes := Lib.hid (And.intro hyes hno)
  have hF : fE cs key ≤ n := by have := fE_le cs key; unfold goneE at this; split at this <;> omega
  clear hcall hyes hno h1 h2 hn hs ha
  generalize fE cs key = F at *
  go_enter Tryz.func115, Tryz.ntmps115
  go_wp2_with fail
  go_loopw [5, 6] (fun i j wr => ∃ x y : Nat, i = .int .i64 x ∧ j = .int .i64 y ∧ x ≤ y ∧ y ≤ n ∧ x ≤ F ∧ F ≤ y ∧ Hid (Below w.heap.size w wr)) (fun i j _ => (intOf j - intOf i).toNat)
  case atStart => exact ⟨0, n, rfl, rfl, by omega, by omega, by omega, by omega, Below.refl _ _⟩
  case round =>
    obtain ⟨x, y, rfl, rfl, hxy, hyn, hx, hy, hB⟩ := hrel
    by_cases hlt : x < y
    · obtain ⟨H, hH⟩ : ∃ H, H = (x + y) / 2 := ⟨_, rfl⟩
      have e1 : ((x : Int) + (y : Int)) / 2 = (H : Int) := by omega
      have z1 : x ≤ H := by omega
      have z2 : H < y := by omega
      have hc := Lib.hid (Hcall.out wr H (by omega) hB.out)
      have hs := Hyes.out.1 H (by omega)
      have hs2 := Hyes.out.2 H (by omega)
      clear hH
      generalize blt (ea cs H).k key = D at *
      cases D with
      | true =>
        have hs' := hs rfl
        clear hs hs2
        rw [show (!true) = false from rfl] at hc
        go_wp2_with (go_at_fn 117; refine hc.out.mono ?_; rintro e w' ⟨rfl, hb⟩)
        have hB2 := Lib.hid (hB.out.trans (hb.mono hB.out.size))
        clear hb
        go_roundw
        case rel => exact ⟨H + 1, y, by go_num, rfl, by omega, by omega, by omega, by omega, hB2⟩
        case measure => simp [intOf]; omega
      | false =>
        have hs' := hs2 rfl
        clear hs hs2
        rw [show (!false) = true from rfl] at hc
        go_wp2_with (go_at_fn 117; refine hc.out.mono ?_; rintro e w' ⟨rfl, hb⟩)
        have hB2 := Lib.hid (hB.out.trans (hb.mono hB.out.size))
        clear hb
        go_roundw
        case rel => exact ⟨x, H, rfl, by go_num, by omega, by omega, by omega, by omega, hB2⟩
        case measure => simp [intOf]; omega
    · obtain rfl : x = F := by omega
      go_wp2
      go_ret
      exact ⟨rfl, hB.out⟩
set_option maxRecDepth 100000 in
theorem tfind_any (a : Option Addr) (n c : Nat) (cs : List En) (key : ByteArray) (w : World) (hn : cs.length = n) (hs : CS w a cs) (ha : srt cs) (hl : n ≤ 65536) :
    Calls Tryz.prog 89 #[.slice a n c, .string key] w fun e w' => e = .returned (.tuple #[.int .i64 (fE cs key : Nat), .bool (isE cs key)]) ∧ Below w.heap.size w w' := by
  obtain ⟨w2, hw2⟩ : ∃ w2, w2 = (w.alloc (.cells #[.slice a n c] SCT)).alloc (.cells #[.string key] 9) := ⟨_, rfl⟩
  have hb2 : Below w.heap.size w w2 := by rw [hw2]; exact ((Below.refl _ _).alloc (Nat.le_refl _) _).alloc (by simp) _
  have c1 : w2.cell? ⟨w.heap.size, 0, none⟩ = some (.slice a n c) := by rw [hw2]; simp
  have c2 : w2.cell? ⟨w.heap.size + 1, 0, none⟩ = some (.string key) := by rw [hw2]; simp
  have hsr := Lib.hid (tsearch_any w2 w.heap.size (w.heap.size + 1) a n c cs key c1 c2 hn (hs.below hb2 (Nat.le_refl _)) ha hl)
  have l1 : w.heap.size < w2.heap.size := by rw [hw2]; simp; omega
  have l2 : w.heap.size + 1 < w2.heap.size := by rw [hw2]; simp
  have hmf : ∀ (fn : Fn) (first cap : Array Value) (w : World), (Instr.makeFunc fn first cap).run Tryz.prog w = .ok (.func fn first cap) w := fun _ _ _ _ => rfl
  have hF : fE cs key ≤ n := by have := fE_le cs key; unfold goneE at this; split at this <;> omega
  have hat : Hid (isE cs key = (decide (fE cs key < n) && ((ea cs (fE cs key)).k.toList == key.toList))) := by show _ = _; rw [isE_eq, hn]
  have Hs := Lib.hid hs
  have Hn := Lib.hid hn
  have Hb2 := Lib.hid hb2
  have Hc := Lib.hid (And.intro c1 c2)
  clear c1 c2 hs hn hb2 ha
  generalize isE cs key = AT at *
  generalize fE cs key = F at *
  subst hw2
  go_enter Tryz.func89, Tryz.ntmps89
  go_wp2_with fail
  refine hsr.out.mono ?_
  rintro e w3 ⟨rfl, hb3⟩
  have r1 : ∀ w', Ext w3.drew w' → w'.cell? ⟨w.heap.size, 0, none⟩ = some (.slice a n c) := fun w' hw => by
    have hb4 := (hb3.drew).trans (hw.mono hb3.size)
    rw [hb4.cell (p := ⟨w.heap.size, 0, none⟩) l1]; exact Hc.out.1
  have r2 : ∀ w', Ext w3.drew w' → w'.cell? ⟨w.heap.size + 1, 0, none⟩ = some (.string key) := fun w' hw => by
    have hb4 := (hb3.drew).trans (hw.mono hb3.size)
    rw [hb4.cell (p := ⟨w.heap.size + 1, 0, none⟩) l2]; exact Hc.out.2
  have HB := Lib.hid (Hb2.out.trans (hb3.mono Hb2.out.size))
  have Hs3 := Lib.hid (Hs.out.below HB.out (Nat.le_refl _))
  have HBd : Hid (Below w.heap.size w w3.drew) := HB.out.drew
  clear hb3 hsr Hc Hb2 hmf l1 l2 HB
  by_cases hlt : F < n
  · obtain ⟨g, o, rfl, hcell⟩ := Hs3.out.ents (by rw [Hn.out]; omega)
    have hA := (hcell F (by rw [Hn.out]; exact hlt)).1
    have lA := block_lt_of_cell hA
    have q0 : ∀ w', Ext w3.drew w' → w'.cell? ⟨g, o + F * 3, none⟩ = some (.string (ea cs F).k) := fun w' hw => by
      rw [((Below.refl w3.heap.size w3).drew.trans hw).cell (p := ⟨g, o + F * 3, none⟩) lA]; exact hA
    have hD : ∃ D, ((ea cs F).k.toList == key.toList) = D := ⟨_, rfl⟩
    obtain ⟨D, hD⟩ := hD
    have hat2 : Hid (AT = D) := by show _ = _; rw [hat.out, hD]; simp [hlt]
    generalize ea cs F = y at *
    obtain ⟨y0, y1, _⟩ := y
    dsimp only at q0 hD
    clear hcell hA lA hat
    go_wp2_with fail
    refine wp_region_gr [(0, true), (1, true), (2, true), (3, true), (4, true), (5, true), (6, true), (7, true), (8, true), (9, true), (10, true), (11, true), (12, true), (13, true), (14, true), (15, true), (16, true)] (by kernel_rfl) (by kernel_rfl) (by kernel_rfl) (by kernel_rfl) (fun _ _ _ _ _ h => h) ?_
    iterate 17 (first | (refine wpGr_read (o := ⟨_, _, _, _, _, _⟩) (v := ?_) rfl (by rfl) ?_ ?_; rotate_left; (intro w' hw'; go_simp; with_reducible rfl); simp only [Act.put, List.setIfInBounds_toArray, List.set_cons_zero, List.set_cons_succ]) | (refine wpGr_skip (o := ⟨_, _, _, _, _, _⟩) rfl (by rfl) ?_; simp only [Act.put, List.setIfInBounds_toArray, List.set_cons_zero, List.set_cons_succ]))
    refine wpGr_done ?_
    go_wp2_with fail
    go_ret2
    exact ⟨by rw [hat2.out]; rfl, HBd.out⟩
  · have hat2 : Hid (AT = false) := by show _ = _; rw [hat.out]; simp [hlt]
    clear hat
    go_wp2_with fail
    refine wp_region_gr [(0, true), (1, true), (2, true), (3, true), (4, true), (5, true), (6, true), (7, true), (8, true), (9, true), (10, true), (11, true), (12, true), (13, true), (14, true), (15, true), (16, true)] (by kernel_rfl) (by kernel_rfl) (by kernel_rfl) (by kernel_rfl) (fun _ _ _ _ _ h => h) ?_
    iterate 17 (first | (refine wpGr_read (o := ⟨_, _, _, _, _, _⟩) (v := ?_) rfl (by rfl) ?_ ?_; rotate_left; (intro w' hw'; go_simp; with_reducible rfl); simp only [Act.put, List.setIfInBounds_toArray, List.set_cons_zero, List.set_cons_succ]) | (refine wpGr_skip (o := ⟨_, _, _, _, _, _⟩) rfl (by rfl) ?_; simp only [Act.put, List.setIfInBounds_toArray, List.set_cons_zero, List.set_cons_succ]))
    refine wpGr_done ?_
    go_wp2_with fail
    go_ret2
    exact ⟨by rw [hat2.out]; rfl, HBd.out⟩
end Go.Proofs.YtdgladhfibfdlaaGreatDoor
namespace Go.Proofs.YtdgladhfibfdlaaGreatDoor
open Go Go.RowKit
theorem isIn_any (n : Int) (w : World) : Calls Tryz.prog 174 #[.int .i64 n] w fun e w' => e = .returned (.bool (decide (n ≤ 64))) ∧ w = w' := by
  generalize hD : decide (n ≤ 64) = D
  go_enter Tryz.func174, Tryz.ntmps174
  go_wp2
  go_ret
  exact ⟨rfl, rfl⟩
set_option maxRecDepth 100000 in
theorem leafSize_any (k : ByteArray) (n : Nat) (w : World) (hk : k.size ≤ 65536) (hn : n ≤ 65536) : Calls Tryz.prog 172 #[.string k, .int .i64 n] w fun e w' => e = .returned (.int .i64 (sizeS k n : Nat)) ∧ w = w' := by
  have h1 := size_any k.size w (by omega)
  have h2 := size_any n w (by omega)
  have v1 := vs_le (show k.size < 18446744073709551616 by omega)
  have v2 := vs_le (show n < 18446744073709551616 by omega)
  have hi := isIn_any n w
  have hmx : max (n : Int) 0 = (n : Int) := by omega
  have hS : Hid (sizeS k n = vs k.size + k.size + vs n + (if (n : Int) ≤ 64 then n else 2)) := by show _ = _; unfold sizeS; rw [show ((n : Int)).toNat = n from rfl]
  generalize sizeS k n = S at *
  generalize vs k.size = A at *
  generalize vs n = B at *
  by_cases h64 : (n : Int) ≤ 64
  · have d1 : decide ((n : Int) ≤ 64) = true := by simpa using h64
    rw [d1] at hi
    have hS2 : Hid (S = A + k.size + B + n) := by show _ = _; rw [hS.out, if_pos h64]
    clear hS d1
    go_enter Tryz.func172, Tryz.ntmps172
    go_wp2_with fail
    refine h1.mono ?_
    rintro e w' ⟨rfl, rfl⟩
    go_wp2_with fail
    refine h2.mono ?_
    rintro e w' ⟨rfl, rfl⟩
    go_wp2_with fail
    refine hi.mono ?_
    rintro e w' ⟨rfl, rfl⟩
    go_wp2
    go_ret
    exact ⟨by rw [hS2.out]; simp, rfl⟩
  · have d1 : decide ((n : Int) ≤ 64) = false := by simpa using h64
    rw [d1] at hi
    have hS2 : Hid (S = A + k.size + B + 2) := by show _ = _; rw [hS.out, if_neg h64]
    clear hS d1
    go_enter Tryz.func172, Tryz.ntmps172
    go_wp2_with fail
    refine h1.mono ?_
    rintro e w' ⟨rfl, rfl⟩
    go_wp2_with fail
    refine h2.mono ?_
    rintro e w' ⟨rfl, rfl⟩
    go_wp2_with fail
    refine hi.mono ?_
    rintro e w' ⟨rfl, rfl⟩
    go_wp2
    go_ret
    exact ⟨by rw [hS2.out]; simp, rfl⟩
end Go.Proofs.YtdgladhfibfdlaaGreatDoor
