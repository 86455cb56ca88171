/-
  VarintBytes: the law's walk.
-/
import Derived.Test.YtcpekhfgkbigcaaDoorNum2
import Derived.Test.YtcpekhfgkbigcaaDoorVarPut
import Derived.Test.YtcpekhfgkbigcaaDoorVarRef
import Derived.Test.YtcpekhfgkbigcaaDoorSure3
import Derived.Test.YtcpekhfgkbigcaaDoorGr
namespace Go.Proofs.YtcpekhfgkbigcaaDoor
open Go.RowKit

theorem errV_is (f : Nat) : NumIs (errV f) (f : Int) := by
  unfold errV
  split
  · rename_i h; subst h; exact .inl ⟨rfl, rfl⟩
  · exact .inr rfl
theorem gt_len_le (l : List Nat) : (gt l).2.1 ≤ l.length := by
  unfold gt
  split
  · exact Nat.zero_le _
  split
  · exact Nat.zero_le _
  split
  · exact Nat.zero_le _
  · rename_i h _; show lead l + 1 ≤ _; omega
theorem two_gets (a : Option Addr) (l : List Nat) (c : Nat) (hb : B8 l) (hl : l.length ≤ 9223372036854775807) :
    ∃ (x n : Nat) (e : Value) (f : Int), NumIs e f ∧ x < 18446744073709551616 ∧ n ≤ l.length ∧ (∀ w, Src w a l → Calls Tryd.prog 7 #[.slice a l.length c] w fun e' w' => e' = .returned (.tuple #[.int .u64 x, .int .i64 n, e]) ∧ w = w') ∧
      (∀ w, Src w a l → Calls Tryd.prog 8 #[.slice a l.length c] w fun e' w' => e' = .returned (.tuple #[.int .u64 x, .int .i64 n, .int .i64 f]) ∧ w = w') :=
  ⟨(gt l).1, (gt l).2.1, errV (gt l).2.2, _, errV_is _, gt_val_lt l, gt_len_le l, fun w hs => get_any a c l w hb hl hs, fun w hs => refGet_any a c l w hb hl hs⟩
set_option maxRecDepth 100000 in
set_option maxHeartbeats 1000000 in
theorem bytes_any (a : Option Addr) (l : List Nat) (c : Nat) (v : Nat) (w : World) (hb8 : B8 l) (hsrc : Src w a l) (hz : a = none → c = 0) (hv : v < 18446744073709551616) (hlm : l.length ≤ 9223372036854775807) (hg : Hg w) :
    Calls Tryd.prog 3 #[.slice a l.length c, .int .u64 v] w fun e w' => e = .returned (.bool true) ∧ Below w.heap.size w w' := by
  by_cases hlen : 300 < l.length
  · have d0 : decide (300 < (l.length : Int)) = true := by simp; omega
    go_enter Tryd.func3, Tryd.ntmps3
    go_wp2_with fail
    refine (sure_any _ hg).mono ?_
    rintro e w6 ⟨rfl, hb6⟩
    go_wp2_with fail
    go_ret
    exact ⟨rfl, hb6⟩
  obtain ⟨x, n, e, f, hn, hx, hnl, g1, g2⟩ := two_gets a l c hb8 hlm
  have p1 := fun wx hs => put_any a c l v wx (by omega) hv hs
  have p2 := fun wx hs => refPut_any a c l v wx (by omega) hv hz hs
  have p3 := fun wx => refPut_any none 0 [] v wx (by simp) hv (fun _ => rfl) (Src.nil wx none)
  have p4 := fun wx => size_any v wx hv
  rw [List.nil_append] at p3
  obtain ⟨S, hS⟩ : ∃ S, S = vs v := ⟨_, rfl⟩
  have hS10 : S ≤ 10 := by rw [hS]; exact vs_le hv
  have hL : (l ++ vb v).length = l.length + S := by rw [List.length_append, hS]; rfl
  have hvS : (vb v).length = S := hS.symm
  rw [← hS] at p4
  have p1' : ∀ wx, Src wx a l → Calls Tryd.prog 10 #[.slice a l.length c, .int .u64 v] wx fun e w' => e = .returned (.slice (some ⟨wx.heap.size, 0, none⟩) (l.length + S : Nat) (l.length + S : Nat)) ∧ Row w' wx.heap.size 5 (l ++ vb v) ∧ Below wx.heap.size wx w' := by rw [hS]; exact p1
  clear p1 hS
  generalize l ++ vb v = L at *
  generalize vb v = B at *
  have d0 : decide (300 < (l.length : Int)) = false := by simp; omega
  have H := Lib.hid (And.intro g1 (And.intro g2 (And.intro p1' (And.intro p2 (And.intro p3 p4)))))
  have Hn := Lib.hid hn
  have Hs := Lib.hid hsrc
  clear g1 g2 p1' p2 p3 p4 hn hsrc
  go_enter Tryd.func3, Tryd.ntmps3
  go_wp2_with fail
  refine (H.out.1 _ Hs.out).mono ?_; rintro e' w' ⟨rfl, rfl⟩
  go_wp2_with fail
  refine (H.out.2.1 _ Hs.out).mono ?_; rintro e' w' ⟨rfl, rfl⟩
  go_wp2_with fail
  refine wp_region_gr [(0, true), (1, true), (2, true), (3, true), (4, true), (5, true), (6, true), (7, true), (8, true), (9, true), (11, true), (10, false), (12, true), (13, true), (14, true), (15, true), (16, true), (19, true), (20, true), (17, false), (18, true), (21, false), (22, true), (23, true), (24, true), (25, true), (26, true), (28, true), (27, false), (29, false), (30, true), (31, true), (32, true), (33, true), (34, false), (35, true), (36, true)] (by kernel_rfl) (by kernel_rfl) (by kernel_rfl) (by kernel_rfl) (fun _ _ _ _ _ h => h) ?_
  repeat (refine wpGr_read (o := ⟨_, _, _, _, _, _⟩) (v := ?_) rfl (by rfl) ?_ ?_; rotate_left; (intro w' hw'; go_simp; with_reducible rfl); simp only [Act.put, List.setIfInBounds_toArray, List.set_cons_zero, List.set_cons_succ])
  refine wpGr_call (o := ⟨_, _, _, _, _, _⟩) rfl (by rfl) (fun K hK => ?_)
  go_simp
  refine (num_any e f _ Hn.out (hg.below (Below.refl _ w).drew)).mono ?_; rintro e' w1 ⟨rfl, hb1⟩
  refine hK _ _ hb1 ?_
  clear hK K
  try simp only [Act.put, List.setIfInBounds_toArray, List.set_cons_zero, List.set_cons_succ]
  have hb1' : Below w.heap.size w w1 := (Below.refl _ w).drew.trans hb1
  have hs1 : Src w1 a l := Hs.out.below hb1' (Nat.le_refl _)
  repeat (refine wpGr_read (o := ⟨_, _, _, _, _, _⟩) (v := ?_) rfl (by rfl) ?_ ?_; rotate_left; (intro w' hw'; go_simp; with_reducible rfl); simp only [Act.put, List.setIfInBounds_toArray, List.set_cons_zero, List.set_cons_succ])
  refine wpGr_call (o := ⟨_, _, _, _, _, _⟩) rfl (by rfl) (fun K hK => ?_)
  go_simp
  refine (H.out.2.2.1 w1 hs1).mono ?_; rintro e' w2 ⟨rfl, hr2, hb2⟩
  refine hK _ _ hb2 ?_
  clear hK K
  try simp only [Act.put, List.setIfInBounds_toArray, List.set_cons_zero, List.set_cons_succ]
  have hb2' : Below w.heap.size w w2 := hb1'.trans (hb2.mono hb1'.size)
  have hs2 : Src w2 a l := Hs.out.below hb2' (Nat.le_refl _)
  have hc1 := fun wx => conv_row (P := Tryd.prog) 22 5 9 Tryd.underlying22 Tryd.underlying5 Tryd.underlying9 w1.heap.size (l.length + S) (l.length + S) L hL wx
  have hx1 : ∀ w', Ext w2 w' → Row w' w1.heap.size 5 L := fun w' h => (h.block _ hr2.lt).trans hr2
  repeat (refine wpGr_read (o := ⟨_, _, _, _, _, _⟩) (v := ?_) rfl (by rfl) ?_ ?_; rotate_left; (intro w' hw'; go_simp; with_reducible rfl); simp only [Act.put, List.setIfInBounds_toArray, List.set_cons_zero, List.set_cons_succ])
  refine wpGr_call (o := ⟨_, _, _, _, _, _⟩) rfl (by rfl) (fun K hK => ?_)
  go_simp
  refine (H.out.2.2.2.1 w2 hs2).mono ?_; rintro e' w3 ⟨r, rfl, ho3, hb3⟩
  refine hK _ _ hb3 ?_
  clear hK K
  try simp only [Act.put, List.setIfInBounds_toArray, List.set_cons_zero, List.set_cons_succ]
  have hb3' : Below w.heap.size w w3 := hb2'.trans (hb3.mono hb2'.size)
  have hc2 : ∀ w', Ext w3 w' → (convert 22 9 r).run Tryd.prog w' = .ok (.string (bstr L)) w' := fun w' h => conv_own (P := Tryd.prog) 22 5 9 Tryd.underlying22 Tryd.underlying5 Tryd.underlying9 _ r L w' (own_below ho3 h (Nat.le_refl _))
  repeat (refine wpGr_read (o := ⟨_, _, _, _, _, _⟩) (v := ?_) rfl (by rfl) ?_ ?_; rotate_left; (intro w' hw'; go_simp; with_reducible rfl); simp only [Act.put, List.setIfInBounds_toArray, List.set_cons_zero, List.set_cons_succ])
  refine wpGr_call (o := ⟨_, _, _, _, _, _⟩) rfl (by rfl) (fun K hK => ?_)
  go_simp
  refine (H.out.2.2.2.2.2 w3).mono ?_; rintro e' w' ⟨rfl, rfl⟩
  refine hK _ _ (Ext.refl _) ?_
  clear hK K
  try simp only [Act.put, List.setIfInBounds_toArray, List.set_cons_zero, List.set_cons_succ]
  refine wpGr_call (o := ⟨_, _, _, _, _, _⟩) rfl (by rfl) (fun K hK => ?_)
  go_simp
  refine (H.out.2.2.2.2.1 w3).mono ?_; rintro e' w4 ⟨r4, rfl, ho4, hb4⟩
  refine hK _ _ hb4 ?_
  clear hK K
  try simp only [Act.put, List.setIfInBounds_toArray, List.set_cons_zero, List.set_cons_succ]
  have hb4' : Below w.heap.size w w4 := hb3'.trans (hb4.mono hb3'.size)
  obtain ⟨a4, c4, rfl, _⟩ := own_slice ho4
  rw [hvS]
  clear hc1 hx1 hc2 ho3 ho4 hr2
  repeat (refine wpGr_read (o := ⟨_, _, _, _, _, _⟩) (v := ?_) rfl (by rfl) ?_ ?_; rotate_left; (intro w' hw'; go_simp; with_reducible rfl); simp only [Act.put, List.setIfInBounds_toArray, List.set_cons_zero, List.set_cons_succ])
  refine wpGr_call (o := ⟨_, _, _, _, _, _⟩) rfl (by rfl) (fun K hK => ?_)
  go_simp
  refine (sure_any _ (hg.below hb4')).mono ?_; rintro e' w6 ⟨rfl, hb6⟩
  refine hK _ _ hb6 ?_
  clear hK K
  try simp only [Act.put, List.setIfInBounds_toArray, List.set_cons_zero, List.set_cons_succ]
  repeat (refine wpGr_read (o := ⟨_, _, _, _, _, _⟩) (v := ?_) rfl (by rfl) ?_ ?_; rotate_left; (intro w' hw'; go_simp; with_reducible rfl); simp only [Act.put, List.setIfInBounds_toArray, List.set_cons_zero, List.set_cons_succ])
  refine wpGr_done ?_
  go_wp2_with fail
  go_ret
  exact ⟨rfl, hb4'.trans (hb6.mono hb4'.size)⟩
end Go.Proofs.YtcpekhfgkbigcaaDoor
