/-
  sheet.Seal.
-/
import Derived.Test.YtofbomcimicccaaDoorSheet0Z
import Derived.Test.YtofbomcimicccaaDoorCopyZ
import Derived.Test.YtofbomcimicccaaDoorCrc0Z
namespace Go.Proofs.YtofbomcimicccaaDoor
open Go Go.RowKit

/-- What stands in Seal's row behind each step. -/
def seal1 (k : Nat) : List Nat := (List.replicate 512 0).set 0 k
def seal2 (k n : Nat) : List Nat := splice (seal1 k) 2 (beL n 2)
def seal3 (k n : Nat) (l : List Nat) : List Nat := splice (seal2 k n) 4 l
theorem seal1_eq (k : Nat) : seal1 k = k :: 0 :: 0 :: 0 :: List.replicate 508 0 := rfl
theorem beL_two (n : Nat) (h : n ≤ 504) : beL n 2 = [n / 256, n % 256] := by
  show [n / 256 % 256, n % 256] = _
  rw [Nat.mod_eq_of_lt (show n / 256 < 256 by omega)]
theorem seal2_eq (k n : Nat) (h : n ≤ 504) : seal2 k n = k :: 0 :: n / 256 :: n % 256 :: List.replicate 508 0 := by
  unfold seal2
  rw [seal1_eq, beL_two n h]; rfl
theorem seal3_eq (k n : Nat) (l : List Nat) (hn : l.length = n) (h : n ≤ 504) : seal3 k n l = bodyL k l ++ [0, 0, 0, 0] := by
  unfold seal3
  rw [seal2_eq k n h, bodyL_cons, ← hn]
  simp only [splice, List.take_succ_cons, List.take_zero, List.cons_append, List.nil_append, List.append_assoc]
  congr 5
  rw [show 4 + l.length = l.length + 1 + 1 + 1 + 1 by omega]
  simp only [List.drop_succ_cons, List.drop_replicate]
  rw [show [0, 0, 0, 0] = List.replicate 4 0 from rfl, List.replicate_append_replicate]
  congr 1; omega
theorem seal3_length (k n : Nat) (l : List Nat) (hn : l.length = n) (h : n ≤ 504) : (seal3 k n l).length = 512 := by
  rw [seal3_eq k n l hn h, List.length_append, bodyL_length (by omega)]; rfl
theorem seal3_take (k n : Nat) (l : List Nat) (hn : l.length = n) (h : n ≤ 504) : (seal3 k n l).take 508 = bodyL k l := by
  rw [seal3_eq k n l hn h, ← bodyL_length (k := k) (l := l) (by omega), List.take_left]
theorem seal4_eq (k n : Nat) (l : List Nat) (hn : l.length = n) (h : n ≤ 504) : splice (seal3 k n l) 508 (beL (more 0#32 (bodyL k l)).toNat 4) = pageL k l := by
  unfold splice
  rw [seal3_take k n l hn h, List.drop_of_length_le (by rw [seal3_length k n l hn h, beL_length]; exact Nat.le_refl _), List.append_nil]; rfl
theorem seal1_length (k : Nat) : (seal1 k).length = 512 := by unfold seal1; rw [List.length_set, List.length_replicate]
theorem seal2_length (k n : Nat) (h : n ≤ 504) : (seal2 k n).length = 512 := by rw [seal2_eq k n h, List.length_cons, List.length_cons, List.length_cons, List.length_cons, List.length_replicate]
theorem sum_body (w : World) (g : Nat) (L m : List Nat) (hm : L.take 508 = m) (hl : L.length = 512) (hb : B8 m) (hr : Row w g 5 L) (hT : WorthIn w) :
    Calls Tryd.prog 35 #[.slice (some ⟨g, 0, none⟩) 508 512] w fun e w' => e = .returned (.int .u32 ((more 0#32 m).toNat : Nat)) ∧ w = w' := by
  have h8 : m.length = 508 := by rw [← hm, List.length_take]; omega
  have := sum_any (some ⟨g, 0, none⟩) 512 m w hb (by omega) (by rw [← hm]; exact (hr.cs.start 508).src) hT
  rw [h8] at this
  exact this
set_option maxRecDepth 100000 in
set_option maxHeartbeats 1000000 in
theorem seal_in (k : Nat) (a : Option Addr) (n c : Nat) (l : List Nat) (hn : l.length = n) (w : World) (hk1 : 1 ≤ k) (hk5 : k ≤ 5) (hl : n ≤ 504) (hb : B8 l) (hsrc : Src w a l) (hT : WorthIn w) :
    Calls Tryd.prog 19 #[.int .u8 k, .slice a n c] w fun e w' => e = .returned (.tuple #[.slice (some ⟨w.heap.size, 0, none⟩) 512 512, .nilIface]) ∧ Row w' w.heap.size 5 (pageL k l) ∧ Below w.heap.size w w' := by
  have hK := isKind_any k w (by omega)
  rw [show decide (1 ≤ k ∧ k ≤ 5) = true by simp; omega] at hK
  have d1 : decide (504 < (n : Int)) = false := by simp; omega
  have Hn := Lib.hid hn
  have Hs := Lib.hid hsrc
  have HT := Lib.hid hT
  have e1 := seal3_take k n l hn hl
  have e2 := seal4_eq k n l hn hl
  have e3 := seal3_length k n l hn hl
  have hbb := bodyL_b8 (k := k) (l := l) (by omega) (by omega) hb
  have HE := Lib.hid (And.intro e1 (And.intro e2 (And.intro e3 hbb)))
  clear hn hsrc hT e1 e2 e3 hbb
  go_enter Tryd.func19, Tryd.ntmps19
  go_wp2_with (first
    | (go_at_call 33; refine hK.mono ?_; rintro e w' ⟨rfl, rfl⟩)
    | (at_make; refine wpList_make_bytes rfl _ _ 25 rfl 5 Tryd.underlying25 infoByte _ _ _ _ 512 rfl rfl rfl rfl (by omega) ?_; intro w1 hr1 hb1; have hc1 := hr1.out.cell 0 (by rw [List.length_replicate]; omega); have hf1 := hr1.out.frozen 0; have hx1 := Lib.hid (hr1.out.set 0 k)))
  have hr2 : Row (w1.setCell ⟨w.heap.size, 0, none⟩ (.int .u8 (k : Int))) w.heap.size 5 (seal1 k) := hx1.out
  have hb2 : Below w.heap.size w (w1.setCell ⟨w.heap.size, 0, none⟩ (.int .u8 (k : Int))) := hb1.setCell (Nat.le_refl _) _
  refine wp_region_gt (F := fun i => i = w.heap.size) [(0, true), (1, true), (2, true), (3, true), (4, true), (5, false), (6, false)] (by kernel_rfl) (by kernel_rfl) (by kernel_rfl) (by kernel_rfl) (fun _ _ _ _ _ h => h) ?_
  have hr3 := (row_drew (w1.setCell ⟨w.heap.size, 0, none⟩ (.int .u8 (k : Int))) w.heap.size 5 (seal1 k)).mpr hr2
  have hb3 := hb2.drew
  clear hr1 hc1 hf1 hx1 hr2 hb1 hb2
  generalize (w1.setCell ⟨w.heap.size, 0, none⟩ (.int .u8 (k : Int))).drew = w3 at *
  have z1 : IntKind.u64.wrap (n : Int) = (n : Int) := by rw [IntKind.wrap_u64]; omega
  iterate 5 (refine wpGt_read (o := ⟨_, _, _, _, _, _⟩) (v := ?_) rfl (by rfl) ?_ ?_; rotate_left; (intro w' hw'; go_simp; with_reducible rfl); simp only [Act.put, List.setIfInBounds_toArray, List.set_cons_zero, List.set_cons_succ])
  refine wpGt_call (o := ⟨_, _, _, _, _, _⟩) rfl (by rfl) (fun K hK => ?_)
  go_simp
  refine (put_none n 2 w3 (by decide) (by decide) (by omega)).mono ?_
  rintro e w4 ⟨rfl, hr4, hb4⟩
  refine hK _ _ (Turn.ofBelow hb4) ?_
  clear hK K
  refine wpGt_call (o := ⟨_, _, _, _, _, _⟩) rfl (by rfl) (fun K hK => ?_)
  refine wp_copy_bytes (.tmp 21) (.tmp 25) 25 25 rfl 5 Tryd.underlying25 sizeByte w.heap.size 2 510 510 _ 2 2 (seal1 k) (beL n 2) (beL_length _ _) (by rfl) (by rfl) (hr3.below hb4 hr3.lt) (row_src hr4) (by rw [seal1_length]; omega) (by omega) (by omega) ?_
  intro w5 hr5 ht5
  refine hK _ _ ht5 ?_
  clear hK K
  simp only [Act.put]
  refine wpGt_done ?_
  have hr5' : Row w5 w.heap.size 5 (seal2 k n) := hr5
  have hb5 : Below w.heap.size w w5 := (hb3.trans (hb4.mono hb3.size)).trans (ht5.below (Nat.le_trans hb3.size hb4.size) (fun i hi => by rw [hi]; exact Nat.le_refl _))
  have hs5 := Lib.hid (Hs.out.below hb5 (Nat.le_refl _))
  clear hr3 hb3 hr4 hb4 hr5 ht5
  go_wp2_with (show wpList _ _ _ (⟨some 30, _, _, _, _, _⟩ :: _) _ _; refine wpList_copy_bytes rfl (.tmp 28) (.tmp 29) 25 25 rfl 5 Tryd.underlying25 sizeByte w.heap.size 4 508 508 a c (seal2 k n) l (by rfl) (by rw [Hn.out]; rfl) hr5' hs5.out (by rw [seal2_length k n hl, Hn.out]; omega) (by rw [Hn.out]; omega) w.heap.size w hb5 (Nat.le_refl _) ?_; intro w6 hr6 hb6; clear hr5' hb5 hs5)
  refine (sum_body w6 w.heap.size (seal3 k n l) (bodyL k l) HE.out.1 HE.out.2.2.1 HE.out.2.2.2 hr6.out (HT.out.below hb6)).mono ?_
  rintro e w' ⟨rfl, rfl⟩
  have hr6' : Row w6 w.heap.size 5 (seal3 k n l) := hr6.out
  have hSl : (more 0#32 (bodyL k l)).toNat < 4294967296 := by have := (more 0#32 (bodyL k l)).isLt; omega
  have hE := HE.out.2.1
  have hEl := HE.out.2.2.1
  generalize (more 0#32 (bodyL k l)).toNat = S at *
  have HE2 := Lib.hid (And.intro hE hEl)
  clear hE hEl hr6 HE
  go_wp2_with fail
  refine wp_region_gt (F := fun i => i = w.heap.size) [(0, true), (1, true), (2, true), (3, true), (4, false), (5, false)] (by kernel_rfl) (by kernel_rfl) (by kernel_rfl) (by kernel_rfl) (fun _ _ _ _ _ h => h) ?_
  have hr7 := (row_drew w6 w.heap.size 5 (seal3 k n l)).mpr hr6'
  have hb7 := hb6.drew
  clear hr6' hb6
  generalize w6.drew = w7 at *
  have z2 : IntKind.u64.wrap (S : Int) = (S : Int) := by rw [IntKind.wrap_u64]; omega
  iterate 4 (refine wpGt_read (o := ⟨_, _, _, _, _, _⟩) (v := ?_) rfl (by rfl) ?_ ?_; rotate_left; (intro w' hw'; go_simp; with_reducible rfl); simp only [Act.put, List.setIfInBounds_toArray, List.set_cons_zero, List.set_cons_succ])
  refine wpGt_call (o := ⟨_, _, _, _, _, _⟩) rfl (by rfl) (fun K hK => ?_)
  go_simp
  refine (put_none S 4 w7 (by decide) (by decide) (by omega)).mono ?_
  rintro e w8 ⟨rfl, hr8, hb8⟩
  refine hK _ _ (Turn.ofBelow hb8) ?_
  clear hK K
  refine wpGt_call (o := ⟨_, _, _, _, _, _⟩) rfl (by rfl) (fun K hK => ?_)
  refine wp_copy_bytes (.tmp 35) (.tmp 38) 25 25 rfl 5 Tryd.underlying25 sizeByte w.heap.size 508 4 4 _ 4 4 (seal3 k n l) (beL S 4) (beL_length _ _) (by rfl) (by rfl) (hr7.below hb8 hr7.lt) (row_src hr8) (by rw [HE2.out.2]; omega) (by omega) (by omega) ?_
  intro w9 hr9 ht9
  refine hK _ _ ht9 ?_
  clear hK K
  simp only [Act.put]
  refine wpGt_done ?_
  have hr9' : Hid (Row w9 w.heap.size 5 (pageL k l)) := by
    have := hr9
    rwa [HE2.out.1] at this
  have hb9 : Hid (Below w.heap.size w w9) := (hb7.trans (hb8.mono hb7.size)).trans (ht9.below (Nat.le_trans hb7.size hb8.size) (fun i hi => by rw [hi]; exact Nat.le_refl _))
  clear hr7 hb7 hr8 hb8 hr9 ht9
  go_wp2
  go_ret2
  exact ⟨rfl, hr9'.out, hb9.out⟩
theorem seal_kind (k : Nat) (v : Value) (w : World) (hk8 : k < 256) (hk : ¬ (1 ≤ k ∧ k ≤ 5)) :
    Calls Tryd.prog 19 #[.int .u8 k, v] w fun e w' => e = .returned (.tuple #[.slice none 0 0, .iface 59 (.int .i64 1)]) ∧ w = w' := by
  have hK := isKind_any k w hk8
  rw [show decide (1 ≤ k ∧ k ≤ 5) = false by simp; omega] at hK
  go_enter Tryd.func19, Tryd.ntmps19
  go_wp2_with (go_at_call 33; refine hK.mono ?_; rintro e w' ⟨rfl, rfl⟩)
  go_ret2
  exact ⟨rfl, rfl⟩
theorem seal_long (k : Nat) (a : Option Addr) (n c : Nat) (w : World) (hk1 : 1 ≤ k) (hk5 : k ≤ 5) (hl : 504 < n) :
    Calls Tryd.prog 19 #[.int .u8 k, .slice a n c] w fun e w' => e = .returned (.tuple #[.slice none 0 0, .iface 59 (.int .i64 5)]) ∧ w = w' := by
  have hK := isKind_any k w (by omega)
  rw [show decide (1 ≤ k ∧ k ≤ 5) = true by simp; omega] at hK
  have d1 : decide (504 < (n : Int)) = true := by simp; omega
  go_enter Tryd.func19, Tryd.ntmps19
  go_wp2_with (go_at_call 33; refine hK.mono ?_; rintro e w' ⟨rfl, rfl⟩)
  go_ret2
  exact ⟨rfl, rfl⟩
end Go.Proofs.YtofbomcimicccaaDoor
