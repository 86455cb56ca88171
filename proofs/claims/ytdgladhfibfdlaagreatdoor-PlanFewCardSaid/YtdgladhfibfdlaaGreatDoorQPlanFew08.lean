/-
  What the law PlanFew stands on.
-/
import Derived.Test.YtdgladhfibfdlaaGreatDoorQPlanFew06
import Derived.Test.YtdgladhfibfdlaaGreatDoorQPlanFew07
import Derived.Test.YtdgladhfibfdlaaGreatDoorProg
import Derived.Test.YtdgladhfibfdlaaGreatDoorQPlanFew05
import Derived.WalkKit
import Derived.Lib.ConvBytes
namespace Go.Proofs.YtdgladhfibfdlaaGreatDoor
open Go Go.RowKit
def seal1 (k : Nat) : List Nat := (List.replicate 512 0).set 0 k
def seal2 (k n : Nat) : List Nat := splice (seal1 k) 2 (beL n 2)
def seal3 (k n : Nat) (l : List Nat) : List Nat := splice (seal2 k n) 4 l
theorem seal1_eq (k : Nat) : seal1 k = k :: 0 :: 0 :: 0 :: List.replicate 508 0 := rfl
theorem beS_two (n : Nat) (h : n ≤ 504) : beL n 2 = [n / 256, n % 256] := by
  show [n / 256 % 256, n % 256] = _
  rw [Nat.mod_eq_of_lt (show n / 256 < 256 by omega)]
theorem seal2_eq (k n : Nat) (h : n ≤ 504) : seal2 k n = k :: 0 :: n / 256 :: n % 256 :: List.replicate 508 0 := by
  unfold seal2
  rw [seal1_eq, beS_two n h]; rfl
theorem seal3_eq (k n : Nat) (l : List Nat) (hn : l.length = n) (h : n ≤ 504) : seal3 k n l = bodyL k l ++ [0, 0, 0, 0] := by
  unfold seal3
  rw [seal2_eq k n h, bodyL_cons, ← hn]
  simp only [splice, List.take_succ_cons, List.take_zero, List.cons_append, List.nil_append, List.append_assoc]
  congr 5
  rw [show 4 + l.length = l.length + 1 + 1 + 1 + 1 by omega]
  simp only [List.drop_succ_cons, List.drop_replicate]
  rw [show [0, 0, 0, 0] = List.replicate 4 0 from rfl, List.replicate_append_replicate]
  congr 1; omega
theorem seal3_length (k n : Nat) (l : List Nat) (hn : l.length = n) (h : n ≤ 504) : (seal3 k n l).length = 512 := by
  rw [seal3_eq k n l hn h, List.length_append, bodyL_length (by omega)]; rfl
theorem seal3_take (k n : Nat) (l : List Nat) (hn : l.length = n) (h : n ≤ 504) : (seal3 k n l).take 508 = bodyL k l := by
  rw [seal3_eq k n l hn h, ← bodyL_length (k := k) (l := l) (by omega), List.take_left]
theorem seal4_eq (k n : Nat) (l : List Nat) (hn : l.length = n) (h : n ≤ 504) : splice (seal3 k n l) 508 (beL (more 0#32 (bodyL k l)).toNat 4) = pageL k l := by
  unfold splice
  rw [seal3_take k n l hn h, List.drop_of_length_le (by rw [seal3_length k n l hn h, beL_length]; exact Nat.le_refl _), List.append_nil]; rfl
theorem seal1_length (k : Nat) : (seal1 k).length = 512 := by unfold seal1; rw [List.length_set, List.length_replicate]
theorem seal2_length (k n : Nat) (h : n ≤ 504) : (seal2 k n).length = 512 := by rw [seal2_eq k n h, List.length_cons, List.length_cons, List.length_cons, List.length_cons, List.length_replicate]
theorem sum_body (w : World) (g : Nat) (L m : List Nat) (hm : L.take 508 = m) (hl : L.length = 512) (hb : B8 m) (hr : Row w g 5 L) (hT : WorthIn w) :
    Calls Tryz.prog 177 #[.slice (some ⟨g, 0, none⟩) 508 512] w fun e w' => e = .returned (.int .u32 ((more 0#32 m).toNat : Nat)) ∧ w = w' := by
  have h8 : m.length = 508 := by rw [← hm, List.length_take]; omega
  have := sum_any (some ⟨g, 0, none⟩) 512 m w hb (by omega) (by rw [← hm]; exact (hr.cs.start 508).src) hT
  rw [h8] at this
  exact this
set_option maxRecDepth 100000 in
set_option maxHeartbeats 1000000 in
theorem seal_in (k : Nat) (a : Option Addr) (n c : Nat) (l : List Nat) (hn : l.length = n) (w : World) (hk1 : 1 ≤ k) (hk5 : k ≤ 5) (hl : n ≤ 504) (hb : B8 l) (hsrc : Src w a l) (hT : WorthIn w) :
    Calls Tryz.prog 138 #[.int .u8 k, .slice a n c] w fun e w' => e = .returned (.tuple #[.slice (some ⟨w.heap.size, 0, none⟩) 512 512, .nilIface]) ∧ Row w' w.heap.size 5 (pageL k l) ∧ Below w.heap.size w w' := by
  have hK := isKind_any k w (by omega)
  rw [show decide (1 ≤ k ∧ k ≤ 5) = true by simp; omega] at hK
  have d1 : decide (504 < (n : Int)) = false := by simp; omega
  have Hn := Lib.hid hn
  have Hs := Lib.hid hsrc
  have HT := Lib.hid hT
  have e1 := seal3_take k n l hn hl
  have e2 := seal4_eq k n l hn hl
  have e3 := seal3_length k n l hn hl
  have hbb := bodyL_b8 (k := k) (l := l) (by omega) (by omega) hb
  have HE := Lib.hid (And.intro e1 (And.intro e2 (And.intro e3 hbb)))
  clear hn hsrc hT e1 e2 e3 hbb
  go_enter Tryz.func138, Tryz.ntmps138
  go_wp2_with (first
    | (go_at_call 176; refine hK.mono ?_; rintro e w' ⟨rfl, rfl⟩)
    | (at_make; refine wpList_make_bytes rfl _ _ 48 rfl 5 Tryz.underlying48 infoByte _ _ _ _ 512 rfl rfl rfl rfl (by omega) ?_; intro w1 hr1 hb1; have hc1 := hr1.out.cell 0 (by rw [List.length_replicate]; omega); have hf1 := hr1.out.frozen 0; have hx1 := Lib.hid (hr1.out.set 0 k)))
  have hr2 : Row (w1.setCell ⟨w.heap.size, 0, none⟩ (.int .u8 (k : Int))) w.heap.size 5 (seal1 k) := hx1.out
  have hb2 : Below w.heap.size w (w1.setCell ⟨w.heap.size, 0, none⟩ (.int .u8 (k : Int))) := hb1.setCell (Nat.le_refl _) _
  refine wp_region_gt (F := fun i => i = w.heap.size) [(0, true), (1, true), (2, true), (3, true), (4, true), (5, false), (6, false)] (by kernel_rfl) (by kernel_rfl) (by kernel_rfl) (by kernel_rfl) (fun _ _ _ _ _ h => h) ?_
  have hr3 := (row_drew (w1.setCell ⟨w.heap.size, 0, none⟩ (.int .u8 (k : Int))) w.heap.size 5 (seal1 k)).mpr hr2
  have hb3 := hb2.drew
  clear hr1 hc1 hf1 hx1 hr2 hb1 hb2
  generalize (w1.setCell ⟨w.heap.size, 0, none⟩ (.int .u8 (k : Int))).drew = w3 at *
  have z1 : IntKind.u64.wrap (n : Int) = (n : Int) := by rw [IntKind.wrap_u64]; omega
  iterate 5 (refine wpGt_read (o := ⟨_, _, _, _, _, _⟩) (v := ?_) rfl (by rfl) ?_ ?_; rotate_left; (intro w' hw'; go_simp; with_reducible rfl); simp only [Act.put, List.setIfInBounds_toArray, List.set_cons_zero, List.set_cons_succ])
  refine wpGt_call (o := ⟨_, _, _, _, _, _⟩) rfl (by rfl) (fun K hK => ?_)
  go_simp
  refine (put_none n 2 w3 (by decide) (by decide) (by omega)).mono ?_
  rintro e w4 ⟨rfl, hr4, hb4⟩
  refine hK _ _ (Turn.ofBelow hb4) ?_
  clear hK K
  refine wpGt_call (o := ⟨_, _, _, _, _, _⟩) rfl (by rfl) (fun K hK => ?_)
  refine wp_copy_bytes (.tmp 21) (.tmp 25) 48 48 rfl 5 Tryz.underlying48 sizeByte w.heap.size 2 510 510 _ 2 2 (seal1 k) (beL n 2) (beL_length _ _) (by rfl) (by rfl) (hr3.below hb4 hr3.lt) (row_src hr4) (by rw [seal1_length]; omega) (by omega) (by omega) ?_
  intro w5 hr5 ht5
  refine hK _ _ ht5 ?_
  clear hK K
  simp only [Act.put]
  refine wpGt_done ?_
  have hr5' : Row w5 w.heap.size 5 (seal2 k n) := hr5
  have hb5 : Below w.heap.size w w5 := (hb3.trans (hb4.mono hb3.size)).trans (ht5.below (Nat.le_trans hb3.size hb4.size) (fun i hi => by rw [hi]; exact Nat.le_refl _))
  have hs5 := Lib.hid (Hs.out.below hb5 (Nat.le_refl _))
  clear hr3 hb3 hr4 hb4 hr5 ht5
  go_wp2_with (show wpList _ _ _ (⟨some 30, _, _, _, _, _⟩ :: _) _ _; refine wpList_copy_bytes rfl (.tmp 28) (.tmp 29) 48 48 rfl 5 Tryz.underlying48 sizeByte w.heap.size 4 508 508 a c (seal2 k n) l (by rfl) (by rw [Hn.out]; rfl) hr5' hs5.out (by rw [seal2_length k n hl, Hn.out]; omega) (by rw [Hn.out]; omega) w.heap.size w hb5 (Nat.le_refl _) ?_; intro w6 hr6 hb6; clear hr5' hb5 hs5)
  refine (sum_body w6 w.heap.size (seal3 k n l) (bodyL k l) HE.out.1 HE.out.2.2.1 HE.out.2.2.2 hr6.out (HT.out.below hb6)).mono ?_
  rintro e w' ⟨rfl, rfl⟩
  have hr6' : Row w6 w.heap.size 5 (seal3 k n l) := hr6.out
  have hSl : (more 0#32 (bodyL k l)).toNat < 4294967296 := by have := (more 0#32 (bodyL k l)).isLt; omega
  have hE := HE.out.2.1
  have hEl := HE.out.2.2.1
  generalize (more 0#32 (bodyL k l)).toNat = S at *
  have HE2 := Lib.hid (And.intro hE hEl)
  clear hE hEl hr6 HE
  go_wp2_with fail
  refine wp_region_gt (F := fun i => i = w.heap.size) [(0, true), (1, true), (2, true), (3, true), (4, false), (5, false)] (by kernel_rfl) (by kernel_rfl) (by kernel_rfl) (by kernel_rfl) (fun _ _ _ _ _ h => h) ?_
  have hr7 := (row_drew w6 w.heap.size 5 (seal3 k n l)).mpr hr6'
  have hb7 := hb6.drew
  clear hr6' hb6
  generalize w6.drew = w7 at *
  have z2 : IntKind.u64.wrap (S : Int) = (S : Int) := by rw [IntKind.wrap_u64]; omega
  iterate 4 (refine wpGt_read (o := ⟨_, _, _, _, _, _⟩) (v := ?_) rfl (by rfl) ?_ ?_; rotate_left; (intro w' hw'; go_simp; with_reducible rfl); simp only [Act.put, List.setIfInBounds_toArray, List.set_cons_zero, List.set_cons_succ])
  refine wpGt_call (o := ⟨_, _, _, _, _, _⟩) rfl (by rfl) (fun K hK => ?_)
  go_simp
  refine (put_none S 4 w7 (by decide) (by decide) (by omega)).mono ?_
  rintro e w8 ⟨rfl, hr8, hb8⟩
  refine hK _ _ (Turn.ofBelow hb8) ?_
  clear hK K
  refine wpGt_call (o := ⟨_, _, _, _, _, _⟩) rfl (by rfl) (fun K hK => ?_)
  refine wp_copy_bytes (.tmp 35) (.tmp 38) 48 48 rfl 5 Tryz.underlying48 sizeByte w.heap.size 508 4 4 _ 4 4 (seal3 k n l) (beL S 4) (beL_length _ _) (by rfl) (by rfl) (hr7.below hb8 hr7.lt) (row_src hr8) (by rw [HE2.out.2]; omega) (by omega) (by omega) ?_
  intro w9 hr9 ht9
  refine hK _ _ ht9 ?_
  clear hK K
  simp only [Act.put]
  refine wpGt_done ?_
  have hr9' : Hid (Row w9 w.heap.size 5 (pageL k l)) := by
    have := hr9
    rwa [HE2.out.1] at this
  have hb9 : Hid (Below w.heap.size w w9) := (hb7.trans (hb8.mono hb7.size)).trans (ht9.below (Nat.le_trans hb7.size hb8.size) (fun i hi => by rw [hi]; exact Nat.le_refl _))
  clear hr7 hb7 hr8 hb8 hr9 ht9
  go_wp2
  go_ret2
  exact ⟨rfl, hr9'.out, hb9.out⟩
end Go.Proofs.YtdgladhfibfdlaaGreatDoor
namespace Go.Proofs.YtdgladhfibfdlaaGreatDoor
open Go Go.RowKit
theorem conv_str (w : World) (s : ByteArray) (hs : s.size ≤ 1099511627776) : ∃ g c w1, (convert 9 48 (.string s)).run Tryz.prog w = .ok (.slice (some ⟨g, 0, none⟩) s.size c) w1 ∧ Src w1 (some ⟨g, 0, none⟩) (bn s) ∧ s.size ≤ c ∧ c ≤ maxLen ∧ Below w.heap.size w w1 := by
  refine ⟨w.heap.size, grownCap w s.size 0 5, Lib.bytesWorld w 5 s, ?_, ?_, ?_, ?_, ⟨rfl, rfl, rfl, by rw [Lib.bytesWorld_size]; omega, fun j hj => Lib.bytesWorld_at_old w _ _ j hj⟩⟩
  · exact Lib.run_convert_string_bytes w _ _ _ s Tryz.underlying9 Tryz.underlying48 Tryz.underlying5
  · have hcs : Cs (Lib.bytesWorld w 5 s) w.heap.size 0 (bn s) := fun i hi => by
      rw [bn_len] at hi
      rw [Nat.zero_add, Lib.bytesWorld_cell w 5 s i hi]
      unfold bn
      have hi2 : i < s.data.toList.length := by simpa using hi
      congr 2
      rw [List.getD_eq_getElem?_getD, List.getD_eq_getElem?_getD, List.getElem?_map, show (bl s) = s.data.toList from rfl, List.getElem?_eq_getElem hi2]
      rfl
    exact hcs.src
  · have := grownCap_ge w s.size 0 5; omega
  · exact grownCap_le_maxLen w s.size 0 5 (by unfold maxLen; omega)
end Go.Proofs.YtdgladhfibfdlaaGreatDoor
namespace Go.Proofs.YtdgladhfibfdlaaGreatDoor
open Go Go.RowKit
def lastK (ks : List ByteArray) (k : Nat) : ByteArray := if k = 0 then ByteArray.empty else sa ks (k - 1)
def keysTo (ks : List ByteArray) (k : Nat) : Prop := ∀ i, i < k → okK (sa ks i) = true ∧ blt (lastK ks i) (sa ks i) = true
def freshAt (is : List Int) (i : Nat) : Prop := ∀ j, j < i → ia is j ≠ ia is i
def pagesTo (is : List Int) (k : Nat) : Prop := ∀ i, i < k → (2 ≤ ia is i ∧ ia is i ≤ 1023) ∧ freshAt is i
def keysF (ks : List ByteArray) : Prop := keysTo ks ks.length
def pagesF (is : List Int) : Prop := pagesTo is is.length
def mayF (ks : List ByteArray) (is : List Int) : Prop := keysF ks ∧ pagesF is ∧ 1 ≤ ks.length ∧ is.length = ks.length + 1
theorem okK_size {k : ByteArray} (h : okK k = true) : 1 ≤ k.size ∧ k.size ≤ 40 := by
  unfold okK at h; simp at h; exact h
theorem blt_empty {k : ByteArray} (h : 1 ≤ k.size) : blt ByteArray.empty k = true := by
  rw [blt_iff]
  have e := bl_size k
  show [] < bl k
  cases h2 : bl k with
  | nil => rw [h2] at e; simp at e; omega
  | cons x r => exact List.nil_lt_cons x r
theorem keysTo_succ {ks : List ByteArray} {k : Nat} (h : keysTo ks k) (h1 : okK (sa ks k) = true) (h2 : blt (lastK ks k) (sa ks k) = true) : keysTo ks (k + 1) := fun i hi => by
  rcases Nat.lt_or_ge i k with h3 | h3
  · exact h i h3
  · obtain rfl : i = k := by omega
    exact ⟨h1, h2⟩
theorem pagesTo_succ {is : List Int} {k : Nat} (h : pagesTo is k) (h1 : 2 ≤ ia is k ∧ ia is k ≤ 1023) (h2 : freshAt is k) : pagesTo is (k + 1) := fun i hi => by
  rcases Nat.lt_or_ge i k with h3 | h3
  · exact h i h3
  · obtain rfl : i = k := by omega
    exact ⟨h1, h2⟩
theorem not_keys {ks : List ByteArray} {k : Nat} (hk : k < ks.length) (h : okK (sa ks k) = false ∨ blt (lastK ks k) (sa ks k) = false) : ¬ keysF ks := fun ha => by
  have := ha k hk
  rcases h with h | h
  · rw [h] at this; cases this.1
  · rw [h] at this; cases this.2
theorem not_pages {is : List Int} {k : Nat} (hk : k < is.length) (h : ¬ (2 ≤ ia is k ∧ ia is k ≤ 1023) ∨ ¬ freshAt is k) : ¬ pagesF is := fun ha => by
  have := ha k hk
  rcases h with h | h
  · exact h this.1
  · exact h this.2
theorem lastK_succ (ks : List ByteArray) (k : Nat) : lastK ks (k + 1) = sa ks k := by
  unfold lastK; rw [if_neg (by omega), Nat.add_sub_cancel]
theorem keys_asc {ks : List ByteArray} (h : keysF ks) (i : Nat) (h0 : 0 < i) (hi : i < ks.length) : blt (sa ks (i - 1)) (sa ks i) = true := by
  have := (h i hi).2
  unfold lastK at this; rwa [if_neg (by omega)] at this
theorem keys_lt {ks : List ByteArray} (h : keysF ks) : ∀ (j i : Nat), i < j → j < ks.length → blt (sa ks i) (sa ks j) = true
  | 0, i, h1, _ => by omega
  | j + 1, i, h1, hj => by
    have h2 := keys_asc h (j + 1) (by omega) hj
    rw [Nat.add_sub_cancel] at h2
    rcases Nat.lt_or_ge i j with h3 | h3
    · exact blt_trans (keys_lt h j i h3 (by omega)) h2
    · obtain rfl : i = j := by omega
      exact h2
def twoP (p : Int) : List Nat := [p.toNat / 256 % 256, p.toNat % 256]
def pcF (k : ByteArray) (p : Int) : List Nat := vb k.size ++ (bn k ++ twoP p)
def putF (ks : List ByteArray) (is : List Int) : Nat → List Nat
  | 0 => twoP (ia is 0)
  | k + 1 => putF ks is k ++ pcF (sa ks k) (ia is (k + 1))
def forkS (ks : List ByteArray) (is : List Int) : List Nat := putF ks is ks.length
theorem twoP_b8 (p : Int) : B8 (twoP p) := fun x hx => by
  unfold twoP at hx; simp at hx; omega
theorem pcF_b8 (k : ByteArray) (p : Int) : B8 (pcF k p) := (vb_b8 _).append ((bn_b8 _).append (twoP_b8 p))
theorem putF_b8 (ks : List ByteArray) (is : List Int) : ∀ k, B8 (putF ks is k)
  | 0 => twoP_b8 _
  | k + 1 => (putF_b8 ks is k).append (pcF_b8 _ _)
theorem pcF_len (k : ByteArray) (p : Int) (h : k.size ≤ 127) : (pcF k p).length = 3 + k.size := by
  have e : (vb k.size).length = 1 := vs_small (by omega)
  unfold pcF
  rw [List.length_append, List.length_append, bn_len, e]
  show 1 + (k.size + 2) = _; omega
def sizeTo (ks : List ByteArray) : Nat → Nat
  | 0 => 2
  | k + 1 => sizeTo ks k + (3 + (sa ks k).size)
theorem putF_len {ks : List ByteArray} {is : List Int} (h : ∀ i, i < ks.length → (sa ks i).size ≤ 127) : ∀ k, k ≤ ks.length → (putF ks is k).length = sizeTo ks k
  | 0, _ => rfl
  | k + 1, hk => by
    rw [putF, List.length_append, putF_len h k (by omega), pcF_len _ _ (h k (by omega)), sizeTo]
theorem keys_small {ks : List ByteArray} (h : keysF ks) : ∀ i, i < ks.length → (sa ks i).size ≤ 127 := fun i hi => by
  have := okK_size (h i hi).1; omega
theorem fork_len {ks : List ByteArray} {is : List Int} (h : keysF ks) : (forkS ks is).length = sizeTo ks ks.length := putF_len (keys_small h) _ (Nat.le_refl _)
theorem sizeTo_le {ks : List ByteArray} (h : keysF ks) : ∀ k, k ≤ ks.length → sizeTo ks k ≤ 2 + 43 * k
  | 0, _ => by rw [sizeTo]; omega
  | k + 1, hk => by
    have := okK_size (h k (by omega)).1
    have := sizeTo_le h k (by omega)
    rw [sizeTo]; omega
theorem sizeTo_mono (ks : List ByteArray) : ∀ (m k : Nat), k ≤ m → sizeTo ks k ≤ sizeTo ks m
  | 0, k, h => by obtain rfl : k = 0 := by omega
                  exact Nat.le_refl _
  | m + 1, k, h => by
    rcases Nat.lt_or_ge k (m + 1) with h1 | h1
    · have := sizeTo_mono ks m k (by omega)
      show _ ≤ sizeTo ks m + _; omega
    · obtain rfl : k = m + 1 := by omega
      exact Nat.le_refl _
open Classical in
/-- Encode's error and its bytes. -/
noncomputable def encFE (ks : List ByteArray) (is : List Int) : Nat := if mayF ks is then (if (forkS ks is).length ≤ 504 then 0 else 5) else 1
noncomputable def encFB (ks : List ByteArray) (is : List Int) : List Nat := if encFE ks is = 0 then forkS ks is else []
theorem encF_1 {ks : List ByteArray} {is : List Int} (h : ¬ mayF ks is) : encFE ks is = 1 ∧ encFB ks is = [] := by
  have : encFE ks is = 1 := by unfold encFE; rw [if_neg h]
  exact ⟨this, by unfold encFB; rw [this]; rfl⟩
theorem encF_5 {ks : List ByteArray} {is : List Int} (h : mayF ks is) (h3 : 504 < (forkS ks is).length) : encFE ks is = 5 ∧ encFB ks is = [] := by
  have : encFE ks is = 5 := by unfold encFE; rw [if_pos h, if_neg (by omega)]
  exact ⟨this, by unfold encFB; rw [this]; rfl⟩
theorem encF_0 {ks : List ByteArray} {is : List Int} (h : mayF ks is) (h3 : (forkS ks is).length ≤ 504) : encFE ks is = 0 ∧ encFB ks is = forkS ks is := by
  have : encFE ks is = 0 := by unfold encFE; rw [if_pos h, if_pos h3]
  exact ⟨this, by unfold encFB; rw [this]; rfl⟩
def wayS : List ByteArray → ByteArray → Nat
  | [], _ => 0
  | c :: r, key => if blt key c = true then 0 else wayS r key + 1
theorem wayS_le : ∀ (cs : List ByteArray) (key : ByteArray), wayS cs key ≤ cs.length
  | [], _ => Nat.le_refl _
  | c :: r, key => by
    have := wayS_le r key
    unfold wayS
    split
    · exact Nat.zero_le _
    · rw [List.length_cons]; omega
theorem wayS_lt : ∀ (cs : List ByteArray) (key : ByteArray) (i : Nat), i < wayS cs key → blt key (sa cs i) = false
  | [], _, i, h => by simp [wayS] at h
  | c :: r, key, i, h => by
    unfold wayS at h
    split at h
    · omega
    · rename_i h1
      cases i with
      | zero => show blt key c = false; simpa using h1
      | succ i => exact wayS_lt r key i (by omega)
theorem wayS_at : ∀ (cs : List ByteArray) (key : ByteArray), wayS cs key < cs.length → blt key (sa cs (wayS cs key)) = true
  | [], _, h => by simp at h
  | c :: r, key, h => by
    unfold wayS at h ⊢
    split
    · rename_i h1
      exact h1
    · rename_i h1
      rw [if_neg h1, List.length_cons] at h
      exact wayS_at r key (by omega)
theorem wayS_ge {cs : List ByteArray} (ha : keysF cs) (key : ByteArray) (i : Nat) (hi : wayS cs key ≤ i) (hl : i < cs.length) : blt key (sa cs i) = true := by
  have h1 := wayS_at cs key (by omega)
  rcases Nat.lt_or_ge (wayS cs key) i with h2 | h2
  · exact blt_trans h1 (keys_lt ha i _ h2 hl)
  · obtain rfl : i = wayS cs key := by omega
    exact h1
end Go.Proofs.YtdgladhfibfdlaaGreatDoor
