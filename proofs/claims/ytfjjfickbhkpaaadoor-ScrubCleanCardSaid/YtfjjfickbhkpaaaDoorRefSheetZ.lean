/-
  The document's Seal.
-/
import Derived.Test.YtfjjfickbhkpaaaDoorSheetMathZ
import Derived.Test.YtfjjfickbhkpaaaDoorByZ
import Derived.Test.YtfjjfickbhkpaaaDoorByteInfo
import Derived.Test.YtfjjfickbhkpaaaDoorProg
import Derived.Test.YtfjjfickbhkpaaaDoorMemZ
import Derived.Test.YtfjjfickbhkpaaaDoorRefCrcZ
import Derived.WalkKit
import Derived.OwnWalk
import Derived.Laws.CopyOwn
import Derived.Below
import Derived.Lib.Hide
import Derived.Outline
namespace Go.Proofs.YtfjjfickbhkpaaaDoor
open Go Go.RowKit

/-- What stands in the document's row at length m. -/
def partL (k : Nat) (l : List Nat) (m : Nat) : List Nat := [k, 0, l.length / 256, l.length % 256] ++ l ++ List.replicate (m - (4 + l.length)) 0
theorem partL_length (k : Nat) (l : List Nat) (m : Nat) (h : 4 + l.length ≤ m) : (partL k l m).length = m := by
  simp only [partL, List.length_append, List.length_cons, List.length_nil, List.length_replicate]; omega
theorem partL_start (k : Nat) (l : List Nat) : [k, 0, l.length / 256, l.length % 256] ++ l = partL k l (4 + l.length) := by
  unfold partL; rw [Nat.sub_self]; simp
theorem partL_succ (k : Nat) (l : List Nat) (m : Nat) (h : 4 + l.length ≤ m) : partL k l m ++ [0] = partL k l (m + 1) := by
  unfold partL
  rw [show m + 1 - (4 + l.length) = (m - (4 + l.length)) + 1 by omega, List.replicate_succ', List.append_assoc]
theorem partL_last (k : Nat) (l : List Nat) : partL k l 508 = bodyL k l := by
  unfold partL bodyL
  rw [show 508 - (4 + l.length) = 504 - l.length by omega]
theorem refSeal_kind (k : Nat) (v : Value) (w : World) (hk8 : k < 256) (hk : ¬ (1 ≤ k ∧ k ≤ 5)) :
    Calls Tryd.prog 13 #[.int .u8 k, v] w fun e w' => e = .returned (.tuple #[.slice none 0 0, .int .i64 1]) ∧ w = w' := by
  by_cases h1 : k < 1
  · have d1 : decide ((k : Int) < 1) = true := by simp; omega
    go_enter Tryd.func13, Tryd.ntmps13
    go_wp2
    go_ret2
    exact ⟨rfl, rfl⟩
  · have d1 : decide ((k : Int) < 1) = false := by simp; omega
    have d2 : decide (5 < (k : Int)) = true := by simp; omega
    go_enter Tryd.func13, Tryd.ntmps13
    go_wp2
    go_ret2
    exact ⟨rfl, rfl⟩
theorem refSeal_long (k : Nat) (a : Option Addr) (n c : Nat) (w : World) (hk1 : 1 ≤ k) (hk5 : k ≤ 5) (hl : 504 < n) :
    Calls Tryd.prog 13 #[.int .u8 k, .slice a n c] w fun e w' => e = .returned (.tuple #[.slice none 0 0, .int .i64 5]) ∧ w = w' := by
  have d1 : decide ((k : Int) < 1) = false := by simp; omega
  have d2 : decide (5 < (k : Int)) = false := by simp; omega
  have d3 : decide (504 < (n : Int)) = true := by simp; omega
  go_enter Tryd.func13, Tryd.ntmps13
  go_wp2
  go_ret2
  exact ⟨rfl, rfl⟩
set_option maxRecDepth 100000 in
set_option maxHeartbeats 1000000 in
theorem refSeal_in (k : Nat) (a : Option Addr) (n c : Nat) (l : List Nat) (hn : l.length = n) (w : World) (hk1 : 1 ≤ k) (hk5 : k ≤ 5) (hl : n ≤ 504) (hb : B8 l) (hz : a = none → c = 0) (hsrc : Src w a l) :
    Calls Tryd.prog 13 #[.int .u8 k, .slice a n c] w fun e w' => ∃ v, e = .returned (.tuple #[v, .int .i64 0]) ∧ w'.ownsRow w.heap.size 5 1 v (pageL k l).length (bv (pageL k l)) ∧ Below w.heap.size w w' := by
  have d1 : decide ((k : Int) < 1) = false := by simp; omega
  have d2 : decide (5 < (k : Int)) = false := by simp; omega
  have d3 : decide (504 < (n : Int)) = false := by simp; omega
  obtain ⟨q, hq⟩ : ∃ q, q = n / 256 := ⟨_, rfl⟩
  obtain ⟨r, hr⟩ : ∃ r, r = n % 256 := ⟨_, rfl⟩
  have q1 : (n : Int).tdiv 256 = (q : Int) := by rw [Int.tdiv_eq_ediv_of_nonneg (by omega)]; omega
  have q2 : (n : Int) / 256 = (q : Int) := by omega
  have r1 : (n : Int).tmod 256 = (r : Int) := by rw [Int.tmod_eq_emod_of_nonneg (by omega)]; omega
  have r2 : (n : Int) % 256 = (r : Int) := by omega
  have q3 : q < 256 := by omega
  have r3 : r < 256 := by omega
  have hown0 : Hid ((w.alloc (.cells (bv [k, 0, q, r]).toArray 5)).ownsRow w.heap.size 5 1 (.slice (some ⟨w.heap.size, 0, none⟩) 4 4) 4 (bv [k, 0, q, r])) := own_new w 5 [k, 0, q, r] (by unfold maxLen; simp)
  have hst := partL_start k l
  rw [hn, ← hq, ← hr] at hst
  have Hst := Lib.hid hst
  have hb0 : Below w.heap.size w (w.alloc (.cells (bv [k, 0, q, r]).toArray 5)) := (Below.refl _ _).alloc (Nat.le_refl _) _
  have Hs := Lib.hid (hsrc.below hb0 (Nat.le_refl _))
  have Hb0 := Lib.hid hb0
  have Hn := Lib.hid hn
  clear hst hq hr hb0 hsrc hn
  go_enter Tryd.func13, Tryd.ntmps13
  go_wp2_with (show wpList _ _ _ (⟨some 29, _, _, _, _, _⟩ :: _) _ _; refine wpList_append_bytes rfl (.tmp 27) (.tmp 28) 26 rfl w.heap.size 5 Tryd.underlying26 infoByte _ [k, 0, q, r] (by rfl) hown0 a c l (by rw [Hn.out]; rfl) hz Hs.out (by rw [Hn.out]; simp; omega) (by simp) ?_; intro v1 w1 hown1 hgrow1 hnear1)
  have hb1 : Below w.heap.size w w1 := Hb0.out.grown hgrow1.out Hb0.out.size (by rintro j ⟨⟩; exact Nat.le_refl _)
  have ho1 := hown1.out
  rw [Hst.out, partL_length k l _ (by rw [Hn.out]; exact Nat.le_refl _)] at ho1
  obtain ⟨g1, c1, rfl, hlc1, hcm1, hg1, hgs1⟩ := own_form ho1 (by omega)
  have Ho1 := Lib.hid ho1
  clear hown1 hgrow1 hnear1 hown0 ho1 Hs Hb0
  go_loopw [6] (fun O wr => ∃ (m g cc : Nat), 4 + n ≤ m ∧ m ≤ 508 ∧ O = .slice (some ⟨g, 0, none⟩) m cc ∧ m ≤ cc ∧ cc ≤ maxLen ∧ Hid (wr.ownsRow w.heap.size 5 1 (.slice (some ⟨g, 0, none⟩) m cc) m (bv (partL k l m))) ∧ Hid (Below w.heap.size w wr)) (fun O _ => 508 - sliceLen O)
  case atStart => exact ⟨4 + n, g1, c1, Nat.le_refl _, by omega, rfl, hlc1, hcm1, Ho1, hb1⟩
  case round =>
    obtain ⟨m, g, cc, hm4, hm8, rfl, hmc, hcm, hown, hbel⟩ := hrel
    have hsz := hbel.out.size
    have hpl := partL_length k l m (by rw [Hn.out]; exact hm4)
    by_cases hlt : m < 508
    · have d4 : decide ((m : Int) < 508) = true := by simp; omega
      have hsucc := partL_succ k l m (by rw [Hn.out]; exact hm4)
      have hlen : (partL k l m).length + 1 ≤ 140737488355328 := by omega
      have hown' : Hid (wr.ownsRow w.heap.size 5 1 (.slice (some ⟨g, 0, none⟩) m cc) (partL k l m).length (bv (partL k l m))) := by rw [hpl]; exact hown
      have Hsu := Lib.hid hsucc
      have Hpl := Lib.hid hpl
      clear hsucc hpl
      go_wp2_with (show wpList _ _ _ (⟨some 35, _, _, _, _, _⟩ :: _) _ _; refine wpList_append_bytes rfl (.tmp 33) (.tmp 34) 26 rfl w.heap.size 5 Tryd.underlying26 infoByte _ (partL k l m) (by rfl) (hown'.out.alloc _) (some ⟨wr.heap.size, 0, none⟩) 1 [0] (by rfl) (by intro h; cases h) (by exact src_one wr _ 0) hlen (by simp; omega) ?_; intro O' w2 hown2 hgrow2 hnear2)
      have hb2 : Hid (Below w.heap.size w w2) := (hbel.out.alloc hsz _).grown hgrow2.out (by simp; omega) (fun j hj => (hown.out.lt j hj).1)
      have ho2 := hown2.out
      rw [Hsu.out, partL_length k l _ (by rw [Hn.out]; omega)] at ho2
      obtain ⟨g2, c2, rfl, hlc2, hcm2, hg2, hgs2⟩ := own_form ho2 (by omega)
      have Ho2 := Lib.hid ho2
      clear hown2 hgrow2 hnear2 ho2 hown hown' hbel
      go_wp2
      go_roundw
      case rel => exact ⟨m + 1, g2, c2, by omega, by omega, rfl, hlc2, hcm2, Ho2, hb2⟩
      case measure => simp [sliceLen]; omega
    · obtain rfl : m = 508 := by omega
      have ho := hown.out
      rw [partL_last] at ho hpl
      have hbb := bodyL_b8 (k := k) (l := l) (by omega) (by rw [Hn.out]; exact hl) hb
      have hS : (more 0#32 (bodyL k l)).toNat < 4294967296 := by have := (more 0#32 (bodyL k l)).isLt; omega
      have hM := refMore_any 0#32 (some ⟨g, 0, none⟩) cc (bodyL k l) wr hbb (by omega) (own_of_src (by rw [hpl]; exact ho))
      rw [hpl] at hM
      have hp4 : bodyL k l ++ beL (more 0#32 (bodyL k l)).toNat 4 = pageL k l := rfl
      rw [beL_four] at hp4
      have hlen : (bodyL k l).length + 4 ≤ 140737488355328 := by omega
      have hown' : Hid (wr.ownsRow w.heap.size 5 1 (.slice (some ⟨g, 0, none⟩) 508 cc) (bodyL k l).length (bv (bodyL k l))) := by rw [hpl]; exact ho
      generalize (more 0#32 (bodyL k l)).toNat = S at *
      obtain ⟨m0, h0⟩ : ∃ m0, m0 = S / 16777216 := ⟨_, rfl⟩
      obtain ⟨m1, h1⟩ : ∃ m1, m1 = S / 65536 % 256 := ⟨_, rfl⟩
      obtain ⟨m2, h2⟩ : ∃ m2, m2 = S / 256 % 256 := ⟨_, rfl⟩
      obtain ⟨m3, h3⟩ : ∃ m3, m3 = S % 256 := ⟨_, rfl⟩
      have e0 : (S : Int) / 16777216 = (m0 : Int) := by omega
      have e1 : (S : Int) / 65536 % 256 = (m1 : Int) := by omega
      have e2 : (S : Int) / 256 % 256 = (m2 : Int) := by omega
      have e3 : (S : Int) % 256 = (m3 : Int) := by omega
      have l0 : m0 < 256 := by omega
      have l1 : m1 < 256 := by omega
      have l2 : m2 < 256 := by omega
      have l3 : m3 < 256 := by omega
      rw [show S / 16777216 % 256 = m0 by omega, ← h1, ← h2, ← h3] at hp4
      have Hp4 := Lib.hid hp4
      have HM := Lib.hid hM
      clear hp4 hM h0 h1 h2 h3 ho hpl
      go_wp2_with fail
      refine HM.out.mono ?_; rintro e w' ⟨rfl, rfl⟩
      go_wp2_with (show wpList _ _ _ (⟨some 54, _, _, _, _, _⟩ :: _) _ _; refine wpList_append_bytes rfl (.tmp 38) (.tmp 53) 26 rfl w.heap.size 5 Tryd.underlying26 infoByte _ (bodyL k l) (by rfl) (hown'.out.alloc _) (some ⟨wr.heap.size, 0, none⟩) 4 [m0, m1, m2, m3] (by rfl) (by intro h; cases h) (by exact fun _ => ⟨_, _, rfl, src_new wr _ _ [m0, m1, m2, m3]⟩) hlen (by simp; omega) ?_; intro r3 w3 hown3 hgrow3 hnear3)
      have hb3 : Below w.heap.size w w3 := (hbel.out.alloc hsz _).grown hgrow3.out (by simp; omega) (fun j hj => (hown'.out.lt j hj).1)
      have ho3 := hown3.out
      rw [Hp4.out] at ho3
      go_ret2
      exact ⟨_, rfl, ho3, hb3⟩
end Go.Proofs.YtfjjfickbhkpaaaDoor
