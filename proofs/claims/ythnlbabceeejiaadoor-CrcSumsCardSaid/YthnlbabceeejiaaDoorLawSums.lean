/-
  CrcSums: the law's walk.
-/
import Derived.Test.YthnlbabceeejiaaDoorSure2
import Derived.Test.YthnlbabceeejiaaDoorRefCrc
import Derived.OwnWalk
namespace Go.Proofs.YthnlbabceeejiaaDoor
open Go.RowKit

theorem infoByte2 : (Tryd.prog.info? 5).map (fun i => (i.zero, i.size, i.bytes)) = some (some (.int .u8 0), 1, 1) := by kernel_rfl
theorem two_is (a : Option Addr) (l : List Nat) (c : Nat) (hb : B8 l) (hlc : l.length ≤ c) (hcm : c ≤ 140737488355328) :
    ∃ R : Bool, (∀ w, Src w a l → WorthIn w → Calls Tryd.prog 12 #[.slice a l.length c] w fun e w' => e = .returned (.bool R) ∧ w = w') ∧
      (∀ w, Src w a l → Calls Tryd.prog 13 #[.slice a l.length c] w fun e w' => e = .returned (.bool R) ∧ w = w') := by
  by_cases h : l.length < 4
  · exact ⟨false, fun w _ _ => is_short a _ c w h, fun w _ => refIs_short a _ c w h⟩
  · obtain ⟨m, t, rfl, ht⟩ : ∃ m t, l = m ++ t ∧ t.length = 4 := ⟨l.take (l.length - 4), l.drop (l.length - 4), (List.take_append_drop _ _).symm, by rw [List.length_drop]; omega⟩
    rw [List.length_append, ht] at hlc ⊢
    refine ⟨decide (numL t = (more 0#32 m).toNat), fun w hs hT => ?_, fun w hs => ?_⟩
    · obtain ⟨b, o, rfl, hc⟩ := hs (by rw [List.length_append]; omega)
      exact is_long b o c m t w ht hlc (by omega) hc hb hT
    · obtain ⟨b, o, rfl, hc⟩ := hs (by rw [List.length_append]; omega)
      exact refIs_long b o c m t w ht hlc hcm hc hb
theorem num_one (w : World) (hg : Hg w) : Calls Tryd.prog 9 #[.iface 36 (.int .i64 1)] w fun e w' => e = .returned (.int .i64 1) ∧ Below w.heap.size w w' := num_err 1 w hg
set_option maxRecDepth 100000 in
set_option maxHeartbeats 1000000 in
theorem sums_any (a b : Option Addr) (la lb : List Nat) (ca cb : Nat) (n : Int) (w : World) (hba : B8 la) (hbb : B8 lb) (hsa : Src w a la) (hsb : Src w b lb) (hla : la.length ≤ ca) (hlb : lb.length ≤ cb) (hca : ca ≤ 140737488355328) (hcb : cb ≤ 140737488355328)
    (hg : Hg w) (hT : WorthIn w) :
    Calls Tryd.prog 3 #[.slice a la.length ca, .slice b lb.length cb, .int .i64 n] w fun e w' => e = .returned (.bool true) ∧ Below w.heap.size w w' := by
  have hla' : la.length ≤ 140737488355328 := by omega
  have hlb' : lb.length ≤ 140737488355328 := by omega
  by_cases hlen : 600 < la.length + lb.length
  · have d0 : decide (600 < (la.length : Int) + (lb.length : Int)) = true := by simp; omega
    go_enter Tryd.func3, Tryd.ntmps3
    go_wp2_with fail
    refine (sure_any _ hg hT).mono ?_
    rintro e w6 ⟨rfl, hb6⟩
    go_wp2_with fail
    go_ret
    exact ⟨rfl, hb6⟩
  have d0 : decide (600 < (la.length : Int) + (lb.length : Int)) = false := by simp; omega
  by_cases hmid : 2000 < n ∧ n ≤ 65536
  · have d1 : decide (2000 < n) = true := by simp; omega
    have d2 : decide (n ≤ 65536) = true := by simp; omega
    go_enter Tryd.func3, Tryd.ntmps3
    go_wp2_with fail
    refine (sure_any _ hg hT).mono ?_
    rintro e w6 ⟨rfl, hb6⟩
    go_wp2_with fail
    go_ret
    exact ⟨rfl, hb6⟩
  obtain ⟨R, hi1, hi2⟩ := two_is a la ca hba hla hca
  have Fs := sum_any a ca la w hba (by omega) hsa hT
  have F1 := fun w (hs : Src w a la) => refMore_any 0#32 a ca la w hba (by omega) hs
  have F2 := fun w (hs : Src w b lb) (hT : WorthIn w) => more_any (more 0#32 la) b cb lb w hbb (by omega) hs hT
  have F3 := fun w (hs : Src w b lb) => refMore_any (more 0#32 la) b cb lb w hbb (by omega) hs
  have F6 := fun (k : Nat) (h : k ≤ 65536) => noughts_in (more 0#32 la) k w h hT
  have F7 := fun (k : Nat) (w1 : World) (g : Nat) (h : k ≤ 2000) (hr : Row w1 g 5 (List.replicate k 0)) => refMore_any (more 0#32 la) (some ⟨g, 0, none⟩) k (List.replicate k 0) w1 (fun x hx => by rw [List.mem_replicate] at hx; omega) (by rw [List.length_replicate]; omega) (fun _ => ⟨g, 0, rfl, fun i hi => by rw [Nat.zero_add]; exact hr.cell i hi⟩)
  have hSl : (more 0#32 la).toNat < 4294967296 := by have := (more 0#32 la).isLt; omega
  have hMl : (more (more 0#32 la) lb).toNat < 4294967296 := by have := (more (more 0#32 la) lb).isLt; omega
  have hVl : ∀ k, (more (more 0#32 la) (List.replicate k 0)).toNat < 4294967296 := fun k => by have := (more (more 0#32 la) (List.replicate k 0)).isLt; omega
  generalize (more (more 0#32 la) lb).toNat = M at *
  generalize hV : (fun k => (more (more 0#32 la) (List.replicate k 0)).toNat) = V at *
  have F6' : ∀ k : Nat, k ≤ 65536 → Calls Tryd.prog 8 #[.int .u32 ((more 0#32 la).toNat : Nat), .int .i64 k] w fun e w' => e = .returned (.tuple #[.int .u32 (V k : Nat), .nilIface]) ∧ w = w' := fun k h => by rw [← hV]; exact F6 k h
  have F7' : ∀ (k : Nat) (w1 : World) (g : Nat), k ≤ 2000 → Row w1 g 5 (List.replicate k 0) → Calls Tryd.prog 10 #[.int .u32 ((more 0#32 la).toNat : Nat), .slice (some ⟨g, 0, none⟩) k k] w1 fun e w' => e = .returned (.int .u32 (V k : Nat)) ∧ w1 = w' := fun k w1 g h hr => by
    have := F7 k w1 g h hr
    rw [List.length_replicate] at this
    rw [← hV]; exact this
  have hVl' : ∀ k, V k < 4294967296 := fun k => by rw [← hV]; exact hVl k
  clear F6 F7 hVl hV
  generalize (more 0#32 la).toNat = S at *
  have H := Lib.hid (And.intro F1 (And.intro F2 (And.intro F3 (And.intro hi1 (And.intro hi2 (And.intro Fs (And.intro F6' F7')))))))
  have HVl := Lib.hid hVl'
  have HG := Lib.hid hg
  have HTo := Lib.hid hT
  have Hsa := Lib.hid hsa
  have Hsb := Lib.hid hsb
  clear F1 F2 F3 hi1 hi2 Fs F6' F7' hVl' hg hT hsa hsb hba hbb
  by_cases hneg : n < 0
  · have d1 : decide (2000 < n) = false := by simp; omega
    have d2 : decide (n < 0) = true := by simp; omega
    clear hmid hneg
    go_enter Tryd.func3, Tryd.ntmps3
    go_wp2_with fail
    refine H.out.2.2.2.2.2.1.mono ?_; rintro e w' ⟨rfl, rfl⟩
    go_wp2_with fail
    refine (noughts_arg S n w (.inl (by simpa using d2))).mono ?_; rintro e w' ⟨rfl, rfl⟩
    go_wp2_with fail
    refine (num_one w HG.out).mono ?_; rintro e w1 ⟨rfl, hb1⟩
    go_wp2_with fail
    refine (H.out.1 w1 (Hsa.out.below hb1 (Nat.le_refl _))).mono ?_; rintro e w' ⟨rfl, rfl⟩
    go_wp2_with fail
    refine (H.out.2.1 w1 (Hsb.out.below hb1 (Nat.le_refl _)) (HTo.out.below hb1)).mono ?_; rintro e w' ⟨rfl, rfl⟩
    go_wp2_with fail
    refine (H.out.2.2.1 w1 (Hsb.out.below hb1 (Nat.le_refl _))).mono ?_; rintro e w' ⟨rfl, rfl⟩
    go_wp2_with fail
    refine (H.out.2.2.2.1 w1 (Hsa.out.below hb1 (Nat.le_refl _)) (HTo.out.below hb1)).mono ?_; rintro e w' ⟨rfl, rfl⟩
    go_wp2_with fail
    refine (H.out.2.2.2.2.1 w1 (Hsa.out.below hb1 (Nat.le_refl _))).mono ?_; rintro e w' ⟨rfl, rfl⟩
    go_wp2_with fail
    refine (sure_any w1 (HG.out.below hb1) (HTo.out.below hb1)).mono ?_; rintro e w6 ⟨rfl, hb6⟩
    go_wp2_with fail
    go_ret
    exact ⟨rfl, hb1.trans (hb6.mono hb1.size)⟩
  by_cases hbig : 65536 < n
  · have d1 : decide (2000 < n) = true := by simp; omega
    have d1' : decide (n ≤ 65536) = false := by simp; omega
    have d2 : decide (n < 0) = false := by simp; omega
    have d3 : decide (65536 < n) = true := by simp; omega
    clear hmid hneg hbig
    go_enter Tryd.func3, Tryd.ntmps3
    go_wp2_with fail
    refine H.out.2.2.2.2.2.1.mono ?_; rintro e w' ⟨rfl, rfl⟩
    go_wp2_with fail
    refine (noughts_arg S n w (.inr (by simpa using d3))).mono ?_; rintro e w' ⟨rfl, rfl⟩
    go_wp2_with fail
    refine (num_one w HG.out).mono ?_; rintro e w1 ⟨rfl, hb1⟩
    go_wp2_with fail
    refine (H.out.1 w1 (Hsa.out.below hb1 (Nat.le_refl _))).mono ?_; rintro e w' ⟨rfl, rfl⟩
    go_wp2_with fail
    refine (H.out.2.1 w1 (Hsb.out.below hb1 (Nat.le_refl _)) (HTo.out.below hb1)).mono ?_; rintro e w' ⟨rfl, rfl⟩
    go_wp2_with fail
    refine (H.out.2.2.1 w1 (Hsb.out.below hb1 (Nat.le_refl _))).mono ?_; rintro e w' ⟨rfl, rfl⟩
    go_wp2_with fail
    refine (H.out.2.2.2.1 w1 (Hsa.out.below hb1 (Nat.le_refl _)) (HTo.out.below hb1)).mono ?_; rintro e w' ⟨rfl, rfl⟩
    go_wp2_with fail
    refine (H.out.2.2.2.2.1 w1 (Hsa.out.below hb1 (Nat.le_refl _))).mono ?_; rintro e w' ⟨rfl, rfl⟩
    go_wp2_with fail
    refine (sure_any w1 (HG.out.below hb1) (HTo.out.below hb1)).mono ?_; rintro e w6 ⟨rfl, hb6⟩
    go_wp2_with fail
    go_ret
    exact ⟨rfl, hb1.trans (hb6.mono hb1.size)⟩
  · obtain ⟨k, rfl⟩ := Int.eq_ofNat_of_zero_le (show 0 ≤ n by omega)
    have hk : k ≤ 2000 := by omega
    have d1 : decide (2000 < (k : Int)) = false := by simp; omega
    have d2 : decide ((k : Int) < 0) = false := by simp
    have d3 : decide (65536 < (k : Int)) = false := by simp; omega
    have hVk := HVl.out k
    obtain ⟨w1, hrun, hr1, hb1⟩ := run_make_bytes (P := Tryd.prog) w 22 5 Tryd.underlying22 infoByte2 .i64 .i64 k (by omega)
    have Hr1 := Lib.hid hr1
    clear hr1
    clear hmid hneg hbig
    go_enter Tryd.func3, Tryd.ntmps3
    go_wp2_with fail
    refine H.out.2.2.2.2.2.1.mono ?_; rintro e w' ⟨rfl, rfl⟩
    go_wp2_with fail
    refine (H.out.2.2.2.2.2.2.1 k (by omega)).mono ?_; rintro e w' ⟨rfl, rfl⟩
    go_wp2_with fail
    refine (H.out.2.2.2.2.2.2.2 k w1 _ hk Hr1.out).mono ?_; rintro e w' ⟨rfl, rfl⟩
    go_wp2_with fail
    refine (H.out.1 w1 (Hsa.out.below hb1 (Nat.le_refl _))).mono ?_; rintro e w' ⟨rfl, rfl⟩
    go_wp2_with fail
    refine (H.out.2.1 w1 (Hsb.out.below hb1 (Nat.le_refl _)) (HTo.out.below hb1)).mono ?_; rintro e w' ⟨rfl, rfl⟩
    go_wp2_with fail
    refine (H.out.2.2.1 w1 (Hsb.out.below hb1 (Nat.le_refl _))).mono ?_; rintro e w' ⟨rfl, rfl⟩
    go_wp2_with fail
    refine (H.out.2.2.2.1 w1 (Hsa.out.below hb1 (Nat.le_refl _)) (HTo.out.below hb1)).mono ?_; rintro e w' ⟨rfl, rfl⟩
    go_wp2_with fail
    refine (H.out.2.2.2.2.1 w1 (Hsa.out.below hb1 (Nat.le_refl _))).mono ?_; rintro e w' ⟨rfl, rfl⟩
    go_wp2_with fail
    refine (sure_any w1 (HG.out.below hb1) (HTo.out.below hb1)).mono ?_; rintro e w6 ⟨rfl, hb6⟩
    go_wp2_with fail
    go_ret
    exact ⟨rfl, hb1.trans (hb6.mono hb1.size)⟩
end Go.Proofs.YthnlbabceeejiaaDoor
