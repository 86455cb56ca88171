/-
  VarintBack: the law's walk.
-/
import Derived.Test.YtcpekhfgkbigcaaDoorNum2
import Derived.Test.YtcpekhfgkbigcaaDoorVarPut
import Derived.Test.YtcpekhfgkbigcaaDoorVarRef
import Derived.Test.YtcpekhfgkbigcaaDoorSure3
namespace Go.Proofs.YtcpekhfgkbigcaaDoor
open Go.RowKit

theorem put_nil (v : Nat) (w : World) (hv : v < 18446744073709551616) :
    Calls Tryd.prog 10 #[.slice none 0 0, .int .u64 v] w fun e w' => e = .returned (.slice (some ⟨w.heap.size, 0, none⟩) (vs v : Nat) (vs v : Nat)) ∧ Row w' w.heap.size 5 (vb v) ∧ Below w.heap.size w w' := by
  have h := put_any none 0 [] v w (by simp) hv (Src.nil w none)
  simp only [List.length_nil, Nat.zero_add, List.nil_append] at h
  exact h
theorem got_vb (v : Nat) (r : List Nat) (h : v < 18446744073709551616) : gotV (vb v ++ r) = .tuple #[.int .u64 v, .int .i64 (vs v : Nat), .nilIface] := by
  unfold gotV; rw [gt_vb v r h]; rfl
theorem got_cut (v : Nat) (h : v < 18446744073709551616) : gotV ((vb v).take (vs v - 1)) = .tuple #[.int .u64 0, .int .i64 0, .iface 39 (.int .i64 6)] := by
  unfold gotV; rw [gt_cut v h]; rfl
theorem get_own (w : World) (B E : Nat) (a : Option Addr) (n c : Nat) (L : List Nat) (hn : L.length = n) (hb : B8 L) (hl : n ≤ 9223372036854775807) (hown : w.ownsRow B E 1 (.slice a n c) n (bv L)) (R : Value) (hR : gotV L = R) :
    Calls Tryd.prog 7 #[.slice a n c] w fun e w' => e = .returned R ∧ w = w' := by
  subst hn hR
  obtain ⟨a', c', he, hs, _⟩ := own_slice hown
  simp only [Value.slice.injEq, true_and] at he
  obtain ⟨rfl, rfl⟩ := he
  exact get_any a c L w hb hl hs
theorem get_cut (w : World) (g k c : Nat) (L : List Nat) (hk : k ≤ L.length) (hb : B8 L) (hl : L.length ≤ 9223372036854775807) (hr : Row w g 5 L) (R : Value) (hR : gotV (L.take k) = R) :
    Calls Tryd.prog 7 #[.slice (some ⟨g, 0, none⟩) k c] w fun e w' => e = .returned R ∧ w = w' := by
  subst hR
  have hlen : (L.take k).length = k := by rw [List.length_take]; omega
  have h := get_any (some ⟨g, 0, none⟩) c (L.take k) w (hb.take k) (by omega) (fun _ => ⟨g, 0, rfl, fun i hi => by
    rw [hlen] at hi
    rw [show (L.take k).getD i 0 = L.getD i 0 by simp [List.getD, hi], Nat.zero_add]
    exact hr.cell i (by omega)⟩)
  rw [hlen] at h
  exact h
theorem zgb_bounds (v : Nat) (h : v < 18446744073709551616) : -9223372036854775808 ≤ zgb v ∧ zgb v ≤ 9223372036854775807 := by
  unfold zgb; split <;> omega
theorem zg_lt (n : Int) (h1 : -9223372036854775808 ≤ n) (h2 : n ≤ 9223372036854775807) : zg n < 18446744073709551616 := by
  unfold zg; split <;> omega
theorem own_empty (w : World) (E : TypeId) : (w.alloc (.cells #[] E)).ownsRow w.heap.size E 1 (.slice (some ⟨w.heap.size, 0, none⟩) 0 0) 0 [] :=
  own_of_row (l := []) (by unfold Row; show (w.heap.push _)[w.heap.size]? = _; rw [Array.getElem?_push_size]; rfl) (Nat.le_refl _) (by unfold maxLen; simp)
theorem row_src {w : World} {g E : Nat} {L : List Nat} (h : Row w g E L) : Src w (some ⟨g, 0, none⟩) L := fun _ => ⟨g, 0, rfl, fun i hi => by rw [Nat.zero_add]; exact h.cell i hi⟩
set_option maxRecDepth 100000 in
set_option maxHeartbeats 1000000 in
theorem back_any (v : Nat) (n : Int) (a : Option Addr) (l : List Nat) (c : Nat) (w : World) (hv : v < 18446744073709551616) (hn1 : -9223372036854775808 ≤ n) (hn2 : n ≤ 9223372036854775807) (hb8 : B8 l) (hsrc : Src w a l) (hz : a = none → c = 0) (hlm : l.length ≤ 9223372036854775807) (hg : Hg w) :
    Calls Tryd.prog 4 #[.int .u64 v, .int .i64 n, .slice a l.length c] w fun e w' => e = .returned (.bool true) ∧ Below w.heap.size w w' := by
  by_cases hlen : 300 < l.length
  · have d0 : decide (300 < (l.length : Int)) = true := by simp; omega
    go_enter Tryd.func4, Tryd.ntmps4
    go_wp2_with fail
    refine (sure_any _ hg).mono ?_
    rintro e w6 ⟨rfl, hb6⟩
    go_wp2_with fail
    go_ret
    exact ⟨rfl, hb6⟩
  have d0 : decide (300 < (l.length : Int)) = false := by simp; omega
  have hl300 : l.length ≤ 300 := by omega
  have hP := put_nil v w hv
  have hG := got_vb v l hv
  have hC := got_cut v hv
  have hZ := fun wx => size_any v wx hv
  obtain ⟨u, hu⟩ : ∃ u, u = v - 1 := ⟨_, rfl⟩
  have hZ1 := fun wx => size_any u wx (by omega)
  have hm := vs_mono v u (by omega)
  have Hu := Lib.hid hu
  clear hu
  have hS10 := vs_le hv
  have hS1 := vs_pos v
  have hB8 := vb_b8 v
  have hBl : (vb v).length = vs v := rfl
  generalize vs v = S at *
  generalize vs u = S1 at *
  generalize vb v = B at *
  obtain ⟨K, rfl⟩ : ∃ K, S = K + 1 := ⟨S - 1, by omega⟩
  rw [Nat.add_sub_cancel] at hC
  have H := Lib.hid (And.intro hP (And.intro hG (And.intro hC (And.intro hZ hZ1))))
  have Hs := Lib.hid hsrc
  have HG := Lib.hid hg
  have HBl := Lib.hid hBl
  clear hP hG hC hZ hZ1 hsrc hg hlen hBl
  go_enter Tryd.func4, Tryd.ntmps4
  go_wp2_with fail
  refine H.out.1.mono ?_; rintro e w1 ⟨rfl, hr1, hb1⟩
  have Hr1 := Lib.hid hr1
  have Hb1 := Lib.hid hb1
  clear hr1 hb1
  have hown0 := Lib.hid (own_empty w1 5)
  have hba : Below w1.heap.size w1 (w1.alloc (.cells #[] 5)) := (Below.refl _ _).alloc (Nat.le_refl _) _
  have hra := Lib.hid (row_src (Hr1.out.below hba Hr1.out.lt))
  have Hba := Lib.hid hba
  clear hba
  go_wp2_with (first
    | (show wpList _ _ _ (⟨some 24, _, _, _, _, _⟩ :: _) _ _; refine wpList_append_bytes rfl (.tmp 22) (.tmp 23) 22 rfl w1.heap.size 5 Tryd.underlying22 infoByte _ [] (by rfl) hown0 (some ⟨w.heap.size, 0, none⟩) (K + 1) B (by rw [HBl.out]; rfl) (by intro h; cases h) hra.out (by have := HBl.out; simp; omega) (by simp) ?_; intro r2 w2 hown2 hgrow2 hnear2; have hb2 : Hid (Below w1.heap.size w1 w2) := Hba.out.grown hgrow2.out (by simp) (own_lt hown0.out))
    | (show wpList _ _ _ (⟨some 26, _, _, _, _, _⟩ :: _) _ _; refine wpList_append_bytes rfl (.tmp 24) (.tmp 25) 22 rfl w1.heap.size 5 Tryd.underlying22 infoByte r2 ([] ++ B) (by rfl) hown2 a c l (by rfl) hz (Hs.out.below (Hb1.out.trans (hb2.out.mono Hb1.out.size)) (Nat.le_refl _)) (by have := HBl.out; simp; omega) hb2.out.size ?_; intro r3 w3 hown3 hgrow3 hnear3; have hb3 : Hid (Below w1.heap.size w1 w3) := hb2.out.grown hgrow3.out hb2.out.size (own_lt hown2.out)))
  have ho3 := hown3.out
  rw [List.nil_append] at ho3
  have hBll : (B ++ l).length ≤ 310 := by have := HBl.out; rw [List.length_append]; omega
  have hbBl : B8 (B ++ l) := hB8.append hb8
  obtain ⟨a3, c3, rfl, _⟩ := own_slice ho3
  have HF := Lib.hid (get_own w3 w1.heap.size 5 a3 _ c3 (B ++ l) rfl hbBl (by omega) ho3 _ H.out.2.1)
  clear hown0 hra Hba hown2 hgrow2 hnear2 hb2 hown3 hgrow3 hnear3 ho3 hbBl
  generalize (B ++ l).length = M at *
  refine HF.out.mono ?_; rintro e w' ⟨rfl, rfl⟩
  clear HF
  go_wp2_with fail
  refine (get_cut w3 w.heap.size K (K + 1) B (by rw [HBl.out]; omega) hB8 (by rw [HBl.out]; omega) (Hr1.out.below hb3.out Hr1.out.lt) _ H.out.2.2.1).mono ?_; rintro e w' ⟨rfl, rfl⟩
  go_wp2_with fail
  refine (H.out.2.2.2.1 w3).mono ?_; rintro e w' ⟨rfl, rfl⟩
  go_wp2_with fail
  have hb3' : Hid (Below w.heap.size w w3) := Hb1.out.trans (hb3.out.mono Hb1.out.size)
  refine (num_err 6 w3 (HG.out.below hb3'.out)).mono ?_; rintro e w4 ⟨rfl, hb4⟩
  have hb4' : Hid (Below w.heap.size w w4) := hb3'.out.trans (hb4.mono hb3'.out.size)
  have hzb := zgb_bounds v hv
  have hzl := zg_lt n hn1 hn2
  have E0 := fun wx => zig_any n wx hn1 hn2
  have E1 := fun wx => refZig_any n wx hn1 hn2
  have E2 := fun wx => zag_any (zg n) wx hzl
  have E3 := fun wx => zag_any v wx hv
  have E4 := fun wx => refZag_any v wx hv
  have E5 := fun wx => zig_any (zgb v) wx hzb.1 hzb.2
  rw [zgb_zg] at E2
  rw [zg_zgb] at E5
  generalize zgb v = Zb at *
  generalize zg n = Z at *
  have E := Lib.hid (And.intro E0 (And.intro E1 (And.intro E2 (And.intro E3 (And.intro E4 E5)))))
  clear E0 E1 E2 E3 E4 E5 hb4 hb3 Hr1 Hb1
  have fin : ∀ w5 : World, Hid (Below w.heap.size w w5) → Calls Tryd.prog 6 #[] w5 fun e w' => e = .returned (.bool true) ∧ Below w.heap.size w w' := fun w5 h5 =>
    (sure_any w5 (HG.out.below h5.out)).mono fun _ _ h => ⟨h.1, h5.out.trans (h.2.mono h5.out.size)⟩
  have Fin := Lib.hid fin
  clear fin
  by_cases hv0 : 0 < v
  · have eu : (v : Int) - 1 = (u : Int) := by have := Hu.out; omega
    go_wp2_with fail
    refine (H.out.2.2.2.2 w4).mono ?_; rintro e w' ⟨rfl, rfl⟩
    go_wp2_with fail
    refine (E.out.1 w4).mono ?_; rintro e w' ⟨rfl, rfl⟩
    go_wp2_with fail
    refine (E.out.2.1 w4).mono ?_; rintro e w' ⟨rfl, rfl⟩
    go_wp2_with fail
    refine (E.out.2.2.1 w4).mono ?_; rintro e w' ⟨rfl, rfl⟩
    go_wp2_with fail
    refine (E.out.2.2.2.1 w4).mono ?_; rintro e w' ⟨rfl, rfl⟩
    go_wp2_with fail
    refine (E.out.2.2.2.2.1 w4).mono ?_; rintro e w' ⟨rfl, rfl⟩
    go_wp2_with fail
    refine (E.out.2.2.2.1 w4).mono ?_; rintro e w' ⟨rfl, rfl⟩
    go_wp2_with fail
    refine (E.out.2.2.2.2.2 w4).mono ?_; rintro e w' ⟨rfl, rfl⟩
    go_wp2_with fail
    refine (Fin.out w4 hb4').mono ?_; rintro e w6 ⟨rfl, hb6⟩
    go_wp2_with fail
    go_ret
    exact ⟨rfl, hb6⟩
  · go_wp2_with fail
    refine (E.out.1 w4).mono ?_; rintro e w' ⟨rfl, rfl⟩
    go_wp2_with fail
    refine (E.out.2.1 w4).mono ?_; rintro e w' ⟨rfl, rfl⟩
    go_wp2_with fail
    refine (E.out.2.2.1 w4).mono ?_; rintro e w' ⟨rfl, rfl⟩
    go_wp2_with fail
    refine (E.out.2.2.2.1 w4).mono ?_; rintro e w' ⟨rfl, rfl⟩
    go_wp2_with fail
    refine (E.out.2.2.2.2.1 w4).mono ?_; rintro e w' ⟨rfl, rfl⟩
    go_wp2_with fail
    refine (E.out.2.2.2.1 w4).mono ?_; rintro e w' ⟨rfl, rfl⟩
    go_wp2_with fail
    refine (E.out.2.2.2.2.2 w4).mono ?_; rintro e w' ⟨rfl, rfl⟩
    go_wp2_with fail
    refine (Fin.out w4 hb4').mono ?_; rintro e w6 ⟨rfl, hb6⟩
    go_wp2_with fail
    go_ret
    exact ⟨rfl, hb6⟩
end Go.Proofs.YtcpekhfgkbigcaaDoor
