/-
  SheetBack: the law's walk.
-/
import Derived.Test.YtnnifjhpnanijaaDoorSure5
namespace Go.Proofs.YtnnifjhpnanijaaDoor
open Go Go.RowKit

/-- Open of bytes that are not 512. -/
theorem open_not (w : World) (a : Option Addr) (n c : Nat) (h : n ≠ 512) :
    Calls Tryd.prog 9 #[.slice a n c] w fun e w' => e = .returned (.tuple #[.int .u8 0, .slice none 0 0, .iface 44 (.int .i64 3)]) ∧ w = w' := open_len a n c w h
set_option maxRecDepth 100000 in
set_option maxHeartbeats 4000000 in
theorem back_any (k : Nat) (a : Option Addr) (l : List Nat) (n c : Nat) (x : Int) (w : World) (hn : l.length = n) (hk : k < 256) (h8 : B8 l) (hs : Src w a l) (hnc : n ≤ 140737488355328) (hg : Hg w) (hT : WorthIn w) :
    Calls Tryd.prog 4 #[.int .u8 k, .slice a n c, .int .i64 x] w fun e w' => e = .returned (.bool true) ∧ Below w.heap.size w w' := by
  by_cases hbig : 504 < n
  · have d1 : decide (504 < (n : Int)) = true := by simp; omega
    go_enter Tryd.func4, Tryd.ntmps4
    go_wp2_with fail
    refine (sure_any _ hg hT).mono ?_
    rintro e w6 ⟨rfl, hb6⟩
    go_wp2_with fail
    go_ret
    exact ⟨rfl, hb6⟩
  have d1 : decide (504 < (n : Int)) = false := by simp; omega
  obtain ⟨r, hr⟩ : ∃ r, r = k % 5 := ⟨_, rfl⟩
  obtain ⟨q, hq⟩ : ∃ q, q = 1 + r := ⟨_, rfl⟩
  have er : (k : Int) % 5 = (r : Int) := by omega
  have eq : (1 : Int) + (r : Int) = (q : Int) := by omega
  have hr5 : r < 5 := by omega
  have hq1 : 1 ≤ q := by omega
  have hq5 : q ≤ 5 := by omega
  clear hr hq
  obtain ⟨L, hL⟩ : ∃ L, L = pageL q l := ⟨_, rfl⟩
  have hLl : L.length = 512 := by rw [hL]; exact pageL_length (by omega)
  have hLb : B8 L := by rw [hL]; exact pageL_b8 (by omega) (by omega) h8
  have hLo : opS L = (q, l, 0) := by rw [hL]; exact opS_page hq1 hq5 (by omega)
  have hLz : allZero L = false := by rw [hL]; exact page_blank hq1
  have hLt := fun i y hi hy hne => opS_turned (k := q) (l := l) (by omega) (by omega) h8 i y hi hy hne
  have hF1 := seal_in q a n c l hn w hq1 hq5 (by omega) h8 hs hT
  rw [← hL] at hLt hF1
  have HL := Lib.hid (And.intro hLl (And.intro hLb (And.intro hLo (And.intro hLz hLt))))
  have Hn := Lib.hid hn
  have HF := Lib.hid hF1
  have HG := Lib.hid hg
  have HT := Lib.hid hT
  have Hs := Lib.hid hs
  clear hL hLl hLb hLo hLz hLt hF1 hn hg hT hs
  obtain ⟨qx, hqx⟩ := Int.eq_ofNat_of_zero_le (show 0 ≤ IntKind.u64.wrap x by rw [IntKind.wrap_u64]; omega)
  obtain ⟨P, hP⟩ : ∃ P, P = qx % 4096 := ⟨_, rfl⟩
  have hPl : P < 4096 := by rw [hP]; exact Nat.mod_lt _ (by omega)
  have eP : (qx : Int) % 4096 = (P : Int) := by omega
  obtain ⟨I, hI⟩ : ∃ I, I = P / 8 := ⟨_, rfl⟩
  obtain ⟨J, hJ⟩ : ∃ J, J = P % 8 := ⟨_, rfl⟩
  have eI : (P : Int) / 8 = (I : Int) := by omega
  have eJ : (P : Int) % 8 = (J : Int) := by omega
  have hIK : I < 512 := by omega
  have hJ8 : J < 8 := by omega
  clear hP hI hJ
  go_enter Tryd.func4, Tryd.ntmps4
  go_wp2_with fail
  refine HF.out.mono ?_
  rintro e w1 ⟨rfl, hr1, hb1⟩
  clear HF
  obtain ⟨g, hgq⟩ : ∃ g, g = w.heap.size := ⟨_, rfl⟩
  rw [← hgq] at hr1
  have Hgq := Lib.hid hgq
  rw [← hgq]
  clear hgq
  go_wp2_with fail
  refine (open_row w1 g 512 512 L HL.out.1 (by omega) (by omega) HL.out.2.1 hr1 (HT.out.below hb1) q l .nilIface 0 HL.out.2.2.1 errV_zero).mono ?_
  rintro e w2 ⟨v, rfl, hv2, hb2⟩
  have hr2 := hr1.below hb2 hr1.lt
  have hbw2 := hb1.trans (hb2.mono hb1.size)
  clear hr1 hb1 hb2
  have hcv := hv2.conv
  have hca := conv_src (P := Tryd.prog) 22 5 9 Tryd.underlying22 Tryd.underlying5 Tryd.underlying9 a n c l Hn.out w2 (Hs.out.below hbw2 (Nat.le_refl _))
  generalize bstr l = SL at *
  have Hr2 := Lib.hid hr2
  have Hbw2 := Lib.hid hbw2
  clear hv2 hr2 hbw2
  go_wp2_with fail
  refine (blank_row w2 g 512 512 L HL.out.1 (by omega) Hr2.out false HL.out.2.2.2.1).mono ?_
  rintro e w' ⟨rfl, rfl⟩
  clear hcv hca
  go_wp2_with fail
  refine (open_not w2 _ 511 _ (by omega)).mono ?_
  rintro e w' ⟨rfl, rfl⟩
  have hown0 := Lib.hid (own_empty w2 5)
  have hba : Below w2.heap.size w2 (w2.alloc (.cells #[] 5)) := (Below.refl _ _).alloc (Nat.le_refl _) _
  have hra := Lib.hid (row_src (Hr2.out.below hba Hr2.out.lt))
  have Hba := Lib.hid hba
  clear hba
  go_wp2_with (first
    | (show wpList _ _ _ (⟨some 79, _, _, _, _, _⟩ :: _) _ _; refine wpList_append_bytes rfl (.tmp 77) (.tmp 78) 22 rfl w2.heap.size 5 Tryd.underlying22 infoByte _ [] (by rfl) hown0 (some ⟨g, 0, none⟩) 512 L (by rw [HL.out.1]; rfl) (by intro h; cases h) hra.out (by rw [HL.out.1]; simp) (by simp) ?_; intro r3 w3 hown3 hgrow3 hnear3; have hb3 : Hid (Below w2.heap.size w2 w3) := Hba.out.grown hgrow3.out (by simp) (own_lt hown0.out))
    | (show wpList _ _ _ (⟨some 81, _, _, _, _, _⟩ :: _) _ _; refine wpList_append_bytes rfl (.tmp 79) (.tmp 80) 22 rfl w2.heap.size 5 Tryd.underlying22 infoByte r3 ([] ++ L) (by rfl) (hown3.out.alloc _) (some ⟨w3.heap.size, 0, none⟩) 1 [0] (by rfl) (by intro h; cases h) (by exact src_one w3 _ 0) (by rw [List.nil_append, HL.out.1]; simp) (by have := hb3.out.size; simp; omega) ?_; intro r4 w4 hown4 hgrow4 hnear4; have hb4 : Hid (Below w2.heap.size w2 w4) := (hb3.out.alloc hb3.out.size _).grown hgrow4.out (by have := hb3.out.size; simp; omega) (own_lt hown3.out)))
  have ho4 := hown4.out
  rw [List.nil_append, List.length_append, HL.out.1] at ho4
  obtain ⟨g4, c4, rfl, _⟩ := own_form ho4 (by simp)
  have hb4' : Hid (Below w.heap.size w w4) := Hbw2.out.trans (hb4.out.mono Hbw2.out.size)
  have Hr4 := Lib.hid (Hr2.out.below hb4.out Hr2.out.lt)
  clear hown0 hra Hba hown3 hgrow3 hnear3 hb3 hown4 hgrow4 hnear4 ho4 hb4 Hr2 Hbw2
  refine (open_not w4 _ 513 _ (by omega)).mono ?_
  rintro e w' ⟨rfl, rfl⟩
  have hcell := Hr4.out.cell I (by rw [HL.out.1]; exact hIK)
  have hfr := Hr4.out.frozen I
  have hX := HL.out.2.1.get I
  obtain ⟨X, hXe⟩ : ∃ X, X = L.getD I 0 := ⟨_, rfl⟩
  rw [← hXe] at hcell hX
  have HX := Lib.hid hXe
  clear hXe
  have hbit : 2 ^ J < 256 := by
    have : 2 ^ J ≤ 2 ^ 7 := Nat.pow_le_pow_right (by decide) (by omega)
    omega
  have hY := xor_u8_lt X (2 ^ J) hX hbit
  have eY := xor_u8_nat X (2 ^ J) hX hbit
  have hne := xor_bit_ne X J
  have e2J : (2 : Int) ^ J % 256 = ((2 ^ J : Nat) : Int) := by
    have : ((2 ^ J : Nat) : Int) = (2 : Int) ^ J := Int.natCast_pow 2 J
    have h3 := Int.natCast_emod (2 ^ J) 256
    rw [Nat.mod_eq_of_lt hbit] at h3
    rw [← this]
    exact h3.symm
  generalize X ^^^ 2 ^ J = Y at *
  generalize (2 : Nat) ^ J = T2 at *
  have Hne := Lib.hid hne
  clear hne
  have hst := Lib.hid (Hr4.out.set I Y)
  have Hb5 := Lib.hid (hb4'.out.setCell (p := ⟨g, I, none⟩) (by rw [Hgq.out]; exact Nat.le_refl _) (.int .u8 (Y : Int)))
  have HS := Lib.hid (HL.out.2.2.2.2 I Y hIK hY (by rw [← HX.out]; exact Hne.out))
  go_wp2_with fail
  refine (open_row _ g 512 512 (L.set I Y) (by rw [List.length_set]; exact HL.out.1) (by omega) (by omega) (HL.out.2.1.set I Y hY) hst.out (HT.out.below Hb5.out) 0 [] _ 4 HS.out (errV_pos 4 (by decide))).mono ?_
  rintro e w5 ⟨v5, rfl, _, hb5⟩
  have hb5' := Lib.hid (Hb5.out.trans (hb5.mono Hb5.out.size))
  clear hb5 Hb5 hst HS hcell hfr hb4' Hr4
  go_wp2_with fail
  refine (num_err 3 w5 (HG.out.below hb5'.out)).mono ?_
  rintro e w6 ⟨rfl, hb6⟩
  have hb6' := Lib.hid (hb5'.out.trans (hb6.mono hb5'.out.size))
  clear hb6
  go_wp2_with fail
  refine (num_err 3 w6 (HG.out.below hb6'.out)).mono ?_
  rintro e w7 ⟨rfl, hb7⟩
  have hb7' := Lib.hid (hb6'.out.trans (hb7.mono hb6'.out.size))
  clear hb7
  go_wp2_with fail
  refine (num_err 4 w7 (HG.out.below hb7'.out)).mono ?_
  rintro e w8 ⟨rfl, hb8⟩
  have hb8' := Lib.hid (hb7'.out.trans (hb8.mono hb7'.out.size))
  clear hb8
  go_wp2_with fail
  refine (sure_any _ (HG.out.below hb8'.out) (HT.out.below hb8'.out)).mono ?_
  rintro e w9 ⟨rfl, hb9⟩
  go_wp2_with fail
  go_ret
  have := hb8'.out.trans (hb9.mono hb8'.out.size)
  rw [Hgq.out]
  exact ⟨rfl, this⟩
end Go.Proofs.YtnnifjhpnanijaaDoor
