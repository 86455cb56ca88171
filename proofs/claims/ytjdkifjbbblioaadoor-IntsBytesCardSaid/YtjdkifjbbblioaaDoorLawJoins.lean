/-
  IntsJoins: the law's walk.
-/
import Derived.Test.YtjdkifjbbblioaaDoorSure1
import Derived.Test.YtjdkifjbbblioaaDoorPut
import Derived.Test.YtjdkifjbbblioaaDoorGr
namespace Go.Proofs.YtjdkifjbbblioaaDoor
open Go.RowKit

theorem beL_split (n : Nat) : ∀ m v, beL v (n + m) = beL (v / 256 ^ m) n ++ beL v m
  | 0, v => by simp [beL]
  | m + 1, v => by
    rw [← Nat.add_assoc, beL, beL_split n m (v / 256), beL, Nat.pow_succ', Nat.div_div_eq_div_mul, List.append_assoc]
theorem put_nil (v s : Nat) (w : World) (hs1 : 1 ≤ s) (hs : s ≤ 64) (hv : v < 18446744073709551616) :
    Calls Tryd.prog 10 #[.slice none 0 0, .int .u64 v, .int .i64 s] w fun e w' => e = .returned (.slice (some ⟨w.heap.size, 0, none⟩) s s) ∧ Row w' w.heap.size 5 (beL v s) ∧ Below w.heap.size w w' := by
  have h := put_in none 0 [] v s w (by simp) hs1 hs hv (Src.nil _ _)
  simpa using h
theorem put_row (g c n : Nat) (l : List Nat) (hn : l.length = n) (v s : Nat) (w : World) (hl : n ≤ 65536) (hs1 : 1 ≤ s) (hs : s ≤ 64) (hv : v < 18446744073709551616) (hr : Row w g 5 l) :
    Calls Tryd.prog 10 #[.slice (some ⟨g, 0, none⟩) n c, .int .u64 v, .int .i64 s] w fun e w' => e = .returned (.slice (some ⟨w.heap.size, 0, none⟩) (n + s) (n + s)) ∧ Row w' w.heap.size 5 (l ++ beL v s) ∧ Below w.heap.size w w' := by
  subst hn
  exact put_in (some ⟨g, 0, none⟩) c l v s w hl hs1 hs hv (fun _ => ⟨g, 0, rfl, fun i hi => by rw [Nat.zero_add]; exact hr.cell i hi⟩)

/-- What two calls of Small answer, as far as the law asks. -/
theorem smalls (n : Int) (K P : Nat) (hn : -9223372036854775808 ≤ n) (hn2 : n ≤ 9223372036854775807) (hK1 : 1 ≤ K) (hK2 : K ≤ 63) (hP : P = 2 ^ K) :
    (n < 0 ∧ (∀ w, Calls Tryd.prog 13 #[.int .i64 n, .int .i64 K] w fun e w' => e = .returned (.tuple #[.int .u64 0, .iface 47 (.int .i64 2)]) ∧ w = w') ∧
      (∀ w, Calls Tryd.prog 13 #[.int .i64 n, .int .i64 ((K : Int) + 1)] w fun e w' => e = .returned (.tuple #[.int .u64 0, .iface 47 (.int .i64 2)]) ∧ w = w')) ∨
    (∃ m : Nat, n = m ∧ m < P ∧ (∀ w, Calls Tryd.prog 13 #[.int .i64 n, .int .i64 K] w fun e w' => e = .returned (.tuple #[.int .u64 m, .nilIface]) ∧ w = w') ∧
      (∀ w, Calls Tryd.prog 13 #[.int .i64 n, .int .i64 ((K : Int) + 1)] w fun e w' => e = .returned (.tuple #[.int .u64 m, .nilIface]) ∧ w = w')) ∨
    (∃ m : Nat, n = m ∧ P ≤ m ∧ (∀ w, Calls Tryd.prog 13 #[.int .i64 n, .int .i64 K] w fun e w' => e = .returned (.tuple #[.int .u64 0, .iface 47 (.int .i64 2)]) ∧ w = w') ∧
      ∃ y f, ∀ w, Calls Tryd.prog 13 #[.int .i64 n, .int .i64 ((K : Int) + 1)] w fun e w' => e = .returned (.tuple #[y, f]) ∧ w = w') := by
  have hPP : 2 ^ (K + 1) = 2 * P := by rw [Nat.pow_succ', hP]
  by_cases h0 : n < 0
  · exact .inl ⟨h0, fun w => small_neg n K w (by omega) (by omega) h0, fun w => small_neg n (K + 1) w (by omega) (by omega) h0⟩
  · obtain ⟨m, rfl⟩ := Int.eq_ofNat_of_zero_le (show 0 ≤ n by omega)
    right
    by_cases h1 : m < P
    · exact .inl ⟨m, rfl, h1, fun w => small_in m K w hK1 (by omega) (by omega) (by rw [← hP]; exact h1), fun w => small_in m (K + 1) w (by omega) (by omega) (by omega) (by rw [hPP]; omega)⟩
    · refine .inr ⟨m, rfl, by omega, fun w => small_range m K w hK1 (by omega) (by omega) (by rw [← hP]; omega), ?_⟩
      by_cases h2 : m < 2 * P
      · exact ⟨_, _, fun w => small_in m (K + 1) w (by omega) (by omega) (by omega) (by rw [hPP]; exact h2)⟩
      · exact ⟨_, _, fun w => small_range m (K + 1) w (by omega) (by omega) (by omega) (by rw [hPP]; omega)⟩
set_option maxRecDepth 100000 in
set_option maxHeartbeats 1000000 in
theorem joins_any (v b : Nat) (n : Int) (w : World) (hv : v < 18446744073709551616) (hn : -9223372036854775808 ≤ n) (hn2 : n ≤ 9223372036854775807) (hg : Hg w) (hT : TabIn w) :
    Calls Tryd.prog 6 #[.int .u64 v, .int .i64 n, .int .u8 b] w fun e w' => e = .returned (.bool true) ∧ Below w.heap.size w w' := by
  obtain ⟨u, hu⟩ : ∃ u, u = v / 4294967296 := ⟨_, rfl⟩
  have eu : (v : Int) / 4294967296 = (u : Int) := by omega
  have hul : u < 18446744073709551616 := by omega
  have Hu := Lib.hid hu
  clear hu
  obtain ⟨K, hK⟩ : ∃ K, K = 1 + b % 63 := ⟨_, rfl⟩
  have e1 : (1 + (b : Int) % 63) = (K : Int) := by omega
  have hK1 : 1 ≤ K := by omega
  have hK2 : K ≤ 63 := by omega
  obtain ⟨P, hP⟩ : ∃ P, P = 2 ^ K := ⟨_, rfl⟩
  have hP2 : P ≤ 9223372036854775808 := by rw [hP]; exact pow_le63 K hK2
  have e2 : IntKind.u64.wrap ((2 : Int) ^ K) = (P : Int) := by rw [wrap_pow K (by omega), hP]
  have Hs := Lib.hid (smalls n K P hn hn2 hK1 hK2 hP)
  clear hK hP
  go_enter Tryd.func6, Tryd.ntmps6
  go_wp2_with fail
  refine (put_nil u 4 _ (by decide) (by decide) hul).mono ?_
  rintro e w1 ⟨rfl, hr1, hb1⟩
  go_wp2_with fail
  refine (put_nil v 4 _ (by decide) (by decide) hv).mono ?_
  rintro e w2 ⟨rfl, hr2, hb2⟩
  have hr12 := hr1.below hb2 hr1.lt
  have hc1 := fun wx => conv_row (P := Tryd.prog) 22 5 9 Tryd.underlying22 Tryd.underlying5 Tryd.underlying9 w.heap.size 4 4 (beL u 4) (beL_length _ _) wx
  have hc2 := fun wx => conv_row (P := Tryd.prog) 22 5 9 Tryd.underlying22 Tryd.underlying5 Tryd.underlying9 w1.heap.size 4 4 (beL v 4) (beL_length _ _) wx
  have hrd := row_drew
  have hc8 := fun g wx => conv_row (P := Tryd.prog) 22 5 9 Tryd.underlying22 Tryd.underlying5 Tryd.underlying9 g 8 8 (beL v 8) (beL_length _ _) wx
  have hc48 := fun g wx => conv_row (P := Tryd.prog) 22 5 9 Tryd.underlying22 Tryd.underlying5 Tryd.underlying9 g 8 8 (beL u 4 ++ beL v 4) (by rw [List.length_append, beL_length, beL_length]) wx
  have hB12 : Below w.heap.size w w2 := hb1.trans (hb2.mono hb1.size)
  have hsp : beL v 8 = beL u 4 ++ beL v 4 := by rw [Hu.out]; exact beL_split 4 4 v
  have hq1 : ((bstr (beL v 8)).toList == (bstr (beL u 4) ++ bstr (beL v 4)).toList) = true := by rw [hsp, bstr_append]; simp
  have hq2 : ((bstr (beL u 4 ++ beL v 4)).toList == (bstr (beL v 8)).toList) = true := by rw [hsp]; simp
  clear hsp
  have hns : ¬ 9223372036854775807 < (bstr (beL u 4)).size + (bstr (beL v 4)).size := by rw [bstr_size, bstr_size, beL_length, beL_length]; omega
  go_wp2_with fail
  refine wp_region_gr [(0, true), (3, true), (4, true), (5, true), (6, true), (7, true), (1, false), (2, true), (8, true), (9, true), (10, true), (11, true), (14, true), (12, false), (13, true), (15, false), (16, true), (17, true), (18, true)] (by kernel_rfl) (by kernel_rfl) (by kernel_rfl) (by kernel_rfl) (fun _ _ _ _ _ h => h) ?_
  have hx1 : ∀ w', Ext w2.drew w' → Row w' w.heap.size 5 (beL u 4) := fun w' h => (h.block _ hr12.lt).trans hr12
  have hx2 : ∀ w', Ext w2.drew w' → Row w' w1.heap.size 5 (beL v 4) := fun w' h => (h.block _ hr2.lt).trans hr2
  repeat (refine wpGr_read (o := ⟨_, _, _, _, _, _⟩) (v := ?_) rfl (by rfl) ?_ ?_; rotate_left; (intro w' hw'; go_simp; with_reducible rfl); simp only [Act.put, List.setIfInBounds_toArray, List.set_cons_zero, List.set_cons_succ])
  refine wpGr_call (o := ⟨_, _, _, _, _, _⟩) rfl (by rfl) (fun K hK => ?_)
  go_simp
  refine (put_nil v 8 _ (by omega) (by omega) hv).mono ?_
  rintro e w3 ⟨rfl, hr3, hb3⟩
  have hE3 : Ext w2.drew w3 := hb3
  refine hK _ _ hE3 ?_
  clear hK K
  try simp only [Act.put, List.setIfInBounds_toArray, List.set_cons_zero, List.set_cons_succ]
  have hr13 := hx1 _ hE3
  have hx3 : ∀ w', Ext w3 w' → Row w' w2.heap.size 5 (beL v 8) := fun w' h => (h.block _ hr3.lt).trans hr3
  clear hx1 hx2
  repeat (refine wpGr_read (o := ⟨_, _, _, _, _, _⟩) (v := ?_) rfl (by rfl) ?_ ?_; rotate_left; (intro w' hw'; go_simp; with_reducible rfl); simp only [Act.put, List.setIfInBounds_toArray, List.set_cons_zero, List.set_cons_succ])
  refine wpGr_call (o := ⟨_, _, _, _, _, _⟩) rfl (by rfl) (fun K hK => ?_)
  go_simp
  refine (put_row w.heap.size 4 4 (beL u 4) (beL_length _ _) v 4 _ (by omega) (by omega) (by omega) hv hr13).mono ?_
  rintro e w4 ⟨rfl, hr4, hb4⟩
  refine hK _ _ hb4 ?_
  clear hK K
  try simp only [Act.put, List.setIfInBounds_toArray, List.set_cons_zero, List.set_cons_succ]
  have hx4 : ∀ w', Ext w4 w' → Row w' w3.heap.size 5 (beL u 4 ++ beL v 4) := fun w' h => (h.block _ hr4.lt).trans hr4
  clear hx3
  repeat (refine wpGr_read (o := ⟨_, _, _, _, _, _⟩) (v := ?_) rfl (by rfl) ?_ ?_; rotate_left; (intro w' hw'; go_simp; with_reducible rfl); simp only [Act.put, List.setIfInBounds_toArray, List.set_cons_zero, List.set_cons_succ])
  refine wpGr_call (o := ⟨_, _, _, _, _, _⟩) rfl (by rfl) (fun K hK => ?_)
  go_simp
  refine (put_nil v 8 _ (by omega) (by omega) hv).mono ?_
  rintro e w5 ⟨rfl, hr5, hb5⟩
  refine hK _ _ hb5 ?_
  clear hK K
  try simp only [Act.put, List.setIfInBounds_toArray, List.set_cons_zero, List.set_cons_succ]
  have hx5 : ∀ w', Ext w5 w' → Row w' w4.heap.size 5 (beL v 8) := fun w' h => (h.block _ hr5.lt).trans hr5
  clear hx4
  repeat (refine wpGr_read (o := ⟨_, _, _, _, _, _⟩) (v := ?_) rfl (by rfl) ?_ ?_; rotate_left; (intro w' hw'; go_simp; with_reducible rfl); simp only [Act.put, List.setIfInBounds_toArray, List.set_cons_zero, List.set_cons_succ])
  refine wpGr_done ?_
  have hbw : Below w.heap.size w w5 := hB12.drew.trans ((hE3.trans (hb4.mono (Nat.le_refl _))).mono hB12.size |>.trans (hb5.mono (Nat.le_trans hB12.size (Nat.le_trans hb3.size hb4.size))))
  have hT5 := hT.below hbw
  have hg5 := hg.below hbw
  clear hr1 hb1 hr2 hb2 hr12 hc1 hc2 hrd hc8 hc48 hB12 hq1 hq2 hns hr3 hb3 hE3 hr13 hr4 hb4 hr5 hb5 hx5
  go_wp2_with fail
  rcases Hs.out with ⟨h0, s1, s2⟩ | ⟨m, rfl, h0, s1, s2⟩ | ⟨m, rfl, h0, s1, y, f, s2⟩
  · have d0 : decide (n < 0) = true := by simpa using h0
    have S2 := Lib.hid s2
    clear s2
    refine (s1 _).mono ?_
    rintro e w' ⟨rfl, rfl⟩
    go_wp2_with fail
    refine (S2.out _).mono ?_
    rintro e w' ⟨rfl, rfl⟩
    go_wp2_with fail
    · refine (sure_any _ hg5 hT5).mono ?_
      rintro e w6 ⟨rfl, hb6⟩
      go_wp2_with fail
      go_ret
      exact ⟨rfl, hbw.trans (hb6.mono hbw.size)⟩
    · have hv0 : 0 < v := by omega
      obtain ⟨t1, t2, _⟩ := bitLen_top v hv0 hv
      have t3 := pop_between v hv0 hv
      have ho := ones_any v w5 hv
      have hh := highest_pos v w5 hv0 hv
      have hl := lowest_pos v w5 hv0 hv hT5
      obtain ⟨h, he⟩ : ∃ h, h = Lib.bitLen v - 1 := ⟨_, rfl⟩
      rw [← he] at hh
      have t4 : pop v + Lib.ctzFrom 64 v ≤ h + 1 := by omega
      have t5 : h ≤ 63 := by omega
      clear t1 t2 t3 he
      generalize pop v = A at *
      generalize Lib.ctzFrom 64 v = c at *
      have Hh := Lib.hid hh
      have Hl := Lib.hid hl
      clear hh hl
      refine ho.mono ?_
      rintro e w' ⟨rfl, rfl⟩
      go_wp2_with fail
      refine Hh.out.mono ?_
      rintro e w' ⟨rfl, rfl⟩
      go_wp2_with fail
      refine Hl.out.mono ?_
      rintro e w' ⟨rfl, rfl⟩
      go_wp2_with fail
      refine (sure_any _ hg5 hT5).mono ?_
      rintro e w6 ⟨rfl, hb6⟩
      go_wp2_with fail
      go_ret
      exact ⟨rfl, hbw.trans (hb6.mono hbw.size)⟩
  · have d0 : decide ((m : Int) < 0) = false := by simp
    have dP : decide (P ≤ m) = false := by simp; omega
    have S2 := Lib.hid s2
    clear s2
    refine (s1 _).mono ?_
    rintro e w' ⟨rfl, rfl⟩
    go_wp2_with fail
    refine (S2.out _).mono ?_
    rintro e w' ⟨rfl, rfl⟩
    go_wp2_with fail
    · refine (sure_any _ hg5 hT5).mono ?_
      rintro e w6 ⟨rfl, hb6⟩
      go_wp2_with fail
      go_ret
      exact ⟨rfl, hbw.trans (hb6.mono hbw.size)⟩
    · have hv0 : 0 < v := by omega
      obtain ⟨t1, t2, _⟩ := bitLen_top v hv0 hv
      have t3 := pop_between v hv0 hv
      have ho := ones_any v w5 hv
      have hh := highest_pos v w5 hv0 hv
      have hl := lowest_pos v w5 hv0 hv hT5
      obtain ⟨h, he⟩ : ∃ h, h = Lib.bitLen v - 1 := ⟨_, rfl⟩
      rw [← he] at hh
      have t4 : pop v + Lib.ctzFrom 64 v ≤ h + 1 := by omega
      have t5 : h ≤ 63 := by omega
      clear t1 t2 t3 he
      generalize pop v = A at *
      generalize Lib.ctzFrom 64 v = c at *
      have Hh := Lib.hid hh
      have Hl := Lib.hid hl
      clear hh hl
      refine ho.mono ?_
      rintro e w' ⟨rfl, rfl⟩
      go_wp2_with fail
      refine Hh.out.mono ?_
      rintro e w' ⟨rfl, rfl⟩
      go_wp2_with fail
      refine Hl.out.mono ?_
      rintro e w' ⟨rfl, rfl⟩
      go_wp2_with fail
      refine (sure_any _ hg5 hT5).mono ?_
      rintro e w6 ⟨rfl, hb6⟩
      go_wp2_with fail
      go_ret
      exact ⟨rfl, hbw.trans (hb6.mono hbw.size)⟩
  · have d0 : decide ((m : Int) < 0) = false := by simp
    have S2 := Lib.hid s2
    clear s2
    refine (s1 _).mono ?_
    rintro e w' ⟨rfl, rfl⟩
    go_wp2_with fail
    refine (S2.out _).mono ?_
    rintro e w' ⟨rfl, rfl⟩
    go_wp2_with fail
    · refine (sure_any _ hg5 hT5).mono ?_
      rintro e w6 ⟨rfl, hb6⟩
      go_wp2_with fail
      go_ret
      exact ⟨rfl, hbw.trans (hb6.mono hbw.size)⟩
    · have hv0 : 0 < v := by omega
      obtain ⟨t1, t2, _⟩ := bitLen_top v hv0 hv
      have t3 := pop_between v hv0 hv
      have ho := ones_any v w5 hv
      have hh := highest_pos v w5 hv0 hv
      have hl := lowest_pos v w5 hv0 hv hT5
      obtain ⟨h, he⟩ : ∃ h, h = Lib.bitLen v - 1 := ⟨_, rfl⟩
      rw [← he] at hh
      have t4 : pop v + Lib.ctzFrom 64 v ≤ h + 1 := by omega
      have t5 : h ≤ 63 := by omega
      clear t1 t2 t3 he
      generalize pop v = A at *
      generalize Lib.ctzFrom 64 v = c at *
      have Hh := Lib.hid hh
      have Hl := Lib.hid hl
      clear hh hl
      refine ho.mono ?_
      rintro e w' ⟨rfl, rfl⟩
      go_wp2_with fail
      refine Hh.out.mono ?_
      rintro e w' ⟨rfl, rfl⟩
      go_wp2_with fail
      refine Hl.out.mono ?_
      rintro e w' ⟨rfl, rfl⟩
      go_wp2_with fail
      refine (sure_any _ hg5 hT5).mono ?_
      rintro e w6 ⟨rfl, hb6⟩
      go_wp2_with fail
      go_ret
      exact ⟨rfl, hbw.trans (hb6.mono hbw.size)⟩
end Go.Proofs.YtjdkifjbbblioaaDoor
