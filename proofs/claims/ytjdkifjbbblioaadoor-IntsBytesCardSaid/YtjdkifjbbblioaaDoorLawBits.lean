/-
  IntsBits: the law's walk.
-/
import Derived.Test.YtjdkifjbbblioaaDoorSure1
import Derived.Test.YtjdkifjbbblioaaDoorRef1
namespace Go.Proofs.YtjdkifjbbblioaaDoor
open Go.RowKit

/-- An error, and the number that num tells of it. -/
def NumIs (e : Value) (f : Int) : Prop := (e = .nilIface ∧ f = 0) ∨ (e = .iface 47 (.int .i64 f))
theorem num_any (e : Value) (f : Int) (w : World) (h : NumIs e f) (hg : Hg w) : Calls Tryd.prog 12 #[e] w fun e' w' => e' = .returned (.int .i64 f) ∧ Below w.heap.size w w' := by
  rcases h with ⟨rfl, rfl⟩ | rfl
  · exact num_nil w
  · exact num_err f w hg
theorem two_smalls (n b : Int) (hn : -9223372036854775808 ≤ n) (hn2 : n ≤ 9223372036854775807) :
    ∃ (a : Int) (e : Value) (f : Int), NumIs e f ∧ (∀ w, Calls Tryd.prog 13 #[.int .i64 n, .int .i64 b] w fun e' w' => e' = .returned (.tuple #[.int .u64 a, e]) ∧ w = w') ∧
      (∀ w, Calls Tryd.prog 14 #[.int .i64 n, .int .i64 b] w fun e' w' => e' = .returned (.tuple #[.int .u64 a, .int .i64 f]) ∧ w = w') := by
  by_cases hb : b < 1 ∨ 64 < b
  · exact ⟨_, _, _, .inr rfl, fun w => small_arg n b w hb, fun w => refSmall_arg n b w hb⟩
  · obtain ⟨k, rfl⟩ := Int.eq_ofNat_of_zero_le (show 0 ≤ b by omega)
    by_cases h0 : n < 0
    · exact ⟨_, _, _, .inr rfl, fun w => small_neg n k w (by omega) (by omega) h0, fun w => refSmall_neg n k w (by omega) (by omega) h0⟩
    · obtain ⟨m, rfl⟩ := Int.eq_ofNat_of_zero_le (show 0 ≤ n by omega)
      by_cases h1 : m < 2 ^ k
      · exact ⟨_, _, _, .inl ⟨rfl, rfl⟩, fun w => small_in m k w (by omega) (by omega) (by omega) h1, fun w => refSmall_in m k w (by omega) (by omega) (by omega) h1⟩
      · exact ⟨_, _, _, .inr rfl, fun w => small_range m k w (by omega) (by omega) (by omega) (by omega), fun w => refSmall_range m k w (by omega) (by omega) (by omega) (by omega)⟩
theorem two_signeds (v : Nat) (b : Int) (hv : v < 18446744073709551616) :
    ∃ (a : Int) (e : Value) (f : Int), NumIs e f ∧ (∀ w, Calls Tryd.prog 15 #[.int .u64 v, .int .i64 b] w fun e' w' => e' = .returned (.tuple #[.int .i64 a, e]) ∧ w = w') ∧
      (∀ w, Calls Tryd.prog 16 #[.int .u64 v, .int .i64 b] w fun e' w' => e' = .returned (.tuple #[.int .i64 a, .int .i64 f]) ∧ w = w') := by
  by_cases hb : b < 1 ∨ 64 < b
  · exact ⟨_, _, _, .inr rfl, fun w => signed_arg v b w hb, fun w => refSigned_arg v b w hb⟩
  · obtain ⟨k, rfl⟩ := Int.eq_ofNat_of_zero_le (show 0 ≤ b by omega)
    by_cases h1 : v < 2 ^ k
    · refine ⟨_, _, _, .inl ⟨rfl, rfl⟩, fun w => signed_in v k w (by omega) (by omega) h1, fun w => ?_⟩
      by_cases h2 : v < 2 ^ (k - 1) ∨ k = 64
      · exact refSigned_low v k w (by omega) (by omega) h1 h2
      · exact refSigned_high v k w (by omega) (by omega) h1 (by omega)
    · exact ⟨_, _, _, .inr rfl, fun w => signed_range v k w (by omega) (by omega) (by omega), fun w => refSigned_range v k w (by omega) (by omega) hv (by omega)⟩
theorem two_ups (v : Nat) (b : Int) (hv : v < 18446744073709551616) :
    ∃ (a : Int) (e : Value) (f : Int), NumIs e f ∧ (∀ w, Calls Tryd.prog 17 #[.int .u64 v, .int .i64 b] w fun e' w' => e' = .returned (.tuple #[.int .u64 a, e]) ∧ w = w') ∧
      (∀ w, Calls Tryd.prog 18 #[.int .u64 v, .int .i64 b] w fun e' w' => e' = .returned (.tuple #[.int .u64 a, .int .i64 f]) ∧ w = w') := by
  by_cases hb : b < 0 ∨ 64 ≤ b
  · exact ⟨_, _, _, .inr rfl, fun w => up_arg v b w hb, fun w => refUp_arg v b w hb⟩
  · obtain ⟨k, rfl⟩ := Int.eq_ofNat_of_zero_le (show 0 ≤ b by omega)
    have hle := next_le v k hv (by omega)
    by_cases h1 : v % 2 ^ k = 0
    · exact ⟨_, _, _, .inl ⟨rfl, rfl⟩, fun w => up_same v k w hv (by omega) h1, fun w => refUp_any v k w hv (by omega) _ _ (.inl ⟨h1, rfl, rfl⟩)⟩
    · by_cases h2 : (v / 2 ^ k + 1) * 2 ^ k < 18446744073709551616
      · exact ⟨_, _, _, .inl ⟨rfl, rfl⟩, fun w => up_next v k w hv (by omega) h1 h2, fun w => refUp_any v k w hv (by omega) _ _ (.inr (.inl ⟨h1, h2, rfl, rfl⟩))⟩
      · exact ⟨_, _, _, .inr rfl, fun w => up_over v k w hv (by omega) h1 (by omega), fun w => refUp_any v k w hv (by omega) _ _ (.inr (.inr ⟨h1, by omega, rfl, rfl⟩))⟩
theorem two_places (v : Nat) (hv : v < 18446744073709551616) :
    ∃ (l h : Int), -1 ≤ h ∧ h ≤ 63 ∧ (∀ w, TabIn w → Calls Tryd.prog 21 #[.int .u64 v] w fun e w' => e = .returned (.int .i64 l) ∧ w = w') ∧
      (∀ w, Calls Tryd.prog 22 #[.int .u64 v] w fun e w' => e = .returned (.int .i64 l) ∧ w = w') ∧
      (∀ w, Calls Tryd.prog 23 #[.int .u64 v] w fun e w' => e = .returned (.int .i64 h) ∧ w = w') ∧
      (∀ w, Calls Tryd.prog 24 #[.int .u64 v] w fun e w' => e = .returned (.int .i64 (h + 1)) ∧ w = w') := by
  rcases Nat.eq_zero_or_pos v with rfl | h0
  · refine ⟨-1, -1, by omega, by omega, fun w _ => lowest_zero w, fun w => refLowest_zero w, fun w => highest_zero w, fun w => ?_⟩
    have := refBits_any 0 w hv
    rw [bitLen_zero] at this
    exact this
  · obtain ⟨t1, t2, _⟩ := bitLen_top v h0 hv
    refine ⟨_, ((Lib.bitLen v - 1 : Nat) : Int), by omega, by omega, fun w hT => lowest_pos v w h0 hv hT, fun w => refLowest_pos v w h0 hv, fun w => highest_pos v w h0 hv, fun w => ?_⟩
    have := refBits_any v w hv
    rw [show ((Lib.bitLen v : Nat) : Int) = ((Lib.bitLen v - 1 : Nat) : Int) + 1 from by omega] at this
    exact this
set_option maxRecDepth 100000 in
set_option maxHeartbeats 1000000 in
theorem bits_any (n b : Int) (v : Nat) (w : World) (hv : v < 18446744073709551616) (hn : -9223372036854775808 ≤ n) (hn2 : n ≤ 9223372036854775807) (hg : Hg w) (hT : TabIn w) :
    Calls Tryd.prog 4 #[.int .i64 n, .int .u64 v, .int .i64 b] w fun e w' => e = .returned (.bool true) ∧ Below w.heap.size w w' := by
  obtain ⟨a1, e1, f1, h1, s1, r1⟩ := two_smalls n b hn hn2
  obtain ⟨a2, e2, f2, h2, s2, r2⟩ := two_signeds v b hv
  obtain ⟨a3, e3, f3, h3, s3, r3⟩ := two_ups v b hv
  obtain ⟨l, h, hh1, hh2, pl, rl, ph, rb⟩ := two_places v hv
  have o1 := fun w => ones_any v w hv
  have o2 := fun w => refOnes_any v w hv
  generalize pop v = A at *
  have H := Lib.hid (And.intro s1 (And.intro r1 (And.intro s2 (And.intro r2 (And.intro s3 (And.intro r3 (And.intro pl (And.intro rl (And.intro ph (And.intro rb (And.intro o1 o2)))))))))))
  have H1 := Lib.hid h1
  have H2 := Lib.hid h2
  have H3 := Lib.hid h3
  clear s1 r1 s2 r2 s3 r3 pl rl ph rb o1 o2 h1 h2 h3
  go_enter Tryd.func4, Tryd.ntmps4
  go_wp2_with fail
  refine (H.out.1 _).mono ?_; rintro e w' ⟨rfl, rfl⟩
  go_wp2_with fail
  refine (H.out.2.1 _).mono ?_; rintro e w' ⟨rfl, rfl⟩
  go_wp2_with fail
  refine (H.out.2.2.1 _).mono ?_; rintro e w' ⟨rfl, rfl⟩
  go_wp2_with fail
  refine (H.out.2.2.2.1 _).mono ?_; rintro e w' ⟨rfl, rfl⟩
  go_wp2_with fail
  refine (H.out.2.2.2.2.1 _).mono ?_; rintro e w' ⟨rfl, rfl⟩
  go_wp2_with fail
  refine (H.out.2.2.2.2.2.1 _).mono ?_; rintro e w' ⟨rfl, rfl⟩
  go_wp2_with fail
  refine (num_any e1 f1 _ H1.out hg).mono ?_; rintro e w1 ⟨rfl, hb1⟩
  have hg1 := hg.below hb1
  go_wp2_with fail
  refine (num_any e2 f2 _ H2.out hg1).mono ?_; rintro e w2 ⟨rfl, hb2⟩
  have hg2 := hg1.below hb2
  go_wp2_with fail
  refine (num_any e3 f3 _ H3.out hg2).mono ?_; rintro e w3 ⟨rfl, hb3⟩
  have hg3 := hg2.below hb3
  have hT3 := ((hT.below hb1).below hb2).below hb3
  have hbw : Below w.heap.size w w3 := hb1.trans ((hb2.trans (hb3.mono hb2.size)).mono hb1.size)
  clear hb1 hb2 hb3
  go_wp2_with fail
  refine (H.out.2.2.2.2.2.2.2.2.2.2.1 _).mono ?_; rintro e w' ⟨rfl, rfl⟩
  go_wp2_with fail
  refine (H.out.2.2.2.2.2.2.2.2.2.2.2 _).mono ?_; rintro e w' ⟨rfl, rfl⟩
  go_wp2_with fail
  refine (H.out.2.2.2.2.2.2.1 _ hT3).mono ?_; rintro e w' ⟨rfl, rfl⟩
  go_wp2_with fail
  refine (H.out.2.2.2.2.2.2.2.1 _).mono ?_; rintro e w' ⟨rfl, rfl⟩
  go_wp2_with fail
  refine (H.out.2.2.2.2.2.2.2.2.1 _).mono ?_; rintro e w' ⟨rfl, rfl⟩
  go_wp2_with fail
  refine (H.out.2.2.2.2.2.2.2.2.2.1 _).mono ?_; rintro e w' ⟨rfl, rfl⟩
  go_wp2_with fail
  refine (sure_any _ hg3 hT3).mono ?_; rintro e w6 ⟨rfl, hb6⟩
  go_wp2_with fail
  go_ret
  exact ⟨rfl, hbw.trans (hb6.mono hbw.size)⟩
end Go.Proofs.YtjdkifjbbblioaaDoor
