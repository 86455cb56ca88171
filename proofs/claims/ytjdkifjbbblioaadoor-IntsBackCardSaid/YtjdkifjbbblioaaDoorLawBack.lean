/-
  IntsBack: the law's walk.
-/
import Derived.Test.YtjdkifjbbblioaaDoorSure1
namespace Go.Proofs.YtjdkifjbbblioaaDoor
open Go.RowKit

theorem sgn_back (low K P H : Nat) (hK1 : 1 ≤ K) (hK2 : K ≤ 63) (hP : P = 2 ^ K) (hH : H = 2 ^ (K - 1)) (h : low < P) :
    (IntKind.u64.wrap (sgn low K)).tmod (P : Int) = (low : Int) ∧ ((decide (sgn low K < 0) = true ∧ H ≤ low) ∨ (decide (sgn low K < 0) = false ∧ low < H)) := by
  have hnn : 0 ≤ IntKind.u64.wrap (sgn low K) := by rw [IntKind.wrap_u64]; omega
  rw [Int.tmod_eq_emod_of_nonneg hnn]
  clear hnn
  have hPH : P = 2 * H := by rw [hP, hH, ← Nat.pow_succ', show (K - 1).succ = K from by omega]
  have hP2 : P ≤ 9223372036854775808 := by rw [hP]; exact pow_le63 K hK2
  have hs : P * 2 ^ (64 - K) = 18446744073709551616 := by rw [hP]; exact pow_split K (by omega)
  unfold sgn
  rw [← hH]
  have e : (2 : Int) ^ K = (P : Int) := by rw [hP]; simp
  rw [e]
  by_cases hc : low < H
  · rw [if_pos hc]
    refine ⟨?_, .inr ⟨by simp, by omega⟩⟩
    rw [IntWalk.u64_in _ (by omega), ← Int.natCast_emod, Nat.mod_eq_of_lt h]
  · rw [if_neg hc]
    refine ⟨?_, .inl ⟨by simp; omega, by omega⟩⟩
    rw [IntKind.wrap_u64]
    have e2 : ((low : Int) - (P : Int)) % 18446744073709551616 = ((low + (18446744073709551616 - P) : Nat) : Int) := by omega
    rw [e2, ← Int.natCast_emod]
    have e3 : low + (18446744073709551616 - P) = low + P * (2 ^ (64 - K) - 1) := by rw [Nat.mul_sub, hs, Nat.mul_one]
    rw [e3, Nat.add_mul_mod_self_left, Nat.mod_eq_of_lt h]
/-- What Up answers, as far as the law asks. -/
theorem up_back (v K P : Nat) (w : World) (hv : v < 18446744073709551616) (hK1 : K ≤ 63) (hP : P = 2 ^ K) :
    (∃ U : Nat, (Calls Tryd.prog 17 #[.int .u64 v, .int .i64 K] w fun e w' => e = .returned (.tuple #[.int .u64 U, .nilIface]) ∧ w = w') ∧ v ≤ U ∧ U < v + P ∧ (U : Int) % (P : Int) = 0 ∧ U < 18446744073709551616) ∨
    ((Calls Tryd.prog 17 #[.int .u64 v, .int .i64 K] w fun e w' => e = .returned (.tuple #[.int .u64 0, .iface 47 (.int .i64 2)]) ∧ w = w') ∧ 18446744073709551616 < v + P) := by
  have hle := next_le v K hv (by omega)
  have hdm := Nat.div_add_mod v (2 ^ K)
  have hmul : (v / 2 ^ K + 1) * 2 ^ K = 2 ^ K * (v / 2 ^ K) + 2 ^ K := by rw [Nat.add_mul, Nat.mul_comm]; omega
  have hr : v % 2 ^ K < 2 ^ K := Nat.mod_lt _ (pow_pos' K)
  by_cases hm : v % 2 ^ K = 0
  · refine .inl ⟨v, up_same v K w hv (by omega) hm, Nat.le_refl _, ?_, ?_, hv⟩
    · rw [hP]; omega
    · rw [hP, ← Int.natCast_emod, hm]; rfl
  · by_cases hl : (v / 2 ^ K + 1) * 2 ^ K < 18446744073709551616
    · refine .inl ⟨_, up_next v K w hv (by omega) hm hl, ?_, ?_, ?_, hl⟩
      · rw [hmul]; generalize 2 ^ K * (v / 2 ^ K) = M at *; omega
      · rw [hmul, hP]; generalize 2 ^ K * (v / 2 ^ K) = M at *; omega
      · rw [hP, ← Int.natCast_emod, Nat.mul_mod_left]; rfl
    · refine .inr ⟨up_over v K w hv (by omega) hm (by omega), ?_⟩
      rw [hmul] at hl hle
      rw [hP]
      generalize 2 ^ K * (v / 2 ^ K) = M at *
      omega
set_option maxRecDepth 100000 in
set_option maxHeartbeats 4000000 in
theorem back_pos (v b : Nat) (w : World) (hv0 : 0 < v) (hv : v < 18446744073709551616) (hg : Hg w) (hT : TabIn w) :
    Calls Tryd.prog 5 #[.int .u64 v, .int .u8 b] w fun e w' => e = .returned (.bool true) ∧ Below w.heap.size w w' := by
  obtain ⟨K, hK⟩ : ∃ K, K = 1 + b % 63 := ⟨_, rfl⟩
  have e1 : (1 + (b : Int) % 63) = (K : Int) := by omega
  have hK1 : 1 ≤ K := by omega
  have hK2 : K ≤ 63 := by omega
  obtain ⟨P, hP⟩ : ∃ P, P = 2 ^ K := ⟨_, rfl⟩
  obtain ⟨H, hH⟩ : ∃ H, H = 2 ^ (K - 1) := ⟨_, rfl⟩
  have hP2 : P ≤ 9223372036854775808 := by rw [hP]; exact pow_le63 K hK2
  have hpz : 0 < P := by rw [hP]; exact pow_pos' K
  have e2 : IntKind.u64.wrap ((2 : Int) ^ K) = (P : Int) := by rw [wrap_pow K (by omega), hP]
  have e2' : IntKind.u64.wrap ((2 : Int) ^ (K - 1)) = (H : Int) := by rw [wrap_pow (K - 1) (by omega), hH]
  obtain ⟨low, hlow⟩ : ∃ low, low = v % P := ⟨_, rfl⟩
  have e3 : (v : Int) % (P : Int) = (low : Int) := by rw [hlow]; exact (Int.natCast_emod _ _).symm
  have hll : low < P := by rw [hlow]; exact Nat.mod_lt _ hpz
  have hsg := fun wx => signed_in low K wx hK1 (by omega) (by rw [← hP]; exact hll)
  have hup := fun wx => up_back v K P wx hv hK2 hP
  obtain ⟨e4, e5⟩ := sgn_back low K P H hK1 hK2 hP hH hll
  generalize sgn low K = n at *
  have Hs := Lib.hid hsg
  have Hup := Lib.hid (hup w)
  clear hK hP hH hlow hll hsg hup
  obtain ⟨hle, hpop, hlt64⟩ := pop_low 64 v hv0 hv
  obtain ⟨hb1, hb2, hb3⟩ := bitLen_top v hv0 hv
  have hlh := ctz_le_len v hv0 hv
  have hlo := fun wx (hTx : TabIn wx) => lowest_pos v wx hv0 hv hTx
  have hhi := fun wx => highest_pos v wx hv0 hv
  have e7 : (v : Int) / 2 ^ (Lib.bitLen v - 1) = 1 := by
    have e : (2 : Int) ^ (Lib.bitLen v - 1) = ((2 ^ (Lib.bitLen v - 1) : Nat) : Int) := by simp
    rw [e, ← Int.natCast_ediv, hb3]; rfl
  have ho1 := fun wx => ones_any v wx hv
  have hpo : pop v = popF 64 v := rfl
  rw [← hpo] at hpop
  obtain ⟨L, hL⟩ : ∃ L, L = 2 ^ Lib.ctzFrom 64 v := ⟨_, rfl⟩
  rw [← hL] at hle hpop
  have e8 : IntKind.u64.wrap ((2 : Int) ^ Lib.ctzFrom 64 v) = (L : Int) := by rw [wrap_pow _ (by omega), hL]
  have hpd : popF 64 (v - L) = pop (v - L) := rfl
  rw [hpd] at hpop
  have ho2 := fun wx => ones_any (v - L) wx (by omega)
  have e9 : (v : Int) - (L : Int) = ((v - L : Nat) : Int) := by omega
  generalize v - L = D at *
  have hpl : pop v ≤ 64 := pop_le v 64
  generalize pop v = A at *
  generalize pop D = B at *
  obtain ⟨h, hh⟩ : ∃ h, h = Lib.bitLen v - 1 := ⟨_, rfl⟩
  have hh64 : h < 64 := by omega
  have hlh' : Lib.ctzFrom 64 v ≤ h := by omega
  rw [← hh] at e7 hlh hhi
  generalize Lib.ctzFrom 64 v = c at *
  obtain rfl : A = B + 1 := by omega
  have eA : ((B + 1 : Nat) : Int) = (B : Int) + 1 := by omega
  simp only [eA] at ho1
  have hB : B ≤ 64 := by omega
  clear eA
  have Hlo := Lib.hid hlo
  have Hhi := Lib.hid hhi
  have Ho1 := Lib.hid ho1
  have Ho2 := Lib.hid ho2
  have d0 : ((v : Int) == 0) = false := by rw [beq_eq_false_iff_ne]; omega
  clear hh hb1 hb2 hb3 hpo hpd hpop hL hlo hhi ho1 ho2 hpl hlh
  rcases Hup.out with ⟨U, hU, u1, u2, u3, u4⟩ | ⟨hU, hno⟩
  · have HU := Lib.hid hU
    clear hU Hup
    rcases e5 with ⟨e5, e6⟩ | ⟨e5, e6⟩
    all_goals
      go_enter Tryd.func5, Tryd.ntmps5
      go_wp2_with fail
      refine (Hs.out _).mono ?_
      rintro e w' ⟨rfl, rfl⟩
      go_wp2_with fail
      refine HU.out.mono ?_
      rintro e w' ⟨rfl, rfl⟩
      go_wp2_with fail
      refine (Hlo.out _ hT).mono ?_
      rintro e w' ⟨rfl, rfl⟩
      go_wp2_with fail
      refine (Hhi.out _).mono ?_
      rintro e w' ⟨rfl, rfl⟩
      go_wp2_with fail
      refine (Ho2.out _).mono ?_
      rintro e w' ⟨rfl, rfl⟩
      go_wp2_with fail
      refine (Ho1.out _).mono ?_
      rintro e w' ⟨rfl, rfl⟩
      go_wp2_with fail
      refine (sure_any _ hg hT).mono ?_
      rintro e w1 ⟨rfl, hb1⟩
      go_wp2_with fail
      go_ret
      exact ⟨rfl, hb1⟩
  · have HU := Lib.hid hU
    obtain ⟨q, hq⟩ : ∃ q : Nat, (q : Int) = 18446744073709551616 - (P : Int) := ⟨18446744073709551616 - P, by omega⟩
    have eN : IntKind.u64.wrap (-(P : Int)) = (q : Int) := by rw [IntKind.wrap_u64]; omega
    have hqv : q < v := by omega
    clear hU Hup hq hno
    rcases e5 with ⟨e5, e6⟩ | ⟨e5, e6⟩
    all_goals
      go_enter Tryd.func5, Tryd.ntmps5
      go_wp2_with fail
      refine (Hs.out _).mono ?_
      rintro e w' ⟨rfl, rfl⟩
      go_wp2_with fail
      refine HU.out.mono ?_
      rintro e w' ⟨rfl, rfl⟩
      go_wp2_with fail
      refine (num_err 2 _ hg).mono ?_
      rintro e wn ⟨rfl, hbn⟩
      have hTn := hT.below hbn
      have hgn := hg.below hbn
      go_wp2_with fail
      refine (Hlo.out _ hTn).mono ?_
      rintro e w' ⟨rfl, rfl⟩
      go_wp2_with fail
      refine (Hhi.out _).mono ?_
      rintro e w' ⟨rfl, rfl⟩
      go_wp2_with fail
      refine (Ho2.out _).mono ?_
      rintro e w' ⟨rfl, rfl⟩
      go_wp2_with fail
      refine (Ho1.out _).mono ?_
      rintro e w' ⟨rfl, rfl⟩
      go_wp2_with fail
      refine (sure_any _ hgn hTn).mono ?_
      rintro e w1 ⟨rfl, hb1⟩
      go_wp2_with fail
      go_ret
      exact ⟨rfl, hbn.trans (hb1.mono hbn.size)⟩
set_option maxRecDepth 100000 in
set_option maxHeartbeats 4000000 in
theorem back_zero (b : Nat) (w : World) (hg : Hg w) (hT : TabIn w) :
    Calls Tryd.prog 5 #[.int .u64 0, .int .u8 b] w fun e w' => e = .returned (.bool true) ∧ Below w.heap.size w w' := by
  obtain ⟨K, hK⟩ : ∃ K, K = 1 + b % 63 := ⟨_, rfl⟩
  have e1 : (1 + (b : Int) % 63) = (K : Int) := by omega
  have hK1 : 1 ≤ K := by omega
  have hK2 : K ≤ 63 := by omega
  obtain ⟨P, hP⟩ : ∃ P, P = 2 ^ K := ⟨_, rfl⟩
  obtain ⟨H, hH⟩ : ∃ H, H = 2 ^ (K - 1) := ⟨_, rfl⟩
  have hP2 : P ≤ 9223372036854775808 := by rw [hP]; exact pow_le63 K hK2
  have hpz : 0 < P := by rw [hP]; exact pow_pos' K
  have hhz : 0 < H := by rw [hH]; exact pow_pos' _
  have e2 : IntKind.u64.wrap ((2 : Int) ^ K) = (P : Int) := by rw [wrap_pow K (by omega), hP]
  have e2' : IntKind.u64.wrap ((2 : Int) ^ (K - 1)) = (H : Int) := by rw [wrap_pow (K - 1) (by omega), hH]
  have hsg := fun wx => signed_in 0 K wx hK1 (by omega) (pow_pos' K)
  have es : sgn 0 K = 0 := by unfold sgn; rw [if_pos (pow_pos' _)]; rfl
  simp only [es] at hsg
  have hup := fun wx => up_same 0 K wx (by omega) (by omega) (Nat.zero_mod _)
  have ho := fun wx => ones_any 0 wx (by omega)
  have ep : pop 0 = 0 := popF_zero 64
  simp only [ep] at ho
  have Hs : Hid (∀ wx : World, Calls Tryd.prog 15 #[.int .u64 0, .int .i64 K] wx fun e w' => e = .returned (.tuple #[.int .i64 0, .nilIface]) ∧ wx = w') := hsg
  have Hu : Hid (∀ wx : World, Calls Tryd.prog 17 #[.int .u64 0, .int .i64 K] wx fun e w' => e = .returned (.tuple #[.int .u64 0, .nilIface]) ∧ wx = w') := hup
  have Ho : Hid (∀ wx : World, Calls Tryd.prog 19 #[.int .u64 0] wx fun e w' => e = .returned (.int .i64 0) ∧ wx = w') := ho
  clear hK hP hH hsg hup ho es ep
  go_enter Tryd.func5, Tryd.ntmps5
  go_wp2_with fail
  refine (Hs.out _).mono ?_
  rintro e w' ⟨rfl, rfl⟩
  go_wp2_with fail
  refine (Hu.out _).mono ?_
  rintro e w' ⟨rfl, rfl⟩
  go_wp2_with fail
  refine (lowest_zero _).mono ?_
  rintro e w' ⟨rfl, rfl⟩
  go_wp2_with fail
  refine (highest_zero _).mono ?_
  rintro e w' ⟨rfl, rfl⟩
  go_wp2_with fail
  refine (Ho.out _).mono ?_
  rintro e w' ⟨rfl, rfl⟩
  go_wp2_with fail
  refine (sure_any _ hg hT).mono ?_
  rintro e w1 ⟨rfl, hb1⟩
  go_wp2_with fail
  go_ret
  exact ⟨rfl, hb1⟩
theorem back_any (v b : Nat) (w : World) (hv : v < 18446744073709551616) (hg : Hg w) (hT : TabIn w) :
    Calls Tryd.prog 5 #[.int .u64 v, .int .u8 b] w fun e w' => e = .returned (.bool true) ∧ Below w.heap.size w w' := by
  rcases Nat.eq_zero_or_pos v with rfl | h0
  · exact back_zero b w hg hT
  · exact back_pos v b w h0 hv hg hT
end Go.Proofs.YtjdkifjbbblioaaDoor
