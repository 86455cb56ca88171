/-
  IntsBytes: the law's walk.
-/
import Derived.Test.YtjdkifjbbblioaaDoorLawBits
import Derived.Test.YtjdkifjbbblioaaDoorLawJoins
import Derived.Test.YtjdkifjbbblioaaDoorPut2
namespace Go.Proofs.YtjdkifjbbblioaaDoor
open Go.RowKit

theorem two_gets (a : Option Addr) (l : List Nat) (c : Nat) (hb : B8 l) :
    ∃ (x : Nat) (e : Value) (f : Int), NumIs e f ∧ (∀ w, Src w a l → Calls Tryd.prog 8 #[.slice a l.length c] w fun e' w' => e' = .returned (.tuple #[.int .u64 x, e]) ∧ w = w') ∧
      (∀ w, Src w a l → Calls Tryd.prog 9 #[.slice a l.length c] w fun e' w' => e' = .returned (.tuple #[.int .u64 x, .int .i64 f]) ∧ w = w') := by
  by_cases h : l.length < 1 ∨ 8 < l.length
  · exact ⟨0, _, _, .inr rfl, fun w _ => get_arg a l.length c w h, fun w _ => refGet_arg a l.length c w h⟩
  · refine ⟨numL l, _, _, .inl ⟨rfl, rfl⟩, fun w hs => ?_, fun w hs => ?_⟩
    · obtain ⟨b, o, rfl, hc⟩ := hs (by omega)
      exact get_in b o c l w (by omega) (by omega) hc hb
    · obtain ⟨b, o, rfl, hc⟩ := hs (by omega)
      exact refGet_in b o c l w (by omega) (by omega) hc hb
theorem two_puts (a : Option Addr) (l : List Nat) (c : Nat) (v : Nat) (s : Int) (hl : l.length ≤ 65536) (hv : v < 18446744073709551616) (hz : a = none → c = 0) :
    ∃ L : List Nat, (∀ w, Src w a l → Calls Tryd.prog 10 #[.slice a l.length c, .int .u64 v, .int .i64 s] w fun e w' => e = .returned (.slice (some ⟨w.heap.size, 0, none⟩) L.length L.length) ∧ Row w' w.heap.size 5 L ∧ Below w.heap.size w w') ∧
      (∀ w, Src w a l → Calls Tryd.prog 11 #[.slice a l.length c, .int .u64 v, .int .i64 s] w fun e w' => ∃ r, e = .returned r ∧ w'.ownsRow w.heap.size 5 1 r L.length (bv L) ∧ Below w.heap.size w w') := by
  by_cases h : s < 1 ∨ 64 < s
  · exact ⟨l, fun w hs => put_out a c l v s w hl h hs, fun w hs => refPut_out a c l v s w hl h hz hs⟩
  · obtain ⟨k, rfl⟩ := Int.eq_ofNat_of_zero_le (show 0 ≤ s by omega)
    refine ⟨l ++ beL v k, fun w hs => ?_, fun w hs => refPut_in a c l v k w hl (by omega) (by omega) hv hz hs⟩
    have := put_in a c l v k w hl (by omega) (by omega) hv hs
    rw [List.length_append, beL_length]
    exact this
theorem get_row (g n c : Nat) (l : List Nat) (w : World) (hn : l.length = n) (h1 : 1 ≤ n) (h8 : n ≤ 8) (hr : Row w g 5 l) (hb : B8 l) :
    Calls Tryd.prog 8 #[.slice (some ⟨g, 0, none⟩) n c] w fun e w' => e = .returned (.tuple #[.int .u64 (numL l), .nilIface]) ∧ w = w' := by
  subst hn
  exact get_in g 0 c l w h1 h8 (fun i hi => by rw [Nat.zero_add]; exact hr.cell i hi) hb
set_option maxRecDepth 100000 in
set_option maxHeartbeats 1000000 in
theorem bytes_any (a : Option Addr) (l : List Nat) (c : Nat) (v : Nat) (s : Int) (w : World) (hb8 : B8 l) (hsrc : Src w a l) (hz : a = none → c = 0) (hv : v < 18446744073709551616) (hlm : l.length ≤ 9223372036854775807) (hg : Hg w) (hT : TabIn w) :
    Calls Tryd.prog 3 #[.slice a l.length c, .int .u64 v, .int .i64 s] w fun e w' => e = .returned (.bool true) ∧ Below w.heap.size w w' := by
  by_cases hlen : 300 < l.length
  · have d0 : decide (300 < (l.length : Int)) = true := by simp; omega
    go_enter Tryd.func3, Tryd.ntmps3
    go_wp2_with fail
    refine (sure_any _ hg hT).mono ?_
    rintro e w6 ⟨rfl, hb6⟩
    go_wp2_with fail
    go_ret
    exact ⟨rfl, hb6⟩
  obtain ⟨x, e, f, hn, g1, g2⟩ := two_gets a l c hb8
  obtain ⟨L, p1, p2⟩ := two_puts a l c v s (by omega) hv hz
  obtain ⟨q, hq⟩ := Int.eq_ofNat_of_zero_le (show 0 ≤ IntKind.u64.wrap s by rw [IntKind.wrap_u64]; omega)
  obtain ⟨K, hK⟩ : ∃ K, K = 1 + q % 8 := ⟨_, rfl⟩
  have e1 : (1 + (q : Int) % 8) = (K : Int) := by omega
  have hK1 : 1 ≤ K := by omega
  have hK2 : K ≤ 8 := by omega
  have hql : q < 18446744073709551616 := by
    have : IntKind.u64.wrap s < 18446744073709551616 := by rw [IntKind.wrap_u64]; omega
    omega
  have d0 : decide (300 < (l.length : Int)) = false := by simp; omega
  have H := Lib.hid (And.intro g1 (And.intro g2 (And.intro p1 p2)))
  have Hn := Lib.hid hn
  have Hs := Lib.hid hsrc
  clear g1 g2 p1 p2 hn hK hsrc
  go_enter Tryd.func3, Tryd.ntmps3
  go_wp2_with fail
  refine (H.out.1 _ Hs.out).mono ?_; rintro e w' ⟨rfl, rfl⟩
  go_wp2_with fail
  refine (H.out.2.1 _ Hs.out).mono ?_; rintro e w' ⟨rfl, rfl⟩
  go_wp2_with fail
  refine (H.out.2.2.1 _ Hs.out).mono ?_; rintro e w1 ⟨rfl, hr1, hb1⟩
  have hs1' : Src w1 a l := Hs.out.below hb1 (Nat.le_refl _)
  go_wp2_with fail
  refine wp_region_gr [(0, true), (1, true), (2, true), (3, true), (4, true), (5, false), (6, true), (7, true), (8, true), (9, true), (10, true), (11, true), (12, true), (13, true), (14, true), (16, true), (15, false), (17, true), (18, true)] (by kernel_rfl) (by kernel_rfl) (by kernel_rfl) (by kernel_rfl) (fun _ _ _ _ _ h => h) ?_
  have hc1 := fun wx => conv_row (P := Tryd.prog) 22 5 9 Tryd.underlying22 Tryd.underlying5 Tryd.underlying9 w.heap.size L.length L.length L rfl wx
  have hx1 : ∀ w', Ext w1.drew w' → Row w' w.heap.size 5 L := fun w' h => (h.block _ hr1.lt).trans hr1
  repeat (refine wpGr_read (o := ⟨_, _, _, _, _, _⟩) (v := ?_) rfl (by rfl) ?_ ?_; rotate_left; (intro w' hw'; go_simp; with_reducible rfl); simp only [Act.put, List.setIfInBounds_toArray, List.set_cons_zero, List.set_cons_succ])
  refine wpGr_call (o := ⟨_, _, _, _, _, _⟩) rfl (by rfl) (fun K hK => ?_)
  go_simp
  refine (H.out.2.2.2 w1.drew hs1').mono ?_; rintro e w2 ⟨r, rfl, ho2, hb2⟩
  refine hK _ _ hb2 ?_
  clear hK K
  try simp only [Act.put, List.setIfInBounds_toArray, List.set_cons_zero, List.set_cons_succ]
  have hc2 : ∀ w', Ext w2 w' → (convert 22 9 r).run Tryd.prog w' = .ok (.string (bstr L)) w' := fun w' h => conv_own (P := Tryd.prog) 22 5 9 Tryd.underlying22 Tryd.underlying5 Tryd.underlying9 _ r L w' (own_below ho2 h (Nat.le_refl _))
  repeat (refine wpGr_read (o := ⟨_, _, _, _, _, _⟩) (v := ?_) rfl (by rfl) ?_ ?_; rotate_left; (intro w' hw'; go_simp; with_reducible rfl); simp only [Act.put, List.setIfInBounds_toArray, List.set_cons_zero, List.set_cons_succ])
  refine wpGr_call (o := ⟨_, _, _, _, _, _⟩) rfl (by rfl) (fun K hK => ?_)
  go_simp
  have hbw2 : Below w.heap.size w w2 := hb1.drew.trans (hb2.mono hb1.size)
  refine (num_any e f _ Hn.out (hg.below hbw2)).mono ?_; rintro e' w3 ⟨rfl, hb3⟩
  refine hK _ _ hb3 ?_
  clear hK K
  try simp only [Act.put, List.setIfInBounds_toArray, List.set_cons_zero, List.set_cons_succ]
  repeat (refine wpGr_read (o := ⟨_, _, _, _, _, _⟩) (v := ?_) rfl (by rfl) ?_ ?_; rotate_left; (intro w' hw'; go_simp; with_reducible rfl); simp only [Act.put, List.setIfInBounds_toArray, List.set_cons_zero, List.set_cons_succ])
  refine wpGr_done ?_
  have hbw3 : Below w.heap.size w w3 := hbw2.trans (hb3.mono hbw2.size)
  have hg3 := hg.below hbw3
  have hT3 := hT.below hbw3
  clear hc1 hx1 hc2 hs1' hr1 hb1 ho2 hb2 hbw2 hb3
  obtain ⟨X, hX⟩ : ∃ X, X = numL (beL v K) := ⟨_, rfl⟩
  have hXm : X = v % 256 ^ K := by rw [hX, numL_beL]
  have hP := put_nil v K w3 hK1 (by omega) hv
  have hgr := fun (w' : World) (hr : Row w' w3.heap.size 5 (beL v K)) => get_row w3.heap.size K K (beL v K) w' (beL_length _ _) hK1 hK2 hr (beL_b8 _ _)
  rw [← hX] at hgr
  have HP := Lib.hid hP
  have HG := Lib.hid hgr
  clear hP hgr hX
  by_cases hK8 : K < 8
  · obtain ⟨M, hM⟩ : ∃ M, M = 256 ^ K := ⟨_, rfl⟩
    have hMl : M ≤ 72057594037927936 := by rw [hM]; exact pow256_le (by omega)
    have hM0 : 0 < M := by rw [hM]; exact Nat.pow_pos (by decide)
    have e2 : IntKind.u64.wrap ((2 : Int) ^ (8 * K)) = (M : Int) := by
      rw [wrap_pow (8 * K) (by omega), hM, Nat.pow_mul]
    have e3 : (v : Int) % (M : Int) = (X : Int) := by rw [hXm, hM]; exact (Int.natCast_emod _ _).symm
    clear hM hXm
    go_wp2_with fail
    refine HP.out.mono ?_; rintro e' w4 ⟨rfl, hr4, hb4⟩
    go_wp2_with fail
    refine (HG.out _ hr4).mono ?_; rintro e' w' ⟨rfl, rfl⟩
    go_wp2_with fail
    refine (sure_any _ (hg3.below hb4) (hT3.below hb4)).mono ?_; rintro e' w6 ⟨rfl, hb6⟩
    go_wp2_with fail
    go_ret
    exact ⟨rfl, hbw3.trans ((hb4.trans (hb6.mono hb4.size)).mono hbw3.size)⟩
  · obtain rfl : K = 8 := by omega
    have hXv : X = v := by rw [hXm]; exact Nat.mod_eq_of_lt hv
    subst hXv
    clear hXm
    go_wp2_with fail
    refine HP.out.mono ?_; rintro e' w4 ⟨rfl, hr4, hb4⟩
    go_wp2_with fail
    refine (HG.out _ hr4).mono ?_; rintro e' w' ⟨rfl, rfl⟩
    go_wp2_with fail
    refine (sure_any _ (hg3.below hb4) (hT3.below hb4)).mono ?_; rintro e' w6 ⟨rfl, hb6⟩
    go_wp2_with fail
    go_ret
    exact ⟨rfl, hbw3.trans ((hb4.trans (hb6.mono hb4.size)).mono hbw3.size)⟩
end Go.Proofs.YtjdkifjbbblioaaDoor
