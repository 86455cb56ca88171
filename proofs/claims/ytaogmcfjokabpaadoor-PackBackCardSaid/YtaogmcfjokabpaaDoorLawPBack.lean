/-
  PackBack: the law's walk.
-/
import Derived.Test.YtaogmcfjokabpaaDoorSure6
import Derived.Test.YtaogmcfjokabpaaDoorGt
namespace Go.Proofs.YtaogmcfjokabpaaDoor
open Go Go.RowKit

theorem Src.take {w : World} {a : Option Addr} {l : List Nat} (h : Src w a l) (k : Nat) : Src w a (l.take k) := fun h0 => by
  rw [List.length_take] at h0
  obtain ⟨g, o, rfl, hc⟩ := h (by omega)
  exact ⟨g, o, rfl, hc.start k⟩
set_option maxRecDepth 100000 in
set_option maxHeartbeats 4000000 in
theorem back_any (x v : Nat) (a : Option Addr) (l : List Nat) (n c : Nat) (w : World) (hn : l.length = n) (hx : x < 256) (hv : v < 18446744073709551616) (hb8 : B8 l) (hs : Src w a l) (hz : a = none → c = 0) (hg : Hg w) (hn63 : n ≤ 9223372036854775807) :
    Calls Tryd.prog 4 #[.int .u8 x, .int .u64 v, .slice a n c] w fun e w' => e = .returned (.bool true) ∧ Below w.heap.size w w' := by
  by_cases hbig : 600 < n
  · have d1 : decide (600 < (n : Int)) = true := by simp; omega
    go_enter Tryd.func4, Tryd.ntmps4
    go_wp2_with fail
    refine (sure_any _ hg).mono ?_
    rintro e w6 ⟨rfl, hb6⟩
    go_wp2_with fail
    go_ret
    exact ⟨rfl, hb6⟩
  have d1 : decide (600 < (n : Int)) = false := by simp; omega
  obtain ⟨L1, hL1⟩ : ∃ L1 : List Nat, L1 = [] ++ vb v := ⟨_, rfl⟩
  obtain ⟨L2, hL2⟩ : ∃ L2 : List Nat, L2 = L1 ++ vb n ++ l := ⟨_, rfl⟩
  obtain ⟨L3, hL3⟩ : ∃ L3 : List Nat, L3 = L2 ++ [x] := ⟨_, rfl⟩
  have hvv := vs_le hv
  have hvn := vs_le (show n < 18446744073709551616 by omega)
  obtain ⟨N1, hN1⟩ : ∃ N1, N1 = L1.length := ⟨_, rfl⟩
  obtain ⟨M, hM⟩ : ∃ M, M = L2.length := ⟨_, rfl⟩
  have e1 : N1 = vs v := by rw [hN1, hL1]; rfl
  have e2 : M = N1 + vs n + n := by rw [hM, hL2, List.length_append, List.length_append, ← hN1, hn]; rfl
  have e3 : L3.length = M + 1 := by rw [hL3, List.length_append, ← hM]; rfl
  have b3 : B8 L3 := by
    rw [hL3, hL2, hL1]
    exact (((B8.nil.append (vb_b8 v)).append (vb_b8 n)).append hb8).append (B8.one hx)
  have k1 : L3 = vb v ++ (vb l.length ++ (l ++ [x])) := by rw [hL3, hL2, hL1, hn]; simp
  have k2 : L3.take M = vb v ++ (vb l.length ++ (l ++ [])) := by rw [hL3, hM, List.take_left, hL2, hL1, hn]; simp
  have hll : l.length < 18446744073709551616 := by omega
  have s1 : numS ⟨L3, false⟩ v = (v, ⟨vb l.length ++ (l ++ [x]), false⟩) := by rw [k1]; exact numS_put v v _ false hv (Nat.le_refl _)
  have s2 : bytesS ⟨vb l.length ++ (l ++ [x]), false⟩ n = (l, ⟨[x], false⟩) := bytesS_put l [x] false n hll (by omega)
  have s3 : byteS ⟨[x], false⟩ = (x, ⟨[], false⟩) := byteS_put x [] false
  have t1 : numS ⟨L3.take M, false⟩ v = (v, ⟨vb l.length ++ (l ++ []), false⟩) := by rw [k2]; exact numS_put v v _ false hv (Nat.le_refl _)
  have t2 : bytesS ⟨vb l.length ++ (l ++ []), false⟩ n = (l, ⟨[], false⟩) := bytesS_put l [] false n hll (by omega)
  have t3 : byteS ⟨[], false⟩ = (0, ⟨[], true⟩) := byteS_nil rfl
  generalize RS.mk (vb l.length ++ (l ++ [x])) false = S1 at *
  generalize RS.mk (vb l.length ++ (l ++ [])) false = T1 at *
  generalize RS.mk [x] false = S2 at *
  have HS := Lib.hid (And.intro s1 (And.intro s2 s3))
  have HT := Lib.hid (And.intro t1 (And.intro t2 t3))
  have HL := Lib.hid (And.intro hL1 (And.intro hL2 hL3))
  have HN := Lib.hid (And.intro hN1.symm (And.intro hM.symm (And.intro e3 b3)))
  have hN1b : N1 ≤ 10 := by omega
  have hMb : M ≤ 620 := by omega
  have HG := Lib.hid hg
  have Hs := Lib.hid hs
  have Hz := Lib.hid hz
  have Hn := Lib.hid hn
  clear s1 s2 s3 t1 t2 t3 hL1 hL2 hL3 hN1 hM e1 e2 e3 b3 k1 k2 hg hs hz hn hll hvv hvn hb8
  go_enter Tryd.func4, Tryd.ntmps4
  go_wp2_with fail
  refine (packNum_any none 0 0 [] rfl v w (Src.nil _ _) (by omega) hv).mono ?_
  rintro e w1 ⟨v1, rfl, hv1, hb1⟩
  rw [← HL.out.1] at hv1
  obtain ⟨a1, c1, rfl, hs1, _⟩ := hv1.arg
  have Hs1 := Lib.hid hs1
  have Hb1 := Lib.hid hb1
  clear hv1 hs1 hb1
  rw [HN.out.1]
  go_wp2_with fail
  refine (packBytes_any a1 a N1 c1 n c L1 l HN.out.1 Hn.out w1 Hs1.out (Hs.out.below Hb1.out (Nat.le_refl _)) Hz.out (by omega) (by omega)).mono ?_
  rintro e w2 ⟨v2, rfl, hv2, hb2⟩
  rw [← HL.out.2.1] at hv2
  obtain ⟨a2, c2, rfl, hs2, hz2, _⟩ := hv2.arg
  have Hs2 := Lib.hid (And.intro hs2 hz2)
  have Hb2 := Lib.hid (Hb1.out.trans (hb2.mono Hb1.out.size))
  clear hv2 hs2 hz2 hb2 Hb1 Hs1
  rw [HN.out.2.1]
  go_wp2_with fail
  refine (packByte_any a2 M c2 L2 HN.out.2.1 x w2 Hs2.out.1 Hs2.out.2 (by omega)).mono ?_
  rintro e w3 ⟨v3, rfl, hv3, hb3⟩
  rw [← HL.out.2.2] at hv3
  obtain ⟨a3, c3, rfl, hs3, hz3, hlc3, hcm3⟩ := hv3.arg
  rw [HN.out.2.2.1] at hlc3 ⊢
  have hc63 : c3 ≤ 9223372036854775807 := by unfold maxLen at hcm3; omega
  have Hs3 := Lib.hid (And.intro hs3 hz3)
  have Hb3 := Lib.hid (Hb2.out.trans (hb3.mono Hb2.out.size))
  clear hv3 hs3 hz3 hb3 Hb2 Hs2 hcm3
  go_wp2_with fail
  refine (new_any a3 (M + 1) c3 L3 HN.out.2.2.1 w3 Hs3.out.1 Hs3.out.2 (by omega) HN.out.2.2.2).mono ?_
  rintro e w4 ⟨b, rfl, hbb, hr4, hb4⟩
  have Hbb := Lib.hid (Nat.le_trans Hb3.out.size hbb)
  have Hb4 := Lib.hid (Hb3.out.trans (hb4.mono Hb3.out.size))
  have Hr4 := Lib.hid hr4
  have Hs4 := Lib.hid (Hs3.out.1.below hb4 (Nat.le_refl _))
  have Hz3 := Lib.hid Hs3.out.2
  clear hbb hr4 hb4 Hb3 Hs3
  go_wp2_with fail
  refine wp_region_gt (F := fun i => i = b) [(0, true), (1, true), (3, true), (2, false), (4, true), (5, true), (6, true), (7, true), (8, true), (11, true), (12, true), (9, false), (10, true), (13, true), (14, true), (15, true), (16, true), (18, true), (17, false), (19, true), (20, true), (21, true), (22, true), (23, false), (24, true), (25, true)] (by kernel_rfl) (by kernel_rfl) (by kernel_rfl) (by kernel_rfl) (fun _ _ _ _ _ h => h) ?_
  have Hb4d : Hid (Below w.heap.size w w4.drew) := Hb4.out.drew
  have Hr4d : Hid (Rd w4.drew b ⟨L3, false⟩) := ⟨Hr4.out.ex, Hr4.out.b8, Hr4.out.len, Hr4.out.inv⟩
  have Hs4d : Hid (Src w4.drew a3 L3) := Hs4.out
  clear Hb4 Hr4 Hs4
  generalize w4.drew = w5 at *
  iterate 3 (refine wpGt_read (o := ⟨_, _, _, _, _, _⟩) (v := ?_) rfl (by rfl) ?_ ?_; rotate_left; (intro w' hw'; go_simp; with_reducible rfl); simp only [Act.put, List.setIfInBounds_toArray, List.set_cons_zero, List.set_cons_succ])
  refine wpGt_call (o := ⟨_, _, _, _, _, _⟩) rfl (by rfl) (fun K hK => ?_)
  go_simp
  refine (rnum_of w5 b _ _ v _ _ _ HS.out.1 rfl rfl Hr4d.out).mono ?_
  rintro e w6 ⟨rfl, hr6, ht6⟩
  refine hK _ _ ht6 ?_
  clear hK K
  have Hb6 := Lib.hid (Turn.own Hb4d.out ht6 Hbb.out (Nat.le_refl _))
  have Hs6 := Lib.hid (Hs4d.out.turn ht6 Hr4d.out.noByte)
  have Hr6 := Lib.hid hr6
  clear hr6 ht6 Hb4d Hr4d Hs4d
  have cs : ∀ w', Turn (fun i => i = b) w6 w' → (convert 22 9 (.slice a n c)).run Tryd.prog w' = .ok (.string (bstr l)) w' := fun w' t =>
    conv_src 22 5 9 Tryd.underlying22 Tryd.underlying5 Tryd.underlying9 a n c l Hn.out w' ((Hs.out.below Hb6.out (Nat.le_refl _)).turn t Hr6.out.noByte)
  generalize hSL : bstr l = SL at *
  have HSL := Lib.hid hSL
  clear hSL
  iterate 7 (refine wpGt_read (o := ⟨_, _, _, _, _, _⟩) (v := ?_) rfl (by rfl) ?_ ?_; rotate_left; (intro w' hw'; go_simp; with_reducible rfl); simp only [Act.put, List.setIfInBounds_toArray, List.set_cons_zero, List.set_cons_succ])
  clear cs
  refine wpGt_call (o := ⟨_, _, _, _, _, _⟩) rfl (by rfl) (fun K hK => ?_)
  go_simp
  refine (rbytes_of w6 b _ _ n _ _ HS.out.2.1 rfl (by omega) Hr6.out).mono ?_
  rintro e w7 ⟨v4, rfl, hv7, hr7, ht7⟩
  refine hK _ _ ht7 ?_
  clear hK K
  have Hb7 := Lib.hid (Turn.own Hb6.out ht7 Hbb.out (Nat.le_refl _))
  have Hs7 := Lib.hid (Hs6.out.turn ht7 Hr6.out.noByte)
  have Hr7 := Lib.hid hr7
  have cv : ∀ w', Turn (fun i => i = b) w7 w' → (convert 22 9 v4).run Tryd.prog w' = .ok (.string SL) w' := fun w' t => by
    have := (hv7.turn t Hr7.out.noByte).conv
    rwa [HSL.out] at this
  clear hr7 ht7 Hb6 Hr6 Hs6 hv7
  iterate 6 (refine wpGt_read (o := ⟨_, _, _, _, _, _⟩) (v := ?_) rfl (by rfl) ?_ ?_; rotate_left; (intro w' hw'; go_simp; with_reducible rfl); simp only [Act.put, List.setIfInBounds_toArray, List.set_cons_zero, List.set_cons_succ])
  clear cv
  refine wpGt_call (o := ⟨_, _, _, _, _, _⟩) rfl (by rfl) (fun K hK => ?_)
  go_simp
  refine (rbyte_of w7 b _ _ x _ HS.out.2.2 rfl Hr7.out).mono ?_
  rintro e w8 ⟨rfl, hr8, ht8⟩
  refine hK _ _ ht8 ?_
  clear hK K
  have Hb8 := Lib.hid (Turn.own Hb7.out ht8 Hbb.out (Nat.le_refl _))
  have Hs8 := Lib.hid (Hs7.out.turn ht8 Hr7.out.noByte)
  have Hr8 := Lib.hid hr8
  clear hr8 ht8 Hb7 Hr7 Hs7
  iterate 4 (refine wpGt_read (o := ⟨_, _, _, _, _, _⟩) (v := ?_) rfl (by rfl) ?_ ?_; rotate_left; (intro w' hw'; go_simp; with_reducible rfl); simp only [Act.put, List.setIfInBounds_toArray, List.set_cons_zero, List.set_cons_succ])
  refine wpGt_call (o := ⟨_, _, _, _, _, _⟩) rfl (by rfl) (fun K hK => ?_)
  go_simp
  refine (done_of w8 b _ _ doneV_ok Hr8.out).mono ?_
  rintro e w' ⟨rfl, rfl⟩
  refine hK _ _ (Turn.refl _ _) ?_
  clear hK K
  iterate 2 (refine wpGt_read (o := ⟨_, _, _, _, _, _⟩) (v := ?_) rfl (by rfl) ?_ ?_; rotate_left; (intro w' hw'; go_simp; with_reducible rfl); simp only [Act.put, List.setIfInBounds_toArray, List.set_cons_zero, List.set_cons_succ])
  refine wpGt_done ?_
  clear Hr8 HS
  have m0 : max 0 (M : Int) = (M : Int) := by omega
  go_wp2_with fail
  refine (new_any a3 M c3 (L3.take M) (by rw [List.length_take, HN.out.2.2.1]; omega) w8 (Hs8.out.take M) Hz3.out (by omega) (HN.out.2.2.2.take M)).mono ?_
  rintro e w9 ⟨d, rfl, hdd, hr9, hb9⟩
  have Hdd := Lib.hid (Nat.le_trans Hb8.out.size hdd)
  have Hb9 := Lib.hid (Hb8.out.trans (hb9.mono Hb8.out.size))
  have Hr9 := Lib.hid hr9
  clear hdd hr9 hb9 Hb8 Hs8 m0
  go_wp2_with fail
  refine (rnum_of w9 d _ _ v _ _ _ HT.out.1 rfl rfl Hr9.out).mono ?_
  rintro e w10 ⟨rfl, hr10, ht10⟩
  have Hb10 := Lib.hid (Turn.own Hb9.out ht10 Hdd.out (Nat.le_refl _))
  have Hr10 := Lib.hid hr10
  clear hr10 ht10 Hb9 Hr9
  go_wp2_with fail
  refine (rbytes_of w10 d _ _ n _ _ HT.out.2.1 rfl (by omega) Hr10.out).mono ?_
  rintro e w11 ⟨v5, rfl, _, hr11, ht11⟩
  have Hb11 := Lib.hid (Turn.own Hb10.out ht11 Hdd.out (Nat.le_refl _))
  have Hr11 := Lib.hid hr11
  clear hr11 ht11 Hb10 Hr10
  go_wp2_with fail
  refine (rbyte_of w11 d _ _ _ 0 HT.out.2.2 rfl Hr11.out).mono ?_
  rintro e w12 ⟨rfl, hr12, ht12⟩
  have Hb12 := Lib.hid (Turn.own Hb11.out ht12 Hdd.out (Nat.le_refl _))
  have Hr12 := Lib.hid hr12
  clear hr12 ht12 Hb11 Hr11
  go_wp2_with fail
  refine (done_of w12 d _ _ doneV_wr Hr12.out).mono ?_
  rintro e w' ⟨rfl, rfl⟩
  go_wp2_with fail
  refine (num_err 3 w12 (HG.out.below Hb12.out)).mono ?_
  rintro e w13 ⟨rfl, hb13⟩
  have Hb13 := Lib.hid (Hb12.out.trans (hb13.mono Hb12.out.size))
  clear hb13 Hb12 Hr12
  go_wp2_with fail
  refine (sure_any w13 (HG.out.below Hb13.out)).mono ?_
  rintro e w14 ⟨rfl, hb14⟩
  have Hb14 := Lib.hid (Hb13.out.trans (hb14.mono Hb13.out.size))
  clear hb14 Hb13
  go_wp2
  go_ret
  exact ⟨rfl, Hb14.out⟩
end Go.Proofs.YtaogmcfjokabpaaDoor
