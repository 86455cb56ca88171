/-
  PackMany: the law's walk.
-/
import Derived.Test.YtaogmcfjokabpaaDoorSure6
import Derived.Test.YtaogmcfjokabpaaDoorPackMany
import Derived.Test.YtaogmcfjokabpaaDoorGt
import Derived.Deep.CutBlock
import Derived.Deep.DeepCutAuto
namespace Go.Proofs.YtaogmcfjokabpaaDoor
open Go Go.RowKit

theorem sl_src {w : World} {a : Option Addr} {n c : Nat} {l : List Nat} (h : Sl w (.slice a n c) l) : Src w a l ∧ (a = none → c = 0) ∧ l.length = n ∧ n ≤ c ∧ c ≤ maxLen := by
  obtain ⟨a', c', he, h1, h2, h3, h4⟩ := h.arg
  simp only [Value.slice.injEq] at he
  obtain ⟨rfl, rfl, rfl⟩ := he
  exact ⟨h1, h2, rfl, h3, h4⟩
set_option maxRecDepth 100000 in
set_option maxHeartbeats 8000000 in
theorem many_any (a : Option Addr) (es : List (List Nat)) (n c : Nat) (w : World) (hn : es.length = n) (hs : LSrc w a es) (hn63 : n ≤ 9223372036854775807) (hg : Hg w) :
    Calls Tryd.prog 5 #[.slice a n c] w fun e w' => e = .returned (.bool true) ∧ Below w.heap.size w w' := by
  have HG := Lib.hid hg
  have Hs := Lib.hid hs
  have Hn := Lib.hid hn
  clear hg hs hn
  go_enter Tryd.func5, Tryd.ntmps5
  go_upto_block 0 with fail
  go_cut [3, 4, 5] (fun s3 _ _ wx => ∃ (K n1 c1 : Nat) (a1 : Option Addr), s3 = .slice a1 n1 c1 ∧ K ≤ n ∧ n1 ≤ 1000 ∧ Hid (Sl wx (.slice a1 n1 c1) (pk (es.take K)) ∧ (pk (es.take K)).length = n1 ∧ (∀ j, j < K → condP es j) ∧ ¬ condP es K) ∧ Hid (Below w.heap.size w wx))
  case first =>
    go_wp2_with fail
    go_loopw [3, 4, 5] (fun s3 s4 s5 wr => ∃ (k n1 c1 N : Nat) (a1 : Option Addr), s3 = .slice a1 n1 c1 ∧ s4 = .int .i64 N ∧ s5 = .int .i64 k ∧ k ≤ n ∧ k ≤ 20 ∧ N ≤ 500 ∧ n1 ≤ N + 10 * k ∧ Hid (N = catLen es k) ∧ Hid (Sl wr (.slice a1 n1 c1) (pk (es.take k)) ∧ (pk (es.take k)).length = n1 ∧ (∀ j, j < k → condP es j)) ∧ Hid (Below w.heap.size w wr)) (fun _ _ s5 _ => n - (intOf s5).toNat)
    case atStart => exact ⟨0, 0, 0, 0, none, rfl, rfl, rfl, by omega, by omega, by omega, by omega, rfl, ⟨Sl.none _, rfl, fun j h => by omega⟩, Below.refl _ _⟩
    case round =>
      obtain ⟨k, n1, c1, N, a1, rfl, rfl, rfl, hkn, hk20, hN5, hn1, hN, hL, hB⟩ := hrel
      by_cases hlt : k < n
      · obtain ⟨g, o, rfl, hcell⟩ := Hs.out.below (hB.out.mono (Nat.le_refl _)) (by rw [Hn.out]; omega)
        obtain ⟨ad, c2, q0, hsrc, hz, hb8, hlc, hcm⟩ := hcell k (by rw [Hn.out]; exact hlt)
        have hcs := catLen_succ es k (by rw [Hn.out]; exact hlt)
        have hps := pk_succ es k (by rw [Hn.out]; exact hlt)
        have hcp : condP es k ↔ (k < es.length ∧ k < 20 ∧ catLen es k + min (es.getD k []).length 500 < 500) := Iff.rfl
        rw [← hN.out, Hn.out] at hcp
        rw [← hN.out] at hcs
        obtain ⟨E, hE⟩ : ∃ E, E = es.getD k [] := ⟨_, rfl⟩
        rw [← hE] at q0 hsrc hb8 hcs hps hcp hlc
        obtain ⟨m, hm⟩ : ∃ m, m = E.length := ⟨_, rfl⟩
        rw [← hm] at q0 hcs hps hcp hlc
        have hm63 : m ≤ 9223372036854775807 := by unfold maxLen at hcm; omega
        have Hm := Lib.hid hm.symm
        have Hsrc := Lib.hid (And.intro hsrc hz)
        have Hps := Lib.hid hps
        have Hcs := Lib.hid hcs
        obtain ⟨mn, hmn⟩ : ∃ mn, mn = min m 500 := ⟨_, rfl⟩
        rw [← hmn] at hcp
        have emn : min (m : Int) 500 = (mn : Int) := by omega
        have hmb : mn ≤ 500 := by omega
        by_cases h20 : k < 20
        · have d20 : decide ((k : Int) < 20) = true := by simp; omega
          by_cases h5 : N + mn < 500
          · have d5 : decide ((N : Int) + (mn : Int) < 500) = true := by simp; omega
            have hm5 : m < 500 := by omega
            have d6 : decide (500 < (m : Int)) = false := by simp; omega
            have hNm : N + m ≤ 500 := by omega
            have hv := vs_le (show m < 18446744073709551616 by omega)
            have hcond : Hid (∀ j, j < k + 1 → condP es j) := fun j hj => by
              rcases Nat.lt_or_ge j k with h | h
              · exact hL.out.2.2 j h
              · obtain rfl : j = k := by omega
                exact hcp.2 ⟨hlt, h20, h5⟩
            clear hcell hcs hps hcp hE hm hmn hsrc hz hb8 hcm
            go_wp2_with fail
            refine (packBytes_any a1 ad n1 c1 m c2 (pk (es.take k)) E hL.out.2.1 Hm.out wr (sl_src hL.out.1).1 Hsrc.out.1 Hsrc.out.2 (by omega) (by omega)).mono ?_
            rintro e w1 ⟨v, rfl, hv, hb⟩
            rw [← Hps.out] at hv
            obtain ⟨a3, c3, rfl, _⟩ := hv.arg
            obtain ⟨n3, hn3⟩ : ∃ n3, n3 = (pk (es.take (k + 1))).length := ⟨_, rfl⟩
            rw [← hn3] at hv ⊢
            have e3 : n3 = n1 + vs m + m := by rw [hn3, Hps.out, List.length_append, List.length_append, hL.out.2.1, Hm.out]; rfl
            have hn3b : n3 ≤ N + m + 10 * (k + 1) := by omega
            have HL3 : Hid (Sl w1 (.slice a3 n3 c3) (pk (es.take (k + 1))) ∧ (pk (es.take (k + 1))).length = n3 ∧ (∀ j, j < k + 1 → condP es j)) := ⟨hv, hn3.symm, hcond.out⟩
            have HB3 := Lib.hid (hB.out.trans (hb.mono hB.out.size))
            have q1 : w1.cell? ⟨g, o + k, none⟩ = some (.slice ad m c2) := by rw [hb.cell (p := ⟨g, o + k, none⟩) (block_lt_of_cell q0)]; exact q0
            clear hv hb e3 hn3 hcond hL hB q0 Hps
            go_wp2
            go_roundw
            case rel => exact ⟨k + 1, n3, c3, N + m, a3, rfl, by go_num, by go_num, by omega, by omega, hNm, hn3b, Hcs.out.symm, HL3, HB3⟩
            case measure => simp [intOf]; omega
          · have d5 : decide ((N : Int) + (mn : Int) < 500) = false := by simp; omega
            have hfin : Hid (Sl wr (.slice a1 n1 c1) (pk (es.take k)) ∧ (pk (es.take k)).length = n1 ∧ (∀ j, j < k → condP es j) ∧ ¬ condP es k) := ⟨hL.out.1, hL.out.2.1, hL.out.2.2, fun h => h5 (hcp.1 h).2.2⟩
            clear hcell hcs hps hcp hE hm hmn hsrc hz hb8 hcm hL
            go_wp2_with fail
            go_meet
            exact ⟨k, n1, c1, a1, rfl, hkn, by omega, hfin, hB⟩
        · have d20 : decide ((k : Int) < 20) = false := by simp; omega
          have hfin : Hid (Sl wr (.slice a1 n1 c1) (pk (es.take k)) ∧ (pk (es.take k)).length = n1 ∧ (∀ j, j < k → condP es j) ∧ ¬ condP es k) := ⟨hL.out.1, hL.out.2.1, hL.out.2.2, fun h => h20 (hcp.1 h).2.1⟩
          clear hcell hcs hps hcp hE hm hmn hsrc hz hb8 hcm hL
          go_wp2_with fail
          go_meet
          exact ⟨k, n1, c1, a1, rfl, hkn, by omega, hfin, hB⟩
      · obtain rfl : k = n := by omega
        have hfin : Hid (Sl wr (.slice a1 n1 c1) (pk (es.take k)) ∧ (pk (es.take k)).length = n1 ∧ (∀ j, j < k → condP es j) ∧ ¬ condP es k) := ⟨hL.out.1, hL.out.2.1, hL.out.2.2, fun h => hlt (by have := h.1; rw [Hn.out] at this; exact this)⟩
        clear hL
        go_wp2_with fail
        go_meet
        exact ⟨k, n1, c1, a1, rfl, hkn, by omega, hfin, hB⟩
  case rest =>
    obtain ⟨K, n1, c1, a1, rfl, hKn, hn1, hL, hB⟩ := hcut
    have hKe : K ≤ es.length := by rw [Hn.out]; exact hKn
    have hb8 : B8 (pk (es.take K)) := pk_take_b8 Hs.out.b8 K
    have hstep : ∀ j, j < K → bytesS ⟨pk ((es.take K).drop j), false⟩ 500 = (es.getD j [], ⟨pk ((es.take K).drop (j + 1)), false⟩) ∧ (pk ((es.take K).drop (j + 1))).length < (pk ((es.take K).drop j)).length ∧ (es.getD j []).length < 500 := fun j hj => by
      have h5 : (es.getD j []).length < 500 := by have := (hL.out.2.2.1 j hj).2.2; omega
      have e := pk_drop es K j hj hKe
      refine ⟨?_, ?_, h5⟩
      · rw [e]; exact bytesS_put _ _ false 500 (by omega) (by omega)
      · rw [e, List.length_append, List.length_append]
        have := vs_pos (es.getD j []).length
        show _ < vs (es.getD j []).length + _
        omega
    have Hstep := Lib.hid hstep
    have Hend := Lib.hid (pk_end es K)
    have hS0 : pk ((es.take K).drop 0) = pk (es.take K) := by rw [List.drop_zero]
    have Hcond := Lib.hid hL.out.2.2
    obtain ⟨hs1, hz1, hl1, _⟩ := sl_src hL.out.1
    have Hnew := Lib.hid (new_any a1 n1 c1 (pk (es.take K)) hl1 _ hs1 hz1 (by omega) hb8)
    have HS0 := Lib.hid (And.intro hS0 hl1)
    clear hstep hKe hb8 hs1 hz1 hl1 hL hS0
    go_wp2_with fail
    refine Hnew.out.mono ?_
    rintro e w1 ⟨b, rfl, hbb, hr1, hb1⟩
    have hleft := left_any w1 b _ hr1
    rw [show (RS.mk (pk (es.take K)) false).l.length = n1 from HS0.out.2] at hleft
    have Hbb := Lib.hid (Nat.le_trans hB.out.size hbb)
    have HB1 := Lib.hid (hB.out.trans (hb1.mono hB.out.size))
    have Hr1 : Hid (Rd w1 b ⟨pk ((es.take K).drop 0), false⟩) := by show Rd _ _ _; rw [HS0.out.1]; exact hr1
    have Hleft := Lib.hid hleft
    clear hbb hr1 hb1 hleft hB Hnew
    go_wp2_with fail
    refine Hleft.out.mono ?_
    rintro e w' ⟨rfl, rfl⟩
    clear Hleft
    go_upto_block 2 with fail
    go_cut [4, 7, 8] (fun _ s7 _ wx => s7 = .int .i64 0 ∧ Hid (Rd wx b ⟨[], false⟩) ∧ Hid (Below w.heap.size w wx))
    case first =>
      go_wp2_with fail
      go_loopw [4, 7, 8] (fun s4 s7 s8 wr => ∃ (j N LL : Nat), j ≤ K ∧ s8 = .int .i64 j ∧ s4 = .int .i64 N ∧ s7 = .int .i64 LL ∧ N ≤ 500 ∧ Hid (N = catLen es j) ∧ Hid (LL = (pk ((es.take K).drop j)).length) ∧ Hid (Rd wr b ⟨pk ((es.take K).drop j), false⟩) ∧ Hid (Below w.heap.size w wr)) (fun _ _ s8 _ => K - (intOf s8).toNat)
      case atStart => exact ⟨0, 0, n1, Nat.zero_le _, rfl, rfl, rfl, by omega, rfl, by show _ = _; rw [HS0.out.1, HS0.out.2], Hr1, HB1⟩
      case round =>
        obtain ⟨j, N, LL, hjK, rfl, rfl, rfl, hN4, hN, hLL, hr, hB⟩ := hrel
        by_cases hlt : j < n
        · obtain ⟨g, o, rfl, hcell⟩ := Hs.out (by rw [Hn.out]; omega)
          obtain ⟨ad, c2, q0, hsrc, hz, hb8, hlc, hcm⟩ := hcell j (by rw [Hn.out]; exact hlt)
          have hcs := catLen_succ es j (by rw [Hn.out]; exact hlt)
          have hcp : condP es j ↔ (j < es.length ∧ j < 20 ∧ catLen es j + min (es.getD j []).length 500 < 500) := Iff.rfl
          rw [← hN.out, Hn.out] at hcp
          rw [← hN.out] at hcs
          have hst := fun h => Hstep.out j h
          obtain ⟨E, hE⟩ : ∃ E, E = es.getD j [] := ⟨_, rfl⟩
          rw [← hE] at q0 hsrc hcs hcp hlc
          simp only [← hE] at hst
          obtain ⟨m, hm⟩ : ∃ m, m = E.length := ⟨_, rfl⟩
          rw [← hm] at q0 hcs hcp hlc
          simp only [← hm] at hst
          have hm63 : m ≤ 9223372036854775807 := by unfold maxLen at hcm; omega
          have Hm := Lib.hid hm.symm
          have Hsrc := Lib.hid hsrc
          have Hcs := Lib.hid hcs
          obtain ⟨mn, hmn⟩ : ∃ mn, mn = min m 500 := ⟨_, rfl⟩
          rw [← hmn] at hcp
          have emn : min (m : Int) 500 = (mn : Int) := by omega
          have hmb : mn ≤ 500 := by omega
          have HQ : Hid (∀ wy, Below w.heap.size w wy → wy.cell? ⟨g, o + j, none⟩ = some (.slice ad m c2)) := fun wy hb => by rw [hb.cell (p := ⟨g, o + j, none⟩) (block_lt_of_cell q0)]; exact q0
          have q1 := HQ.out wr hB.out
          clear q0 hcell hcs hE hm hmn hsrc hz hb8 hcm
          by_cases hjl : j < K
          · obtain ⟨_, h20, h5⟩ := hcp.1 (Hcond.out.1 j hjl)
            obtain ⟨hst1, hst2, hst3⟩ := hst hjl
            have d20 : decide ((j : Int) < 20) = true := by simp; omega
            have d5 : decide ((N : Int) + (mn : Int) < 500) = true := by simp; omega
            have hNm : N + m ≤ 500 := by omega
            obtain ⟨R, hR⟩ : ∃ R, R = (pk ((es.take K).drop (j + 1))).length := ⟨_, rfl⟩
            have dR : decide ((LL : Int) ≤ (R : Int)) = false := by have := hLL.out; simp; omega
            have dRn : decide (LL ≤ R) = false := by have := hLL.out; simp; omega
            have HR := Lib.hid hR
            have Hst1 := Lib.hid hst1
            have hLr := Lib.hid hr.out.len
            have hRb : R ≤ 65536 := by have := hLr.out; have e : (RS.mk (pk ((es.take K).drop j)) false).l.length = (pk ((es.take K).drop j)).length := rfl; rw [e] at this; omega
            have hLb : LL ≤ 65536 := by have := hLr.out; have e : (RS.mk (pk ((es.take K).drop j)) false).l.length = (pk ((es.take K).drop j)).length := rfl; rw [e] at this; have := hLL.out; omega
            clear hst hst1 hst2 hst3 hR hcp hLr
            go_wp2_with fail
            refine wp_region_gt (F := fun i => i = b) [(0, true), (3, true), (4, true), (5, true), (6, true), (7, true), (1, false), (2, true), (8, true), (9, true), (10, true), (12, true), (11, false), (13, true), (14, true)] (by kernel_rfl) (by kernel_rfl) (by kernel_rfl) (by kernel_rfl) (fun _ _ _ _ _ h => h) ?_
            have hrd : Hid (Rd wr.drew b ⟨pk ((es.take K).drop j), false⟩) := ⟨hr.out.ex, hr.out.b8, hr.out.len, hr.out.inv⟩
            have hBd : Hid (Below w.heap.size w wr.drew) := hB.out.drew
            clear hr hB q1
            generalize wr.drew = w4 at *
            have kq : ∀ w', Turn (fun i => i = b) w4 w' → w'.cell? ⟨g, o + j, none⟩ = some (.slice ad m c2) := fun w' t => HQ.out w' (Turn.own hBd.out t Hbb.out (Nat.le_refl _))
            have cE : ∀ w', Turn (fun i => i = b) w4 w' → (convert 22 9 (.slice ad m c2)).run Tryd.prog w' = .ok (.string (bstr E)) w' := fun w' t =>
              conv_src 22 5 9 Tryd.underlying22 Tryd.underlying5 Tryd.underlying9 ad m c2 E Hm.out w' (Hsrc.out.below (Turn.own hBd.out t Hbb.out (Nat.le_refl _)) (Nat.le_refl _))
            obtain ⟨XE, hXE⟩ : ∃ X, X = bstr E := ⟨_, rfl⟩
            rw [← hXE] at cE
            have HXE := Lib.hid hXE
            have i1 : (0 : Int) ≤ j := by omega
            have i2 : (j : Int) < n := by omega
            clear hXE
            iterate 6 (refine wpGt_read (o := ⟨_, _, _, _, _, _⟩) (v := ?_) rfl (by rfl) ?_ ?_; rotate_left; (intro w' hw'; go_simp; with_reducible rfl); simp only [Act.put, List.setIfInBounds_toArray, List.set_cons_zero, List.set_cons_succ])
            clear kq cE
            refine wpGt_call (o := ⟨_, _, _, _, _, _⟩) rfl (by rfl) (fun K hK => ?_)
            go_simp
            refine (rbytes_of w4 b _ _ 500 500 E Hst1.out rfl (by omega) hrd.out).mono ?_
            rintro e w5 ⟨v, rfl, hv, hr5, ht5⟩
            refine hK _ _ ht5 ?_
            clear hK K
            have HB5 := Lib.hid (Turn.own hBd.out ht5 Hbb.out (Nat.le_refl _))
            have cv : ∀ w', Turn (fun i => i = b) w5 w' → (convert 22 9 v).run Tryd.prog w' = .ok (.string XE) w' := fun w' t => by
              have := (hv.turn t hr5.noByte).conv
              rwa [← HXE.out] at this
            have hleft5 := left_any w5 b _ hr5
            have hleft6 := left_any w5.drew b _ (⟨hr5.ex, hr5.b8, hr5.len, hr5.inv⟩ : Rd w5.drew b _)
            have Hr5 : Hid (Rd w5.drew b ⟨pk ((es.take K).drop (j + 1)), false⟩) := (⟨hr5.ex, hr5.b8, hr5.len, hr5.inv⟩ : Rd w5.drew b _)
            rw [show (RS.mk (pk ((es.take K).drop (j + 1))) false).l.length = R from HR.out.symm] at hleft5 hleft6
            have Hl5 := Lib.hid hleft5
            have Hl6 := Lib.hid hleft6
            clear hv hr5 ht5 hleft5 hleft6 hBd hrd HXE
            iterate 5 (refine wpGt_read (o := ⟨_, _, _, _, _, _⟩) (v := ?_) rfl (by rfl) ?_ ?_; rotate_left; (intro w' hw'; go_simp; with_reducible rfl); simp only [Act.put, List.setIfInBounds_toArray, List.set_cons_zero, List.set_cons_succ])
            clear cv
            refine wpGt_call (o := ⟨_, _, _, _, _, _⟩) rfl (by rfl) (fun K hK => ?_)
            go_simp
            refine Hl5.out.mono ?_
            rintro e w' ⟨rfl, rfl⟩
            refine hK _ _ (Turn.refl _ _) ?_
            clear hK K
            iterate 2 (refine wpGt_read (o := ⟨_, _, _, _, _, _⟩) (v := ?_) rfl (by rfl) ?_ ?_; rotate_left; (intro w' hw'; go_simp; with_reducible rfl); simp only [Act.put, List.setIfInBounds_toArray, List.set_cons_zero, List.set_cons_succ])
            refine wpGt_done ?_
            clear Hl5
            go_wp2_with fail
            clear dR dRn
            refine wp_region_gt (F := fun _ => False) [(0, true), (2, true), (3, true), (4, true), (5, true), (6, true), (7, true), (8, true), (1, false), (9, true), (10, true)] (by kernel_rfl) (by kernel_rfl) (by kernel_rfl) (by kernel_rfl) (fun _ _ _ _ _ h => h) ?_
            have HB6 : Hid (Below w.heap.size w w5.drew) := HB5.out.drew
            clear HB5
            generalize w5.drew = w6 at *
            have kq : ∀ w', Turn (fun _ => False) w6 w' → w'.cell? ⟨g, o + j, none⟩ = some (.slice ad m c2) := fun w' t => HQ.out w' (HB6.out.trans (t.below HB6.out.size (fun _ h => h.elim)))
            have y1 : IntKind.i64.wrap ((N : Int) + (m : Int)) = (N : Int) + (m : Int) := IntWalk.i64_in _ (by omega)
            iterate 8 (refine wpGt_read (o := ⟨_, _, _, _, _, _⟩) (v := ?_) rfl (by rfl) ?_ ?_; rotate_left; (intro w' hw'; go_simp; with_reducible rfl); simp only [Act.put, List.setIfInBounds_toArray, List.set_cons_zero, List.set_cons_succ])
            clear kq y1
            refine wpGt_call (o := ⟨_, _, _, _, _, _⟩) rfl (by rfl) (fun K hK => ?_)
            go_simp
            refine Hl6.out.mono ?_
            rintro e w' ⟨rfl, rfl⟩
            refine hK _ _ (Turn.refl _ _) ?_
            clear hK K Hl6
            iterate 2 (refine wpGt_read (o := ⟨_, _, _, _, _, _⟩) (v := ?_) rfl (by rfl) ?_ ?_; rotate_left; (intro w' hw'; go_simp; with_reducible rfl); simp only [Act.put, List.setIfInBounds_toArray, List.set_cons_zero, List.set_cons_succ])
            refine wpGt_done ?_
            go_wp2
            go_roundw
            case rel => exact ⟨j + 1, N + m, R, by omega, by go_num, by go_num, rfl, hNm, Hcs.out.symm, HR, Hr5, HB6⟩
            case measure => simp [intOf]; omega
          · rcases Nat.lt_or_ge j 20 with h20 | h20
            · have d20 : decide ((j : Int) < 20) = true := by simp; omega
              have h5 : ¬ (N + mn < 500) := fun h => by
                have hx : j = K := by omega
                exact Hcond.out.2 (hx ▸ hcp.2 ⟨hlt, h20, h⟩)
              have d5 : decide ((N : Int) + (mn : Int) < 500) = false := by simp; omega
              clear hcp hst
              obtain rfl : j = K := by omega
              obtain rfl : LL = 0 := by rw [hLL.out, Hend.out]; rfl
              have hr0 : Hid (Rd wr b ⟨[], false⟩) := by have := hr.out; rw [Hend.out] at this; exact this
              clear hr hLL Hstep Hend Hcond HS0 Hr1
              go_wp2_with fail
              go_meet
              exact ⟨rfl, hr0, hB⟩
            · have d20 : decide ((j : Int) < 20) = false := by simp; omega
              clear hcp hst
              obtain rfl : j = K := by omega
              obtain rfl : LL = 0 := by rw [hLL.out, Hend.out]; rfl
              have hr0 : Hid (Rd wr b ⟨[], false⟩) := by have := hr.out; rw [Hend.out] at this; exact this
              clear hr hLL Hstep Hend Hcond HS0 Hr1
              go_wp2_with fail
              go_meet
              exact ⟨rfl, hr0, hB⟩
        · obtain rfl : j = K := by omega
          obtain rfl : LL = 0 := by rw [hLL.out, Hend.out]; rfl
          have hr0 : Hid (Rd wr b ⟨[], false⟩) := by have := hr.out; rw [Hend.out] at this; exact this
          clear hr hLL Hstep Hend Hcond HS0 Hr1
          go_wp2_with fail
          go_meet
          exact ⟨rfl, hr0, hB⟩
    case rest =>
      obtain ⟨rfl, hr, hB⟩ := hcut
      have hdone := done_of _ b _ _ doneV_ok hr.out
      have Hdone := Lib.hid hdone
      clear hdone hr
      go_wp2_with fail
      refine Hdone.out.mono ?_
      rintro e w' ⟨rfl, rfl⟩
      go_wp2_with fail
      refine (sure_any _ (HG.out.below hB.out)).mono ?_
      rintro e w2 ⟨rfl, hb2⟩
      have hb3 := hB.out.trans (hb2.mono hB.out.size)
      go_wp2
      go_ret
      exact ⟨rfl, hb3⟩
end Go.Proofs.YtaogmcfjokabpaaDoor
