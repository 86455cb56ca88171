/-
  PinsOnce: the law's walk (mkponce.py).
-/
import Derived.Test.YtdgcghknfhhkiaaDoorSure18
import Derived.Test.YtdgcghknfhhkiaaDoorPinTwo
import Derived.Test.YtdgcghknfhhkiaaDoorBit2
import Derived.Deep.DeepCutAuto
namespace Go.Proofs.YtdgcghknfhhkiaaDoor
open Go Go.RowKit

set_option maxRecDepth 100000 in
set_option maxHeartbeats 8000000 in
theorem once_any (a : Option Addr) (m c : Nat) (l : List (Nat × Nat)) (w : World) (hn : l.length = m) (hs : QS w a l) (h8 : ∀ p ∈ l, p.1 < 256 ∧ p.2 < 256) (hm : m ≤ maxLen) (hg : Hg w) :
    Calls Tryd.prog 4 #[.slice a m c] w fun e w' => e = .returned (.bool true) ∧ Below w.heap.size w w' := by
  have hm9 : m ≤ 9223372036854775807 := by unfold maxLen at hm; omega
  have CS := Lib.hid (fun w h => psure_any w h)
  have HN := Lib.hid hn
  have H8 : Hid (∀ k, k < m → (l.getD k (0, 0)).1 < 256 ∧ (l.getD k (0, 0)).2 < 256) := fun k hk => by
    have hk2 : k < l.length := by omega
    have e : l.getD k (0, 0) = l[k] := by rw [List.getD_eq_getElem?_getD, List.getElem?_eq_getElem hk2]; rfl
    rw [e]
    exact h8 _ (List.getElem_mem hk2)
  have HQ0 := Lib.hid hs
  have HG0 := Lib.hid hg
  have HGw := Lib.hid hg
  have HQw := Lib.hid hs
  clear hn hs h8 hm hg
  go_enter Tryd.func4, Tryd.ntmps4
  go_wp2_with (refine wpList_alloc_arr rfl PS rfl arrz_PS ?_; intro g3 w1 hg3 hk3 hb3)
  obtain ⟨B, hB⟩ : ∃ B, w1.heap.size = B := ⟨_, rfl⟩
  have HP0 : Hid (PO w1 g3 B 0 pnil [] pnil pnil) := ⟨hk3, EV.none _, World.ownsRow_nil _ _ _ _, World.ownsRow_nil _ _ _ _, by rw [← hB]; exact hk3.lt, by omega, (fun k h => by cases h), (fun k h => by cases h), (fun k h => by cases h), (fun k h => by cases h)⟩
  have HB0 : Hid (Below w.heap.size w w1) := hb3
  replace HG0 := Lib.hid (HG0.out.below hb3)
  replace HQ0 := Lib.hid (HQ0.out.ext hb3)
  have Hg3 := Lib.hid hg3
  have HwB : Hid (w.heap.size ≤ B) := by rw [← hB]; exact hb3.size
  clear hg3 hk3 hb3 hB
  go_loopw [4, 5, 6] (fun t4 t5 i wr => ∃ (k N n c4 c5 : Nat) (a4 a5 : Option Addr) (v : Value) (L : List Pn), i = .int .i64 k ∧ t4 = .slice a4 N c4 ∧ t5 = .slice a5 n c5 ∧ k ≤ m ∧ k ≤ 60 ∧ N ≤ k ∧ Hid (L.length = n) ∧ Hid (PMay L N) ∧ Hid (PO wr g3 B N v L (.slice a4 N c4) (.slice a5 n c5)) ∧ Hid (Below w.heap.size w wr) ∧ Hid (Hg wr) ∧ Hid (QS wr a l)) (fun _ _ i _ => m - (intOf i).toNat)
  case atStart => exact ⟨0, 0, 0, 0, 0, none, none, pnil, [], rfl, rfl, rfl, by omega, by omega, Nat.le_refl _, rfl, PMay.nil (by omega), HP0.out, HB0.out, HG0.out, HQ0.out⟩
  case round =>
    obtain ⟨k, N, n, c4, c5, a4, a5, v, L, rfl, rfl, rfl, hk, hk60, hNk, HLn, HM, HP, HB, HG, HQ⟩ := hrel
    clear HP0 HB0 HG0 HQ0
    have hn8 : n ≤ 8 := by have := HM.out.few; rw [HLn.out] at this; exact this
    by_cases hlt : k < m
    · by_cases h60 : k < 60
      · obtain ⟨g, o, rfl, hcell⟩ := HQ.out (by rw [HN.out]; omega)
        obtain ⟨q0, q1⟩ := hcell k (by rw [HN.out]; exact hlt)
        obtain ⟨h8x, h8y⟩ := H8.out k hlt
        generalize (l.getD k (0, 0)).1 = x at *
        generalize (l.getD k (0, 0)).2 = y at *
        have i1 : (k : Int) < (m : Int) := by omega
        have i2 : (k : Int) < 60 := by omega
        obtain ⟨R, hR⟩ : ∃ R, x % 3 = R := ⟨_, rfl⟩
        have eR : (x : Int).tmod 3 = (R : Int) := by rw [Int.tmod_eq_emod_of_nonneg (by omega)]; omega
        clear hcell hR
        obtain ⟨D, hD⟩ : ∃ D : Bool, (decide (R = 0) && decide (0 < n)) = D := ⟨_, rfl⟩
        go_upto_region 6 with fail
        go_cut [39] (fun s39 wx => s39 = .bool D ∧ wr = wx)
        case first => as_aux_lemma =>
          by_cases hR0 : R = 0
          · have dR : ((R : Int) == 0) = true := by rw [beq_iff_eq]; omega
            by_cases hn0 : 0 < n
            · have d0 : decide ((0 : Int) < (n : Int)) = true := decide_eq_true (by omega)
              rw [decide_eq_true hR0, decide_eq_true hn0] at hD
              have eD : Hid (true = D) := hD
              clear hD hR0
              go_wp2
              go_meet
              exact ⟨by rw [← eD.out], by first | trivial | rfl⟩
            · have d0 : decide ((0 : Int) < (n : Int)) = false := decide_eq_false (by omega)
              rw [decide_eq_false hn0, Bool.and_false] at hD
              have eD : Hid (false = D) := hD
              clear hD hR0
              go_wp2
              go_meet
              exact ⟨by rw [← eD.out], by first | trivial | rfl⟩
          · have dR : ((R : Int) == 0) = false := by rw [beq_eq_false_iff_ne]; omega
            rw [decide_eq_false hR0, Bool.false_and] at hD
            have eD : Hid (false = D) := hD
            clear hD hR0
            go_wp2
            go_meet
            exact ⟨by rw [← eD.out], by first | trivial | rfl⟩
        case rest =>
          obtain ⟨rfl, rfl⟩ := hcut
          cases D with
          | true =>
            obtain ⟨_, hn0⟩ := Bool.and_eq_true_iff.1 hD
            have hn0 := of_decide_eq_true hn0
            clear hD eR
            have d0 : decide ((0 : Int) < (n : Int)) = true := decide_eq_true (by omega)
            have n0 : ((n : Int) == 0) = false := by rw [beq_eq_false_iff_ne]; omega
            have n1 : ¬ (n : Int) = 0 := by omega
            obtain ⟨j, hj⟩ : ∃ j, y % n = j := ⟨_, rfl⟩
            have hjn : j < n := by rw [← hj]; exact Nat.mod_lt _ (by omega)
            have ej : (y : Int).tmod (n : Int) = (j : Int) := by rw [Int.tmod_eq_emod_of_nonneg (by omega), ← hj]; omega
            have wy : IntKind.i64.wrap (y : Int) = (y : Int) := by rw [IntKind.wrap_i64]; omega
            have wj : IntKind.i64.wrap (j : Int) = (j : Int) := by rw [IntKind.wrap_i64]; omega
            obtain ⟨j1, hj1⟩ : ∃ j1, j + 1 = j1 := ⟨_, rfl⟩
            have wj1 : IntKind.i64.wrap ((j : Int) + 1) = (j1 : Int) := by rw [IntKind.wrap_i64]; omega
            have ijn : (j : Int) < (n : Int) := by omega
            clear hj
            obtain ⟨g5, rfl⟩ : ∃ g5, a5 = some ⟨g5, 0, none⟩ := by
              rcases HP.out.eo.2 with ⟨h, _⟩ | ⟨g5, cap, cur, h, _⟩
              · injection h with h1 h2; omega
              · injection h with h1 h2; exact ⟨g5, h1⟩
            have hjL : j < L.length := by rw [HLn.out]; exact hjn
            obtain ⟨ID, hID⟩ : ∃ x, (pn L j).id = x := ⟨_, rfl⟩
            have hmy := (pmayB_iff L N).2 HM.out
            have hfi := HM.out.asc.find j hjL
            rw [hID] at hfi
            have HCl := Lib.hid (fun w h => close_new v L N ID j w h (fiE_at hmy hfi) (fiA_at hmy hfi) hjL HM.out.few)
            obtain ⟨L2, hL2⟩ : ∃ X, pdel L j = X := ⟨_, rfl⟩
            have HM2 : Hid (PMay L2 N) := by rw [← hL2]; exact HM.out.del j hjL
            have HLn2 : Hid (L2.length = n - 1) := by show _ = _; rw [← hL2, pdel_len L j hjL, HLn.out]
            have hid2 : ids L2 = (ids L).take j ++ (ids L).drop j1 := by rw [← hL2, ids_del, hj1]
            rw [hL2, errC_0] at HCl
            have HI2 := Lib.hid hid2
            have hidl : (ids L).length = n := by rw [ids_len, HLn.out]
            obtain ⟨ax, cx, hax, hes, _, hncx, _⟩ := own_u64 HP.out.eo
            rw [hidl] at hax hncx
            cases hax
            obtain ⟨gx, ox, hgx, hcx⟩ := hes.u64 (by rw [hidl]; omega)
            cases hgx
            have hcj := hcx j (by rw [hidl]; exact hjn)
            rw [ids_at L j hjL, hID, Nat.zero_add] at hcj
            have Hcj := Lib.hid hcj
            have hidl2 := Lib.hid hidl
            have Hj1 := Lib.hid hj1
            have jc : j ≤ c5 := by omega
            have j1c : j1 ≤ c5 := by omega
            have j1n : j1 ≤ n := by omega
            clear hmy hfi hjL hID hL2 hid2 hidl hes hcx hcj hj1
            go_upto_region 8 with fail
            go_cut [8, 9] (fun s8 s9 wx => ∃ (g8 : Nat) (u : Value), s8 = .pointer (some ⟨g8, 0, none⟩) ∧ s9 = .nilIface ∧ Hid (Blk wx g8 PS (psv N u)) ∧ Hid (EV pinE wx u L2) ∧ Hid (∀ x, u.ownBlock = some x → wr.heap.size ≤ x) ∧ Hid (Below wr.heap.size wr wx))
            case first => as_aux_lemma =>
              obtain ⟨B5, hB5⟩ : ∃ B5, wr.heap.size = B5 := ⟨_, rfl⟩
              refine wp_region_gs (F := fun i => B5 ≤ i) (.rd 0 (.rd 1 (.rd 2 (.rd 3 (.rd 4 (.two 5 (.rd 6 (.rd 7 (.rd 8 (.call 9 (.call 10 (.rd 11 .done)))))) 9 (.call 5 (.rd 6 (.rd 7 (.rd 8 (.call 10 (.rd 11 .done)))))))))))) (by kernel_rfl) (by kernel_rfl) (by kernel_rfl) (by kernel_rfl) (fun _ _ _ _ _ h => h) ?_
              have HX : Hid (Below wr.heap.size wr wr.drew) := (Below.refl _ _).drew
              have HPd := Lib.hid (HP.out.ext (Ext.drew _))
              have Hcd : Hid (wr.drew.cell? ⟨g5, j, none⟩ = some (.int .u64 (ID : Nat))) := Hcj.out
              have hBd : wr.drew.heap.size = B5 := hB5
              generalize wr.drew = ud at *
              have hg3 : ¬ B5 ≤ g3 := by have := HPd.out.k3.lt; omega
              have hg5 : ¬ B5 ≤ g5 := by have : g5 < ud.heap.size := block_lt_of_cell Hcd.out; omega
              have r4 : ∀ w', Turn (fun i => B5 ≤ i) ud w' → w'.cell? ⟨g5, j, none⟩ = some (.int .u64 (ID : Nat)) := fun w' ht => by rw [ht.cell (p := ⟨g5, j, none⟩) (block_lt_of_cell Hcd.out) hg5]; exact Hcd.out
              refine wpGs_read (o := ⟨_, _, _, _, _, _⟩) (v := .agg (psv N v)) rfl (by rfl) (fun w' hw' => rd_load_agg PS (.tmp 3) rfl g3 0 (psv N v) (by rfl) agg_PS (HPd.out.k3.turn hw' hg3).at rfl) ?_
              simp only [Act.put, List.setIfInBounds_toArray, List.set_cons_zero, List.set_cons_succ]
              iterate 4 (refine wpGs_read (o := ⟨_, _, _, _, _, _⟩) (v := ?_) rfl (by rfl) ?_ ?_; rotate_left; (intro w' hw'; go_simp; with_reducible rfl); simp only [Act.put, List.setIfInBounds_toArray, List.set_cons_zero, List.set_cons_succ])
              refine ⟨?_, ?_⟩
              · skip
                refine stepS_call (o := ⟨_, _, _, _, _, _⟩) rfl (by rfl) (fun K hK => ?_)
                go_simp
                refine (HCl.out ud HPd.out.ep).mono ?_
                rintro e w6 ⟨u, rfl, hu, hnew, hb⟩
                refine hK _ _ (Turn.ofBelow hb) ?_
                clear hK K
                try simp only [Act.put, List.setIfInBounds_toArray, List.set_cons_zero, List.set_cons_succ]
                iterate 3 (refine wpGs_read (o := ⟨_, _, _, _, _, _⟩) (v := ?_) rfl (by rfl) ?_ ?_; rotate_left; (intro w' hw'; go_simp; with_reducible rfl); simp only [Act.put, List.setIfInBounds_toArray, List.set_cons_zero, List.set_cons_succ])
                refine stepS_call (o := ⟨_, _, _, _, _, _⟩) rfl (by rfl) (fun K hK => ?_)
                refine wp_alloc_arr PS rfl arrz_PS ?_
                intro g8 w7 hg hk hb7
                refine hK _ _ (Turn.ofBelow hb7) ?_
                clear hK K
                simp only [Act.put, List.setIfInBounds_toArray, List.set_cons_zero, List.set_cons_succ]
                have hs6 := hb.size
                refine stepS_call (o := ⟨_, _, _, _, _, _⟩) rfl (by rfl) (fun K hK => ?_)
                refine wp_store_agg PS (.tmp 8) (.tmp 56) rfl g8 (psv N u) _ PS (by rfl) (by rfl) agg_PS hk rfl rfl (psv_one hu) (fun w8 hk8 ht8 hs8 => ?_)
                refine hK _ _ (ht8.mono (fun i hi _ => by subst hi; omega)) ?_
                clear hK K
                simp only [Act.put]
                (refine wpGs_read (o := ⟨_, _, _, _, _, _⟩) (v := ?_) rfl (by rfl) ?_ ?_; rotate_left; (intro w' hw'; go_simp; with_reducible rfl); simp only [Act.put, List.setIfInBounds_toArray, List.set_cons_zero, List.set_cons_succ])
                refine wpGs_done ?_
                go_wp2
                go_meet
                have hs7 := hb7.size
                have hlu := fun k (h : u.ownBlock = some k) => hu.lt h
                exact ⟨g8, u, rfl, rfl, hk8, (hu.ext hb7).turnP ht8 (fun k h1 e => by have := hlu k h1; omega), fun x hx => by have := hnew x hx; omega, HX.out.trans ((hb.mono (by omega)).trans ((hb7.mono (by omega)).trans (ht8.below (by omega) (fun i hi => by subst hi; omega))))⟩
              · skip
                refine stepS_call (o := ⟨_, _, _, _, _, _⟩) rfl (by rfl) (fun K hK => ?_)
                refine wp_alloc_arr PS rfl arrz_PS ?_
                intro g8 w6 hg hk hb6
                refine hK _ _ (Turn.ofBelow hb6) ?_
                clear hK K
                simp only [Act.put, List.setIfInBounds_toArray, List.set_cons_zero, List.set_cons_succ]
                have hs6 := hb6.size
                refine stepS_call (o := ⟨_, _, _, _, _, _⟩) rfl (by rfl) (fun K hK => ?_)
                go_simp
                refine (HCl.out w6 (HPd.out.ep.ext hb6)).mono ?_
                rintro e w7 ⟨u, rfl, hu, hnew, hb⟩
                refine hK _ _ (Turn.ofBelow hb) ?_
                clear hK K
                try simp only [Act.put, List.setIfInBounds_toArray, List.set_cons_zero, List.set_cons_succ]
                iterate 3 (refine wpGs_read (o := ⟨_, _, _, _, _, _⟩) (v := ?_) rfl (by rfl) ?_ ?_; rotate_left; (intro w' hw'; go_simp; with_reducible rfl); simp only [Act.put, List.setIfInBounds_toArray, List.set_cons_zero, List.set_cons_succ])
                have hk7 := hk.ext hb
                have hl8 := hk.lt
                have hs7 := hb.size
                refine stepS_call (o := ⟨_, _, _, _, _, _⟩) rfl (by rfl) (fun K hK => ?_)
                refine wp_store_agg PS (.tmp 8) (.tmp 56) rfl g8 (psv N u) _ PS (by rfl) (by rfl) agg_PS hk7 rfl rfl (psv_one hu) (fun w8 hk8 ht8 hs8 => ?_)
                refine hK _ _ (ht8.mono (fun i hi _ => by subst hi; omega)) ?_
                clear hK K
                simp only [Act.put]
                (refine wpGs_read (o := ⟨_, _, _, _, _, _⟩) (v := ?_) rfl (by rfl) ?_ ?_; rotate_left; (intro w' hw'; go_simp; with_reducible rfl); simp only [Act.put, List.setIfInBounds_toArray, List.set_cons_zero, List.set_cons_succ])
                refine wpGs_done ?_
                go_wp2
                go_meet
                exact ⟨g8, u, rfl, rfl, hk8, hu.turnP ht8 (fun k h1 e => by have := hnew k h1; omega), fun x hx => by have := hnew x hx; omega, HX.out.trans ((hb6.mono (by omega)).trans ((hb.mono (by omega)).trans (ht8.below (by omega) (fun i hi => by subst hi; omega))))⟩
            case rest =>
              obtain ⟨g8, u, rfl, rfl, K8, EU, HNew, HX⟩ := hcut
              generalize wc = wx at *
              clear HCl Hcj
              have HPx := Lib.hid (HP.out.ext HX.out)
              replace HB := Lib.hid (HB.out.trans (HX.out.mono HB.out.size))
              replace HG := Lib.hid (HG.out.below HX.out)
              replace HQ := Lib.hid (HQ.out.ext HX.out)
              obtain ⟨PU, hPU⟩ : ∃ P, psv N u = P := ⟨_, rfl⟩
              have sPU : PU.size = 2 := by rw [← hPU]; rfl
              have oPU : PU.all (·.oneCell') = true := by rw [← hPU]; exact psv_one EU.out
              rw [hPU] at K8
              go_wp2_with (first
                | (refine wpList_load_agg rfl PS (.tmp 8) rfl g8 0 PU (by rfl) agg_PS K8.out.at sPU ?_)
                | (refine wpList_store_agg rfl PS (.tmp 3) (.tmp 60) rfl g3 PU _ PS (by rfl) (by rfl) agg_PS HPx.out.k3 sPU rfl oPU ?_; intro w9 hk9 ht9 hs9))
              have hgB := HP.out.gB
              have hBw := HP.out.Bw
              have hNg : ∀ x, u.ownBlock = some x → ¬ x = g3 := fun x hx e => by have := HNew.out x hx; omega
              have EU9 := Lib.hid (EU.out.turnP ht9 hNg)
              have hk9b : Blk w9 g3 PS (psv N u) := by rw [hPU]; exact hk9
              have eo9 := own_turn HPx.out.eo ht9 (fun k hk2 e => by have := (HPx.out.eo.lt k hk2).1; omega)
              obtain ⟨A, v1, x1, v2, x2, hA, h1, hb1, h2, hb2, hb12, ho2⟩ := udel (w := w9.drew) eo9 rfl hidl2.out hjn (by omega)
              rw [Hj1.out] at hA h2 ho2
              rw [← HI2.out] at ho2
              have hbx : Ext w9 x2 := (Ext.drew w9).trans hb12
              have hus : ∀ k, u.ownBlock = some k → (Value.slice a4 N c4).ownBlock = some k → False := fun k e1 e2 => by have := HNew.out k e1; have := own_blk HP.out.es e2; omega
              have HP2 := Lib.hid (HPx.out.del ht9 hk9b EU9.out (fun k e => by have := HNew.out k e; omega) hus hbx ho2)
              have hb9 : Below w.heap.size wx w9 := ht9.below HB.out.size (fun i hi => by subst hi; exact Hg3.out)
              replace HB := Lib.hid ((HB.out.trans hb9).trans (Below.mono hbx (Nat.le_trans HB.out.size hb9.size)))
              replace HG := Lib.hid (HGw.out.below HB.out)
              replace HQ := Lib.hid (HQw.out.ext HB.out)
              have Hb1 := Lib.hid hb1
              have Hb2 := Lib.hid hb2
              obtain ⟨a5, c5', hv2, _⟩ := own_u64 ho2
              rw [ids_len, HLn2.out] at hv2
              have HV2 := Lib.hid hv2
              clear hk9 ht9 hs9 hNg EU9 hk9b eo9 hb12 ho2 hbx hus hb9 hgB hBw hPU HPx K8 EU HNew HX HP hv2
              go_wp2_with fail
              obtain ⟨B6, hB6⟩ : ∃ B6, w9.heap.size = B6 := ⟨_, rfl⟩
              refine wp_region_gt (F := fun i => B6 ≤ i) [(1, true), (2, true), (3, true), (5, true), (6, true), (7, true), (8, true), (0, false), (4, false), (9, false), (10, true)] (by kernel_rfl) (by kernel_rfl) (by kernel_rfl) (by kernel_rfl) (fun _ _ _ _ _ h => h) ?_
              have hBd : w9.drew.heap.size = B6 := hB6
              generalize w9.drew = ud at *
              rw [hBd] at Hb1 Hb2 h1
              iterate 7 (refine wpGt_read (o := ⟨_, _, _, _, _, _⟩) (v := ?_) rfl (by rfl) ?_ ?_; rotate_left; (intro w' hw'; go_simp; with_reducible rfl); simp only [Act.put, List.setIfInBounds_toArray, List.set_cons_zero, List.set_cons_succ])
              refine wpGt_call (o := ⟨_, _, _, _, _, _⟩) rfl (by rfl) (fun K hK => ?_)
              try go_simp
              refine hK _ _ ((Turn.refl _ _).alloc _) ?_
              clear hK K
              try simp only [Act.put, List.setIfInBounds_toArray, List.set_cons_zero, List.set_cons_succ]
              refine wpGt_call (o := ⟨_, _, _, _, _, _⟩) rfl (by rfl) (fun K hK => ?_)
              refine wp_app_run (.tmp 61) (.tmp 64) SUT rfl (by rfl) (by rfl) h1 ?_
              refine hK _ _ (turn_from Hb1.out) ?_
              clear hK K
              simp only [Act.put, List.setIfInBounds_toArray, List.set_cons_zero, List.set_cons_succ]
              refine wpGt_call (o := ⟨_, _, _, _, _, _⟩) rfl (by rfl) (fun K hK => ?_)
              refine wp_app_run (.tmp 65) (.tmp 69) SUT rfl (by rfl) (by rfl) h2 ?_
              refine hK _ _ (turn_from Hb2.out) ?_
              clear hK K
              simp only [Act.put, List.setIfInBounds_toArray, List.set_cons_zero, List.set_cons_succ]
              (refine wpGt_read (o := ⟨_, _, _, _, _, _⟩) (v := ?_) rfl (by rfl) ?_ ?_; rotate_left; (intro w' hw'; go_simp; with_reducible rfl); simp only [Act.put, List.setIfInBounds_toArray, List.set_cons_zero, List.set_cons_succ])
              refine wpGt_done ?_
              obtain rfl := HV2.out
              clear h1 h2 Hb1 Hb2 hA hB6 hBd HM HLn
              have HM := HM2
              have HLn := HLn2
              have HP := HP2
              have hNk1 : N ≤ k + 1 := by omega
              obtain ⟨n', hn'⟩ : ∃ n', n - 1 = n' := ⟨_, rfl⟩
              rw [hn'] at HLn HP ⊢
              clear HM2 HLn2 HP2 d0 n0 n1 ej ijn jc j1c j1n hidl2
              obtain ⟨yw0, hu0⟩ : ∃ z, z = x2 := ⟨_, rfl⟩
              subst hu0
              obtain ⟨av, cv, hav, hpv, _⟩ := HP.out.ep
              rw [HLn.out] at hav
              subst hav
              have hmy := (pmayB_iff L2 N).2 HM.out
              have CHe := Lib.hid (fun w h => held_any (.slice av n' cv) L2 N w h)
              have CCk := Lib.hid (fun w h => check_any (.slice av n' cv) L2 N w h)
              rw [show hdR L2 N = heldR L2 by unfold hdR; rw [if_pos hmy]] at CHe
              rw [show mayE L2 N = 0 by unfold mayE; rw [if_pos hmy], errC_0] at CCk
              obtain ⟨HR, hHR⟩ : ∃ F, heldR L2 = F := ⟨_, rfl⟩
              have hHR2 : ∀ q, L2.any (fun p => p.pg q) = HR q := fun q => by rw [← hHR]; rfl
              rw [hHR] at CHe
              have HHR := Lib.hid hHR2
              have CHR := Lib.hid (fun q w => has_any HR q w)
              clear hHR hHR2 hmy hpv
              have z1 := HP.out.k3.ps1
              obtain ⟨PP, hPP⟩ : ∃ P, psv N (.slice av n' cv) = P := ⟨_, rfl⟩
              have sPP : PP.size = 2 := by rw [← hPP]; rfl
              rw [hPP] at CHe CCk
              have K3 : Hid (Blk yw0 g3 PS PP) := by rw [← hPP]; exact HP.out.k3
              have HPP := Lib.hid hPP
              clear z1 hPP
              go_wp2_with (refine wpList_load_agg rfl PS (.tmp 3) rfl g3 0 PP (by rfl) agg_PS K3.out.at sPP ?_)
              refine (CHe.out yw0 HP.out.ep).mono ?_
              rintro e yw1 ⟨rfl, hb⟩
              replace HP := Lib.hid (HP.out.ext hb)
              replace HB := Lib.hid (HB.out.trans (Below.mono hb HB.out.size))
              replace HG := Lib.hid (HG.out.below hb)
              replace HQ := Lib.hid (HQ.out.ext hb)
              clear hb K3 CHe
              go_wp2_with (first
                | (refine wpList_alloc_arr rfl TS rfl arrz_TS ?_; intro g14 wa14 hg14 hk14 hb14)
                | (refine wpList_store_agg rfl TS (.tmp 14) (.tmp 121) rfl g14 (sc HR) _ TS (by rfl) (by rfl) agg_TS hk14 (sc_size _) (sc_size _) (sc_one _) ?_; intro yw2 hj14 ht14 hs14))
              have hb : Ext yw1 yw2 := hb14.trans (ht14.below hb14.size (fun i hi => by subst hi; exact hg14))
              replace HP := Lib.hid (HP.out.ext hb)
              replace HB := Lib.hid (HB.out.trans (Below.mono hb HB.out.size))
              replace HG := Lib.hid (HG.out.below hb)
              replace HQ := Lib.hid (HQ.out.ext hb)
              have K14 := Lib.hid hj14
              clear hb hg14 hk14 hb14 hj14 ht14 hs14
              go_loopw [15] (fun t15 wr => ∃ q : Nat, t15 = .int .i64 q ∧ q ≤ 256 ∧ Hid (Below yw2.heap.size yw2 wr)) (fun t15 _ => 256 - (intOf t15).toNat)
              case atStart => exact ⟨0, rfl, by omega, Below.refl _ _⟩
              case round =>
                obtain ⟨q, rfl, hq, hE⟩ := hrel
                obtain ⟨ywz, hz⟩ : ∃ z, z = wr := ⟨_, rfl⟩
                subst hz
                have HPz := Lib.hid (HP.out.ext hE.out)
                have Kz := Lib.hid (K14.out.ext hE.out)
                by_cases hlt : q < 256
                · have i256 : (q : Int) < 256 := by omega
                  go_wp2_with fail
                  go_loopw [16, 17] (fun t16 t17 wr => ∃ (s : Bool) (r : Nat), t16 = .bool s ∧ t17 = .int .i64 r ∧ r ≤ n' ∧ Hid ((L2.take r).any (fun p => p.pg q) = s) ∧ Hid (Below ywz.heap.size ywz wr)) (fun _ t17 _ => n' - (intOf t17).toNat)
                  case atStart => exact ⟨false, 0, rfl, rfl, by omega, by show _ = _; rw [List.take_zero]; rfl, Below.refl _ _⟩
                  case round =>
                    obtain ⟨s, r, rfl, rfl, hr, hS, hE2⟩ := hrel
                    have HPi := Lib.hid (HPz.out.ext hE2.out)
                    have z1 := HPi.out.k3.ps1
                    by_cases hltr : r < n'
                    · have i3 : (r : Int) < (n' : Int) := by omega
                      have hst : (L2.take (r + 1)).any (fun p => p.pg q) = (s || (pn L2 r).pg q) := by
                        rw [pn_take L2 r (by rw [HLn.out]; exact hltr), List.any_append, hS.out]; simp
                      cases s with
                      | true =>
                        have HS2 : Hid ((L2.take (r + 1)).any (fun p => p.pg q) = true) := by show _ = _; rw [hst]; rfl
                        clear hst hS
                        go_wp2
                        go_roundw
                        case rel => exact ⟨true, r + 1, rfl, by go_num, by omega, HS2, hE2⟩
                        case measure => simp [intOf]; omega
                      | false =>
                        obtain ⟨ai, ci, hai, hsi, _⟩ := HPi.out.ep
                        rw [HLn.out] at hai
                        cases hai
                        obtain ⟨gi, oi, rfl, hci⟩ := hsi.pin (by rw [HLn.out]; omega)
                        have Hc := Lib.hid (hci r (by rw [HLn.out]; exact hltr)).pages
                        have HS2 : Hid ((L2.take (r + 1)).any (fun p => p.pg q) = (pn L2 r).pg q) := by show _ = _; rw [hst]; rfl
                        have ein : inB (pn L2 r).pg (q : Int) = (pn L2 r).pg q := by unfold inB; rw [decide_eq_true (show (0 : Int) ≤ (q : Int) by omega), decide_eq_true (show (q : Int) < 1024 by omega)]; rfl
                        have CI := Lib.hid (fun w => has_any (pn L2 r).pg (q : Int) w)
                        rw [ein] at CI
                        generalize (pn L2 r).pg = F at *
                        clear hst hS hci hsi ein
                        go_wp2_with (refine wpList_load_agg_when (by rfl) TS (.tmp 139) rfl gi (oi + r * 18 + 2) (sc F) (by rfl) agg_TS Hc.out (sc_size _) ?_)
                        refine (CI.out wr).mono ?_
                        rintro e yw5 ⟨rfl, hb⟩
                        have hE3 : Hid (Below ywz.heap.size ywz yw5) := hE2.out.trans (Below.mono hb hE2.out.size)
                        clear hb CI Hc z1 hE2 HPi
                        go_wp2
                        go_roundw
                        case rel => exact ⟨F q, r + 1, rfl, by go_num, by omega, HS2, hE3⟩
                        case measure => simp [intOf]; omega
                    · obtain rfl : r = n' := by omega
                      have hs2 : s = HR q := by rw [← hS.out, List.take_of_length_le (by rw [HLn.out]; exact Nat.le_refl _), HHR.out]
                      have ein : inB HR (q : Int) = s := by unfold inB; rw [decide_eq_true (show (0 : Int) ≤ (q : Int) by omega), decide_eq_true (show (q : Int) < 1024 by omega), hs2]; rfl
                      have CI := Lib.hid (fun w => CHR.out (q : Int) w)
                      rw [ein] at CI
                      have Ki := Lib.hid (Kz.out.ext hE2.out)
                      clear hs2 ein hS
                      go_wp2_with (refine wpList_load_agg rfl TS (.tmp 14) rfl g14 0 (sc HR) (by rfl) agg_TS Ki.out.at (sc_size _) ?_)
                      refine (CI.out wr).mono ?_
                      rintro e yw5 ⟨rfl, hb⟩
                      have hE3 : Hid (Below yw2.heap.size yw2 yw5) := (hE.out.trans (Below.mono hE2.out hE.out.size)).trans (Below.mono hb (by have := hE.out.size; have := hE2.out.size; omega))
                      clear hb CI z1 hE2 HPi Ki
                      go_wp2
                      go_roundw
                      case rel => exact ⟨q + 1, by go_num, by omega, hE3⟩
                      case measure => simp [intOf]; omega
                · obtain rfl : q = 256 := by omega
                  have z1 := HPz.out.k3.ps1
                  have K3 : Hid (Blk ywz g3 PS PP) := by rw [← HPP.out]; exact HPz.out.k3
                  go_wp2_with (refine wpList_load_agg_when (by rfl) PS (.tmp 3) rfl g3 0 PP (by rfl) agg_PS K3.out.at sPP ?_)
                  refine (CCk.out ywz HPz.out.ep).mono ?_
                  rintro e yw6 ⟨rfl, hb⟩
                  have hEb : Ext yw2 yw6 := hE.out.trans (Below.mono hb hE.out.size)
                  have HP9 := Lib.hid (HPz.out.ext hb)
                  have HB9 := Lib.hid (HB.out.trans (Below.mono hEb HB.out.size))
                  have HG9 := Lib.hid (HG.out.below hEb)
                  have HQ9 := Lib.hid (HQ.out.ext hEb)
                  clear hb hEb z1 K3 HPz Kz HP HB HG HQ
                  go_wp2
                  go_roundw
                  case rel => exact ⟨k + 1, N, n', c4, c5', a4, a5, _, L2, by go_num, rfl, rfl, by omega, by omega, hNk1, HLn.out, HM.out, HP9.out, HB9.out, HG9.out, HQ9.out⟩
                  case measure => simp [intOf]; omega
          | false =>
            clear hD eR
            have wy : IntKind.i64.wrap (y : Int) = (y : Int) := by rw [IntKind.wrap_i64]; omega
            have wyu : IntKind.u64.wrap (y : Int) = (y : Int) := by rw [IntKind.wrap_u64]; omega
            have CW := Lib.hid (fun w => with_any (fun _ => false) (y : Int) w)
            obtain ⟨F1, hF1⟩ : ∃ F : Nat → Bool, withR (fun _ => false) (y : Int) = F := ⟨_, rfl⟩
            rw [hF1] at CW
            have hmy := (pmayB_iff L N).2 HM.out
            have hN62 : N < 4611686018427387904 := by omega
            clear hF1
            by_cases h8n : n = 8
            · have d8 : decide ((n : Int) < 8) = false := decide_eq_false (by omega)
              have HOp := Lib.hid (fun w h => open_full v L N y F1 w h hmy (.inl (by rw [HLn.out]; exact h8n)))
              rw [errC_7] at HOp
              clear hmy hN62 h8n
              go_upto_region 13 with fail
              go_cut [10, 11, 12] (fun s10 s11 s12 wx => ∃ g10 : Nat, s10 = .pointer (some ⟨g10, 0, none⟩) ∧ s11 = .int .u64 0 ∧ s12 = .iface 67 (.int .i64 7) ∧ Hid (Below wr.heap.size wr wx))
              case first => as_aux_lemma =>
                obtain ⟨B5, hB5⟩ : ∃ B5, wr.heap.size = B5 := ⟨_, rfl⟩
                refine wp_region_gs (F := fun i => B5 ≤ i) (.rd 0 (.rd 1 (.rd 2 (.rd 3 (.rd 4 (.rd 5 (.rd 6 (.rd 7 (.rd 8 (.rd 9 (.rd 10 (.rd 11 (.rd 12 (.rd 13 (.two 14 (.two 15 (.rd 16 (.rd 17 (.rd 18 (.rd 19 (.call 20 (.call 21 (.rd 22 (.rd 23 .done)))))))) 20 (.call 15 (.rd 16 (.rd 17 (.rd 18 (.rd 19 (.call 21 (.rd 22 (.rd 23 .done))))))))) 20 (.call 14 (.call 15 (.rd 16 (.rd 17 (.rd 18 (.rd 19 (.call 21 (.rd 22 (.rd 23 .done)))))))))))))))))))))))) (by kernel_rfl) (by kernel_rfl) (by kernel_rfl) (by kernel_rfl) (fun _ _ _ _ _ h => h) ?_
                have HX : Hid (Below wr.heap.size wr wr.drew) := (Below.refl _ _).drew
                have HPd := Lib.hid (HP.out.ext (Ext.drew _))
                have hq1 : wr.drew.cell? ⟨g, o + k * 2 + 1, none⟩ = some (.int .u8 (y : Int)) := q1
                have hBd : wr.drew.heap.size = B5 := hB5
                generalize wr.drew = ud at *
                have hg3 : ¬ B5 ≤ g3 := by have := HPd.out.k3.lt; omega
                have hg5 : ¬ B5 ≤ g := by have : g < ud.heap.size := block_lt_of_cell hq1; omega
                have r4 : ∀ w', Turn (fun i => B5 ≤ i) ud w' → w'.cell? ⟨g, o + k * 2 + 1, none⟩ = some (.int .u8 (y : Int)) := fun w' ht => by rw [ht.cell (p := ⟨g, o + k * 2 + 1, none⟩) (block_lt_of_cell hq1) hg5]; exact hq1
                refine wpGs_read (o := ⟨_, _, _, _, _, _⟩) (v := .agg (psv N v)) rfl (by rfl) (fun w' hw' => rd_load_agg PS (.tmp 3) rfl g3 0 (psv N v) (by rfl) agg_PS (HPd.out.k3.turn hw' hg3).at rfl) ?_
                simp only [Act.put, List.setIfInBounds_toArray, List.set_cons_zero, List.set_cons_succ]
                iterate 6 (refine wpGs_read (o := ⟨_, _, _, _, _, _⟩) (v := ?_) rfl (by rfl) ?_ ?_; rotate_left; (intro w' hw'; go_simp; with_reducible rfl); simp only [Act.put, List.setIfInBounds_toArray, List.set_cons_zero, List.set_cons_succ])
                refine wpGs_read (o := ⟨_, _, _, _, _, _⟩) (v := .agg (sc (fun _ => false))) rfl (by rfl) (fun w' hw' => rd_build_set0 rfl) ?_
                simp only [Act.put, List.setIfInBounds_toArray, List.set_cons_zero, List.set_cons_succ]
                iterate 6 (refine wpGs_read (o := ⟨_, _, _, _, _, _⟩) (v := ?_) rfl (by rfl) ?_ ?_; rotate_left; (intro w' hw'; go_simp; with_reducible rfl); simp only [Act.put, List.setIfInBounds_toArray, List.set_cons_zero, List.set_cons_succ])
                clear r4 hq1 hg3 hg5
                refine ⟨?_, ?_⟩
                · skip
                  refine stepS_call (o := ⟨_, _, _, _, _, _⟩) rfl (by rfl) (fun K hK => ?_)
                  try go_simp
                  refine (CW.out ud).mono ?_
                  rintro e xw1 ⟨rfl, hb⟩
                  refine hK _ _ (Turn.ofBelow hb) ?_
                  clear hK K
                  try simp only [Act.put, List.setIfInBounds_toArray, List.set_cons_zero, List.set_cons_succ]
                  replace HX := Lib.hid (HX.out.trans (Below.mono hb HX.out.size))
                  replace HPd := Lib.hid (HPd.out.ext hb)
                  clear hb
                  refine ⟨?_, ?_⟩
                  · skip
                    refine stepS_call (o := ⟨_, _, _, _, _, _⟩) rfl (by rfl) (fun K hK => ?_)
                    try go_simp
                    refine (HOp.out xw1 HPd.out.ep).mono ?_
                    rintro e xw2 ⟨rfl, hb⟩
                    refine hK _ _ (Turn.ofBelow hb) ?_
                    clear hK K
                    try simp only [Act.put, List.setIfInBounds_toArray, List.set_cons_zero, List.set_cons_succ]
                    replace HX := Lib.hid (HX.out.trans (Below.mono hb HX.out.size))
                    replace HPd := Lib.hid (HPd.out.ext hb)
                    clear hb
                    iterate 4 (refine wpGs_read (o := ⟨_, _, _, _, _, _⟩) (v := ?_) rfl (by rfl) ?_ ?_; rotate_left; (intro w' hw'; go_simp; with_reducible rfl); simp only [Act.put, List.setIfInBounds_toArray, List.set_cons_zero, List.set_cons_succ])
                    refine stepS_call (o := ⟨_, _, _, _, _, _⟩) rfl (by rfl) (fun K hK => ?_)
                    refine wp_alloc_arr PS rfl arrz_PS ?_
                    intro g10 xw3 hg hk hb
                    refine hK _ _ (Turn.ofBelow hb) ?_
                    clear hK K
                    simp only [Act.put, List.setIfInBounds_toArray, List.set_cons_zero, List.set_cons_succ]
                    have HG10 : Hid (wr.heap.size ≤ g10) := Nat.le_trans HX.out.size hg
                    clear hg
                    replace HX := Lib.hid (HX.out.trans (Below.mono hb HX.out.size))
                    replace HPd := Lib.hid (HPd.out.ext hb)
                    clear hb
                    refine stepS_call (o := ⟨_, _, _, _, _, _⟩) rfl (by rfl) (fun K hK => ?_)
                    refine wp_store_agg PS (.tmp 10) (.tmp 88) rfl g10 (psv 0 pnil) _ PS (by rfl) (by rfl) agg_PS hk rfl rfl (psv_one (EV.none wr)) (fun w8 hk8 ht8 hs8 => ?_)
                    refine hK _ _ (ht8.mono (fun i hi _ => by subst hi; have := HG10.out; omega)) ?_
                    clear hK K
                    simp only [Act.put]
                    iterate 2 (refine wpGs_read (o := ⟨_, _, _, _, _, _⟩) (v := ?_) rfl (by rfl) ?_ ?_; rotate_left; (intro w' hw'; go_simp; with_reducible rfl); simp only [Act.put, List.setIfInBounds_toArray, List.set_cons_zero, List.set_cons_succ])
                    refine wpGs_done ?_
                    go_wp2
                    go_meet
                    exact ⟨g10, rfl, rfl, rfl, HX.out.trans (ht8.below HX.out.size (fun i hi => by subst hi; exact HG10.out))⟩
                  · skip
                    refine stepS_call (o := ⟨_, _, _, _, _, _⟩) rfl (by rfl) (fun K hK => ?_)
                    refine wp_alloc_arr PS rfl arrz_PS ?_
                    intro g10 xw5 hg hk hb
                    refine hK _ _ (Turn.ofBelow hb) ?_
                    clear hK K
                    simp only [Act.put, List.setIfInBounds_toArray, List.set_cons_zero, List.set_cons_succ]
                    have HG10 : Hid (wr.heap.size ≤ g10) := Nat.le_trans HX.out.size hg
                    clear hg
                    replace HX := Lib.hid (HX.out.trans (Below.mono hb HX.out.size))
                    replace HPd := Lib.hid (HPd.out.ext hb)
                    clear hb
                    refine stepS_call (o := ⟨_, _, _, _, _, _⟩) rfl (by rfl) (fun K hK => ?_)
                    try go_simp
                    refine (HOp.out xw5 HPd.out.ep).mono ?_
                    rintro e xw6 ⟨rfl, hb⟩
                    refine hK _ _ (Turn.ofBelow hb) ?_
                    clear hK K
                    try simp only [Act.put, List.setIfInBounds_toArray, List.set_cons_zero, List.set_cons_succ]
                    replace HX := Lib.hid (HX.out.trans (Below.mono hb HX.out.size))
                    replace HPd := Lib.hid (HPd.out.ext hb)
                    replace hk := hk.ext hb
                    clear hb
                    iterate 4 (refine wpGs_read (o := ⟨_, _, _, _, _, _⟩) (v := ?_) rfl (by rfl) ?_ ?_; rotate_left; (intro w' hw'; go_simp; with_reducible rfl); simp only [Act.put, List.setIfInBounds_toArray, List.set_cons_zero, List.set_cons_succ])
                    refine stepS_call (o := ⟨_, _, _, _, _, _⟩) rfl (by rfl) (fun K hK => ?_)
                    refine wp_store_agg PS (.tmp 10) (.tmp 88) rfl g10 (psv 0 pnil) _ PS (by rfl) (by rfl) agg_PS hk rfl rfl (psv_one (EV.none wr)) (fun w8 hk8 ht8 hs8 => ?_)
                    refine hK _ _ (ht8.mono (fun i hi _ => by subst hi; have := HG10.out; omega)) ?_
                    clear hK K
                    simp only [Act.put]
                    iterate 2 (refine wpGs_read (o := ⟨_, _, _, _, _, _⟩) (v := ?_) rfl (by rfl) ?_ ?_; rotate_left; (intro w' hw'; go_simp; with_reducible rfl); simp only [Act.put, List.setIfInBounds_toArray, List.set_cons_zero, List.set_cons_succ])
                    refine wpGs_done ?_
                    go_wp2
                    go_meet
                    exact ⟨g10, rfl, rfl, rfl, HX.out.trans (ht8.below HX.out.size (fun i hi => by subst hi; exact HG10.out))⟩
                · skip
                  refine stepS_call (o := ⟨_, _, _, _, _, _⟩) rfl (by rfl) (fun K hK => ?_)
                  refine wp_alloc_arr PS rfl arrz_PS ?_
                  intro g10 xw8 hg hk hb
                  refine hK _ _ (Turn.ofBelow hb) ?_
                  clear hK K
                  simp only [Act.put, List.setIfInBounds_toArray, List.set_cons_zero, List.set_cons_succ]
                  have HG10 : Hid (wr.heap.size ≤ g10) := Nat.le_trans HX.out.size hg
                  clear hg
                  replace HX := Lib.hid (HX.out.trans (Below.mono hb HX.out.size))
                  replace HPd := Lib.hid (HPd.out.ext hb)
                  clear hb
                  refine stepS_call (o := ⟨_, _, _, _, _, _⟩) rfl (by rfl) (fun K hK => ?_)
                  try go_simp
                  refine (CW.out xw8).mono ?_
                  rintro e xw9 ⟨rfl, hb⟩
                  refine hK _ _ (Turn.ofBelow hb) ?_
                  clear hK K
                  try simp only [Act.put, List.setIfInBounds_toArray, List.set_cons_zero, List.set_cons_succ]
                  replace HX := Lib.hid (HX.out.trans (Below.mono hb HX.out.size))
                  replace HPd := Lib.hid (HPd.out.ext hb)
                  replace hk := hk.ext hb
                  clear hb
                  refine stepS_call (o := ⟨_, _, _, _, _, _⟩) rfl (by rfl) (fun K hK => ?_)
                  try go_simp
                  refine (HOp.out xw9 HPd.out.ep).mono ?_
                  rintro e xw10 ⟨rfl, hb⟩
                  refine hK _ _ (Turn.ofBelow hb) ?_
                  clear hK K
                  try simp only [Act.put, List.setIfInBounds_toArray, List.set_cons_zero, List.set_cons_succ]
                  replace HX := Lib.hid (HX.out.trans (Below.mono hb HX.out.size))
                  replace HPd := Lib.hid (HPd.out.ext hb)
                  replace hk := hk.ext hb
                  clear hb
                  iterate 4 (refine wpGs_read (o := ⟨_, _, _, _, _, _⟩) (v := ?_) rfl (by rfl) ?_ ?_; rotate_left; (intro w' hw'; go_simp; with_reducible rfl); simp only [Act.put, List.setIfInBounds_toArray, List.set_cons_zero, List.set_cons_succ])
                  refine stepS_call (o := ⟨_, _, _, _, _, _⟩) rfl (by rfl) (fun K hK => ?_)
                  refine wp_store_agg PS (.tmp 10) (.tmp 88) rfl g10 (psv 0 pnil) _ PS (by rfl) (by rfl) agg_PS hk rfl rfl (psv_one (EV.none wr)) (fun w8 hk8 ht8 hs8 => ?_)
                  refine hK _ _ (ht8.mono (fun i hi _ => by subst hi; have := HG10.out; omega)) ?_
                  clear hK K
                  simp only [Act.put]
                  iterate 2 (refine wpGs_read (o := ⟨_, _, _, _, _, _⟩) (v := ?_) rfl (by rfl) ?_ ?_; rotate_left; (intro w' hw'; go_simp; with_reducible rfl); simp only [Act.put, List.setIfInBounds_toArray, List.set_cons_zero, List.set_cons_succ])
                  refine wpGs_done ?_
                  go_wp2
                  go_meet
                  exact ⟨g10, rfl, rfl, rfl, HX.out.trans (ht8.below HX.out.size (fun i hi => by subst hi; exact HG10.out))⟩
              case rest =>
                obtain ⟨g10, rfl, rfl, rfl, HX⟩ := hcut
                generalize wc = yw0 at *
                replace HP := Lib.hid (HP.out.ext HX.out)
                replace HB := Lib.hid (HB.out.trans (HX.out.mono HB.out.size))
                replace HG := Lib.hid (HGw.out.below HB.out)
                replace HQ := Lib.hid (HQw.out.ext HB.out)
                have hNk1 : N ≤ k + 1 := by omega
                clear HX HOp CW q0 q1 wy wyu
                obtain ⟨av, cv, hav, hpv, _⟩ := HP.out.ep
                rw [HLn.out] at hav
                subst hav
                have hmy := (pmayB_iff L N).2 HM.out
                have CHe := Lib.hid (fun w h => held_any (.slice av n cv) L N w h)
                have CCk := Lib.hid (fun w h => check_any (.slice av n cv) L N w h)
                rw [show hdR L N = heldR L by unfold hdR; rw [if_pos hmy]] at CHe
                rw [show mayE L N = 0 by unfold mayE; rw [if_pos hmy], errC_0] at CCk
                obtain ⟨HR, hHR⟩ : ∃ F, heldR L = F := ⟨_, rfl⟩
                have hHR2 : ∀ q, L.any (fun p => p.pg q) = HR q := fun q => by rw [← hHR]; rfl
                rw [hHR] at CHe
                have HHR := Lib.hid hHR2
                have CHR := Lib.hid (fun q w => has_any HR q w)
                clear hHR hHR2 hmy hpv
                have z1 := HP.out.k3.ps1
                obtain ⟨PP, hPP⟩ : ∃ P, psv N (.slice av n cv) = P := ⟨_, rfl⟩
                have sPP : PP.size = 2 := by rw [← hPP]; rfl
                rw [hPP] at CHe CCk
                have K3 : Hid (Blk yw0 g3 PS PP) := by rw [← hPP]; exact HP.out.k3
                have HPP := Lib.hid hPP
                clear z1 hPP
                go_wp2_with (refine wpList_load_agg rfl PS (.tmp 3) rfl g3 0 PP (by rfl) agg_PS K3.out.at sPP ?_)
                refine (CHe.out yw0 HP.out.ep).mono ?_
                rintro e yw1 ⟨rfl, hb⟩
                replace HP := Lib.hid (HP.out.ext hb)
                replace HB := Lib.hid (HB.out.trans (Below.mono hb HB.out.size))
                replace HG := Lib.hid (HG.out.below hb)
                replace HQ := Lib.hid (HQ.out.ext hb)
                clear hb K3 CHe
                go_wp2_with (first
                  | (refine wpList_alloc_arr rfl TS rfl arrz_TS ?_; intro g14 wa14 hg14 hk14 hb14)
                  | (refine wpList_store_agg rfl TS (.tmp 14) (.tmp 121) rfl g14 (sc HR) _ TS (by rfl) (by rfl) agg_TS hk14 (sc_size _) (sc_size _) (sc_one _) ?_; intro yw2 hj14 ht14 hs14))
                have hb : Ext yw1 yw2 := hb14.trans (ht14.below hb14.size (fun i hi => by subst hi; exact hg14))
                replace HP := Lib.hid (HP.out.ext hb)
                replace HB := Lib.hid (HB.out.trans (Below.mono hb HB.out.size))
                replace HG := Lib.hid (HG.out.below hb)
                replace HQ := Lib.hid (HQ.out.ext hb)
                have K14 := Lib.hid hj14
                clear hb hg14 hk14 hb14 hj14 ht14 hs14
                go_loopw [15] (fun t15 wr => ∃ q : Nat, t15 = .int .i64 q ∧ q ≤ 256 ∧ Hid (Below yw2.heap.size yw2 wr)) (fun t15 _ => 256 - (intOf t15).toNat)
                case atStart => exact ⟨0, rfl, by omega, Below.refl _ _⟩
                case round =>
                  obtain ⟨q, rfl, hq, hE⟩ := hrel
                  obtain ⟨ywz, hz⟩ : ∃ z, z = wr := ⟨_, rfl⟩
                  subst hz
                  have HPz := Lib.hid (HP.out.ext hE.out)
                  have Kz := Lib.hid (K14.out.ext hE.out)
                  by_cases hlt : q < 256
                  · have i256 : (q : Int) < 256 := by omega
                    go_wp2_with fail
                    go_loopw [16, 17] (fun t16 t17 wr => ∃ (s : Bool) (r : Nat), t16 = .bool s ∧ t17 = .int .i64 r ∧ r ≤ n ∧ Hid ((L.take r).any (fun p => p.pg q) = s) ∧ Hid (Below ywz.heap.size ywz wr)) (fun _ t17 _ => n - (intOf t17).toNat)
                    case atStart => exact ⟨false, 0, rfl, rfl, by omega, by show _ = _; rw [List.take_zero]; rfl, Below.refl _ _⟩
                    case round =>
                      obtain ⟨s, r, rfl, rfl, hr, hS, hE2⟩ := hrel
                      have HPi := Lib.hid (HPz.out.ext hE2.out)
                      have z1 := HPi.out.k3.ps1
                      by_cases hltr : r < n
                      · have i3 : (r : Int) < (n : Int) := by omega
                        have hst : (L.take (r + 1)).any (fun p => p.pg q) = (s || (pn L r).pg q) := by
                          rw [pn_take L r (by rw [HLn.out]; exact hltr), List.any_append, hS.out]; simp
                        cases s with
                        | true =>
                          have HS2 : Hid ((L.take (r + 1)).any (fun p => p.pg q) = true) := by show _ = _; rw [hst]; rfl
                          clear hst hS
                          go_wp2
                          go_roundw
                          case rel => exact ⟨true, r + 1, rfl, by go_num, by omega, HS2, hE2⟩
                          case measure => simp [intOf]; omega
                        | false =>
                          obtain ⟨ai, ci, hai, hsi, _⟩ := HPi.out.ep
                          rw [HLn.out] at hai
                          cases hai
                          obtain ⟨gi, oi, rfl, hci⟩ := hsi.pin (by rw [HLn.out]; omega)
                          have Hc := Lib.hid (hci r (by rw [HLn.out]; exact hltr)).pages
                          have HS2 : Hid ((L.take (r + 1)).any (fun p => p.pg q) = (pn L r).pg q) := by show _ = _; rw [hst]; rfl
                          have ein : inB (pn L r).pg (q : Int) = (pn L r).pg q := by unfold inB; rw [decide_eq_true (show (0 : Int) ≤ (q : Int) by omega), decide_eq_true (show (q : Int) < 1024 by omega)]; rfl
                          have CI := Lib.hid (fun w => has_any (pn L r).pg (q : Int) w)
                          rw [ein] at CI
                          generalize (pn L r).pg = F at *
                          clear hst hS hci hsi ein
                          go_wp2_with (refine wpList_load_agg_when (by rfl) TS (.tmp 139) rfl gi (oi + r * 18 + 2) (sc F) (by rfl) agg_TS Hc.out (sc_size _) ?_)
                          refine (CI.out wr).mono ?_
                          rintro e yw5 ⟨rfl, hb⟩
                          have hE3 : Hid (Below ywz.heap.size ywz yw5) := hE2.out.trans (Below.mono hb hE2.out.size)
                          clear hb CI Hc z1 hE2 HPi
                          go_wp2
                          go_roundw
                          case rel => exact ⟨F q, r + 1, rfl, by go_num, by omega, HS2, hE3⟩
                          case measure => simp [intOf]; omega
                      · obtain rfl : r = n := by omega
                        have hs2 : s = HR q := by rw [← hS.out, List.take_of_length_le (by rw [HLn.out]; exact Nat.le_refl _), HHR.out]
                        have ein : inB HR (q : Int) = s := by unfold inB; rw [decide_eq_true (show (0 : Int) ≤ (q : Int) by omega), decide_eq_true (show (q : Int) < 1024 by omega), hs2]; rfl
                        have CI := Lib.hid (fun w => CHR.out (q : Int) w)
                        rw [ein] at CI
                        have Ki := Lib.hid (Kz.out.ext hE2.out)
                        clear hs2 ein hS
                        go_wp2_with (refine wpList_load_agg rfl TS (.tmp 14) rfl g14 0 (sc HR) (by rfl) agg_TS Ki.out.at (sc_size _) ?_)
                        refine (CI.out wr).mono ?_
                        rintro e yw5 ⟨rfl, hb⟩
                        have hE3 : Hid (Below yw2.heap.size yw2 yw5) := (hE.out.trans (Below.mono hE2.out hE.out.size)).trans (Below.mono hb (by have := hE.out.size; have := hE2.out.size; omega))
                        clear hb CI z1 hE2 HPi Ki
                        go_wp2
                        go_roundw
                        case rel => exact ⟨q + 1, by go_num, by omega, hE3⟩
                        case measure => simp [intOf]; omega
                  · obtain rfl : q = 256 := by omega
                    have z1 := HPz.out.k3.ps1
                    have K3 : Hid (Blk ywz g3 PS PP) := by rw [← HPP.out]; exact HPz.out.k3
                    go_wp2_with (refine wpList_load_agg_when (by rfl) PS (.tmp 3) rfl g3 0 PP (by rfl) agg_PS K3.out.at sPP ?_)
                    refine (CCk.out ywz HPz.out.ep).mono ?_
                    rintro e yw6 ⟨rfl, hb⟩
                    have hEb : Ext yw2 yw6 := hE.out.trans (Below.mono hb hE.out.size)
                    have HP9 := Lib.hid (HPz.out.ext hb)
                    have HB9 := Lib.hid (HB.out.trans (Below.mono hEb HB.out.size))
                    have HG9 := Lib.hid (HG.out.below hEb)
                    have HQ9 := Lib.hid (HQ.out.ext hEb)
                    clear hb hEb z1 K3 HPz Kz HP HB HG HQ
                    go_wp2
                    go_roundw
                    case rel => exact ⟨k + 1, N, n, c4, c5, a4, a5, _, L, by go_num, rfl, rfl, by omega, by omega, hNk1, HLn.out, HM.out, HP9.out, HB9.out, HG9.out, HQ9.out⟩
                    case measure => simp [intOf]; omega
            · have d8 : decide ((n : Int) < 8) = true := decide_eq_true (by omega)
              have hLl : L.length < 8 := by rw [HLn.out]; omega
              have HOp := Lib.hid (fun w h => open_new v L N y F1 w h hmy hLl hN62)
              rw [errC_0] at HOp
              obtain ⟨M, hM⟩ : ∃ M, N + 1 = M := ⟨_, rfl⟩
              obtain ⟨L2, hL2⟩ : ∃ X, L ++ [(⟨N + 1, y, F1⟩ : Pn)] = X := ⟨_, rfl⟩
              have HM2 : Hid (PMay L2 M) := by rw [← hL2, ← hM]; exact HM.out.put hLl hN62 y F1
              have HLn2 : Hid (L2.length = n + 1) := by show _ = _; rw [← hL2, List.length_append, HLn.out]; rfl
              have hid2 : ids L ++ [M] = ids L2 := by rw [← hL2, ids_app, hM]
              have hse2 : seenL N ++ [M] = seenL M := by rw [← hM, seen_app]
              rw [hL2, hM] at HOp
              have HI2 := Lib.hid hid2
              have HS2 := Lib.hid hse2
              have HMN := Lib.hid hM
              clear hmy hN62 hLl hL2 hid2 hse2 hM
              go_upto_region 13 with fail
              go_cut [10, 11, 12] (fun s10 s11 s12 wx => ∃ (g10 : Nat) (u : Value), s10 = .pointer (some ⟨g10, 0, none⟩) ∧ s11 = .int .u64 (M : Nat) ∧ s12 = .nilIface ∧ Hid (Blk wx g10 PS (psv M u)) ∧ Hid (EV pinE wx u L2) ∧ Hid (∀ x, u.ownBlock = some x → wr.heap.size ≤ x) ∧ Hid (wr.heap.size ≤ g10) ∧ Hid (Below wr.heap.size wr wx))
              case first => as_aux_lemma =>
                obtain ⟨B5, hB5⟩ : ∃ B5, wr.heap.size = B5 := ⟨_, rfl⟩
                refine wp_region_gs (F := fun i => B5 ≤ i) (.rd 0 (.rd 1 (.rd 2 (.rd 3 (.rd 4 (.rd 5 (.rd 6 (.rd 7 (.rd 8 (.rd 9 (.rd 10 (.rd 11 (.rd 12 (.rd 13 (.two 14 (.two 15 (.rd 16 (.rd 17 (.rd 18 (.rd 19 (.call 20 (.call 21 (.rd 22 (.rd 23 .done)))))))) 20 (.call 15 (.rd 16 (.rd 17 (.rd 18 (.rd 19 (.call 21 (.rd 22 (.rd 23 .done))))))))) 20 (.call 14 (.call 15 (.rd 16 (.rd 17 (.rd 18 (.rd 19 (.call 21 (.rd 22 (.rd 23 .done)))))))))))))))))))))))) (by kernel_rfl) (by kernel_rfl) (by kernel_rfl) (by kernel_rfl) (fun _ _ _ _ _ h => h) ?_
                have HX : Hid (Below wr.heap.size wr wr.drew) := (Below.refl _ _).drew
                have HPd := Lib.hid (HP.out.ext (Ext.drew _))
                have hq1 : wr.drew.cell? ⟨g, o + k * 2 + 1, none⟩ = some (.int .u8 (y : Int)) := q1
                have hBd : wr.drew.heap.size = B5 := hB5
                generalize wr.drew = ud at *
                have hg3 : ¬ B5 ≤ g3 := by have := HPd.out.k3.lt; omega
                have hg5 : ¬ B5 ≤ g := by have : g < ud.heap.size := block_lt_of_cell hq1; omega
                have r4 : ∀ w', Turn (fun i => B5 ≤ i) ud w' → w'.cell? ⟨g, o + k * 2 + 1, none⟩ = some (.int .u8 (y : Int)) := fun w' ht => by rw [ht.cell (p := ⟨g, o + k * 2 + 1, none⟩) (block_lt_of_cell hq1) hg5]; exact hq1
                refine wpGs_read (o := ⟨_, _, _, _, _, _⟩) (v := .agg (psv N v)) rfl (by rfl) (fun w' hw' => rd_load_agg PS (.tmp 3) rfl g3 0 (psv N v) (by rfl) agg_PS (HPd.out.k3.turn hw' hg3).at rfl) ?_
                simp only [Act.put, List.setIfInBounds_toArray, List.set_cons_zero, List.set_cons_succ]
                iterate 6 (refine wpGs_read (o := ⟨_, _, _, _, _, _⟩) (v := ?_) rfl (by rfl) ?_ ?_; rotate_left; (intro w' hw'; go_simp; with_reducible rfl); simp only [Act.put, List.setIfInBounds_toArray, List.set_cons_zero, List.set_cons_succ])
                refine wpGs_read (o := ⟨_, _, _, _, _, _⟩) (v := .agg (sc (fun _ => false))) rfl (by rfl) (fun w' hw' => rd_build_set0 rfl) ?_
                simp only [Act.put, List.setIfInBounds_toArray, List.set_cons_zero, List.set_cons_succ]
                iterate 6 (refine wpGs_read (o := ⟨_, _, _, _, _, _⟩) (v := ?_) rfl (by rfl) ?_ ?_; rotate_left; (intro w' hw'; go_simp; with_reducible rfl); simp only [Act.put, List.setIfInBounds_toArray, List.set_cons_zero, List.set_cons_succ])
                clear r4 hq1 hg3 hg5
                refine ⟨?_, ?_⟩
                · skip
                  refine stepS_call (o := ⟨_, _, _, _, _, _⟩) rfl (by rfl) (fun K hK => ?_)
                  try go_simp
                  refine (CW.out ud).mono ?_
                  rintro e xw1 ⟨rfl, hb⟩
                  refine hK _ _ (Turn.ofBelow hb) ?_
                  clear hK K
                  try simp only [Act.put, List.setIfInBounds_toArray, List.set_cons_zero, List.set_cons_succ]
                  replace HX := Lib.hid (HX.out.trans (Below.mono hb HX.out.size))
                  replace HPd := Lib.hid (HPd.out.ext hb)
                  clear hb
                  refine ⟨?_, ?_⟩
                  · skip
                    refine stepS_call (o := ⟨_, _, _, _, _, _⟩) rfl (by rfl) (fun K hK => ?_)
                    try go_simp
                    refine (HOp.out xw1 HPd.out.ep).mono ?_
                    rintro e xw2 ⟨u, rfl, hu, hnew, hb⟩
                    refine hK _ _ (Turn.ofBelow hb) ?_
                    clear hK K
                    try simp only [Act.put, List.setIfInBounds_toArray, List.set_cons_zero, List.set_cons_succ]
                    have HU := Lib.hid hu
                    have hnu : ∀ k, u.ownBlock = some k → wr.heap.size ≤ k := fun k h => Nat.le_trans HX.out.size (hnew k h)
                    have HNU := Lib.hid hnu
                    clear hu hnew hnu
                    replace HX := Lib.hid (HX.out.trans (Below.mono hb HX.out.size))
                    replace HPd := Lib.hid (HPd.out.ext hb)
                    clear hb
                    iterate 4 (refine wpGs_read (o := ⟨_, _, _, _, _, _⟩) (v := ?_) rfl (by rfl) ?_ ?_; rotate_left; (intro w' hw'; go_simp; with_reducible rfl); simp only [Act.put, List.setIfInBounds_toArray, List.set_cons_zero, List.set_cons_succ])
                    refine stepS_call (o := ⟨_, _, _, _, _, _⟩) rfl (by rfl) (fun K hK => ?_)
                    refine wp_alloc_arr PS rfl arrz_PS ?_
                    intro g10 xw3 hg hk hb
                    refine hK _ _ (Turn.ofBelow hb) ?_
                    clear hK K
                    simp only [Act.put, List.setIfInBounds_toArray, List.set_cons_zero, List.set_cons_succ]
                    have HG10 : Hid (wr.heap.size ≤ g10) := Nat.le_trans HX.out.size hg
                    have hne : ∀ k, u.ownBlock = some k → ¬ k = g10 := fun k h e => by have := HU.out.lt h; omega
                    have HNE := Lib.hid hne
                    clear hne
                    clear hg
                    replace HX := Lib.hid (HX.out.trans (Below.mono hb HX.out.size))
                    replace HPd := Lib.hid (HPd.out.ext hb)
                    replace HU := Lib.hid (HU.out.ext hb)
                    clear hb
                    refine stepS_call (o := ⟨_, _, _, _, _, _⟩) rfl (by rfl) (fun K hK => ?_)
                    refine wp_store_agg PS (.tmp 10) (.tmp 88) rfl g10 (psv M u) _ PS (by rfl) (by rfl) agg_PS hk rfl rfl (psv_one HU.out) (fun w8 hk8 ht8 hs8 => ?_)
                    refine hK _ _ (ht8.mono (fun i hi _ => by subst hi; have := HG10.out; omega)) ?_
                    clear hK K
                    simp only [Act.put]
                    iterate 2 (refine wpGs_read (o := ⟨_, _, _, _, _, _⟩) (v := ?_) rfl (by rfl) ?_ ?_; rotate_left; (intro w' hw'; go_simp; with_reducible rfl); simp only [Act.put, List.setIfInBounds_toArray, List.set_cons_zero, List.set_cons_succ])
                    refine wpGs_done ?_
                    go_wp2
                    go_meet
                    exact ⟨g10, u, rfl, rfl, rfl, hk8, HU.out.turnP ht8 HNE.out, HNU.out, HG10.out, HX.out.trans (ht8.below HX.out.size (fun i hi => by subst hi; exact HG10.out))⟩
                  · skip
                    refine stepS_call (o := ⟨_, _, _, _, _, _⟩) rfl (by rfl) (fun K hK => ?_)
                    refine wp_alloc_arr PS rfl arrz_PS ?_
                    intro g10 xw5 hg hk hb
                    refine hK _ _ (Turn.ofBelow hb) ?_
                    clear hK K
                    simp only [Act.put, List.setIfInBounds_toArray, List.set_cons_zero, List.set_cons_succ]
                    have HG10 : Hid (wr.heap.size ≤ g10) := Nat.le_trans HX.out.size hg
                    clear hg
                    replace HX := Lib.hid (HX.out.trans (Below.mono hb HX.out.size))
                    replace HPd := Lib.hid (HPd.out.ext hb)
                    clear hb
                    refine stepS_call (o := ⟨_, _, _, _, _, _⟩) rfl (by rfl) (fun K hK => ?_)
                    try go_simp
                    refine (HOp.out xw5 HPd.out.ep).mono ?_
                    rintro e xw6 ⟨u, rfl, hu, hnew, hb⟩
                    refine hK _ _ (Turn.ofBelow hb) ?_
                    clear hK K
                    try simp only [Act.put, List.setIfInBounds_toArray, List.set_cons_zero, List.set_cons_succ]
                    have HU := Lib.hid hu
                    have hnu : ∀ k, u.ownBlock = some k → wr.heap.size ≤ k := fun k h => Nat.le_trans HX.out.size (hnew k h)
                    have HNU := Lib.hid hnu
                    have hne : ∀ k, u.ownBlock = some k → ¬ k = g10 := fun k h e => by have := hnew k h; have := hk.lt; omega
                    have HNE := Lib.hid hne
                    clear hne
                    clear hu hnew hnu
                    replace HX := Lib.hid (HX.out.trans (Below.mono hb HX.out.size))
                    replace HPd := Lib.hid (HPd.out.ext hb)
                    replace hk := hk.ext hb
                    clear hb
                    iterate 4 (refine wpGs_read (o := ⟨_, _, _, _, _, _⟩) (v := ?_) rfl (by rfl) ?_ ?_; rotate_left; (intro w' hw'; go_simp; with_reducible rfl); simp only [Act.put, List.setIfInBounds_toArray, List.set_cons_zero, List.set_cons_succ])
                    refine stepS_call (o := ⟨_, _, _, _, _, _⟩) rfl (by rfl) (fun K hK => ?_)
                    refine wp_store_agg PS (.tmp 10) (.tmp 88) rfl g10 (psv M u) _ PS (by rfl) (by rfl) agg_PS hk rfl rfl (psv_one HU.out) (fun w8 hk8 ht8 hs8 => ?_)
                    refine hK _ _ (ht8.mono (fun i hi _ => by subst hi; have := HG10.out; omega)) ?_
                    clear hK K
                    simp only [Act.put]
                    iterate 2 (refine wpGs_read (o := ⟨_, _, _, _, _, _⟩) (v := ?_) rfl (by rfl) ?_ ?_; rotate_left; (intro w' hw'; go_simp; with_reducible rfl); simp only [Act.put, List.setIfInBounds_toArray, List.set_cons_zero, List.set_cons_succ])
                    refine wpGs_done ?_
                    go_wp2
                    go_meet
                    exact ⟨g10, u, rfl, rfl, rfl, hk8, HU.out.turnP ht8 HNE.out, HNU.out, HG10.out, HX.out.trans (ht8.below HX.out.size (fun i hi => by subst hi; exact HG10.out))⟩
                · skip
                  refine stepS_call (o := ⟨_, _, _, _, _, _⟩) rfl (by rfl) (fun K hK => ?_)
                  refine wp_alloc_arr PS rfl arrz_PS ?_
                  intro g10 xw8 hg hk hb
                  refine hK _ _ (Turn.ofBelow hb) ?_
                  clear hK K
                  simp only [Act.put, List.setIfInBounds_toArray, List.set_cons_zero, List.set_cons_succ]
                  have HG10 : Hid (wr.heap.size ≤ g10) := Nat.le_trans HX.out.size hg
                  clear hg
                  replace HX := Lib.hid (HX.out.trans (Below.mono hb HX.out.size))
                  replace HPd := Lib.hid (HPd.out.ext hb)
                  clear hb
                  refine stepS_call (o := ⟨_, _, _, _, _, _⟩) rfl (by rfl) (fun K hK => ?_)
                  try go_simp
                  refine (CW.out xw8).mono ?_
                  rintro e xw9 ⟨rfl, hb⟩
                  refine hK _ _ (Turn.ofBelow hb) ?_
                  clear hK K
                  try simp only [Act.put, List.setIfInBounds_toArray, List.set_cons_zero, List.set_cons_succ]
                  replace HX := Lib.hid (HX.out.trans (Below.mono hb HX.out.size))
                  replace HPd := Lib.hid (HPd.out.ext hb)
                  replace hk := hk.ext hb
                  clear hb
                  refine stepS_call (o := ⟨_, _, _, _, _, _⟩) rfl (by rfl) (fun K hK => ?_)
                  try go_simp
                  refine (HOp.out xw9 HPd.out.ep).mono ?_
                  rintro e xw10 ⟨u, rfl, hu, hnew, hb⟩
                  refine hK _ _ (Turn.ofBelow hb) ?_
                  clear hK K
                  try simp only [Act.put, List.setIfInBounds_toArray, List.set_cons_zero, List.set_cons_succ]
                  have HU := Lib.hid hu
                  have hnu : ∀ k, u.ownBlock = some k → wr.heap.size ≤ k := fun k h => Nat.le_trans HX.out.size (hnew k h)
                  have HNU := Lib.hid hnu
                  have hne : ∀ k, u.ownBlock = some k → ¬ k = g10 := fun k h e => by have := hnew k h; have := hk.lt; omega
                  have HNE := Lib.hid hne
                  clear hne
                  clear hu hnew hnu
                  replace HX := Lib.hid (HX.out.trans (Below.mono hb HX.out.size))
                  replace HPd := Lib.hid (HPd.out.ext hb)
                  replace hk := hk.ext hb
                  clear hb
                  iterate 4 (refine wpGs_read (o := ⟨_, _, _, _, _, _⟩) (v := ?_) rfl (by rfl) ?_ ?_; rotate_left; (intro w' hw'; go_simp; with_reducible rfl); simp only [Act.put, List.setIfInBounds_toArray, List.set_cons_zero, List.set_cons_succ])
                  refine stepS_call (o := ⟨_, _, _, _, _, _⟩) rfl (by rfl) (fun K hK => ?_)
                  refine wp_store_agg PS (.tmp 10) (.tmp 88) rfl g10 (psv M u) _ PS (by rfl) (by rfl) agg_PS hk rfl rfl (psv_one HU.out) (fun w8 hk8 ht8 hs8 => ?_)
                  refine hK _ _ (ht8.mono (fun i hi _ => by subst hi; have := HG10.out; omega)) ?_
                  clear hK K
                  simp only [Act.put]
                  iterate 2 (refine wpGs_read (o := ⟨_, _, _, _, _, _⟩) (v := ?_) rfl (by rfl) ?_ ?_; rotate_left; (intro w' hw'; go_simp; with_reducible rfl); simp only [Act.put, List.setIfInBounds_toArray, List.set_cons_zero, List.set_cons_succ])
                  refine wpGs_done ?_
                  go_wp2
                  go_meet
                  exact ⟨g10, u, rfl, rfl, rfl, hk8, HU.out.turnP ht8 HNE.out, HNU.out, HG10.out, HX.out.trans (ht8.below HX.out.size (fun i hi => by subst hi; exact HG10.out))⟩
              case rest =>
                obtain ⟨g10, u, rfl, rfl, rfl, K10, EU, HNew, HG10, HX⟩ := hcut
                generalize wc = zx at *
                obtain ⟨zw, hzw⟩ : ∃ z, z = wr := ⟨_, rfl⟩
                subst hzw
                have HW := Lib.hid (HP.out.two HX.out K10.out EU.out HNew.out HG10.out)
                have hgB := HP.out.gB
                have hBw := HP.out.Bw
                have hg10B : B ≤ g10 := Nat.le_trans hBw HG10.out
                replace HB := Lib.hid (HB.out.trans (HX.out.mono HB.out.size))
                clear HOp CW q0 q1 wy wyu HX HNew HG10 EU HP HQ HG
                have hes := own_u64 HW.out.es
                obtain ⟨ax, cx, hax, hsx, _⟩ := hes
                rw [seen_len] at hax
                cases hax
                have HSX := Lib.hid hsx
                clear hsx
                go_wp2_with fail
                go_loopw [13] (fun t13 wr => ∃ r : Nat, t13 = .int .i64 r ∧ r ≤ N ∧ wr = zx) (fun t13 _ => N - (intOf t13).toNat)
                case atStart => exact ⟨0, rfl, by omega, rfl⟩
                case round =>
                  obtain ⟨r, rfl, hr, rfl⟩ := hrel
                  by_cases hltr : r < N
                  · have i3 : (r : Int) < (N : Int) := by omega
                    obtain ⟨gs, os, rfl, hcs⟩ := HSX.out.u64 (by rw [seen_len]; omega)
                    have q2 := hcs r (by rw [seen_len]; exact hltr)
                    rw [seen_at N r hltr] at q2
                    obtain ⟨r1, hr1⟩ : ∃ r1, r + 1 = r1 := ⟨_, rfl⟩
                    rw [hr1] at q2
                    have hM1 := HMN.out
                    have e1 : ((r1 : Int) == (M : Int)) = false := by rw [beq_eq_false_iff_ne]; omega
                    clear hcs hr1 hM1
                    go_wp2
                    go_roundw
                    case rel => exact ⟨r + 1, by go_num, by omega, trivial⟩
                    case measure => simp [intOf]; omega
                  · obtain rfl : N = r := by omega
                    clear HSX hltr
                    go_upto_region 22 with fail
                    go_cut [4, 5] (fun s4 s5 wx => ∃ (a4' : Option Addr) (c4' : Nat) (a5' : Option Addr) (c5' : Nat), s4 = .slice a4' M c4' ∧ s5 = .slice a5' (n + 1) c5' ∧ Hid (PO wx g3 B M u L2 (.slice a4' M c4') (.slice a5' (n + 1) c5')) ∧ Hid (Below w.heap.size w wx))
                    case first => as_aux_lemma =>
                      obtain ⟨vs, hvs⟩ : ∃ x, Value.slice a4 N c4 = x := ⟨_, rfl⟩
                      obtain ⟨vo, hvo⟩ : ∃ x, Value.slice a5 n c5 = x := ⟨_, rfl⟩
                      rw [hvs, hvo] at HW
                      refine wp_region_gs (F := fun i => (B ≤ i ∧ i ≠ g10) ∨ i = g3) (.rd 0 (.rd 1 (.rd 2 (.rd 5 (.rd 6 (.two 3 (.two 4 (.call 7 (.call 8 (.call 9 (.rd 10 (.rd 11 .done))))) 7 (.call 4 (.call 8 (.call 9 (.rd 10 (.rd 11 .done)))))) 7 (.call 3 (.call 4 (.call 8 (.call 9 (.rd 10 (.rd 11 .done)))))))))))) (by kernel_rfl) (by kernel_rfl) (by kernel_rfl) (by kernel_rfl) (fun _ _ _ _ _ h => h) ?_
                      rw [hvs, hvo]
                      replace HB : Hid (Below w.heap.size w wr.drew) := HB.out.drew
                      replace HW := Lib.hid (HW.out.ext (Ext.drew _))
                      have hwB : w.heap.size ≤ B := HwB.out
                      generalize wr.drew = ud at *
                      clear hvs hvo K10
                      have hn10 : ¬ ((B ≤ g10 ∧ g10 ≠ g10) ∨ g10 = g3) := by omega
                      have K10 := Lib.hid HW.out.k10
                      refine wpGs_read (o := ⟨_, _, _, _, _, _⟩) (v := .agg (psv M u)) rfl (by rfl) (fun w' hw' => rd_load_agg PS (.tmp 10) rfl g10 0 (psv M u) (by rfl) agg_PS (K10.out.turn hw' hn10).at rfl) ?_
                      simp only [Act.put, List.setIfInBounds_toArray, List.set_cons_zero, List.set_cons_succ]
                      iterate 4 (refine wpGs_read (o := ⟨_, _, _, _, _, _⟩) (v := ?_) rfl (by rfl) ?_ ?_; rotate_left; (intro w' hw'; go_simp; with_reducible rfl); simp only [Act.put, List.setIfInBounds_toArray, List.set_cons_zero, List.set_cons_succ])
                      clear K10 hn10
                      refine ⟨?_, ?_⟩
                      · skip
                        refine stepS_call (o := ⟨_, _, _, _, _, _⟩) rfl (by rfl) (fun K hK => ?_)
                        try go_simp
                        refine hK _ _ ((Turn.refl _ _).alloc _) ?_
                        clear hK K
                        try simp only [Act.put, List.setIfInBounds_toArray, List.set_cons_zero, List.set_cons_succ]
                        have halA := ulit ud UT M
                        have hx : Ext ud (ud.alloc (.cells #[.int .u64 (M : Nat)] UT)) := (Below.refl _ _).alloc (Nat.le_refl _) _
                        have hnvA : ∀ k, vs.ownBlock = some k → ¬ k = ud.heap.size := fun k h => Nat.ne_of_lt (own_blk HW.out.es h)
                        replace HW := Lib.hid (HW.out.ext hx)
                        replace HB := Lib.hid (HB.out.trans (Below.mono hx HB.out.size))
                        clear hx
                        generalize ud.heap.size = gA at *
                        generalize ud.alloc (.cells #[.int .u64 (M : Nat)] UT) = xw1 at *
                        refine ⟨?_, ?_⟩
                        · skip
                          refine stepS_call (o := ⟨_, _, _, _, _, _⟩) rfl (by rfl) (fun K hK => ?_)
                          obtain ⟨vs2, xw2, hr, hb, hw, ht⟩ := HW.out.app4 SUT gA M halA (by rw [seen_len N]; omega)
                          refine wp_app_run (.tmp 112) (.tmp 114) SUT rfl (by rfl) (by rfl) hr ?_
                          refine hK _ _ (ht.mono (fun i hi _ => .inl ⟨(HW.out.es.lt i hi).1, HW.out.ts i hi⟩)) ?_
                          clear hK K
                          try simp only [Act.put, List.setIfInBounds_toArray, List.set_cons_zero, List.set_cons_succ]
                          replace HW := Lib.hid hw
                          replace HB := Lib.hid (HB.out.trans (hb.mono hwB))
                          clear hr hb hw ht halA hnvA
                          refine stepS_call (o := ⟨_, _, _, _, _, _⟩) rfl (by rfl) (fun K hK => ?_)
                          try go_simp
                          refine hK _ _ ((Turn.refl _ _).alloc _) ?_
                          clear hK K
                          try simp only [Act.put, List.setIfInBounds_toArray, List.set_cons_zero, List.set_cons_succ]
                          have halZ := ulit xw2 UT M
                          have hx : Ext xw2 (xw2.alloc (.cells #[.int .u64 (M : Nat)] UT)) := (Below.refl _ _).alloc (Nat.le_refl _) _
                          have hnvZ : ∀ k, vs2.ownBlock = some k → ¬ k = xw2.heap.size := fun k h => Nat.ne_of_lt (own_blk HW.out.es h)
                          replace HW := Lib.hid (HW.out.ext hx)
                          replace HB := Lib.hid (HB.out.trans (Below.mono hx HB.out.size))
                          clear hx
                          generalize xw2.heap.size = gZ at *
                          generalize xw2.alloc (.cells #[.int .u64 (M : Nat)] UT) = xw3 at *
                          refine stepS_call (o := ⟨_, _, _, _, _, _⟩) rfl (by rfl) (fun K hK => ?_)
                          obtain ⟨vo2, xw4, hr, hb, hw, ht⟩ := HW.out.app8 SUT gZ M halZ (by rw [ids_len L]; rw [HLn.out]; omega)
                          refine wp_app_run (.tmp 116) (.tmp 118) SUT rfl (by rfl) (by rfl) hr ?_
                          refine hK _ _ (ht.mono (fun i hi _ => .inl ⟨(HW.out.eo.lt i hi).1, HW.out.to_ i hi⟩)) ?_
                          clear hK K
                          try simp only [Act.put, List.setIfInBounds_toArray, List.set_cons_zero, List.set_cons_succ]
                          replace HW := Lib.hid hw
                          replace HB := Lib.hid (HB.out.trans (hb.mono hwB))
                          clear hr hb hw ht halZ hnvZ
                          refine stepS_call (o := ⟨_, _, _, _, _, _⟩) rfl (by rfl) (fun K hK => ?_)
                          refine wp_store_agg PS (.tmp 3) (.tmp 111) rfl g3 (psv M u) _ PS (by rfl) (by rfl) agg_PS HW.out.k3 rfl rfl (psv_one HW.out.eu) (fun w9 hk9 ht9 hs9 => ?_)
                          refine hK _ _ (ht9.mono (fun i hi _ => .inr hi)) ?_
                          clear hK K
                          simp only [Act.put]
                          iterate 2 (refine wpGs_read (o := ⟨_, _, _, _, _, _⟩) (v := ?_) rfl (by rfl) ?_ ?_; rotate_left; (intro w' hw'; go_simp; with_reducible rfl); simp only [Act.put, List.setIfInBounds_toArray, List.set_cons_zero, List.set_cons_succ])
                          refine wpGs_done ?_
                          rw [HS2.out, HI2.out] at HW
                          have HF := Lib.hid (HW.out.fin hk9 ht9)
                          obtain ⟨a4', c4', hv4, _⟩ := own_u64 HW.out.es
                          obtain ⟨a5', c5', hv5, _⟩ := own_u64 HW.out.eo
                          rw [seen_len] at hv4
                          rw [ids_len, HLn2.out] at hv5
                          have HV4 := Lib.hid hv4
                          have HV5 := Lib.hid hv5
                          have HB9 := Lib.hid (HB.out.trans (ht9.below HB.out.size (fun i hi => by subst hi; exact Hg3.out)))
                          clear hv4 hv5 hk9 ht9 hs9 HW HB
                          go_wp2
                          go_meet
                          exact ⟨a4', c4', a5', c5', HV4.out, HV5.out, by rw [← HV4.out, ← HV5.out]; exact HF.out, HB9.out⟩
                        · skip
                          refine stepS_call (o := ⟨_, _, _, _, _, _⟩) rfl (by rfl) (fun K hK => ?_)
                          try go_simp
                          refine hK _ _ ((Turn.refl _ _).alloc _) ?_
                          clear hK K
                          try simp only [Act.put, List.setIfInBounds_toArray, List.set_cons_zero, List.set_cons_succ]
                          have halZ := ulit xw1 UT M
                          have hx : Ext xw1 (xw1.alloc (.cells #[.int .u64 (M : Nat)] UT)) := (Below.refl _ _).alloc (Nat.le_refl _) _
                          have hnvZ : ∀ k, vs.ownBlock = some k → ¬ k = xw1.heap.size := fun k h => Nat.ne_of_lt (own_blk HW.out.es h)
                          replace HW := Lib.hid (HW.out.ext hx)
                          replace HB := Lib.hid (HB.out.trans (Below.mono hx HB.out.size))
                          replace halA := halA.below hx (Nat.le_refl _)
                          clear hx
                          generalize xw1.heap.size = gZ at *
                          generalize xw1.alloc (.cells #[.int .u64 (M : Nat)] UT) = xw5 at *
                          refine stepS_call (o := ⟨_, _, _, _, _, _⟩) rfl (by rfl) (fun K hK => ?_)
                          obtain ⟨vs2, xw6, hr, hb, hw, ht⟩ := HW.out.app4 SUT gA M halA (by rw [seen_len N]; omega)
                          refine wp_app_run (.tmp 112) (.tmp 114) SUT rfl (by rfl) (by rfl) hr ?_
                          refine hK _ _ (ht.mono (fun i hi _ => .inl ⟨(HW.out.es.lt i hi).1, HW.out.ts i hi⟩)) ?_
                          clear hK K
                          try simp only [Act.put, List.setIfInBounds_toArray, List.set_cons_zero, List.set_cons_succ]
                          replace halZ := halZ.turnU ht (fun h => hnvZ _ h rfl)
                          replace HW := Lib.hid hw
                          replace HB := Lib.hid (HB.out.trans (hb.mono hwB))
                          clear hr hb hw ht halA hnvA
                          refine stepS_call (o := ⟨_, _, _, _, _, _⟩) rfl (by rfl) (fun K hK => ?_)
                          obtain ⟨vo2, xw7, hr, hb, hw, ht⟩ := HW.out.app8 SUT gZ M halZ (by rw [ids_len L]; rw [HLn.out]; omega)
                          refine wp_app_run (.tmp 116) (.tmp 118) SUT rfl (by rfl) (by rfl) hr ?_
                          refine hK _ _ (ht.mono (fun i hi _ => .inl ⟨(HW.out.eo.lt i hi).1, HW.out.to_ i hi⟩)) ?_
                          clear hK K
                          try simp only [Act.put, List.setIfInBounds_toArray, List.set_cons_zero, List.set_cons_succ]
                          replace HW := Lib.hid hw
                          replace HB := Lib.hid (HB.out.trans (hb.mono hwB))
                          clear hr hb hw ht halZ hnvZ
                          refine stepS_call (o := ⟨_, _, _, _, _, _⟩) rfl (by rfl) (fun K hK => ?_)
                          refine wp_store_agg PS (.tmp 3) (.tmp 111) rfl g3 (psv M u) _ PS (by rfl) (by rfl) agg_PS HW.out.k3 rfl rfl (psv_one HW.out.eu) (fun w9 hk9 ht9 hs9 => ?_)
                          refine hK _ _ (ht9.mono (fun i hi _ => .inr hi)) ?_
                          clear hK K
                          simp only [Act.put]
                          iterate 2 (refine wpGs_read (o := ⟨_, _, _, _, _, _⟩) (v := ?_) rfl (by rfl) ?_ ?_; rotate_left; (intro w' hw'; go_simp; with_reducible rfl); simp only [Act.put, List.setIfInBounds_toArray, List.set_cons_zero, List.set_cons_succ])
                          refine wpGs_done ?_
                          rw [HS2.out, HI2.out] at HW
                          have HF := Lib.hid (HW.out.fin hk9 ht9)
                          obtain ⟨a4', c4', hv4, _⟩ := own_u64 HW.out.es
                          obtain ⟨a5', c5', hv5, _⟩ := own_u64 HW.out.eo
                          rw [seen_len] at hv4
                          rw [ids_len, HLn2.out] at hv5
                          have HV4 := Lib.hid hv4
                          have HV5 := Lib.hid hv5
                          have HB9 := Lib.hid (HB.out.trans (ht9.below HB.out.size (fun i hi => by subst hi; exact Hg3.out)))
                          clear hv4 hv5 hk9 ht9 hs9 HW HB
                          go_wp2
                          go_meet
                          exact ⟨a4', c4', a5', c5', HV4.out, HV5.out, by rw [← HV4.out, ← HV5.out]; exact HF.out, HB9.out⟩
                      · skip
                        refine stepS_call (o := ⟨_, _, _, _, _, _⟩) rfl (by rfl) (fun K hK => ?_)
                        try go_simp
                        refine hK _ _ ((Turn.refl _ _).alloc _) ?_
                        clear hK K
                        try simp only [Act.put, List.setIfInBounds_toArray, List.set_cons_zero, List.set_cons_succ]
                        have halZ := ulit ud UT M
                        have hx : Ext ud (ud.alloc (.cells #[.int .u64 (M : Nat)] UT)) := (Below.refl _ _).alloc (Nat.le_refl _) _
                        have hnvZ : ∀ k, vs.ownBlock = some k → ¬ k = ud.heap.size := fun k h => Nat.ne_of_lt (own_blk HW.out.es h)
                        replace HW := Lib.hid (HW.out.ext hx)
                        replace HB := Lib.hid (HB.out.trans (Below.mono hx HB.out.size))
                        clear hx
                        generalize ud.heap.size = gZ at *
                        generalize ud.alloc (.cells #[.int .u64 (M : Nat)] UT) = xw8 at *
                        refine stepS_call (o := ⟨_, _, _, _, _, _⟩) rfl (by rfl) (fun K hK => ?_)
                        try go_simp
                        refine hK _ _ ((Turn.refl _ _).alloc _) ?_
                        clear hK K
                        try simp only [Act.put, List.setIfInBounds_toArray, List.set_cons_zero, List.set_cons_succ]
                        have halA := ulit xw8 UT M
                        have hx : Ext xw8 (xw8.alloc (.cells #[.int .u64 (M : Nat)] UT)) := (Below.refl _ _).alloc (Nat.le_refl _) _
                        have hnvA : ∀ k, vs.ownBlock = some k → ¬ k = xw8.heap.size := fun k h => Nat.ne_of_lt (own_blk HW.out.es h)
                        replace HW := Lib.hid (HW.out.ext hx)
                        replace HB := Lib.hid (HB.out.trans (Below.mono hx HB.out.size))
                        replace halZ := halZ.below hx (Nat.le_refl _)
                        clear hx
                        generalize xw8.heap.size = gA at *
                        generalize xw8.alloc (.cells #[.int .u64 (M : Nat)] UT) = xw9 at *
                        refine stepS_call (o := ⟨_, _, _, _, _, _⟩) rfl (by rfl) (fun K hK => ?_)
                        obtain ⟨vs2, xw10, hr, hb, hw, ht⟩ := HW.out.app4 SUT gA M halA (by rw [seen_len N]; omega)
                        refine wp_app_run (.tmp 112) (.tmp 114) SUT rfl (by rfl) (by rfl) hr ?_
                        refine hK _ _ (ht.mono (fun i hi _ => .inl ⟨(HW.out.es.lt i hi).1, HW.out.ts i hi⟩)) ?_
                        clear hK K
                        try simp only [Act.put, List.setIfInBounds_toArray, List.set_cons_zero, List.set_cons_succ]
                        replace halZ := halZ.turnU ht (fun h => hnvZ _ h rfl)
                        replace HW := Lib.hid hw
                        replace HB := Lib.hid (HB.out.trans (hb.mono hwB))
                        clear hr hb hw ht halA hnvA
                        refine stepS_call (o := ⟨_, _, _, _, _, _⟩) rfl (by rfl) (fun K hK => ?_)
                        obtain ⟨vo2, xw11, hr, hb, hw, ht⟩ := HW.out.app8 SUT gZ M halZ (by rw [ids_len L]; rw [HLn.out]; omega)
                        refine wp_app_run (.tmp 116) (.tmp 118) SUT rfl (by rfl) (by rfl) hr ?_
                        refine hK _ _ (ht.mono (fun i hi _ => .inl ⟨(HW.out.eo.lt i hi).1, HW.out.to_ i hi⟩)) ?_
                        clear hK K
                        try simp only [Act.put, List.setIfInBounds_toArray, List.set_cons_zero, List.set_cons_succ]
                        replace HW := Lib.hid hw
                        replace HB := Lib.hid (HB.out.trans (hb.mono hwB))
                        clear hr hb hw ht halZ hnvZ
                        refine stepS_call (o := ⟨_, _, _, _, _, _⟩) rfl (by rfl) (fun K hK => ?_)
                        refine wp_store_agg PS (.tmp 3) (.tmp 111) rfl g3 (psv M u) _ PS (by rfl) (by rfl) agg_PS HW.out.k3 rfl rfl (psv_one HW.out.eu) (fun w9 hk9 ht9 hs9 => ?_)
                        refine hK _ _ (ht9.mono (fun i hi _ => .inr hi)) ?_
                        clear hK K
                        simp only [Act.put]
                        iterate 2 (refine wpGs_read (o := ⟨_, _, _, _, _, _⟩) (v := ?_) rfl (by rfl) ?_ ?_; rotate_left; (intro w' hw'; go_simp; with_reducible rfl); simp only [Act.put, List.setIfInBounds_toArray, List.set_cons_zero, List.set_cons_succ])
                        refine wpGs_done ?_
                        rw [HS2.out, HI2.out] at HW
                        have HF := Lib.hid (HW.out.fin hk9 ht9)
                        obtain ⟨a4', c4', hv4, _⟩ := own_u64 HW.out.es
                        obtain ⟨a5', c5', hv5, _⟩ := own_u64 HW.out.eo
                        rw [seen_len] at hv4
                        rw [ids_len, HLn2.out] at hv5
                        have HV4 := Lib.hid hv4
                        have HV5 := Lib.hid hv5
                        have HB9 := Lib.hid (HB.out.trans (ht9.below HB.out.size (fun i hi => by subst hi; exact Hg3.out)))
                        clear hv4 hv5 hk9 ht9 hs9 HW HB
                        go_wp2
                        go_meet
                        exact ⟨a4', c4', a5', c5', HV4.out, HV5.out, by rw [← HV4.out, ← HV5.out]; exact HF.out, HB9.out⟩
                    case rest =>
                      obtain ⟨a4', c4', a5', c5', rfl, rfl, HP, HB⟩ := hcut
                      generalize wc = yw0 at *
                      have HG := Lib.hid (HGw.out.below HB.out)
                      have HQ := Lib.hid (HQw.out.ext HB.out)
                      clear HM HLn
                      have HM := HM2
                      have HLn := HLn2
                      have hNk1 : M ≤ k + 1 := by have := HMN.out; omega
                      obtain ⟨n', hn'⟩ : ∃ n', n + 1 = n' := ⟨_, rfl⟩
                      rw [hn'] at HLn HP ⊢
                      clear HM2 HLn2 HW K10 d8
                      obtain ⟨av, cv, hav, hpv, _⟩ := HP.out.ep
                      rw [HLn.out] at hav
                      subst hav
                      have hmy := (pmayB_iff L2 M).2 HM.out
                      have CHe := Lib.hid (fun w h => held_any (.slice av n' cv) L2 M w h)
                      have CCk := Lib.hid (fun w h => check_any (.slice av n' cv) L2 M w h)
                      rw [show hdR L2 M = heldR L2 by unfold hdR; rw [if_pos hmy]] at CHe
                      rw [show mayE L2 M = 0 by unfold mayE; rw [if_pos hmy], errC_0] at CCk
                      obtain ⟨HR, hHR⟩ : ∃ F, heldR L2 = F := ⟨_, rfl⟩
                      have hHR2 : ∀ q, L2.any (fun p => p.pg q) = HR q := fun q => by rw [← hHR]; rfl
                      rw [hHR] at CHe
                      have HHR := Lib.hid hHR2
                      have CHR := Lib.hid (fun q w => has_any HR q w)
                      clear hHR hHR2 hmy hpv
                      have z1 := HP.out.k3.ps1
                      obtain ⟨PP, hPP⟩ : ∃ P, psv M (.slice av n' cv) = P := ⟨_, rfl⟩
                      have sPP : PP.size = 2 := by rw [← hPP]; rfl
                      rw [hPP] at CHe CCk
                      have K3 : Hid (Blk yw0 g3 PS PP) := by rw [← hPP]; exact HP.out.k3
                      have HPP := Lib.hid hPP
                      clear z1 hPP
                      go_wp2_with (refine wpList_load_agg rfl PS (.tmp 3) rfl g3 0 PP (by rfl) agg_PS K3.out.at sPP ?_)
                      refine (CHe.out yw0 HP.out.ep).mono ?_
                      rintro e yw1 ⟨rfl, hb⟩
                      replace HP := Lib.hid (HP.out.ext hb)
                      replace HB := Lib.hid (HB.out.trans (Below.mono hb HB.out.size))
                      replace HG := Lib.hid (HG.out.below hb)
                      replace HQ := Lib.hid (HQ.out.ext hb)
                      clear hb K3 CHe
                      go_wp2_with (first
                        | (refine wpList_alloc_arr rfl TS rfl arrz_TS ?_; intro g14 wa14 hg14 hk14 hb14)
                        | (refine wpList_store_agg rfl TS (.tmp 14) (.tmp 121) rfl g14 (sc HR) _ TS (by rfl) (by rfl) agg_TS hk14 (sc_size _) (sc_size _) (sc_one _) ?_; intro yw2 hj14 ht14 hs14))
                      have hb : Ext yw1 yw2 := hb14.trans (ht14.below hb14.size (fun i hi => by subst hi; exact hg14))
                      replace HP := Lib.hid (HP.out.ext hb)
                      replace HB := Lib.hid (HB.out.trans (Below.mono hb HB.out.size))
                      replace HG := Lib.hid (HG.out.below hb)
                      replace HQ := Lib.hid (HQ.out.ext hb)
                      have K14 := Lib.hid hj14
                      clear hb hg14 hk14 hb14 hj14 ht14 hs14
                      go_loopw [15] (fun t15 wr => ∃ q : Nat, t15 = .int .i64 q ∧ q ≤ 256 ∧ Hid (Below yw2.heap.size yw2 wr)) (fun t15 _ => 256 - (intOf t15).toNat)
                      case atStart => exact ⟨0, rfl, by omega, Below.refl _ _⟩
                      case round =>
                        obtain ⟨q, rfl, hq, hE⟩ := hrel
                        obtain ⟨ywz, hz⟩ : ∃ z, z = wr := ⟨_, rfl⟩
                        subst hz
                        have HPz := Lib.hid (HP.out.ext hE.out)
                        have Kz := Lib.hid (K14.out.ext hE.out)
                        by_cases hlt : q < 256
                        · have i256 : (q : Int) < 256 := by omega
                          go_wp2_with fail
                          go_loopw [16, 17] (fun t16 t17 wr => ∃ (s : Bool) (r : Nat), t16 = .bool s ∧ t17 = .int .i64 r ∧ r ≤ n' ∧ Hid ((L2.take r).any (fun p => p.pg q) = s) ∧ Hid (Below ywz.heap.size ywz wr)) (fun _ t17 _ => n' - (intOf t17).toNat)
                          case atStart => exact ⟨false, 0, rfl, rfl, by omega, by show _ = _; rw [List.take_zero]; rfl, Below.refl _ _⟩
                          case round =>
                            obtain ⟨s, r, rfl, rfl, hr, hS, hE2⟩ := hrel
                            have HPi := Lib.hid (HPz.out.ext hE2.out)
                            have z1 := HPi.out.k3.ps1
                            by_cases hltr : r < n'
                            · have i3 : (r : Int) < (n' : Int) := by omega
                              have hst : (L2.take (r + 1)).any (fun p => p.pg q) = (s || (pn L2 r).pg q) := by
                                rw [pn_take L2 r (by rw [HLn.out]; exact hltr), List.any_append, hS.out]; simp
                              cases s with
                              | true =>
                                have HS2 : Hid ((L2.take (r + 1)).any (fun p => p.pg q) = true) := by show _ = _; rw [hst]; rfl
                                clear hst hS
                                go_wp2
                                go_roundw
                                case rel => exact ⟨true, r + 1, rfl, by go_num, by omega, HS2, hE2⟩
                                case measure => simp [intOf]; omega
                              | false =>
                                obtain ⟨ai, ci, hai, hsi, _⟩ := HPi.out.ep
                                rw [HLn.out] at hai
                                cases hai
                                obtain ⟨gi, oi, rfl, hci⟩ := hsi.pin (by rw [HLn.out]; omega)
                                have Hc := Lib.hid (hci r (by rw [HLn.out]; exact hltr)).pages
                                have HS2 : Hid ((L2.take (r + 1)).any (fun p => p.pg q) = (pn L2 r).pg q) := by show _ = _; rw [hst]; rfl
                                have ein : inB (pn L2 r).pg (q : Int) = (pn L2 r).pg q := by unfold inB; rw [decide_eq_true (show (0 : Int) ≤ (q : Int) by omega), decide_eq_true (show (q : Int) < 1024 by omega)]; rfl
                                have CI := Lib.hid (fun w => has_any (pn L2 r).pg (q : Int) w)
                                rw [ein] at CI
                                generalize (pn L2 r).pg = F at *
                                clear hst hS hci hsi ein
                                go_wp2_with (refine wpList_load_agg_when (by rfl) TS (.tmp 139) rfl gi (oi + r * 18 + 2) (sc F) (by rfl) agg_TS Hc.out (sc_size _) ?_)
                                refine (CI.out wr).mono ?_
                                rintro e yw5 ⟨rfl, hb⟩
                                have hE3 : Hid (Below ywz.heap.size ywz yw5) := hE2.out.trans (Below.mono hb hE2.out.size)
                                clear hb CI Hc z1 hE2 HPi
                                go_wp2
                                go_roundw
                                case rel => exact ⟨F q, r + 1, rfl, by go_num, by omega, HS2, hE3⟩
                                case measure => simp [intOf]; omega
                            · obtain rfl : r = n' := by omega
                              have hs2 : s = HR q := by rw [← hS.out, List.take_of_length_le (by rw [HLn.out]; exact Nat.le_refl _), HHR.out]
                              have ein : inB HR (q : Int) = s := by unfold inB; rw [decide_eq_true (show (0 : Int) ≤ (q : Int) by omega), decide_eq_true (show (q : Int) < 1024 by omega), hs2]; rfl
                              have CI := Lib.hid (fun w => CHR.out (q : Int) w)
                              rw [ein] at CI
                              have Ki := Lib.hid (Kz.out.ext hE2.out)
                              clear hs2 ein hS
                              go_wp2_with (refine wpList_load_agg rfl TS (.tmp 14) rfl g14 0 (sc HR) (by rfl) agg_TS Ki.out.at (sc_size _) ?_)
                              refine (CI.out wr).mono ?_
                              rintro e yw5 ⟨rfl, hb⟩
                              have hE3 : Hid (Below yw2.heap.size yw2 yw5) := (hE.out.trans (Below.mono hE2.out hE.out.size)).trans (Below.mono hb (by have := hE.out.size; have := hE2.out.size; omega))
                              clear hb CI z1 hE2 HPi Ki
                              go_wp2
                              go_roundw
                              case rel => exact ⟨q + 1, by go_num, by omega, hE3⟩
                              case measure => simp [intOf]; omega
                        · obtain rfl : q = 256 := by omega
                          have z1 := HPz.out.k3.ps1
                          have K3 : Hid (Blk ywz g3 PS PP) := by rw [← HPP.out]; exact HPz.out.k3
                          go_wp2_with (refine wpList_load_agg_when (by rfl) PS (.tmp 3) rfl g3 0 PP (by rfl) agg_PS K3.out.at sPP ?_)
                          refine (CCk.out ywz HPz.out.ep).mono ?_
                          rintro e yw6 ⟨rfl, hb⟩
                          have hEb : Ext yw2 yw6 := hE.out.trans (Below.mono hb hE.out.size)
                          have HP9 := Lib.hid (HPz.out.ext hb)
                          have HB9 := Lib.hid (HB.out.trans (Below.mono hEb HB.out.size))
                          have HG9 := Lib.hid (HG.out.below hEb)
                          have HQ9 := Lib.hid (HQ.out.ext hEb)
                          clear hb hEb z1 K3 HPz Kz HP HB HG HQ
                          go_wp2
                          go_roundw
                          case rel => exact ⟨k + 1, M, n', c4', c5', a4', a5', _, L2, by go_num, rfl, rfl, by omega, by omega, hNk1, HLn.out, HM.out, HP9.out, HB9.out, HG9.out, HQ9.out⟩
                          case measure => simp [intOf]; omega
      · have d60 : decide ((k : Int) < 60) = false := decide_eq_false (by omega)
        go_wp2_with fail
        refine (CS.out _ HG.out).mono ?_
        rintro e u1 ⟨rfl, hb⟩
        replace HB := Lib.hid (HB.out.trans (Below.mono hb HB.out.size))
        clear hb
        go_wp2
        go_ret
        exact ⟨rfl, HB.out⟩
    · obtain rfl : k = m := by omega
      go_wp2_with fail
      refine (CS.out _ HG.out).mono ?_
      rintro e u1 ⟨rfl, hb⟩
      replace HB := Lib.hid (HB.out.trans (Below.mono hb HB.out.size))
      clear hb
      go_wp2
      go_ret
      exact ⟨rfl, HB.out⟩
end Go.Proofs.YtdgcghknfhhkiaaDoor
