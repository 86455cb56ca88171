/-
  The document's Dirty, Clean, Slack of layer 22.
-/
import Derived.Test.YtfjjfickbhkpaaaDoorScrub3Z
import Derived.Test.YtfjjfickbhkpaaaDoorRefBZ
import Derived.Test.YtfjjfickbhkpaaaDoorRefOpenZ
namespace Go.Proofs.YtfjjfickbhkpaaaDoor
open Go Go.RowKit

theorem bc_yes {w : World} {g : Nat} {t : TypeId} {f : Nat → Bool} (h : Blk w g t (bc f)) (k : Nat) (hk : k < 1024) : w.cell? ⟨g, k, none⟩ = some (.bool (f k)) := h.yes k hk
set_option maxRecDepth 100000 in
theorem rdirty_any (a : Option Addr) (n c : Nat) (P : List (List Nat)) (f : Nat → Bool) (hn : P.length = n) (w : World) (hl : n ≤ 1000) (hP : PgIn w a P) :
    Calls Tryd.prog 7 #[.slice a n c, .agg (sc f)] w fun e w' => ∃ v, e = .returned v ∧ PgV w' v (dirL f P n) ∧ Below w.heap.size w w' := by
  have HP := Lib.hid hP
  have HN := Lib.hid hn
  clear hP hn
  go_enter Tryd.func7, Tryd.ntmps7
  go_wp2_with (first
    | (refine wpList_box_arr rfl TW (.tmp 1) rfl (sc f) (by rfl) ?_; intro g1 w1 hg1 hk1 hb1)
    | (show wpList _ _ _ (⟨some 8, _, _, _, _, _⟩ :: _) _ _; refine wpList_load_sc rfl TW (.tmp 3) rfl g1 f TW (by rfl) arr_TW hk1 ?_))
  refine (of_any f w1).mono ?_
  rintro e w2 ⟨rfl, hb2⟩
  have hB2 := hb1.trans (hb2.mono hb1.size)
  go_wp2_with (first
    | (show wpList _ _ _ (⟨some 5, _, _, _, _, _⟩ :: _) _ _; refine wpList_alloc_arr rfl TB rfl arrz_TB ?_; intro g2 w3 hg2 hk2 hb3)
    | (refine wpList_store_bc rfl (.tmp 5) (.tmp 9) rfl g2 _ _ (by rfl) (by rfl) hk2 ?_; intro w4 hk4 ht4 _))
  have hB4 : Below w.heap.size w w4 := (hB2.trans (hb3.mono hB2.size)).trans (ht4.below (by have := hB2.size; have := hb3.size; omega) (fun i hi => by subst hi; have := hB2.size; omega))
  have HK := Lib.hid hk4
  have H1 := Lib.hid hB4
  replace HP := Lib.hid (HP.out.below hB4 (Nat.le_refl _))
  clear hg1 hk1 hb1 hb2 hB2 hg2 hk2 hb3 ht4 hk4 hB4
  go_loopw [6, 7] (fun u i wr => ∃ (k : Nat) (v : Value), v = u ∧ i = .int .i64 k ∧ (k ≤ n ∨ k = 2) ∧ 2 ≤ k ∧ Hid (wr.ownsRow w4.heap.size ZT 1 v (dirL f P k).length (iv (dirL f P k))) ∧ Hid (Below w4.heap.size w4 wr)) (fun _ i _ => n - (intOf i).toNat)
  case atStart => exact ⟨2, _, rfl, rfl, by omega, by omega, World.ownsRow_nil _ _ _ _, Below.refl _ _⟩
  case round =>
    obtain ⟨k, v, rfl, rfl, hk, hk2, hown, hB⟩ := hrel
    by_cases hlt : k < n
    · obtain ⟨g, o, ad, m, cc, rfl, hcell, hm, hsrc, hmc, hcm, hb8⟩ := (HP.out.below hB.out (Nat.le_refl _)).at (k := k) (by rw [HN.out]; exact hlt)
      have i1 : (k : Int) < (n : Int) := by omega
      have e5 : decide ((1023 : Int) < (k : Int)) = false := decide_eq_false (by omega)
      have hdy := fun h => @dirL_yes f P k h
      have hdn := fun h => @dirL_no f P k h
      have hk3 := bc_yes (HK.out.ext hB.out) k (by omega)
      have hle := Lib.hid (dirL_le f P k)
      unfold dirB at hdy hdn
      rw [inB_nat f k (by omega), decide_eq_true (show 2 ≤ k from hk2)] at hdy hdn
      have hbl := rblank_any ad m cc (pgK P k) hm wr (by omega) hsrc
      generalize f k = D at *
      generalize allZero (pgK P k) = E at *
      clear hsrc hm hmc hcm hb8 hk
      cases hD : D with
      | true =>
        subst hD
        have hst := hdn rfl
        have ho2 := Lib.hid (show wr.ownsRow w4.heap.size ZT 1 v (dirL f P (k + 1)).length (iv (dirL f P (k + 1))) by rw [hst]; exact hown.out)
        clear hdy hdn hst hbl hown
        go_wp2
        go_roundw
        case rel => exact ⟨k + 1, v, rfl, by go_num, by omega, by omega, ho2, hB⟩
        case measure => simp [intOf]; omega
      | false =>
        subst hD
        have Hbl := Lib.hid hbl
        clear hbl
        go_wp2_with fail
        refine Hbl.out.mono ?_
        rintro e w3 ⟨rfl, rfl⟩
        clear Hbl
        cases hE : E with
        | true =>
          subst hE
          have hst := hdn rfl
          have ho2 := Lib.hid (show wr.ownsRow w4.heap.size ZT 1 v (dirL f P (k + 1)).length (iv (dirL f P (k + 1))) by rw [hst]; exact hown.out)
          clear hst hdy hdn
          go_wp2
          go_roundw
          case rel => exact ⟨k + 1, v, rfl, by go_num, by omega, by omega, ho2, hB⟩
          case measure => simp [intOf]; omega
        | false =>
          subst hE
          have Hst := Lib.hid (hdy rfl)
          have hsz := hB.out.size
          have hnew := Lib.hid (zcell_new wr ZT (k : Int))
          clear hdy hdn
          go_wp2_with (at_builtin; refine wpList_append_page rfl (.tmp 32) (.tmp 34) SZT rfl w4.heap.size ZT Tryd.underlying27 infoInt _ (dirL f P k) (by rfl) (hown.out.alloc _) wr.heap.size 1 (k : Int) (by rfl) hnew.out (by have := hle.out; omega) (by simp; omega) ?_; intro v5 w5 hown5 hgrow5)
          have hb5 : Hid (Below w4.heap.size w4 w5) := (hB.out.alloc hsz _).grown hgrow5.out (by simp; omega) (fun j hj => (hown.out.lt j hj).1)
          have ho5 : Hid (w5.ownsRow w4.heap.size ZT 1 v5 (dirL f P (k + 1)).length (iv (dirL f P (k + 1)))) := by rw [Hst.out]; exact hown5
          clear hown5 hgrow5 hown hB Hst hnew hsz
          go_wp2
          go_roundw
          case rel => exact ⟨k + 1, v5, rfl, by go_num, by omega, by omega, ho5, hb5⟩
          case measure => simp [intOf]; omega
    · have he : Hid (dirL f P k = dirL f P n) := dirL_start f P n k (by omega) hk hk2
      go_wp2
      go_ret
      exact ⟨_, rfl, by rw [← he.out]; exact own_pages hown.out, H1.out.trans (hB.out.mono H1.out.size)⟩
end Go.Proofs.YtfjjfickbhkpaaaDoor
