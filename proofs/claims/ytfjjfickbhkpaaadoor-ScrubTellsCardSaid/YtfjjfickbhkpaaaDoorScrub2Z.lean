/-
  scrub's Dirty, Clean, Slack.
-/
import Derived.Test.YtfjjfickbhkpaaaDoorScrub1Z
import Derived.Test.YtfjjfickbhkpaaaDoorPgInZ
import Derived.Test.YtfjjfickbhkpaaaDoorTellMathZ
import Derived.Test.YtfjjfickbhkpaaaDoorBit5Z
namespace Go.Proofs.YtfjjfickbhkpaaaDoor
open Go Go.RowKit

theorem PgV.arg {w : World} {v : Value} {is : List Int} (h : PgV w v is) : ∃ a c, v = .slice a is.length c ∧ PgS w a is := by
  obtain ⟨a, c, rfl, hs, _⟩ := h
  exact ⟨a, c, rfl, hs⟩
theorem PgIn.at {w : World} {a : Option Addr} {P : List (List Nat)} (h : PgIn w a P) {k : Nat} (hk : k < P.length) : ∃ g o ad m cc, a = some ⟨g, o, none⟩ ∧ w.cell? ⟨g, o + k, none⟩ = some (.slice ad m cc) ∧ (pgK P k).length = m ∧ Src w ad (pgK P k) ∧ m ≤ cc ∧ cc ≤ 140737488355328 ∧ B8 (pgK P k) := by
  obtain ⟨g, o, v, ha, hc, hv⟩ := h k hk
  obtain ⟨ad, cc, rfl, hs, h1, h2⟩ := hv.ex
  exact ⟨g, o, ad, _, cc, ha, hc, rfl, hs, h1, h2, hv.b8⟩
theorem PgW.at {w : World} {a : Option Addr} {P : List (List Nat)} (h : PgW w a P) {k : Nat} (hk : k < P.length) : ∃ g o ad m cc, a = some ⟨g, o, none⟩ ∧ w.cell? ⟨g, o + k, none⟩ = some (.slice ad m cc) ∧ (pgK P k).length = m ∧ Src w ad (pgK P k) ∧ m ≤ cc ∧ cc ≤ 9223372036854775807 ∧ B8 (pgK P k) := by
  obtain ⟨g, o, v, ha, hc, hv⟩ := h k hk
  obtain ⟨ad, cc, rfl, hs, h1, h2⟩ := hv.ex
  exact ⟨g, o, ad, _, cc, ha, hc, rfl, hs, h1, h2, hv.b8⟩
set_option maxRecDepth 100000 in
theorem dirty_any (a : Option Addr) (n c : Nat) (P : List (List Nat)) (f : Nat → Bool) (hn : P.length = n) (w : World) (hl : n ≤ 1000) (hP : PgW w a P) :
    Calls Tryd.prog 6 #[.slice a n c, .agg (sc f)] w fun e w' => ∃ v, e = .returned v ∧ PgV w' v (dirL f P n) ∧ Below w.heap.size w w' := by
  have HP := Lib.hid hP
  have HN := Lib.hid hn
  clear hP hn
  go_enter Tryd.func6, Tryd.ntmps6
  go_wp2_with (first | (refine wpList_box_arr rfl TS (.tmp 1) rfl (sc f) (by rfl) ?_; intro g1 w1 hg1 hk1 hb1))
  have HK := Lib.hid hk1
  have H1 := Lib.hid hb1
  replace HP := Lib.hid (HP.out.below hb1 (Nat.le_refl _))
  clear hg1 hk1 hb1
  go_loopw [5, 6, 7, 10] (fun u _ _ i wr => ∃ (k : Nat) (v : Value), v = u ∧ i = .int .i64 k ∧ k ≤ n ∧ Hid (wr.ownsRow w1.heap.size ZT 1 v (dirL f P k).length (iv (dirL f P k))) ∧ Hid (Below w1.heap.size w1 wr)) (fun _ _ _ i _ => n - (intOf i).toNat)
  case atStart => exact ⟨0, _, rfl, rfl, by omega, World.ownsRow_nil _ _ _ _, Below.refl _ _⟩
  case round =>
    obtain ⟨k, v, rfl, rfl, hk, hown, hB⟩ := hrel
    by_cases hlt : k < n
    · obtain ⟨g, o, ad, m, cc, rfl, hcell, hm, hsrc, hmc, hcm, hb8⟩ := (HP.out.below hB.out (Nat.le_refl _)).at (k := k) (by rw [HN.out]; exact hlt)
      have i1 : (k : Int) < (n : Int) := by omega
      have hdy := fun h => @dirL_yes f P k h
      have hdn := fun h => @dirL_no f P k h
      have hhas := Lib.hid (fun w => bhas_any f (k : Int) w)
      have hk3 := HK.out.ext hB.out
      have hle := Lib.hid (dirL_le f P k)
      unfold dirB at hdy hdn
      have hbl := Lib.hid (fun w hs => blank_any ad m cc (pgK P k) hm w (by omega) hs)
      generalize inB f (k : Int) = D at *
      generalize allZero (pgK P k) = E at *
      by_cases h2 : k < 2
      · have e2 : decide (2 ≤ k) = false := decide_eq_false (by omega)
        have e3 : decide ((2 : Int) ≤ (k : Int)) = false := decide_eq_false (by omega)
        have hst := hdn (by rw [e2]; rfl)
        have ho2 : Hid (wr.ownsRow w1.heap.size ZT 1 v (dirL f P (k + 1)).length (iv (dirL f P (k + 1)))) := by rw [hst]; exact hown
        clear hdy hdn hst hown h2 hsrc hm hmc hcm hb8 hk3
        go_wp2
        go_roundw
        case rel => exact ⟨k + 1, v, rfl, by go_num, by omega, ho2, hB⟩
        case measure => simp [intOf]; omega
      · have e2 : decide (2 ≤ k) = true := decide_eq_true (by omega)
        have e3 : decide ((2 : Int) ≤ (k : Int)) = true := decide_eq_true (by omega)
        rw [e2] at hdy hdn
        cases hD : D with
        | true =>
          subst hD
          have hst := hdn rfl
          have ho2 := Lib.hid (show wr.ownsRow w1.heap.size ZT 1 v (dirL f P (k + 1)).length (iv (dirL f P (k + 1))) by rw [hst]; exact hown.out)
          clear hdy hdn hst h2 hsrc hm hmc hcm hb8
          go_wp2_with (first | (show wpList _ _ _ (⟨some 18, _, _, _, _, _⟩ :: _) _ _; refine wpList_load_when (by rfl) TS (.tmp 3) rfl g1 f TS (by rfl) arr_TS hk3 ?_))
          refine (hhas.out wr).mono ?_
          rintro e w2 ⟨rfl, hb2⟩
          replace ho2 := Lib.hid (own_below ho2.out hb2 (Nat.le_refl _))
          replace hB := Lib.hid (hB.out.trans (hb2.mono hB.out.size))
          clear hb2 hk3 hcell hown
          go_wp2
          go_roundw
          case rel => exact ⟨k + 1, v, rfl, by go_num, by omega, ho2, hB⟩
          case measure => simp [intOf]; omega
        | false =>
          subst hD
          have Hsrc := Lib.hid hsrc
          clear h2 hsrc hm hmc hcm hb8
          go_wp2_with (first | (show wpList _ _ _ (⟨some 18, _, _, _, _, _⟩ :: _) _ _; refine wpList_load_when (by rfl) TS (.tmp 3) rfl g1 f TS (by rfl) arr_TS hk3 ?_))
          refine (hhas.out wr).mono ?_
          rintro e w2 ⟨rfl, hb2⟩
          replace hown := Lib.hid (own_below hown.out hb2 (Nat.le_refl _))
          replace hB := Lib.hid (hB.out.trans (hb2.mono hB.out.size))
          replace Hsrc := Lib.hid (Hsrc.out.below hb2 (Nat.le_refl _))
          clear hb2 hk3 hcell
          go_wp2_with fail
          refine (hbl.out w2 Hsrc.out).mono ?_
          rintro e w3 ⟨rfl, rfl⟩
          cases hE : E with
          | true =>
            subst hE
            have hst := hdn rfl
            have ho2 := Lib.hid (show w2.ownsRow w1.heap.size ZT 1 v (dirL f P (k + 1)).length (iv (dirL f P (k + 1))) by rw [hst]; exact hown.out)
            clear hst hdy hdn
            go_wp2
            go_roundw
            case rel => exact ⟨k + 1, v, rfl, by go_num, by omega, ho2, hB⟩
            case measure => simp [intOf]; omega
          | false =>
            subst hE
            have Hst := Lib.hid (hdy rfl)
            have hsz := hB.out.size
            have hnew := Lib.hid (zcell_new w2 ZT (k : Int))
            clear hdy hdn
            go_wp2_with (at_builtin; refine wpList_append_page rfl (.tmp 28) (.tmp 30) SZT rfl w1.heap.size ZT Tryd.underlying27 infoInt _ (dirL f P k) (by rfl) (hown.out.alloc _) w2.heap.size 1 (k : Int) (by rfl) hnew.out (by have := hle.out; omega) (by simp; omega) ?_; intro v4 w4 hown4 hgrow4)
            have hb4 : Hid (Below w1.heap.size w1 w4) := (hB.out.alloc hsz _).grown hgrow4.out (by simp; omega) (fun j hj => (hown.out.lt j hj).1)
            have ho4 : Hid (w4.ownsRow w1.heap.size ZT 1 v4 (dirL f P (k + 1)).length (iv (dirL f P (k + 1)))) := by rw [Hst.out]; exact hown4
            clear hown4 hgrow4 hown hB Hst hnew hsz
            go_wp2
            go_roundw
            case rel => exact ⟨k + 1, v4, rfl, by go_num, by omega, ho4, hb4⟩
            case measure => simp [intOf]; omega
    · obtain rfl : k = n := by omega
      go_wp2
      go_ret
      exact ⟨_, rfl, own_pages hown.out, H1.out.trans (hB.out.mono H1.out.size)⟩
end Go.Proofs.YtfjjfickbhkpaaaDoor
