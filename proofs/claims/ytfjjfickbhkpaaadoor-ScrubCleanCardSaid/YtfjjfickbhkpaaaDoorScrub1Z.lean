/-
  scrub's notNoughts, behind, isPage; the document's blank.
  scrub's Dirty, Clean, Slack.
  scrub's Clean, Slack.
-/
import Derived.Test.YtfjjfickbhkpaaaDoorScrubMathZ
import Derived.Test.YtfjjfickbhkpaaaDoorSheet3Z
import Derived.Test.YtfjjfickbhkpaaaDoorBAZ
import Derived.Lib.MinMax
import Derived.Lib.EndianBits
import Derived.Test.YtfjjfickbhkpaaaDoorTellMathZ
import Derived.Test.YtfjjfickbhkpaaaDoorBit5Z
namespace Go.Proofs.YtfjjfickbhkpaaaDoor
open Go Go.RowKit

theorem nz_any (a : Option Addr) (n c : Nat) (l : List Nat) (hn : l.length = n) (w : World) (hl : n ≤ 100000) (hs : Src w a l) :
    Calls Tryd.prog 19 #[.slice a n c] w fun e w' => e = .returned (.int .i64 (nzK l n : Nat)) ∧ w = w' := by
  have Hs := Lib.hid hs
  have Hn := Lib.hid hn
  clear hs hn
  go_enter Tryd.func19, Tryd.ntmps19
  go_wp2
  go_loopw [3, 5, 8] (fun m _ i wr => ∃ k t : Nat, m = .int .i64 t ∧ i = .int .i64 k ∧ k ≤ n ∧ t ≤ k ∧ Hid (nzK l k = t) ∧ w = wr) (fun _ _ i _ => n - (intOf i).toNat)
  case atStart => exact ⟨0, 0, rfl, rfl, by omega, by omega, rfl, rfl⟩
  case round =>
    obtain ⟨k, t, rfl, rfl, hk, htk, ht, rfl⟩ := hrel
    by_cases hlt : k < n
    · obtain ⟨b, o, rfl, hc⟩ := Hs.out (by rw [Hn.out]; omega)
      have hcell := hc k (by rw [Hn.out]; exact hlt)
      have i1 : (k : Int) < (n : Int) := by omega
      have hy := fun h => @nzK_yes l k h
      have hno := fun h => @nzK_no l k h
      clear hc
      generalize l.getD k 0 = X at *
      by_cases hX : X = 0
      · subst hX
        have Hr := Lib.hid ((hy rfl).trans ht.out)
        clear hy hno ht
        go_wp2
        go_roundw
        case rel => exact ⟨k + 1, t, rfl, by go_num, by omega, by omega, Hr, trivial⟩
        case measure => simp [intOf]; omega
      · have e1 : ((X : Int) != 0) = true := by
          show (!(_ == _)) = true
          rw [beq_eq_false_iff_ne.2 (by omega)]; rfl
        have Hr : Hid (nzK l (k + 1) = t + 1) := by rw [hno hX, ht.out]; exact rfl
        clear hy hno ht hX
        go_wp2
        go_roundw
        case rel => exact ⟨k + 1, t + 1, by go_num, by go_num, by omega, by omega, Hr, trivial⟩
        case measure => simp [intOf]; omega
    · obtain rfl : k = n := by omega
      go_wp2
      go_ret
      exact ⟨by rw [ht.out]; rfl, rfl⟩
theorem isP_any (v : Value) (l : List Nat) (w : World) (hv : BW w v l) (hT : WorthIn w) :
    Calls Tryd.prog 20 #[v] w fun e w' => e = .returned (.bool (isPg l)) ∧ Below w.heap.size w w' := by
  obtain ⟨a, c, rfl, hs, h1, h2⟩ := hv.ex
  have H := Lib.hid (open_anyM a l.length c l rfl w hv.b8 h1 h2 hs hT)
  unfold isPg
  obtain ⟨q, hq⟩ : ∃ q, (opS l).2.2 = q := ⟨_, rfl⟩
  rw [hq] at H ⊢
  clear hq hs h1 h2 hv
  by_cases h0 : q = 0
  · subst h0
    go_enter Tryd.func20, Tryd.ntmps20
    go_wp2_with fail
    refine H.out.mono ?_
    rintro e w' ⟨u, rfl, _, hb⟩
    rw [show errS 0 = .nilIface from rfl]
    have HB := Lib.hid hb
    clear hb
    go_wp2
    go_ret
    exact ⟨rfl, HB.out⟩
  · rw [show errS q = .iface 61 (.int .i64 q) by unfold errS; rw [if_neg h0]] at H
    have e1 : (q == 0) = false := by simpa using h0
    rw [e1]
    clear e1 h0
    go_enter Tryd.func20, Tryd.ntmps20
    go_wp2_with fail
    refine H.out.mono ?_
    rintro e w' ⟨u, rfl, _, hb⟩
    have HB := Lib.hid hb
    clear hb
    go_wp2
    go_ret
    exact ⟨rfl, HB.out⟩
theorem rblank_any (a : Option Addr) (n c : Nat) (l : List Nat) (hn : l.length = n) (w : World) (hl : n ≤ 9223372036854775807) (hs : Src w a l) :
    Calls Tryd.prog 17 #[.slice a n c] w fun e w' => e = .returned (.bool (allZero l)) ∧ w = w' := by
  have Hs := Lib.hid hs
  have Hn := Lib.hid hn
  clear hs hn
  obtain ⟨D, hD⟩ : ∃ D, allZero l = D := ⟨_, rfl⟩
  rw [hD]
  have HD := Lib.hid hD
  clear hD
  go_enter Tryd.func17, Tryd.ntmps17
  go_wp2
  go_loopw [3] (fun i wr => ∃ k : Nat, i = .int .i64 k ∧ k ≤ n ∧ Hid (allZero (l.drop k) = D) ∧ w = wr) (fun i _ => n - (intOf i).toNat)
  case atStart => exact ⟨0, rfl, by omega, HD.out, rfl⟩
  case round =>
    obtain ⟨k, rfl, hk, ht, rfl⟩ := hrel
    by_cases hlt : k < n
    · obtain ⟨b, o, rfl, hc⟩ := Hs.out (by rw [Hn.out]; omega)
      have hcell := hc k (by rw [Hn.out]; exact hlt)
      have i1 : (k : Int) < (n : Int) := by omega
      have hdk : allZero (l.drop k) = (l.getD k 0 == 0 && allZero (l.drop (k + 1))) := by
        have hk' : k < l.length := by rw [Hn.out]; exact hlt
        have e : l.getD k 0 = l[k] := by simp [List.getD, hk']
        unfold allZero
        rw [List.drop_eq_getElem_cons hk', List.all_cons, e]
      clear hc
      generalize l.getD k 0 = X at *
      by_cases hX : X = 0
      · subst hX
        have Hr : Hid (allZero (l.drop (k + 1)) = D) := by rw [← ht.out, hdk]; exact rfl
        clear hdk ht
        go_wp2
        go_roundw
        case rel => exact ⟨k + 1, by go_num, by omega, Hr, trivial⟩
        case measure => simp [intOf]; omega
      · have e1 : ((X : Int) != 0) = true := by
          show (!(_ == _)) = true
          rw [beq_eq_false_iff_ne.2 (by omega)]; rfl
        have Hr : Hid (D = false) := by rw [← ht.out, hdk, beq_eq_false_iff_ne.2 hX]; exact rfl
        clear hdk ht hX
        go_wp2
        go_ret
        exact ⟨by rw [Hr.out]; rfl, rfl⟩
    · obtain rfl : k = n := by omega
      have Hr : Hid (D = true) := by
        rw [← ht.out, List.drop_of_length_le (by rw [Hn.out]; exact Nat.le_refl _)]; exact rfl
      clear ht
      go_wp2
      go_ret
      exact ⟨by rw [Hr.out]; rfl, rfl⟩
theorem wraps_i63 (n : Int) (h₀ : 0 ≤ n) (h₁ : n < 2 ^ 63) : IntKind.i64.wrap n = n := by rw [IntKind.wrap_i64]; omega
theorem beh_any (b o c : Nat) (l : List Nat) (w : World) (hl : l.length = 512) (hc : 512 ≤ c) (hcm : c ≤ 9223372036854775807) (hb : B8 l) (hs : Cs w b o l) :
    Calls Tryd.prog 18 #[.slice (some ⟨b, o, none⟩) 512 c] w fun e w' => (∃ (q : Nat) (r : Nat), e = .returned (.slice (some ⟨b, q, none⟩) (behL l).length r) ∧ Cs w b q (behL l)) ∧ w.drew = w' := by
  have c2 := hs 2 (by omega)
  have c3 := hs 3 (by omega)
  have hx := hb.get 2
  have hy := hb.get 3
  have hL := behL_len hl
  have hcs : Cs w b (o + (4 + min (ldN l) 504)) (behL l) := (hs.start 508).rest (4 + min (ldN l) 504)
  unfold ldN at hL hcs
  generalize behL l = L at *
  generalize l.getD 2 0 = X at *
  generalize l.getD 3 0 = Y at *
  have e1 : IntKind.i64.wrap ((X : Int) * 256) = ((X * 256 : Nat) : Int) := by rw [IntKind.wrap_i64]; omega
  have wX : IntKind.i64.wrap (X : Int) = (X : Int) := by rw [IntKind.wrap_i64]; omega
  have wY : IntKind.i64.wrap (Y : Int) = (Y : Int) := by rw [IntKind.wrap_i64]; omega
  have e2 : bits .or .i64 ((X * 256 : Nat) : Int) (Y : Int) = ((X * 256 + Y : Nat) : Int) := by
    rw [bits_join .i64 63 (by decide) wraps_i63 8 _ _ (by omega) (by omega) (by omega) (by omega) (by omega) (by omega)]
    omega
  have hN8 : X * 256 + Y < 65536 := by omega
  have W8 : X * 256 < 65536 := Nat.lt_of_le_of_lt (Nat.le_add_right _ Y) hN8
  generalize X * 256 + Y = N at *
  generalize X * 256 = X8 at *
  have e3 : min (N : Int) 504 = ((min N 504 : Nat) : Int) := by omega
  have hM5 : min N 504 ≤ 504 := Nat.min_le_right _ _
  generalize min N 504 = M at *
  have e4 : IntKind.i64.wrap (4 + (M : Int)) = ((4 + M : Nat) : Int) := by rw [IntKind.wrap_i64]; omega
  have e5 : 508 - (4 + M) = L.length := by omega
  have HL := Lib.hid (And.intro hL (And.intro hcs e5))
  clear hL hcs hN8 e5 hl
  have hM6 : 4 + M ≤ 508 := by omega
  have hM7 : ((4 + M : Nat) : Int) ≤ 508 := by omega
  have hM8 : (0 : Int) ≤ ((4 + M : Nat) : Int) := by omega
  have hc5 : (508 : Int) ≤ (c : Int) := by omega
  have hcne : ¬ (c : Int) = ((4 + M : Nat) : Int) := by omega
  generalize 4 + M = R at *
  obtain ⟨W1, hW1⟩ : ∃ W1, w.drew = W1 := ⟨_, rfl⟩
  have q2 : ∀ w', Ext W1 w' → w'.cell? ⟨b, o + 2, none⟩ = some (.int .u8 (X : Nat)) := fun w' he => by rw [← hW1] at he; exact (he.cell (p := ⟨b, o + 2, none⟩) (block_lt_of_cell c2)).trans c2
  have q3 : ∀ w', Ext W1 w' → w'.cell? ⟨b, o + 3, none⟩ = some (.int .u8 (Y : Nat)) := fun w' he => by rw [← hW1] at he; exact (he.cell (p := ⟨b, o + 3, none⟩) (block_lt_of_cell c3)).trans c3
  have HW1 := Lib.hid hW1
  rw [hW1]
  clear hW1 c2 c3
  go_enter Tryd.func18, Tryd.ntmps18
  go_wp2_with fail
  refine wp_region_gr [(0, true), (1, true), (2, true), (3, true), (4, true), (5, true), (6, true), (7, true), (8, true), (9, true), (10, true)] (by kernel_rfl) (by kernel_rfl) (by kernel_rfl) (by kernel_rfl) (fun _ _ _ _ _ h => h) ?_
  rw [HW1.out]
  iterate 11 (refine wpGr_read (o := ⟨_, _, _, _, _, _⟩) (v := ?_) rfl (by rfl) ?_ ?_; rotate_left; (intro w' hw'; go_simp; with_reducible rfl); simp only [Act.put, List.setIfInBounds_toArray, List.set_cons_zero, List.set_cons_succ])
  refine wpGr_done ?_
  go_wp2
  go_ret
  exact ⟨⟨_, _, by rw [← HL.out.2.2]; rfl, HL.out.2.1⟩, rfl⟩
end Go.Proofs.YtfjjfickbhkpaaaDoor
namespace Go.Proofs.YtfjjfickbhkpaaaDoor
open Go Go.RowKit

theorem PgV.arg {w : World} {v : Value} {is : List Int} (h : PgV w v is) : ∃ a c, v = .slice a is.length c ∧ PgS w a is := by
  obtain ⟨a, c, rfl, hs, _⟩ := h
  exact ⟨a, c, rfl, hs⟩
theorem PgIn.at {w : World} {a : Option Addr} {P : List (List Nat)} (h : PgIn w a P) {k : Nat} (hk : k < P.length) : ∃ g o ad m cc, a = some ⟨g, o, none⟩ ∧ w.cell? ⟨g, o + k, none⟩ = some (.slice ad m cc) ∧ (pgK P k).length = m ∧ Src w ad (pgK P k) ∧ m ≤ cc ∧ cc ≤ 140737488355328 ∧ B8 (pgK P k) := by
  obtain ⟨g, o, v, ha, hc, hv⟩ := h k hk
  obtain ⟨ad, cc, rfl, hs, h1, h2⟩ := hv.ex
  exact ⟨g, o, ad, _, cc, ha, hc, rfl, hs, h1, h2, hv.b8⟩
theorem PgW.at {w : World} {a : Option Addr} {P : List (List Nat)} (h : PgW w a P) {k : Nat} (hk : k < P.length) : ∃ g o ad m cc, a = some ⟨g, o, none⟩ ∧ w.cell? ⟨g, o + k, none⟩ = some (.slice ad m cc) ∧ (pgK P k).length = m ∧ Src w ad (pgK P k) ∧ m ≤ cc ∧ cc ≤ 9223372036854775807 ∧ B8 (pgK P k) := by
  obtain ⟨g, o, v, ha, hc, hv⟩ := h k hk
  obtain ⟨ad, cc, rfl, hs, h1, h2⟩ := hv.ex
  exact ⟨g, o, ad, _, cc, ha, hc, rfl, hs, h1, h2, hv.b8⟩
set_option maxRecDepth 100000 in
theorem dirty_any (a : Option Addr) (n c : Nat) (P : List (List Nat)) (f : Nat → Bool) (hn : P.length = n) (w : World) (hl : n ≤ 1000) (hP : PgW w a P) :
    Calls Tryd.prog 6 #[.slice a n c, .agg (sc f)] w fun e w' => ∃ v, e = .returned v ∧ PgV w' v (dirL f P n) ∧ Below w.heap.size w w' := by
  have HP := Lib.hid hP
  have HN := Lib.hid hn
  clear hP hn
  go_enter Tryd.func6, Tryd.ntmps6
  go_wp2_with (first | (refine wpList_box_arr rfl TS (.tmp 1) rfl (sc f) (by rfl) ?_; intro g1 w1 hg1 hk1 hb1))
  have HK := Lib.hid hk1
  have H1 := Lib.hid hb1
  replace HP := Lib.hid (HP.out.below hb1 (Nat.le_refl _))
  clear hg1 hk1 hb1
  go_loopw [5, 6, 7, 10] (fun u _ _ i wr => ∃ (k : Nat) (v : Value), v = u ∧ i = .int .i64 k ∧ k ≤ n ∧ Hid (wr.ownsRow w1.heap.size ZT 1 v (dirL f P k).length (iv (dirL f P k))) ∧ Hid (Below w1.heap.size w1 wr)) (fun _ _ _ i _ => n - (intOf i).toNat)
  case atStart => exact ⟨0, _, rfl, rfl, by omega, World.ownsRow_nil _ _ _ _, Below.refl _ _⟩
  case round =>
    obtain ⟨k, v, rfl, rfl, hk, hown, hB⟩ := hrel
    by_cases hlt : k < n
    · obtain ⟨g, o, ad, m, cc, rfl, hcell, hm, hsrc, hmc, hcm, hb8⟩ := (HP.out.below hB.out (Nat.le_refl _)).at (k := k) (by rw [HN.out]; exact hlt)
      have i1 : (k : Int) < (n : Int) := by omega
      have hdy := fun h => @dirL_yes f P k h
      have hdn := fun h => @dirL_no f P k h
      have hhas := Lib.hid (fun w => bhas_any f (k : Int) w)
      have hk3 := HK.out.ext hB.out
      have hle := Lib.hid (dirL_le f P k)
      unfold dirB at hdy hdn
      have hbl := Lib.hid (fun w hs => blank_any ad m cc (pgK P k) hm w (by omega) hs)
      generalize inB f (k : Int) = D at *
      generalize allZero (pgK P k) = E at *
      by_cases h2 : k < 2
      · have e2 : decide (2 ≤ k) = false := decide_eq_false (by omega)
        have e3 : decide ((2 : Int) ≤ (k : Int)) = false := decide_eq_false (by omega)
        have hst := hdn (by rw [e2]; rfl)
        have ho2 : Hid (wr.ownsRow w1.heap.size ZT 1 v (dirL f P (k + 1)).length (iv (dirL f P (k + 1)))) := by rw [hst]; exact hown
        clear hdy hdn hst hown h2 hsrc hm hmc hcm hb8 hk3
        go_wp2
        go_roundw
        case rel => exact ⟨k + 1, v, rfl, by go_num, by omega, ho2, hB⟩
        case measure => simp [intOf]; omega
      · have e2 : decide (2 ≤ k) = true := decide_eq_true (by omega)
        have e3 : decide ((2 : Int) ≤ (k : Int)) = true := decide_eq_true (by omega)
        rw [e2] at hdy hdn
        cases hD : D with
        | true =>
          subst hD
          have hst := hdn rfl
          have ho2 := Lib.hid (show wr.ownsRow w1.heap.size ZT 1 v (dirL f P (k + 1)).length (iv (dirL f P (k + 1))) by rw [hst]; exact hown.out)
          clear hdy hdn hst h2 hsrc hm hmc hcm hb8
          go_wp2_with (first | (show wpList _ _ _ (⟨some 18, _, _, _, _, _⟩ :: _) _ _; refine wpList_load_when (by rfl) TS (.tmp 3) rfl g1 f TS (by rfl) arr_TS hk3 ?_))
          refine (hhas.out wr).mono ?_
          rintro e w2 ⟨rfl, hb2⟩
          replace ho2 := Lib.hid (own_below ho2.out hb2 (Nat.le_refl _))
          replace hB := Lib.hid (hB.out.trans (hb2.mono hB.out.size))
          clear hb2 hk3 hcell hown
          go_wp2
          go_roundw
          case rel => exact ⟨k + 1, v, rfl, by go_num, by omega, ho2, hB⟩
          case measure => simp [intOf]; omega
        | false =>
          subst hD
          have Hsrc := Lib.hid hsrc
          clear h2 hsrc hm hmc hcm hb8
          go_wp2_with (first | (show wpList _ _ _ (⟨some 18, _, _, _, _, _⟩ :: _) _ _; refine wpList_load_when (by rfl) TS (.tmp 3) rfl g1 f TS (by rfl) arr_TS hk3 ?_))
          refine (hhas.out wr).mono ?_
          rintro e w2 ⟨rfl, hb2⟩
          replace hown := Lib.hid (own_below hown.out hb2 (Nat.le_refl _))
          replace hB := Lib.hid (hB.out.trans (hb2.mono hB.out.size))
          replace Hsrc := Lib.hid (Hsrc.out.below hb2 (Nat.le_refl _))
          clear hb2 hk3 hcell
          go_wp2_with fail
          refine (hbl.out w2 Hsrc.out).mono ?_
          rintro e w3 ⟨rfl, rfl⟩
          cases hE : E with
          | true =>
            subst hE
            have hst := hdn rfl
            have ho2 := Lib.hid (show w2.ownsRow w1.heap.size ZT 1 v (dirL f P (k + 1)).length (iv (dirL f P (k + 1))) by rw [hst]; exact hown.out)
            clear hst hdy hdn
            go_wp2
            go_roundw
            case rel => exact ⟨k + 1, v, rfl, by go_num, by omega, ho2, hB⟩
            case measure => simp [intOf]; omega
          | false =>
            subst hE
            have Hst := Lib.hid (hdy rfl)
            have hsz := hB.out.size
            have hnew := Lib.hid (zcell_new w2 ZT (k : Int))
            clear hdy hdn
            go_wp2_with (at_builtin; refine wpList_append_page rfl (.tmp 28) (.tmp 30) SZT rfl w1.heap.size ZT Tryd.underlying27 infoInt _ (dirL f P k) (by rfl) (hown.out.alloc _) w2.heap.size 1 (k : Int) (by rfl) hnew.out (by have := hle.out; omega) (by simp; omega) ?_; intro v4 w4 hown4 hgrow4)
            have hb4 : Hid (Below w1.heap.size w1 w4) := (hB.out.alloc hsz _).grown hgrow4.out (by simp; omega) (fun j hj => (hown.out.lt j hj).1)
            have ho4 : Hid (w4.ownsRow w1.heap.size ZT 1 v4 (dirL f P (k + 1)).length (iv (dirL f P (k + 1)))) := by rw [Hst.out]; exact hown4
            clear hown4 hgrow4 hown hB Hst hnew hsz
            go_wp2
            go_roundw
            case rel => exact ⟨k + 1, v4, rfl, by go_num, by omega, ho4, hb4⟩
            case measure => simp [intOf]; omega
    · obtain rfl : k = n := by omega
      go_wp2
      go_ret
      exact ⟨_, rfl, own_pages hown.out, H1.out.trans (hB.out.mono H1.out.size)⟩
end Go.Proofs.YtfjjfickbhkpaaaDoor
namespace Go.Proofs.YtfjjfickbhkpaaaDoor
open Go Go.RowKit

theorem len_zero {α : Type} (l : List α) : ∃ D, (((l.length : Nat) : Int) == 0) = D ∧ (l.length == 0) = D := ⟨_, rfl, by
  rw [Bool.eq_iff_iff, beq_iff_eq, beq_iff_eq]; omega⟩
set_option maxRecDepth 100000 in
theorem clean_any (a : Option Addr) (n c : Nat) (P : List (List Nat)) (f : Nat → Bool) (hn : P.length = n) (w : World) (hl : n ≤ 1000) (hP : PgW w a P) (hT : WorthIn w) :
    Calls Tryd.prog 10 #[.slice a n c, .agg (sc f)] w fun e w' => e = .returned (.bool (clnS f P n)) ∧ Below w.heap.size w w' := by
  have HP := Lib.hid hP
  have HN := Lib.hid hn
  have HT := Lib.hid hT
  clear hP hn hT
  have hdir := Lib.hid (fun w1 h => dirty_any a n c P f HN.out w1 hl h)
  obtain ⟨R, hR⟩ : ∃ R, clnS f P n = R := ⟨_, rfl⟩
  rw [hR]
  have HR := Lib.hid hR
  clear hR
  go_enter Tryd.func10, Tryd.ntmps10
  go_wp2_with (first | (refine wpList_box_arr rfl TS (.tmp 1) rfl (sc f) (by rfl) ?_; intro g1 w1 hg1 hk1 hb1))
  have HK := Lib.hid hk1
  have H1 := Lib.hid hb1
  replace HP := Lib.hid (HP.out.below hb1 (Nat.le_refl _))
  replace HT := Lib.hid (HT.out.below hb1)
  clear hg1 hk1 hb1
  go_loopw [5, 6, 9] (fun _ _ i wr => ∃ k : Nat, i = .int .i64 k ∧ k ≤ n ∧ Hid (clnL f P k = true) ∧ Hid (Below w1.heap.size w1 wr)) (fun _ _ i _ => n - (intOf i).toNat)
  case atStart => exact ⟨0, rfl, by omega, rfl, Below.refl _ _⟩
  case round =>
    obtain ⟨k, rfl, hk, hcl, hB⟩ := hrel
    by_cases hlt : k < n
    · obtain ⟨g, o, ad, m, cc, rfl, hcell, hm, hsrc, hmc, hcm, hb8⟩ := (HP.out.below hB.out (Nat.le_refl _)).at (k := k) (by rw [HN.out]; exact hlt)
      have i1 : (k : Int) < (n : Int) := by omega
      have hcy := fun h => @clnL_yes f P k hcl.out h
      have hcn := fun h => @clnL_no f P k h n hlt
      have hhas := Lib.hid (fun w => bhas_any f (k : Int) w)
      have hk3 := HK.out.ext hB.out
      unfold clnB at hcy hcn
      have hv : BW wr (.slice ad m cc) (pgK P k) := ⟨⟨ad, cc, by rw [hm], hsrc, by omega, hcm⟩, hb8⟩
      have hip := Lib.hid (fun w hv hT => isP_any (.slice ad m cc) (pgK P k) w hv hT)
      have Hv := Lib.hid hv
      clear hv hsrc hm hmc hcm hb8
      generalize inB f (k : Int) = D at *
      generalize isPg (pgK P k) = E at *
      by_cases h2 : k < 2
      · have e2 : decide (2 ≤ k) = false := decide_eq_false (by omega)
        have e3 : decide ((2 : Int) ≤ (k : Int)) = false := decide_eq_false (by omega)
        have Hst := Lib.hid (hcy (by rw [e2]; rfl))
        clear hcy hcn h2 hk3 hcl
        go_wp2
        go_roundw
        case rel => exact ⟨k + 1, by go_num, by omega, Hst, hB⟩
        case measure => simp [intOf]; omega
      · have e2 : decide (2 ≤ k) = true := decide_eq_true (by omega)
        have e3 : decide ((2 : Int) ≤ (k : Int)) = true := decide_eq_true (by omega)
        rw [e2] at hcy hcn
        clear h2
        cases hD : D with
        | false =>
          subst hD
          have Hst := Lib.hid (hcy rfl)
          clear hcy hcn hcl
          go_wp2_with (first | (show wpList _ _ _ (⟨some 17, _, _, _, _, _⟩ :: _) _ _; refine wpList_load_when (by rfl) TS (.tmp 3) rfl g1 f TS (by rfl) arr_TS hk3 ?_))
          refine (hhas.out wr).mono ?_
          rintro e w2 ⟨rfl, hb2⟩
          replace hB := Lib.hid (hB.out.trans (hb2.mono hB.out.size))
          clear hb2 hk3 hcell
          go_wp2
          go_roundw
          case rel => exact ⟨k + 1, by go_num, by omega, Hst, hB⟩
          case measure => simp [intOf]; omega
        | true =>
          subst hD
          go_wp2_with (first | (show wpList _ _ _ (⟨some 17, _, _, _, _, _⟩ :: _) _ _; refine wpList_load_when (by rfl) TS (.tmp 3) rfl g1 f TS (by rfl) arr_TS hk3 ?_))
          refine (hhas.out wr).mono ?_
          rintro e w2 ⟨rfl, hb2⟩
          replace hB := Lib.hid (hB.out.trans (hb2.mono hB.out.size))
          replace Hv := Lib.hid (Hv.out.ext hb2)
          clear hb2 hk3 hcell
          go_wp2_with fail
          refine (hip.out w2 Hv.out (HT.out.below hB.out)).mono ?_
          rintro e w3 ⟨rfl, hb3⟩
          replace hB := Lib.hid (hB.out.trans (hb3.mono hB.out.size))
          clear hb3
          cases hE : E with
          | true =>
            subst hE
            have Hst := Lib.hid (hcy rfl)
            clear hcy hcn hcl
            go_wp2
            go_roundw
            case rel => exact ⟨k + 1, by go_num, by omega, Hst, hB⟩
            case measure => simp [intOf]; omega
          | false =>
            subst hE
            have Hst : Hid (R = false) := by
              rw [← HR.out]; unfold clnS; rw [hcn rfl]; exact rfl
            clear hcy hcn hcl
            go_wp2
            go_ret
            exact ⟨by rw [Hst.out]; rfl, H1.out.trans (hB.out.mono H1.out.size)⟩
    · obtain rfl : k = n := by omega
      have hk3 := HK.out.ext hB.out
      obtain ⟨D, hD1, hD2⟩ := len_zero (dirL f P k)
      have HD : Hid (R = D) := by
        rw [← HR.out]; unfold clnS; rw [hcl.out, hD2]; exact Bool.true_and _
      clear hcl hD2
      go_wp2_with (first | (refine wpList_load_sc rfl TS (.tmp 3) rfl g1 f TS (by rfl) arr_TS hk3 ?_))
      refine (hdir.out wr (HP.out.below hB.out (Nat.le_refl _))).mono ?_
      rintro e w2 ⟨v, rfl, hv, hb2⟩
      obtain ⟨av, cv, rfl, _⟩ := hv
      replace hB := Lib.hid (hB.out.trans (hb2.mono hB.out.size))
      clear hb2 hk3
      generalize (dirL f P k).length = L at *
      go_wp2
      go_ret
      exact ⟨by rw [HD.out]; rfl, H1.out.trans (hB.out.mono H1.out.size)⟩
set_option maxRecDepth 100000 in
theorem slack_any (a : Option Addr) (n c : Nat) (P : List (List Nat)) (f : Nat → Bool) (hn : P.length = n) (w : World) (hl : n ≤ 1000) (hP : PgW w a P) :
    Calls Tryd.prog 8 #[.slice a n c, .agg (sc f)] w fun e w' => e = .returned (.tuple #[.int .i64 (slA f P n : Nat), .int .i64 (slW f P n : Nat)]) ∧ Below w.heap.size w w' := by
  have HP := Lib.hid hP
  have HN := Lib.hid hn
  clear hP hn
  go_enter Tryd.func8, Tryd.ntmps8
  go_wp2_with (first | (refine wpList_box_arr rfl TS (.tmp 1) rfl (sc f) (by rfl) ?_; intro g1 w1 hg1 hk1 hb1))
  have HK := Lib.hid hk1
  have H1 := Lib.hid hb1
  replace HP := Lib.hid (HP.out.below hb1 (Nat.le_refl _))
  clear hg1 hk1 hb1
  go_loopw [6, 7, 8, 9, 10, 13] (fun x y _ _ _ i wr => ∃ k A B : Nat, x = .int .i64 A ∧ y = .int .i64 B ∧ i = .int .i64 k ∧ k ≤ n ∧ A ≤ 504 * k ∧ B ≤ 504 * k ∧ Hid (slA f P k = A) ∧ Hid (slW f P k = B) ∧ Hid (Below w1.heap.size w1 wr)) (fun _ _ _ _ _ i _ => n - (intOf i).toNat)
  case atStart => exact ⟨0, 0, 0, rfl, rfl, rfl, by omega, by omega, by omega, rfl, rfl, Below.refl _ _⟩
  case round =>
    obtain ⟨k, A, B, rfl, rfl, rfl, hk, hA5, hB5, hA, hBw, hB⟩ := hrel
    by_cases hlt : k < n
    · obtain ⟨g, o, ad, m, cc, rfl, hcell, hm, hsrc, hmc, hcm, hb8⟩ := (HP.out.below hB.out (Nat.le_refl _)).at (k := k) (by rw [HN.out]; exact hlt)
      have i1 : (k : Int) < (n : Int) := by omega
      have hsn := fun h => @sl_no f P k h
      have hsy := fun h => @sl_yes f P k h
      have hhas := Lib.hid (fun w => bhas_any f (k : Int) w)
      have hk3 := HK.out.ext hB.out
      unfold slB at hsn hsy
      rw [hm, hA.out, hBw.out] at hsn hsy
      generalize inB f (k : Int) = D at *
      by_cases h2 : k < 2
      · have e2 : decide (2 ≤ k) = false := decide_eq_false (by omega)
        have e3 : decide ((k : Int) < 2) = true := decide_eq_true (by omega)
        have hst := hsn (by rw [e2]; rfl)
        have HA2 := Lib.hid hst.1
        have HB2 := Lib.hid hst.2
        clear hst hsn hsy h2 hk3 hA hBw hsrc hm hmc hcm hb8
        go_wp2
        go_roundw
        case rel => exact ⟨k + 1, A, B, rfl, rfl, by go_num, by omega, by omega, by omega, HA2, HB2, hB⟩
        case measure => simp [intOf]; omega
      · have e2 : decide (2 ≤ k) = true := decide_eq_true (by omega)
        have e3 : decide ((k : Int) < 2) = false := decide_eq_false (by omega)
        rw [e2] at hsn hsy
        clear h2
        cases hD : D with
        | false =>
          subst hD
          have hst := hsn rfl
          have HA2 := Lib.hid hst.1
          have HB2 := Lib.hid hst.2
          clear hst hsn hsy hA hBw hsrc hm hmc hcm hb8
          go_wp2_with (first | (show wpList _ _ _ (⟨some 21, _, _, _, _, _⟩ :: _) _ _; refine wpList_load_when (by rfl) TS (.tmp 3) rfl g1 f TS (by rfl) arr_TS hk3 ?_))
          refine (hhas.out wr).mono ?_
          rintro e w2 ⟨rfl, hb2⟩
          replace hB := Lib.hid (hB.out.trans (hb2.mono hB.out.size))
          clear hb2 hk3 hcell
          go_wp2
          go_roundw
          case rel => exact ⟨k + 1, A, B, rfl, rfl, by go_num, by omega, by omega, by omega, HA2, HB2, hB⟩
          case measure => simp [intOf]; omega
        | true =>
          subst hD
          by_cases h5 : m = 512
          · subst h5
            have hst := hsy rfl
            obtain ⟨b, q, rfl, hcs⟩ := hsrc (by omega)
            have hlb := hcs.lt (by omega)
            have hbeh := Lib.hid (fun w hs => beh_any b q cc (pgK P k) w hm hmc hcm hb8 hs)
            have Hcs := Lib.hid hcs
            have hnz := Lib.hid (fun a c w h => nz_any a (behL (pgK P k)).length c (behL (pgK P k)) rfl w h)
            have hL5 := behL_le (pgK P k)
            have hZ5 := nzK_le (behL (pgK P k)) (behL (pgK P k)).length
            have HL : Hid (∀ b q w, Cs w b q (behL (pgK P k)) → Src w (some ⟨b, q, none⟩) (behL (pgK P k))) := fun b q w h => h.src
            clear hm hmc hcm hb8 hsrc hsn hsy hcs
            generalize hBL : behL (pgK P k) = BL at *
            generalize nzK BL BL.length = Z at *
            have HA2 := Lib.hid hst.1
            have HB2 := Lib.hid hst.2
            have w1e : IntKind.i64.wrap ((A : Int) + (BL.length : Int)) = ((A + BL.length : Nat) : Int) := by rw [IntKind.wrap_i64]; omega
            have w2e : IntKind.i64.wrap ((B : Int) + (Z : Int)) = ((B + Z : Nat) : Int) := by rw [IntKind.wrap_i64]; omega
            clear hst hA hBw hBL
            generalize BL.length = Y at *
            go_wp2_with (first | (show wpList _ _ _ (⟨some 21, _, _, _, _, _⟩ :: _) _ _; refine wpList_load_when (by rfl) TS (.tmp 3) rfl g1 f TS (by rfl) arr_TS hk3 ?_))
            refine (hhas.out wr).mono ?_
            rintro e w2 ⟨rfl, hb2⟩
            replace hB := Lib.hid (hB.out.trans (hb2.mono hB.out.size))
            replace Hcs := Lib.hid (Hcs.out.below hb2 hlb)
            clear hb2 hk3 hcell hlb
            go_wp2_with fail
            refine (hbeh.out w2 Hcs.out).mono ?_
            rintro e w3 ⟨⟨q2, r2, rfl, hcs3⟩, hw3⟩
            replace hB : Hid (Below w1.heap.size w1 w3) := by rw [← hw3]; exact hB.out.trans (Below.refl _ _).drew
            replace hcs3 : Cs w3 b q2 BL := by rw [← hw3]; exact hcs3
            clear hw3
            go_wp2_with fail
            refine (hnz.out _ _ w3 (by omega) (HL.out _ _ _ hcs3)).mono ?_
            rintro e w4 ⟨rfl, rfl⟩
            clear hcs3 hbeh hnz HL
            go_wp2
            go_roundw
            case rel => exact ⟨k + 1, A + Y, B + Z, rfl, rfl, by go_num, by omega, by omega, by omega, HA2, HB2, hB⟩
            case measure => simp [intOf]; omega
          · have h5' : ((m : Int) != 512) = true := by
              show (!(_ == _)) = true
              rw [beq_eq_false_iff_ne.2 (by omega)]; rfl
            have hst := hsn (by rw [decide_eq_false h5]; rfl)
            have HA2 := Lib.hid hst.1
            have HB2 := Lib.hid hst.2
            clear hst hsn hsy hA hBw hsrc hm hmc hcm hb8 h5
            go_wp2_with (first | (show wpList _ _ _ (⟨some 21, _, _, _, _, _⟩ :: _) _ _; refine wpList_load_when (by rfl) TS (.tmp 3) rfl g1 f TS (by rfl) arr_TS hk3 ?_))
            refine (hhas.out wr).mono ?_
            rintro e w2 ⟨rfl, hb2⟩
            replace hB := Lib.hid (hB.out.trans (hb2.mono hB.out.size))
            clear hb2 hk3 hcell
            go_wp2
            go_roundw
            case rel => exact ⟨k + 1, A, B, rfl, rfl, by go_num, by omega, by omega, by omega, HA2, HB2, hB⟩
            case measure => simp [intOf]; omega
    · obtain rfl : k = n := by omega
      go_wp2
      go_ret2
      exact ⟨by rw [hA.out, hBw.out]; rfl, H1.out.trans (hB.out.mono H1.out.size)⟩
end Go.Proofs.YtfjjfickbhkpaaaDoor
