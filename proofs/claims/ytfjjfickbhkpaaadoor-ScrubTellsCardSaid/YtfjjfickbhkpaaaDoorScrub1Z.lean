/-
  scrub's notNoughts, behind, isPage; the document's blank.
-/
import Derived.Test.YtfjjfickbhkpaaaDoorScrubMathZ
import Derived.Test.YtfjjfickbhkpaaaDoorSheet3Z
import Derived.Test.YtfjjfickbhkpaaaDoorPgInZ
import Derived.Lib.MinMax
import Derived.Lib.EndianBits
namespace Go.Proofs.YtfjjfickbhkpaaaDoor
open Go Go.RowKit

theorem nz_any (a : Option Addr) (n c : Nat) (l : List Nat) (hn : l.length = n) (w : World) (hl : n ≤ 100000) (hs : Src w a l) :
    Calls Tryd.prog 19 #[.slice a n c] w fun e w' => e = .returned (.int .i64 (nzK l n : Nat)) ∧ w = w' := by
  have Hs := Lib.hid hs
  have Hn := Lib.hid hn
  clear hs hn
  go_enter Tryd.func19, Tryd.ntmps19
  go_wp2
  go_loopw [3, 5, 8] (fun m _ i wr => ∃ k t : Nat, m = .int .i64 t ∧ i = .int .i64 k ∧ k ≤ n ∧ t ≤ k ∧ Hid (nzK l k = t) ∧ w = wr) (fun _ _ i _ => n - (intOf i).toNat)
  case atStart => exact ⟨0, 0, rfl, rfl, by omega, by omega, rfl, rfl⟩
  case round =>
    obtain ⟨k, t, rfl, rfl, hk, htk, ht, rfl⟩ := hrel
    by_cases hlt : k < n
    · obtain ⟨b, o, rfl, hc⟩ := Hs.out (by rw [Hn.out]; omega)
      have hcell := hc k (by rw [Hn.out]; exact hlt)
      have i1 : (k : Int) < (n : Int) := by omega
      have hy := fun h => @nzK_yes l k h
      have hno := fun h => @nzK_no l k h
      clear hc
      generalize l.getD k 0 = X at *
      by_cases hX : X = 0
      · subst hX
        have Hr := Lib.hid ((hy rfl).trans ht.out)
        clear hy hno ht
        go_wp2
        go_roundw
        case rel => exact ⟨k + 1, t, rfl, by go_num, by omega, by omega, Hr, trivial⟩
        case measure => simp [intOf]; omega
      · have e1 : ((X : Int) != 0) = true := by
          show (!(_ == _)) = true
          rw [beq_eq_false_iff_ne.2 (by omega)]; rfl
        have Hr : Hid (nzK l (k + 1) = t + 1) := by rw [hno hX, ht.out]; exact rfl
        clear hy hno ht hX
        go_wp2
        go_roundw
        case rel => exact ⟨k + 1, t + 1, by go_num, by go_num, by omega, by omega, Hr, trivial⟩
        case measure => simp [intOf]; omega
    · obtain rfl : k = n := by omega
      go_wp2
      go_ret
      exact ⟨by rw [ht.out]; rfl, rfl⟩
theorem isP_any (v : Value) (l : List Nat) (w : World) (hv : BW w v l) (hT : WorthIn w) :
    Calls Tryd.prog 20 #[v] w fun e w' => e = .returned (.bool (isPg l)) ∧ Below w.heap.size w w' := by
  obtain ⟨a, c, rfl, hs, h1, h2⟩ := hv.ex
  have H := Lib.hid (open_anyM a l.length c l rfl w hv.b8 h1 h2 hs hT)
  unfold isPg
  obtain ⟨q, hq⟩ : ∃ q, (opS l).2.2 = q := ⟨_, rfl⟩
  rw [hq] at H ⊢
  clear hq hs h1 h2 hv
  by_cases h0 : q = 0
  · subst h0
    go_enter Tryd.func20, Tryd.ntmps20
    go_wp2_with fail
    refine H.out.mono ?_
    rintro e w' ⟨u, rfl, _, hb⟩
    rw [show errS 0 = .nilIface from rfl]
    have HB := Lib.hid hb
    clear hb
    go_wp2
    go_ret
    exact ⟨rfl, HB.out⟩
  · rw [show errS q = .iface 61 (.int .i64 q) by unfold errS; rw [if_neg h0]] at H
    have e1 : (q == 0) = false := by simpa using h0
    rw [e1]
    clear e1 h0
    go_enter Tryd.func20, Tryd.ntmps20
    go_wp2_with fail
    refine H.out.mono ?_
    rintro e w' ⟨u, rfl, _, hb⟩
    have HB := Lib.hid hb
    clear hb
    go_wp2
    go_ret
    exact ⟨rfl, HB.out⟩
theorem rblank_any (a : Option Addr) (n c : Nat) (l : List Nat) (hn : l.length = n) (w : World) (hl : n ≤ 9223372036854775807) (hs : Src w a l) :
    Calls Tryd.prog 17 #[.slice a n c] w fun e w' => e = .returned (.bool (allZero l)) ∧ w = w' := by
  have Hs := Lib.hid hs
  have Hn := Lib.hid hn
  clear hs hn
  obtain ⟨D, hD⟩ : ∃ D, allZero l = D := ⟨_, rfl⟩
  rw [hD]
  have HD := Lib.hid hD
  clear hD
  go_enter Tryd.func17, Tryd.ntmps17
  go_wp2
  go_loopw [3] (fun i wr => ∃ k : Nat, i = .int .i64 k ∧ k ≤ n ∧ Hid (allZero (l.drop k) = D) ∧ w = wr) (fun i _ => n - (intOf i).toNat)
  case atStart => exact ⟨0, rfl, by omega, HD.out, rfl⟩
  case round =>
    obtain ⟨k, rfl, hk, ht, rfl⟩ := hrel
    by_cases hlt : k < n
    · obtain ⟨b, o, rfl, hc⟩ := Hs.out (by rw [Hn.out]; omega)
      have hcell := hc k (by rw [Hn.out]; exact hlt)
      have i1 : (k : Int) < (n : Int) := by omega
      have hdk : allZero (l.drop k) = (l.getD k 0 == 0 && allZero (l.drop (k + 1))) := by
        have hk' : k < l.length := by rw [Hn.out]; exact hlt
        have e : l.getD k 0 = l[k] := by simp [List.getD, hk']
        unfold allZero
        rw [List.drop_eq_getElem_cons hk', List.all_cons, e]
      clear hc
      generalize l.getD k 0 = X at *
      by_cases hX : X = 0
      · subst hX
        have Hr : Hid (allZero (l.drop (k + 1)) = D) := by rw [← ht.out, hdk]; exact rfl
        clear hdk ht
        go_wp2
        go_roundw
        case rel => exact ⟨k + 1, by go_num, by omega, Hr, trivial⟩
        case measure => simp [intOf]; omega
      · have e1 : ((X : Int) != 0) = true := by
          show (!(_ == _)) = true
          rw [beq_eq_false_iff_ne.2 (by omega)]; rfl
        have Hr : Hid (D = false) := by rw [← ht.out, hdk, beq_eq_false_iff_ne.2 hX]; exact rfl
        clear hdk ht hX
        go_wp2
        go_ret
        exact ⟨by rw [Hr.out]; rfl, rfl⟩
    · obtain rfl : k = n := by omega
      have Hr : Hid (D = true) := by
        rw [← ht.out, List.drop_of_length_le (by rw [Hn.out]; exact Nat.le_refl _)]; exact rfl
      clear ht
      go_wp2
      go_ret
      exact ⟨by rw [Hr.out]; rfl, rfl⟩
theorem wraps_i63 (n : Int) (h₀ : 0 ≤ n) (h₁ : n < 2 ^ 63) : IntKind.i64.wrap n = n := by rw [IntKind.wrap_i64]; omega
theorem beh_any (b o c : Nat) (l : List Nat) (w : World) (hl : l.length = 512) (hc : 512 ≤ c) (hcm : c ≤ 9223372036854775807) (hb : B8 l) (hs : Cs w b o l) :
    Calls Tryd.prog 18 #[.slice (some ⟨b, o, none⟩) 512 c] w fun e w' => (∃ (q : Nat) (r : Nat), e = .returned (.slice (some ⟨b, q, none⟩) (behL l).length r) ∧ Cs w b q (behL l)) ∧ w.drew = w' := by
  have c2 := hs 2 (by omega)
  have c3 := hs 3 (by omega)
  have hx := hb.get 2
  have hy := hb.get 3
  have hL := behL_len hl
  have hcs : Cs w b (o + (4 + min (ldN l) 504)) (behL l) := (hs.start 508).rest (4 + min (ldN l) 504)
  unfold ldN at hL hcs
  generalize behL l = L at *
  generalize l.getD 2 0 = X at *
  generalize l.getD 3 0 = Y at *
  have e1 : IntKind.i64.wrap ((X : Int) * 256) = ((X * 256 : Nat) : Int) := by rw [IntKind.wrap_i64]; omega
  have wX : IntKind.i64.wrap (X : Int) = (X : Int) := by rw [IntKind.wrap_i64]; omega
  have wY : IntKind.i64.wrap (Y : Int) = (Y : Int) := by rw [IntKind.wrap_i64]; omega
  have e2 : bits .or .i64 ((X * 256 : Nat) : Int) (Y : Int) = ((X * 256 + Y : Nat) : Int) := by
    rw [bits_join .i64 63 (by decide) wraps_i63 8 _ _ (by omega) (by omega) (by omega) (by omega) (by omega) (by omega)]
    omega
  have hN8 : X * 256 + Y < 65536 := by omega
  have W8 : X * 256 < 65536 := Nat.lt_of_le_of_lt (Nat.le_add_right _ Y) hN8
  generalize X * 256 + Y = N at *
  generalize X * 256 = X8 at *
  have e3 : min (N : Int) 504 = ((min N 504 : Nat) : Int) := by omega
  have hM5 : min N 504 ≤ 504 := Nat.min_le_right _ _
  generalize min N 504 = M at *
  have e4 : IntKind.i64.wrap (4 + (M : Int)) = ((4 + M : Nat) : Int) := by rw [IntKind.wrap_i64]; omega
  have e5 : 508 - (4 + M) = L.length := by omega
  have HL := Lib.hid (And.intro hL (And.intro hcs e5))
  clear hL hcs hN8 e5 hl
  have hM6 : 4 + M ≤ 508 := by omega
  have hM7 : ((4 + M : Nat) : Int) ≤ 508 := by omega
  have hM8 : (0 : Int) ≤ ((4 + M : Nat) : Int) := by omega
  have hc5 : (508 : Int) ≤ (c : Int) := by omega
  have hcne : ¬ (c : Int) = ((4 + M : Nat) : Int) := by omega
  generalize 4 + M = R at *
  obtain ⟨W1, hW1⟩ : ∃ W1, w.drew = W1 := ⟨_, rfl⟩
  have q2 : ∀ w', Ext W1 w' → w'.cell? ⟨b, o + 2, none⟩ = some (.int .u8 (X : Nat)) := fun w' he => by rw [← hW1] at he; exact (he.cell (p := ⟨b, o + 2, none⟩) (block_lt_of_cell c2)).trans c2
  have q3 : ∀ w', Ext W1 w' → w'.cell? ⟨b, o + 3, none⟩ = some (.int .u8 (Y : Nat)) := fun w' he => by rw [← hW1] at he; exact (he.cell (p := ⟨b, o + 3, none⟩) (block_lt_of_cell c3)).trans c3
  have HW1 := Lib.hid hW1
  rw [hW1]
  clear hW1 c2 c3
  go_enter Tryd.func18, Tryd.ntmps18
  go_wp2_with fail
  refine wp_region_gr [(0, true), (1, true), (2, true), (3, true), (4, true), (5, true), (6, true), (7, true), (8, true), (9, true), (10, true)] (by kernel_rfl) (by kernel_rfl) (by kernel_rfl) (by kernel_rfl) (fun _ _ _ _ _ h => h) ?_
  rw [HW1.out]
  iterate 11 (refine wpGr_read (o := ⟨_, _, _, _, _, _⟩) (v := ?_) rfl (by rfl) ?_ ?_; rotate_left; (intro w' hw'; go_simp; with_reducible rfl); simp only [Act.put, List.setIfInBounds_toArray, List.set_cons_zero, List.set_cons_succ])
  refine wpGr_done ?_
  go_wp2
  go_ret
  exact ⟨⟨_, _, by rw [← HL.out.2.2]; rfl, HL.out.2.1⟩, rfl⟩
end Go.Proofs.YtfjjfickbhkpaaaDoor
