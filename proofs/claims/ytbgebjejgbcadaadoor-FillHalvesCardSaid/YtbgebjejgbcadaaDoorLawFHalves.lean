/-
  FillHalves: the law's walk.
-/
import Derived.Test.YtbgebjejgbcadaaDoorSure11
import Derived.Deep.CutBlock
import Derived.Deep.DeepCutAuto
namespace Go.Proofs.YtbgebjejgbcadaaDoor
open Go Go.RowKit

abbrev CINTS : TypeId := 22
theorem cell_page (w : World) (T : TypeId) (x : Int) : (w.alloc (.cells #[.int .i64 x] T)).cell? ⟨w.heap.size, 0, none⟩ = some (.int .i64 x) := by simp
set_option maxRecDepth 100000 in
set_option maxHeartbeats 4000000 in
theorem halves_any (a : Option Addr) (l : List Nat) (n c : Nat) (w : World) (hn : l.length = n) (hs : Src w a l) (hb8 : B8 l) (hl : n ≤ 9223372036854775807) (hg : Hg w) :
    Calls Tryd.prog 4 #[.slice a n c] w fun e w' => e = .returned (.bool true) ∧ Below w.heap.size w w' := by
  have HG := Lib.hid hg
  have Hs := Lib.hid hs
  have Hn := Lib.hid hn
  have Hb8 := Lib.hid hb8
  have Fin := Lib.hid (fun (W : World) (h : Below w.heap.size w W) => (sure_any W (HG.out.below h)).mono fun _ _ q => And.intro q.1 (h.trans (q.2.mono h.size)))
  clear hg hs hn hb8
  go_enter Tryd.func4, Tryd.ntmps4
  go_upto_block 0 with fail
  go_cut [3, 4] (fun s3 s4 wx => ∃ (is : List Int) (v : Value) (T : Nat), s3 = v ∧ s4 = .int .i64 T ∧ T ≤ 700 ∧ Hid ((T : Int) = pf is is.length) ∧ Hid (∀ i, i < is.length → 1 ≤ ia is i ∧ ia is i ≤ 112) ∧ Hid (is.length ≤ 300) ∧ Hid (PgV wx v is) ∧ Hid (Below w.heap.size w wx))
  case first =>
    go_wp2_with fail
    go_loopw [3, 4, 5, 6] (fun s3 s4 s5 _ wr => ∃ (is : List Int) (v : Value) (T k : Nat), s3 = v ∧ s4 = .int .i64 T ∧ s5 = .int .i64 k ∧ k ≤ n ∧ k ≤ 300 ∧ T ≤ 700 ∧ Hid (is.length = k) ∧ Hid ((T : Int) = pf is is.length) ∧ Hid (∀ i, i < is.length → 1 ≤ ia is i ∧ ia is i ≤ 112) ∧ Hid (wr.ownsRow w.heap.size CINT 1 v is.length (iv is)) ∧ Hid (Below w.heap.size w wr)) (fun _ _ s5 _ _ => n - (intOf s5).toNat)
    case atStart => exact ⟨[], _, 0, 0, rfl, rfl, rfl, by omega, by omega, by omega, rfl, (pf_zero []).symm, fun i hi => by simp at hi, World.ownsRow_nil _ _ _ _, Below.refl _ _⟩
    case round =>
      obtain ⟨is, v, T, k, rfl, rfl, rfl, hkn, hk3, hT, hlen, hsum, hrg, hown, hB⟩ := hrel
      by_cases hlt : k < n
      · by_cases h3 : k < 300
        · have d3 : decide ((k : Int) < 300) = true := decide_eq_true (by omega)
          have d3' : decide (k < 300) = true := decide_eq_true h3
          obtain ⟨g, o, rfl, hcell⟩ := Hs.out (by rw [Hn.out]; omega)
          have q := hcell k (by rw [Hn.out]; exact hlt)
          have q0 : wr.cell? ⟨g, o + k, none⟩ = some (.int .u8 ((l.getD k 0 : Nat) : Int)) := by rw [hB.out.cell (p := ⟨g, o + k, none⟩) (block_lt_of_cell q)]; exact q
          have hx := Hb8.out.get k
          generalize l.getD k 0 = x at *
          obtain ⟨r, hr⟩ : ∃ r, r = x % 112 := ⟨_, rfl⟩
          have e1 : (x : Int) % 112 = (r : Int) := by omega
          have e1' : (x : Int).tmod 112 = (r : Int) := by rw [Int.tmod_eq_emod_of_nonneg (by omega)]; exact e1
          have e1n : x % 112 = r := hr.symm
          have hr9 : r ≤ 111 := by omega
          obtain ⟨d, hd⟩ : ∃ d, d = 1 + r := ⟨_, rfl⟩
          have e2 : (1 : Int) + (r : Int) = (d : Int) := by omega
          have e3 : IntKind.i64.wrap (r : Int) = (r : Int) := by rw [IntKind.wrap_i64]; omega
          have hd9 : d ≤ 112 := by omega
          have hd1 : 1 ≤ d := by omega
          have Hd1 := Lib.hid hd1
          clear hcell hr hd q hx hd1
          by_cases h7 : 700 < T + d
          · have d7 : decide (700 < (T : Int) + (d : Int)) = true := decide_eq_true (by omega)
            have d7' : decide (700 < T + d) = true := decide_eq_true h7
            have hln : Hid (is.length ≤ 300) := by show _ ≤ _; rw [hlen.out]; exact hk3
            have hpv := Lib.hid (own_pages hown.out)
            clear hown h7
            go_wp2_with fail
            go_meet
            exact ⟨is, _, T, rfl, rfl, hT, hsum, hrg, hln, hpv, hB⟩
          · have d7 : decide (700 < (T : Int) + (d : Int)) = false := decide_eq_false (by omega)
            have d7' : decide (700 < T + d) = false := decide_eq_false h7
            have hT2 : T + d ≤ 700 := by omega
            have hl9 : is.length ≤ 300 := by rw [hlen.out]; exact hk3
            have hsz := hB.out.size
            clear h7
            go_wp2_with (at_builtin; refine wpList_append_page rfl (.tmp 34) (.tmp 36) CINTS rfl w.heap.size CINT Tryd.underlying22 infoInt _ is (by rfl) (hown.out.alloc _) wr.heap.size 1 (d : Int) (by rfl) (cell_page wr CINT _) (by omega) (by simp; omega) ?_; intro v' w2 hown2 hgrow2)
            have hb2 : Hid (Below w.heap.size w w2) := (hB.out.alloc hsz _).grown hgrow2.out (by simp; omega) (fun j hj => (hown.out.lt j hj).1)
            have hlen2 : Hid ((is ++ [(d : Int)]).length = k + 1) := by show _ = _; rw [List.length_append, hlen.out]; rfl
            have hsum2 : Hid (((T + d : Nat) : Int) = pf (is ++ [(d : Int)]) (is ++ [(d : Int)]).length) := by
              show _ = _
              rw [List.length_append, show [(d : Int)].length = 1 from rfl, pf_app, ← hsum.out]; omega
            have hrg2 : Hid (∀ i, i < (is ++ [(d : Int)]).length → 1 ≤ ia (is ++ [(d : Int)]) i ∧ ia (is ++ [(d : Int)]) i ≤ 112) := fun i hi => by
              rw [List.length_append] at hi
              rcases Nat.lt_or_ge i is.length with h | h
              · rw [ia_app_lt _ _ _ h]; exact hrg.out i h
              · obtain rfl : i = is.length := by simp at hi; omega
                rw [ia_app_at]; have := Hd1.out; omega
            clear hown hgrow2 hB hsum hrg hlen hl9 hsz
            go_wp2
            go_roundw
            case rel => exact ⟨is ++ [(d : Int)], v', T + d, k + 1, rfl, by go_num, by go_num, by omega, by omega, hT2, hlen2, hsum2, hrg2, hown2, hb2⟩
            case measure => simp [intOf]; omega
        · have d3 : decide ((k : Int) < 300) = false := decide_eq_false (by omega)
          have d3' : decide (k < 300) = false := decide_eq_false h3
          have hln : Hid (is.length ≤ 300) := by show _ ≤ _; rw [hlen.out]; exact hk3
          have hpv := Lib.hid (own_pages hown.out)
          clear hown
          go_wp2_with fail
          go_meet
          exact ⟨is, _, T, rfl, rfl, hT, hsum, hrg, hln, hpv, hB⟩
      · obtain rfl : k = n := by omega
        have hln : Hid (is.length ≤ 300) := by show _ ≤ _; rw [hlen.out]; exact hk3
        have hpv := Lib.hid (own_pages hown.out)
        clear hown
        go_wp2_with fail
        go_meet
        exact ⟨is, _, T, rfl, rfl, hT, hsum, hrg, hln, hpv, hB⟩
  case rest =>
    obtain ⟨is, v, T, rfl, rfl, hT, hsum, hrg, hln, hpv, hB⟩ := hcut
    by_cases h5 : T ≤ 504
    · have d5 : decide ((T : Int) ≤ 504) = true := decide_eq_true (by omega)
      have d5' : decide (T ≤ 504) = true := decide_eq_true h5
      clear hpv hrg
      go_wp2_with fail
      refine (Fin.out wc hB.out).mono ?_
      rintro e w1 ⟨rfl, hb1⟩
      have Hb1 := Lib.hid hb1
      clear hb1
      go_wp2
      go_ret
      exact ⟨rfl, Hb1.out⟩
    · have d5 : decide ((T : Int) ≤ 504) = false := decide_eq_false (by omega)
      have d5' : decide (T ≤ 504) = false := decide_eq_false h5
      obtain ⟨ad, cc, rfl, hsr, hz, hlc, hcm⟩ := hpv
      obtain ⟨he, A, hA, hA1, hA2, hA3, hA4, hA5, hA6, hA7⟩ := halves hrg.out hln.out (by rw [← hsum.out]; omega) (by rw [← hsum.out]; omega)
      have hsp := Lib.hid (split_any ad is.length cc is 0 wc rfl hsr hlc hcm)
      rw [he, hA, errC_0] at hsp
      rw [← hsum.out] at hA5 hA6 hA7
      obtain ⟨m, hm⟩ : ∃ m, m = is.length := ⟨_, rfl⟩
      rw [← hm] at hA2 hA7 hsp hlc hln ⊢
      have Hm := Lib.hid hm.symm
      have Hsr := Lib.hid hsr
      have Hbest := Lib.hid hA7
      have Hstep : Hid (∀ k, pf is (k + 1) = pf is k + ia is k) := pf_succ is
      have HpA : Hid (∀ k, k ≤ A → pf is k ≤ pf is A ∧ 0 ≤ pf is k) := fun k hk => by
        have hok : okTo is A := fun i hi => (okI_iff _).2 (by have := hrg.out i (by rw [← hm]; omega); omega)
        exact ⟨pf_mono hok hk, (pf_range (okTo_less hok hk)).1⟩
      have HpT : Hid (∀ k, k ≤ m → pf is k ≤ (T : Int) ∧ 0 ≤ pf is k) := fun k hk => by
        have hok : okTo is is.length := fun i hi => (okI_iff _).2 (by have := hrg.out i hi; omega)
        rw [hsum.out]
        exact ⟨pf_mono hok (by rw [← hm]; exact hk), (pf_range (okTo_less hok (by rw [← hm]; exact hk))).1⟩
      obtain ⟨P, hP⟩ := Int.eq_ofNat_of_zero_le (show 0 ≤ pf is A by omega)
      obtain ⟨R, hR⟩ := Int.eq_ofNat_of_zero_le (show 0 ≤ (T : Int) - pf is A by omega)
      rw [hP] at hA3 hA4 hA5 hA6
      have z1 : IntKind.i64.wrap ((T : Int) - (P : Int)) = (R : Int) := by rw [IntKind.wrap_i64]; omega
      have z2 : (T : Int) - (P : Int) = (R : Int) := by omega
      have HP := Lib.hid hP
      have HR := Lib.hid hR
      have en1 : Hid (∀ W : World, Calls Tryd.prog 10 #[.int .i64 (P : Int)] W fun e w' => e = .returned (.bool true) ∧ W = w') := fun W => by
        have h := enough_any (P : Int) W
        rw [decide_eq_true (show (126 : Int) ≤ (P : Int) by omega)] at h; exact h
      have en2 : Hid (∀ W : World, Calls Tryd.prog 10 #[.int .i64 (R : Int)] W fun e w' => e = .returned (.bool true) ∧ W = w') := fun W => by
        have h := enough_any (R : Int) W
        rw [decide_eq_true (show (126 : Int) ≤ (R : Int) by omega)] at h; exact h
      have fi1 : Hid (∀ W : World, Calls Tryd.prog 11 #[.int .i64 (P : Int)] W fun e w' => e = .returned (.bool true) ∧ W = w') := fun W => by
        have h := fits_any (P : Int) W
        unfold fiB at h
        rw [decide_eq_true (show (0 : Int) ≤ (P : Int) by omega), decide_eq_true (show (P : Int) ≤ 504 by omega)] at h; exact h
      have fi2 : Hid (∀ W : World, Calls Tryd.prog 11 #[.int .i64 (R : Int)] W fun e w' => e = .returned (.bool true) ∧ W = w') := fun W => by
        have h := fits_any (R : Int) W
        unfold fiB at h
        rw [decide_eq_true (show (0 : Int) ≤ (R : Int) by omega), decide_eq_true (show (R : Int) ≤ 504 by omega)] at h; exact h
      have hP9 : P ≤ 504 := by omega
      have hm9 : m ≤ 300 := hln.out
      have n1 : decide ((A : Int) < 1) = false := decide_eq_false (by omega)
      have n2 : decide ((m : Int) ≤ (A : Int)) = false := decide_eq_false (by omega)
      have n2' : decide (m ≤ A) = false := decide_eq_false (by omega)
      have n1' : decide (A < 1) = false := decide_eq_false (by omega)
      have HA := Lib.hid (And.intro hA1 hA2)
      have hAm : A ≤ 300 := by omega
      clear hA1 hA2 hA3 hA4 hA5 hA6 hA7 hP hR hm hsr he hA hsum hrg hln hz h5
      go_wp2_with fail
      refine hsp.out.mono ?_
      rintro e w' ⟨rfl, rfl⟩
      clear hsp
      go_wp2_with fail
      go_loopw [9, 10] (fun u i wr => ∃ k s : Nat, u = .int .i64 s ∧ i = .int .i64 k ∧ k ≤ A ∧ s ≤ 504 ∧ Hid ((s : Int) = pf is k) ∧ wc = wr) (fun _ i _ => A - (intOf i).toNat)
      case atStart => exact ⟨0, 0, rfl, rfl, by omega, by omega, (pf_zero is).symm, by first | trivial | rfl⟩
      case round =>
        obtain ⟨k, s, rfl, rfl, hk, hs9, hsk, rfl⟩ := hrel
        by_cases hlt : k < A
        · obtain ⟨g, o, rfl, hcell⟩ := Hsr.out (by rw [Hm.out]; have := HA.out; omega)
          have q0 := hcell k (by rw [Hm.out]; have := HA.out; omega)
          have h1 := (HpA.out (k + 1) (by omega)).1
          have h2 := (HpA.out (k + 1) (by omega)).2
          have h3 := Hstep.out k
          have h4 := (HpT.out k (by have := HA.out; omega)).2
          rw [HP.out] at h1
          have km : (k : Int) < (m : Int) := by have := HA.out; omega
          have km' : k < m := by omega
          obtain ⟨s', hs'⟩ := Int.eq_ofNat_of_zero_le h2
          have e5 : IntKind.i64.wrap ((s : Int) + ia is k) = (s' : Int) := by rw [hsk.out, ← h3, hs', IntKind.wrap_i64]; omega
          have e6 : s' ≤ 504 := by omega
          have e7 : Hid ((s' : Int) = pf is (k + 1)) := hs'.symm
          generalize ia is k = y at *
          clear hcell h1 h2 h3 h4 hsk hs'
          go_wp2
          go_roundw
          case rel => exact ⟨k + 1, s', rfl, by go_num, by omega, e6, e7, trivial⟩
          case measure => simp [intOf]; omega
        · obtain rfl : k = A := by omega
          have hsP : s = P := by have := hsk.out; rw [HP.out] at this; omega
          subst hsP
          clear hsk hs9
          go_wp2_with fail
          refine (en1.out wc).mono ?_
          rintro e w' ⟨rfl, rfl⟩
          go_wp2_with fail
          refine (fi1.out wc).mono ?_
          rintro e w' ⟨rfl, rfl⟩
          go_wp2_with fail
          refine (en2.out wc).mono ?_
          rintro e w' ⟨rfl, rfl⟩
          go_wp2_with fail
          refine (fi2.out wc).mono ?_
          rintro e w' ⟨rfl, rfl⟩
          clear en1 en2 fi1 fi2
          obtain ⟨G2, hG2⟩ : ∃ G2 : Nat, (if s < R then (R : Int) else (s : Int)) = (G2 : Int) := ⟨max s R, by split <;> omega⟩
          have HG2 : Hid ((G2 : Int) = max (s : Int) (R : Int)) := by show _ = _; rw [← hG2]; split <;> omega
          go_wp2_with fail
          go_loopw [11, 12] (fun u i wr => ∃ j t : Nat, u = .int .i64 t ∧ i = .int .i64 j ∧ j + 1 ≤ m ∧ t ≤ 700 ∧ Hid ((t : Int) = pf is j) ∧ wc = wr) (fun _ i _ => m - (intOf i).toNat)
          case atStart => exact ⟨0, 0, rfl, rfl, by have := HA.out; omega, by omega, (pf_zero is).symm, by first | trivial | rfl⟩
          case round =>
            obtain ⟨j, t, rfl, rfl, hj, ht9, htj, rfl⟩ := hrel
            by_cases hlt2 : j + 1 < m
            · obtain ⟨g, o, rfl, hcell⟩ := Hsr.out (by rw [Hm.out]; omega)
              have q0 := hcell j (by rw [Hm.out]; omega)
              have h1 := HpT.out (j + 1) (by omega)
              have h3 := Hstep.out j
              have h5 := Hbest.out (j + 1) (by omega) hlt2
              have jm : (j : Int) + 1 < (m : Int) := by omega
              have jm2 : (j : Int) < (m : Int) := by omega
              have jm3 : j < m := by omega
              obtain ⟨t', ht'⟩ := Int.eq_ofNat_of_zero_le h1.2
              obtain ⟨r', hr'⟩ := Int.eq_ofNat_of_zero_le (show 0 ≤ (T : Int) - pf is (j + 1) by omega)
              rw [HR.out, HP.out, ← HG2.out, ht'] at h5
              rw [ht'] at hr'
              rw [hr'] at h5
              have e5 : IntKind.i64.wrap ((t : Int) + ia is j) = (t' : Int) := by rw [htj.out, ← h3, ht', IntKind.wrap_i64]; omega
              have e6 : t' ≤ 700 := by omega
              have e7 : Hid ((t' : Int) = pf is (j + 1)) := ht'.symm
              have e8 : IntKind.i64.wrap ((T : Int) - (t' : Int)) = (r' : Int) := by rw [hr', IntKind.wrap_i64]; omega
              have e8' : (T : Int) - (t' : Int) = (r' : Int) := hr'
              obtain ⟨G1, hG1⟩ : ∃ G1 : Nat, (if t' < r' then (r' : Int) else (t' : Int)) = (G1 : Int) := ⟨max t' r', by split <;> omega⟩
              have e9 : decide ((G1 : Int) < (G2 : Int)) = false := decide_eq_false (by rw [← hG1]; split <;> omega)
              have e9' : decide (G1 < G2) = false := decide_eq_false (by have := of_decide_eq_false e9; omega)
              have jw : IntKind.i64.wrap ((j : Int) + 1) = (j : Int) + 1 := by rw [IntKind.wrap_i64]; omega
              generalize ia is j = y at *
              clear hcell h1 h3 h5 htj ht' hr'
              go_wp2
              go_roundw
              case rel => exact ⟨j + 1, t', rfl, by go_num, by omega, e6, e7, trivial⟩
              case measure => simp [intOf]; omega
            · have jm : ¬ ((j : Int) + 1 < (m : Int)) := by omega
              have jm' : decide ((j : Int) + 1 < (m : Int)) = false := decide_eq_false jm
              clear htj
              go_wp2_with fail
              refine (Fin.out wc hB.out).mono ?_
              rintro e w1 ⟨rfl, hb1⟩
              have Hb1 := Lib.hid hb1
              clear hb1
              go_wp2
              go_ret
              exact ⟨rfl, Hb1.out⟩
end Go.Proofs.YtbgebjejgbcadaaDoor
