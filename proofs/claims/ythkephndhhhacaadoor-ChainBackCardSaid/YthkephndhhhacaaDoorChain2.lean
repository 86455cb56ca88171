/-
  chain's isNext, isPiece, Count, Encode, Decode.
-/
import Derived.Test.YthkephndhhhacaaDoorChainMath
import Derived.Test.YthkephndhhhacaaDoorIntPut
import Derived.Test.YthkephndhhhacaaDoorGet
import Derived.Test.YthkephndhhhacaaDoorBy
import Derived.Lib.AppendStr
namespace Go.Proofs.YthkephndhhhacaaDoor
open Go Go.RowKit

abbrev CU8 : TypeId := 5
abbrev CBS : TypeId := 22
abbrev CST2 : TypeId := 9
/-- An error's value. -/
def errC (f : Int) : Value := if f = 0 then .nilIface else .iface 45 (.int .i64 f)
theorem errC_0 : errC 0 = .nilIface := rfl
theorem errC_1 : errC 1 = .iface 45 (.int .i64 1) := rfl
theorem errC_3 : errC 3 = .iface 45 (.int .i64 3) := rfl
theorem isNext_any (p : Int) (w : World) : Calls Tryd.prog 16 #[.int .i64 p] w fun e w' => e = .returned (.bool (nextB p)) ∧ w = w' := by
  unfold nextB
  by_cases h0 : p = 0
  · subst h0
    go_enter Tryd.func16, Tryd.ntmps16
    go_wp2
    go_ret
    exact ⟨rfl, rfl⟩
  · have e0 : (p == 0) = false := by simpa using h0
    have e1 : decide (p = 0) = false := decide_eq_false h0
    by_cases h2 : 2 ≤ p
    · have e2 : decide (2 ≤ p) = true := decide_eq_true h2
      by_cases h3 : p < 1024
      · have e3 : decide (p < 1024) = true := decide_eq_true h3
        rw [e1, e2, e3]
        clear h0
        go_enter Tryd.func16, Tryd.ntmps16
        go_wp2
        go_ret
        exact ⟨rfl, rfl⟩
      · have e3 : decide (p < 1024) = false := decide_eq_false h3
        rw [e1, e2, e3]
        clear h0
        go_enter Tryd.func16, Tryd.ntmps16
        go_wp2
        go_ret
        exact ⟨rfl, rfl⟩
    · have e2 : decide (2 ≤ p) = false := decide_eq_false h2
      rw [e1, e2]
      clear h0
      go_enter Tryd.func16, Tryd.ntmps16
      go_wp2
      go_ret
      exact ⟨rfl, rfl⟩
theorem isPiece_any (p : Int) (w : World) : Calls Tryd.prog 17 #[.int .i64 p] w fun e w' => e = .returned (.bool (sizeB p)) ∧ w = w' := by
  unfold sizeB
  by_cases h2 : 1 ≤ p
  · have e2 : decide (1 ≤ p) = true := decide_eq_true h2
    by_cases h3 : p ≤ 502
    · have e3 : decide (p ≤ 502) = true := decide_eq_true h3
      rw [e2, e3]
      go_enter Tryd.func17, Tryd.ntmps17
      go_wp2
      go_ret
      exact ⟨rfl, rfl⟩
    · have e3 : decide (p ≤ 502) = false := decide_eq_false h3
      rw [e2, e3]
      go_enter Tryd.func17, Tryd.ntmps17
      go_wp2
      go_ret
      exact ⟨rfl, rfl⟩
  · have e2 : decide (1 ≤ p) = false := decide_eq_false h2
    rw [e2]
    go_enter Tryd.func17, Tryd.ntmps17
    go_wp2
    go_ret
    exact ⟨rfl, rfl⟩
theorem count_any (x : Int) (w : World) (h1 : -9223372036854775808 ≤ x) (h2 : x ≤ 9223372036854775807) : Calls Tryd.prog 9 #[.int .i64 x] w fun e w' => e = .returned (.int .i64 (cntS x)) ∧ w = w' := by
  by_cases h : x < 1
  · have d1 : decide (x < 1) = true := decide_eq_true h
    have e : cntS x = 0 := by unfold cntS; rw [if_pos h]
    rw [e]
    clear e
    go_enter Tryd.func9, Tryd.ntmps9
    go_wp2
    go_ret
    exact ⟨rfl, rfl⟩
  · have d1 : decide (x < 1) = false := decide_eq_false h
    have e : Hid (cntS x = (x - 1).tdiv 502 + 1) := by
      show _ = _
      unfold cntS; rw [if_neg h, Int.tdiv_eq_ediv_of_nonneg (by omega)]
    have b1 : 0 ≤ (x - 1).tdiv 502 := by rw [Int.tdiv_eq_ediv_of_nonneg (by omega)]; omega
    have b2 : (x - 1).tdiv 502 ≤ 9223372036854775806 := by rw [Int.tdiv_eq_ediv_of_nonneg (by omega)]; omega
    generalize hq : (x - 1).tdiv 502 = q at *
    go_enter Tryd.func9, Tryd.ntmps9
    go_wp2
    go_ret
    exact ⟨by rw [e.out]; rfl, rfl⟩
theorem put_two (p : Nat) (w : World) (hp : p < 1024) : Calls Tryd.prog 18 #[.slice none 0 0, .int .u64 p, .int .i64 2] w fun e w' => e = .returned (.slice (some ⟨w.heap.size, 0, none⟩) 2 2) ∧ w'.ownsRow w.heap.size CU8 1 (.slice (some ⟨w.heap.size, 0, none⟩) 2 2) 2 (bv (beL p 2)) ∧ Below w.heap.size w w' := by
  refine (intPut_in none 0 [] p 2 w (by simp) (by omega) (by omega) (by omega) (Src.nil _ _)).mono ?_
  rintro e w' ⟨rfl, hr, hb⟩
  exact ⟨rfl, own_of_row hr (Nat.le_refl _) (by unfold maxLen; simp [beL_length]), hb⟩
theorem strCells_bn (V : ByteArray) : Go.Lib.strCells V = bv (bn V) := by
  unfold Go.Lib.strCells bv bn
  rw [List.map_map]
  show _ = List.map _ (bl V)
  rfl
set_option maxRecDepth 100000 in
theorem encode_any (p : Int) (V : ByteArray) (w : World) (hV : V.size ≤ 1000000) :
    Calls Tryd.prog 10 #[.int .i64 p, .string V] w fun e w' => ∃ v, e = .returned (.tuple #[v, errC (chE p V)]) ∧ w'.ownsRow w.heap.size CU8 1 v (chB p V).length (bv (chB p V)) ∧ Below w.heap.size w w' := by
  have hN := Lib.hid (isNext_any p)
  have hP := Lib.hid (isPiece_any V.size)
  have hE : Hid (chE p V = if (nextB p && sizeB V.size) = true then 0 else 1) := rfl
  have hB : Hid (chB p V = if (nextB p && sizeB V.size) = true then beL p.toNat 2 ++ bn V else []) := rfl
  have hpr : Hid (nextB p = true → 0 ≤ p ∧ p < 1024) := fun h => by
    unfold nextB at h; simp at h; omega
  generalize chE p V = EE at *
  generalize chB p V = EB at *
  generalize nextB p = D1 at *
  generalize sizeB V.size = D2 at *
  cases D1 with
  | false =>
    have h1 : Hid (EE = 1 ∧ EB = []) := ⟨hE.out, hB.out⟩
    clear hE hB hpr
    go_enter Tryd.func10, Tryd.ntmps10
    go_wp2_with fail
    refine (hN.out w).mono ?_
    rintro e w1 ⟨rfl, rfl⟩
    clear hN
    go_wp2
    go_ret2
    exact ⟨.slice none 0 0, by rw [h1.out.1]; rfl, by rw [h1.out.2]; exact World.ownsRow_nil _ _ _ _, Below.refl _ _⟩
  | true =>
  cases D2 with
  | false =>
    have h1 : Hid (EE = 1 ∧ EB = []) := ⟨hE.out, hB.out⟩
    clear hE hB hpr
    go_enter Tryd.func10, Tryd.ntmps10
    go_wp2_with fail
    refine (hN.out w).mono ?_
    rintro e w1 ⟨rfl, rfl⟩
    clear hN
    go_wp2_with fail
    refine (hP.out w).mono ?_
    rintro e w1 ⟨rfl, rfl⟩
    clear hP
    go_wp2
    go_ret2
    exact ⟨.slice none 0 0, by rw [h1.out.1]; rfl, by rw [h1.out.2]; exact World.ownsRow_nil _ _ _ _, Below.refl _ _⟩
  | true =>
    have h1 : Hid (EE = 0 ∧ EB = beL p.toNat 2 ++ bn V) := ⟨hE.out, hB.out⟩
    have hp0 := (hpr.out rfl).1
    have hp1 := (hpr.out rfl).2
    obtain ⟨P, rfl⟩ := Int.eq_ofNat_of_zero_le hp0
    have hp2 : P < 1024 := by omega
    have hput := Lib.hid (put_two P w hp2)
    have z1 : IntKind.u64.wrap (P : Int) = (P : Int) := by rw [IntKind.wrap_u64]; omega
    obtain ⟨i0, hi, hz0, hz1, hz2⟩ := info_parts infoI
    have HI := Lib.hid (And.intro hi (And.intro hz0 (And.intro hz1 hz2)))
    clear hE hB hpr hi hz0 hz1 hz2
    go_enter Tryd.func10, Tryd.ntmps10
    go_wp2_with fail
    refine (hN.out w).mono ?_
    rintro e w1 ⟨rfl, rfl⟩
    clear hN
    go_wp2_with fail
    refine (hP.out w).mono ?_
    rintro e w1 ⟨rfl, rfl⟩
    clear hP
    go_wp2_with fail
    refine hput.out.mono ?_
    rintro e w1 ⟨rfl, ho, hb⟩
    have Ho := Lib.hid ho
    have Hb := Lib.hid hb
    clear hput ho hb
    go_wp2_with (show wpList _ _ _ (⟨some 20, _, _, _, _, _⟩ :: _) _ _; refine Go.Lib.wpList_append_own_string _ rfl (.tmp 18) (.tmp 19) CBS CST2 rfl w.heap.size CU8 i0 Tryd.underlying22 Tryd.underlying9 HI.out.1 HI.out.2.1 HI.out.2.2.1 HI.out.2.2.2 _ 2 (bv (beL P 2)) (by rfl) Ho.out V (by rfl) (by unfold maxLen; omega) (by omega) Hb.out.size ?_; intro v' w2 ho2 hg2 _; have Ho2 := Lib.hid ho2; have Hg2 := Lib.hid hg2; clear ho2 hg2)
    go_ret2
    refine ⟨v', by rw [h1.out.1]; rfl, ?_, Hb.out.grown Hg2.out (Nat.le_trans (Nat.le_refl _) Hb.out.size) ?_⟩
    · rw [h1.out.2]
      have := Ho2.out
      rw [strCells_bn, ← bv_append] at this
      rw [List.length_append, beL_length, bn_len]
      exact this
    · intro k hk
      cases hk; exact Nat.le_refl _
theorem get_two (b o c : Nat) (l : List Nat) (w : World) (h : l.length = 2) (hc : Cs w b o l) (hb : B8 l) :
    Calls Tryd.prog 19 #[.slice (some ⟨b, o, none⟩) 2 c] w fun e w' => e = .returned (.tuple #[.int .u64 (numL l), .nilIface]) ∧ w = w' := by
  have := get_in b o c l w (by omega) (by omega) hc hb
  rw [h] at this; exact this
set_option maxRecDepth 100000 in
theorem decode_any (a : Option Addr) (n c : Nat) (l : List Nat) (w : World) (hn : l.length = n) (hs : Src w a l) (hnc : n ≤ c) (hl : n ≤ 1000000) (hc : c ≤ maxLen) (hb8 : B8 l) :
    Calls Tryd.prog 12 #[.slice a n c] w fun e w' => e = .returned (.tuple #[.int .i64 (dcN l), .string (dcV l), errC (dcE l)]) ∧ Below w.heap.size w w' := by
  have hP := Lib.hid (isPiece_any ((n : Int) - 2))
  have hN := Lib.hid (isNext_any (chP l : Nat))
  have hD : Hid (dcOk l = (sizeB ((n : Int) - 2) && nextB (chP l : Nat))) := by show _ = _; unfold dcOk; rw [hn]
  have hno : Hid (dcOk l = false → dcN l = 0 ∧ dcV l = ByteArray.empty ∧ dcE l = 3) := fun h => by unfold dcN dcV dcE; rw [h]; exact ⟨rfl, rfl, rfl⟩
  have hyes : Hid (dcOk l = true → dcN l = (chP l : Nat) ∧ dcV l = bstr (l.drop 2) ∧ dcE l = 0) := fun h => by unfold dcN dcV dcE; rw [h]; exact ⟨rfl, rfl, rfl⟩
  generalize dcN l = N at *
  generalize dcV l = V at *
  generalize dcE l = E at *
  generalize dcOk l = D at *
  have hszr : Hid (sizeB ((n : Int) - 2) = true → 3 ≤ n ∧ n ≤ 504) := fun h => by unfold sizeB at h; simp at h; omega
  generalize sizeB ((n : Int) - 2) = D1 at *
  cases D1 with
  | false =>
    have h1 := Lib.hid (hno.out hD.out)
    clear hno hyes hD hN hs hszr
    go_enter Tryd.func12, Tryd.ntmps12
    go_wp2_with fail
    refine (hP.out w).mono ?_
    rintro e w1 ⟨rfl, rfl⟩
    clear hP
    go_wp2
    go_ret3
    exact ⟨by rw [h1.out.1, h1.out.2.1, h1.out.2.2]; rfl, Below.refl _ _⟩
  | true =>
  have hn3 := (hszr.out rfl).1
  have hn5 := (hszr.out rfl).2
  obtain ⟨b, o, rfl, hcs⟩ := hs (by omega)
  have hpl := chP_lt hb8
  have hget := Lib.hid (get_two b o c (l.take 2) w (by rw [List.length_take]; omega) (hcs.start 2) (hb8.take 2))
  have hcv := Lib.hid (fun (w' : World) (hw : Ext w.drew w') => conv_src (P := Tryd.prog) CBS CU8 CST2 Tryd.underlying22 Tryd.underlying5 Tryd.underlying9 (some ⟨b, o + 2, none⟩) (n - 2) (c - 2) (l.drop 2) (by rw [List.length_drop]; omega) w' ((hcs.rest 2).below ((Below.refl w.heap.size w).drew.trans hw) (hcs.lt (by omega))).src)
  rw [show numL (l.take 2) = chP l from rfl] at hget
  have hc' : c ≤ 9223372036854775807 := by unfold maxLen at hc; omega
  have Hb := Lib.hid hb8
  generalize chP l = P at *
  generalize bstr (l.drop 2) = X at *
  have z1 : IntKind.i64.wrap (P : Int) = (P : Int) := by rw [IntKind.wrap_i64]; omega
  clear hcs hs hszr hb8 hc
  generalize nextB (P : Nat) = D2 at *
  cases D2 with
  | false =>
    have h1 := Lib.hid (hno.out hD.out)
    clear hno hyes hD hcv
    go_enter Tryd.func12, Tryd.ntmps12
    go_wp2_with fail
    refine (hP.out w).mono ?_
    rintro e w1 ⟨rfl, rfl⟩
    clear hP
    go_wp2_with fail
    refine hget.out.mono ?_
    rintro e w1 ⟨rfl, rfl⟩
    clear hget
    go_wp2_with fail
    refine (hN.out w).mono ?_
    rintro e w1 ⟨rfl, rfl⟩
    clear hN
    go_wp2
    go_ret3
    exact ⟨by rw [h1.out.1, h1.out.2.1, h1.out.2.2]; rfl, Below.refl _ _⟩
  | true =>
    have h1 := Lib.hid (hyes.out hD.out)
    clear hno hyes hD
    go_enter Tryd.func12, Tryd.ntmps12
    go_wp2_with fail
    refine (hP.out w).mono ?_
    rintro e w1 ⟨rfl, rfl⟩
    clear hP
    go_wp2_with fail
    refine hget.out.mono ?_
    rintro e w1 ⟨rfl, rfl⟩
    clear hget
    go_wp2_with fail
    refine (hN.out w).mono ?_
    rintro e w1 ⟨rfl, rfl⟩
    clear hN
    have hcv' := hcv.out
    have y1 : (2 : Int) ≤ (n : Int) := by omega
    have y2 : ¬ c = 2 := by omega
    go_wp2_with fail
    refine wp_region_gr [(0, true), (1, true), (2, true), (3, true), (4, true), (5, true), (6, true), (7, true)] (by kernel_rfl) (by kernel_rfl) (by kernel_rfl) (by kernel_rfl) (fun _ _ _ _ _ h => h) ?_
    iterate 8 (refine wpGr_read (o := ⟨_, _, _, _, _, _⟩) (v := ?_) rfl (by rfl) ?_ ?_; rotate_left; (intro w' hw'; go_simp; with_reducible rfl); simp only [Act.put, List.setIfInBounds_toArray, List.set_cons_zero, List.set_cons_succ])
    refine wpGr_done ?_
    go_wp2_with fail
    go_ret3
    exact ⟨by rw [h1.out.1, h1.out.2.1, h1.out.2.2]; rfl, (Below.refl _ _).drew⟩
end Go.Proofs.YthkephndhhhacaaDoor
