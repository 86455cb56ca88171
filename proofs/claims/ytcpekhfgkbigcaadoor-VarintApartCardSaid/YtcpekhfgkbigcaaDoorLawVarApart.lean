/-
  VarintApart: the law's walk.
-/
import Derived.Test.YtcpekhfgkbigcaaDoorLawVarBack
import Derived.Test.YtcpekhfgkbigcaaDoorGr
namespace Go.Proofs.YtcpekhfgkbigcaaDoor
open Go.RowKit

theorem bstr_inj {l m : List Nat} (hl : B8 l) (hm : B8 m) (h : (bstr l).toList = (bstr m).toList) : l = m := by
  have h1 := h
  rw [ByteArray.toList_eq, ByteArray.toList_eq] at h1
  unfold bstr at h1
  rw [strOfNums_data, strOfNums_data, List.map_map, List.map_map] at h1
  have h2 := congrArg (List.map UInt8.toNat) h1
  rw [List.map_map, List.map_map] at h2
  have e : ∀ k : List Nat, B8 k → k.map (UInt8.toNat ∘ ((fun n : Int => UInt8.ofNat n.toNat) ∘ fun x : Nat => (x : Int))) = k := fun k hk => by
    conv => rhs; rw [← List.map_id k]
    apply List.map_congr_left
    intro x hx
    have := hk x hx
    simp [Nat.mod_eq_of_lt this]
  rw [e l hl, e m hm] at h2
  exact h2
theorem conv_cut {P : Program} (src e dst : TypeId) (hs : P.underlying src = some (.slice e)) (he : P.underlying e = some (.int .u8)) (hd : P.underlying dst = some .string) (g n c : Nat) (l : List Nat) (hn : n ≤ l.length) (w : World) (h : Row w g e l) :
    (convert src dst (.slice (some ⟨g, 0, none⟩) n c)).run P w = .ok (.string (bstr (l.take n))) w :=
  run_convert_bytes_arg w src e hs he g 0 n c _ (by simp; omega) (fun i hi => by
    rw [Nat.zero_add, h.cell i (by omega)]
    simp [show i < l.length by omega, hi]) dst hd
theorem get_rest (w : World) (g n m c : Nat) (L R : List Nat) (hn : L.length = n) (hm : R.length = m) (hb : B8 R) (hl : m ≤ 9223372036854775807) (hr : Row w g 5 (L ++ R)) (V : Value) (hV : gotV R = V) :
    Calls Tryd.prog 7 #[.slice (some ⟨g, n, none⟩) m c] w fun e w' => e = .returned V ∧ w = w' := by
  subst hn hm hV
  exact get_any (some ⟨g, L.length, none⟩) c R w hb hl (fun _ => ⟨g, L.length, rfl, fun i hi => by
    have := hr.cell (L.length + i) (by rw [List.length_append]; omega)
    rwa [show (L ++ R).getD (L.length + i) 0 = R.getD i 0 by simp [List.getD, List.getElem?_append_right]] at this⟩)
/-- Whether a's bytes begin b's. -/
theorem begins_iff (a b : Nat) (ha : a < 18446744073709551616) (hb : b < 18446744073709551616) : ((bstr ((vb b).take (vs a))).toList == (bstr (vb a)).toList) = decide (a = b) := by
  rw [Bool.eq_iff_iff, beq_iff_eq, decide_eq_true_iff]
  constructor
  · intro h
    have h1 := bstr_inj ((vb_b8 b).take _) (vb_b8 a) h
    exact vb_apart a b ((vb b).drop (vs a)) ha hb (by rw [← h1, List.take_append_drop])
  · rintro rfl
    rw [show vs a = (vb a).length from rfl, List.take_length]
theorem get_row (w : World) (g n c : Nat) (L : List Nat) (hn : L.length = n) (hb : B8 L) (hl : n ≤ 9223372036854775807) (hr : Row w g 5 L) (V : Value) (hV : gotV L = V) :
    Calls Tryd.prog 7 #[.slice (some ⟨g, 0, none⟩) n c] w fun e w' => e = .returned V ∧ w = w' := by
  subst hn hV
  exact get_any (some ⟨g, 0, none⟩) c L w hb hl (row_src hr)
set_option maxRecDepth 100000 in
set_option maxHeartbeats 1000000 in
theorem apart_any (a b : Nat) (w : World) (ha : a < 18446744073709551616) (hb : b < 18446744073709551616) (hg : Hg w) :
    Calls Tryd.prog 5 #[.int .u64 a, .int .u64 b] w fun e w' => e = .returned (.bool true) ∧ Below w.heap.size w w' := by
  have hPa := fun wx => put_nil a wx ha
  have hPb := fun wx => put_nil b wx hb
  have hPab := fun wx ad c hs => put_any ad c (vb a) b wx (by have := vs_le ha; unfold vs at this; omega) hb hs
  rw [show (vb a).length = vs a from rfl] at hPab
  have hGab := got_vb a (vb b) ha
  have hGb := got_vb b [] hb
  rw [List.append_nil] at hGb
  have hsa := vs_le ha
  have hsb := vs_le hb
  have hpa := vs_pos a
  have hpb := vs_pos b
  have hla : (vb a).length = vs a := rfl
  have hlb : (vb b).length = vs b := rfl
  have hba := vb_b8 a
  have hbb := vb_b8 b
  have hbeg := begins_iff a b ha hb
  have hsame : a = b → vs a = vs b := fun h => by rw [h]
  obtain ⟨D, hD⟩ : ∃ D, D = decide (a = b) := ⟨_, rfl⟩
  have hab : ((a : Int) == (b : Int)) = D := by
    rw [hD, Bool.eq_iff_iff, beq_iff_eq, decide_eq_true_iff]; omega
  rw [← hD] at hbeg
  have HD := Lib.hid (And.intro hD hsame)
  clear hD hsame
  generalize vs a = A at *
  generalize vs b = B at *
  generalize vb a = LA at *
  generalize vb b = LB at *
  have H := Lib.hid (And.intro hPa (And.intro hPb (And.intro hPab (And.intro hGab hGb))))
  have HL := Lib.hid (And.intro hla hlb)
  have HG := Lib.hid hg
  clear hPa hPb hPab hGab hGb hla hlb hg
  go_enter Tryd.func5, Tryd.ntmps5
  go_wp2_with fail
  refine (H.out.1 w).mono ?_; rintro e w1 ⟨rfl, hr1, hb1⟩
  go_wp2_with fail
  refine (H.out.2.1 w1).mono ?_; rintro e w2 ⟨rfl, hr2, hb2⟩
  have hb2' : Hid (Below w.heap.size w w2) := hb1.trans (hb2.mono hb1.size)
  have hr1' := hr1.below hb2 hr1.lt
  have Hr := Lib.hid (And.intro hr1' hr2)
  clear hr1 hb1 hb2 hr1' hr2
  go_wp2_with fail
  refine wp_region_gr [(0, true), (1, true), (2, true), (3, true), (4, true), (5, true), (6, true), (7, true), (8, true), (9, true), (10, true), (11, true), (12, true), (13, true), (14, true), (15, true)] (by kernel_rfl) (by kernel_rfl) (by kernel_rfl) (by kernel_rfl) (fun _ _ _ _ _ h => h) ?_
  have hc1 : ∀ w', Ext w2.drew w' → (convert 22 9 (.slice (some ⟨w.heap.size, 0, none⟩) A A)).run Tryd.prog w' = .ok (.string (bstr LA)) w' := fun w' h => conv_row (P := Tryd.prog) 22 5 9 Tryd.underlying22 Tryd.underlying5 Tryd.underlying9 w.heap.size A A LA HL.out.1 w' ((h.block _ Hr.out.1.lt).trans Hr.out.1)
  by_cases hle : A ≤ B
  · have hc2 : ∀ w', Ext w2.drew w' → (convert 22 9 (.slice (some ⟨w1.heap.size, 0, none⟩) A B)).run Tryd.prog w' = .ok (.string (bstr (LB.take A))) w' := fun w' h => conv_cut (P := Tryd.prog) 22 5 9 Tryd.underlying22 Tryd.underlying5 Tryd.underlying9 w1.heap.size A B LB (by rw [HL.out.2]; exact hle) w' ((h.block _ Hr.out.2.lt).trans Hr.out.2)
    have h0 : (0 : Int) ≤ (A : Int) := by omega
    have h1 : (A : Int) ≤ (B : Int) := by omega
    repeat (refine wpGr_read (o := ⟨_, _, _, _, _, _⟩) (v := ?_) rfl (by rfl) ?_ ?_; rotate_left; (intro w' hw'; go_simp; with_reducible rfl); simp only [Act.put, List.setIfInBounds_toArray, List.set_cons_zero, List.set_cons_succ])
    refine wpGr_done ?_
    clear hc1 hc2
    go_wp2_with fail
    refine (H.out.1 _).mono ?_; rintro e w3 ⟨rfl, hr3, hb3⟩
    have hb3' : Hid (Below w.heap.size w w3) := hb2'.out.drew.trans (hb3.mono hb2'.out.size)
    have hs3 := Lib.hid (row_src hr3)
    clear hr3 hb3
    go_wp2_with fail
    refine (H.out.2.2.1 w3 _ _ hs3.out).mono ?_; rintro e w4 ⟨rfl, hr4, hb4⟩
    have hb4' : Hid (Below w.heap.size w w4) := hb3'.out.trans (hb4.mono hb3'.out.size)
    have Hr4 := Lib.hid hr4
    clear hr4 hb4 hs3
    go_wp2_with fail
    refine (get_row w4 w3.heap.size (A + B) _ (LA ++ LB) (by rw [List.length_append, HL.out.1, HL.out.2]) (hba.append hbb) (by omega) Hr4.out _ H.out.2.2.2.1).mono ?_; rintro e w' ⟨rfl, rfl⟩
    have t0 : (0 : Int) ≤ (A : Int) := by omega
    have t1 : (A : Int) ≤ (A : Int) + (B : Int) := by omega
    go_wp2_with fail
    refine (get_rest w4 w3.heap.size A B B LA LB HL.out.1 HL.out.2 hbb (by omega) Hr4.out _ H.out.2.2.2.2).mono ?_; rintro e w' ⟨rfl, rfl⟩
    go_wp2_with fail
    refine (sure_any w4 (HG.out.below hb4'.out)).mono ?_; rintro e w6 ⟨rfl, hb6⟩
    go_wp2_with fail
    go_ret
    exact ⟨rfl, hb4'.out.trans (hb6.mono hb4'.out.size)⟩
  · have hle' : decide ((A : Int) ≤ (B : Int)) = false := by simp; omega
    have hDf : D = false := by
      rw [HD.out.1, decide_eq_false_iff_not]
      intro h; exact hle (by rw [HD.out.2 h]; exact Nat.le_refl _)
    clear hbeg HD
    subst hDf
    repeat (first
      | (refine wpGr_read (o := ⟨_, _, _, _, _, _⟩) (v := ?_) rfl (by rfl) ?_ ?_; rotate_left; (intro w' hw'; go_simp; with_reducible rfl); simp only [Act.put, List.setIfInBounds_toArray, List.set_cons_zero, List.set_cons_succ])
      | (refine wpGr_skip (o := ⟨_, _, _, _, _, _⟩) rfl (by rfl) ?_; simp only [Act.put, List.setIfInBounds_toArray, List.set_cons_zero, List.set_cons_succ]))
    refine wpGr_done ?_
    clear hc1
    go_wp2_with fail
    refine (H.out.1 _).mono ?_; rintro e w3 ⟨rfl, hr3, hb3⟩
    have hb3' : Hid (Below w.heap.size w w3) := hb2'.out.drew.trans (hb3.mono hb2'.out.size)
    have hs3 := Lib.hid (row_src hr3)
    clear hr3 hb3
    go_wp2_with fail
    refine (H.out.2.2.1 w3 _ _ hs3.out).mono ?_; rintro e w4 ⟨rfl, hr4, hb4⟩
    have hb4' : Hid (Below w.heap.size w w4) := hb3'.out.trans (hb4.mono hb3'.out.size)
    have Hr4 := Lib.hid hr4
    clear hr4 hb4 hs3
    go_wp2_with fail
    refine (get_row w4 w3.heap.size (A + B) _ (LA ++ LB) (by rw [List.length_append, HL.out.1, HL.out.2]) (hba.append hbb) (by omega) Hr4.out _ H.out.2.2.2.1).mono ?_; rintro e w' ⟨rfl, rfl⟩
    have t0 : (0 : Int) ≤ (A : Int) := by omega
    have t1 : (A : Int) ≤ (A : Int) + (B : Int) := by omega
    go_wp2_with fail
    refine (get_rest w4 w3.heap.size A B B LA LB HL.out.1 HL.out.2 hbb (by omega) Hr4.out _ H.out.2.2.2.2).mono ?_; rintro e w' ⟨rfl, rfl⟩
    go_wp2_with fail
    refine (sure_any w4 (HG.out.below hb4'.out)).mono ?_; rintro e w6 ⟨rfl, hb6⟩
    go_wp2_with fail
    go_ret
    exact ⟨rfl, hb4'.out.trans (hb6.mono hb4'.out.size)⟩
end Go.Proofs.YtcpekhfgkbigcaaDoor
