/-
  bitset's All: which numbers, ascending.
-/
import Derived.Test.YtkokcmjpobfkkaaDoorBit4
import Derived.Test.YtkokcmjpobfkkaaDoorPages
namespace Go.Proofs.YtkokcmjpobfkkaaDoor
open Go Go.RowKit

abbrev ZT : TypeId := 3
abbrev SZT : TypeId := 26
theorem zcell_new (w : World) (T : TypeId) (y : Int) : (w.alloc (.cells #[.int .i64 y] T)).cell? ⟨w.heap.size, 0, none⟩ = some (.int .i64 y) := by simp
theorem TabIn.below {w w' : World} (h : TabIn w) (hb : Below w.heap.size w w') : TabIn w' := fun j hj => by
  have hc := h j hj
  have hlt : 1 < w.heap.size := by
    rcases Nat.lt_or_ge 1 w.heap.size with h1 | h1
    · exact h1
    · simp [World.cell?, Array.getElem?_eq_none h1] at hc
  rw [hb.cell (p := ⟨1, j, none⟩) hlt]; exact hc
/-- The numbers below k, as ints. -/
def eI (f : Nat → Bool) (k : Nat) : List Int := (els f k).map (fun n : Nat => (n : Int))
theorem eI_len (f : Nat → Bool) (k : Nat) : (eI f k).length = cnt f k := by rw [eI, List.length_map, els_len]
theorem eI_ia (f : Nat → Bool) (i : Nat) (h : i < cnt f 1024) : ia (eI f 1024) i = (el f i : Int) := by
  obtain ⟨h1, _⟩ := el_get f i h
  rw [ia, List.getD_eq_getElem?_getD, eI, List.getElem?_map, h1]; rfl
section
variable {P : Program} {w : World} {ops : Array Oper} {rest : List Oper} {o : Oper} {a : Act} {Q : Exit → Act → World → Prop}
/-- make of an empty row with room. -/
theorem wpList_make_room (hg : o.guard = none) (l c : Operand) (t : TypeId) (hop : o.op = Op.makeSlice t l c)
    (h1 : P.underlying t = some (.slice ZT)) (h2 : (P.info? ZT).map (fun i => (i.zero, i.size, i.bytes)) = some (some (.int .i64 0), 1, 8))
    (kl kc : IntKind) (n : Nat) (hl : a.eval l = .int kl 0) (hc : a.eval c = .int kc n) (b : n ≤ 1024) (B : Nat) (hB : B ≤ w.heap.size)
    (hK : ∀ v w', w'.ownsRow B ZT 1 v ([] : List Int).length (iv []) → Below w.heap.size w w' → wpList P ops Q rest (a.put o.dst v) w') :
    wpList P ops Q (o :: rest) a w := by
  obtain ⟨i0, hi, hz0, hz1, hz2⟩ := info_parts h2
  refine wpList_make_own w hg l c t hop B ZT i0 (.int .i64 0) 1 h1 hi hz0 hz1 kl kc n n hl hc rfl (by rw [hz2]; omega) (by unfold maxLen; omega) hB ?_
  intro w1 hown hgrow
  exact hK _ w1 hown ((Below.refl w.heap.size w).grown hgrow (Nat.le_refl _) (by intro k hk; cases hk))
end
set_option maxRecDepth 100000 in
theorem all_any (f : Nat → Bool) (w : World) (hT : TabIn w) : Calls Tryd.prog 7 #[.agg (sc f)] w fun e w' => ∃ v, e = .returned v ∧ w'.ownsRow w.heap.size ZT 1 v (eI f 1024).length (iv (eI f 1024)) ∧ Below w.heap.size w w' := by
  have HT := Lib.hid hT
  clear hT
  go_enter Tryd.func7, Tryd.ntmps7
  go_wp2_with (first
    | (refine wpList_box_arr rfl TS (.tmp 0) rfl (sc f) (by rfl) ?_; intro g1 w1 hg1 hk1 hb1)
    | (refine wpList_load_sc rfl TS (.tmp 1) rfl g1 f TS (by rfl) arr_TS hk1 ?_))
  refine (count_any f w1).mono ?_
  rintro e w2 ⟨rfl, hb2⟩
  have hk2 := hk1.ext hb2
  have Hb2 : Hid (Below w.heap.size w w2) := hb1.trans (hb2.mono hb1.size)
  have hc4 : cnt f 1024 ≤ 1024 := cnt_le f 1024
  have Hg : Hid (w.heap.size ≤ g1) := hg1
  clear hb1 hb2 hk1 hg1
  generalize cnt f 1024 = C at *
  go_wp2_with (first
    | (show wpList _ _ _ (⟨some 8, _, _, _, _, _⟩ :: _) _ _; refine wpList_make_room rfl _ _ SZT rfl Tryd.underlying26 infoInt .i64 .i64 C rfl rfl hc4 w.heap.size Hb2.out.size ?_; intro v3 w3 ho3 hb3)
    | (show wpList _ _ _ (⟨some 9, _, _, _, _, _⟩ :: _) _ _; refine wpList_load_sc rfl TS (.tmp 1) rfl g1 f TS (by rfl) arr_TS (hk2.ext hb3) ?_))
  have Hb3 : Hid (Below w.heap.size w w3) := Hb2.out.trans (hb3.mono Hb2.out.size)
  have Ho3 := Lib.hid ho3
  clear Hb2 hb3 ho3 hk2 hc4
  go_loopw [3, 4, 5, 10] (fun lv _ _ i wr => ∃ (k : Nat) (v : Value), v = lv ∧ i = .int .i64 k ∧ k ≤ 16 ∧ Hid (wr.ownsRow w.heap.size ZT 1 v (eI f (64 * k)).length (iv (eI f (64 * k)))) ∧ Hid (Below w.heap.size w wr)) (fun _ _ _ i _ => 16 - (intOf i).toNat)
  case atStart => exact ⟨0, v3, rfl, rfl, by omega, Ho3, Hb3⟩
  case round =>
    obtain ⟨k, v, rfl, rfl, hk, hown, hB⟩ := hrel
    obtain ⟨W0, hW0⟩ : ∃ W0, W0 = wr := ⟨_, rfl⟩
    subst hW0
    by_cases hlt : k < 16
    · have hlt2 : (k : Int) < 16 := by omega
      obtain ⟨A, hA⟩ : ∃ A, 64 * k = A := ⟨_, rfl⟩
      have q1 : IntKind.i64.wrap ((k : Int) * 64) = (A : Int) := by rw [IntKind.wrap_i64]; omega
      have HA := Lib.hid hA
      have Hw0 := Lib.hid (wh_zero f k)
      go_wp2_with (first | (refine wpList_index_sc rfl (.tmp 9) (.tmp 10) rfl f k (by rfl) (by rfl) hlt ?_))
      rw [← Hw0.out]
      go_loopw [3, 5] (fun lv x wx => ∃ (j : Nat) (v2 : Value), v2 = lv ∧ x = .int .u64 (wh f k j : Nat) ∧ j ≤ 64 ∧ Hid (wx.ownsRow w.heap.size ZT 1 v2 (eI f (64 * k + j)).length (iv (eI f (64 * k + j)))) ∧ Hid (Below w.heap.size w wx)) (fun _ x _ => (intOf x).toNat)
      case atStart => exact ⟨0, v, rfl, rfl, by omega, hown, hB⟩
      case round =>
        obtain ⟨j, v2, rfl, rfl, hj, hown2, hB2⟩ := hrel
        by_cases h0 : wh f k j = 0
        · have hd := wh_done hj h0
          have ho3 : Hid (wr.ownsRow w.heap.size ZT 1 v2 (eI f (64 * (k + 1))).length (iv (eI f (64 * (k + 1))))) := by
            have := hown2.out
            rw [eI, hd] at this; exact this
          rw [h0]
          clear hown2 hd h0
          go_wp2
          go_roundw
          case rel => exact ⟨k + 1, v2, rfl, by go_num, by omega, ho3, hB2⟩
          case measure => simp [intOf]; omega
        · obtain ⟨t, ht, hjt, h64, hft, hels, hnext⟩ := wh_next (f := f) (k := k) (j := j) (by omega)
          have hlt3 := wh_lt f k j
          have hlow := lowest_pos (wh f k j) wr (by omega) hlt3 (HT.out.below (hB2.out.mono (by exact Nat.le_refl _)))
          rw [ht] at hlow
          have hdec : wh f k (t + 1) < wh f k j := by
            rw [← hnext]
            have := Nat.and_le_right (n := wh f k j) (m := wh f k j - 1)
            omega
          have hand : bits .and .u64 (wh f k j : Nat) ((wh f k j - 1 : Nat) : Int) = (wh f k (t + 1) : Nat) := by
            rw [u64_and_nat _ _ hlt3 (by omega), hnext]
          have hsub : IntKind.u64.wrap ((wh f k j : Nat) - 1) = ((wh f k j - 1 : Nat) : Int) := by rw [IntKind.wrap_u64]; omega
          have hne : (((wh f k j : Nat) : Int) == 0) = false := by rw [beq_eq_false_iff_ne]; omega
          have hln : Hid ((eI f (64 * k + j)).length ≤ 2048) := by
            show _ ≤ _
            rw [eI_len]; have := cnt_le f (64 * k + j); omega
          have hstep : Hid (eI f (64 * k + j) ++ [((64 * k + t : Nat) : Int)] = eI f (64 * k + (t + 1))) := by
            show _ = _
            rw [eI, eI, hels, List.map_append]; rfl
          obtain ⟨Z, hZ⟩ : ∃ Z, 64 * k + t = Z := ⟨_, rfl⟩
          have q2 : IntKind.i64.wrap ((A : Int) + (t : Int)) = (Z : Int) := by rw [IntKind.wrap_i64]; have := HA.out; omega
          rw [hZ] at hstep
          obtain ⟨V2, hV2⟩ : ∃ V2, wh f k (t + 1) = V2 := ⟨_, rfl⟩
          rw [hV2] at hdec hand
          have HV2 := Lib.hid hV2
          generalize wh f k j - 1 = V1 at *
          generalize wh f k j = V0 at *
          have HL := Lib.hid hlow
          have Hdec := Lib.hid hdec
          have Ht := Lib.hid h64
          have hsz := hB2.out.size
          have hnew := Lib.hid (zcell_new wr ZT (Z : Int))
          clear hZ hels hnext hft ht hjt hlow hdec h64 hV2 h0 hA hown
          go_wp2_with fail
          refine HL.out.mono ?_
          rintro e w' ⟨rfl, rfl⟩
          go_wp2_with (at_builtin; refine wpList_append_page rfl (.tmp 16) (.tmp 22) SZT rfl w.heap.size ZT Tryd.underlying26 infoInt _ (eI f (64 * k + j)) (by rfl) (hown2.out.alloc _) wr.heap.size 1 (Z : Int) (by rfl) hnew.out (by have := hln.out; omega) (by simp; omega) ?_; intro v4 w4 hown4 hgrow4)
          have hb4 : Hid (Below w.heap.size w w4) := (hB2.out.alloc hsz _).grown hgrow4.out (by simp; omega) (fun j hj => (hown2.out.lt j hj).1)
          have ho4 : Hid (w4.ownsRow w.heap.size ZT 1 v4 (eI f (64 * k + (t + 1))).length (iv (eI f (64 * k + (t + 1))))) := by rw [← hstep.out]; exact hown4
          clear hown4 hgrow4 hown2 hB2 hstep
          go_wp2
          go_roundw
          case rel => exact ⟨t + 1, v4, rfl, by rw [HV2.out], by have := Ht.out; omega, ho4, hb4⟩
          case measure => simp [intOf]; exact Hdec.out
    · obtain rfl : k = 16 := by omega
      go_wp2
      go_ret
      exact ⟨_, rfl, hown.out, hB.out⟩
end Go.Proofs.YtkokcmjpobfkkaaDoor
