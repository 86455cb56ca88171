/-
  What the law PlanFew stands on.
-/
import Derived.Test.YtdgladhfibfdlaaGreatDoorRows
import Derived.Test.YtdgladhfibfdlaaGreatDoorQPlanFew02
import Derived.Test.YtdgladhfibfdlaaGreatDoorQPlanFew06
import Derived.Test.YtdgladhfibfdlaaGreatDoorQPlanFew04
import Derived.Lib.LaidTab
import Derived.LaidLaws
import Derived.LaidHandle
import Derived.ChangeBears2
import Derived.Test.YtdgladhfibfdlaaGreatDoorQPlanFew10
import Derived.Test.YtdgladhfibfdlaaGreatDoorQPlanFew14
import Derived.Test.YtdgladhfibfdlaaGreatDoorQPlanFew01
import Derived.WalkKit
import Derived.Below
import Derived.Lib.Hide
import Derived.Lib.AppendZerosOnto
import Derived.Lib.SliceRun
namespace Go.Proofs.YtdgladhfibfdlaaGreatDoor
open Go.RowKit
theorem laidOwn : ownKnob Tryz.prog.godebug = none := by kernel_rfl
theorem laidEt : Tryz.prog.globalNamed "errors.errorType" = some 0 := by kernel_rfl
theorem laidRt : (Tryz.prog.cutTypes.find? (·.1 == "internal/reflectlite.rtype")).map (·.2) = some 193 := by kernel_rfl
theorem laidRow : ((List.range 340).filter fun t => Tryz.prog.rowNamed t [101, 114, 114, 111, 114]) = [38] := by kernel_rfl
theorem laidSize : Tryz.prog.types.size = 340 := by kernel_rfl
abbrev laidList {H : Type} : List (String × DataW H) := [("math/bits.deBruijn64tab", Rows.laid_math_bits_deBruijn64tab), ("errors.errorType", Rows.laid_errors_errorType), ("warren/crc.worth", Rows.laid_warren_crc_worth)]
theorem laid_parts {W : World} (h : laidMetH Tryz.prog laidList W) : laidMet Tryz.prog [("math/bits.deBruijn64tab", Rows.laid_math_bits_deBruijn64tab), ("warren/crc.worth", Rows.laid_warren_crc_worth)] W ∧ handlesMet Tryz.prog [("errors.errorType", Rows.laid_errors_errorType)] W := h
theorem hg_of_laid {W : World} (h : laidMetH Tryz.prog laidList W) : Hg W := by
  obtain ⟨name, u, ty, e1, e2, e3, e4, e5⟩ := (laid_parts h).2 _ (List.mem_singleton.2 rfl)
  have en : name = [101, 114, 114, 111, 114] := (Option.some.inj e1).symm
  subst en
  obtain rfl := Option.some.inj (laidRt.symm.trans e2)
  have hm : ty ∈ (List.range 340).filter fun t => Tryz.prog.rowNamed t [101, 114, 114, 111, 114] := List.mem_filter.2 ⟨List.mem_range.2 (by rw [← laidSize]; exact e3), e4⟩
  rw [laidRow] at hm
  obtain rfl := List.mem_singleton.1 hm
  have hh : typeHandle Tryz.prog 38 = .pointer (some ⟨3, 38, none⟩) := by kernel_rfl
  rw [hh] at e5
  have := World.var?_cell laidEt e5 0
  unfold Hg
  simpa using this
theorem laidMet_tail {P : Program} {x : String × DataW Unit} {r : List (String × DataW Unit)} {W : World} (h : laidMet P (x :: r) W) : laidMet P r W := by
  obtain ⟨ps, ⟨g, t, cs, fuel, p, q, _, _, _, _, hr, rfl⟩, hn, hc⟩ := h
  exact ⟨q, hr, (List.nodup_append.1 hn).2.1, fun b off hm => hc b off (List.mem_append_right _ hm)⟩
theorem worths_eq : (worths.map fun n : Nat => (n : Int)) = [0, 274646895, 549293790, 820201905, 1098587580, 1361435347, 1640403810, 1905808397, 2197175160, 2460548119, 2722870694, 2987750089, 3280807620, 3553878443, 3811616794, 4084100981] := by decide +kernel
theorem laidWorthIs {H : Type} : (Rows.laid_warren_crc_worth : DataW H) = Lib.tabData .u32 (worths.map fun n : Nat => (n : Int)) := by rw [worths_eq]; rfl
theorem worth_of_laid {W : World} (h : laidMetH Tryz.prog laidList W) : WorthIn W := by
  have h1 := laidMet_tail (laid_parts h).1
  rw [laidWorthIs] at h1
  have ht := Lib.tabIs_of_head (P := Tryz.prog) (g := 2) (t := 312) (e := 81) (n := 16) (by kernel_rfl) (by kernel_rfl) Tryz.underlying312 Tryz.underlying81 (by kernel_rfl) (by kernel_rfl) h1
  intro j hj
  have := ht.cell (g := 2) (by kernel_rfl) j (by simpa [worths] using hj)
  rw [this]
  congr 2
  have hj' : j < worths.length := by simpa [worths] using hj
  simp [List.getD, hj']
theorem laidTabIs {H : Type} : (Rows.laid_math_bits_deBruijn64tab : DataW H) = Lib.tabData .u8 (Lib.deBruijn64tab.map fun n : Nat => (n : Int)) := rfl
theorem tab_of_laid {W : World} (h : laidMetH Tryz.prog laidList W) : TabIn W := by
  have h1 := (laid_parts h).1
  rw [laidTabIs] at h1
  have ht := Lib.tabIs_of_head (P := Tryz.prog) (g := 1) (t := 268) (e := 5) (n := 64) (by kernel_rfl) (by kernel_rfl) Tryz.underlying268 Tryz.underlying5 (by kernel_rfl) (by kernel_rfl) h1
  intro j hj
  have := ht.cell (g := 1) (by kernel_rfl) j (by simpa using hj)
  rw [this]
  congr 2
  simp [List.getD, hj]
noncomputable def laidWorld (os : Os) : World :=
  let w0 := World.holding Tryz.prog os ⟨#[], #[], []⟩
  { w0 with heap := ((w0.heap.modify 0 fun
      | .cells _ t frozen => .cells #[.iface 193 (.agg #[.pointer (some ⟨3, 38, none⟩)])] t frozen
      | o => o).modify 1 fun
      | .cells _ t frozen => .cells (Lib.deBruijn64tab.map fun n : Nat => Value.int .u8 (n : Int)).toArray t frozen
      | o => o).modify 2 fun
      | .cells _ t frozen => .cells (worths.map fun n : Nat => Value.int .u32 (n : Int)).toArray t frozen
      | o => o }
theorem laidWorld_met (os : Os) (args : Array Value) : laidMetH Tryz.prog laidList ((laidWorld os).forCall (fun _ _ => 0) ⟨#[], args, []⟩).memory :=
  laidMetH_of_parts (laidMet_of_run' 8 (by kernel_rfl) (by kernel_rfl)) (by kernel_rfl)
end Go.Proofs.YtdgladhfibfdlaaGreatDoor
namespace Go.Proofs.YtdgladhfibfdlaaGreatDoor
open Go Go.RowKit
abbrev ZT : TypeId := 3
abbrev SZT : TypeId := 101
theorem zcell_new (w : World) (T : TypeId) (y : Int) : (w.alloc (.cells #[.int .i64 y] T)).cell? ⟨w.heap.size, 0, none⟩ = some (.int .i64 y) := by simp
theorem TabIn.below {w w' : World} (h : TabIn w) (hb : Below w.heap.size w w') : TabIn w' := fun j hj => by
  have hc := h j hj
  have hlt : 1 < w.heap.size := by
    rcases Nat.lt_or_ge 1 w.heap.size with h1 | h1
    · exact h1
    · simp [World.cell?, Array.getElem?_eq_none h1] at hc
  rw [hb.cell (p := ⟨1, j, none⟩) hlt]; exact hc
def eI (f : Nat → Bool) (k : Nat) : List Int := (els f k).map (fun n : Nat => (n : Int))
theorem eI_len (f : Nat → Bool) (k : Nat) : (eI f k).length = cnt f k := by rw [eI, List.length_map, els_len]
theorem eI_ia (f : Nat → Bool) (i : Nat) (h : i < cnt f 1024) : ia (eI f 1024) i = (el f i : Int) := by
  obtain ⟨h1, _⟩ := el_get f i h
  rw [ia, List.getD_eq_getElem?_getD, eI, List.getElem?_map, h1]; rfl
section
variable {P : Program} {w : World} {ops : Array Oper} {rest : List Oper} {o : Oper} {a : Act} {Q : Exit → Act → World → Prop}
theorem wpList_make_room (hg : o.guard = none) (l c : Operand) (t : TypeId) (hop : o.op = Op.makeSlice t l c)
    (h1 : P.underlying t = some (.slice ZT)) (h2 : (P.info? ZT).map (fun i => (i.zero, i.size, i.bytes)) = some (some (.int .i64 0), 1, 8))
    (kl kc : IntKind) (n : Nat) (hl : a.eval l = .int kl 0) (hc : a.eval c = .int kc n) (b : n ≤ 1024) (B : Nat) (hB : B ≤ w.heap.size)
    (hK : ∀ v w', w'.ownsRow B ZT 1 v ([] : List Int).length (iv []) → Below w.heap.size w w' → wpList P ops Q rest (a.put o.dst v) w') :
    wpList P ops Q (o :: rest) a w := by
  obtain ⟨i0, hi, hz0, hz1, hz2⟩ := info_parts h2
  refine wpList_make_own w hg l c t hop B ZT i0 (.int .i64 0) 1 h1 hi hz0 hz1 kl kc n n hl hc rfl (by rw [hz2]; omega) (by unfold maxLen; omega) hB ?_
  intro w1 hown hgrow
  exact hK _ w1 hown ((Below.refl w.heap.size w).grown hgrow (Nat.le_refl _) (by intro k hk; cases hk))
end
set_option maxRecDepth 100000 in
theorem ball_any (f : Nat → Bool) (w : World) (hT : TabIn w) : Calls Tryz.prog 71 #[.agg (sc f)] w fun e w' => ∃ v, e = .returned v ∧ w'.ownsRow w.heap.size ZT 1 v (eI f 1024).length (iv (eI f 1024)) ∧ Below w.heap.size w w' := by
  have HT := Lib.hid hT
  clear hT
  go_enter Tryz.func71, Tryz.ntmps71
  go_wp2_with (first
    | (refine wpList_box_arr rfl TS (.tmp 0) rfl (sc f) (by rfl) ?_; intro g1 w1 hg1 hk1 hb1)
    | (refine wpList_load_sc rfl TS (.tmp 1) rfl g1 f TS (by rfl) arr_TS hk1 ?_))
  refine (bcount_any f w1).mono ?_
  rintro e w2 ⟨rfl, hb2⟩
  have hk2 := hk1.ext hb2
  have Hb2 : Hid (Below w.heap.size w w2) := hb1.trans (hb2.mono hb1.size)
  have hc4 : cnt f 1024 ≤ 1024 := cnt_le f 1024
  have Hg : Hid (w.heap.size ≤ g1) := hg1
  clear hb1 hb2 hk1 hg1
  generalize cnt f 1024 = C at *
  go_wp2_with (first
    | (show wpList _ _ _ (⟨some 8, _, _, _, _, _⟩ :: _) _ _; refine wpList_make_room rfl _ _ SZT rfl Tryz.underlying101 infoInt .i64 .i64 C rfl rfl hc4 w.heap.size Hb2.out.size ?_; intro v3 w3 ho3 hb3)
    | (show wpList _ _ _ (⟨some 9, _, _, _, _, _⟩ :: _) _ _; refine wpList_load_sc rfl TS (.tmp 1) rfl g1 f TS (by rfl) arr_TS (hk2.ext hb3) ?_))
  have Hb3 : Hid (Below w.heap.size w w3) := Hb2.out.trans (hb3.mono Hb2.out.size)
  have Ho3 := Lib.hid ho3
  clear Hb2 hb3 ho3 hk2 hc4
  go_loopw [3, 4, 5, 10] (fun lv _ _ i wr => ∃ (k : Nat) (v : Value), v = lv ∧ i = .int .i64 k ∧ k ≤ 16 ∧ Hid (wr.ownsRow w.heap.size ZT 1 v (eI f (64 * k)).length (iv (eI f (64 * k)))) ∧ Hid (Below w.heap.size w wr)) (fun _ _ _ i _ => 16 - (intOf i).toNat)
  case atStart => exact ⟨0, v3, rfl, rfl, by omega, Ho3, Hb3⟩
  case round =>
    obtain ⟨k, v, rfl, rfl, hk, hown, hB⟩ := hrel
    obtain ⟨W0, hW0⟩ : ∃ W0, W0 = wr := ⟨_, rfl⟩
    subst hW0
    by_cases hlt : k < 16
    · have hlt2 : (k : Int) < 16 := by omega
      obtain ⟨A, hA⟩ : ∃ A, 64 * k = A := ⟨_, rfl⟩
      have q1 : IntKind.i64.wrap ((k : Int) * 64) = (A : Int) := by rw [IntKind.wrap_i64]; omega
      have HA := Lib.hid hA
      have Hw0 := Lib.hid (wh_zero f k)
      go_wp2_with (first | (refine wpList_index_sc rfl (.tmp 9) (.tmp 10) rfl f k (by rfl) (by rfl) hlt ?_))
      rw [← Hw0.out]
      go_loopw [3, 5] (fun lv x wx => ∃ (j : Nat) (v2 : Value), v2 = lv ∧ x = .int .u64 (wh f k j : Nat) ∧ j ≤ 64 ∧ Hid (wx.ownsRow w.heap.size ZT 1 v2 (eI f (64 * k + j)).length (iv (eI f (64 * k + j)))) ∧ Hid (Below w.heap.size w wx)) (fun _ x _ => (intOf x).toNat)
      case atStart => exact ⟨0, v, rfl, rfl, by omega, hown, hB⟩
      case round =>
        obtain ⟨j, v2, rfl, rfl, hj, hown2, hB2⟩ := hrel
        by_cases h0 : wh f k j = 0
        · have hd := wh_done hj h0
          have ho3 : Hid (wr.ownsRow w.heap.size ZT 1 v2 (eI f (64 * (k + 1))).length (iv (eI f (64 * (k + 1))))) := by
            have := hown2.out
            rw [eI, hd] at this; exact this
          rw [h0]
          clear hown2 hd h0
          go_wp2
          go_roundw
          case rel => exact ⟨k + 1, v2, rfl, by go_num, by omega, ho3, hB2⟩
          case measure => simp [intOf]; omega
        · obtain ⟨t, ht, hjt, h64, hft, hels, hnext⟩ := wh_next (f := f) (k := k) (j := j) (by omega)
          have hlt3 := wh_lt f k j
          have hlow := lowest_pos (wh f k j) wr (by omega) hlt3 (HT.out.below (hB2.out.mono (by exact Nat.le_refl _)))
          rw [ht] at hlow
          have hdec : wh f k (t + 1) < wh f k j := by
            rw [← hnext]
            have := Nat.and_le_right (n := wh f k j) (m := wh f k j - 1)
            omega
          have hand : bits .and .u64 (wh f k j : Nat) ((wh f k j - 1 : Nat) : Int) = (wh f k (t + 1) : Nat) := by
            rw [u64_and_nat _ _ hlt3 (by omega), hnext]
          have hsub : IntKind.u64.wrap ((wh f k j : Nat) - 1) = ((wh f k j - 1 : Nat) : Int) := by rw [IntKind.wrap_u64]; omega
          have hne : (((wh f k j : Nat) : Int) == 0) = false := by rw [beq_eq_false_iff_ne]; omega
          have hln : Hid ((eI f (64 * k + j)).length ≤ 2048) := by
            show _ ≤ _
            rw [eI_len]; have := cnt_le f (64 * k + j); omega
          have hstep : Hid (eI f (64 * k + j) ++ [((64 * k + t : Nat) : Int)] = eI f (64 * k + (t + 1))) := by
            show _ = _
            rw [eI, eI, hels, List.map_append]; rfl
          obtain ⟨Z, hZ⟩ : ∃ Z, 64 * k + t = Z := ⟨_, rfl⟩
          have q2 : IntKind.i64.wrap ((A : Int) + (t : Int)) = (Z : Int) := by rw [IntKind.wrap_i64]; have := HA.out; omega
          rw [hZ] at hstep
          obtain ⟨V2, hV2⟩ : ∃ V2, wh f k (t + 1) = V2 := ⟨_, rfl⟩
          rw [hV2] at hdec hand
          have HV2 := Lib.hid hV2
          generalize wh f k j - 1 = V1 at *
          generalize wh f k j = V0 at *
          have HL := Lib.hid hlow
          have Hdec := Lib.hid hdec
          have Ht := Lib.hid h64
          have hsz := hB2.out.size
          have hnew := Lib.hid (zcell_new wr ZT (Z : Int))
          clear hZ hels hnext hft ht hjt hlow hdec h64 hV2 h0 hA hown
          go_wp2_with fail
          refine HL.out.mono ?_
          rintro e w' ⟨rfl, rfl⟩
          go_wp2_with (at_builtin; refine wpList_append_page rfl (.tmp 16) (.tmp 22) SZT rfl w.heap.size ZT Tryz.underlying101 infoInt _ (eI f (64 * k + j)) (by rfl) (hown2.out.alloc _) wr.heap.size 1 (Z : Int) (by rfl) hnew.out (by have := hln.out; omega) (by simp; omega) ?_; intro v4 w4 hown4 hgrow4)
          have hb4 : Hid (Below w.heap.size w w4) := (hB2.out.alloc hsz _).grown hgrow4.out (by simp; omega) (fun j hj => (hown2.out.lt j hj).1)
          have ho4 : Hid (w4.ownsRow w.heap.size ZT 1 v4 (eI f (64 * k + (t + 1))).length (iv (eI f (64 * k + (t + 1))))) := by rw [← hstep.out]; exact hown4
          clear hown4 hgrow4 hown2 hB2 hstep
          go_wp2
          go_roundw
          case rel => exact ⟨t + 1, v4, rfl, by rw [HV2.out], by have := Ht.out; omega, ho4, hb4⟩
          case measure => simp [intOf]; exact Hdec.out
    · obtain rfl : k = 16 := by omega
      go_wp2
      go_ret
      exact ⟨_, rfl, hown.out, hB.out⟩
end Go.Proofs.YtdgladhfibfdlaaGreatDoor
namespace Go.Proofs.YtdgladhfibfdlaaGreatDoor
open Go Go.RowKit
theorem own_no {α : Type} (E : Elt α) (w : World) (T : TypeId) : (w.alloc (.cells #[] T)).ownsRow w.heap.size T E.sz (.slice (some ⟨w.heap.size, 0, none⟩) 0 0) 0 (E.row []) := by
  refine ⟨by simp [Elt.row], .inr ⟨w.heap.size, 0, #[], rfl, Nat.le_refl _, ?_, Nat.le_refl _, by unfold maxLen; omega, by simp, by simp [Elt.row]⟩⟩
  show (w.heap.push _)[w.heap.size]? = _; rw [Array.getElem?_push_size]
set_option maxRecDepth 100000 in
theorem cloneS_own (v : Value) (l : List ByteArray) (w : World) (hv : EV strE w v l) (hl : l.length ≤ 1000000) :
    Calls Tryz.prog 103 #[v] w fun e w' => ∃ u, e = .returned u ∧ w'.ownsRow w.heap.size 9 (strE).sz u l.length ((strE).row l) ∧ Below w.heap.size w w' := by
  obtain ⟨a, c, rfl, hs, hz, hc, hm⟩ := hv
  have q22 : ∀ (w : World) (a : Option Addr) (n c n' c' : Nat), (binOp .eql 92 (.slice a n c) (.slice none n' c')).run Tryz.prog w = .ok (.bool a.isNone) w := fun w a n c n' c' => Lib.run_eql_slice_nil w _ _ a n c n' c' Tryz.underlying92
  cases a with
  | none =>
    obtain rfl : l = [] := by
      rcases hs with ⟨_, h⟩ | ⟨g, o, h, _⟩
      · exact h
      · cases h
    have hcz := hz rfl
    clear hs hz hc hm
    go_enter Tryz.func103, Tryz.ntmps103
    go_wp2
    go_ret
    exact ⟨_, rfl, World.ownsRow_nil _ _ _ _, Below.refl _ _⟩
  | some ad =>
    have hb1 : Below w.heap.size w (w.alloc (.cells #[] 9)) := (Below.refl _ _).alloc (Nat.le_refl _) _
    obtain ⟨v1, w1, hrun, hb2, ho⟩ := run_app_own (P := Tryz.prog) (w := w.alloc (.cells #[] 9)) (E := strE) w.heap.size 92 92 9 Tryz.underlying92 infoSt _ 0 [] (own_no strE w 9) hb1.size (some ad) l.length c l rfl hz (hs.below hb1 (Nat.le_refl _)) (by unfold maxLen; omega) (by show _ * 16 ≤ _; omega)
    rw [List.nil_append, Nat.zero_add] at ho
    have Ho := Lib.hid ho
    have HB := Lib.hid (hb1.trans hb2)
    obtain ⟨n, hn⟩ : ∃ n, l.length = n := ⟨_, rfl⟩
    rw [hn] at hrun Ho ⊢
    clear hs hz hc hm hb1 hb2 ho hn hl
    go_enter Tryz.func103, Tryz.ntmps103
    go_wp2_with (at_builtin; refine Lib.wpList_append_run _ rfl (.tmp 5) (.tmp 6) _ _ rfl _ _ (by rfl) (by rfl) _ _ hrun ?_)
    go_ret
    exact ⟨_, rfl, Ho.out, HB.out⟩
theorem cloneS_any (v : Value) (l : List ByteArray) (w : World) (hv : EV strE w v l) (hl : l.length ≤ 1000000) :
    Calls Tryz.prog 103 #[v] w fun e w' => ∃ u, e = .returned u ∧ EV strE w' u l ∧ Below w.heap.size w w' := by
  refine (cloneS_own v l w hv hl).mono ?_
  rintro e w' ⟨u, rfl, ho, hb⟩
  exact ⟨u, rfl, own_ev ho, hb⟩
set_option maxRecDepth 100000 in
theorem cloneC_own (v : Value) (l : List Rw) (w : World) (hv : EV celE w v l) (hl : l.length ≤ 1000000) :
    Calls Tryz.prog 125 #[v] w fun e w' => ∃ u, e = .returned u ∧ w'.ownsRow w.heap.size 128 (celE).sz u l.length ((celE).row l) ∧ Below w.heap.size w w' := by
  obtain ⟨a, c, rfl, hs, hz, hc, hm⟩ := hv
  have q22 : ∀ (w : World) (a : Option Addr) (n c n' c' : Nat), (binOp .eql 91 (.slice a n c) (.slice none n' c')).run Tryz.prog w = .ok (.bool a.isNone) w := fun w a n c n' c' => Lib.run_eql_slice_nil w _ _ a n c n' c' Tryz.underlying91
  cases a with
  | none =>
    obtain rfl : l = [] := by
      rcases hs with ⟨_, h⟩ | ⟨g, o, h, _⟩
      · exact h
      · cases h
    have hcz := hz rfl
    clear hs hz hc hm
    go_enter Tryz.func125, Tryz.ntmps125
    go_wp2
    go_ret
    exact ⟨_, rfl, World.ownsRow_nil _ _ _ _, Below.refl _ _⟩
  | some ad =>
    have hb1 : Below w.heap.size w (w.alloc (.cells #[] 128)) := (Below.refl _ _).alloc (Nat.le_refl _) _
    obtain ⟨v1, w1, hrun, hb2, ho⟩ := run_app_own (P := Tryz.prog) (w := w.alloc (.cells #[] 128)) (E := celE) w.heap.size 91 91 128 Tryz.underlying91 infoTC _ 0 [] (own_no celE w 128) hb1.size (some ad) l.length c l rfl hz (hs.below hb1 (Nat.le_refl _)) (by unfold maxLen; omega) (by show _ * 56 ≤ _; omega)
    rw [List.nil_append, Nat.zero_add] at ho
    have Ho := Lib.hid ho
    have HB := Lib.hid (hb1.trans hb2)
    obtain ⟨n, hn⟩ : ∃ n, l.length = n := ⟨_, rfl⟩
    rw [hn] at hrun Ho ⊢
    clear hs hz hc hm hb1 hb2 ho hn hl
    go_enter Tryz.func125, Tryz.ntmps125
    go_wp2_with (at_builtin; refine Lib.wpList_append_run _ rfl (.tmp 5) (.tmp 6) _ _ rfl _ _ (by rfl) (by rfl) _ _ hrun ?_)
    go_ret
    exact ⟨_, rfl, Ho.out, HB.out⟩
set_option maxRecDepth 100000 in
theorem cloneI_own (v : Value) (l : List Nat) (w : World) (hv : EV pgE w v l) (hl : l.length ≤ 1000000) :
    Calls Tryz.prog 126 #[v] w fun e w' => ∃ u, e = .returned u ∧ w'.ownsRow w.heap.size 3 (pgE).sz u l.length ((pgE).row l) ∧ Below w.heap.size w w' := by
  obtain ⟨a, c, rfl, hs, hz, hc, hm⟩ := hv
  have q22 : ∀ (w : World) (a : Option Addr) (n c n' c' : Nat), (binOp .eql 101 (.slice a n c) (.slice none n' c')).run Tryz.prog w = .ok (.bool a.isNone) w := fun w a n c n' c' => Lib.run_eql_slice_nil w _ _ a n c n' c' Tryz.underlying101
  cases a with
  | none =>
    obtain rfl : l = [] := by
      rcases hs with ⟨_, h⟩ | ⟨g, o, h, _⟩
      · exact h
      · cases h
    have hcz := hz rfl
    clear hs hz hc hm
    go_enter Tryz.func126, Tryz.ntmps126
    go_wp2
    go_ret
    exact ⟨_, rfl, World.ownsRow_nil _ _ _ _, Below.refl _ _⟩
  | some ad =>
    have hb1 : Below w.heap.size w (w.alloc (.cells #[] 3)) := (Below.refl _ _).alloc (Nat.le_refl _) _
    obtain ⟨v1, w1, hrun, hb2, ho⟩ := run_app_own (P := Tryz.prog) (w := w.alloc (.cells #[] 3)) (E := pgE) w.heap.size 101 101 3 Tryz.underlying101 infoPg _ 0 [] (own_no pgE w 3) hb1.size (some ad) l.length c l rfl hz (hs.below hb1 (Nat.le_refl _)) (by unfold maxLen; omega) (by show _ * 8 ≤ _; omega)
    rw [List.nil_append, Nat.zero_add] at ho
    have Ho := Lib.hid ho
    have HB := Lib.hid (hb1.trans hb2)
    obtain ⟨n, hn⟩ : ∃ n, l.length = n := ⟨_, rfl⟩
    rw [hn] at hrun Ho ⊢
    clear hs hz hc hm hb1 hb2 ho hn hl
    go_enter Tryz.func126, Tryz.ntmps126
    go_wp2_with (at_builtin; refine Lib.wpList_append_run _ rfl (.tmp 5) (.tmp 6) _ _ rfl _ _ (by rfl) (by rfl) _ _ hrun ?_)
    go_ret
    exact ⟨_, rfl, Ho.out, HB.out⟩
end Go.Proofs.YtdgladhfibfdlaaGreatDoor
