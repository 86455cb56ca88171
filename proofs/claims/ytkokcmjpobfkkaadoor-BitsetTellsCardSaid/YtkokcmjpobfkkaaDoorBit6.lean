/-
  bitset's Take.
-/
import Derived.Test.YtkokcmjpobfkkaaDoorBit5
import Derived.Test.YtkokcmjpobfkkaaDoorBit2
import Derived.Test.YtkokcmjpobfkkaaDoorGt
import Derived.Test.YtkokcmjpobfkkaaDoorErrC
namespace Go.Proofs.YtkokcmjpobfkkaaDoor
open Go Go.RowKit

/-- A set without its first k numbers. -/
def takeR (f : Nat → Bool) (k m : Nat) : Bool := f m && decide (k ≤ cnt f m)
theorem take_zero (f : Nat → Bool) : takeR f 0 = f := by
  funext m; unfold takeR; rw [decide_eq_true (by omega)]; simp
theorem take_step (f : Nat → Bool) (k : Nat) (h : k < cnt f 1024) : sc (outR (takeR f k) (el f k : Int)) = sc (takeR f (k + 1)) := sc_ext (fun m hm => by
  unfold outR takeR
  obtain ⟨_, h2, h3, _⟩ := el_get f k h
  cases hf : f m with
  | false => rfl
  | true =>
    rw [Bool.true_and, Bool.true_and, Bool.eq_iff_iff, Bool.and_eq_true, decide_eq_true_iff, decide_eq_true_iff, Bool.not_eq_true', decide_eq_false_iff_not]
    constructor
    · rintro ⟨h4, h5⟩
      rcases Nat.lt_or_ge k (cnt f m) with h6 | h6
      · exact h6
      · have := el_only h hf (show cnt f m = k by omega)
        omega
    · intro h4
      refine ⟨by omega, fun e => ?_⟩
      have : m = el f k := by omega
      rw [this, h3] at h4
      omega)
theorem PgS.turn {F : Nat → Prop} {w w' : World} {a : Option Addr} {is : List Int} (h : PgS w a is) (ht : Turn F w w') (hF : ∀ g o, a = some ⟨g, o, none⟩ → ¬ F g) : PgS w' a is := fun h0 => by
  obtain ⟨g, o, rfl, hc⟩ := h h0
  exact ⟨g, o, rfl, fun i hi => by rw [ht.cell (p := ⟨g, o + i, none⟩) (block_lt_of_cell (hc i hi)) (hF g o rfl)]; exact hc i hi⟩
theorem build_TS (w : World) : (Instr.build TS #[]).run Tryd.prog w = .ok (.agg (sc (fun _ => false))) w := by kernel_rfl
section
variable {ops : Array Oper} {rest : List Oper} {o : Oper} {a : Act} {w : World} {Q : Exit → Act → World → Prop}
theorem wpList_build_TS (hgd : o.guard = none) (ho : o.op = .build TS #[])
    (h : wpList Tryd.prog ops Q rest (a.put o.dst (.agg (sc (fun _ => false)))) w) : wpList Tryd.prog ops Q (o :: rest) a w := by
  refine wpList_plain hgd fun K hK => ?_
  have hk := hK _ _ h
  unfold Oper.wp execOp
  simp only [ho, Sem.run_bind, Sem.run_pure, Result.andThen_ok, Array.map_empty, build_TS]
  exact hk
end
theorem results_take {fn : Func} {p q r : Tmp} (h : fn.results = #[.tmp p, .cell q TS, .tmp r]) (tmps : Array Value) (w : World) (g : Nat) (f : Nat → Bool) (u v : Value) (hp : tmps.getD p undef = u) (hq : tmps.getD q undef = .pointer (some ⟨g, 0, none⟩)) (hr : tmps.getD r undef = v) (hg : Blk w g TS (sc f)) :
    (results fn tmps).run Tryd.prog w = .ok (.tuple #[u, .agg (sc f), v]) w := by
  have hp' : tmps[p]?.getD undef = u := by simpa using hp
  have hq' : tmps[q]?.getD undef = .pointer (some ⟨g, 0, none⟩) := by simpa using hq
  have hr' : tmps[r]?.getD undef = v := by simpa using hr
  simp [results, h, hp', hq', hr', asAddr, run_load_arr arr_TS w g _ hg (sc_size f)]
set_option maxRecDepth 100000 in
theorem take_neg (f : Nat → Bool) (x : Int) (w : World) (hx : x < 0) : Calls Tryd.prog 19 #[.agg (sc f), .int .i64 x] w fun e w' => e = .returned (.tuple #[.slice none 0 0, .agg (sc (fun _ => false)), errC 1]) ∧ Below w.heap.size w w' := by
  go_enter Tryd.func19, Tryd.ntmps19
  go_wp2_with (first
    | (refine wpList_box_arr rfl TS (.tmp 0) rfl (sc f) (by rfl) ?_; intro g1 w1 hg1 hk1 hb1)
    | (show wpList _ _ _ (⟨some 5, _, _, _, _, _⟩ :: _) _ _; refine wpList_alloc_arr rfl TS rfl arrz_TS ?_; intro g2 w2 hg2 hk2 hb2)
    | (refine wpList_build_TS rfl rfl ?_)
    | (refine wpList_store_sc rfl TS (.tmp 5) (.tmp 12) rfl g2 _ _ TS (by rfl) (by rfl) arr_TS hk2 ?_; intro w3 hk3 ht3 _))
  have hb := hb1.trans (hb2.mono hb1.size)
  refine bodyPost_ret (v := .tuple #[.slice none 0 0, .agg (sc (fun _ => false)), errC 1]) ?_ rfl ?_
  · exact results_take rfl _ _ g2 _ _ _ (by rfl) (by rfl) (by rfl) hk3
  · exact ⟨rfl, hb.trans (ht3.below hb.size (fun i hi => by subst hi; exact Nat.le_trans hb1.size hg2))⟩
set_option maxRecDepth 100000 in
theorem take_many (f : Nat → Bool) (x : Int) (w : World) (hx : (cnt f 1024 : Int) < x) : Calls Tryd.prog 19 #[.agg (sc f), .int .i64 x] w fun e w' => e = .returned (.tuple #[.slice none 0 0, .agg (sc (fun _ => false)), errC 8]) ∧ Below w.heap.size w w' := by
  have d0 : decide (x < 0) = false := decide_eq_false (by omega)
  have d1 : decide ((cnt f 1024 : Int) < x) = true := decide_eq_true hx
  clear hx
  go_enter Tryd.func19, Tryd.ntmps19
  go_wp2_with (first
    | (refine wpList_box_arr rfl TS (.tmp 0) rfl (sc f) (by rfl) ?_; intro g1 w1 hg1 hk1 hb1)
    | (show wpList _ _ _ (⟨some 5, _, _, _, _, _⟩ :: _) _ _; refine wpList_alloc_arr rfl TS rfl arrz_TS ?_; intro g2 w2 hg2 hk2 hb2)
    | (refine wpList_load_sc rfl TS (.tmp 2) rfl g1 f TS (by rfl) arr_TS (hk1.ext hb2) ?_))
  refine (count_any f w2).mono ?_
  rintro e w3 ⟨rfl, hb3⟩
  have hb := (hb1.trans (hb2.mono hb1.size)).trans (hb3.mono (hb1.trans (hb2.mono hb1.size)).size)
  have hk3 := hk2.ext hb3
  have hg3 := Nat.le_trans hb1.size hg2
  clear hb1 hb2 hb3 hk1 hk2 hg1 hg2
  go_wp2_with (first
    | (refine wpList_build_TS rfl rfl ?_)
    | (refine wpList_store_sc rfl TS (.tmp 5) (.tmp 18) rfl g2 _ _ TS (by rfl) (by rfl) arr_TS hk3 ?_; intro w4 hk4 ht4 _))
  refine bodyPost_ret (v := .tuple #[.slice none 0 0, .agg (sc (fun _ => false)), errC 8]) ?_ rfl ?_
  · exact results_take rfl _ _ g2 _ _ _ (by rfl) (by rfl) (by rfl) hk4
  · exact ⟨rfl, hb.trans (ht4.below hb.size (fun i hi => by subst hi; exact hg3))⟩
set_option maxRecDepth 100000 in
theorem take_yes (f : Nat → Bool) (n C : Nat) (w : World) (hC : cnt f 1024 = C) (hn : n ≤ C) (hC9 : C ≤ 1024) (hT : TabIn w) : Calls Tryd.prog 19 #[.agg (sc f), .int .i64 n] w fun e w' => ∃ a, e = .returned (.tuple #[.slice a n n, .agg (sc (takeR f n)), .nilIface]) ∧ PgS w' a ((eI f 1024).take n) ∧ Below w.heap.size w w' := by
  have d1 : ¬ (C : Int) < (n : Int) := by omega
  have d2 : ¬ C < n := by omega
  have HT := Lib.hid hT
  have Hn := Lib.hid hn
  have HL := Lib.hid ((eI_len f 1024).trans hC)
  have HCnt := Lib.hid (count_any f)
  have HAll := Lib.hid (all_any f)
  rw [hC] at HCnt
  have Hst := Lib.hid (fun k => take_step f k)
  rw [hC] at Hst
  have Hia := Lib.hid (fun k => eI_ia f k)
  rw [hC] at Hia
  have Htk : Hid (∀ k, k ≤ C → ((eI f 1024).take k).length = k) := fun k hk => by rw [List.length_take, HL.out]; omega
  have Htl : Hid (∀ k, ia ((eI f 1024).take n) k = if k < n then ia (eI f 1024) k else 0) := fun k => by
    unfold ia
    rw [List.getD_eq_getElem?_getD, List.getD_eq_getElem?_getD, List.getElem?_take]
    by_cases h : k < n
    · rw [if_pos h, if_pos h]
    · rw [if_neg h, if_neg h]; rfl
  generalize eI f 1024 = L at *
  clear hT hn hC
  have hn9 : n ≤ 1024 := Nat.le_trans Hn.out hC9
  go_enter Tryd.func19, Tryd.ntmps19
  go_wp2_with (first
    | (refine wpList_box_arr rfl TS (.tmp 0) rfl (sc f) (by rfl) ?_; intro g1 w1 hg1 hk1 hb1)
    | (show wpList _ _ _ (⟨some 5, _, _, _, _, _⟩ :: _) _ _; refine wpList_alloc_arr rfl TS rfl arrz_TS ?_; intro g2 w2 hg2 hk2 hb2)
    | (refine wpList_load_sc rfl TS (.tmp 2) rfl g1 f TS (by rfl) arr_TS (hk1.ext hb2) ?_))
  refine (HCnt.out w2).mono ?_
  rintro e w3 ⟨rfl, hb3⟩
  have hb := (hb1.trans (hb2.mono hb1.size)).trans (hb3.mono (hb1.trans (hb2.mono hb1.size)).size)
  have hk3 := hk2.ext hb3
  have hk1b := (hk1.ext hb2).ext hb3
  have Hg : Hid (w.heap.size ≤ g1 ∧ w.heap.size ≤ g2 ∧ g2 ≠ g1 ∧ g1 < w3.heap.size ∧ g2 < w3.heap.size) := ⟨hg1, Nat.le_trans hb1.size hg2, by have := hk1.lt; omega, hk1b.lt, hk3.lt⟩
  clear hb1 hb2 hb3 hk1 hk2 hg1 hg2
  go_wp2_with (first | (show wpList _ _ _ (⟨some 20, _, _, _, _, _⟩ :: _) _ _; refine wpList_load_sc rfl TS (.tmp 2) rfl g1 f TS (by rfl) arr_TS hk1b ?_))
  refine (HAll.out w3 (HT.out.below hb)).mono ?_
  rintro e w4 ⟨v, rfl, ho4, hb4⟩
  have hge := fun j hj => (ho4.lt j hj).1
  obtain ⟨pa, pc, rfl, hps, hz, hcl, hcm⟩ := own_pages ho4
  rw [HL.out] at hcl ⊢
  have HB : Hid (Below w.heap.size w w4) := hb.trans (hb4.mono hb.size)
  have HK : Hid (Blk w4 g1 TS (sc f) ∧ Blk w4 g2 TS (sc (fun _ => false))) := ⟨hk1b.ext hb4, hk3.ext hb4⟩
  have Hps := Lib.hid hps
  have Hge := Lib.hid hge
  have n1 : (n : Int) ≤ (pc : Int) := by have := Hn.out; omega
  have n0 : (0 : Int) ≤ (n : Int) := by omega
  clear ho4 hps hb hb4 hk3 hk1b d1 d2 hge
  go_wp2_with fail
  have hge2 : Hid (∀ g o, pa = some ⟨g, o, none⟩ → ¬ g = g1 ∧ ¬ g = g2) := fun g o e => by
    subst e
    have := Hge.out g rfl
    have := Hg.out.2.2.2.1
    have := Hg.out.2.2.2.2
    omega
  go_loopw [9, 27] (fun _ i wr => ∃ k : Nat, i = .int .i64 k ∧ k ≤ n ∧ Hid (Blk wr g1 TS (sc (takeR f k)) ∧ Blk wr g2 TS (sc (fun _ => false))) ∧ Hid (PgS wr pa L) ∧ Hid (Below w.heap.size w wr)) (fun _ i _ => n - (intOf i).toNat)
  case atStart => exact ⟨0, rfl, by omega, by rw [take_zero]; exact HK, Hps, HB⟩
  case round =>
    obtain ⟨k, rfl, hk, HK1, HP1, HB1⟩ := hrel
    by_cases hlt : k < n
    · have hlt2 : (k : Int) < (n : Int) := by omega
      have hkl : k < L.length := by rw [HL.out]; have := Hn.out; omega
      obtain ⟨g, o, ea, hcell⟩ := HP1.out (by omega)
      have q0 := hcell k hkl
      have hkc : k < C := by have := Hn.out; omega
      rw [Hia.out k hkc] at q0
      have hstep := Hst.out k hkc
      have Hge3 := Lib.hid (hge2.out g o ea)
      have Hea := Lib.hid ea
      obtain ⟨E, hE⟩ : ∃ E : Int, (el f k : Int) = E := ⟨_, rfl⟩
      rw [hE] at q0 hstep
      have Hs := Lib.hid hstep
      have hwo := Lib.hid (fun w => without_any (takeR f k) E w)
      rw [Hs.out] at hwo
      clear hcell hkl hkc hE hstep
      subst ea
      go_wp2_with (first | (show wpList _ _ _ (⟨some 31, _, _, _, _, _⟩ :: _) _ _; refine wpList_load_sc rfl TS (.tmp 2) rfl g1 _ TS (by rfl) arr_TS HK1.out.1 ?_))
      refine (hwo.out wr).mono ?_
      rintro e w5 ⟨rfl, hb5⟩
      have hB5 := HB1.out.trans (hb5.mono HB1.out.size)
      have hk5 := HK1.out.1.ext hb5
      have hk6 := HK1.out.2.ext hb5
      have hp5 := HP1.out.below hb5 (Nat.le_refl _)
      clear hb5 HK1 HP1 HB1 hwo q0
      go_wp2_with (first | (refine wpList_store_sc rfl TS (.tmp 2) (.tmp 33) rfl g1 _ _ TS (by rfl) (by rfl) arr_TS hk5 ?_; intro w6 hk7 ht6 _))
      have HB6 : Hid (Below w.heap.size w w6) := hB5.trans (ht6.below hB5.size (fun i hi => by subst hi; exact Hg.out.1))
      have HK6 : Hid (Blk w6 g1 TS (sc (takeR f (k + 1))) ∧ Blk w6 g2 TS (sc (fun _ => false))) := ⟨hk7, hk6.turn ht6 Hg.out.2.2.1⟩
      have HP6 : Hid (PgS w6 (some ⟨g, o, none⟩) L) := hp5.turn ht6 (fun g' o' e => by cases e; exact Hge3.out.1)
      clear hB5 hk5 hk6 hp5 hk7 ht6
      go_roundw
      case rel => exact ⟨k + 1, by go_num, by omega, HK6, HP6, HB6⟩
      case measure => simp [intOf]; omega
    · obtain rfl : k = n := by omega
      have hlt2 : ¬ (k : Int) < (k : Int) := by omega
      have HPt : Hid (∀ w', PgS w' pa L → PgS w' pa (L.take k)) := fun w' hp h0 => by
        obtain ⟨g, o, ea, hcell⟩ := hp (by rw [List.length_take] at h0; omega)
        refine ⟨g, o, ea, fun i hi => ?_⟩
        have hi2 : i < k := by rw [List.length_take] at hi; omega
        rw [Htl.out i, if_pos hi2]
        exact hcell i (by rw [HL.out]; have := Hn.out; omega)
      go_wp2_with fail
      refine wp_region_gt (F := fun i => i = g2) [(0, true), (1, true), (2, true), (3, false), (4, true)] (by kernel_rfl) (by kernel_rfl) (by kernel_rfl) (by kernel_rfl) (fun _ _ _ _ _ h => h) ?_
      have hk9 : Blk wr.drew g1 TS (sc (takeR f k)) := HK1.out.1
      have hk8 : Blk wr.drew g2 TS (sc (fun _ => false)) := HK1.out.2
      have hp9 : PgS wr.drew pa L := HP1.out
      have hB9 : Below w.heap.size w wr.drew := HB1.out.drew
      clear HK1 HP1 HB1
      generalize wr.drew = w5 at *
      iterate 1 (refine wpGt_read (o := ⟨_, _, _, _, _, _⟩) (v := ?_) rfl (by rfl) ?_ ?_; rotate_left; (intro w' hw'; go_simp; with_reducible rfl); simp only [Act.put, List.setIfInBounds_toArray, List.set_cons_zero, List.set_cons_succ])
      refine wpGt_read (o := ⟨_, _, _, _, _, _⟩) (v := .agg (sc (takeR f k))) rfl (by rfl) (fun w' hw' => rd_load_sc TS (.tmp 2) rfl g1 _ TS (by rfl) arr_TS (hk9.turn hw' (fun e => Hg.out.2.2.1 e.symm))) ?_
      simp only [Act.put, List.setIfInBounds_toArray, List.set_cons_zero, List.set_cons_succ]
      iterate 1 (refine wpGt_read (o := ⟨_, _, _, _, _, _⟩) (v := ?_) rfl (by rfl) ?_ ?_; rotate_left; (intro w' hw'; go_simp; with_reducible rfl); simp only [Act.put, List.setIfInBounds_toArray, List.set_cons_zero, List.set_cons_succ])
      refine wpGt_call (o := ⟨_, _, _, _, _, _⟩) rfl (by rfl) (fun K hK => ?_)
      refine wp_store_sc TS (.tmp 5) (.tmp 36) rfl g2 (takeR f k) _ TS (by rfl) (by rfl) arr_TS hk8 ?_
      intro w6 hk6 ht6 _
      refine hK _ _ ht6 ?_
      clear hK K
      simp only [Act.put]
      iterate 1 (refine wpGt_read (o := ⟨_, _, _, _, _, _⟩) (v := ?_) rfl (by rfl) ?_ ?_; rotate_left; (intro w' hw'; go_simp; with_reducible rfl); simp only [Act.put, List.setIfInBounds_toArray, List.set_cons_zero, List.set_cons_succ])
      refine wpGt_done ?_
      go_wp2
      refine bodyPost_ret (v := .tuple #[.slice pa k k, .agg (sc (takeR f k)), .nilIface]) ?_ rfl ?_
      · exact results_take rfl _ _ g2 _ _ _ (by rfl) (by rfl) (by rfl) hk6
      · exact ⟨_, rfl, HPt.out _ (hp9.turn ht6 (fun g o e => (hge2.out g o e).2)), hB9.trans (ht6.below hB9.size (fun i hi => by subst hi; exact Hg.out.2.1))⟩
end Go.Proofs.YtkokcmjpobfkkaaDoor
