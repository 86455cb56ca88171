/-
  What the law PlanFew stands on.
-/
import Derived.Test.YtdgladhfibfdlaaGreatDoorQPlanFew16
import Derived.Test.YtdgladhfibfdlaaGreatDoorQPlanFew11
import Derived.Test.YtdgladhfibfdlaaGreatDoorQPlanFew01
import Derived.Test.YtdgladhfibfdlaaGreatDoorQPlanFew02
import Derived.Test.YtdgladhfibfdlaaGreatDoorQPlanFew13
import Derived.Test.YtdgladhfibfdlaaGreatDoorQPlanFew15
import Derived.Test.YtdgladhfibfdlaaGreatDoorQPlanFew10
import Derived.Test.YtdgladhfibfdlaaGreatDoorQPlanFew06
import Derived.Test.YtdgladhfibfdlaaGreatDoorProg
import Derived.Test.YtdgladhfibfdlaaGreatDoorQPlanFew05
import Derived.WalkKit
import Derived.Below
import Derived.Lib.Hide
import Derived.Lib.AppendStr
import Derived.Test.YtdgladhfibfdlaaGreatDoorQPlanFew19
import Derived.Laws.Cover1
namespace Go.Proofs.YtdgladhfibfdlaaGreatDoor
open Go Go.RowKit
def takeR (f : Nat → Bool) (k m : Nat) : Bool := f m && decide (k ≤ cnt f m)
theorem take_zero (f : Nat → Bool) : takeR f 0 = f := by
  funext m; unfold takeR; rw [decide_eq_true (by omega)]; simp
theorem take_step (f : Nat → Bool) (k : Nat) (h : k < cnt f 1024) : sc (outR (takeR f k) (el f k : Int)) = sc (takeR f (k + 1)) := sc_ext (fun m hm => by
  unfold outR takeR
  obtain ⟨_, h2, h3, _⟩ := el_get f k h
  cases hf : f m with
  | false => rfl
  | true =>
    rw [Bool.true_and, Bool.true_and, Bool.eq_iff_iff, Bool.and_eq_true, decide_eq_true_iff, decide_eq_true_iff, Bool.not_eq_true', decide_eq_false_iff_not]
    constructor
    · rintro ⟨h4, h5⟩
      rcases Nat.lt_or_ge k (cnt f m) with h6 | h6
      · exact h6
      · have := el_only h hf (show cnt f m = k by omega)
        omega
    · intro h4
      refine ⟨by omega, fun e => ?_⟩
      have : m = el f k := by omega
      rw [this, h3] at h4
      omega)
theorem PgS.turn {F : Nat → Prop} {w w' : World} {a : Option Addr} {is : List Int} (h : PgS w a is) (ht : Turn F w w') (hF : ∀ g o, a = some ⟨g, o, none⟩ → ¬ F g) : PgS w' a is := fun h0 => by
  obtain ⟨g, o, rfl, hc⟩ := h h0
  exact ⟨g, o, rfl, fun i hi => by rw [ht.cell (p := ⟨g, o + i, none⟩) (block_lt_of_cell (hc i hi)) (hF g o rfl)]; exact hc i hi⟩
theorem build_TS (w : World) : (Instr.build TS #[]).run Tryz.prog w = .ok (.agg (sc (fun _ => false))) w := by kernel_rfl
section
variable {ops : Array Oper} {rest : List Oper} {o : Oper} {a : Act} {w : World} {Q : Exit → Act → World → Prop}
theorem wpList_build_TS (hgd : o.guard = none) (ho : o.op = .build TS #[])
    (h : wpList Tryz.prog ops Q rest (a.put o.dst (.agg (sc (fun _ => false)))) w) : wpList Tryz.prog ops Q (o :: rest) a w := by
  refine wpList_plain hgd fun K hK => ?_
  have hk := hK _ _ h
  unfold Oper.wp execOp
  simp only [ho, Sem.run_bind, Sem.run_pure, Result.andThen_ok, Array.map_empty, build_TS]
  exact hk
end
theorem results_take {fn : Func} {p q r : Tmp} (h : fn.results = #[.tmp p, .cell q TS, .tmp r]) (tmps : Array Value) (w : World) (g : Nat) (f : Nat → Bool) (u v : Value) (hp : tmps.getD p undef = u) (hq : tmps.getD q undef = .pointer (some ⟨g, 0, none⟩)) (hr : tmps.getD r undef = v) (hg : Blk w g TS (sc f)) :
    (results fn tmps).run Tryz.prog w = .ok (.tuple #[u, .agg (sc f), v]) w := by
  have hp' : tmps[p]?.getD undef = u := by simpa using hp
  have hq' : tmps[q]?.getD undef = .pointer (some ⟨g, 0, none⟩) := by simpa using hq
  have hr' : tmps[r]?.getD undef = v := by simpa using hr
  simp [results, h, hp', hq', hr', asAddr, run_load_arr arr_TS w g _ hg (sc_size f)]
set_option maxRecDepth 100000 in
theorem take_many (f : Nat → Bool) (x : Int) (w : World) (hx : (cnt f 1024 : Int) < x) : Calls Tryz.prog 46 #[.agg (sc f), .int .i64 x] w fun e w' => e = .returned (.tuple #[.slice none 0 0, .agg (sc (fun _ => false)), errC 8]) ∧ Below w.heap.size w w' := by
  have d0 : decide (x < 0) = false := decide_eq_false (by omega)
  have d1 : decide ((cnt f 1024 : Int) < x) = true := decide_eq_true hx
  clear hx
  go_enter Tryz.func46, Tryz.ntmps46
  go_wp2_with (first
    | (refine wpList_box_arr rfl TS (.tmp 0) rfl (sc f) (by rfl) ?_; intro g1 w1 hg1 hk1 hb1)
    | (show wpList _ _ _ (⟨some 5, _, _, _, _, _⟩ :: _) _ _; refine wpList_alloc_arr rfl TS rfl arrz_TS ?_; intro g2 w2 hg2 hk2 hb2)
    | (refine wpList_load_sc rfl TS (.tmp 2) rfl g1 f TS (by rfl) arr_TS (hk1.ext hb2) ?_))
  refine (bcount_any f w2).mono ?_
  rintro e w3 ⟨rfl, hb3⟩
  have hb := (hb1.trans (hb2.mono hb1.size)).trans (hb3.mono (hb1.trans (hb2.mono hb1.size)).size)
  have hk3 := hk2.ext hb3
  have hg3 := Nat.le_trans hb1.size hg2
  clear hb1 hb2 hb3 hk1 hk2 hg1 hg2
  go_wp2_with (first
    | (refine wpList_build_TS rfl rfl ?_)
    | (refine wpList_store_sc rfl TS (.tmp 5) (.tmp 18) rfl g2 _ _ TS (by rfl) (by rfl) arr_TS hk3 ?_; intro w4 hk4 ht4 _))
  refine bodyPost_ret (v := .tuple #[.slice none 0 0, .agg (sc (fun _ => false)), errC 8]) ?_ rfl ?_
  · exact results_take rfl _ _ g2 _ _ _ (by rfl) (by rfl) (by rfl) hk4
  · exact ⟨rfl, hb.trans (ht4.below hb.size (fun i hi => by subst hi; exact hg3))⟩
def PgT (w : World) (a : Option Addr) (is : List Int) : Prop := PgS w a is ∧ ∀ ad, a = some ad → ∃ g o A fz, ad = ⟨g, o, none⟩ ∧ w.heap[g]? = some (.cells A 3 fz)
theorem PgT.below {w w' : World} {a : Option Addr} {is : List Int} {B : Nat} (h : PgT w a is) (hb : Below B w w') (hB : w.heap.size ≤ B) : PgT w' a is := ⟨h.1.below hb hB, fun ad e => by
  obtain ⟨g, o, A, fz, h0, h1⟩ := h.2 ad e
  exact ⟨g, o, A, fz, h0, (hb.block g (Nat.lt_of_lt_of_le (Array.getElem?_eq_some_iff.1 h1).1 hB)).trans h1⟩⟩
theorem PgT.turn {w w' : World} {a : Option Addr} {is : List Int} {F : Nat → Prop} (h : PgT w a is) (t : Turn F w w') (hF : ∀ ad, a = some ad → ¬ F ad.block) : PgT w' a is := ⟨h.1.turn t (fun g o e => hF ⟨g, o, none⟩ e), fun ad e => by
  obtain ⟨g, o, A, fz, rfl, h1⟩ := h.2 ad e
  exact ⟨g, o, A, fz, rfl, t.hg h1 (hF _ e)⟩⟩
theorem own_addr {w : World} {B E sz n : Nat} {v : Value} {xs : List Value} (h : w.ownsRow B E sz v n xs) : ∀ ad m c, v = .slice (some ad) m c → ∃ g o A fz, ad = ⟨g, o, none⟩ ∧ w.heap[g]? = some (.cells A E fz) := fun ad m c hv => by
  rcases h.2 with ⟨rfl, _⟩ | ⟨g, cap, cur, rfl, _, hg, _⟩
  · cases hv
  · injection hv with hv _ _
    injection hv with hv
    exact ⟨g, 0, cur, _, hv.symm, hg⟩
set_option maxRecDepth 100000 in
theorem take_own (f : Nat → Bool) (n C : Nat) (w : World) (hC : cnt f 1024 = C) (hn : n ≤ C) (hC9 : C ≤ 1024) (hT : TabIn w) : Calls Tryz.prog 46 #[.agg (sc f), .int .i64 n] w fun e w' => ∃ a, e = .returned (.tuple #[.slice a n n, .agg (sc (takeR f n)), .nilIface]) ∧ PgT w' a ((eI f 1024).take n) ∧ (a = none → n = 0) ∧ Below w.heap.size w w' := by
  have d1 : ¬ (C : Int) < (n : Int) := by omega
  have d2 : ¬ C < n := by omega
  have HT := Lib.hid hT
  have Hn := Lib.hid hn
  have HL := Lib.hid ((eI_len f 1024).trans hC)
  have HCnt := Lib.hid (bcount_any f)
  have HAll := Lib.hid (ball_any f)
  rw [hC] at HCnt
  have Hst := Lib.hid (fun k => take_step f k)
  rw [hC] at Hst
  have Hia := Lib.hid (fun k => eI_ia f k)
  rw [hC] at Hia
  have Htk : Hid (∀ k, k ≤ C → ((eI f 1024).take k).length = k) := fun k hk => by rw [List.length_take, HL.out]; omega
  have Htl : Hid (∀ k, ia ((eI f 1024).take n) k = if k < n then ia (eI f 1024) k else 0) := fun k => by
    unfold ia
    rw [List.getD_eq_getElem?_getD, List.getD_eq_getElem?_getD, List.getElem?_take]
    by_cases h : k < n
    · rw [if_pos h, if_pos h]
    · rw [if_neg h, if_neg h]; rfl
  generalize eI f 1024 = L at *
  clear hT hn hC
  have hn9 : n ≤ 1024 := Nat.le_trans Hn.out hC9
  go_enter Tryz.func46, Tryz.ntmps46
  go_wp2_with (first
    | (refine wpList_box_arr rfl TS (.tmp 0) rfl (sc f) (by rfl) ?_; intro g1 w1 hg1 hk1 hb1)
    | (show wpList _ _ _ (⟨some 5, _, _, _, _, _⟩ :: _) _ _; refine wpList_alloc_arr rfl TS rfl arrz_TS ?_; intro g2 w2 hg2 hk2 hb2)
    | (refine wpList_load_sc rfl TS (.tmp 2) rfl g1 f TS (by rfl) arr_TS (hk1.ext hb2) ?_))
  refine (HCnt.out w2).mono ?_
  rintro e w3 ⟨rfl, hb3⟩
  have hb := (hb1.trans (hb2.mono hb1.size)).trans (hb3.mono (hb1.trans (hb2.mono hb1.size)).size)
  have hk3 := hk2.ext hb3
  have hk1b := (hk1.ext hb2).ext hb3
  have Hg : Hid (w.heap.size ≤ g1 ∧ w.heap.size ≤ g2 ∧ g2 ≠ g1 ∧ g1 < w3.heap.size ∧ g2 < w3.heap.size) := ⟨hg1, Nat.le_trans hb1.size hg2, by have := hk1.lt; omega, hk1b.lt, hk3.lt⟩
  clear hb1 hb2 hb3 hk1 hk2 hg1 hg2
  go_wp2_with (first | (show wpList _ _ _ (⟨some 20, _, _, _, _, _⟩ :: _) _ _; refine wpList_load_sc rfl TS (.tmp 2) rfl g1 f TS (by rfl) arr_TS hk1b ?_))
  refine (HAll.out w3 (HT.out.below hb)).mono ?_
  rintro e w4 ⟨v, rfl, ho4, hb4⟩
  have hge := fun j hj => (ho4.lt j hj).1
  have hty := own_addr ho4
  obtain ⟨pa, pc, rfl, hps, hz, hcl, hcm⟩ := own_pages ho4
  rw [HL.out] at hcl ⊢
  have HB : Hid (Below w.heap.size w w4) := hb.trans (hb4.mono hb.size)
  have HK : Hid (Blk w4 g1 TS (sc f) ∧ Blk w4 g2 TS (sc (fun _ => false))) := ⟨hk1b.ext hb4, hk3.ext hb4⟩
  have Hps : Hid (PgT w4 pa L) := ⟨hps, fun ad e => hty ad _ _ (by rw [e])⟩
  have Hnz : Hid (pa = none → n = 0) := fun e => by have := hz e; have := Hn.out; omega
  have Hge := Lib.hid hge
  have n1 : (n : Int) ≤ (pc : Int) := by have := Hn.out; omega
  have n0 : (0 : Int) ≤ (n : Int) := by omega
  clear ho4 hps hb hb4 hk3 hk1b d1 d2 hge hty hz
  go_wp2_with fail
  have hge2 : Hid (∀ ad, pa = some ad → ¬ ad.block = g1 ∧ ¬ ad.block = g2) := fun ad e => by
    subst e
    have := Hge.out ad.block rfl
    have := Hg.out.2.2.2.1
    have := Hg.out.2.2.2.2
    omega
  go_loopw [9, 27] (fun _ i wr => ∃ k : Nat, i = .int .i64 k ∧ k ≤ n ∧ Hid (Blk wr g1 TS (sc (takeR f k)) ∧ Blk wr g2 TS (sc (fun _ => false))) ∧ Hid (PgT wr pa L) ∧ Hid (Below w.heap.size w wr)) (fun _ i _ => n - (intOf i).toNat)
  case atStart => exact ⟨0, rfl, by omega, by rw [take_zero]; exact HK, Hps, HB⟩
  case round =>
    obtain ⟨k, rfl, hk, HK1, HP1, HB1⟩ := hrel
    by_cases hlt : k < n
    · have hlt2 : (k : Int) < (n : Int) := by omega
      have hkl : k < L.length := by rw [HL.out]; have := Hn.out; omega
      obtain ⟨g, o, ea, hcell⟩ := HP1.out.1 (by omega)
      have q0 := hcell k hkl
      have hkc : k < C := by have := Hn.out; omega
      rw [Hia.out k hkc] at q0
      have hstep := Hst.out k hkc
      have Hge3 : Hid (¬ g = g1 ∧ ¬ g = g2) := hge2.out ⟨g, o, none⟩ ea
      have Hea := Lib.hid ea
      obtain ⟨E, hE⟩ : ∃ E : Int, (el f k : Int) = E := ⟨_, rfl⟩
      rw [hE] at q0 hstep
      have Hs := Lib.hid hstep
      have hwo := Lib.hid (fun w => without_any (takeR f k) E w)
      rw [Hs.out] at hwo
      clear hcell hkl hkc hE hstep
      subst ea
      go_wp2_with (first | (show wpList _ _ _ (⟨some 31, _, _, _, _, _⟩ :: _) _ _; refine wpList_load_sc rfl TS (.tmp 2) rfl g1 _ TS (by rfl) arr_TS HK1.out.1 ?_))
      refine (hwo.out wr).mono ?_
      rintro e w5 ⟨rfl, hb5⟩
      have hB5 := HB1.out.trans (hb5.mono HB1.out.size)
      have hk5 := HK1.out.1.ext hb5
      have hk6 := HK1.out.2.ext hb5
      have hp5 := HP1.out.below hb5 (Nat.le_refl _)
      clear hb5 HK1 HP1 HB1 hwo q0
      go_wp2_with (first | (refine wpList_store_sc rfl TS (.tmp 2) (.tmp 33) rfl g1 _ _ TS (by rfl) (by rfl) arr_TS hk5 ?_; intro w6 hk7 ht6 _))
      have HB6 : Hid (Below w.heap.size w w6) := hB5.trans (ht6.below hB5.size (fun i hi => by subst hi; exact Hg.out.1))
      have HK6 : Hid (Blk w6 g1 TS (sc (takeR f (k + 1))) ∧ Blk w6 g2 TS (sc (fun _ => false))) := ⟨hk7, hk6.turn ht6 Hg.out.2.2.1⟩
      have HP6 : Hid (PgT w6 (some ⟨g, o, none⟩) L) := hp5.turn ht6 (fun ad e => by cases e; exact Hge3.out.1)
      clear hB5 hk5 hk6 hp5 hk7 ht6
      go_roundw
      case rel => exact ⟨k + 1, by go_num, by omega, HK6, HP6, HB6⟩
      case measure => simp [intOf]; omega
    · obtain rfl : k = n := by omega
      have hlt2 : ¬ (k : Int) < (k : Int) := by omega
      have HPt : Hid (∀ w', PgT w' pa L → PgT w' pa (L.take k)) := fun w' hp => ⟨fun h0 => by
        obtain ⟨g, o, ea, hcell⟩ := hp.1 (by rw [List.length_take] at h0; omega)
        refine ⟨g, o, ea, fun i hi => ?_⟩
        have hi2 : i < k := by rw [List.length_take] at hi; omega
        rw [Htl.out i, if_pos hi2]
        exact hcell i (by rw [HL.out]; have := Hn.out; omega), hp.2⟩
      go_wp2_with fail
      refine wp_region_gt (F := fun i => i = g2) [(0, true), (1, true), (2, true), (3, false), (4, true)] (by kernel_rfl) (by kernel_rfl) (by kernel_rfl) (by kernel_rfl) (fun _ _ _ _ _ h => h) ?_
      have hk9 : Blk wr.drew g1 TS (sc (takeR f k)) := HK1.out.1
      have hk8 : Blk wr.drew g2 TS (sc (fun _ => false)) := HK1.out.2
      have hp9 : PgT wr.drew pa L := HP1.out
      have hB9 : Below w.heap.size w wr.drew := HB1.out.drew
      clear HK1 HP1 HB1
      generalize wr.drew = w5 at *
      iterate 1 (refine wpGt_read (o := ⟨_, _, _, _, _, _⟩) (v := ?_) rfl (by rfl) ?_ ?_; rotate_left; (intro w' hw'; go_simp; with_reducible rfl); simp only [Act.put, List.setIfInBounds_toArray, List.set_cons_zero, List.set_cons_succ])
      refine wpGt_read (o := ⟨_, _, _, _, _, _⟩) (v := .agg (sc (takeR f k))) rfl (by rfl) (fun w' hw' => rd_load_sc TS (.tmp 2) rfl g1 _ TS (by rfl) arr_TS (hk9.turn hw' (fun e => Hg.out.2.2.1 e.symm))) ?_
      simp only [Act.put, List.setIfInBounds_toArray, List.set_cons_zero, List.set_cons_succ]
      iterate 1 (refine wpGt_read (o := ⟨_, _, _, _, _, _⟩) (v := ?_) rfl (by rfl) ?_ ?_; rotate_left; (intro w' hw'; go_simp; with_reducible rfl); simp only [Act.put, List.setIfInBounds_toArray, List.set_cons_zero, List.set_cons_succ])
      refine wpGt_call (o := ⟨_, _, _, _, _, _⟩) rfl (by rfl) (fun K hK => ?_)
      refine wp_store_sc TS (.tmp 5) (.tmp 36) rfl g2 (takeR f k) _ TS (by rfl) (by rfl) arr_TS hk8 ?_
      intro w6 hk6 ht6 _
      refine hK _ _ ht6 ?_
      clear hK K
      simp only [Act.put]
      iterate 1 (refine wpGt_read (o := ⟨_, _, _, _, _, _⟩) (v := ?_) rfl (by rfl) ?_ ?_; rotate_left; (intro w' hw'; go_simp; with_reducible rfl); simp only [Act.put, List.setIfInBounds_toArray, List.set_cons_zero, List.set_cons_succ])
      refine wpGt_done ?_
      go_wp2
      refine bodyPost_ret (v := .tuple #[.slice pa k k, .agg (sc (takeR f k)), .nilIface]) ?_ rfl ?_
      · exact results_take rfl _ _ g2 _ _ _ (by rfl) (by rfl) (by rfl) hk6
      · exact ⟨_, rfl, HPt.out _ (hp9.turn ht6 (fun ad e => (hge2.out ad e).2)), Hnz.out, hB9.trans (ht6.below hB9.size (fun i hi => by subst hi; exact Hg.out.2.1))⟩
end Go.Proofs.YtdgladhfibfdlaaGreatDoor
namespace Go.Proofs.YtdgladhfibfdlaaGreatDoor
open Go Go.RowKit
abbrev CU8 : TypeId := 5
abbrev CBS : TypeId := 48
theorem isNext_any (p : Int) (w : World) : Calls Tryz.prog 166 #[.int .i64 p] w fun e w' => e = .returned (.bool (nextB p)) ∧ w = w' := by
  unfold nextB
  by_cases h0 : p = 0
  · subst h0
    go_enter Tryz.func166, Tryz.ntmps166
    go_wp2
    go_ret
    exact ⟨rfl, rfl⟩
  · have e0 : (p == 0) = false := by simpa using h0
    have e1 : decide (p = 0) = false := decide_eq_false h0
    by_cases h2 : 2 ≤ p
    · have e2 : decide (2 ≤ p) = true := decide_eq_true h2
      by_cases h3 : p < 1024
      · have e3 : decide (p < 1024) = true := decide_eq_true h3
        rw [e1, e2, e3]
        clear h0
        go_enter Tryz.func166, Tryz.ntmps166
        go_wp2
        go_ret
        exact ⟨rfl, rfl⟩
      · have e3 : decide (p < 1024) = false := decide_eq_false h3
        rw [e1, e2, e3]
        clear h0
        go_enter Tryz.func166, Tryz.ntmps166
        go_wp2
        go_ret
        exact ⟨rfl, rfl⟩
    · have e2 : decide (2 ≤ p) = false := decide_eq_false h2
      rw [e1, e2]
      clear h0
      go_enter Tryz.func166, Tryz.ntmps166
      go_wp2
      go_ret
      exact ⟨rfl, rfl⟩
theorem isPiece_any (p : Int) (w : World) : Calls Tryz.prog 167 #[.int .i64 p] w fun e w' => e = .returned (.bool (sizeB p)) ∧ w = w' := by
  unfold sizeB
  by_cases h2 : 1 ≤ p
  · have e2 : decide (1 ≤ p) = true := decide_eq_true h2
    by_cases h3 : p ≤ 502
    · have e3 : decide (p ≤ 502) = true := decide_eq_true h3
      rw [e2, e3]
      go_enter Tryz.func167, Tryz.ntmps167
      go_wp2
      go_ret
      exact ⟨rfl, rfl⟩
    · have e3 : decide (p ≤ 502) = false := decide_eq_false h3
      rw [e2, e3]
      go_enter Tryz.func167, Tryz.ntmps167
      go_wp2
      go_ret
      exact ⟨rfl, rfl⟩
  · have e2 : decide (1 ≤ p) = false := decide_eq_false h2
    rw [e2]
    go_enter Tryz.func167, Tryz.ntmps167
    go_wp2
    go_ret
    exact ⟨rfl, rfl⟩
theorem put_two (p : Nat) (w : World) (hp : p < 1024) : Calls Tryz.prog 168 #[.slice none 0 0, .int .u64 p, .int .i64 2] w fun e w' => e = .returned (.slice (some ⟨w.heap.size, 0, none⟩) 2 2) ∧ w'.ownsRow w.heap.size CU8 1 (.slice (some ⟨w.heap.size, 0, none⟩) 2 2) 2 (bv (beL p 2)) ∧ Below w.heap.size w w' := by
  refine (intPut_in none 0 [] p 2 w (by simp) (by omega) (by omega) (by omega) (Src.nil _ _)).mono ?_
  rintro e w' ⟨rfl, hr, hb⟩
  exact ⟨rfl, own_of_row hr (Nat.le_refl _) (by unfold maxLen; simp [beL_length]), hb⟩
theorem strCells_bn (V : ByteArray) : Go.Lib.strCells V = bv (bn V) := by
  unfold Go.Lib.strCells bv bn
  rw [List.map_map]
  show _ = List.map _ (bl V)
  rfl
set_option maxRecDepth 100000 in
theorem encCh_any (p : Int) (V : ByteArray) (w : World) (hV : V.size ≤ 1000000) :
    Calls Tryz.prog 130 #[.int .i64 p, .string V] w fun e w' => ∃ v, e = .returned (.tuple #[v, errC (chE p V)]) ∧ w'.ownsRow w.heap.size CU8 1 v (chB p V).length (bv (chB p V)) ∧ Below w.heap.size w w' := by
  have hN := Lib.hid (isNext_any p)
  have hP := Lib.hid (isPiece_any V.size)
  have hE : Hid (chE p V = if (nextB p && sizeB V.size) = true then 0 else 1) := rfl
  have hB : Hid (chB p V = if (nextB p && sizeB V.size) = true then beL p.toNat 2 ++ bn V else []) := rfl
  have hpr : Hid (nextB p = true → 0 ≤ p ∧ p < 1024) := fun h => by
    unfold nextB at h; simp at h; omega
  generalize chE p V = EE at *
  generalize chB p V = EB at *
  generalize nextB p = D1 at *
  generalize sizeB V.size = D2 at *
  cases D1 with
  | false =>
    have h1 : Hid (EE = 1 ∧ EB = []) := ⟨hE.out, hB.out⟩
    clear hE hB hpr
    go_enter Tryz.func130, Tryz.ntmps130
    go_wp2_with fail
    refine (hN.out w).mono ?_
    rintro e w1 ⟨rfl, rfl⟩
    clear hN
    go_wp2
    go_ret2
    exact ⟨.slice none 0 0, by rw [h1.out.1]; rfl, by rw [h1.out.2]; exact World.ownsRow_nil _ _ _ _, Below.refl _ _⟩
  | true =>
  cases D2 with
  | false =>
    have h1 : Hid (EE = 1 ∧ EB = []) := ⟨hE.out, hB.out⟩
    clear hE hB hpr
    go_enter Tryz.func130, Tryz.ntmps130
    go_wp2_with fail
    refine (hN.out w).mono ?_
    rintro e w1 ⟨rfl, rfl⟩
    clear hN
    go_wp2_with fail
    refine (hP.out w).mono ?_
    rintro e w1 ⟨rfl, rfl⟩
    clear hP
    go_wp2
    go_ret2
    exact ⟨.slice none 0 0, by rw [h1.out.1]; rfl, by rw [h1.out.2]; exact World.ownsRow_nil _ _ _ _, Below.refl _ _⟩
  | true =>
    have h1 : Hid (EE = 0 ∧ EB = beL p.toNat 2 ++ bn V) := ⟨hE.out, hB.out⟩
    have hp0 := (hpr.out rfl).1
    have hp1 := (hpr.out rfl).2
    obtain ⟨P, rfl⟩ := Int.eq_ofNat_of_zero_le hp0
    have hp2 : P < 1024 := by omega
    have hput := Lib.hid (put_two P w hp2)
    have z1 : IntKind.u64.wrap (P : Int) = (P : Int) := by rw [IntKind.wrap_u64]; omega
    obtain ⟨i0, hi, hz0, hz1, hz2⟩ := info_parts infoI
    have HI := Lib.hid (And.intro hi (And.intro hz0 (And.intro hz1 hz2)))
    clear hE hB hpr hi hz0 hz1 hz2
    go_enter Tryz.func130, Tryz.ntmps130
    go_wp2_with fail
    refine (hN.out w).mono ?_
    rintro e w1 ⟨rfl, rfl⟩
    clear hN
    go_wp2_with fail
    refine (hP.out w).mono ?_
    rintro e w1 ⟨rfl, rfl⟩
    clear hP
    go_wp2_with fail
    refine hput.out.mono ?_
    rintro e w1 ⟨rfl, ho, hb⟩
    have Ho := Lib.hid ho
    have Hb := Lib.hid hb
    clear hput ho hb
    go_wp2_with (show wpList _ _ _ (⟨some 20, _, _, _, _, _⟩ :: _) _ _; refine Go.Lib.wpList_append_own_string _ rfl (.tmp 18) (.tmp 19) CBS CST2 rfl w.heap.size CU8 i0 Tryz.underlying48 Tryz.underlying9 HI.out.1 HI.out.2.1 HI.out.2.2.1 HI.out.2.2.2 _ 2 (bv (beL P 2)) (by rfl) Ho.out V (by rfl) (by unfold maxLen; omega) (by omega) Hb.out.size ?_; intro v' w2 ho2 hg2 _; have Ho2 := Lib.hid ho2; have Hg2 := Lib.hid hg2; clear ho2 hg2)
    go_ret2
    refine ⟨v', by rw [h1.out.1]; rfl, ?_, Hb.out.grown Hg2.out (Nat.le_trans (Nat.le_refl _) Hb.out.size) ?_⟩
    · rw [h1.out.2]
      have := Ho2.out
      rw [strCells_bn, ← bv_append] at this
      rw [List.length_append, beL_length, bn_len]
      exact this
    · intro k hk
      cases hk; exact Nat.le_refl _
end Go.Proofs.YtdgladhfibfdlaaGreatDoor
namespace Go.Proofs.YtdgladhfibfdlaaGreatDoor
open Go Go.RowKit
structure CAt (w : World) (g o : Nat) (c : Ce) : Prop where
  c0 : w.cell? ⟨g, o, none⟩ = some (.string c.k)
  c1 : w.cell? ⟨g, o + 1, none⟩ = some (.string c.v)
  c2 : w.cell? ⟨g, o + 2, none⟩ = some (.int .i64 c.n)
  c3 : w.cell? ⟨g, o + 3, none⟩ = some (.int .i64 c.p)
theorem CAt.lt {w : World} {g o : Nat} {c : Ce} (h : CAt w g o c) : g < w.heap.size := block_lt_of_cell h.c0
theorem CAt.below {w w' : World} {g o B : Nat} {c : Ce} (h : CAt w g o c) (hb : Below B w w') (hB : g < B) : CAt w' g o c :=
  ⟨by rw [hb.cell (p := ⟨g, o, none⟩) hB]; exact h.c0, by rw [hb.cell (p := ⟨g, o + 1, none⟩) hB]; exact h.c1, by rw [hb.cell (p := ⟨g, o + 2, none⟩) hB]; exact h.c2, by rw [hb.cell (p := ⟨g, o + 3, none⟩) hB]; exact h.c3⟩
theorem CAt.ext {w w' : World} {g o : Nat} {c : Ce} (h : CAt w g o c) (hb : Ext w.drew w') : CAt w' g o c :=
  h.below (B := w.heap.size) ((Below.refl _ w).drew.trans hb) h.lt
def CSrc (w : World) (a : Option Addr) (cs : List Ce) : Prop := 0 < cs.length → ∃ g o, a = some ⟨g, o, none⟩ ∧ ∀ i, i < cs.length → CAt w g (o + i * 4) (ca cs i)
theorem CSrc.below {w w' : World} {a : Option Addr} {cs : List Ce} {B : Nat} (h : CSrc w a cs) (hb : Below B w w') (hB : w.heap.size ≤ B) : CSrc w' a cs := fun h0 => by
  obtain ⟨g, o, rfl, hc⟩ := h h0
  exact ⟨g, o, rfl, fun i hi => (hc i hi).below hb (Nat.lt_of_lt_of_le (hc i hi).lt hB)⟩
theorem CSrc.nil (w : World) (a : Option Addr) : CSrc w a [] := fun h => by cases h
def cvs : List Ce → List Value
  | [] => []
  | c :: r => .string c.k :: .string c.v :: .int .i64 c.n :: .int .i64 c.p :: cvs r
theorem cvs_len : ∀ cs : List Ce, (cvs cs).length = cs.length * 4
  | [] => rfl
  | c :: r => by simp only [cvs, List.length_cons, cvs_len r]; omega
theorem cvs_app (a b : List Ce) : cvs (a ++ b) = cvs a ++ cvs b := by
  induction a with
  | nil => rfl
  | cons c r ih => simp only [List.cons_append, cvs, ih]
theorem cvs_one : ∀ cs : List Ce, ∀ u ∈ cvs cs, u.oneCell' = true
  | [], u, h => by cases h
  | c :: r, u, h => by
    simp only [cvs, List.mem_cons] at h
    rcases h with rfl | rfl | rfl | rfl | h
    · rfl
    · rfl
    · rfl
    · rfl
    · exact cvs_one r u h
theorem cvs_get : ∀ (cs : List Ce) (i j : Nat), i < cs.length → j < 4 → (cvs cs)[i * 4 + j]? = [Value.string (ca cs i).k, .string (ca cs i).v, .int .i64 (ca cs i).n, .int .i64 (ca cs i).p][j]?
  | [], i, j, h, _ => by simp at h
  | c :: r, 0, j, _, hj => by
    have e : ca (c :: r) 0 = c := rfl
    rw [e]
    rcases j with _ | _ | _ | _ | j
    · rfl
    · rfl
    · rfl
    · rfl
    · omega
  | c :: r, i + 1, j, h, hj => by
    have e : ca (c :: r) (i + 1) = ca r i := rfl
    rw [e, show (i + 1) * 4 + j = (i * 4 + j) + 4 by omega, cvs]
    simp only [List.getElem?_cons_succ]
    exact cvs_get r i j (by simpa using h) hj
theorem own_cells {w : World} {B E : Nat} {v : Value} {cs : List Ce} (h : w.ownsRow B E 4 v cs.length (cvs cs)) :
    ∃ a c, v = .slice a cs.length c ∧ CSrc w a cs ∧ (a = none → c = 0) ∧ cs.length ≤ c ∧ c ≤ maxLen := by
  have h' := h
  obtain ⟨_, h2⟩ := h
  rcases h2 with ⟨rfl, h0⟩ | ⟨g, cap, cur, rfl, hb, hg, hnc, hcm, _⟩
  · have : cs = [] := List.eq_nil_of_length_eq_zero h0
    subst this
    exact ⟨none, 0, rfl, CSrc.nil _ _, fun _ => rfl, Nat.le_refl _, by unfold maxLen; omega⟩
  · refine ⟨_, cap, rfl, fun _ => ⟨g, 0, rfl, fun i hi => ?_⟩, (fun h => by cases h), hnc, hcm⟩
    have hcell : ∀ j, j < 4 → w.cell? ⟨g, 0 + i * 4 + j, none⟩ = [Value.string (ca cs i).k, .string (ca cs i).v, .int .i64 (ca cs i).n, .int .i64 (ca cs i).p][j]? := fun j hj => by
      have := h'.cellAt (i * 4 + j) (by omega)
      rw [cvs_get cs i j hi hj] at this
      rw [Nat.zero_add]; exact this
    exact ⟨hcell 0 (by omega), hcell 1 (by omega), hcell 2 (by omega), hcell 3 (by omega)⟩
theorem infoC : (Tryz.prog.info? CT).map (fun i => (i.zero, i.size, i.bytes)) = some (some (.agg #[.string ⟨#[]⟩, .string ⟨#[]⟩, .int .i64 0, .int .i64 0]), 4, 48) := by kernel_rfl
section
variable {P : Program} {w : World} {ops : Array Oper} {rest : List Oper} {o : Oper} {a : Act} {Q : Exit → Act → World → Prop}
theorem wpList_append_cell (hgd : o.guard = none) (s x : Operand) (t : TypeId)
    (ho : o.op = .call { callee := .builtin .append, args := #[s, x], argTypes := #[t, t] })
    (base : Nat) (e : TypeId) (ht : P.underlying t = some (.slice e)) (h2 : (P.info? e).map (fun i => (i.zero, i.size, i.bytes)) = some (some (.agg #[.string ⟨#[]⟩, .string ⟨#[]⟩, .int .i64 0, .int .i64 0]), 4, 48))
    (v : Value) (cs : List Ce) (hs : a.eval s = v) (hown : Hid (w.ownsRow base e 4 v cs.length (cvs cs)))
    (g c : Nat) (y : Ce) (hx : a.eval x = .slice (some ⟨g, 0, none⟩) 1 c) (hy : CAt w g 0 y)
    (hlen : (cs.length + 1) * 48 ≤ 140737488355328) (hbase : base ≤ w.heap.size)
    (h : ∀ v' w', Hid (w'.ownsRow base e 4 v' (cs ++ [y]).length (cvs (cs ++ [y]))) → Hid (w.grownBy w' v.ownBlock) → wpList P ops Q rest (a.put o.dst v') w') :
    wpList P ops Q (o :: rest) a w := by
  obtain ⟨i0, hi, hz0, hz1, hz2⟩ := info_parts h2
  refine wpList_append_near hgd s x t ho base e i0 (.agg #[.string ⟨#[]⟩, .string ⟨#[]⟩, .int .i64 0, .int .i64 0]) 4 48 ht hi hz0 hz1 hz2 rfl (by decide) v cs.length (cvs cs) hs hown.out ⟨g, 0, none⟩ 1 c (cvs [y]) hx (by simp [cvs]) ?_ (cvs_one [y]) (by unfold maxLen; omega) hlen hbase ?_
  · intro j u hj
    have hj4 : j < 4 := by
      rcases Nat.lt_or_ge j 4 with h1 | h1
      · exact h1
      · rw [List.getElem?_eq_none (by rw [cvs_len]; simpa using h1)] at hj; cases hj
    rw [addr_add, Nat.zero_add]
    have h0 := hy.c0
    have h1 := hy.c1
    have h2 := hy.c2
    have h3 := hy.c3
    rw [Nat.zero_add] at h1 h2 h3
    rcases j with _ | _ | _ | _ | j
    · rw [h0, ← hj]; rfl
    · rw [h1, ← hj]; rfl
    · rw [h2, ← hj]; rfl
    · rw [h3, ← hj]; rfl
    · omega
  · intro v' w' hown' hg _
    refine h v' w' ?_ hg
    show w'.ownsRow _ _ _ _ _ _
    rw [cvs_app, List.length_append]; exact hown'
end
theorem cat_new (w : World) (E : TypeId) (c : Ce) : CAt (w.alloc (.cells #[.string c.k, .string c.v, .int .i64 c.n, .int .i64 c.p] E)) w.heap.size 0 c := ⟨by simp, by simp, by simp, by simp⟩
set_option maxRecDepth 100000 in
theorem ascend_any (a : Option Addr) (n c : Nat) (cs : List Ce) (w : World) (hn : cs.length = n) (hs : CSrc w a cs) (hl : n ≤ 9223372036854775807) :
    Calls Tryz.prog 134 #[.slice a n c] w fun e w' => ∃ D, e = .returned (.bool D) ∧ (D = true ↔ asc cs) ∧ Below w.heap.size w w' := by
  have Hs := Lib.hid hs
  have Hn := Lib.hid hn
  clear hs hn
  go_enter Tryz.func134, Tryz.ntmps134
  go_wp2_with fail
  go_loopw [3] (fun i wr => ∃ k : Nat, i = .int .i64 k ∧ 1 ≤ k ∧ (k ≤ n ∨ k = 1) ∧ Hid (ascTo cs k) ∧ Hid (Below w.heap.size w wr)) (fun i _ => n - (intOf i).toNat)
  case atStart => exact ⟨1, rfl, by omega, .inr rfl, fun i h0 hi => by omega, Below.refl _ _⟩
  case round =>
    obtain ⟨k, rfl, hk1, hkn, ht, hB⟩ := hrel
    by_cases hlt : k < n
    · obtain ⟨j, rfl⟩ : ∃ j, k = j + 1 := ⟨k - 1, by omega⟩
      obtain ⟨g, o, rfl, hcell⟩ := Hs.out.below hB.out (Nat.le_refl _) (by rw [Hn.out]; omega)
      have hA := hcell (j + 1) (by rw [Hn.out]; omega)
      have hC := hcell j (by rw [Hn.out]; omega)
      have hle := ble_eq (ca cs (j + 1)).k (ca cs j).k
      have hyes : Hid (blt (ca cs j).k (ca cs (j + 1)).k = true → ascTo cs (j + 1 + 1)) := fun h => ascTo_succ ht.out (fun _ => by rw [Nat.add_sub_cancel]; exact h)
      have hno : Hid (blt (ca cs j).k (ca cs (j + 1)).k = false → ¬ asc cs) := fun h => not_asc (k := j + 1) (by omega) (by rw [Hn.out]; exact hlt) (by rw [Nat.add_sub_cancel]; exact h)
      have q1 : ∀ w', Ext wr.drew w' → w'.cell? ⟨g, o + (j + 1) * 4, none⟩ = some (.string (ca cs (j + 1)).k) := fun w' hw => (hA.ext hw).c0
      have q2 : ∀ w', Ext wr.drew w' → w'.cell? ⟨g, o + j * 4, none⟩ = some (.string (ca cs j).k) := fun w' hw => (hC.ext hw).c0
      generalize blt (ca cs j).k (ca cs (j + 1)).k = D at *
      have i1 : (0 : Int) ≤ (j : Int) + 1 := by omega
      have i2 : (j : Int) + 1 < (n : Int) := by omega
      have i3 : (j : Int) < (n : Int) := by omega
      have i4 : IntKind.i64.wrap (j : Int) = (j : Int) := by rw [IntKind.wrap_i64]; omega
      clear hA hC hcell
      go_wp2_with fail
      refine wp_region_gr [(0, true), (1, true), (2, true), (3, true), (4, true), (5, true), (6, true), (7, true), (8, true), (9, true), (10, true), (11, true)] (by kernel_rfl) (by kernel_rfl) (by kernel_rfl) (by kernel_rfl) (fun _ _ _ _ _ h => h) ?_
      iterate 12 (refine wpGr_read (o := ⟨_, _, _, _, _, _⟩) (v := ?_) rfl (by rfl) ?_ ?_; rotate_left; (intro w' hw'; go_simp; with_reducible rfl); simp only [Act.put, List.setIfInBounds_toArray, List.set_cons_zero, List.set_cons_succ])
      refine wpGr_done ?_
      have hB2 : Hid (Below w.heap.size w wr.drew) := hB.out.drew
      clear q1 q2 hB ht
      cases D with
      | true =>
        have hy := Lib.hid (hyes.out rfl)
        clear hyes hno
        go_wp2_with fail
        go_roundw
        case rel => exact ⟨j + 1 + 1, by go_num, by omega, .inl (by omega), hy, hB2⟩
        case measure => simp [intOf]; omega
      | false =>
        have hy := Lib.hid (hno.out rfl)
        clear hyes hno
        go_wp2_with fail
        go_ret
        exact ⟨_, rfl, ⟨(fun h => by cases h), fun h => absurd h hy.out⟩, hB2.out⟩
    · have hasc : Hid (asc cs) := by
        show ascTo cs cs.length
        rw [Hn.out]
        rcases hkn with h | h
        · obtain rfl : k = n := by omega
          exact ht.out
        · intro i h0 hi; omega
      clear ht hkn
      go_wp2
      go_ret
      exact ⟨_, rfl, ⟨fun _ => hasc.out, fun _ => rfl⟩, hB.out⟩
end Go.Proofs.YtdgladhfibfdlaaGreatDoor
