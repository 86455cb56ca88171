/-
  The law's own sure, of layer 22.
-/
import Derived.Test.YtfjjfickbhkpaaaDoorScrub4Z
import Derived.Test.YtfjjfickbhkpaaaDoorBelowZ
import Derived.Test.YtfjjfickbhkpaaaDoorBit6Z
import Derived.Test.YtfjjfickbhkpaaaDoorElsZ
import Derived.Lib.SlBytesConst
namespace Go.Proofs.YtfjjfickbhkpaaaDoor
open Go Go.RowKit

abbrev FN : Nat → Bool := fun _ => false
theorem wpList_build_TSw {ops : Array Oper} {rest : List Oper} {o : Oper} {a : Act} {w : World} {Q : Exit → Act → World → Prop} (hw : Region.wanted o (yielded ops a.tmps) = true) (ho : o.op = .build TS #[])
    (h : wpList Tryd.prog ops Q rest (a.put o.dst (.agg (sc (fun _ => false)))) w) : wpList Tryd.prog ops Q (o :: rest) a w := by
  refine wpList_step fun K hK => ?_
  rw [if_pos hw]
  have hk := hK _ _ h
  unfold Oper.wp execOp
  simp only [ho, Sem.run_bind, Sem.run_pure, Result.andThen_ok, Array.map_empty, build_TS]
  exact hk
theorem opS_zs : opS (List.replicate 512 0) = (0, [], 4) := by
  refine opS_sum List.length_replicate ?_
  rw [List.drop_replicate, List.take_replicate]
  decide +kernel
theorem az_zs (n : Nat) : allZero (List.replicate n 0) = true := by
  unfold allZero
  rw [List.all_eq_true]
  intro x hx
  rw [(List.mem_replicate.1 hx).2]; rfl
theorem nz_zs (n : Nat) : ∀ k, nzK (List.replicate n 0) k = 0
  | 0 => rfl
  | k + 1 => by
    have : (List.replicate n 0).getD k 0 = 0 := by
      rw [List.getD_eq_getElem?_getD, List.getElem?_replicate]; split <;> rfl
    rw [nzK_yes this, nz_zs n k]
theorem beh_zs : behL (List.replicate 512 0) = List.replicate 504 0 := by
  have h0 : ldN (List.replicate 512 0) = 0 := by
    unfold ldN
    rw [List.getD_eq_getElem?_getD, List.getElem?_replicate, List.getD_eq_getElem?_getD, List.getElem?_replicate]; rfl
  unfold behL
  rw [h0, List.take_replicate, List.drop_replicate]; rfl
theorem inB_FN (k : Nat) : inB FN (k : Nat) = false := by
  unfold inB; cases decide (0 ≤ (k : Int)) <;> simp
theorem inB_b4 (k : Nat) (h : k < 4) : inB (belowR 4) (k : Nat) = true := by
  rw [inB_nat _ _ (by omega)]; unfold belowR; exact decide_eq_true (by omega)
/-- The law's pages. -/
theorem sure_facts : ∃ P : List (List Nat), P = [[], [], List.replicate 512 0, [1]] ∧ dirL FN P 4 = [3] ∧ clnS FN P 4 = false ∧ clnS FN (P.take 3) 3 = true ∧ clnS (belowR 4) P 4 = false ∧ slA (belowR 4) P 4 = 504 ∧ slW (belowR 4) P 4 = 0 := by
  obtain ⟨Z, hZ⟩ : ∃ Z, Z = List.replicate 512 0 := ⟨_, rfl⟩
  refine ⟨[[], [], Z, [1]], by rw [hZ], ?_⟩
  have hz : allZero Z = true := by rw [hZ]; exact az_zs 512
  have hd0 : ∀ P, dirB FN P 0 = false := fun P => by unfold dirB; exact Bool.false_and _
  have hd1 : ∀ P, dirB FN P 1 = false := fun P => by unfold dirB; exact Bool.false_and _
  have hd2 : dirB FN [[], [], Z, [1]] 2 = false := by
    unfold dirB
    rw [show pgK [[], [], Z, [1]] 2 = Z from rfl, hz]; simp
  have hd2' : dirB FN ([[], [], Z, [1]].take 3) 2 = false := by
    unfold dirB
    rw [show pgK ([[], [], Z, [1]].take 3) 2 = Z from rfl, hz]; simp
  have hd3 : dirB FN [[], [], Z, [1]] 3 = true := by
    unfold dirB
    rw [show pgK [[], [], Z, [1]] 3 = [1] from rfl, inB_FN]; rfl
  have e1 : dirL FN [[], [], Z, [1]] 4 = [3] := by
    rw [dirL_yes hd3, dirL_no hd2, dirL_no (hd1 _), dirL_no (hd0 _)]; rfl
  have e2 : dirL FN ([[], [], Z, [1]].take 3) 3 = [] := by
    rw [dirL_no hd2', dirL_no (hd1 _), dirL_no (hd0 _)]; rfl
  have hc : ∀ P k, clnB FN P k = true := fun P k => by unfold clnB; rw [inB_FN]; simp
  have h20 : slB (belowR 4) [[], [], Z, [1]] 0 = false := by unfold slB; exact Bool.false_and _
  have h21 : slB (belowR 4) [[], [], Z, [1]] 1 = false := by unfold slB; exact Bool.false_and _
  have h22 : slB (belowR 4) [[], [], Z, [1]] 2 = true := by
    unfold slB
    rw [inB_b4 2 (by omega), show pgK [[], [], Z, [1]] 2 = Z from rfl, decide_eq_true (show Z.length = 512 by rw [hZ, List.length_replicate])]; rfl
  have h23 : slB (belowR 4) [[], [], Z, [1]] 3 = false := by
    unfold slB
    rw [show pgK [[], [], Z, [1]] 3 = [1] from rfl, decide_eq_false (show ¬ [1].length = 512 by decide), Bool.and_false, Bool.and_false]
  have hb : behL Z = List.replicate 504 0 := by rw [hZ]; exact beh_zs
  refine ⟨e1, ?_, ?_, ?_, ?_, ?_⟩
  · unfold clnS; rw [e1]; exact Bool.and_false _
  · unfold clnS; rw [e2, clnL_yes (clnL_yes (clnL_yes rfl (hc _ 0)) (hc _ 1)) (hc _ 2)]; rfl
  · unfold clnS
    rw [clnL_no (k := 2) (by
      unfold clnB isPg
      rw [inB_b4 2 (by omega), show pgK [[], [], Z, [1]] 2 = Z from rfl, hZ, opS_zs]; rfl) 4 (by omega)]; rfl
  · rw [(sl_no h23).1, (sl_yes h22).1, (sl_no h21).1, (sl_no h20).1, show pgK [[], [], Z, [1]] 2 = Z from rfl, hb, List.length_replicate]; rfl
  · rw [(sl_no h23).2, (sl_yes h22).2, (sl_no h21).2, (sl_no h20).2, show pgK [[], [], Z, [1]] 2 = Z from rfl, hb, nz_zs]; rfl
theorem PgIn.take {w : World} {a : Option Addr} {P : List (List Nat)} (h : PgIn w a P) (k : Nat) : PgIn w a (P.take k) := fun i hi => by
  rw [List.length_take] at hi
  obtain ⟨g, o, v, ha, hc, hv⟩ := h i (by omega)
  refine ⟨g, o, v, ha, hc, ?_⟩
  have e : (P.take k).getD i [] = P.getD i [] := by simp [List.getD, show i < k by omega]
  rw [e]; exact hv
/-- The law's pages in memory. -/
theorem sure_pages (w : World) (g : Nat) (E T : TypeId) (Z : List Nat) (hl : Z.length = 512) (hb : B8 Z) (hr : Row w g 5 Z) :
    PgIn ((w.alloc (.cells #[.int .u8 1] E)).alloc (.cells #[.slice none 0 0, .slice none 0 0, .slice (some ⟨g, 0, none⟩) 512 512, .slice (some ⟨w.heap.size, 0, none⟩) 1 1] T)) (some ⟨w.heap.size + 1, 0, none⟩) [[], [], Z, [1]] := by
  obtain ⟨W, hW⟩ : ∃ W, w.alloc (.cells #[.int .u8 1] E) = W := ⟨_, rfl⟩
  have hs : W.heap.size = w.heap.size + 1 := by rw [← hW]; simp
  have hb1 : Below w.heap.size w W := by rw [← hW]; exact (Below.refl _ _).alloc (Nat.le_refl _) _
  have h1 : Cs W w.heap.size 0 [1] := by rw [← hW]; exact src_new w E (0, 0) [1]
  have hr1 := hr.below hb1 hr.lt
  rw [hW, ← hs]
  obtain ⟨V, hV⟩ : ∃ V, W.alloc (.cells #[.slice none 0 0, .slice none 0 0, .slice (some ⟨g, 0, none⟩) 512 512, .slice (some ⟨w.heap.size, 0, none⟩) 1 1] T) = V := ⟨_, rfl⟩
  have hb2 : Below W.heap.size W V := by rw [← hV]; exact (Below.refl _ _).alloc (Nat.le_refl _) _
  have hc : ∀ i v, #[Value.slice none 0 0, .slice none 0 0, .slice (some ⟨g, 0, none⟩) 512 512, .slice (some ⟨w.heap.size, 0, none⟩) 1 1][i]? = some v → V.cell? ⟨W.heap.size, 0 + i, none⟩ = some v := fun i v h => by
    have hn := heap_new W T #[.slice none 0 0, .slice none 0 0, .slice (some ⟨g, 0, none⟩) 512 512, .slice (some ⟨w.heap.size, 0, none⟩) 1 1]
    rw [hV] at hn
    rw [Nat.zero_add]
    simp [World.cell?, hn, h]
  have hr2 := hr1.below hb2 hr1.lt
  have h2 : Cs V w.heap.size 0 [1] := h1.below hb2 (by rw [hs]; omega)
  rw [hV]
  intro i hi
  match i, hi with
  | 0, _ => exact ⟨_, 0, _, rfl, hc 0 _ rfl, BA.none _⟩
  | 1, _ => exact ⟨_, 0, _, rfl, hc 1 _ rfl, BA.none _⟩
  | 2, _ => exact ⟨_, 0, .slice (some ⟨g, 0, none⟩) 512 512, rfl, hc 2 _ rfl, ⟨⟨_, 512, by show _ = Value.slice _ Z.length _; rw [hl], row_src hr2, by show Z.length ≤ _; omega, by decide⟩, hb⟩⟩
  | 3, _ => exact ⟨_, 0, .slice (some ⟨w.heap.size, 0, none⟩) 1 1, rfl, hc 3 _ rfl, ⟨⟨some ⟨w.heap.size, 0, none⟩, 1, rfl, h2.src, Nat.le_refl 1, by decide⟩, fun x hx => by simp at hx; omega⟩⟩
set_option maxRecDepth 100000 in
theorem zsure_any (w : World) (hT : WorthIn w) : Calls Tryd.prog 5 #[] w fun e w' => e = .returned (.bool true) ∧ Below w.heap.size w w' := by
  obtain ⟨P, hP, f1, f2, f3, f4, f5, f6⟩ := sure_facts
  obtain ⟨Z, hZ⟩ : ∃ Z, Z = List.replicate 512 0 := ⟨_, rfl⟩
  have hZl : Z.length = 512 := by rw [hZ]; exact List.length_replicate
  have hZb : B8 Z := by rw [hZ]; exact B8.zeros _
  rw [← hZ] at hP
  have HF := Lib.hid (And.intro f1 (And.intro f2 (And.intro f3 (And.intro f4 (And.intro f5 f6)))))
  have HP := Lib.hid hP
  have HZ := Lib.hid (And.intro hZ (And.intro hZl hZb))
  have HT := Lib.hid hT
  have hPl : P.length = 4 := by rw [hP]; rfl
  have HPl := Lib.hid hPl
  clear hP f1 f2 f3 f4 f5 f6 hZ hZl hZb hT hPl
  go_enter Tryd.func5, Tryd.ntmps5
  go_wp2_with (first
    | (at_make; refine wpList_make_bytes rfl _ _ 26 rfl 5 Tryd.underlying26 infoByte _ _ _ _ 512 rfl rfl rfl rfl (by omega) ?_; intro w1 hr1 hb1; rw [← HZ.out.1] at hr1)
    | (refine wpList_build_TS rfl rfl ?_))
  have hpg := sure_pages w1 w.heap.size 5 26 Z HZ.out.2.1 HZ.out.2.2 hr1.out
  rw [← HP.out] at hpg
  have hbV : Below w.heap.size w ((w1.alloc (.cells #[.int .u8 1] 5)).alloc (.cells #[.slice none 0 0, .slice none 0 0, .slice (some ⟨w.heap.size, 0, none⟩) 512 512, .slice (some ⟨w1.heap.size, 0, none⟩) 1 1] 26)) := (hb1.alloc (by have := hb1.size; omega) _).alloc (by have := hb1.size; simp; omega) _
  generalize w1.heap.size + 1 = g1 at *
  generalize (w1.alloc (.cells #[.int .u8 1] 5)).alloc (.cells #[.slice none 0 0, .slice none 0 0, .slice (some ⟨w.heap.size, 0, none⟩) 512 512, .slice (some ⟨w1.heap.size, 0, none⟩) 1 1] 26) = V at *
  have HPG := Lib.hid hpg
  have HB := Lib.hid hbV
  clear hpg hbV hr1 hb1
  refine (dirty_any _ 4 4 P FN HPl.out V (by omega) HPG.out.pgw).mono ?_
  rintro e w2 ⟨v, rfl, hv, hb2⟩
  rw [HF.out.1] at hv
  obtain ⟨av, cv, rfl, hs, _⟩ := hv
  obtain ⟨g3, o3, rfl, hc3⟩ := hs (by decide)
  have HC : Hid (w2.cell? ⟨g3, o3 + 0, none⟩ = some (.int .i64 3)) := hc3 0 (by decide)
  replace HPG := Lib.hid (HPG.out.below hb2 (Nat.le_refl _))
  replace HB := Lib.hid (HB.out.trans (hb2.mono HB.out.size))
  clear hs hc3 hb2
  go_wp2_with fail
  refine (below_any 4 w2 (by omega)).mono ?_
  rintro e w3 ⟨rfl, hb3⟩
  replace HC := Lib.hid ((hb3.cell (p := ⟨g3, o3 + 0, none⟩) (block_lt_of_cell HC.out)).trans HC.out)
  replace HPG := Lib.hid (HPG.out.below hb3 (Nat.le_refl _))
  replace HB := Lib.hid (HB.out.trans (hb3.mono HB.out.size))
  clear hb3
  go_wp2_with fail
  refine (slack_any _ 4 4 P (belowR 4) HPl.out w3 (by omega) HPG.out.pgw).mono ?_
  rintro e w4 ⟨rfl, hb4⟩
  rw [HF.out.2.2.2.2.1, HF.out.2.2.2.2.2]
  replace HC := Lib.hid ((hb4.cell (p := ⟨g3, o3 + 0, none⟩) (block_lt_of_cell HC.out)).trans HC.out)
  replace HPG := Lib.hid (HPG.out.below hb4 (Nat.le_refl _))
  replace HB := Lib.hid (HB.out.trans (hb4.mono HB.out.size))
  clear hb4
  have hc := HC.out
  rw [Nat.add_zero] at hc
  go_wp2_with (first | (refine wpList_build_TSw (by rfl) rfl ?_))
  refine (clean_any _ 4 4 P FN HPl.out w4 (by omega) HPG.out.pgw (HT.out.below HB.out)).mono ?_
  rintro e w5 ⟨rfl, hb5⟩
  rw [HF.out.2.1]
  replace HPG := Lib.hid (HPG.out.below hb5 (Nat.le_refl _))
  replace HB := Lib.hid (HB.out.trans (hb5.mono HB.out.size))
  clear hb5 hc HC
  go_wp2_with (first | (refine wpList_build_TSw (by rfl) rfl ?_))
  refine (clean_any _ 3 4 (P.take 3) FN (by rw [List.length_take, HPl.out]; rfl) w5 (by omega) (HPG.out.take 3).pgw (HT.out.below HB.out)).mono ?_
  rintro e w6 ⟨rfl, hb6⟩
  rw [HF.out.2.2.1]
  replace HPG := Lib.hid (HPG.out.below hb6 (Nat.le_refl _))
  replace HB := Lib.hid (HB.out.trans (hb6.mono HB.out.size))
  clear hb6
  go_wp2_with fail
  refine (below_any 4 w6 (by omega)).mono ?_
  rintro e w7 ⟨rfl, hb7⟩
  replace HPG := Lib.hid (HPG.out.below hb7 (Nat.le_refl _))
  replace HB := Lib.hid (HB.out.trans (hb7.mono HB.out.size))
  clear hb7
  go_wp2_with fail
  refine (clean_any _ 4 4 P (belowR 4) HPl.out w7 (by omega) HPG.out.pgw (HT.out.below HB.out)).mono ?_
  rintro e w8 ⟨rfl, hb8⟩
  rw [HF.out.2.2.2.1]
  replace HB := Lib.hid (HB.out.trans (hb8.mono HB.out.size))
  clear hb8
  go_wp2
  go_ret
  exact ⟨rfl, HB.out⟩
end Go.Proofs.YtfjjfickbhkpaaaDoor
