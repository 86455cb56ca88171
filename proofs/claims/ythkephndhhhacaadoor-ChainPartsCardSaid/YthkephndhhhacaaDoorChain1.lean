/-
  chain's parted (a range over a function: the iterator), and Pieces, which goes through it and collects.
-/
import Derived.RangeFuncNested
import Derived.RangeFuncBox
import Derived.RangeFuncBound
import Derived.RangeFuncLeaves
import Derived.Shelf.Abstract
import Derived.WalkKit
import Derived.OwnWalkIn
import Derived.TacticsInMore
import Derived.LoopNIn
import Derived.LoopIn
import Derived.Maps.AppendAt
import Derived.Lib.Hide
import Derived.Test.YthkephndhhhacaaDoorChainMath
namespace Go.Proofs.YthkephndhhhacaaDoor
open Go Go.RowKit Go.Shelf

attribute [local go_sem] Oper.semAt_some

abbrev CST : TypeId := 9
abbrev CSS : TypeId := 24
set_option maxRecDepth 100000 in
set_option maxHeartbeats 2000000 in
/-- The iterator's closure: for every loop body that keeps the value's box. -/
theorem parted1_in (F : Fence) (n : Nat) (h21 : F.fn 21) (hro : F.round = none) (hn : 1 ≤ n) (l Bv : Nat) (V : ByteArray) (hV : V.size ≤ 1000000) (J Jx : List ByteArray → World → Prop)
    (hY : ∀ pre x W, J pre W → pre.length < nP V.size → YieldAt F (n - 1) Tryd.prog l #[.string x] W fun e W' =>
      (e = .returned (.bool true) ∧ J (pre ++ [x]) W' ∧ (Boxed W Bv CST (.string V) → Boxed W' Bv CST (.string V))) ∨ (e = .returned (.bool false) ∧ Jx (pre ++ [x]) W'))
    (W : World) (hb : Boxed W Bv CST (.string V)) (h0 : J [] W) :
    CallsIn F n Tryd.prog 21 #[.func (.yield l) #[] #[], .pointer (some ⟨Bv, 0, none⟩)] W fun e W' => (∃ v, e = .returned v) ∧
      ((∃ ys, ys = chs V ∧ J ys W') ∨ (∃ pre, pre <+: chs V ∧ Jx pre W')) := by
  have HY := Lib.hid hY
  have Hb := Lib.hid hb
  have H0 := Lib.hid h0
  clear hY hb h0
  refine callsIn_of_wp Tryd.func21 rfl h21 ?_ hro
  simp only [Tryd.ntmps21, List.size_toArray, List.length_cons, List.length_nil, Nat.reduceAdd, Nat.reduceSub, Array.replicate_succ, Array.replicate_zero, List.push_toArray, List.append_toArray, List.nil_append, List.cons_append]
  gi_wp2
  gi_loopw [3] (fun i wr => ∃ k A : Nat, i = .int .i64 A ∧ Hid (A = 502 * k ∧ k ≤ nP V.size) ∧ Hid (J (pcT V k) wr) ∧ Hid (Boxed wr Bv CST (.string V)))
    (fun i _ => V.size - (intOf i).toNat)
  case atStart => exact ⟨0, 0, rfl, ⟨rfl, Nat.zero_le _⟩, H0.out, Hb.out⟩
  case round =>
    obtain ⟨k, A, rfl, hk, hJ, hB⟩ := hrel
    have c0 := hB.out.cell
    by_cases hlt : A < V.size
    · obtain ⟨E, hE⟩ : ∃ E, E = min (A + 502) V.size := ⟨_, rfl⟩
      have hkn : Hid (k < nP V.size) := nP_lt.2 (by have := hk.out.1; omega)
      have hcut : Hid (V.extract A E = cutS V k) := by show _ = _; unfold cutS; rw [hE, hk.out.1]
      have e1 : min ((A : Int) + 502) (V.size : Int) = (E : Int) := by omega
      have z1 : A ≤ E := by omega
      have z2 : E ≤ V.size := by omega
      have hm : Hid (V.size - (A + 502) < V.size - A) := by show _ < _; omega
      have HE := Lib.hid hE
      clear hE
      obtain ⟨fn, tmps, assign, body, hy, hR⟩ := HY.out (pcT V k) (V.extract A E) wr hJ.out (by rw [pcT_len]; exact hkn.out)
      gi_wp2
      refine hR.mono ?_
      rintro e W3 (⟨rfl, hJ3, hk3⟩ | ⟨rfl, hJx3⟩)
      · have HJ3 := Lib.hid hJ3
        have HB3 := Lib.hid (hk3 hB.out)
        clear hJ3 hk3
        gi_wp2
        go_roundw
        case rel => exact ⟨k + 1, A + 502, by go_num, ⟨by rw [hk.out.1]; omega, hkn.out⟩, by rw [pcT_succ, ← hcut.out]; exact HJ3.out, HB3.out⟩
        case measure => simp [intOf]; omega
      · have HJx := Lib.hid hJx3
        clear hJx3
        gi_wp2
        refine bodyPost_ret (results_none rfl _ _ _) rfl ?_
        refine ⟨⟨_, rfl⟩, .inr ⟨_, ?_, HJx.out⟩⟩
        rw [hcut.out, ← pcT_succ]
        refine ⟨((List.range (nP V.size)).drop (k + 1)).map (cutS V), ?_⟩
        unfold chs pcT
        have e2 : List.range (k + 1) = (List.range (nP V.size)).take (k + 1) := by rw [List.take_range, Nat.min_eq_left hkn.out]
        rw [e2, ← List.map_append, List.take_append_drop]
    · have hkk : Hid (k = nP V.size) := by
        have h1 := hk.out
        have h2 := @nP_lt V.size k
        show _ = _; omega
      gi_wp2
      go_end0
      exact ⟨⟨_, rfl⟩, .inl ⟨_, rfl, by have := hJ.out; rw [hkk.out] at this; exact this⟩⟩
set_option maxHeartbeats 1000000 in
/-- parted: the value is boxed; the function value captures the box. -/
theorem parted_in (F : Fence) (n : Nat) (h15 : F.fn 15) (hro : F.round = none) (V : ByteArray) (w : World) :
    CallsIn F n Tryd.prog 15 #[.string V] w fun e w' => e = .returned (.func (.func 21) #[] #[.pointer (some ⟨w.heap.size, 0, none⟩)]) ∧ w' = w.alloc (.cells #[.string V] CST) := by
  refine callsIn_of_wp Tryd.func15 rfl h15 ?_ hro
  simp only [Tryd.ntmps15, List.size_toArray, List.length_cons, List.length_nil, Nat.reduceAdd, Nat.reduceSub, Array.replicate_succ, Array.replicate_zero, List.push_toArray, List.append_toArray, List.nil_append, List.cons_append]
  gi_wp2
  go_ret
  exact ⟨rfl, rfl⟩
theorem parted_stops (F : Fence) (n : Nat) (h21 : F.fn 21) (hro : F.round = none) (hn : 1 ≤ n) (Bv : Nat) (V : ByteArray) (hV : V.size ≤ 1000000) (w : World) (hb : Boxed w Bv CST (.string V)) :
    SeqStopsK F n Tryd.prog 21 #[.pointer (some ⟨Bv, 0, none⟩)] (fun x : ByteArray => #[Value.string x]) (fun A B => Boxed A Bv CST (.string V) → Boxed B Bv CST (.string V)) (fun ys => ys = chs V) (fun pre => pre <+: chs V) (nP V.size) w := fun l J Jx W hW _ _ hY h0 =>
  parted1_in F n h21 hro hn l Bv V hV J Jx hY W ((hW.block Bv hb.lt).trans hb) h0
theorem own_low {w : World} {B B' E sz n : Nat} {v : Value} {xs : List Value} (h : w.ownsRow B E sz v n xs) (hb : B' ≤ B) : w.ownsRow B' E sz v n xs := by
  obtain ⟨h1, h2⟩ := h
  refine ⟨h1, ?_⟩
  rcases h2 with h3 | ⟨g, cap, cur, e1, e2, h3⟩
  · exact .inl h3
  · exact .inr ⟨g, cap, cur, e1, Nat.le_trans hb e2, h3⟩

set_option maxRecDepth 100000 in
set_option maxHeartbeats 2000000 in
theorem Pieces_in (F : Fence) (n : Nat) (h7 : F.fn 7) (h15 : F.fn 15) (h21 : F.fn 21) (hro : F.round = none) (hn : 3 ≤ n) (V : ByteArray) (hV : V.size ≤ 1000000) (w : World) :
    CallsIn F n Tryd.prog 7 #[.string V] w fun e W' => ∃ v, e = .returned v ∧ W'.ownsRow w.heap.size CST 1 v (chs V).length (sv (chs V)) ∧ Below w.heap.size w W' := by
  have h1 : 1 ≤ n := by omega
  have hN : Hid (nP V.size ≤ 2000) := by show _ ≤ _; unfold nP; omega
  obtain ⟨i0, hi, hz0, hz1, hz2⟩ := info_parts infoStr
  refine callsIn_of_wp_marks Tryd.func7 rfl h7 ?_ hro
  simp only [Tryd.ntmps7, List.size_toArray, List.length_cons, List.length_nil, Nat.reduceAdd, Nat.reduceSub, Array.replicate_succ, Array.replicate_zero, List.push_toArray, List.append_toArray, List.nil_append, List.cons_append]
  gi_wp2_with (gi_at_call 15; refine (parted_in F (n - 1) h15 hro _ _).mono ?_; rintro e w' ⟨rfl, rfl⟩)
  have bO := Boxed.new w CSS (.slice none 0 0)
  have bN := Boxed.new (w.alloc (.cells #[.slice none 0 0] CSS)) CST (.string V)
  rw [World.size_alloc] at bN
  have hB0 : Below w.heap.size w ((w.alloc (.cells #[.slice none 0 0] CSS)).alloc (.cells #[.string V] CST)) := ((Below.refl _ w).alloc (Nat.le_refl _) _).alloc (by simp) _
  refine wpIn_rangeFunc_ownG hro h1 (gf := 21) (lb := #[.pointer (some ⟨w.heap.size + 1, 0, none⟩)]) rfl h21 (enters_of Tryd.func21 (by kernel_rfl) rfl)
    (parted_stops F (n - 1) h21 hro (by omega) (w.heap.size + 1) V hV _ bN) (fun h k a => k (h a)) (fun W l o o' _ hl ho _ hbx => Boxed.kept hbx (grownBy_putObj' W l o') (fun e => by
      cases e
      rw [show W.heap[w.heap.size + 1]? = _ from hbx] at hl
      cases hl; cases ho)) (Below.refl _ _) (fun _ => rfl)
    (fun pre W => (∃ v, Boxed W w.heap.size CSS v ∧ W.ownsRow (w.heap.size + 2) CST 1 v pre.length (sv pre) ∧ True) ∧ Below w.heap.size w W ∧ w.heap.size + 2 ≤ W.heap.size)
    (fun _ _ _ => False)
    (OwnFrom.and (Own.from (holdsRow_own (w.heap.size + 2) w.heap.size CSS CST 1 (fun pre => pre.length) (fun pre => sv pre) (fun _ _ => True)) _) (OwnFrom.and (ownFrom_below (Nat.le_refl _) (by simp; omega)) (fun _ _ _ _ hs hg _ => Nat.le_trans hs hg.size)))
    (fun _ _ _ _ _ hs _ _ => hs)
    ⟨⟨_, bO.alloc _, World.ownsRow_nil _ _ _ _, trivial⟩, hB0, by simp⟩
    (fun x => { tmps := #[.string V, undef, .slice none 0 0, .pointer (some ⟨w.heap.size, 0, none⟩), .string x, .string V, .func (.func 21) #[] #[.pointer (some ⟨w.heap.size + 1, 0, none⟩)], .string x, undef, undef, undef, undef, undef], defers := [] }) ?assign ?body ?done ?stop
  case assign =>
    intro l x W K hK
    gi_wp2
    exact hK
  case body =>
    rintro l pre x W ⟨⟨v, hv, hrow, _⟩, hB, hsz⟩ hlt
    have hc := hv.cell
    have hlt2 := Nat.lt_of_lt_of_le hlt hN.out
    gi_wp2_with (gi_at_builtin; refine wpListIn_append_own _ rfl _ _ CSS rfl (w.heap.size + 2) CST i0 (.string ⟨#[]⟩) 1 16 Tryd.underlying24 hi hz0 hz1 hz2 rfl (by decide) _ _ _ rfl (hrow.alloc _) ⟨W.heap.size, 0, none⟩ 1 1 [.string x] rfl rfl (cell_one_new _ _ _) (by simp [Value.oneCell']) (by unfold maxLen; omega) (by omega) (by simp; omega) ?_; intro v' w1 hown' hgrow _; obtain ⟨g', cap', rfl⟩ := ownsRow_succ hown'; obtain ⟨hv1, hv2, _, hk2, hb2⟩ := hv.appended (by decide) (own_low hrow (by omega)) hB.size (Nat.le_refl _) (own_low hown' (by omega)) hgrow; have hc1 := hv1.cell; have hf1 := hv1.frozen)
    refine ⟨hk2.from _, fun hbx => ?_, ⟨_, hv2, ?_, trivial⟩, hB.trans hb2, Nat.le_trans hsz hb2.size⟩
    · have h3 : Boxed w1 (w.heap.size + 1) CST (.string V) := (hbx.alloc _).kept hgrow (fun e => by
        have := (hrow.lt _ e.symm).1
        omega)
      exact h3.other (by omega) _
    · have := hown'.kept (grownBy_setCell' w1 w.heap.size (.slice (some ⟨g', 0, none⟩) (pre.length + 1) cap')) (.inr (hv1.not_row (by decide) hown').symm)
      rw [List.length_append, show sv (pre ++ [x]) = sv pre ++ [.string x] from List.map_append]
      exact this
  case done =>
    rintro D ys W hD rfl ⟨⟨v, hv, hrow, _⟩, hB, _⟩ hK
    have hc := hv.cell
    gi_wp2
    refine ⟨by simp, .inl ⟨_, _, rfl, run_takeDeferred hK, ?_⟩⟩
    exact ⟨_, results_tmp rfl _ _ _, v, rfl, own_low (ownsRow_putObj hrow _ hK rfl) (by omega), hB.trans (belowK_b (w := w) (Nat.le_refl _) W D _ _ (by simp at hD; omega) hK rfl rfl)⟩
  case stop =>
    rintro D c pre W _ _ h _
    exact h.elim
theorem pieces_any (V : ByteArray) (hV : V.size ≤ 1000000) (w : World) :
    Calls Tryd.prog 7 #[.string V] w fun e W' => ∃ v, e = .returned v ∧ TxV W' v (chs V) ∧ Below w.heap.size w W' :=
  (callsIn_wide.1 (Pieces_in Fence.wide 3 trivial trivial trivial rfl (Nat.le_refl _) V hV w)).mono fun _ _ ⟨v, he, ho, hb⟩ => ⟨v, he, own_texts ho, hb⟩
end Go.Proofs.YthkephndhhhacaaDoor
