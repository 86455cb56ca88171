/-
  The document's device: ReadPage, Waiting.
-/
import Derived.Test.YtbkjaifpgknadaaDoorRefD2
import Derived.Test.YtbkjaifpgknadaaDoorDev6
import Derived.Test.YtbkjaifpgknadaaDoorDev8
namespace Go.Proofs.YtbkjaifpgknadaaDoor
open Go Go.RowKit Go.Maps

theorem run_box_rt (w : World) (cs : Array Value) : (Instr.box RT (.agg cs)).run Tryd.prog w = .ok (.pointer (some ⟨w.heap.size, 0, none⟩)) (w.alloc (.cells cs RT)) := by rfl
section
variable {ops : Array Oper} {rest : List Oper} {o : Oper} {a : Act} {w : World} {K : Act → World → Prop} {Q : Exit → Act → World → Prop}
theorem wpList_box_rt (hgd : o.guard = none) (x : Operand) (ho : o.op = .box RT x) (cs : Array Value) (hx : a.eval x = .agg cs)
    (h : ∀ g w', w.heap.size ≤ g → w'.heap[g]? = some (.cells cs RT (0, 0)) → Below w.heap.size w w' → wpList Tryd.prog ops Q rest (a.put o.dst (.pointer (some ⟨g, 0, none⟩))) w') : wpList Tryd.prog ops Q (o :: rest) a w := by
  refine wpList_plain hgd fun K hK => ?_
  have hk := hK _ _ (h w.heap.size (w.alloc (.cells cs RT)) (Nat.le_refl _) (heap_alloc_new _ _) ((Below.refl _ _).alloc (Nat.le_refl _) _))
  unfold Oper.wp execOp
  simp only [ho, hx, Sem.run_bind, Sem.run_pure, Result.andThen_ok, run_box_rt]
  exact hk
end
theorem rcs_cell {w : World} {g ps pn pw : Nat} {S : DS} (h : w.heap[g]? = some (.cells (rcs ps pn pw S) RT (0, 0))) (j : Nat) : w.cell? ⟨g, j, none⟩ = (rcs ps pn pw S)[j]? := cell_of_row w g j _ _ _ h
theorem rreadPage_bad (w : World) (ps pn pw : Nat) (S : DS) (n : Int) (f : Int) (hf : amongE S n (S.pages : Nat) = f) (hf0 : f ≠ 0) (hw : WfS S) :
    Calls Tryd.prog 22 #[.agg (rcs ps pn pw S), .int .i64 n] w fun e w' => e = .returned (.tuple #[.slice none 0 0, .int .i64 f]) ∧ Below w.heap.size w w' := by
  have hp1 := hw.p1
  have hp2 := hw.p2
  clear hw
  unfold amongE at hf
  by_cases hd : S.down = true
  · rw [if_pos hd] at hf
    subst hf
    clear hf0
    go_enter Tryd.func22, Tryd.ntmps22
    go_wp2_with (refine wpList_box_rt rfl (.tmp 0) rfl (rcs ps pn pw S) (by rfl) ?_; intro g w1 hg1 hr1 hb1; have k5 := (rcs_cell hr1 5).trans (show _ = some (.bool true) by simp [rcs, hd]))
    go_ret2
    exact ⟨rfl, hb1⟩
  · rw [if_neg hd] at hf
    have hdf : S.down = false := by cases hq : S.down <;> simp_all
    by_cases hr : n < 0 ∨ (S.pages : Int) ≤ n
    · rw [if_pos hr] at hf
      subst hf
      by_cases h1 : n < 0
      · clear hr hd hf0
        go_enter Tryd.func22, Tryd.ntmps22
        go_wp2_with (refine wpList_box_rt rfl (.tmp 0) rfl (rcs ps pn pw S) (by rfl) ?_; intro g w1 hg1 hr1 hb1; have k5 := (rcs_cell hr1 5).trans (show _ = some (.bool false) by simp [rcs, hdf]); clear hdf)
        go_ret2
        exact ⟨rfl, hb1⟩
      · have h2 : (S.pages : Int) ≤ n := by omega
        have h3 : decide (n < 0) = false := by simpa using h1
        clear hr hd hf0 h1
        go_enter Tryd.func22, Tryd.ntmps22
        go_wp2_with (refine wpList_box_rt rfl (.tmp 0) rfl (rcs ps pn pw S) (by rfl) ?_; intro g w1 hg1 hr1 hb1; have k5 := (rcs_cell hr1 5).trans (show _ = some (.bool false) by simp [rcs, hdf]); have k0 := (rcs_cell hr1 0).trans (show _ = some (.int .i64 (S.pages : Int)) by simp [rcs]); clear hdf)
        go_ret2
        exact ⟨rfl, hb1⟩
    · rw [if_neg hr] at hf; exact absurd hf.symm hf0
/-- New bytes behind a call of the document's. -/
def NewOwn (w : World) (l : List Nat) (x : Value) (e : Ending) (w' : World) : Prop := ∃ v, e = .returned (.tuple #[v, x]) ∧ w'.ownsRow w.heap.size U8 1 v l.length (bv l) ∧ Below w.heap.size w w'
theorem pgL_lenW {S : DS} (h : WfS S) (n : Nat) : ∀ k, (pgL S n k).length = 64 * k
  | 0 => rfl
  | k + 1 => by rw [pgL, List.length_append, pgL_lenW h n k, h.rd]; omega
set_option maxRecDepth 100000 in
set_option maxHeartbeats 1000000 in
theorem rreadPage_ok (w : World) (ps pn pw : Nat) (S : DS) (n : Nat) (hf : amongE S n (S.pages : Nat) = 0) (hw : WfS S) (h : RefV w ps pn pw S) :
    Calls Tryd.prog 22 #[.agg (rcs ps pn pw S), .int .i64 (n : Int)] w (NewOwn w (pgL S n 8) (.int .i64 0)) := by
  have hp1 := hw.p1
  have hp2 := hw.p2
  obtain ⟨hd, hnM⟩ : S.down = false ∧ n < S.pages := by
    rcases among_ne S n (S.pages : Int) with ⟨_, h2, _, h4⟩ | he | he
    · exact ⟨h2, by omega⟩
    · rw [he] at hf; cases hf
    · rw [he] at hf; cases hf
  have hni : (n : Int) < (S.pages : Int) := by omega
  have d1 : decide (S.pages ≤ n) = false := by simp; omega
  have d2 : decide ((n : Int) < 0) = false := by simp
  have HX := Lib.hid (And.intro hw (And.intro h hd))
  clear hf hw h hd
  go_enter Tryd.func22, Tryd.ntmps22
  go_wp2_with (refine wpList_box_rt rfl (.tmp 0) rfl (rcs ps pn pw S) (by rfl) ?_; intro g w1 hg1 hr1 hb1; have k5 := (rcs_cell hr1 5).trans (show _ = some (.bool false) by simp [rcs, HX.out.2.2]); have k0 := (rcs_cell hr1 0).trans (show _ = some (.int .i64 (S.pages : Int)) by simp [rcs]))
  have hg1l : g < w1.heap.size := (Array.getElem?_eq_some_iff.1 hr1).1
  have hown : Hid (w1.ownsRow w1.heap.size U8 1 (.slice none 0 0) (pgL S n 0).length (bv (pgL S n 0))) := ⟨rfl, .inl ⟨rfl, rfl⟩⟩
  have hbw : Hid (Below w1.heap.size w1 w1) := Below.refl _ _
  have HB := Lib.hid (And.intro hb1 (And.intro hr1 hg1l))
  clear hb1 hr1 k5 k0 hg1 hg1l
  go_loopw [6, 7] (fun v i wr => ∃ k : Nat, k ≤ 8 ∧ i = .int .i64 k ∧ Hid (wr.ownsRow w1.heap.size U8 1 v (pgL S n k).length (bv (pgL S n k))) ∧ Hid (Below w1.heap.size w1 wr)) (fun _ i _ => 8 - (intOf i).toNat)
  case atStart => exact ⟨0, Nat.zero_le _, rfl, hown, hbw⟩
  case round =>
    clear hown hbw
    obtain ⟨k, hk, rfl, ho, hbl⟩ := hrel
    by_cases hlt : k < 8
    · obtain ⟨q, hq⟩ : ∃ q, q = 8 * n + k := ⟨_, rfl⟩
      have e1 : 8 * (n : Int) + (k : Int) = (q : Int) := by omega
      have hqM : q < 8 * S.pages := by omega
      have hqI : (q : Int) < 8 * (S.pages : Int) := by omega
      have hcs : Cs wr pn (q * 64) (rd S q) := ((flat_cs HX.out.1.rd HX.out.2.1.now hqM).below (HB.out.1.trans (hbl.out.mono HB.out.1.size)) HX.out.2.1.now.lt)
      have hsrc : Src wr (some ⟨pn, q * 64, none⟩) (rd S q) := fun _ => ⟨_, _, rfl, hcs⟩
      have hl := HX.out.1.rd q
      have k2 : wr.cell? ⟨g, 2, none⟩ = some (.slice (some ⟨pn, 0, none⟩) (8 * S.pages) (8 * S.pages)) := by
        rw [hbl.out.cell (p := ⟨g, 2, none⟩) HB.out.2.2]; exact rcs_cell HB.out.2.1 2
      have hpl := pgL_lenW HX.out.1 n k
      have hpn : pgL S n (k + 1) = pgL S n k ++ rd S q := by rw [pgL, hq]
      have HY := Lib.hid (And.intro hsrc (And.intro hl (And.intro hpl hpn)))
      generalize rd S q = L at *
      generalize pgL S n k = P at *
      clear hcs hsrc hl hpl hpn hq
      go_wp2_with (refine wpList_append_bytes rfl (.tmp 22) (.tmp 30) BT rfl w1.heap.size U8 Tryd.underlying26 (by kernel_rfl) u6 P (by rfl) ho (some ⟨pn, q * 64, none⟩) 64 L (by rw [HY.out.2.1]; rfl) (fun h => by cases h) HY.out.1 (by rw [HY.out.2.1, HY.out.2.2.1]; omega) hbl.out.size ?_; intro v' w2 hown2 hgrow2 hnear2)
      have hb2 : Hid (Below w1.heap.size w1 w2) := hbl.out.grown hgrow2.out hbl.out.size (own_lt ho.out)
      have ho2 : Hid (w2.ownsRow w1.heap.size U8 1 v' (pgL S n (k + 1)).length (bv (pgL S n (k + 1)))) := by rw [HY.out.2.2.2]; exact hown2.out
      clear hown2 hgrow2 hnear2 HY ho hbl e1 k2 hqI
      go_roundw
      case rel => exact ⟨k + 1, by omega, by go_num, ho2, hb2⟩
      case measure => simp [intOf]; omega
    · obtain rfl : k = 8 := by omega
      have hfin : wr.ownsRow w.heap.size U8 1 u6 (pgL S n 8).length (bv (pgL S n 8)) ∧ Below w.heap.size w wr := by
        refine ⟨⟨ho.out.1, ?_⟩, HB.out.1.trans (hbl.out.mono HB.out.1.size)⟩
        rcases ho.out.2 with h1 | ⟨g9, cap, cur, e, hbg, rest⟩
        · exact .inl h1
        · exact .inr ⟨g9, cap, cur, e, Nat.le_trans HB.out.1.size hbg, rest⟩
      have Hf := Lib.hid hfin
      clear hfin ho hbl
      go_wp2
      go_ret2
      exact ⟨_, rfl, Hf.out.1, Hf.out.2⟩
end Go.Proofs.YtbkjaifpgknadaaDoor
