/-
  What the law PlanFew stands on.
-/
import Derived.Test.YtdgladhfibfdlaaGreatDoorQPlanFew06
import Derived.Test.YtdgladhfibfdlaaGreatDoorQPlanFew07
import Derived.Test.YtdgladhfibfdlaaGreatDoorQPlanFew05
import Derived.Test.YtdgladhfibfdlaaGreatDoorQPlanFew08
import Derived.Test.YtdgladhfibfdlaaGreatDoorQPlanFew01
import Derived.Test.YtdgladhfibfdlaaGreatDoorQPlanFew09
import Derived.Test.YtdgladhfibfdlaaGreatDoorProg
import Derived.Test.YtdgladhfibfdlaaGreatDoorQPlanFew04
import Derived.Laws.Rows
import Derived.Laws.Tables
import Derived.Laws.StructEq
import Derived.WalkKit
import Derived.Lib.Hide
namespace Go.Proofs.YtdgladhfibfdlaaGreatDoor
open Go Go.RowKit
def cutS (V : ByteArray) (k : Nat) : ByteArray := V.extract (502 * k) (min (502 * k + 502) V.size)
def nP (n : Nat) : Nat := (n + 501) / 502
def pcT (V : ByteArray) (k : Nat) : List ByteArray := (List.range k).map (cutS V)
def chs (V : ByteArray) : List ByteArray := pcT V (nP V.size)
theorem pcT_succ (V : ByteArray) (k : Nat) : pcT V (k + 1) = pcT V k ++ [cutS V k] := by simp [pcT, List.range_succ]
theorem pcT_len (V : ByteArray) (k : Nat) : (pcT V k).length = k := by simp [pcT]
theorem chs_len (V : ByteArray) : (chs V).length = nP V.size := pcT_len V _
theorem sa_pcT (V : ByteArray) (k i : Nat) (h : i < k) : sa (pcT V k) i = cutS V i := by
  unfold sa pcT; simp [List.getD, h]
theorem nP_lt {n k : Nat} : k < nP n ↔ 502 * k < n := by unfold nP; omega
theorem cut_size (V : ByteArray) (k : Nat) : (cutS V k).size = min (502 * k + 502) V.size - 502 * k := by
  unfold cutS; rw [ByteArray.size_extract]; omega
theorem cut_some {V : ByteArray} {k : Nat} (h : k < nP V.size) : 1 ≤ (cutS V k).size ∧ (cutS V k).size ≤ 502 := by
  have := nP_lt.1 h
  rw [cut_size]; omega
def nextB (p : Int) : Bool := decide (p = 0) || decide (2 ≤ p) && decide (p < 1024)
def sizeB (n : Int) : Bool := decide (1 ≤ n) && decide (n ≤ 502)
def chOk (p : Int) (V : ByteArray) : Bool := nextB p && sizeB V.size
def chE (p : Int) (V : ByteArray) : Int := if chOk p V then 0 else 1
def chB (p : Int) (V : ByteArray) : List Nat := if chOk p V then beL p.toNat 2 ++ bn V else []
def chP (l : List Nat) : Nat := numL (l.take 2)
def dcOk (l : List Nat) : Bool := sizeB ((l.length : Int) - 2) && nextB (chP l)
def dcN (l : List Nat) : Int := if dcOk l then (chP l : Int) else 0
def dcV (l : List Nat) : ByteArray := if dcOk l then bstr (l.drop 2) else ByteArray.empty
def dcE (l : List Nat) : Int := if dcOk l then 0 else 3
def cntS (x : Int) : Int := if x < 1 then 0 else (x - 1) / 502 + 1
theorem cnt_np (n : Nat) : cntS n = (nP n : Int) := by
  unfold cntS nP
  rcases Nat.eq_zero_or_pos n with rfl | h
  · rfl
  · rw [if_neg (by omega)]; omega
end Go.Proofs.YtdgladhfibfdlaaGreatDoor
namespace Go.Proofs.YtdgladhfibfdlaaGreatDoor
open Go.RowKit
section
variable (P : List (List Nat))
def pieceBad (k : Nat) (b : List Nat) (s : ByteArray) (long : Int) : Prop := k ≠ 3 ∨ dcE b ≠ 0 ∨ long < (s ++ dcV b).size ∨ (dcN b ≠ 0 ∧ (dcV b).size < 502)
instance (k : Nat) (b : List Nat) (s : ByteArray) (long : Int) : Decidable (pieceBad k b s long) := by unfold pieceBad; infer_instance
end
end Go.Proofs.YtdgladhfibfdlaaGreatDoor
namespace Go.Proofs.YtdgladhfibfdlaaGreatDoor
open Go Go.RowKit
abbrev TS : TypeId := 32
theorem Blk.word {w : World} {b : Nat} {t : TypeId} {f : Nat → Bool} (h : Blk w b t (sc f)) (i : Nat) (hi : i < 16) : w.cell? ⟨b, i, none⟩ = some (.int .u64 (wd f i : Nat)) := by rw [h.cell, sc_get f i hi]
def ArrT (t : TypeId) (n : Nat) : Prop := (∃ e, Tryz.prog.underlying t = some (.array n e)) ∧ (Tryz.prog.info? t).map (·.size) = some n
theorem arr_TS : ArrT TS 16 := ⟨⟨_, Tryz.underlying32⟩, by kernel_rfl⟩
theorem sc_one (f : Nat → Bool) : (sc f).all (·.oneCell') = true := by
  rw [Array.all_eq_true_iff_forall_mem]
  intro u hu
  simp only [sc, List.mem_toArray, List.mem_map] at hu
  obtain ⟨k, _, rfl⟩ := hu
  rfl
theorem arrz_TS : ArrZ TS (sc (fun _ => false)) := fun w => by kernel_rfl
theorem run_load_arr {t t2 : TypeId} {n : Nat} (hT : ArrT t n) (w : World) (g : Nat) (cs : Array Value) (hg : Blk w g t2 cs) (hn : cs.size = n) : (loadVar t ⟨g, 0, none⟩).run Tryz.prog w = .ok (.agg cs) w := by
  obtain ⟨⟨e, hu⟩, hi⟩ := hT
  exact run_loadVar_row w g t2 t cs _ _ hg hu rfl (by rw [hi, hn])
section
variable {ops : Array Oper} {rest : List Oper} {o : Oper} {a : Act} {w : World} {K : Act → World → Prop} {Q : Exit → Act → World → Prop}
theorem rd_load_arr (t : TypeId) (x : Operand) (ho : o.op = .load t x) (g : Nat) (cs : Array Value) (t2 : TypeId) (hx : a.eval x = .pointer (some ⟨g, 0, none⟩)) {n : Nat} (hT : ArrT t n) (hg : Blk w g t2 cs) (hn : cs.size = n) :
    (execOp a.eval o).run Tryz.prog w = .ok (.value (.agg cs)) w := by
  unfold execOp
  simp only [ho, hx, Instr.loadAt, Instr.sureAddr, Sem.run_bind, Sem.run_pure, Result.andThen_ok, run_load_arr hT w g cs hg hn]
theorem rd_load_sc (t : TypeId) (x : Operand) (ho : o.op = .load t x) (g : Nat) (f : Nat → Bool) (t2 : TypeId) (hx : a.eval x = .pointer (some ⟨g, 0, none⟩)) (hT : ArrT t 16) (hg : Blk w g t2 (sc f)) :
    (execOp a.eval o).run Tryz.prog w = .ok (.value (.agg (sc f))) w := rd_load_arr t x ho g _ t2 hx hT hg (sc_size f)
theorem wp_store_arr (t : TypeId) (x y : Operand) (ho : o.op = .store t x y) (g : Nat) (cs old : Array Value) (t2 : TypeId) (hx : a.eval x = .pointer (some ⟨g, 0, none⟩)) (hy : a.eval y = .agg cs) {n : Nat} (hT : ArrT t n) (hg : Blk w g t2 old) (hn : cs.size = n) (hold : old.size = n) (h1 : cs.all (·.oneCell') = true)
    (h : ∀ w', Blk w' g t2 cs → Turn (fun i => i = g) w w' → w'.heap.size = w.heap.size → K (a.put o.dst undef) w') : o.wp Tryz.prog a w K Q := by
  have hk := h (w.setRow g cs) (setRow_heap w g _ _ _ _ hg) ⟨rfl, rfl, rfl, by simp, fun i _ hne => setRow_other w g i _ hne⟩ (by simp)
  exact wp_store_row t x y ho g cs hx hy t2 _ hg (by rw [hT.2, hn]) (by rw [hn, hold]) h1 hk
theorem wp_store_sc (t : TypeId) (x y : Operand) (ho : o.op = .store t x y) (g : Nat) (f f0 : Nat → Bool) (t2 : TypeId) (hx : a.eval x = .pointer (some ⟨g, 0, none⟩)) (hy : a.eval y = .agg (sc f)) (hT : ArrT t 16) (hg : Blk w g t2 (sc f0))
    (h : ∀ w', Blk w' g t2 (sc f) → Turn (fun i => i = g) w w' → w'.heap.size = w.heap.size → K (a.put o.dst undef) w') : o.wp Tryz.prog a w K Q :=
  wp_store_arr t x y ho g _ _ t2 hx hy hT hg (sc_size f) (sc_size f0) (sc_one f) h
theorem wpList_store_sc (hgd : o.guard = none) (t : TypeId) (x y : Operand) (ho : o.op = .store t x y) (g : Nat) (f f0 : Nat → Bool) (t2 : TypeId) (hx : a.eval x = .pointer (some ⟨g, 0, none⟩)) (hy : a.eval y = .agg (sc f)) (hT : ArrT t 16) (hg : Blk w g t2 (sc f0))
    (h : ∀ w', Blk w' g t2 (sc f) → Turn (fun i => i = g) w w' → w'.heap.size = w.heap.size → wpList Tryz.prog ops Q rest (a.put o.dst undef) w') : wpList Tryz.prog ops Q (o :: rest) a w :=
  wpList_plain hgd fun _ hK => wp_store_sc t x y ho g f f0 t2 hx hy hT hg fun w' h1 h2 h3 => hK _ _ (h w' h1 h2 h3)
theorem wpList_load_sc (hgd : o.guard = none) (t : TypeId) (x : Operand) (ho : o.op = .load t x) (g : Nat) (f : Nat → Bool) (t2 : TypeId) (hx : a.eval x = .pointer (some ⟨g, 0, none⟩)) (hT : ArrT t 16) (hg : Blk w g t2 (sc f))
    (h : wpList Tryz.prog ops Q rest (a.put o.dst (.agg (sc f))) w) : wpList Tryz.prog ops Q (o :: rest) a w := by
  obtain ⟨⟨e, hu⟩, hi⟩ := hT
  exact wpList_load_row hgd t x ho g hx t2 _ _ _ hg hu rfl (by rw [hi, sc_size]) h
end
theorem results_sc {fn : Func} {p : Tmp} {t t2 : TypeId} (hT : ArrT t 16) (h : fn.results = #[.cell p t]) (tmps : Array Value) (w : World) (g : Nat) (f : Nat → Bool) (hp : tmps.getD p undef = .pointer (some ⟨g, 0, none⟩)) (hg : Blk w g t2 (sc f)) :
    (results fn tmps).run Tryz.prog w = .ok (.agg (sc f)) w := by
  obtain ⟨⟨e, hu⟩, hi⟩ := hT
  exact results_cell_row h tmps w g t2 _ _ _ hp hg hu rfl (by rw [hi, sc_size])
end Go.Proofs.YtdgladhfibfdlaaGreatDoor
namespace Go.Proofs.YtdgladhfibfdlaaGreatDoor
open Go Go.RowKit
def inB (f : Nat → Bool) (x : Int) : Bool := decide (0 ≤ x) && (decide (x < 1024) && f x.toNat)
theorem inB_nat (f : Nat → Bool) (n : Nat) (h : n < 1024) : inB f n = f n := by
  have h1 : decide (0 ≤ (n : Int)) = true := decide_eq_true (by omega)
  have h2 : decide ((n : Int) < 1024) = true := decide_eq_true (by omega)
  rw [inB, h1, h2]; simp
theorem inB_out (f : Nat → Bool) (x : Int) (h : x < 0 ∨ 1024 ≤ x) : inB f x = false := by
  unfold inB
  rcases h with h | h
  · rw [decide_eq_false (by omega)]; rfl
  · rw [decide_eq_false (show ¬ x < 1024 by omega)]; simp
theorem may_yes (n : Nat) (w : World) (h : n < 1024) : Calls Tryz.prog 52 #[.int .i64 n] w fun e w' => e = .returned (.bool true) ∧ w = w' := by
  have h1 : (n : Int) < 1024 := by omega
  go_enter Tryz.func52, Tryz.ntmps52
  go_wp2
  go_ret
  exact ⟨rfl, rfl⟩
theorem may_no (x : Int) (w : World) (h : x < 0 ∨ 1024 ≤ x) : Calls Tryz.prog 52 #[.int .i64 x] w fun e w' => e = .returned (.bool false) ∧ w = w' := by
  by_cases h0 : x < 0
  · have h1 : decide (0 ≤ x) = false := decide_eq_false (by omega)
    clear h h0
    go_enter Tryz.func52, Tryz.ntmps52
    go_wp2
    go_ret
    exact ⟨rfl, rfl⟩
  · have h1 : decide (0 ≤ x) = true := decide_eq_true (by omega)
    have h2 : decide (x < 1024) = false := decide_eq_false (by omega)
    clear h h0
    go_enter Tryz.func52, Tryz.ntmps52
    go_wp2
    go_ret
    exact ⟨rfl, rfl⟩
theorem bit_any (n : Nat) (w : World) : Calls Tryz.prog 53 #[.int .i64 n] w fun e w' => e = .returned (.int .u64 (2 ^ (n % 64) : Nat)) ∧ w = w' := by
  have e1 : (n : Int).tmod 64 = ((n % 64 : Nat) : Int) := rfl
  have hk : n % 64 < 64 := by omega
  have e2 := wrap_pow (n % 64) hk
  generalize n % 64 = k at *
  have E2 := Lib.hid e2
  clear e2
  go_enter Tryz.func53, Tryz.ntmps53
  go_wp2
  go_ret
  exact ⟨by rw [← E2.out]; rfl, rfl⟩
theorem pow_lt64 (n : Nat) : 2 ^ (n % 64) < 18446744073709551616 := by
  have h : 2 ^ (n % 64) < 2 ^ 64 := Nat.pow_lt_pow_right (by decide) (by omega)
  have e : 2 ^ 64 = 18446744073709551616 := by decide
  omega
theorem and_bit (f : Nat → Bool) (n : Nat) : ∃ R : Nat, wd f (n / 64) &&& 2 ^ (n % 64) = R ∧ (((R : Int) == 0) = !f n) ∧ (((R : Int) != 0) = f n) := by
  refine ⟨_, rfl, ?_⟩
  have e := wd_bit f (n / 64) (n % 64) (by omega)
  rw [show 64 * (n / 64) + n % 64 = n by omega] at e
  rw [nat_bit, ← e, Nat.testBit_eq_decide_div_mod_eq]
  have hp : 0 < 2 ^ (n % 64) := Nat.pow_pos (by decide)
  generalize wd f (n / 64) / 2 ^ (n % 64) = u
  generalize 2 ^ (n % 64) = P at *
  rcases Nat.mod_two_eq_zero_or_one u with h | h
  · rw [h]; simp
  · rw [h]
    have h1 : (((1 * P : Nat) : Int) == 0) = false := by
      rw [beq_eq_false_iff_ne]
      omega
    exact ⟨by rw [h1]; rfl, by show (!(_ == _)) = _; rw [h1]; rfl⟩
theorem has_yes (f : Nat → Bool) (n : Nat) (w : World) (h : n < 1024) : Calls Tryz.prog 20 #[.agg (sc f), .int .i64 n] w fun e w' => e = .returned (.bool (f n)) ∧ Below w.heap.size w w' := by
  have e1 : (n : Int).tdiv 64 = ((n / 64 : Nat) : Int) := rfl
  have hq : n / 64 < 16 := by omega
  have hq2 : ((n / 64 : Nat) : Int) < 16 := by omega
  have q0 : (0 : Int) ≤ ((n / 64 : Nat) : Int) := by omega
  have qw : IntKind.i64.wrap ((n / 64 : Nat) : Int) = ((n / 64 : Nat) : Int) := by rw [IntKind.wrap_i64]; omega
  have hbit := bit_any n
  obtain ⟨R, hR, _, hR2⟩ := and_bit f n
  have hv := wd_lt f (n / 64)
  have hP := pow_lt64 n
  have hcell := fun (w1 : World) (g1 : Nat) (hk : Blk w1 g1 TS (sc f)) => hk.word (n / 64) hq
  generalize 2 ^ (n % 64) = P at *
  generalize wd f (n / 64) = v at *
  generalize n / 64 = q at *
  have e2 : bits .and .u64 (v : Int) (P : Int) = (R : Int) := by rw [u64_and_nat v P hv hP, hR]
  have Hbit := Lib.hid hbit
  have Hcell := Lib.hid hcell
  clear hbit hcell hR hv hP
  go_enter Tryz.func20, Tryz.ntmps20
  go_wp2_with (first | (refine wpList_box_arr rfl TS (.tmp 0) rfl (sc f) (by rfl) ?_; intro g1 w1 hg1 hk1 hb1))
  refine wp_region_gr [(0, true), (1, false), (2, true), (3, true), (4, true), (5, true), (6, true), (7, true), (8, false), (9, true), (10, true), (11, true), (12, true)] (by kernel_rfl) (by kernel_rfl) (by kernel_rfl) (by kernel_rfl) (fun _ _ _ _ _ h => h) ?_
  have hb2 : Below w.heap.size w w1.drew := hb1.drew
  have hk2 : Blk w1.drew g1 TS (sc f) := hk1
  clear hb1 hk1
  generalize w1.drew = w2 at *
  have hc : ∀ w', Ext w2 w' → w'.cell? ⟨g1, q, none⟩ = some (.int .u64 v) := fun w' he => Hcell.out w' g1 (hk2.ext he)
  have Hk := Lib.hid hk2
  have Hb := Lib.hid hb2
  clear hk2 hb2
  iterate 1 (refine wpGr_read (o := ⟨_, _, _, _, _, _⟩) (v := ?_) rfl (by rfl) ?_ ?_; rotate_left; (intro w' hw'; go_simp; with_reducible rfl); simp only [Act.put, List.setIfInBounds_toArray, List.set_cons_zero, List.set_cons_succ])
  refine wpGr_call (o := ⟨_, _, _, _, _, _⟩) rfl (by rfl) (fun K hK => ?_)
  go_simp
  refine (may_yes n w2 h).mono ?_
  rintro e w3 ⟨rfl, rfl⟩
  refine hK _ _ (Ext.refl _) ?_
  clear hK K
  iterate 6 (refine wpGr_read (o := ⟨_, _, _, _, _, _⟩) (v := ?_) rfl (by rfl) ?_ ?_; rotate_left; (intro w' hw'; go_simp; with_reducible rfl); simp only [Act.put, List.setIfInBounds_toArray, List.set_cons_zero, List.set_cons_succ])
  refine wpGr_call (o := ⟨_, _, _, _, _, _⟩) rfl (by rfl) (fun K hK => ?_)
  go_simp
  refine (Hbit.out w2).mono ?_
  rintro e w3 ⟨rfl, rfl⟩
  refine hK _ _ (Ext.refl _) ?_
  clear hK K
  iterate 4 (refine wpGr_read (o := ⟨_, _, _, _, _, _⟩) (v := ?_) rfl (by rfl) ?_ ?_; rotate_left; (intro w' hw'; go_simp; with_reducible rfl); simp only [Act.put, List.setIfInBounds_toArray, List.set_cons_zero, List.set_cons_succ])
  refine wpGr_done ?_
  go_wp2
  go_ret
  exact ⟨rfl, Hb.out⟩
theorem has_no (f : Nat → Bool) (x : Int) (w : World) (h : x < 0 ∨ 1024 ≤ x) : Calls Tryz.prog 20 #[.agg (sc f), .int .i64 x] w fun e w' => e = .returned (.bool false) ∧ Below w.heap.size w w' := by
  have Hmay := Lib.hid (fun w => may_no x w h)
  clear h
  go_enter Tryz.func20, Tryz.ntmps20
  go_wp2_with (first | (refine wpList_box_arr rfl TS (.tmp 0) rfl (sc f) (by rfl) ?_; intro g1 w1 hg1 hk1 hb1))
  refine wp_region_gr [(0, true), (1, false), (2, true), (3, true), (4, true), (5, true), (6, true), (7, true), (8, false), (9, true), (10, true), (11, true), (12, true)] (by kernel_rfl) (by kernel_rfl) (by kernel_rfl) (by kernel_rfl) (fun _ _ _ _ _ h => h) ?_
  have hb2 : Below w.heap.size w w1.drew := hb1.drew
  clear hb1 hk1
  generalize w1.drew = w2 at *
  have Hb := Lib.hid hb2
  clear hb2
  iterate 1 (refine wpGr_read (o := ⟨_, _, _, _, _, _⟩) (v := ?_) rfl (by rfl) ?_ ?_; rotate_left; (intro w' hw'; go_simp; with_reducible rfl); simp only [Act.put, List.setIfInBounds_toArray, List.set_cons_zero, List.set_cons_succ])
  refine wpGr_call (o := ⟨_, _, _, _, _, _⟩) rfl (by rfl) (fun K hK => ?_)
  go_simp
  refine (Hmay.out w2).mono ?_
  rintro e w3 ⟨rfl, rfl⟩
  refine hK _ _ (Ext.refl _) ?_
  clear hK K
  iterate 1 (refine wpGr_read (o := ⟨_, _, _, _, _, _⟩) (v := ?_) rfl (by rfl) ?_ ?_; rotate_left; (intro w' hw'; go_simp; with_reducible rfl); simp only [Act.put, List.setIfInBounds_toArray, List.set_cons_zero, List.set_cons_succ])
  iterate 5 (refine wpGr_skip (o := ⟨_, _, _, _, _, _⟩) rfl (by rfl) ?_; simp only [Act.put, List.setIfInBounds_toArray, List.set_cons_zero, List.set_cons_succ])
  refine wpGr_skipCall (o := ⟨_, _, _, _, _, _⟩) rfl (by rfl) ?_
  simp only [Act.put, List.setIfInBounds_toArray, List.set_cons_zero, List.set_cons_succ]
  iterate 2 (refine wpGr_skip (o := ⟨_, _, _, _, _, _⟩) rfl (by rfl) ?_; simp only [Act.put, List.setIfInBounds_toArray, List.set_cons_zero, List.set_cons_succ])
  iterate 2 (refine wpGr_read (o := ⟨_, _, _, _, _, _⟩) (v := ?_) rfl (by rfl) ?_ ?_; rotate_left; (intro w' hw'; go_simp; with_reducible rfl); simp only [Act.put, List.setIfInBounds_toArray, List.set_cons_zero, List.set_cons_succ])
  refine wpGr_done ?_
  go_wp2
  go_ret
  exact ⟨rfl, Hb.out⟩
theorem bhas_any (f : Nat → Bool) (x : Int) (w : World) : Calls Tryz.prog 20 #[.agg (sc f), .int .i64 x] w fun e w' => e = .returned (.bool (inB f x)) ∧ Below w.heap.size w w' := by
  by_cases h : x < 0 ∨ 1024 ≤ x
  · rw [inB_out f x h]; exact has_no f x w h
  · obtain ⟨n, rfl⟩ : ∃ n : Nat, x = (n : Int) := ⟨x.toNat, by omega⟩
    rw [inB_nat f n (by omega)]; exact has_yes f n w (by omega)
end Go.Proofs.YtdgladhfibfdlaaGreatDoor
namespace Go.Proofs.YtdgladhfibfdlaaGreatDoor
open Go Go.RowKit
def withR (f : Nat → Bool) (x : Int) (m : Nat) : Bool := f m || decide ((m : Int) = x)
theorem withR_out (f : Nat → Bool) (x : Int) (h : x < 0 ∨ 1024 ≤ x) : sc f = sc (withR f x) := sc_ext (fun m hm => by
  have : decide ((m : Int) = x) = false := decide_eq_false (by omega)
  unfold withR; rw [this]; simp)
theorem withR_put (f : Nat → Bool) (n : Nat) (h : n < 1024) (v P R : Nat) (hv : wd f (n / 64) = v) (hP : 2 ^ (n % 64) = P) (hR : v ||| P = R) :
    (sc f).setIfInBounds (n / 64) (.int .u64 (R : Nat)) = sc (withR f n) := by
  refine sc_put f _ (n / 64) R (by omega) ?_ (fun m hm hne => ?_)
  · have hp := pow_lt64 n
    rw [← hR, ← hv, ← hP]
    refine wd_of (Nat.or_lt_two_pow (n := 64) (wd_lt f _) hp) (fun i hi => ?_)
    rw [Nat.testBit_or, wd_bit f _ i hi, Nat.testBit_two_pow]
    have e : decide (n % 64 = i) = decide (((64 * (n / 64) + i : Nat) : Int) = (n : Int)) := by
      rw [Bool.eq_iff_iff, decide_eq_true_iff, decide_eq_true_iff]; omega
    unfold withR
    rw [e]
  · have : decide ((m : Int) = (n : Int)) = false := decide_eq_false (by omega)
    unfold withR; rw [this]; simp
set_option maxRecDepth 100000 in
theorem with_yes (f : Nat → Bool) (n : Nat) (w : World) (h : n < 1024) : Calls Tryz.prog 21 #[.agg (sc f), .int .i64 n] w fun e w' => e = .returned (.agg (sc (withR f n))) ∧ Below w.heap.size w w' := by
  have e1 : (n : Int).tdiv 64 = ((n / 64 : Nat) : Int) := rfl
  have hq : n / 64 < 16 := by omega
  have hq2 : ((n / 64 : Nat) : Int) < 16 := by omega
  have q0 : (0 : Int) ≤ ((n / 64 : Nat) : Int) := by omega
  have qw : IntKind.i64.wrap ((n / 64 : Nat) : Int) = ((n / 64 : Nat) : Int) := by rw [IntKind.wrap_i64]; omega
  have hbit := bit_any n
  have hv := wd_lt f (n / 64)
  have hP := pow_lt64 n
  have hcell := fun (w1 : World) (g1 : Nat) (hk : Blk w1 g1 TS (sc f)) => hk.word (n / 64) hq
  have hset := withR_put f n h
  have hmay := fun w => may_yes n w h
  have hblk := fun (w1 : World) (g1 : Nat) (hk : Blk w1 g1 TS (sc f)) (v : Value) => hk.set (n / 64) v
  obtain ⟨P, hPe⟩ : ∃ P, 2 ^ (n % 64) = P := ⟨_, rfl⟩
  obtain ⟨v, hve⟩ : ∃ v, wd f (n / 64) = v := ⟨_, rfl⟩
  obtain ⟨R, hR⟩ : ∃ R, v ||| P = R := ⟨_, rfl⟩
  have hset2 := hset v P R hve hPe hR
  rw [hPe] at hP hbit
  rw [hve] at hv hcell
  generalize n / 64 = q at *
  have e2 : bits .or .u64 (v : Int) (P : Int) = (R : Int) := by rw [u64_or_nat v P hv hP, hR]
  have Hbit := Lib.hid hbit
  have Hcell := Lib.hid hcell
  have Hset := Lib.hid hset2
  have Hmay := Lib.hid hmay
  have Hblk := Lib.hid hblk
  generalize withR f n = F at *
  clear hbit hcell hR hv hP hset hset2 hPe hve hmay h hblk
  go_enter Tryz.func21, Tryz.ntmps21
  go_wp2_with (first | (refine wpList_box_arr rfl TS (.tmp 0) rfl (sc f) (by rfl) ?_; intro g1 w1 hg1 hk1 hb1) | (refine wpList_alloc_arr rfl TS rfl arrz_TS ?_; intro g2 w2 hg2 hk2 hb2))
  have Hg : Hid (w.heap.size ≤ g1 ∧ w.heap.size ≤ g2 ∧ g1 ≠ g2) := ⟨hg1, Nat.le_trans hb1.size hg2, by have := hk1.lt; omega⟩
  have Hb : Hid (Below w.heap.size w w2) := hb1.trans (hb2.mono hb1.size)
  have Hk1 : Hid (Blk w2 g1 TS (sc f)) := hk1.ext hb2
  have Hk2 := Lib.hid hk2
  clear hg1 hg2 hb1 hb2 hk1 hk2
  refine (Hmay.out w2).mono ?_
  rintro e w3 ⟨rfl, rfl⟩
  go_wp2_with fail
  refine wp_region_gs (F := fun i => i = g1) (.rd 0 (.rd 1 (.rd 2 (.rd 4 (.two 3 (.call 5 (.rd 6 (.rd 7 (.call 8 .done)))) 5 (.call 3 (.rd 6 (.rd 7 (.call 8 .done))))))))) (by kernel_rfl) (by kernel_rfl) (by kernel_rfl) (by kernel_rfl) (fun _ _ _ _ _ h => h) ?_
  have HB : Hid (Below w.heap.size w w2.drew) := Hb.out.drew
  have HK1 : Hid (Blk w2.drew g1 TS (sc f)) := Hk1.out
  have HK2 : Hid (Blk w2.drew g2 TS (sc (fun _ => false))) := Hk2.out
  clear Hb Hk1 Hk2
  generalize w2.drew = w3 at *
  have c0 := Hcell.out w3 g1 HK1.out
  have f0 := HK1.out.fz q
  have HT : Hid (Turn (fun i => i = g1) w3 (w3.setCell ⟨g1, q, none⟩ (.int .u64 R))) := (Turn.refl _ _).setCell _ (fun _ => rfl)
  have HK1b : Hid (Blk (w3.setCell ⟨g1, q, none⟩ (.int .u64 R)) g1 TS (sc F)) := by
    rw [← Hset.out]; exact Hblk.out w3 g1 HK1.out _
  have HK2b : Hid (Blk (w3.setCell ⟨g1, q, none⟩ (.int .u64 R)) g2 TS (sc (fun _ => false))) := HK2.out.turn HT.out (fun h => Hg.out.2.2 h.symm)
  have HBb : Hid (Below w.heap.size w (w3.setCell ⟨g1, q, none⟩ (.int .u64 R))) := HB.out.setCell Hg.out.1 _
  clear HK1 HK2 HB
  iterate 4 (refine wpGs_read (o := ⟨_, _, _, _, _, _⟩) (v := ?_) rfl (by rfl) ?_ ?_; rotate_left; (intro w' hw'; go_simp; with_reducible rfl); simp only [Act.put, List.setIfInBounds_toArray, List.set_cons_zero, List.set_cons_succ])
  refine ⟨?_, ?_⟩
  · skip
    refine stepS_call (o := ⟨_, _, _, _, _, _⟩) rfl (by rfl) (fun K hK => ?_)
    go_simp
    refine hK _ _ (Turn.refl _ _) ?_
    clear hK K
    refine stepS_call (o := ⟨_, _, _, _, _, _⟩) rfl (by rfl) (fun K hK => ?_)
    go_simp
    refine (Hbit.out w3).mono ?_
    rintro e w4 ⟨rfl, rfl⟩
    refine hK _ _ (Turn.refl _ _) ?_
    clear hK K
    iterate 2 (refine wpGs_read (o := ⟨_, _, _, _, _, _⟩) (v := ?_) rfl (by rfl) ?_ ?_; rotate_left; (intro w' hw'; go_simp; with_reducible rfl); simp only [Act.put, List.setIfInBounds_toArray, List.set_cons_zero, List.set_cons_succ])
    refine stepS_call (o := ⟨_, _, _, _, _, _⟩) rfl (by rfl) (fun K hK => ?_)
    go_simp
    refine hK _ _ HT.out ?_
    clear hK K c0 f0 HT
    generalize w3.setCell ⟨g1, q, none⟩ (.int .u64 R) = w4 at *
    refine wpGs_done ?_
    go_wp2_with (first | (refine wpList_load_sc rfl TS (.tmp 2) rfl g1 F TS (by rfl) arr_TS HK1b.out ?_) | (refine wpList_store_sc rfl TS (.tmp 4) (.tmp 15) rfl g2 F _ TS (by rfl) (by rfl) arr_TS HK2b.out ?_; intro w5 hk5 ht5 _))
    refine bodyPost_ret (v := .agg (sc F)) ?_ rfl ?_
    · exact results_sc arr_TS rfl _ _ g2 F (by rfl) hk5
    · exact ⟨rfl, HBb.out.trans (ht5.below HBb.out.size (fun i hi => by subst hi; exact Hg.out.2.1))⟩
  · skip
    refine stepS_call (o := ⟨_, _, _, _, _, _⟩) rfl (by rfl) (fun K hK => ?_)
    go_simp
    refine (Hbit.out w3).mono ?_
    rintro e w4 ⟨rfl, rfl⟩
    refine hK _ _ (Turn.refl _ _) ?_
    clear hK K
    refine stepS_call (o := ⟨_, _, _, _, _, _⟩) rfl (by rfl) (fun K hK => ?_)
    go_simp
    refine hK _ _ (Turn.refl _ _) ?_
    clear hK K
    iterate 2 (refine wpGs_read (o := ⟨_, _, _, _, _, _⟩) (v := ?_) rfl (by rfl) ?_ ?_; rotate_left; (intro w' hw'; go_simp; with_reducible rfl); simp only [Act.put, List.setIfInBounds_toArray, List.set_cons_zero, List.set_cons_succ])
    refine stepS_call (o := ⟨_, _, _, _, _, _⟩) rfl (by rfl) (fun K hK => ?_)
    go_simp
    refine hK _ _ HT.out ?_
    clear hK K c0 f0 HT
    generalize w3.setCell ⟨g1, q, none⟩ (.int .u64 R) = w4 at *
    refine wpGs_done ?_
    go_wp2_with (first | (refine wpList_load_sc rfl TS (.tmp 2) rfl g1 F TS (by rfl) arr_TS HK1b.out ?_) | (refine wpList_store_sc rfl TS (.tmp 4) (.tmp 15) rfl g2 F _ TS (by rfl) (by rfl) arr_TS HK2b.out ?_; intro w5 hk5 ht5 _))
    refine bodyPost_ret (v := .agg (sc F)) ?_ rfl ?_
    · exact results_sc arr_TS rfl _ _ g2 F (by rfl) hk5
    · exact ⟨rfl, HBb.out.trans (ht5.below HBb.out.size (fun i hi => by subst hi; exact Hg.out.2.1))⟩
theorem with_no (f : Nat → Bool) (x : Int) (w : World) (h : x < 0 ∨ 1024 ≤ x) : Calls Tryz.prog 21 #[.agg (sc f), .int .i64 x] w fun e w' => e = .returned (.agg (sc f)) ∧ Below w.heap.size w w' := by
  have Hmay := Lib.hid (fun w => may_no x w h)
  clear h
  go_enter Tryz.func21, Tryz.ntmps21
  go_wp2_with (first | (refine wpList_box_arr rfl TS (.tmp 0) rfl (sc f) (by rfl) ?_; intro g1 w1 hg1 hk1 hb1) | (refine wpList_alloc_arr rfl TS rfl arrz_TS ?_; intro g2 w2 hg2 hk2 hb2))
  have Hg : Hid (w.heap.size ≤ g1 ∧ w.heap.size ≤ g2 ∧ g1 ≠ g2) := ⟨hg1, Nat.le_trans hb1.size hg2, by have := hk1.lt; omega⟩
  have Hb : Hid (Below w.heap.size w w2) := hb1.trans (hb2.mono hb1.size)
  have Hk1 : Hid (Blk w2 g1 TS (sc f)) := hk1.ext hb2
  have Hk2 := Lib.hid hk2
  clear hg1 hg2 hb1 hb2 hk1 hk2
  refine (Hmay.out w2).mono ?_
  rintro e w3 ⟨rfl, rfl⟩
  go_wp2_with (first | (refine wpList_load_sc rfl TS (.tmp 2) rfl g1 f TS (by rfl) arr_TS Hk1.out ?_) | (refine wpList_store_sc rfl TS (.tmp 4) (.tmp 15) rfl g2 f _ TS (by rfl) (by rfl) arr_TS Hk2.out ?_; intro w4 hk4 ht4 _))
  refine bodyPost_ret (v := .agg (sc f)) ?_ rfl ?_
  · exact results_sc arr_TS rfl _ _ g2 f (by rfl) hk4
  · exact ⟨rfl, Hb.out.trans (ht4.below Hb.out.size (fun i hi => by subst hi; exact Hg.out.2.1))⟩
theorem with_any (f : Nat → Bool) (x : Int) (w : World) : Calls Tryz.prog 21 #[.agg (sc f), .int .i64 x] w fun e w' => e = .returned (.agg (sc (withR f x))) ∧ Below w.heap.size w w' := by
  by_cases h : x < 0 ∨ 1024 ≤ x
  · rw [← withR_out f x h]; exact with_no f x w h
  · obtain ⟨n, rfl⟩ : ∃ n : Nat, x = (n : Int) := ⟨x.toNat, by omega⟩
    exact with_yes f n w (by omega)
end Go.Proofs.YtdgladhfibfdlaaGreatDoor
namespace Go.Proofs.YtdgladhfibfdlaaGreatDoor
open Go Go.RowKit
theorem run_index_sc (f : Nat → Bool) (k : Nat) (hk : k < 16) (w : World) : (Instr.index TS (.agg (sc f)) (.int .i64 k)).run Tryz.prog w = .ok (.int .u64 (wd f k : Nat)) w := by
  have hu := Tryz.underlying32
  have he := Tryz.underlying24
  have hsz : ∀ w, (sizeOf 24).run Tryz.prog w = .ok 1 w := fun w => by kernel_rfl
  have h2 : ¬ 16 ≤ k := by omega
  have hg : (sc f)[k]? = some (.int .u64 (wd f k : Nat)) := sc_get f k hk
  simp [Instr.index, run_underlying hu, asIntOf, part, isAgg, run_underlying he, hsz, h2, hg, Result.andThen]
section
variable {ops : Array Oper} {rest : List Oper} {o : Oper} {a : Act} {w : World} {Q : Exit → Act → World → Prop}
theorem wpList_index_sc (hgd : o.guard = none) (x y : Operand) (ho : o.op = .index TS x y) (f : Nat → Bool) (k : Nat) (hx : a.eval x = .agg (sc f)) (hy : a.eval y = .int .i64 k) (hk : k < 16)
    (h : wpList Tryz.prog ops Q rest (a.put o.dst (.int .u64 (wd f k : Nat))) w) : wpList Tryz.prog ops Q (o :: rest) a w := by
  refine wpList_plain hgd fun K hK => ?_
  have hk2 := hK _ _ h
  unfold Oper.wp execOp
  simp only [ho, hx, hy, Sem.run_bind, Sem.run_pure, Result.andThen_ok, run_index_sc f k hk]
  exact hk2
end
set_option maxRecDepth 100000 in
theorem bcount_any (f : Nat → Bool) (w : World) : Calls Tryz.prog 14 #[.agg (sc f)] w fun e w' => e = .returned (.int .i64 (cnt f 1024 : Nat)) ∧ Below w.heap.size w w' := by
  have Hp := Lib.hid (pop_wd f)
  go_enter Tryz.func14, Tryz.ntmps14
  go_wp2_with (first
    | (refine wpList_box_arr rfl TS (.tmp 0) rfl (sc f) (by rfl) ?_; intro g1 w1 hg1 hk1 hb1)
    | (refine wpList_load_sc rfl TS (.tmp 1) rfl g1 f TS (by rfl) arr_TS hk1 ?_))
  have Hb := Lib.hid hb1
  clear hg1 hb1 hk1
  go_loopw [3, 5, 7] (fun s _ i wr => ∃ k c : Nat, s = .int .i64 c ∧ i = .int .i64 k ∧ k ≤ 16 ∧ c ≤ 64 * k ∧ Hid (c = cnt f (64 * k)) ∧ Hid (Below w.heap.size w wr)) (fun _ _ i _ => 16 - (intOf i).toNat)
  case atStart => exact ⟨0, 0, rfl, rfl, by omega, by omega, rfl, Hb⟩
  case round =>
    obtain ⟨k, c, rfl, rfl, hk, hc, he, HB⟩ := hrel
    by_cases hlt : k < 16
    · have hlt2 : (k : Int) < 16 := by omega
      have h1 := ones_any (wd f k) wr (wd_lt f k)
      have h2 := Hp.out k
      rw [← he.out] at h2
      have h3 := pop_le64 (wd f k)
      generalize pop (wd f k) = p at *
      have H1 := Lib.hid h1
      have H2 := Lib.hid h2
      clear h1 h2 he
      go_wp2_with (first | (refine wpList_index_sc rfl (.tmp 6) (.tmp 7) rfl f k (by rfl) (by rfl) hlt ?_))
      refine H1.out.mono ?_
      rintro e w' ⟨rfl, rfl⟩
      go_wp2
      go_roundw
      case rel => exact ⟨k + 1, c + p, by go_num, by go_num, by omega, by omega, H2, HB⟩
      case measure => simp [intOf]; omega
    · obtain rfl : k = 16 := by omega
      go_wp2
      go_ret
      exact ⟨by rw [show 1024 = 64 * 16 from rfl, ← he.out]; rfl, HB.out⟩
end Go.Proofs.YtdgladhfibfdlaaGreatDoor
