/-
  ReadPage.
-/
import Derived.Test.YtbkjaifpgknadaaDoorDev5
import Derived.Laws.CopyRow
namespace Go.Proofs.YtbkjaifpgknadaaDoor
open Go Go.RowKit Go.Maps

abbrev U8 : TypeId := 5
abbrev BT : TypeId := 26
/-- The first sectors of a page, one behind the other. -/
def pgL (S : DS) (n : Nat) : Nat → List Nat
  | 0 => []
  | k + 1 => pgL S n k ++ rd S (8 * n + k)
def pgRow (S : DS) (n k : Nat) : List Nat := pgL S n k ++ List.replicate (512 - 64 * k) 0
theorem pgL_len {w : World} {bd bs bw : Nat} {S : DS} (h : Dev w bd bs bw S) (n : Nat) : ∀ k, (pgL S n k).length = 64 * k
  | 0 => rfl
  | k + 1 => by rw [pgL, List.length_append, pgL_len h n k, rd_len h]; omega
theorem pgRow_len {w : World} {bd bs bw : Nat} {S : DS} (h : Dev w bd bs bw S) (n k : Nat) (hk : k ≤ 8) : (pgRow S n k).length = 512 := by
  rw [pgRow, List.length_append, pgL_len h, List.length_replicate]; omega
theorem splice_end {α : Type} (A X : List α) (m : Nat) (z : α) : splice (A ++ List.replicate m z) A.length X = (A ++ X) ++ List.replicate (m - X.length) z := by
  unfold splice
  rw [List.take_left, List.append_assoc]
  congr 2
  rw [← List.drop_drop, List.drop_left, List.drop_replicate]
theorem pgRow_splice {w : World} {bd bs bw : Nat} {S : DS} (h : Dev w bd bs bw S) (n k : Nat)   : splice (pgRow S n k) (64 * k) (rd S (8 * n + k)) = pgRow S n (k + 1) := by
  unfold pgRow
  have h1 := splice_end (pgL S n k) (rd S (8 * n + k)) (512 - 64 * k) 0
  rw [pgL_len h] at h1
  rw [h1, rd_len h, pgL, show 512 - 64 * k - 64 = 512 - 64 * (k + 1) by omega]
theorem plc_two (n k : Nat) (hk : k < 8) : plc (8 * n + k) = .agg #[.int .i64 (n : Int), .int .i64 (k : Int)] := by
  unfold plc
  rw [show (8 * n + k) / 8 = n by omega, show (8 * n + k) % 8 = k by omega]
section
variable {ops : Array Oper} {rest : List Oper} {o : Oper} {a : Act} {w : World} {K : Act → World → Prop} {Q : Exit → Act → World → Prop}
/-- A sector copied into a row of bytes. -/
theorem wp_copy_sec (d s : Operand) (ho : o.op = .call { callee := .builtin .copy, args := #[d, s], argTypes := #[BT, BT] }) (g off dLen dCap gb sCap : Nat) (cur l : List Nat)
    (hd : a.eval d = .slice (some ⟨g, off, none⟩) dLen dCap) (hs : a.eval s = .slice (some ⟨gb, 0, none⟩) 64 sCap) (hrow : Row w g U8 cur) (hsrc : Row w gb ST l) (hl : l.length = 64) (hfit : off + 64 ≤ cur.length) (hlen : 64 ≤ dLen)
    (h : ∀ w', Row w' g U8 (splice cur off l) → Turn (fun i => i = g) w w' → K (a.put o.dst (.int .i64 64)) w') : o.wp Tryd.prog a w K Q := by
  have hc : ∀ j v, (bv l)[j]? = some v → w.cell? ((⟨gb, 0, none⟩ : Addr).add j) = some v := fun j v hv => by
    have hj : j < l.length := by
      have := (List.getElem?_eq_some_iff.1 hv).1
      rwa [bv_length] at this
    rw [bv_get l j hj] at hv
    rw [addr_add, Nat.zero_add, hsrc.cell j hj]
    exact hv
  have hr := run_copy_row (P := Tryd.prog) w BT BT o.type U8 g off dLen dCap ⟨gb, 0, none⟩ 64 sCap _ _ (bv l) Tryd.underlying26 (by kernel_rfl) hrow (by rw [bv_length, hl]; exact (Nat.min_eq_left hlen).symm) hc (by simp [bv_length]; omega) (bv_one l)
  have hk := h (w.setRow g ((bv cur).toArray.toList.take off ++ bv l ++ (bv cur).toArray.toList.drop (off + (bv l).length)).toArray) (by
    have := setRow_heap w g _ ((bv cur).toArray.toList.take off ++ bv l ++ (bv cur).toArray.toList.drop (off + (bv l).length)).toArray _ _ hrow
    unfold Row
    rw [this, ← bv_splice]
    simp [splice]) ⟨rfl, rfl, rfl, by simp, fun i _ hne => setRow_other w g i _ hne⟩
  rw [bv_length, hl] at hr
  rw [bv_length, hl] at hk
  unfold Oper.wp
  simp [execOp, ho, resolve, invoke, builtin, hd, hs, hr, Result.andThen, goInt]
  rw [Oper.upon_value]
  simpa using hk
end
theorem readPage_bad (w : World) (bd bs bw : Nat) (S : DS) (n : Int) (f : Int) (hf : amongE S n (S.pages : Nat) = f) (hf0 : f ≠ 0) (h : Dev w bd bs bw S) :
    Calls Tryd.prog 21 #[.pointer (some ⟨bd, 0, none⟩), .int .i64 n] w fun e w' => e = .returned (.tuple #[.slice none 0 0, errV f]) ∧ w = w' := by
  have hpg := pages_any w bd bs bw S h
  have ham := among_any w bd bs bw S n (S.pages : Int) h
  rw [hf, errV_ne hf0] at ham
  rw [errV_ne hf0]
  have HP := Lib.hid (And.intro hpg ham)
  clear hpg ham h hf
  go_enter Tryd.func21, Tryd.ntmps21
  go_wp2_with fail
  refine HP.out.1.mono ?_; rintro e w' ⟨rfl, rfl⟩
  go_wp2_with fail
  refine HP.out.2.mono ?_; rintro e w' ⟨rfl, rfl⟩
  go_wp2_with fail
  go_ret2
  exact ⟨rfl, rfl⟩
/-- A new row of bytes behind a call. -/
def NewBytes (w : World) (l : List Nat) (x : Value) (e : Ending) (w' : World) : Prop := ∃ g, w.heap.size ≤ g ∧ e = .returned (.tuple #[.slice (some ⟨g, 0, none⟩) l.length l.length, x]) ∧ Row w' g U8 l ∧ Below w.heap.size w w'
set_option maxRecDepth 100000 in
theorem readPage_ok (w : World) (bd bs bw : Nat) (S : DS) (n : Nat) (hf : amongE S n (S.pages : Nat) = 0) (h : Dev w bd bs bw S) :
    Calls Tryd.prog 21 #[.pointer (some ⟨bd, 0, none⟩), .int .i64 (n : Int)] w (NewBytes w (pgL S n 8) .nilIface) := by
  have hp2 := h.p2
  have hpg := pages_any w bd bs bw S h
  have ham := among_any w bd bs bw S n (S.pages : Int) h
  have hnM : n < S.pages := by
    rcases among_ne S n (S.pages : Int) with ⟨_, _, _, h4⟩ | he | he
    · omega
    · rw [he] at hf; cases hf
    · rw [he] at hf; cases hf
  rw [hf, errV_zero] at ham
  have hn1 : n ≤ 1023 := by omega
  have HP := Lib.hid (And.intro hpg (And.intro ham h))
  have Hn := Lib.hid hnM
  clear hpg ham h hf hnM hp2
  go_enter Tryd.func21, Tryd.ntmps21
  go_wp2_with fail
  refine HP.out.1.mono ?_; rintro e w' ⟨rfl, rfl⟩
  go_wp2_with fail
  refine HP.out.2.1.mono ?_; rintro e w' ⟨rfl, rfl⟩
  go_wp2_with (refine wpList_make_bytes rfl (.const (.int .i64 512)) (.const (.int .i64 512)) BT rfl U8 Tryd.underlying26 (by kernel_rfl) .i64 .i64 512 512 512 (by rfl) (by rfl) rfl rfl (by omega) ?_; intro w1 hr1 hb1)
  obtain ⟨G, hG⟩ : ∃ G, G = w.heap.size := ⟨_, rfl⟩
  rw [← hG] at hr1 ⊢
  have hr0 : Hid (Row w1 G U8 (pgRow S n 0)) := hr1
  have hb0 : Hid (Below w.heap.size w w1) := hb1
  have hGl : w.heap.size ≤ G := by omega
  clear hr1 hb1 hG
  go_loopw [19] (fun i wr => ∃ k : Nat, k ≤ 8 ∧ i = .int .i64 k ∧ Hid (Row wr G U8 (pgRow S n k)) ∧ Hid (Below w.heap.size w wr)) (fun i _ => 8 - (intOf i).toNat)
  case atStart => exact ⟨0, Nat.zero_le _, rfl, hr0, hb0⟩
  case round =>
    obtain ⟨k, hk, rfl, hrow, hbel⟩ := hrel
    by_cases hlt : k < 8
    · have hD := HP.out.2.2.below hbel.out
      have hat := at_any wr bd bs bw S (8 * n + k) (by have := Hn.out; omega) hD
      rw [plc_two n k hlt] at hat
      have hl := rd_len hD (8 * n + k)
      have hsp := pgRow_splice hD n k
      have hcl := pgRow_len hD n k hk
      have e1 : IntKind.i64.wrap ((k : Int) * 64) = ((64 * k : Nat) : Int) := by rw [IntWalk.i64_in _ (by omega)]; omega
      obtain ⟨q, hq⟩ : ∃ q, q = 64 * k := ⟨_, rfl⟩
      rw [← hq] at e1 hsp
      have hq1 : q ≤ 448 := by omega
      have HX := Lib.hid (And.intro hat (And.intro hl (And.intro hsp (And.intro hcl hbel.out.size))))
      have Hq := Lib.hid hq
      generalize rd S (8 * n + k) = L at *
      clear hat hl hsp hcl hq hD
      go_wp2_with fail
      refine HX.out.1.mono ?_; rintro e w2 ⟨rfl, hb2⟩
      have hrow2 : Row w2 G U8 (pgRow S n k) := Row.ext hrow.out hb2
      have hb2' : Below w.heap.size w w2 := hbel.out.trans (hb2.mono hbel.out.size)
      clear hrow hbel hb2
      go_wp2_with (first
        | (refine wpList_alloc_sec rfl rfl ?_; intro gb w3 hg3 hr3 hb3)
        | (refine wpList_store_sec rfl (.tmp 9) (.tmp 26) rfl gb L zeros (by rfl) (by rfl) hr3 HX.out.2.1 zeros_len ?_; intro w4 hr4 ht4 hs4))
      go_frame
      have hlt2 := hrow2.lt
      have hrow3 := Row.ext hrow2 hb3
      have hgG : G ≠ gb := by omega
      have hrow4 : Row w4 G U8 (pgRow S n k) := ht4.hg hrow3 hgG
      have hb4 : Below w.heap.size w w4 := (hb2'.trans (hb3.mono hb2'.size)).trans (ht4.below (Nat.le_trans hb2'.size hb3.size) (fun i hi => by rw [hi]; exact Nat.le_trans hb2'.size hg3))
      clear hrow2 hb2' hlt2 hrow3 ht4 hb3 hr3 hg3
      refine wp_region_gt (F := fun i => i = G) [(0, true), (1, true), (2, true), (3, true), (4, true), (5, false)] (by kernel_rfl) (by kernel_rfl) (by kernel_rfl) (by kernel_rfl) (fun _ _ _ _ _ h => h) ?_
      have hbd : Below w4.heap.size w4 w4.drew := Ext.drew w4
      have hrow5 := Row.ext hrow4 hbd
      have hr5 := Row.ext hr4 hbd
      have hb5 : Below w.heap.size w w4.drew := hb4.trans (hbd.mono hb4.size)
      clear hbd hrow4 hr4 hb4
      generalize w4.drew = w5 at *
      have q1 : (q : Int) ≤ 512 := by omega
      have q2 : ¬ 512 = q := by omega
      iterate 5 (refine wpGt_read (o := ⟨_, _, _, _, _, _⟩) (v := ?_) rfl (by rfl) ?_ ?_; rotate_left; (intro w' hw'; go_simp; with_reducible rfl); simp only [Act.put, List.setIfInBounds_toArray, List.set_cons_zero, List.set_cons_succ])
      clear q1 q2
      refine wpGt_call (o := ⟨_, _, _, _, _, _⟩) rfl (by rfl) (fun K hK => ?_)
      refine wp_copy_sec (.tmp 30) (.tmp 31) rfl G q (512 - q) (512 - q) gb 64 (pgRow S n k) L (by rfl) (by rfl) hrow5 hr5 HX.out.2.1 (by rw [HX.out.2.2.2.1]; omega) (by omega) ?_
      intro w6 hr6 ht6
      refine hK _ _ ht6 ?_
      clear hK K
      simp only [Act.put, List.setIfInBounds_toArray, List.set_cons_zero, List.set_cons_succ]
      refine wpGt_done ?_
      rw [HX.out.2.2.1] at hr6
      have hrow6 : Hid (Row w6 G U8 (pgRow S n (k + 1))) := hr6
      have hb6 : Hid (Below w.heap.size w w6) := hb5.trans (ht6.below hb5.size (fun i hi => by rw [hi]; exact hGl))
      clear hr6 ht6 hb5 hr5 hrow5
      go_wp2
      go_roundw
      case rel => exact ⟨k + 1, by omega, by go_num, hrow6, hb6⟩
      case measure => simp [intOf]; omega
    · obtain rfl : k = 8 := by omega
      have hrow8 : Row wr G U8 (pgL S n 8) := by
        have := hrow.out
        unfold pgRow at this
        simpa using this
      have hlen : (pgL S n 8).length = 512 := pgL_len HP.out.2.2 n 8
      have hfin : NewBytes w (pgL S n 8) .nilIface (.returned (.tuple #[.slice (some ⟨G, 0, none⟩) 512 512, .nilIface])) wr := ⟨G, hGl, by rw [hlen], hrow8, hbel.out⟩
      have Hf := Lib.hid hfin
      clear hfin hlen hrow8 hrow hbel hr0 hb0
      go_wp2
      go_ret2
      exact Hf.out
end Go.Proofs.YtbkjaifpgknadaaDoor
