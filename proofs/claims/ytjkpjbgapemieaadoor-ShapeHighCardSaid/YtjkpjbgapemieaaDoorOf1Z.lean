/-
  tree's Of.
-/
import Derived.Test.YtjkpjbgapemieaaDoorGrownZ
namespace Go.Proofs.YtjkpjbgapemieaaDoor
open Go Go.RowKit

/-- Entries put one behind the other: all of them, or none and the first error's number. -/
def ofT : List En → List En → List En × Nat
  | acc, [] => (acc, 0)
  | acc, x :: r => if tpF acc x.k x.v = 0 then ofT (tpL acc x.k x.v) r else ([], tpF acc x.k x.v)
theorem drop_ea (es : List En) (k : Nat) (h : k < es.length) : es.drop k = ea es k :: es.drop (k + 1) := by
  rw [List.drop_eq_getElem_cons h]
  congr 1
  unfold ea
  rw [List.getD_eq_getElem?_getD, List.getElem?_eq_getElem h]; rfl
theorem take_ea (es : List En) (k : Nat) (h : k < es.length) : es.take (k + 1) = es.take k ++ [ea es k] := by
  rw [List.take_add_one, List.getElem?_eq_getElem h]
  unfold ea
  rw [List.getD_eq_getElem?_getD, List.getElem?_eq_getElem h]; rfl
theorem ofT_go {acc es : List En} {k : Nat} (h : k < es.length) (h0 : tpF acc (ea es k).k (ea es k).v = 0) : ofT acc (es.drop k) = ofT (tpL acc (ea es k).k (ea es k).v) (es.drop (k + 1)) := by
  rw [drop_ea es k h]
  show (if _ = 0 then _ else _) = _
  rw [if_pos h0]
theorem ofT_no {acc es : List En} {k : Nat} (h : k < es.length) (h0 : ¬ tpF acc (ea es k).k (ea es k).v = 0) : ofT acc (es.drop k) = ([], tpF acc (ea es k).k (ea es k).v) := by
  rw [drop_ea es k h]
  show (if _ = 0 then _ else _) = _
  rw [if_neg h0]
theorem ofT_end (acc es : List En) (n : Nat) (h : es.length = n) : ofT acc (es.drop n) = (acc, 0) := by rw [← h, List.drop_length]; rfl
theorem ofT_len : ∀ (l acc : List En), (ofT acc l).1.length ≤ acc.length + l.length
  | [], acc => by show acc.length ≤ _; omega
  | x :: r, acc => by
    show (if _ = 0 then _ else _ : List En × Nat).1.length ≤ _
    split
    · have h1 := ofT_len r (tpL acc x.k x.v)
      have h2 := tpL_len acc x.k x.v
      simp only [List.length_cons]; omega
    · show 0 ≤ _; omega

/-- What stands between the rounds: the result's variable, the tree's variable. -/
structure Oft (w wr : World) (k : Nat) (es : List En) (p : Option Addr) (H : Nat) : Prop where
  t : TB wr (w.heap.size + 1) p es.length
  r : TB wr w.heap.size none 0
  tr : TreeP wr p es H
  n : es.length ≤ k
  b : Below w.heap.size w wr
theorem Oft.ext {w wr w6 : World} {k : Nat} {es : List En} {p : Option Addr} {H : Nat} (h : Oft w wr k es p H) (hb : Below wr.heap.size wr w6) : Oft w w6 k es p H :=
  ⟨h.t.ext hb, h.r.ext hb, h.tr.ext hb, h.n, h.b.trans (hb.mono h.b.size)⟩
theorem Oft.next {w wr : World} {k : Nat} {es es2 : List En} {p p2 : Option Addr} {H H2 : Nat} (h : Oft w wr k es p H) {w6 : World} (hb : Below wr.heap.size wr w6) (ht : TreeP w6 p2 es2 H2) (hn : es2.length ≤ k + 1) :
    Oft w ((w6.setCell ⟨w.heap.size + 1, 0, none⟩ (.pointer p2)).setCell ⟨w.heap.size + 1, 1, none⟩ (.int .i64 es2.length)) (k + 1) es2 p2 H2 := by
  have h6 := h.ext hb
  have t := turn_put w6 (w.heap.size + 1) (.pointer p2) (.int .i64 es2.length)
  have hF : TF w6 (fun i => i = w.heap.size + 1) := TF.one h6.t
  exact ⟨h6.t.put p2 _, h6.r.turn t (by omega), ht.turn t hF, hn, below_put (b := w.heap.size + 1) (u := .pointer p2) (v := .int .i64 es2.length) h6.b (by omega)⟩
set_option maxHeartbeats 1000000 in
set_option maxRecDepth 100000 in
theorem of_any (a : Option Addr) (n c : Nat) (es : List En) (w : World) (hn : es.length = n) (hs : 0 < n → ES entA w a es) (hl : n ≤ 4096) :
    Calls Tryd.prog 24 #[.slice a n c] w fun e w' => ∃ p H, e = .returned (.tuple #[.agg #[.pointer p, .int .i64 ((ofT [] es).1.length : Nat)], errC ((ofT [] es).2 : Nat)]) ∧ TreeP w' p (ofT [] es).1 H ∧ Below w.heap.size w w' := by
  obtain ⟨W, hW, hT1, hT2, hb⟩ : ∃ W, (w.alloc (.cells #[.pointer none, .int .i64 0] TT)).alloc (.cells #[.pointer none, .int .i64 0] TT) = W ∧ TB W w.heap.size none 0 ∧ TB W (w.heap.size + 1) none 0 ∧ Below w.heap.size w W := two_own w none 0
  have HW := Lib.hid hW
  have Hos : Hid (Oft w W 0 [] none 0) := ⟨hT2, hT1, TreeP.none _, by simp, hb⟩
  have Hn := Lib.hid hn
  have Hs := Lib.hid hs
  obtain ⟨RES, hRES⟩ : ∃ R, ofT [] es = R := ⟨_, rfl⟩
  have HR : Hid (ofT [] (es.drop 0) = RES) := by show _ = _; rw [List.drop_zero]; exact hRES
  rw [hRES]
  clear hW hT1 hT2 hb hRES hn hs
  go_enter Tryd.func24, Tryd.ntmps24
  go_wp2_with fail
  rw [HW.out]
  go_loopw [6, 7, 11] (fun _ _ iv wr => ∃ (k : Nat) (acc : List En) (p : Option Addr) (H : Nat), iv = .int .i64 k ∧ k ≤ n ∧ Hid (ofT acc (es.drop k) = RES) ∧ Hid (Oft w wr k acc p H)) (fun _ _ iv _ => n - (intOf iv).toNat)
  case atStart => exact ⟨0, [], none, 0, rfl, by omega, HR, Hos⟩
  case round =>
    obtain ⟨k, acc, p, H, rfl, hk, hR, hos⟩ := hrel
    by_cases hlt : k < n
    · have hsk := (Hs.out (by omega)).below hos.out.b (Nat.le_refl _)
      obtain ⟨g, o, rfl, hc⟩ := hsk.entsA (by rw [Hn.out]; omega)
      obtain ⟨p0, p1⟩ := hc k (by rw [Hn.out]; exact hlt)
      have i1 : (0 : Int) ≤ (k : Int) := by omega
      have i2 : (k : Int) < (n : Int) := by omega
      have hgo := ofT_go (acc := acc) (es := es) (k := k) (by rw [Hn.out]; exact hlt)
      have hno := ofT_no (acc := acc) (es := es) (k := k) (by rw [Hn.out]; exact hlt)
      rw [hR.out] at hgo hno
      generalize ea es k = y at *
      obtain ⟨key, val⟩ := y
      dsimp only at p0 p1 hgo hno
      obtain ⟨W1, hW1, _, hbW1⟩ := alloc_own wr ET #[.string key, .string val]
      have hos1 := hos.out.ext hbW1
      have e0 : (wr.alloc (.cells #[.string key, .string val] ET)).cell? ⟨w.heap.size + 1, 0, none⟩ = some (.pointer p) := by rw [hW1]; exact hos1.t.c0
      have e1 : (wr.alloc (.cells #[.string key, .string val] ET)).cell? ⟨w.heap.size + 1, 1, none⟩ = some (.int .i64 acc.length) := by rw [hW1]; exact hos1.t.c1
      have hcall := put_all p acc H key val W1 hos1.tr (by have := hos1.n; omega)
      have hlen := tpL_len acc key val
      have hlen2 : (tpL acc key val).length ≤ k + 1 := by have := hos1.n; omega
      obtain ⟨acc2, hacc2⟩ : ∃ x, tpL acc key val = x := ⟨_, rfl⟩
      obtain ⟨F, hF⟩ : ∃ F, tpF acc key val = F := ⟨_, rfl⟩
      rw [hacc2, hF] at hcall
      rw [hacc2] at hlen2 hgo
      rw [hF] at hgo hno
      have HW1 := Lib.hid hW1
      have Hos1 := Lib.hid hos1
      have Hlen2 := Lib.hid hlen2
      by_cases hF0 : F = 0
      · subst hF0
        rw [show errC ((0 : Nat) : Int) = .nilIface from rfl] at hcall
        have Hcall := Lib.hid hcall
        have hR2 := Lib.hid (hgo rfl).symm
        clear hcall hgo hno hW1 hbW1 hos1 hos hlen hlen2 hR hsk hc hacc2 hF
        go_wp2_with fail
        rw [HW1.out]
        refine Hcall.out.mono ?_
        rintro e w4 ⟨p2, H2, rfl, ht2, hb4⟩
        have hos4 := Hos1.out.ext hb4
        have d0 := hos4.t.c0
        have d1 := hos4.t.c1
        have f0 := hos4.t.fz 0
        have f1 := hos4.t.fz 1
        have Hnx := Lib.hid (Hos1.out.next hb4 ht2 Hlen2.out)
        clear hos4 ht2 hb4 Hcall Hos1 HW1 e0 e1 p0 p1
        go_wp2_with fail
        go_roundw
        case rel => exact ⟨k + 1, acc2, p2, H2, by go_num, by omega, hR2, Hnx⟩
        case measure => simp [intOf]; omega
      · have hE : errC ((F : Nat) : Int) = .iface 62 (.int .i64 ((F : Nat) : Int)) := if_neg (by omega)
        have HRE := Lib.hid (hno hF0)
        have HE := Lib.hid hE
        rw [hE] at hcall
        have Hcall := Lib.hid hcall
        clear hcall hgo hno hW1 hbW1 hos1 hos hlen hlen2 hR hsk hc hacc2 hF hE
        go_wp2_with fail
        rw [HW1.out]
        refine Hcall.out.mono ?_
        rintro e w4 ⟨p2, H2, rfl, ht2, hb4⟩
        have hos4 := Hos1.out.ext hb4
        have d0 := hos4.t.c0
        have d1 := hos4.t.c1
        have f0 := hos4.t.fz 0
        have f1 := hos4.t.fz 1
        have hos5 := Hos1.out.next hb4 ht2 Hlen2.out
        have g0 := hos5.r.fz 0
        have g1 := hos5.r.fz 1
        have b0 := hos5.r.c0
        have b1 := hos5.r.c1
        have r6 := hos5.r.put none 0
        have q0 := r6.c0
        have q1 := r6.c1
        have Hb6 := Lib.hid (below_put (b := w.heap.size) (u := .pointer none) (v := .int .i64 0) hos5.b (Nat.le_refl _))
        clear hos4 ht2 hb4 Hcall Hos1 HW1 e0 e1 p0 p1 hos5 r6
        go_wp2_with fail
        refine bodyPost_ret (v := .tuple #[.agg #[.pointer none, .int .i64 0], .iface 62 (.int .i64 ((F : Nat) : Int))]) (by rw [results_cell_tmp rfl]; go_simp) rfl ⟨none, 0, ?_, ?_, Hb6.out⟩
        · rw [HRE.out]; show _ = Ending.returned (.tuple #[.agg #[.pointer none, .int .i64 ((0 : Nat) : Int)], errC ((F : Nat) : Int)]); rw [HE.out]; rfl
        · rw [HRE.out]; exact TreeP.none _
    · obtain rfl : k = n := by omega
      have hend := ofT_end acc es k Hn.out
      rw [hR.out] at hend
      have HRE := Lib.hid hend
      have c0 := hos.out.t.c0
      have c1 := hos.out.t.c1
      have g0 := hos.out.r.fz 0
      have g1 := hos.out.r.fz 1
      have b0 := hos.out.r.c0
      have b1 := hos.out.r.c1
      have r6 := hos.out.r.put p acc.length
      have q0 := r6.c0
      have q1 := r6.c1
      have Hb6 := Lib.hid (below_put (b := w.heap.size) (u := .pointer p) (v := .int .i64 acc.length) hos.out.b (Nat.le_refl _))
      have Ht6 := Lib.hid (hos.out.tr.turn (turn_put wr w.heap.size (.pointer p) (.int .i64 acc.length)) (TF.one hos.out.r))
      clear hend r6 hos hR
      go_wp2_with fail
      refine bodyPost_ret (v := .tuple #[.agg #[.pointer p, .int .i64 (acc.length : Nat)], .nilIface]) (by rw [results_cell_tmp rfl]; go_simp) rfl ⟨p, H, ?_, ?_, Hb6.out⟩
      · rw [HRE.out]; rfl
      · rw [HRE.out]; exact Ht6.out
end Go.Proofs.YtjkpjbgapemieaaDoor
