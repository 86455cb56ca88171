/-
  The document's of, Free.
-/
import Derived.Test.YtcimhcibkbbkdaaDoorRefX2
import Derived.Test.YtcimhcibkbbkdaaDoorExtMath2
import Derived.Test.YtcimhcibkbbkdaaDoorAppX
namespace Go.Proofs.YtcimhcibkbbkdaaDoor
open Go Go.RowKit

theorem xrow_set : ∀ (o : List Xt) (j : Nat) (M : Int), j < o.length → (xtE.row o).set (j * 2 + 1) (.int .i64 M) = xtE.row (o.set j ⟨(xt o j).f, M⟩)
  | [], j, M, h => by simp at h
  | x :: r, 0, M, _ => rfl
  | x :: r, j + 1, M, h => by
    have ih := xrow_set r j M (by simpa using h)
    have e : (xt (x :: r) (j + 1)) = xt r j := rfl
    rw [e, List.set_cons_succ, Elt.row, Elt.row, ← ih, show (j + 1) * 2 + 1 = (j * 2 + 1) + 2 by omega]
    rfl
/-- A field of a row of one's own is stored anew. -/
theorem xown_set {w : World} {B T g c : Nat} {o : List Xt} (j : Nat) (M : Int) (hj : j < o.length) (h : w.ownsRow B T 2 (.slice (some ⟨g, 0, none⟩) o.length c) o.length (xtE.row o)) :
    (w.setCell ⟨g, j * 2 + 1, none⟩ (.int .i64 M)).ownsRow B T 2 (.slice (some ⟨g, 0, none⟩) (o.set j ⟨(xt o j).f, M⟩).length c) (o.set j ⟨(xt o j).f, M⟩).length (xtE.row (o.set j ⟨(xt o j).f, M⟩)) := by
  rw [List.length_set]
  refine ⟨by rw [Elt.row_len, List.length_set]; rfl, ?_⟩
  rcases h.2 with ⟨h1, _⟩ | ⟨g', cap, cur, hv, hbg, hg, hnc, hcm, hcs, ht⟩
  · cases h1
  · simp only [Value.slice.injEq, Option.some.injEq, Addr.mk.injEq, and_true, true_and] at hv
    obtain ⟨rfl, rfl⟩ := hv
    have hset := heap_setCell_same w g (j * 2 + 1) cur T (.int .i64 M) hg
    refine .inr ⟨g, c, _, rfl, hbg, hset, hnc, hcm, by simpa using hcs, ?_⟩
    rw [← xrow_set o j M hj, ← ht]
    simp [List.take_set]
/-- The last one's cells. -/
theorem xown_at {w : World} {B T g c : Nat} {o : List Xt} (j : Nat) (hj : j < o.length) (h : w.ownsRow B T 2 (.slice (some ⟨g, 0, none⟩) o.length c) o.length (xtE.row o)) :
    w.cell? ⟨g, j * 2, none⟩ = some (.int .i64 (xt o j).f) ∧ w.cell? ⟨g, j * 2 + 1, none⟩ = some (.int .i64 (xt o j).m) ∧ w.frozen? ⟨g, j * 2 + 1, none⟩ = false := by
  have e := xt_at o j hj
  have h1 := xtE.row_at o j 0 _ e (by decide)
  have h2 := xtE.row_at o j 1 _ e (by decide)
  have hsz : xtE.sz = 2 := rfl
  rw [hsz] at h1 h2
  have k1 := h.cellAt (j * 2) (by omega)
  have k2 := h.cellAt (j * 2 + 1) (by omega)
  refine ⟨k1.trans h1, k2.trans h2, ?_⟩
  rcases h.2 with ⟨h3, _⟩ | ⟨g', cap, cur, hv, hbg, hg, _⟩
  · cases h3
  · simp only [Value.slice.injEq, Option.some.injEq, Addr.mk.injEq, and_true, true_and] at hv
    obtain ⟨rfl, rfl⟩ := hv
    simp [World.frozen?, hg]
/-- What stands there so far is small. -/
def XSm (o : List Xt) (k : Nat) : Prop := o.length ≤ k ∧ ∀ s ∈ o, 0 ≤ s.f ∧ s.f ≤ 1024 ∧ 0 ≤ s.m ∧ s.m ≤ (k : Int)
theorem XSm.add {o : List Xt} {k : Nat} (h : XSm o k) (v : Int) (h1 : 0 ≤ v) (h2 : v ≤ 1024) : XSm (xaddR o v) (k + 1) := by
  unfold xaddR
  split
  · rename_i hc
    refine ⟨by rw [List.length_set]; have := h.1; omega, fun s hs => ?_⟩
    rcases List.mem_or_eq_of_mem_set hs with hs | rfl
    · have := h.2 s hs; omega
    · have := h.2 (xt o (o.length - 1)) (xt_mem o _ (by omega)); simp; omega
  · refine ⟨by rw [List.length_append]; have := h.1; simp; omega, fun s hs => ?_⟩
    rcases List.mem_append.1 hs with hs | hs
    · have := h.2 s hs; omega
    · rw [List.mem_singleton.1 hs]; simp; omega
set_option maxRecDepth 100000 in
set_option maxHeartbeats 4000000 in
theorem xof_any (a : Option Addr) (n c : Nat) (is : List Int) (w : World) (hn : is.length = n) (hs : PgS w a is) (hl : n ≤ 1024) (hi : ∀ x ∈ is, 0 ≤ x ∧ x ≤ 1024) :
    Calls Tryd.prog 25 #[.slice a n c] w fun e w' => ∃ u, e = .returned u ∧ w'.ownsRow w.heap.size RXT 2 u (xofL is).length (xtE.row (xofL is)) ∧ Below w.heap.size w w' := by
  have Hs := Lib.hid hs
  have Hn := Lib.hid hn
  have Hi := Lib.hid hi
  clear hs hn hi
  go_enter Tryd.func25, Tryd.ntmps25
  go_wp2_with fail
  go_loopw [3, 4] (fun ov i wr => ∃ (k : Nat) (v : Value), v = ov ∧ i = .int .i64 k ∧ k ≤ n ∧ Hid (XSm (xofL (is.take k)) k) ∧ Hid (wr.ownsRow w.heap.size RXT 2 v (xofL (is.take k)).length (xtE.row (xofL (is.take k)))) ∧ Hid (Below w.heap.size w wr)) (fun _ i _ => n - (intOf i).toNat)
  case atStart => exact ⟨0, xnil, rfl, rfl, by omega, ⟨by simp [xofL], fun s h => by simp [xofL] at h⟩, World.ownsRow_nil _ _ _ _, Below.refl _ _⟩
  case round =>
    obtain ⟨k, v, rfl, rfl, hk, hsm, hown, hB⟩ := hrel
    by_cases hlt : k < n
    · obtain ⟨g, o, rfl, hcell⟩ := Hs.out.below hB.out (Nat.le_refl _) (by rw [Hn.out]; omega)
      have hkl : k < is.length := by rw [Hn.out]; exact hlt
      have p0 := hcell k hkl
      have q0 : ∀ w', Ext wr.drew w' → w'.cell? ⟨g, o + k, none⟩ = some (.int .i64 (ia is k)) := fun w' hw => by
        rw [((Below.refl wr.heap.size wr).drew.trans hw).cell (p := ⟨g, o + k, none⟩) (block_lt_of_cell p0)]; exact p0
      have hy9 := Hi.out (ia is k) (by unfold ia; simp [List.getD, hkl])
      have hst : Hid (xofL (is.take (k + 1)) = xaddR (xofL (is.take k)) (ia is k)) := by show _ = _; rw [ia_take is k hkl, xofL_snoc]
      have hsm2 : Hid (XSm (xofL (is.take (k + 1))) (k + 1)) := by show XSm _ _; rw [hst.out]; exact hsm.out.add _ hy9.1 hy9.2
      generalize ia is k = y at *
      obtain ⟨L, hL⟩ : ∃ L, xofL (is.take k) = L := ⟨_, rfl⟩
      rw [hL] at hst hown hsm
      have i0 : (k : Int) < (n : Int) := by omega
      have hlen := hsm.out.1
      clear hcell hkl hL
      rcases Nat.eq_zero_or_pos L.length with h0 | h0
      · obtain rfl : L = [] := List.eq_nil_of_length_eq_zero h0
        obtain ⟨a2, c2, rfl, _, _, _, _⟩ := own_xev hown.out
        have hstep : Hid (xofL (is.take (k + 1)) = [⟨y, 1⟩]) := by show _ = _; rw [hst.out]; simp [xaddR]
        have hBd : Hid (Below w.heap.size w wr.drew) := hB.out.drew
        have hod : Hid (wr.drew.ownsRow w.heap.size RXT 2 (.slice a2 ([] : List Xt).length c2) ([] : List Xt).length (xtE.row ([] : List Xt))) := own_below hown.out (Below.refl _ _).drew (Nat.le_refl _)
        have p0d : wr.drew.cell? ⟨g, o + k, none⟩ = some (.int .i64 y) := q0 _ (Below.refl _ _)
        obtain ⟨v5, w5, hrun5, hb5, ho5, _⟩ := xapp_one (W := wr.drew) SRXT SRXT RXT Tryd.underlying22 xinfoR ⟨y, 1⟩ hod.out hBd.out.size (by simp)
        have hB5 : Hid (Below w.heap.size w w5) := hBd.out.trans hb5
        have ho5' : Hid (w5.ownsRow w.heap.size RXT 2 v5 (xofL (is.take (k + 1))).length (xtE.row (xofL (is.take (k + 1))))) := by show World.ownsRow _ _ _ _ _ _ _; rw [hstep.out]; exact ho5
        clear hst hstep hown hB hod hBd hb5 ho5 hsm p0
        rw [List.length_nil] at hrun5 ⊢
        dsimp only at hrun5
        go_wp2_with fail
        refine wp_region_gr [(0, true), (1, true), (2, true), (3, true), (4, true), (5, true), (6, true), (7, true), (8, true), (9, true), (10, true), (11, true), (12, true), (13, true), (14, true), (15, true), (16, true), (17, true), (18, true), (19, true), (20, true), (21, true)] (by kernel_rfl) (by kernel_rfl) (by kernel_rfl) (by kernel_rfl) (fun _ _ _ _ _ h => h) ?_
        repeat (first | (refine wpGr_read (o := ⟨_, _, _, _, _, _⟩) (v := ?_) rfl (by rfl) ?_ ?_; rotate_left; (intro w' hw'; go_simp; with_reducible rfl); simp only [Act.put, List.setIfInBounds_toArray, List.set_cons_zero, List.set_cons_succ]) | (refine wpGr_skip (o := ⟨_, _, _, _, _, _⟩) rfl (by rfl) ?_; simp only [Act.put, List.setIfInBounds_toArray, List.set_cons_zero, List.set_cons_succ]))
        refine wpGr_done ?_
        clear q0
        go_wp2_with (at_builtin; refine Lib.wpList_append_run _ rfl (.tmp 45) (.tmp 51) _ _ rfl _ _ (by rfl) (by rfl) _ _ hrun5 ?_)
        go_roundw
        case rel => exact ⟨k + 1, v5, rfl, by go_num, by omega, hsm2, ho5', hB5⟩
        case measure => simp [intOf]; omega
      · obtain ⟨j, hj⟩ : ∃ j, L.length = j + 1 := ⟨L.length - 1, by omega⟩
        obtain ⟨b, c2, rfl, hc2⟩ : ∃ b c2, v = .slice (some ⟨b, 0, none⟩) L.length c2 ∧ (w.heap.size ≤ b ∧ b < wr.heap.size) := by
          rcases hown.out.2 with ⟨_, h⟩ | ⟨b, cap, cur, rfl, hb, hg, _⟩
          · omega
          · exact ⟨b, cap, rfl, hb, (Array.getElem?_eq_some_iff.1 hg).1⟩
        obtain ⟨r0, r1, r2⟩ := xown_at j (by omega) hown.out
        have up : ∀ (g o : Nat) (x : Value), wr.cell? ⟨g, o, none⟩ = some x → ∀ w', Ext wr.drew w' → w'.cell? ⟨g, o, none⟩ = some x := fun g o x h w' hw => by
          rw [((Below.refl wr.heap.size wr).drew.trans hw).cell (p := ⟨g, o, none⟩) (block_lt_of_cell h)]; exact h
        have q1 := up _ _ _ r0
        have q2 := up _ _ _ r1
        have hxs := hsm.out.2 (xt L j) (xt_mem L j (by omega))
        have hadd : Hid (xofL (is.take (k + 1)) = if (xt L j).f + (xt L j).m = y then L.set j ⟨(xt L j).f, (xt L j).m + 1⟩ else L ++ [⟨y, 1⟩]) := by
          show _ = _
          rw [hst.out]; unfold xaddR
          rw [show L.length - 1 = j by omega]
          by_cases h : (xt L j).f + (xt L j).m = y
          · rw [if_pos h, if_pos ⟨by omega, h⟩]
          · rw [if_neg h, if_neg (fun h2 => h h2.2)]
        have hset := fun M => Lib.hid (xown_set (w := wr.drew) j M (by omega) (own_below hown.out (Below.refl wr.heap.size wr).drew (Nat.le_refl _)))
        have hBd : Hid (Below w.heap.size w wr.drew) := hB.out.drew
        have hod : Hid (wr.drew.ownsRow w.heap.size RXT 2 (.slice (some ⟨b, 0, none⟩) L.length c2) L.length (xtE.row L)) := own_below hown.out (Below.refl _ _).drew (Nat.le_refl _)
        have p0d : wr.drew.cell? ⟨g, o + k, none⟩ = some (.int .i64 y) := q0 _ (Below.refl _ _)
        have r1d : wr.drew.cell? ⟨b, j * 2 + 1, none⟩ = some (.int .i64 (xt L j).m) := q2 _ (Below.refl _ _)
        have r2d : wr.drew.frozen? ⟨b, j * 2 + 1, none⟩ = false := r2
        have hbB : Hid (w.heap.size ≤ b) := hc2.1
        obtain ⟨F, hF⟩ : ∃ F, (xt L j).f = F := ⟨_, rfl⟩
        obtain ⟨M, hM⟩ : ∃ M, (xt L j).m = M := ⟨_, rfl⟩
        rw [hF] at q1 hxs hadd hset
        rw [hM] at q2 hxs hadd r1d
        obtain ⟨Z, hZ⟩ : ∃ Z, F + M = Z := ⟨_, rfl⟩
        have hwz : IntKind.i64.wrap (F + M) = Z := by rw [IntKind.wrap_i64]; omega
        rw [hZ] at hadd
        have i1 : (0 : Int) ≤ (j : Int) := by omega
        have i2 : (j : Int) < (j : Int) + 1 := by omega
        have i4 : IntKind.i64.wrap (j : Int) = (j : Int) := by rw [IntKind.wrap_i64]; omega
        have i5 : (0 : Int) < (j : Int) + 1 := by omega
        have hj2 := Lib.hid hj
        by_cases h1 : Z = y
        · subst h1
          rw [if_pos rfl] at hadd
          have wM : IntKind.i64.wrap (M + 1) = M + 1 := by rw [IntKind.wrap_i64]; omega
          have hs9 := hset (M + 1)
          have hln : (L.set j (⟨F, M + 1⟩ : Xt)).length = j + 1 := by rw [List.length_set, hj]
          have ho5' : Hid ((wr.drew.setCell ⟨b, j * 2 + 1, none⟩ (.int .i64 (M + 1))).ownsRow w.heap.size RXT 2 (.slice (some ⟨b, 0, none⟩) (j + 1 : Nat) c2) (xofL (is.take (k + 1))).length (xtE.row (xofL (is.take (k + 1))))) := by
            show World.ownsRow _ _ _ _ _ _ _
            rw [hadd.out]
            have := hs9.out
            rw [hln] at this
            rw [hln]; exact this
          have hB5 : Hid (Below w.heap.size w (wr.drew.setCell ⟨b, j * 2 + 1, none⟩ (.int .i64 (M + 1)))) := hBd.out.setCell hbB.out _
          clear hst hadd hown hB hod hBd hsm p0 up hset hs9 hln r0 r1 r2 hF hM hZ hc2
          rw [hj]
          clear hj hlen
          go_wp2_with fail
          refine wp_region_gr [(0, true), (1, true), (2, true), (3, true), (4, true), (5, true), (6, true), (7, true), (8, true), (9, true), (10, true), (11, true), (12, true), (13, true), (14, true), (15, true), (16, true), (17, true), (18, true), (19, true), (20, true), (21, true)] (by kernel_rfl) (by kernel_rfl) (by kernel_rfl) (by kernel_rfl) (fun _ _ _ _ _ h => h) ?_
          repeat (first | (refine wpGr_read (o := ⟨_, _, _, _, _, _⟩) (v := ?_) rfl (by rfl) ?_ ?_; rotate_left; (intro w' hw'; go_simp; with_reducible rfl); simp only [Act.put, List.setIfInBounds_toArray, List.set_cons_zero, List.set_cons_succ]) | (refine wpGr_skip (o := ⟨_, _, _, _, _, _⟩) rfl (by rfl) ?_; simp only [Act.put, List.setIfInBounds_toArray, List.set_cons_zero, List.set_cons_succ]))
          refine wpGr_done ?_
          clear q0 q1 q2
          go_wp2_with fail
          go_roundw
          case rel => exact ⟨k + 1, _, rfl, by go_num, by omega, hsm2, ho5', hB5⟩
          case measure => simp [intOf]; omega
        · rw [if_neg h1] at hadd
          have d1 : (Z == y) = false := beq_eq_false_iff_ne.2 h1
          have d2 : decide (Z = y) = false := decide_eq_false h1
          obtain ⟨v5, w5, hrun5, hb5, ho5, _⟩ := xapp_one (W := wr.drew) SRXT SRXT RXT Tryd.underlying22 xinfoR ⟨y, 1⟩ hod.out hBd.out.size (by omega)
          have hB5 : Hid (Below w.heap.size w w5) := hBd.out.trans hb5
          have ho5' : Hid (w5.ownsRow w.heap.size RXT 2 v5 (xofL (is.take (k + 1))).length (xtE.row (xofL (is.take (k + 1))))) := by show World.ownsRow _ _ _ _ _ _ _; rw [hadd.out]; exact ho5
          clear hst hadd hown hB hod hBd hsm p0 up hset r0 r1 r2 hF hM hZ hc2 hb5 ho5 r1d r2d
          rw [hj] at hrun5 ⊢
          dsimp only at hrun5
          clear hj hlen
          go_wp2_with fail
          refine wp_region_gr [(0, true), (1, true), (2, true), (3, true), (4, true), (5, true), (6, true), (7, true), (8, true), (9, true), (10, true), (11, true), (12, true), (13, true), (14, true), (15, true), (16, true), (17, true), (18, true), (19, true), (20, true), (21, true)] (by kernel_rfl) (by kernel_rfl) (by kernel_rfl) (by kernel_rfl) (fun _ _ _ _ _ h => h) ?_
          repeat (first | (refine wpGr_read (o := ⟨_, _, _, _, _, _⟩) (v := ?_) rfl (by rfl) ?_ ?_; rotate_left; (intro w' hw'; go_simp; with_reducible rfl); simp only [Act.put, List.setIfInBounds_toArray, List.set_cons_zero, List.set_cons_succ]) | (refine wpGr_skip (o := ⟨_, _, _, _, _, _⟩) rfl (by rfl) ?_; simp only [Act.put, List.setIfInBounds_toArray, List.set_cons_zero, List.set_cons_succ]))
          refine wpGr_done ?_
          clear q0 q1 q2
          go_wp2_with (at_builtin; refine Lib.wpList_append_run _ rfl (.tmp 45) (.tmp 51) _ _ rfl _ _ (by rfl) (by rfl) _ _ hrun5 ?_)
          go_roundw
          case rel => exact ⟨k + 1, v5, rfl, by go_num, by omega, hsm2, ho5', hB5⟩
          case measure => simp [intOf]; omega
    · obtain rfl : k = n := by omega
      have ho := hown.out
      rw [List.take_of_length_le (by rw [Hn.out]; exact Nat.le_refl _)] at ho
      have Ho := Lib.hid ho
      clear ho hown
      go_wp2
      go_ret
      exact ⟨_, rfl, Ho.out, hB.out⟩
end Go.Proofs.YtcimhcibkbbkdaaDoor
