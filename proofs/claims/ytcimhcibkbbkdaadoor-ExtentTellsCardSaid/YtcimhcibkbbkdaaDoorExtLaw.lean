/-
  The law's giveExt, areExt.
-/
import Derived.Test.YtcimhcibkbbkdaaDoorAppX
import Derived.Test.YtcimhcibkbbkdaaDoorExt1
namespace Go.Proofs.YtcimhcibkbbkdaaDoor
open Go Go.RowKit

/-- An append under a guard that holds, its run known. -/
theorem wpList_append_when {P : Program} {w : World} {ops : Array Oper} {rest : List Oper} {o : Oper} {a : Act} {Q : Exit → Act → World → Prop} (hw : Region.wanted o (yielded ops a.tmps) = true) (s x : Operand) (t : TypeId)
    (ho : o.op = .call { callee := .builtin .append, args := #[s, x], argTypes := #[t, t] }) {v xv v' : Value} {w' : World} (hs : a.eval s = v) (hx : a.eval x = xv) (hr : (Builtin.append_ #[t, t] o.type #[v, xv]).run P w = .ok v' w')
    (h : wpList P ops Q rest (a.put o.dst v') w') : wpList P ops Q (o :: rest) a w :=
  wpList_step fun K hK => by rw [if_pos hw]; exact wp_app_run s x t ho hs hx hr (hK _ _ h)
/-- To a row of one's own, however long. -/
theorem xapp_wide {W : World} {B : Nat} {v : Value} {L : List Xt} (t ty T : TypeId) (ht : Tryd.prog.underlying t = some (.slice T)) (h2 : (Tryd.prog.info? T).map (fun i => (i.zero, i.size, i.bytes)) = some (some xtE.zero, xtE.sz, xtE.by_)) (y : Xt)
    (hown : W.ownsRow B T 2 v L.length (xtE.row L)) (hB : B ≤ W.heap.size) (hl : (L.length + 1) * 16 ≤ 140737488355328) :
    ∃ v' w', (Builtin.append_ #[t, t] ty #[v, .slice (some ⟨W.heap.size, 0, none⟩) 1 1]).run Tryd.prog (W.alloc (.cells #[.int .i64 y.f, .int .i64 y.m] T)) = .ok v' w' ∧ Below B W w' ∧ w'.ownsRow B T 2 v' (L ++ [y]).length (xtE.row (L ++ [y])) := by
  have hb : Below B W (W.alloc (.cells #[.int .i64 y.f, .int .i64 y.m] T)) := (Below.refl _ _).alloc hB _
  obtain ⟨v', w', hr, hb2, ho⟩ := run_app_own (P := Tryd.prog) (E := xtE) B t ty T ht h2 v L.length L (hown.alloc _) (by simp; omega) (some ⟨W.heap.size, 0, none⟩) 1 1 [y] rfl (fun h => by cases h) (xlit W T y) (by unfold maxLen; omega) (by show _ * 16 ≤ _; omega)
  refine ⟨v', w', hr, hb.trans hb2, ?_⟩
  rw [List.length_append]; exact ho
set_option maxRecDepth 100000 in
theorem xgive_any (a : Option Addr) (n c : Nat) (l : List Xt) (w : World) (hn : l.length = n) (hs : XS w a l) (hl : n * 16 ≤ 140737488355328) :
    Calls Tryd.prog 7 #[.slice a n c] w fun e w' => ∃ v, e = .returned v ∧ EV xtE w' v l ∧ Below w.heap.size w w' := by
  have Hs := Lib.hid hs
  have Hn := Lib.hid hn
  have hn63 : n ≤ 9223372036854775807 := by omega
  clear hs hn
  go_enter Tryd.func7, Tryd.ntmps7
  go_wp2_with fail
  go_loopw [3, 4] (fun ov i wr => ∃ (k : Nat) (v : Value), v = ov ∧ i = .int .i64 k ∧ k ≤ n ∧ Hid (wr.ownsRow w.heap.size XT 2 v (l.take k).length (xtE.row (l.take k))) ∧ Hid (Below w.heap.size w wr)) (fun _ i _ => n - (intOf i).toNat)
  case atStart => exact ⟨0, xnil, rfl, rfl, by omega, World.ownsRow_nil _ _ _ _, Below.refl _ _⟩
  case round =>
    obtain ⟨k, v, rfl, rfl, hk, hown, hB⟩ := hrel
    by_cases hlt : k < n
    · have hkl : k < l.length := by rw [Hn.out]; exact hlt
      obtain ⟨g, o, rfl, hcell⟩ := (Hs.out.below hB.out (Nat.le_refl _)).xts (by omega)
      obtain ⟨q0, q1⟩ := hcell k hkl
      have htl : (l.take k).length = k := by rw [List.length_take]; omega
      obtain ⟨v5, w5, hrun5, hb5, ho5⟩ := xapp_wide (W := wr) SXT SXT XT Tryd.underlying24 xinfo (xt l k) hown.out hB.out.size (by rw [htl]; omega)
      rw [← xt_take l k hkl] at ho5
      have Ho5 := Lib.hid ho5
      have hB5 : Hid (Below w.heap.size w w5) := hB.out.trans hb5
      have i1 : (k : Int) < (n : Int) := by omega
      generalize xt l k = y at *
      obtain ⟨F, M⟩ := y
      dsimp only at q0 q1 hrun5
      clear hcell hkl htl ho5 hb5 hown hB
      go_wp2_with (at_builtin; refine Lib.wpList_append_run _ rfl (.tmp 11) (.tmp 16) _ _ rfl _ _ (by rfl) (by rfl) _ _ hrun5 ?_)
      go_roundw
      case rel => exact ⟨k + 1, v5, rfl, by go_num, by omega, Ho5, hB5⟩
      case measure => simp [intOf]; omega
    · obtain rfl : k = n := by omega
      have ho := hown.out
      rw [List.take_of_length_le (by rw [Hn.out]; exact Nat.le_refl _)] at ho
      have hev := Lib.hid (own_xev ho)
      clear ho hown
      go_wp2
      go_ret
      exact ⟨_, rfl, hev.out, hB.out⟩
set_option maxRecDepth 100000 in
theorem xare_any (v u : Value) (l : List Xt) (w : World) (hv : EV xtE w v l) (hu : XV w u l) :
    Calls Tryd.prog 21 #[v, u] w fun e w' => e = .returned (.bool true) ∧ Below w.heap.size w w' := by
  obtain ⟨a, c, rfl, hs, _, _, hm1⟩ := hv
  obtain ⟨b, c2, rfl, hs2, _, _⟩ := hu
  obtain ⟨n, hn⟩ : ∃ n, l.length = n := ⟨_, rfl⟩
  have Hs := Lib.hid hs
  have Hs2 := Lib.hid hs2
  have Hn := Lib.hid hn
  have hn9 : n ≤ 9223372036854775807 := by unfold maxLen at hm1; omega
  rw [hn]
  clear hs hs2 hn hm1
  go_enter Tryd.func21, Tryd.ntmps21
  go_wp2_with fail
  go_loopw [5] (fun i wr => ∃ k : Nat, i = .int .i64 k ∧ k ≤ n ∧ Hid (Below w.heap.size w wr)) (fun i _ => n - (intOf i).toNat)
  case atStart => exact ⟨0, rfl, by omega, Below.refl _ _⟩
  case round =>
    obtain ⟨k, rfl, hk, hB⟩ := hrel
    by_cases hlt : k < n
    · obtain ⟨g, o, rfl, hcell⟩ := (Hs.out.below hB.out (Nat.le_refl _)).xts (by rw [Hn.out]; omega)
      obtain ⟨g2, o2, rfl, hcell2⟩ := (Hs2.out.below hB.out (Nat.le_refl _)).xts (by rw [Hn.out]; omega)
      obtain ⟨p0, p1⟩ := hcell k (by rw [Hn.out]; exact hlt)
      obtain ⟨p2, p3⟩ := hcell2 k (by rw [Hn.out]; exact hlt)
      have up : ∀ (g o : Nat) (x : Value), wr.cell? ⟨g, o, none⟩ = some x → ∀ w', Ext wr.drew w' → w'.cell? ⟨g, o, none⟩ = some x := fun g o x h w' hw => by
        rw [((Below.refl wr.heap.size wr).drew.trans hw).cell (p := ⟨g, o, none⟩) (block_lt_of_cell h)]; exact h
      have q0 := up _ _ _ p0
      have q1 := up _ _ _ p1
      have q2 := up _ _ _ p2
      have q3 := up _ _ _ p3
      generalize xt l k = x at *
      obtain ⟨F, M⟩ := x
      dsimp only at q0 q1 q2 q3
      have hBd : Hid (Below w.heap.size w wr.drew) := hB.out.drew
      clear hcell hcell2 p0 p1 p2 p3 up hB
      go_wp2_with fail
      refine wp_region_gr [(0, true), (1, true), (2, true), (3, true), (4, true), (5, true), (6, true), (7, true), (8, true)] (by kernel_rfl) (by kernel_rfl) (by kernel_rfl) (by kernel_rfl) (fun _ _ _ _ _ h => h) ?_
      iterate 9 (refine wpGr_read (o := ⟨_, _, _, _, _, _⟩) (v := ?_) rfl (by rfl) ?_ ?_; rotate_left; (intro w' hw'; go_simp; with_reducible rfl); simp only [Act.put, List.setIfInBounds_toArray, List.set_cons_zero, List.set_cons_succ])
      refine wpGr_done ?_
      clear q0 q1 q2 q3
      go_wp2_with fail
      go_roundw
      case rel => exact ⟨k + 1, by go_num, by omega, hBd⟩
      case measure => simp [intOf]; omega
    · obtain rfl : k = n := by omega
      go_wp2
      go_ret
      exact ⟨rfl, hB.out⟩
end Go.Proofs.YtcimhcibkbbkdaaDoor
