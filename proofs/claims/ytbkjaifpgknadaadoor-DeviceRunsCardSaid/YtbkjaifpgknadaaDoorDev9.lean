/-
  Crash.
-/
import Derived.Test.YtbkjaifpgknadaaDoorDev8
namespace Go.Proofs.YtbkjaifpgknadaaDoor
open Go Go.RowKit Go.Maps Go.Sort

/-- What a list of bools has at a place; none: false. -/
def kp (k : List Bool) (i : Nat) : Bool := k.getD i false
/-- What is safe, when the first ones of what waits have been gone through. -/
def crF (S : DS) (k : List Bool) : Nat → Secs
  | 0 => S.safe
  | i + 1 => if kp k i = true then upd (crF S k i) ((wl S).getD i 0) (thin (((S.waits ((wl S).getD i 0))).getD zeros)) else crF S k i
/-- Crash: what the device is then. -/
def crS (S : DS) (k : List Bool) : DS := { S with safe := crF S k (wl S).length, waits := fun _ => none, armed := false, down := false }
/-- A slice that reads as bools. -/
def BSrc (w : World) (a : Option Addr) (k : List Bool) : Prop := 0 < k.length → ∃ b o, a = some ⟨b, o, none⟩ ∧ ∀ i, i < k.length → w.cell? ⟨b, o + i, none⟩ = some (.bool (kp k i))
theorem kp_out {k : List Bool} {i : Nat} (h : ¬ i < k.length) : kp k i = false := by unfold kp; simp [List.getD, List.getElem?_eq_none (Nat.le_of_not_lt h)]
theorem wl_mem {w : World} {bd bs bw : Nat} {S : DS} (h : Dev w bd bs bw S) {i : Nat} (hi : i < (wl S).length) : ∃ l, S.waits ((wl S).getD i 0) = some l ∧ l.length = 64 ∧ B8 l ∧ (wl S).getD i 0 < 8 * S.pages := by
  have hm : (wl S).getD i 0 ∈ wl S := by
    rw [List.getD_eq_getElem?_getD, List.getElem?_eq_getElem hi]; exact List.getElem_mem hi
  have h2 := (List.mem_filter.1 hm).2
  obtain ⟨l, hl⟩ := Option.isSome_iff_exists.1 h2
  exact ⟨l, hl, waits_form h hl⟩
theorem crash_nil (w : World) (v : Value) : Calls Tryd.prog 7 #[.pointer none, v] w fun e w' => e = .returned (.tuple #[]) ∧ w = w' := by
  go_enter Tryd.func7, Tryd.ntmps7
  go_wp2
  (try simp only [Exit.inBlock, Exit.then])
  refine bodyPost_ret (results_none rfl _ _ _) rfl ?_
  exact ⟨rfl, rfl⟩
theorem bs_foot {w : World} {bd bs bw : Nat} {S : DS} {a : Option Addr} {k : List Bool} (h : Dev w bd bs bw S) (hb : BSrc w a k) {F : Nat → Prop} {w' : World} (t : Turn F w w') (hF : ∀ i, F i → i = bs ∨ w.heap.size ≤ i) : BSrc w' a k := by
  intro h0
  obtain ⟨b, o, rfl, hc⟩ := hb h0
  refine ⟨b, o, rfl, fun i hi => ?_⟩
  have hci := hc i hi
  rw [t.cell (block_lt_of_cell hci) (fun hf => ?_)]
  · exact hci
  · rcases hF _ hf with e | e
    · simp only at e
      subst e
      obtain ⟨es, c, hm⟩ := om_obj h.safe
      simp [World.cell?, hm] at hci
    · have := block_lt_of_cell hci
      simp only at e this
      omega
set_option maxRecDepth 100000 in
set_option maxHeartbeats 1000000 in
theorem crash_any (w : World) (bd bs bw : Nat) (S : DS) (a : Option Addr) (k : List Bool) (c : Nat) (hk : BSrc w a k) (h : Dev w bd bs bw S) :
    Calls Tryd.prog 7 #[.pointer (some ⟨bd, 0, none⟩), .slice a k.length c] w fun e w' => e = .returned (.tuple #[]) ∧ Dev w' bd bs bw (crS S k) ∧ Turn (Foot bd bs bw) w w' := by
  have hw := waiting_any w bd bs bw S h
  have hwl := wl_len S
  have hp2 := h.p2
  have H := Lib.hid h
  have Hk := Lib.hid hk
  obtain ⟨M, hM⟩ : ∃ M, M = (wl S).length := ⟨_, rfl⟩
  have hMl : M ≤ 8192 := by omega
  have HM := Lib.hid hM
  clear h hk hwl hM
  go_enter Tryd.func7, Tryd.ntmps7
  go_wp2_with fail
  refine hw.mono ?_
  rintro e w1 ⟨v, rfl, hown, hb1⟩
  clear hw
  have hslice : ∃ (p : Option Addr) (cap : Nat), v = .slice p M cap := by
    rw [HM.out]
    rcases hown.2 with ⟨rfl, h0⟩ | ⟨g, cap, cur, rfl, _⟩
    · exact ⟨none, 0, by rw [h0]⟩
    · exact ⟨_, cap, rfl⟩
  obtain ⟨p, cap, rfl⟩ := hslice
  have Hown := Lib.hid hown
  have hrel0 : Hid (Dev w1 bd bs bw { S with safe := crF S k 0 }) := H.out.below hb1
  have ht0 : Hid (Turn (Foot bd bs bw) w w1) := Turn.ofBelow hb1
  have ho0 : Hid (w1.ownsRow w.heap.size IT 1 (.slice p M cap) (wl S).length (ivs (wl S))) := hown
  have hk0 : Hid (BSrc w1 a k) := bs_foot H.out Hk.out (Turn.ofBelow (F := fun _ => False) hb1) (fun _ hf => hf.elim)
  clear hown hb1 Hown
  go_wp2
  go_loopw [12] (fun i wr => ∃ j : Nat, j ≤ M ∧ i = .int .i64 j ∧ Hid (Dev wr bd bs bw { S with safe := crF S k j }) ∧ Hid (Turn (Foot bd bs bw) w wr) ∧ Hid (wr.ownsRow w.heap.size IT 1 (.slice p M cap) (wl S).length (ivs (wl S))) ∧ Hid (BSrc wr a k)) (fun i _ => M - (intOf i).toNat)
  case atStart => exact ⟨0, Nat.zero_le _, rfl, hrel0, ht0, ho0, hk0⟩
  case round =>
    obtain ⟨j, hj, rfl, hD, hT, ho, hb⟩ := hrel
    by_cases hlt : j < M
    · obtain ⟨l, hwl, hll, hl8, hn8⟩ := wl_mem H.out (i := j) (by have := HM.out; omega)
      have hcw : ∃ g, p = some ⟨g, 0, none⟩ ∧ wr.cell? ⟨g, j, none⟩ = some (.int .i64 (((wl S).getD j 0 : Nat) : Int)) := by
        have hjl : j < (wl S).length := by have := HM.out; omega
        rcases ho.out.2 with ⟨hv, h0⟩ | ⟨g, cap', cur, hv, _⟩
        · omega
        · simp only [Value.slice.injEq] at hv
          obtain ⟨rfl, _, _⟩ := hv
          refine ⟨g, rfl, ?_⟩
          have := ho.out.cells (g := g) rfl j (.int .i64 (((wl S).getD j 0 : Nat) : Int)) (by simp [ivs, List.getElem?_map, List.getElem?_eq_getElem hjl, List.getD])
          rw [addr_add, Nat.zero_add] at this
          exact this
      obtain ⟨g, rfl, hcn⟩ := hcw
      have hpl := fun wx => placed_any ((wl S).getD j 0) wx (by omega)
      have hstep : crF S k (j + 1) = if kp k j = true then upd (crF S k j) ((wl S).getD j 0) (thin ((S.waits ((wl S).getD j 0)).getD zeros)) else crF S k j := rfl
      rw [hwl] at hstep
      have HW := Lib.hid (And.intro hwl (And.intro hll (And.intro hl8 (And.intro hn8 (And.intro hpl hstep)))))
      clear hwl hll hl8 hn8 hpl hstep
      generalize hN : (wl S).getD j 0 = N at *
      clear hN
      by_cases hkj : kp k j = true
      · have hjk : j < k.length := by
          rcases Nat.lt_or_ge j k.length with h | h
          · exact h
          · rw [kp_out (by omega)] at hkj; cases hkj
        obtain ⟨b, o, rfl, hcb⟩ := hb.out (by omega)
        have hc := hcb j hjk
        rw [hkj] at hc
        have hst : crF S k (j + 1) = upd (crF S k j) N (thin l) := by rw [HW.out.2.2.2.2.2, if_pos hkj]; rfl
        have Hst := Lib.hid hst
        clear hkj hcb hst
        go_wp2_with fail
        refine (HW.out.2.2.2.2.1 wr).mono ?_; rintro e w2 ⟨rfl, hb2⟩
        clear hc hcn
        go_wp2_with (first
          | (refine wpList_alloc_place rfl rfl ?_; intro g6 w3 hg6 hp6 hb3)
          | (refine wpList_store_place rfl (.tmp 6) (.tmp 28) rfl g6 N 0 (by rfl) (by rfl) hp6 ?_; intro w4 hp7 ht4 hs4; clear hs4))
        go_frame
        have t4 : Turn (fun _ => False) wr w4 := ((Turn.ofBelow hb2).trans (Turn.ofBelow hb3)).step ht4 (fun i hi hl => by have := hb2.size; omega)
        have hg6' : wr.heap.size ≤ g6 := Nat.le_trans hb2.size hg6
        clear ht4 hb3 hb2 hp6 hg6
        refine wp_region_gt (F := fun i => i = bs) [(0, true), (1, true), (2, true), (3, true), (4, true), (5, true), (6, true), (7, true), (8, false)] (by kernel_rfl) (by kernel_rfl) (by kernel_rfl) (by kernel_rfl) (fun _ _ _ _ _ h => h) ?_
        have hbd : Below w4.heap.size w4 w4.drew := Ext.drew w4
        have t5 : Turn (fun _ => False) wr w4.drew := t4.trans (Turn.ofBelow hbd)
        have hp8 := hp7.ext hbd
        clear hbd t4 hp7
        generalize w4.drew = w5 at *
        clear w4 w3 w2
        have hD5 := hD.out.turn t5 (fun _ _ h => h)
        have hlt5 := hD.out.foot_lt
        have hc2 : ∀ w', Turn (fun i => i = bs) w5 w' → w'.cell? ⟨bd, 2, none⟩ = some (.map (some bw)) := fun w' he => (cell_of_row w' bd 2 _ _ _ (he.hg hD5.row hD5.ns))
        have hgb : g6 ≠ bs := fun e => by have := hlt5 bs (.inr (.inl rfl)); omega
        (refine wpGt_read (o := ⟨_, _, _, _, _, _⟩) (v := ?_) rfl (by rfl) ?_ ?_; rotate_left; (intro w' hw'; go_simp; with_reducible rfl); simp only [Act.put, List.setIfInBounds_toArray, List.set_cons_zero, List.set_cons_succ])
        refine wpGt_read (o := ⟨_, _, _, _, _, _⟩) (v := plc N) rfl (by rfl) (fun w' hw' => rd_load_place (.tmp 6) rfl g6 N (by rfl) (hw'.hg hp8 hgb)) ?_
        simp only [Act.put, List.setIfInBounds_toArray, List.set_cons_zero, List.set_cons_succ]
        iterate 4 (refine wpGt_read (o := ⟨_, _, _, _, _, _⟩) (v := ?_) rfl (by rfl) ?_ ?_; rotate_left; (intro w' hw'; go_simp; with_reducible rfl); simp only [Act.put, List.setIfInBounds_toArray, List.set_cons_zero, List.set_cons_succ])
        refine wpGt_read (o := ⟨_, _, _, _, _, _⟩) (v := plc N) rfl (by rfl) (fun w' hw' => rd_load_place (.tmp 6) rfl g6 N (by rfl) (hw'.hg hp8 hgb)) ?_
        simp only [Act.put, List.setIfInBounds_toArray, List.set_cons_zero, List.set_cons_succ]
        refine wpGt_read (o := ⟨_, _, _, _, _, _⟩) (v := sec ((S.waits N).getD zeros)) rfl (by rfl) (fun w' hw' => rd_look (.tmp 34) (.tmp 35) rfl bw (8 * S.pages) S.waits N (by rfl) (by rfl) (hD5.waits.turn hw' (fun e => H.out.ne e.symm)) HW.out.2.2.2.1) ?_
        simp only [Act.put, List.setIfInBounds_toArray, List.set_cons_zero, List.set_cons_succ]
        refine wpGt_call (o := ⟨_, _, _, _, _, _⟩) rfl (by rfl) (fun K hK => ?_)
        go_simp
        have hlay := lay_any w5 bd bs bw { S with safe := crF S k j } N l HW.out.2.2.2.1 HW.out.2.1 HW.out.2.2.1 hD5
        rw [show sec l = sec ((S.waits N).getD zeros) by rw [HW.out.1]; rfl] at hlay
        refine hlay.mono ?_
        rintro e w6 ⟨rfl, hD6, ht6⟩
        refine hK _ _ ht6 ?_
        clear hK K hlay
        refine wpGt_done ?_
        have t6 : Turn (fun i => i = bs) wr w6 := (t5.mono (fun _ h _ => h.elim)).step ht6 (fun i hi _ => hi)
        have hDn : Hid (Dev w6 bd bs bw { S with safe := crF S k (j + 1) }) := by
          have := hD6
          rw [← Hst.out] at this
          exact this
        have hTn : Hid (Turn (Foot bd bs bw) w w6) := hT.out.step t6 (fun i hi _ => .inr (.inl hi))
        have hon : Hid (w6.ownsRow w.heap.size IT 1 (.slice (some ⟨g, 0, none⟩) M cap) (wl S).length (ivs (wl S))) := own_turn ho.out t6 (fun i hi e => by have := (own_cells ho.out hi).1; have := H.out.foot_lt bs (.inr (.inl rfl)); omega)
        have hkn : Hid (BSrc w6 (some ⟨b, o, none⟩) k) := bs_foot hD.out hb.out t6 (fun i hi => .inl hi)
        clear hD6 ht6 t6 t5 hc2 hgb hD5 hp8 hlt5 hg6' Hst
        go_wp2
        go_roundw
        case rel => exact ⟨j + 1, by omega, by go_num, hDn, hTn, hon, hkn⟩
        case measure => simp [intOf]; omega
      · have hkf : kp k j = false := by cases hq : kp k j <;> simp_all
        have hst : crF S k (j + 1) = crF S k j := by rw [HW.out.2.2.2.2.2, if_neg hkj]
        have hDn : Hid (Dev wr bd bs bw { S with safe := crF S k (j + 1) }) := by rw [hst]; exact hD
        clear hkj hst HW
        by_cases hjk : j < k.length
        · obtain ⟨b, o, rfl, hcb⟩ := hb.out (by omega)
          have hc := hcb j hjk
          rw [hkf] at hc
          clear hcb hkf
          go_wp2
          go_roundw
          case rel => exact ⟨j + 1, by omega, by go_num, hDn, hT, ho, hb⟩
          case measure => simp [intOf]; omega
        · clear hkf
          go_wp2
          go_roundw
          case rel => exact ⟨j + 1, by omega, by go_num, hDn, hT, ho, hb⟩
          case measure => simp [intOf]; omega
    · obtain rfl : j = M := by omega
      have hD9 : Hid (Dev wr bd bs bw { S with safe := crF S k (wl S).length }) := by
        have := hD.out
        rw [HM.out] at this
        exact this
      have c2 := hD9.out.c2
      clear hD
      go_wp2_with (refine wpList_clear rfl (.tmp 42) rfl bw (8 * S.pages) S.waits (by rfl) hD9.out.waits ?_; intro w3 ho3 hg3; have hD3 := hD9.out.waitsTo hg3 ho3; have k5 := hD3.c5; have k3 := hD3.c3; have f5 := hD3.fz 5; have f3 := hD3.fz 3)
      clear c2
      have hfin : Dev ((w3.setCell ⟨bd, 5, none⟩ (.bool false)).setCell ⟨bd, 3, none⟩ (.bool false)) bd bs bw (crS S k) :=
        hD3.reset (a := false) (l := S.left) (d := false) (set2_same w3 bd 5 3 _ _ _ _ hD3.row) (set2_other w3 bd 5 3 bs _ _ hD3.ns.symm) (set2_other w3 bd 5 3 bw _ _ hD3.nw.symm) H.out.l1 H.out.l2 (fun h => by cases h)
      have ht : Turn (Foot bd bs bw) w ((w3.setCell ⟨bd, 5, none⟩ (.bool false)).setCell ⟨bd, 3, none⟩ (.bool false)) :=
        ((hT.out.trans ((Turn.ofGrown hg3).mono (fun i hi _ => .inr (.inr hi)))).setCell _ (fun _ => .inl rfl)).setCell _ (fun _ => .inl rfl)
      go_end0
      exact ⟨rfl, hfin, ht⟩
end Go.Proofs.YtbkjaifpgknadaaDoor
