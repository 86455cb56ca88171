/-
  What is laid; Write; Read; New.
-/
import Derived.Test.YtbkjaifpgknadaaDoorDev2
import Derived.Test.YtbkjaifpgknadaaDoorSecE
namespace Go.Proofs.YtbkjaifpgknadaaDoor
open Go Go.RowKit Go.Maps

/-- What a sector is as it is laid: noughts are none. -/
def thin (l : List Nat) : Option (List Nat) := if l = zeros then none else some l
theorem Dev.maps {w w' : World} {bd bs bw : Nat} {S : DS} (h : Dev w bd bs bw S) {f g : Secs} (hr : w'.heap[bd]? = w.heap[bd]?) (hs : OM w' bs (8 * S.pages) f) (hw : OM w' bw (8 * S.pages) g) : Dev w' bd bs bw { S with safe := f, waits := g } :=
  ⟨hr.trans h.row, hs, hw, h.ne, h.p1, h.p2, h.l1, h.l2, h.arm⟩
theorem Dev.safeTo {w w' : World} {bd bs bw : Nat} {S : DS} (h : Dev w bd bs bw S) {f : Secs} (hg : w.grownBy w' (some bs)) (hs : OM w' bs (8 * S.pages) f) : Dev w' bd bs bw { S with safe := f } :=
  h.maps (hg.block bd h.lt (fun e => h.ns (Option.some.inj e))) hs (h.waits.keptAt (hg.block bw h.waits.lt (fun e => h.ne (Option.some.inj e).symm)))
theorem Dev.waitsTo {w w' : World} {bd bs bw : Nat} {S : DS} (h : Dev w bd bs bw S) {f : Secs} (hg : w.grownBy w' (some bw)) (hs : OM w' bw (8 * S.pages) f) : Dev w' bd bs bw { S with waits := f } :=
  h.maps (hg.block bd h.lt (fun e => h.nw (Option.some.inj e))) (h.safe.keptAt (hg.block bs h.safe.lt (fun e => h.ne (Option.some.inj e)))) hs
set_option maxRecDepth 100000 in
theorem lay_any (w : World) (bd bs bw : Nat) (S : DS) (n : Nat) (l : List Nat) (hn : n < 8 * S.pages) (hl : l.length = 64) (h8 : B8 l) (h : Dev w bd bs bw S) :
    Calls Tryd.prog 33 #[.pointer (some ⟨bd, 0, none⟩), plc n, sec l] w fun e w' => e = .returned (.tuple #[]) ∧ Dev w' bd bs bw { S with safe := upd S.safe n (thin l) } ∧ Turn (fun i => i = bs) w w' := by
  have H := Lib.hid h
  have Hn := Lib.hid hn
  have Hl := Lib.hid hl
  have hz8 : B8 zeros := by intro x hx; have := List.eq_of_mem_replicate hx; omega
  clear h hn hl
  go_enter Tryd.func33, Tryd.ntmps33
  go_wp2_with (first
    | (refine wpList_box_place rfl (.tmp 1) rfl n (by rfl) ?_; intro g4 w1 hg4 hp4 hb4)
    | (refine wpList_box_sec rfl (.tmp 2) rfl l (by rfl) ?_; intro g5 w2 hg5 hr5 hb5)
    | (refine wpList_load_sec rfl (.tmp 5) rfl g5 l (by rfl) hr5 Hl.out ?_)
    | (refine wpList_build_sec rfl rfl ?_)
    | (refine wpList_eql_sec rfl (.tmp 6) (.tmp 7) 70 rfl l zeros (by rfl) (by rfl) Hl.out zeros_len h8 hz8 ?_))
  all_goals
    go_frame
    have hb2 : Below w.heap.size w w2 := hb4.trans (hb5.mono hb4.size)
    have hgw : w.heap.size ≤ g4 ∧ w.heap.size ≤ g5 := ⟨hg4, Nat.le_trans hb4.size hg5⟩
    have hD2 := H.out.below hb2
    have hp2 := hp4.ext hb5
    have hbd : Below w2.heap.size w2 w2.drew := Ext.drew w2
    have hD := hD2.below hbd
    have hp := hp2.ext hbd
    have hr := hr5.ext hbd
    have hb3 : Below w.heap.size w w2.drew := hb2.trans (hbd.mono hb2.size)
    have hlt := H.out.foot_lt
    clear hbd hp4 hb4 hp2 hD2 hb2 hb5 hr5
  · have hz : l = zeros := by assumption
    have Ht := Lib.hid (show thin l = none from by unfold thin; rw [if_pos hz])
    clear hz
    refine wp_region_gt (F := fun i => i = bs) [(0, true), (1, true), (2, true), (3, true), (4, true), (5, false)] (by kernel_rfl) (by kernel_rfl) (by kernel_rfl) (by kernel_rfl) (fun _ _ _ _ _ h => h) ?_
    generalize w2.drew = w3 at *
    have hc1 : ∀ w', Turn (fun i => i = bs) w3 w' → w'.cell? ⟨bd, 1, none⟩ = some (.map (some bs)) := fun w' he => (cell_of_row w' bd 1 _ _ _ (he.hg hD.row hD.ns))
    iterate 4 (refine wpGt_read (o := ⟨_, _, _, _, _, _⟩) (v := ?_) rfl (by rfl) ?_ ?_; rotate_left; (intro w' hw'; go_simp; with_reducible rfl); simp only [Act.put, List.setIfInBounds_toArray, List.set_cons_zero, List.set_cons_succ])
    refine wpGt_read (o := ⟨_, _, _, _, _, _⟩) (v := plc n) rfl (by rfl) (fun w' hw' => rd_load_place (.tmp 4) rfl g4 n (by rfl) (hw'.hg hp (by have := hlt bs (.inr (.inl rfl)); omega))) ?_
    simp only [Act.put, List.setIfInBounds_toArray, List.set_cons_zero, List.set_cons_succ]
    refine wpGt_call (o := ⟨_, _, _, _, _, _⟩) rfl (by rfl) (fun K hK => ?_)
    refine wp_del (.tmp 12) (.tmp 13) rfl bs (8 * S.pages) S.safe n (by rfl) (by rfl) hD.safe Hn.out ?_
    intro w4 ho4 hg4'
    refine hK _ _ (Turn.ofGrown hg4') ?_
    clear hK K
    simp only [Act.put]
    refine wpGt_done ?_
    have hfin : Dev w4 bd bs bw { S with safe := upd S.safe n none } := hD.safeTo hg4' ho4
    have hturn : Turn (fun i => i = bs) w w4 := (Turn.ofBelow hb3).trans (Turn.ofGrown hg4')
    have Hf := Lib.hid (And.intro hfin hturn)
    clear hfin hturn hg4' ho4 hc1 hD hp hr hb3
    go_wp2
    (try simp only [Exit.inBlock, Exit.then])
    refine bodyPost_ret (results_none rfl _ _ _) rfl ?_
    exact ⟨rfl, by rw [Ht.out]; exact Hf.out.1, Hf.out.2⟩
  · have hz : ¬ l = zeros := by assumption
    have Ht := Lib.hid (show thin l = some l from by unfold thin; rw [if_neg hz])
    clear hz
    refine wp_region_gt (F := fun i => i = bs) [(0, true), (1, true), (2, true), (3, true), (4, true), (5, true), (6, false)] (by kernel_rfl) (by kernel_rfl) (by kernel_rfl) (by kernel_rfl) (fun _ _ _ _ _ h => h) ?_
    generalize w2.drew = w3 at *
    have hc1 : ∀ w', Turn (fun i => i = bs) w3 w' → w'.cell? ⟨bd, 1, none⟩ = some (.map (some bs)) := fun w' he => (cell_of_row w' bd 1 _ _ _ (he.hg hD.row hD.ns))
    iterate 4 (refine wpGt_read (o := ⟨_, _, _, _, _, _⟩) (v := ?_) rfl (by rfl) ?_ ?_; rotate_left; (intro w' hw'; go_simp; with_reducible rfl); simp only [Act.put, List.setIfInBounds_toArray, List.set_cons_zero, List.set_cons_succ])
    refine wpGt_read (o := ⟨_, _, _, _, _, _⟩) (v := plc n) rfl (by rfl) (fun w' hw' => rd_load_place (.tmp 4) rfl g4 n (by rfl) (hw'.hg hp (by have := hlt bs (.inr (.inl rfl)); omega))) ?_
    simp only [Act.put, List.setIfInBounds_toArray, List.set_cons_zero, List.set_cons_succ]
    refine wpGt_read (o := ⟨_, _, _, _, _, _⟩) (v := sec l) rfl (by rfl) (fun w' hw' => rd_load_sec (.tmp 5) rfl g5 l (by rfl) (hw'.hg hr (by have := hlt bs (.inr (.inl rfl)); omega)) Hl.out) ?_
    simp only [Act.put, List.setIfInBounds_toArray, List.set_cons_zero, List.set_cons_succ]
    refine wpGt_call (o := ⟨_, _, _, _, _, _⟩) rfl (by rfl) (fun K hK => ?_)
    refine wp_put (.tmp 17) (.tmp 18) (.tmp 19) rfl bs (8 * S.pages) S.safe n l (by rfl) (by rfl) (by rfl) hD.safe Hn.out Hl.out h8 ?_
    intro w4 ho4 hg4'
    refine hK _ _ (Turn.ofGrown hg4') ?_
    clear hK K
    simp only [Act.put]
    refine wpGt_done ?_
    have hfin : Dev w4 bd bs bw { S with safe := upd S.safe n (some l) } := hD.safeTo hg4' ho4
    have hturn : Turn (fun i => i = bs) w w4 := (Turn.ofBelow hb3).trans (Turn.ofGrown hg4')
    have Hf := Lib.hid (And.intro hfin hturn)
    clear hfin hturn hg4' ho4 hc1 hD hp hr hb3
    go_end0
    exact ⟨rfl, by rw [Ht.out]; exact Hf.out.1, Hf.out.2⟩
end Go.Proofs.YtbkjaifpgknadaaDoor
