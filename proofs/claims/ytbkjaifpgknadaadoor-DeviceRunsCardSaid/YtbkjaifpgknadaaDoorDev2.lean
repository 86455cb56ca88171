/-
  A sector's place; what was written last; what is laid; New.
-/
import Derived.Test.YtbkjaifpgknadaaDoorDev1
import Derived.Test.YtbkjaifpgknadaaDoorGt
import Derived.Test.YtbkjaifpgknadaaDoorSecW
import Derived.RegionTactic
namespace Go.Proofs.YtbkjaifpgknadaaDoor
open Go Go.RowKit Go.Maps

theorem placed_any (n : Nat) (w : World) (h : n < 8192) : Calls Tryd.prog 32 #[.int .i64 (n : Int)] w fun e w' => e = .returned (plc n) ∧ Below w.heap.size w w' := by
  have e1 : ((n / 8 : Nat) : Int) = (n : Int) / 8 := by omega
  have e2 : ((n % 8 : Nat) : Int) = (n : Int) % 8 := by omega
  have hp : plc n = .agg #[.int .i64 ((n : Int) / 8), .int .i64 ((n : Int) % 8)] := by unfold plc; rw [e1, e2]
  rw [hp]
  clear hp e1 e2
  go_enter Tryd.func32, Tryd.ntmps32
  go_wp2
  exact bodyPost_ret (v := .agg #[.int .i64 ((n : Int) / 8), .int .i64 ((n : Int) % 8)]) (by simp [results, Tryd.results32, go_sem]) rfl ⟨rfl, (Below.refl _ _).alloc (Nat.le_refl _) _⟩
/-- What was written last. -/
def rd (S : DS) (n : Nat) : List Nat := (S.waits n).getD ((S.safe n).getD zeros)
theorem zeros_len : zeros.length = 64 := List.length_replicate ..
theorem rd_len {w : World} {bd bs bw : Nat} {S : DS} (h : Dev w bd bs bw S) (n : Nat) : (rd S n).length = 64 := by
  obtain ⟨_, _, _, _, r1⟩ := h.safe
  obtain ⟨_, _, _, _, r2⟩ := h.waits
  unfold rd
  cases h1 : S.waits n with
  | some l => exact (r2.form n l h1).1
  | none =>
    cases h2 : S.safe n with
    | some l => exact (r1.form n l h2).1
    | none => exact zeros_len
theorem rd_b8 {w : World} {bd bs bw : Nat} {S : DS} (h : Dev w bd bs bw S) (n : Nat) : B8 (rd S n) := by
  obtain ⟨_, _, _, _, r1⟩ := h.safe
  obtain ⟨_, _, _, _, r2⟩ := h.waits
  unfold rd
  cases h1 : S.waits n with
  | some l => exact (r2.form n l h1).2.1
  | none =>
    cases h2 : S.safe n with
    | some l => exact (r1.form n l h2).2.1
    | none => intro x hx; have := List.eq_of_mem_replicate hx; omega
set_option maxRecDepth 100000 in
theorem at_any (w : World) (bd bs bw : Nat) (S : DS) (n : Nat) (hn : n < 8 * S.pages) (h : Dev w bd bs bw S) :
    Calls Tryd.prog 35 #[.pointer (some ⟨bd, 0, none⟩), plc n] w fun e w' => e = .returned (sec (rd S n)) ∧ Below w.heap.size w w' := by
  have H := Lib.hid h
  have hl0 := rd_len h n
  have hlw : ((S.waits n).getD zeros).length = 64 := by
    obtain ⟨_, _, _, _, r2⟩ := h.waits
    cases h1 : S.waits n with
    | some l => exact (r2.form n l h1).1
    | none => exact zeros_len
  have Hl := Lib.hid (And.intro hl0 hlw)
  have Hn := Lib.hid hn
  clear h hn hl0 hlw
  go_enter Tryd.func35, Tryd.ntmps35
  go_wp2_with (first
    | (refine wpList_box_place rfl (.tmp 1) rfl n (by rfl) ?_; intro g3 w1 hg3 hp3 hb3)
    | (refine wpList_alloc_sec rfl rfl ?_; intro g4 w2 hg4 hr4 hb4))
  go_frame
  have hb2 : Below w.heap.size w w2 := hb3.trans (hb4.mono hb3.size)
  refine wp_region_gt (F := fun i => w2.heap.size ≤ i) [(0, true), (1, true), (2, true), (3, true), (4, true), (5, true), (6, true), (7, true), (8, true), (9, false), (10, false), (11, true)] (by kernel_rfl) (by kernel_rfl) (by kernel_rfl) (by kernel_rfl) (fun _ _ _ _ _ h => h) ?_
  have hbd : Below w2.heap.size w2 w2.drew := Ext.drew w2
  have hsd : w2.drew.heap.size = w2.heap.size := rfl
  rw [← hsd]
  have hD := (H.out.below hb2).below hbd
  have hp := (hp3.ext hb4).ext hbd
  have hr := hr4.ext hbd
  have hb5 : Below w.heap.size w w2.drew := hb2.trans (hbd.mono hb2.size)
  have hgw : w.heap.size ≤ g3 ∧ w.heap.size ≤ g4 := ⟨hg3, Nat.le_trans hb3.size hg4⟩
  clear hbd hsd hg3 hg4 hp3 hb3 hr4 hb4 hb2
  generalize w2.drew = w3 at *
  clear w1 w2
  have hF : ∀ i, Foot bd bs bw i → ¬ w3.heap.size ≤ i := fun i hi => by have := hD.foot_lt i hi; omega
  have hc2 : ∀ w', Turn (fun i => w3.heap.size ≤ i) w3 w' → w'.cell? ⟨bd, 2, none⟩ = some (.map (some bw)) := fun w' he => (hD.turn he hF).c2
  iterate 4 (refine wpGt_read (o := ⟨_, _, _, _, _, _⟩) (v := ?_) rfl (by rfl) ?_ ?_; rotate_left; (intro w' hw'; go_simp; with_reducible rfl); simp only [Act.put, List.setIfInBounds_toArray, List.set_cons_zero, List.set_cons_succ])
  refine wpGt_read (o := ⟨_, _, _, _, _, _⟩) (v := plc n) rfl (by rfl) (fun w' hw' => rd_load_place (.tmp 3) rfl g3 n (by rfl) (hw'.hg hp (by have := hp.lt; omega))) ?_
  simp only [Act.put, List.setIfInBounds_toArray, List.set_cons_zero, List.set_cons_succ]
  refine wpGt_read (o := ⟨_, _, _, _, _, _⟩) (v := .tuple #[sec ((S.waits n).getD zeros), .bool (S.waits n).isSome]) rfl (by rfl) (fun w' hw' => rd_look_ok (.tmp 11) (.tmp 12) rfl bw (8 * S.pages) S.waits n (by rfl) (by rfl) (hD.turn hw' hF).waits Hn.out) ?_
  simp only [Act.put, List.setIfInBounds_toArray, List.set_cons_zero, List.set_cons_succ]
  iterate 3 (refine wpGt_read (o := ⟨_, _, _, _, _, _⟩) (v := ?_) rfl (by rfl) ?_ ?_; rotate_left; (intro w' hw'; go_simp; with_reducible rfl); simp only [Act.put, List.setIfInBounds_toArray, List.set_cons_zero, List.set_cons_succ])
  refine wpGt_call (o := ⟨_, _, _, _, _, _⟩) rfl (by rfl) (fun K hK => ?_)
  refine wp_alloc_sec rfl ?_
  intro g5 w4 hg5 hr5 hb4
  refine hK _ _ (Turn.ofBelow hb4) ?_
  clear hK K
  simp only [Act.put, List.setIfInBounds_toArray, List.set_cons_zero, List.set_cons_succ]
  refine wpGt_call (o := ⟨_, _, _, _, _, _⟩) rfl (by rfl) (fun K hK => ?_)
  refine wp_store_sec (.tmp 5) (.tmp 14) rfl g5 _ zeros (by rfl) (by rfl) hr5 Hl.out.2 zeros_len ?_
  intro w5 hr6 ht6 hs6
  refine hK _ _ (ht6.mono (fun i hi _ => by rw [hi]; exact hg5)) ?_
  clear hK K
  simp only [Act.put]
  (refine wpGt_read (o := ⟨_, _, _, _, _, _⟩) (v := ?_) rfl (by rfl) ?_ ?_; rotate_left; (intro w' hw'; go_simp; with_reducible rfl); simp only [Act.put, List.setIfInBounds_toArray, List.set_cons_zero, List.set_cons_succ])
  refine wpGt_done ?_
  have hb6 : Below w3.heap.size w3 w5 := hb4.trans (ht6.below hb4.size (fun i hi => by rw [hi]; exact hg5))
  have hD5 := hD.below hb6
  have hp5 := hp.ext hb6
  have hr5' := hr.ext hb6
  have hbw : Below w.heap.size w w5 := hb5.trans (hb6.mono hb5.size)
  clear hr5 hb4 ht6 hs6 hF hc2 hD hp hr hb5 hb6
  obtain ⟨X, hX⟩ : ∃ X, X = S.waits n := ⟨_, rfl⟩
  have hrd : rd S n = X.getD ((S.safe n).getD zeros) := by unfold rd; rw [hX]
  rw [← hX]
  have Hrd := Lib.hid hrd
  have hl1 := Hl.out.1
  have hl2 := Hl.out.2
  rw [hrd] at hl1
  rw [← hX] at hl2 hr6
  clear hrd hX Hl
  cases X with
  | some l =>
    have hl3 : l.length = 64 := hl2
    have hr7 : Row w5 g5 ST l := hr6
    have hfin : ∀ w6, Turn (fun i => i = g4) w5 w6 → Below w.heap.size w w6 := fun w6 t => hbw.trans (t.below hbw.size (fun i hi => by rw [hi]; exact hgw.2))
    have Hf := Lib.hid hfin
    clear hl1 hl2 hr6 hfin
    simp only [Option.isSome_some, Option.getD_some]
    go_wp2_with (first
      | (refine wpList_load_sec rfl (.tmp 5) rfl g5 l (by rfl) hr7 hl3 ?_)
      | (refine wpList_store_sec rfl (.tmp 4) (.tmp 17) rfl g4 l zeros (by rfl) (by rfl) hr5' hl3 zeros_len ?_; intro w6 hr8 ht8 hs8))
    go_frame
    exact bodyPost_ret (results_sec rfl _ _ g4 l (by rfl) hr8 hl3) rfl ⟨by rw [Hrd.out]; rfl, Hf.out _ ht8⟩
  | none =>
    clear hl2 hr6
    simp only [Option.isSome_none, Option.getD_none]
    simp only [Option.getD_none] at hl1
    go_wp2
    refine wp_region_gt (F := fun i => i = g4) [(0, true), (1, true), (2, true), (3, true), (4, true), (5, true), (6, false)] (by kernel_rfl) (by kernel_rfl) (by kernel_rfl) (by kernel_rfl) (fun _ _ _ _ _ h => h) ?_
    have hbd : Below w5.heap.size w5 w5.drew := Ext.drew w5
    have hD6 := hD5.below hbd
    have hp6 := hp5.ext hbd
    have hr6 := hr5'.ext hbd
    have hb6 : Below w.heap.size w w5.drew := hbw.trans (hbd.mono hbw.size)
    clear hbd hD5 hp5 hr5' hbw
    generalize w5.drew = w6 at *
    have h34 : g3 ≠ g4 := by
      intro e
      rw [e] at hp6
      have h1 : w6.heap[g4]? = some (.cells (pcs n) PT (0, 0)) := hp6
      have h2 : w6.heap[g4]? = some (.cells (bv zeros).toArray ST (0, 0)) := hr6
      rw [h1] at h2
      have h3 := Option.some.inj h2
      injection h3 with _ h4 _
      exact absurd h4 (by decide)
    have hF : ∀ i, Foot bd bs bw i → ¬ i = g4 := fun i hi e => by have := H.out.foot_lt i hi; have := hgw.2; omega
    have hc1 : ∀ w', Turn (fun i => i = g4) w6 w' → w'.cell? ⟨bd, 1, none⟩ = some (.map (some bs)) := fun w' he => (hD6.turn he hF).c1
    iterate 4 (refine wpGt_read (o := ⟨_, _, _, _, _, _⟩) (v := ?_) rfl (by rfl) ?_ ?_; rotate_left; (intro w' hw'; go_simp; with_reducible rfl); simp only [Act.put, List.setIfInBounds_toArray, List.set_cons_zero, List.set_cons_succ])
    refine wpGt_read (o := ⟨_, _, _, _, _, _⟩) (v := plc n) rfl (by rfl) (fun w' hw' => rd_load_place (.tmp 3) rfl g3 n (by rfl) (hw'.hg hp6 h34)) ?_
    simp only [Act.put, List.setIfInBounds_toArray, List.set_cons_zero, List.set_cons_succ]
    refine wpGt_read (o := ⟨_, _, _, _, _, _⟩) (v := sec ((S.safe n).getD zeros)) rfl (by rfl) (fun w' hw' => rd_look (.tmp 21) (.tmp 22) rfl bs (8 * S.pages) S.safe n (by rfl) (by rfl) (hD6.turn hw' hF).safe Hn.out) ?_
    simp only [Act.put, List.setIfInBounds_toArray, List.set_cons_zero, List.set_cons_succ]
    refine wpGt_call (o := ⟨_, _, _, _, _, _⟩) rfl (by rfl) (fun K hK => ?_)
    refine wp_store_sec (.tmp 4) (.tmp 23) rfl g4 _ zeros (by rfl) (by rfl) hr6 hl1 zeros_len ?_
    intro w7 hr7 ht7 hs7
    refine hK _ _ ht7 ?_
    clear hK K
    simp only [Act.put]
    refine wpGt_done ?_
    have hfin : Below w.heap.size w w7 := hb6.trans (ht7.below hb6.size (fun i hi => by rw [hi]; exact hgw.2))
    have Hf := Lib.hid hfin
    clear ht7 hs7 hfin hc1 hF
    go_wp2
    exact bodyPost_ret (results_sec rfl _ _ g4 _ (by rfl) hr7 hl1) rfl ⟨by rw [Hrd.out]; rfl, Hf.out⟩
end Go.Proofs.YtbkjaifpgknadaaDoor
