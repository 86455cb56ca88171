/-
  Read; New; Copy.
-/
import Derived.Test.YtbkjaifpgknadaaDoorDev4
import Derived.Carry
import Derived.Shelf.SlMaps.Clone
namespace Go.Proofs.YtbkjaifpgknadaaDoor
open Go Go.RowKit Go.Maps

theorem read_bad (w : World) (bd bs bw : Nat) (S : DS) (n : Int) (f : Int) (hf : amongE S n (8 * S.pages : Nat) = f) (hf0 : f ≠ 0) (h : Dev w bd bs bw S) :
    Calls Tryd.prog 8 #[.pointer (some ⟨bd, 0, none⟩), .int .i64 n] w fun e w' => e = .returned (.tuple #[.slice none 0 0, errV f]) ∧ w = w' := by
  have hp1 := h.p1
  have hp2 := h.p2
  have hpg := pages_any w bd bs bw S h
  have hmul : (S.pages : Int) * 8 = ((8 * S.pages : Nat) : Int) := by omega
  have ham := among_any w bd bs bw S n ((8 * S.pages : Nat) : Int) h
  rw [hf, errV_ne hf0] at ham
  rw [errV_ne hf0]
  have HP := Lib.hid (And.intro hpg ham)
  generalize hM : 8 * S.pages = M at *
  have hMl : M ≤ 8192 := by omega
  clear hpg ham h hf hM
  go_enter Tryd.func8, Tryd.ntmps8
  go_wp2_with fail
  refine HP.out.1.mono ?_; rintro e w' ⟨rfl, rfl⟩
  go_wp2_with fail
  refine HP.out.2.mono ?_; rintro e w' ⟨rfl, rfl⟩
  go_wp2_with fail
  go_ret2
  exact ⟨rfl, rfl⟩
/-- A new sector behind a call. -/
def NewSec (w : World) (l : List Nat) (x : Value) (e : Ending) (w' : World) : Prop := ∃ g, w.heap.size ≤ g ∧ e = .returned (.tuple #[.slice (some ⟨g, 0, none⟩) 64 64, x]) ∧ Row w' g ST l ∧ Below w.heap.size w w'
set_option maxRecDepth 100000 in
theorem read_ok (w : World) (bd bs bw : Nat) (S : DS) (n : Nat) (hf : amongE S n (8 * S.pages : Nat) = 0) (h : Dev w bd bs bw S) :
    Calls Tryd.prog 8 #[.pointer (some ⟨bd, 0, none⟩), .int .i64 (n : Int)] w (NewSec w (rd S n) .nilIface) := by
  have hp1 := h.p1
  have hp2 := h.p2
  have hpg := pages_any w bd bs bw S h
  have hmul : (S.pages : Int) * 8 = ((8 * S.pages : Nat) : Int) := by omega
  have ham := among_any w bd bs bw S n ((8 * S.pages : Nat) : Int) h
  have hnM : n < 8 * S.pages := by
    rcases among_ne S n ((8 * S.pages : Nat) : Int) with ⟨_, _, _, h4⟩ | he | he
    · omega
    · rw [he] at hf; cases hf
    · rw [he] at hf; cases hf
  rw [hf, errV_zero] at ham
  have hpl := fun w' => placed_any n w' (by omega)
  have hat := fun (w' : World) (hb : Below w.heap.size w w') => at_any w' bd bs bw S n hnM (h.below hb)
  have hl := rd_len h n
  have HP := Lib.hid (And.intro hpg (And.intro ham (And.intro hpl (And.intro hat hl))))
  generalize hM : 8 * S.pages = M at *
  generalize rd S n = L at *
  have hMl : M ≤ 8192 := by omega
  clear hpg ham h hf hM hpl hat hl
  go_enter Tryd.func8, Tryd.ntmps8
  go_wp2_with fail
  refine HP.out.1.mono ?_; rintro e w' ⟨rfl, rfl⟩
  go_wp2_with fail
  refine HP.out.2.1.mono ?_; rintro e w' ⟨rfl, rfl⟩
  go_wp2_with fail
  refine (HP.out.2.2.1 w).mono ?_; rintro e w1 ⟨rfl, hb1⟩
  go_wp2_with fail
  refine (HP.out.2.2.2.1 w1 hb1).mono ?_; rintro e w2 ⟨rfl, hb2⟩
  have hb12 : Below w.heap.size w w2 := hb1.trans (hb2.mono hb1.size)
  clear hb1 hb2
  go_wp2_with (first
    | (refine wpList_alloc_sec rfl rfl ?_; intro g w3 hg3 hr3 hb3)
    | (refine wpList_store_sec rfl (.tmp 7) (.tmp 20) rfl g L zeros (by rfl) (by rfl) hr3 HP.out.2.2.2.2 zeros_len ?_; intro w4 hr4 ht4 hs4))
  have hgw : w.heap.size ≤ g := Nat.le_trans hb12.size hg3
  have hfin : Below w.heap.size w w4 := (hb12.trans (hb3.mono hb12.size)).trans (ht4.below (Nat.le_trans hb12.size hb3.size) (fun i hi => by rw [hi]; exact hgw))
  have Hf := Lib.hid (And.intro hr4 hfin)
  clear hr4 hfin ht4 hs4 hr3 hb3 hb12
  go_wp2
  go_ret2
  exact ⟨g, hgw, rfl, Hf.out.1, Hf.out.2⟩
theorem new_bad (w : World) (n : Int) (hn : n < 1 ∨ 1024 < n) : Calls Tryd.prog 16 #[.int .i64 n] w fun e w' => e = .returned (.tuple #[.pointer none, errV 2]) ∧ w = w' := by
  rw [errV_ne (by decide)]
  by_cases h1 : n < 1
  · clear hn
    go_enter Tryd.func16, Tryd.ntmps16
    go_wp2
    go_ret2
    exact ⟨rfl, rfl⟩
  · have h2 : 1024 < n := by omega
    have d1 : decide (n < 1) = false := by simpa using h1
    clear hn
    go_enter Tryd.func16, Tryd.ntmps16
    go_wp2
    go_ret2
    exact ⟨rfl, rfl⟩
def new0 (n : Nat) : DS := ⟨n, fun _ => none, fun _ => none, false, 0, false⟩
/-- A new device behind a call. -/
def NewDev (w : World) (S : DS) (mk : Value → Value) (e : Ending) (w' : World) : Prop :=
  ∃ bd bs bw, w.heap.size ≤ bd ∧ w.heap.size ≤ bs ∧ w.heap.size ≤ bw ∧ e = .returned (mk (.pointer (some ⟨bd, 0, none⟩))) ∧ Dev w' bd bs bw S ∧ Below w.heap.size w w'
theorem dev_new (w : World) (n : Nat) (h1 : 1 ≤ n) (h2 : n ≤ 1024) :
    Dev (((w.alloc (.map #[] 0)).alloc (.map #[] 0)).alloc (.cells #[.int .i64 (n : Int), .map (some w.heap.size), .map (some (w.heap.size + 1)), .bool false, .int .i64 0, .bool false] DT)) (w.heap.size + 1 + 1) w.heap.size (w.heap.size + 1) (new0 n) := by
  have e1 : (w.alloc (.map #[] 0)).heap.size = w.heap.size + 1 := by simp
  have e2 : ((w.alloc (.map #[] 0)).alloc (.map #[] 0)).heap.size = w.heap.size + 1 + 1 := by simp
  have h0 := OM.made w (8 * n) (by omega)
  have h1' := OM.made (w.alloc (.map #[] 0)) (8 * n) (by omega)
  rw [e1] at h1'
  refine ⟨?_, ?_, ?_, by omega, h1, h2, (by show (-9223372036854775808 : Int) ≤ 0; omega), (by show (0 : Int) ≤ 9223372036854775807; omega), fun h => by cases h⟩
  · rw [← e2]; exact heap_alloc_new _ _
  · exact (h0.keptAt (Below.heap_alloc _ _ _ (by simp))).keptAt (Below.heap_alloc _ _ _ (by simp; omega))
  · exact h1'.keptAt (Below.heap_alloc _ _ _ (by simp))
theorem new_ok (w : World) (n : Nat) (h1 : 1 ≤ n) (h2 : n ≤ 1024) : Calls Tryd.prog 16 #[.int .i64 (n : Int)] w (NewDev w (new0 n) (fun p => .tuple #[p, .nilIface])) := by
  have hmm := @run_makeMap Tryd.prog
  have d1 : decide ((n : Int) < 1) = false := by simp; omega
  have d2 : decide (1024 < (n : Int)) = false := by simp; omega
  go_enter Tryd.func16, Tryd.ntmps16
  go_wp2
  go_ret2
  exact ⟨w.heap.size + 1 + 1, w.heap.size, w.heap.size + 1, by omega, Nat.le_refl _, by omega, rfl, dev_new w n h1 h2, (((Below.refl _ w).alloc (Nat.le_refl _) _).alloc (by simp) _).alloc (by simp; omega) _⟩
/-- A new map behind a call. -/
def NewMap (w : World) (M : Nat) (g : Secs) (e : Ending) (w' : World) : Prop := ∃ b, w.heap.size ≤ b ∧ e = .returned (.map (some b)) ∧ OM w' b M g ∧ Below w.heap.size w w'
set_option maxRecDepth 100000 in
theorem clone_om (w : World) (b M : Nat) (g : Secs) (h : OM w b M g) :
    Calls Tryd.prog 38 #[.map (some b)] w (NewMap w M g) := by
  obtain ⟨hM, N, D, ⟨es, clock, hb, F, hs, hD⟩, r⟩ := h
  have hfin : OM (w.alloc (.map es clock)) w.heap.size M g := ⟨hM, N, D, ⟨es, clock, heap_alloc_new _ _, F, hs, hD⟩, r⟩
  have Hf := Lib.hid hfin
  have Hb := Lib.hid hb
  clear hfin F hs hD r hb
  have hq := fun wx => run_eql_map_nil_sl (P := Tryd.prog) wx MT _ _ (some b) map_under
  go_enter Tryd.func38, Tryd.ntmps38
  go_wp2
  rw [run_callFunc_extern Tryd.func45 (by kernel_rfl) (by kernel_rfl) (by kernel_rfl) (e := Extern.MapsClone.clone) (by kernel_rfl), run_maps_clone_sl w MT Hb.out]
  simp only [Result.andThen]
  rw [Oper.upon_value]
  go_wp2
  rw [run_typeAssert_map_sl _ MT 20 _ _ _ map_under]
  simp only [Result.andThen]
  rw [Oper.upon_value]
  go_wp2
  go_ret
  exact ⟨w.heap.size, Nat.le_refl _, rfl, Hf.out, (Below.refl _ w).alloc (Nat.le_refl _) _⟩
theorem copy_nil (w : World) : Calls Tryd.prog 13 #[.pointer none] w fun e w' => e = .returned (.pointer none) ∧ w = w' := by
  go_enter Tryd.func13, Tryd.ntmps13
  go_wp2
  go_ret
  exact ⟨rfl, rfl⟩
theorem copy_any (w : World) (bd bs bw : Nat) (S : DS) (h : Dev w bd bs bw S) : Calls Tryd.prog 13 #[.pointer (some ⟨bd, 0, none⟩)] w (NewDev w S (fun p => p)) := by
  have c0 := h.c0
  have c1 := h.c1
  have c2 := h.c2
  have c3 := h.c3
  have c4 := h.c4
  have c5 := h.c5
  have H := Lib.hid h
  have hlt := h.lt
  clear h
  go_enter Tryd.func13, Tryd.ntmps13
  go_wp2_with fail
  refine (clone_om _ bs (8 * S.pages) S.safe (H.out.safe.keptAt (Below.heap_alloc _ _ _ H.out.safe.lt))).mono ?_
  rintro e w1 ⟨g1, hg1, rfl, ho1, hb1⟩
  have hs1 : w.heap.size + 1 ≤ g1 := by simpa using hg1
  have hr1 : w1.heap[w.heap.size]? = some (.cells (dcs bs bw S) DT (0, 0)) := (hb1.block _ (by simp)).trans (heap_alloc_new w _)
  have hbw1 : Below w.heap.size w w1 := ((Below.refl _ w).alloc (Nat.le_refl _) _).trans (hb1.mono (by simp))
  have hz1 := hb1.size
  have hz1' : w.heap.size + 1 ≤ w1.heap.size := by simpa using hz1
  have hD1 := H.out.below hbw1
  have k1 : w1.cell? ⟨bd, 1, none⟩ = some (.map (some bs)) := hD1.c1
  have k2 : w1.cell? ⟨bd, 2, none⟩ = some (.map (some bw)) := hD1.c2
  have k3 : w1.cell? ⟨w.heap.size, 1, none⟩ = some (.map (some bs)) := cell_of_row w1 w.heap.size 1 _ _ _ hr1
  have k4 : w1.frozen? ⟨w.heap.size, 1, none⟩ = false := frozen_of_row w1 w.heap.size 1 _ _ hr1
  have hne : bd ≠ w.heap.size := by omega
  have HK := Lib.hid (And.intro ho1 (And.intro hbw1 (And.intro hD1 (And.intro hs1 (And.intro hr1 hz1')))))
  clear ho1 hb1 hbw1 hD1 hs1 hr1 hz1 hz1' hg1
  go_wp2_with fail
  have hD2 : Dev (w1.setCell ⟨w.heap.size, 1, none⟩ (.map (some g1))) bd bs bw S :=
    HK.out.2.2.1.turn (F := fun i => i = w.heap.size) ((Turn.refl _ w1).setCell (p := ⟨w.heap.size, 1, none⟩) _ (fun _ => rfl)) (fun i hi e => by have := H.out.foot_lt i hi; omega)
  have ho1' : OM (w1.setCell ⟨w.heap.size, 1, none⟩ (.map (some g1))) g1 (8 * S.pages) S.safe := HK.out.1.keptAt (heap_setCell_other _ _ _ _ (by have := HK.out.2.2.2.1; show g1 ≠ w.heap.size; omega))
  have hr2 := heap_setCell_same w1 w.heap.size 1 _ _ (.map (some g1)) HK.out.2.2.2.2.1
  have hb2 : Below w.heap.size w (w1.setCell ⟨w.heap.size, 1, none⟩ (.map (some g1))) := HK.out.2.1.setCell (Nat.le_refl _) _
  have hz2 : w.heap.size + 1 ≤ (w1.setCell ⟨w.heap.size, 1, none⟩ (.map (some g1))).heap.size := by have := HK.out.2.2.2.2.2; simpa [World.setCell] using this
  have hs1 := HK.out.2.2.2.1
  have HL := Lib.hid (And.intro hD2 (And.intro ho1' (And.intro hr2 (And.intro hb2 (And.intro hz2 hs1)))))
  clear hD2 ho1' hr2 hb2 hz2 HK k1 k2 k3 k4 hs1
  generalize w1.setCell ⟨w.heap.size, 1, none⟩ (.map (some g1)) = w2 at *
  refine (clone_om _ bw (8 * S.pages) S.waits HL.out.1.waits).mono ?_
  rintro e w3 ⟨g2, hg2, rfl, ho2, hb3⟩
  have hr3 : w3.heap[w.heap.size]? = some (.cells ((dcs bs bw S).setIfInBounds 1 (.map (some g1))) DT (0, 0)) := (hb3.block _ (by have := HL.out.2.2.2.2.1; omega)).trans HL.out.2.2.1
  have ho1 := HL.out.2.1.keptAt (hb3.block g1 HL.out.2.1.lt)
  have k3 : w3.cell? ⟨w.heap.size, 2, none⟩ = some (.map (some bw)) := cell_of_row w3 w.heap.size 2 _ _ _ hr3
  have k4 : w3.frozen? ⟨w.heap.size, 2, none⟩ = false := frozen_of_row w3 w.heap.size 2 _ _ hr3
  have hg1l := HL.out.2.1.lt
  have hfin : NewDev w S (fun p => p) (.returned (.pointer (some ⟨w.heap.size, 0, none⟩))) (w3.setCell ⟨w.heap.size, 2, none⟩ (.map (some g2))) := by
    have hz := HL.out.2.2.2.2.1
    have hs := HL.out.2.2.2.2.2
    refine ⟨w.heap.size, g1, g2, Nat.le_refl _, by omega, by omega, rfl, ?_, ?_⟩
    · exact ⟨heap_setCell_same w3 w.heap.size 2 _ _ _ hr3, ho1.keptAt (heap_setCell_other _ _ _ _ (by show g1 ≠ w.heap.size; omega)), ho2.keptAt (heap_setCell_other _ _ _ _ (by show g2 ≠ w.heap.size; omega)), by omega, H.out.p1, H.out.p2, H.out.l1, H.out.l2, H.out.arm⟩
    · exact (HL.out.2.2.2.1.trans (hb3.mono (by omega))).setCell (Nat.le_refl _) _
  have Hf := Lib.hid hfin
  clear hfin hr3 ho1 hg1l hb3 ho2 hg2 hne c0 c1 c2 c3 c4 c5
  go_wp2
  go_ret
  exact Hf.out
end Go.Proofs.YtbkjaifpgknadaaDoor
