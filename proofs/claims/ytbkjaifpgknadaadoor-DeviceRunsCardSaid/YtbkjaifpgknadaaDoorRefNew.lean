/-
  The document's device: New.
-/
import Derived.Test.YtbkjaifpgknadaaDoorRefD7
import Derived.Deep.RegionHeld
import Derived.Laws.ResultCell
namespace Go.Proofs.YtbkjaifpgknadaaDoor
open Go Go.RowKit Go.Maps

def zA (M : Nat) : Obj := .cells (bv (flatS (fun _ => zeros) M)).toArray A64
def zB (M : Nat) : Obj := .cells (bvs (fun _ => false) M).toArray BO
theorem rep_add {α : Type} (a b : Nat) (x : α) : List.replicate a x ++ List.replicate b x = List.replicate (a + b) x := by simp
theorem flat_zero : ∀ M, flatS (fun _ => zeros) M = List.replicate (M * 64) 0
  | 0 => rfl
  | M + 1 => by rw [flatS, flat_zero M, zeros, rep_add]; congr 1; omega
theorem bvs_false : ∀ M, bvs (fun _ => false) M = List.replicate M (.bool false)
  | 0 => rfl
  | M + 1 => by rw [bvs, bvs_false M, show [Value.bool false] = List.replicate 1 (Value.bool false) from rfl, rep_add]
theorem bv_rep (k : Nat) : bv (List.replicate k 0) = List.replicate k (.int .u8 0) := by simp [bv]
theorem info_sl : (Tryd.prog.info? A64).map (fun i => (i.zero, i.size, i.bytes)) = some (some (sec zeros), 64, 64) := by kernel_rfl
theorem info_bl : (Tryd.prog.info? BO).map (fun i => (i.zero, i.size, i.bytes)) = some (some (.bool false), 1, 1) := by kernel_rfl
theorem made_a64 (M : Nat) (wx : World) (hM : M ≤ 8192) : (Instr.makeSlice SLT (.int .i64 (M : Int)) (.int .i64 (M : Int))).run Tryd.prog wx = .ok (.slice (some ⟨wx.heap.size, 0, none⟩) M M) (wx.alloc (zA M)) := by
  obtain ⟨i0, hi0, hz0, hz1, hz2⟩ := info_parts info_sl
  have h := run_make (P := Tryd.prog) (w := wx) SLT A64 i0 (sec zeros) Tryd.underlying40 hi0 hz0 .i64 .i64 M M (by omega) (by omega) (by rw [hz2]; omega) (by omega)
  rw [Int.toNat_natCast, hz1] at h
  rw [h]
  have e : madeCells (sec zeros).cells (M * 64) = (bv (flatS (fun _ => zeros) M)).toArray := by
    rw [flat_zero, bv_rep]
    have hz : (sec zeros).cells = Array.replicate 64 (.int .u8 0) := by kernel_rfl
    rw [hz]
    apply Array.ext
    · simp [size_madeCells]
    · intro j h1 h2
      simp [madeCells]
      rw [getElem!_pos _ _ (by simp; omega)]
      simp
  rw [e]; rfl
theorem made_bool (M : Nat) (wx : World) (hM : M ≤ 8192) : (Instr.makeSlice BLT (.int .i64 (M : Int)) (.int .i64 (M : Int))).run Tryd.prog wx = .ok (.slice (some ⟨wx.heap.size, 0, none⟩) M M) (wx.alloc (zB M)) := by
  obtain ⟨i0, hi0, hz0, hz1, hz2⟩ := info_parts info_bl
  have h := run_make (P := Tryd.prog) (w := wx) BLT BO i0 (.bool false) Tryd.underlying41 hi0 hz0 .i64 .i64 M M (by omega) (by omega) (by rw [hz2]; omega) (by omega)
  rw [Int.toNat_natCast, hz1] at h
  rw [h]
  have e : madeCells (Value.bool false).cells (M * 1) = (bvs (fun _ => false) M).toArray := by
    rw [bvs_false]
    apply Array.ext
    · simp [size_madeCells]
    · intro j h1 h2
      simp [madeCells, Value.cells, Nat.mod_one]
  rw [e]; rfl
theorem laid3 (w : World) (O A B C : Obj) : (((((w.alloc O).alloc A).alloc B).alloc C).drew).heap[w.heap.size + 1]? = some A ∧ (((((w.alloc O).alloc A).alloc B).alloc C).drew).heap[w.heap.size + 1 + 1]? = some B ∧ (((((w.alloc O).alloc A).alloc B).alloc C).drew).heap[w.heap.size + 1 + 1 + 1]? = some C ∧ Below w.heap.size w (((((w.alloc O).alloc A).alloc B).alloc C).drew) := by
  refine ⟨?_, ?_, ?_, ?_⟩
  · have h := heap_alloc_new (w.alloc O) A
    have b1 : Below (((w.alloc O).alloc A)).heap.size ((w.alloc O).alloc A) (((((w.alloc O).alloc A).alloc B).alloc C).drew) := (((Below.refl _ _).alloc (Nat.le_refl _) B).alloc (by simp) C).drew
    have e1 : (w.alloc O).heap.size = w.heap.size + 1 := by simp
    rw [e1] at h
    exact (Turn.ofBelow (F := fun _ => False) b1).hg h (fun h => h)
  · have h := heap_alloc_new ((w.alloc O).alloc A) B
    have b1 : Below ((((w.alloc O).alloc A).alloc B)).heap.size (((w.alloc O).alloc A).alloc B) (((((w.alloc O).alloc A).alloc B).alloc C).drew) := ((Below.refl _ _).alloc (Nat.le_refl _) C).drew
    have e1 : ((w.alloc O).alloc A).heap.size = w.heap.size + 1 + 1 := by simp
    rw [e1] at h
    exact (Turn.ofBelow (F := fun _ => False) b1).hg h (fun h => h)
  · have h := heap_alloc_new (((w.alloc O).alloc A).alloc B) C
    have e1 : (((w.alloc O).alloc A).alloc B).heap.size = w.heap.size + 1 + 1 + 1 := by simp
    rw [e1] at h
    exact h
  · exact ((((Below.refl _ _).alloc (Nat.le_refl _) O).alloc (by simp) A).alloc (by simp; omega) B).alloc (by simp; omega) C |>.drew
theorem ref_zero {w : World} {ps pn pw n M : Nat} (hM : M = 8 * n) (h1 : w.heap[ps]? = some (zA M)) (h2 : w.heap[pn]? = some (zA M)) (h3 : w.heap[pw]? = some (zB M)) (hn : ps ≠ pn) : RefV w ps pn pw (new0 n) := by
  subst hM
  exact (Rows3.mk (f := fun _ => zeros) (g := fun _ => zeros) (b := fun _ => false) h1 h2 h3).ref hn rfl (fun _ _ => rfl) (fun _ _ => rfl) (fun _ _ => rfl)
theorem rcs_zero {ps pn pw n M : Nat} (hM : M = 8 * n) : (#[.int .i64 (n : Int), .slice (some ⟨ps, 0, none⟩) M M, .slice (some ⟨pn, 0, none⟩) M M, .slice (some ⟨pw, 0, none⟩) M M, .int .i64 (-1), .bool false] : Array Value) = rcs ps pn pw (new0 n) := by
  subst hM; rfl
set_option maxRecDepth 100000 in
set_option maxHeartbeats 1000000 in
theorem rnew_ok (w : World) (n : Nat) (h1 : 1 ≤ n) (h2 : n ≤ 1024) : Calls Tryd.prog 17 #[.int .i64 (n : Int)] w fun e w' => ∃ ps pn pw, w.heap.size ≤ ps ∧ w.heap.size ≤ pn ∧ w.heap.size ≤ pw ∧ e = .returned (.tuple #[.agg (rcs ps pn pw (new0 n)), .int .i64 0]) ∧ RefV w' ps pn pw (new0 n) ∧ Below w.heap.size w w' := by
  obtain ⟨M, hM⟩ : ∃ M, M = 8 * n := ⟨_, rfl⟩
  have hM1 : M ≤ 8192 := by omega
  have e1 : IntKind.i64.wrap (8 * (n : Int)) = (M : Int) := by rw [IntWalk.i64_in _ (by omega)]; omega
  have d1 : decide ((n : Int) < 1) = false := by simp; omega
  have d2 : decide (1024 < (n : Int)) = false := by simp; omega
  have m1 := fun wx => made_a64 M wx hM1
  have m2 := fun wx => made_bool M wx hM1
  have HM := Lib.hid hM
  clear hM
  go_enter Tryd.func17, Tryd.ntmps17
  go_wp2
  go_region_with (fail)
  all_goals go_wp2
  all_goals go_frame
  all_goals (try simp only [Exit.inBlock, Exit.then])
  all_goals first
    | (refine bodyPost_ret (v := .tuple #[.agg #[.int .i64 (n : Int), .slice (some ⟨w.heap.size + 1, 0, none⟩) M M, .slice (some ⟨w.heap.size + 1 + 1, 0, none⟩) M M, .slice (some ⟨w.heap.size + 1 + 1 + 1, 0, none⟩) M M, .int .i64 (-1), .bool false], .int .i64 0]) ?_ rfl ?_; focus (rw [results_cell_tmp rfl]; go_simp; done))
    | (refine bodyPost_ret (v := .tuple #[.agg #[.int .i64 (n : Int), .slice (some ⟨w.heap.size + 1, 0, none⟩) M M, .slice (some ⟨w.heap.size + 1 + 1 + 1, 0, none⟩) M M, .slice (some ⟨w.heap.size + 1 + 1, 0, none⟩) M M, .int .i64 (-1), .bool false], .int .i64 0]) ?_ rfl ?_; focus (rw [results_cell_tmp rfl]; go_simp; done))
    | (refine bodyPost_ret (v := .tuple #[.agg #[.int .i64 (n : Int), .slice (some ⟨w.heap.size + 1 + 1, 0, none⟩) M M, .slice (some ⟨w.heap.size + 1, 0, none⟩) M M, .slice (some ⟨w.heap.size + 1 + 1 + 1, 0, none⟩) M M, .int .i64 (-1), .bool false], .int .i64 0]) ?_ rfl ?_; focus (rw [results_cell_tmp rfl]; go_simp; done))
    | (refine bodyPost_ret (v := .tuple #[.agg #[.int .i64 (n : Int), .slice (some ⟨w.heap.size + 1 + 1, 0, none⟩) M M, .slice (some ⟨w.heap.size + 1 + 1 + 1, 0, none⟩) M M, .slice (some ⟨w.heap.size + 1, 0, none⟩) M M, .int .i64 (-1), .bool false], .int .i64 0]) ?_ rfl ?_; focus (rw [results_cell_tmp rfl]; go_simp; done))
    | (refine bodyPost_ret (v := .tuple #[.agg #[.int .i64 (n : Int), .slice (some ⟨w.heap.size + 1 + 1 + 1, 0, none⟩) M M, .slice (some ⟨w.heap.size + 1, 0, none⟩) M M, .slice (some ⟨w.heap.size + 1 + 1, 0, none⟩) M M, .int .i64 (-1), .bool false], .int .i64 0]) ?_ rfl ?_; focus (rw [results_cell_tmp rfl]; go_simp; done))
    | (refine bodyPost_ret (v := .tuple #[.agg #[.int .i64 (n : Int), .slice (some ⟨w.heap.size + 1 + 1 + 1, 0, none⟩) M M, .slice (some ⟨w.heap.size + 1 + 1, 0, none⟩) M M, .slice (some ⟨w.heap.size + 1, 0, none⟩) M M, .int .i64 (-1), .bool false], .int .i64 0]) ?_ rfl ?_; focus (rw [results_cell_tmp rfl]; go_simp; done))
  all_goals rw [rcs_zero HM.out]
  all_goals (refine ⟨_, _, _, ?_, ?_, ?_, rfl, ?_, (laid3 _ _ _ _ _).2.2.2⟩)
  all_goals first
    | omega
    | exact ref_zero HM.out (laid3 _ _ _ _ _).1 (laid3 _ _ _ _ _).2.1 (laid3 _ _ _ _ _).2.2.1 (by omega)
    | exact ref_zero HM.out (laid3 _ _ _ _ _).1 (laid3 _ _ _ _ _).2.2.1 (laid3 _ _ _ _ _).2.1 (by omega)
    | exact ref_zero HM.out (laid3 _ _ _ _ _).2.1 (laid3 _ _ _ _ _).1 (laid3 _ _ _ _ _).2.2.1 (by omega)
    | exact ref_zero HM.out (laid3 _ _ _ _ _).2.1 (laid3 _ _ _ _ _).2.2.1 (laid3 _ _ _ _ _).1 (by omega)
    | exact ref_zero HM.out (laid3 _ _ _ _ _).2.2.1 (laid3 _ _ _ _ _).1 (laid3 _ _ _ _ _).2.1 (by omega)
    | exact ref_zero HM.out (laid3 _ _ _ _ _).2.2.1 (laid3 _ _ _ _ _).2.1 (laid3 _ _ _ _ _).1 (by omega)
theorem rnew_bad (w : World) (n : Int) (hn : n < 1 ∨ 1024 < n) : Calls Tryd.prog 17 #[.int .i64 n] w fun e w' => ∃ cs : Array Value, cs.size = 6 ∧ e = .returned (.tuple #[.agg cs, .int .i64 2]) ∧ Below w.heap.size w w' := by
  by_cases h1 : n < 1
  · clear hn
    go_enter Tryd.func17, Tryd.ntmps17
    go_wp2
    (try simp only [Exit.inBlock, Exit.then])
    refine bodyPost_ret (v := .tuple #[.agg #[.int .i64 0, .slice none 0 0, .slice none 0 0, .slice none 0 0, .int .i64 0, .bool false], .int .i64 2]) (by rw [results_cell_tmp rfl]; go_simp) rfl ⟨_, ?_, rfl, ?_⟩
    · rfl
    · exact (Below.refl _ _).alloc (Nat.le_refl _) _
  · have h2 : 1024 < n := by omega
    have d1 : decide (n < 1) = false := by simpa using h1
    clear hn h1
    go_enter Tryd.func17, Tryd.ntmps17
    go_wp2
    (try simp only [Exit.inBlock, Exit.then])
    refine bodyPost_ret (v := .tuple #[.agg #[.int .i64 0, .slice none 0 0, .slice none 0 0, .slice none 0 0, .int .i64 0, .bool false], .int .i64 2]) (by rw [results_cell_tmp rfl]; go_simp) rfl ⟨_, ?_, rfl, ?_⟩
    · rfl
    · exact (Below.refl _ _).alloc (Nat.le_refl _) _
end Go.Proofs.YtbkjaifpgknadaaDoor
