/-
  A head as a value and in a variable; five numbers; what the table of bounds holds.
-/
import Derived.Test.YtofbomcimicccaaDoorHeadMathZ
import Derived.Test.YtofbomcimicccaaDoorAggZ
import Derived.Test.YtofbomcimicccaaDoorSheet3Z
import Derived.Laws.StructEq
namespace Go.Proofs.YtofbomcimicccaaDoor
open Go Go.RowKit

abbrev HT : TypeId := 31
abbrev RHT : TypeId := 24
abbrev NT : TypeId := 52
abbrev RNT : TypeId := 51
/-- A head's five cells. -/
def hv (h : Hd) : Array Value := #[.int .u64 (h.s : Nat), .int .u64 (h.t : Nat), .int .u64 (h.g : Nat), .int .i64 h.r, .int .i64 h.e]
theorem hv_size (h : Hd) : (hv h).size = 5 := rfl
theorem hv_one (h : Hd) : (hv h).all (·.oneCell') = true := by simp [hv, Value.oneCell']
/-- Five numbers. -/
def nv (f : Nat → Nat) : Array Value := #[.int .u64 (f 0 : Nat), .int .u64 (f 1 : Nat), .int .u64 (f 2 : Nat), .int .u64 (f 3 : Nat), .int .u64 (f 4 : Nat)]
theorem nv_size (f : Nat → Nat) : (nv f).size = 5 := rfl
theorem nv_one (f : Nat → Nat) : (nv f).all (·.oneCell') = true := by simp [nv, Value.oneCell']
theorem nv_get (f : Nat → Nat) (k : Nat) (h : k < 5) : (nv f)[k]? = some (.int .u64 (f k : Nat)) := by
  match k, h with
  | 0, _ => rfl
  | 1, _ => rfl
  | 2, _ => rfl
  | 3, _ => rfl
  | 4, _ => rfl
  | n + 5, h => omega
theorem nv_set (f : Nat → Nat) (k v : Nat) (h : k < 5) : (nv f).setIfInBounds k (.int .u64 (v : Nat)) = nv (fun i => if i = k then v else f i) := by
  match k, h with
  | 0, _ => rfl
  | 1, _ => rfl
  | 2, _ => rfl
  | 3, _ => rfl
  | 4, _ => rfl
  | n + 5, h => omega
theorem nv_ext {f f' : Nat → Nat} (h : ∀ i, i < 5 → f i = f' i) : nv f = nv f' := by
  unfold nv
  rw [h 0 (by omega), h 1 (by omega), h 2 (by omega), h 3 (by omega), h 4 (by omega)]
theorem Blk.h0 {w : World} {b : Nat} {t : TypeId} {h : Hd} (hb : Blk w b t (hv h)) : w.cell? ⟨b, 0, none⟩ = some (.int .u64 (h.s : Nat)) := by rw [hb.cell]; rfl
theorem Blk.h1 {w : World} {b : Nat} {t : TypeId} {h : Hd} (hb : Blk w b t (hv h)) : w.cell? ⟨b, 1, none⟩ = some (.int .u64 (h.t : Nat)) := by rw [hb.cell]; rfl
theorem Blk.h2 {w : World} {b : Nat} {t : TypeId} {h : Hd} (hb : Blk w b t (hv h)) : w.cell? ⟨b, 2, none⟩ = some (.int .u64 (h.g : Nat)) := by rw [hb.cell]; rfl
theorem Blk.h3 {w : World} {b : Nat} {t : TypeId} {h : Hd} (hb : Blk w b t (hv h)) : w.cell? ⟨b, 3, none⟩ = some (.int .i64 h.r) := by rw [hb.cell]; rfl
theorem Blk.h4 {w : World} {b : Nat} {t : TypeId} {h : Hd} (hb : Blk w b t (hv h)) : w.cell? ⟨b, 4, none⟩ = some (.int .i64 h.e) := by rw [hb.cell]; rfl
theorem Blk.num {w : World} {b : Nat} {t : TypeId} {f : Nat → Nat} (hb : Blk w b t (nv f)) (k : Nat) (hk : k < 5) : w.cell? ⟨b, k, none⟩ = some (.int .u64 (f k : Nat)) := by rw [hb.cell, nv_get f k hk]
theorem Blk.num_set {w : World} {b : Nat} {t : TypeId} {f : Nat → Nat} (hb : Blk w b t (nv f)) (k v : Nat) (hk : k < 5) : Blk (w.setCell ⟨b, k, none⟩ (.int .u64 (v : Nat))) b t (nv (fun i => if i = k then v else f i)) := by
  rw [← nv_set f k v hk]; exact hb.set k _
theorem agg_HT : AggT HT 5 := ⟨⟨_, Tryd.underlying31, rfl⟩, by kernel_rfl⟩
theorem agg_RHT : AggT RHT 5 := ⟨⟨_, Tryd.underlying24, rfl⟩, by kernel_rfl⟩
theorem agg_NT : AggT NT 5 := ⟨⟨_, Tryd.underlying52, rfl⟩, by kernel_rfl⟩
theorem agg_RNT : AggT RNT 5 := ⟨⟨_, Tryd.underlying51, rfl⟩, by kernel_rfl⟩
theorem arrz_HT : ArrZ HT (hv hd0) := fun w => by kernel_rfl
theorem arrz_RHT : ArrZ RHT (hv hd0) := fun w => by kernel_rfl
theorem arrz_NT : ArrZ NT (nv (fun _ => 0)) := fun w => by kernel_rfl
theorem arrz_RNT : ArrZ RNT (nv (fun _ => 0)) := fun w => by kernel_rfl
theorem build_h0 (w : World) : (Instr.build HT #[]).run Tryd.prog w = .ok (.agg (hv hd0)) w := by kernel_rfl
theorem build_rh0 (w : World) : (Instr.build RHT #[]).run Tryd.prog w = .ok (.agg (hv hd0)) w := by kernel_rfl
theorem build_h (a b c : Nat) (r e : Int) (w : World) : (Instr.build HT #[(0, .int .u64 a), (1, .int .u64 b), (2, .int .u64 c), (3, .int .i64 r), (4, .int .i64 e)]).run Tryd.prog w = .ok (.agg (hv ⟨a, b, c, r, e⟩)) w := by kernel_rfl
theorem build_rh (a b c : Nat) (r e : Int) (w : World) : (Instr.build RHT #[(0, .int .u64 a), (1, .int .u64 b), (2, .int .u64 c), (3, .int .i64 r), (4, .int .i64 e)]).run Tryd.prog w = .ok (.agg (hv ⟨a, b, c, r, e⟩)) w := by kernel_rfl
theorem build_n (f : Nat → Nat) (w : World) : (Instr.build NT #[(0, .int .u64 (f 0 : Nat)), (1, .int .u64 (f 1 : Nat)), (2, .int .u64 (f 2 : Nat)), (3, .int .u64 (f 3 : Nat)), (4, .int .u64 (f 4 : Nat))]).run Tryd.prog w = .ok (.agg (nv f)) w := by kernel_rfl
/-- The table of bounds is laid. -/
def MostIn (w : World) : Prop := ∀ k, k < 5 → w.cell? ⟨0, k, none⟩ = some (.int .u64 (msP k : Nat))
theorem MostIn.below {w w' : World} (h : MostIn w) (hb : Below w.heap.size w w') : MostIn w' := fun k hk => by
  have := h k hk
  rw [hb.cell (p := ⟨0, k, none⟩) (block_lt_of_cell this)]; exact this

/-! ### Two heads that are the same -/
theorem guard_HT : Tryd.prog.eqGuardType Tryd.prog.depth HT = false := by kernel_rfl
theorem under_HT : Tryd.prog.underlying HT = some (.struct (Tryd.prog.fieldsOf HT)) := by kernel_rfl
theorem held_HT : Tryd.prog.stoodInHeld HT = false := by kernel_rfl
theorem equal_h (h : Hd) (w : World) : (Op.equalIn 10000 HT (.agg (hv h)) (.agg (hv h))).run Tryd.prog w = .ok true w := by
  have u1 := Tryd.underlying22
  have u2 := Tryd.underlying3
  have a1 := Tryd.isAgg22
  have a2 := Tryd.isAgg3
  have z1 := Tryd.sizeOf22
  have z2 := Tryd.sizeOf3
  rw [show (10000 : Nat) = 9999 + 1 from rfl, run_equalIn_agg w 9999 HT _ _ under_HT held_HT]
  simp only [Program.fieldsOf, Tryd.underlying31, hv]
  go_simp
theorem run_eql_h (h : Hd) (w : World) : (binOp .eql HT (.agg (hv h)) (.agg (hv h))).run Tryd.prog w = .ok (.bool true) w := by
  rw [run_eql_struct, equal_h h w]; rfl
theorem run_neq_h (h : Hd) (w : World) : (binOp .neq HT (.agg (hv h)) (.agg (hv h))).run Tryd.prog w = .ok (.bool false) w := by
  rw [run_neq_struct, equal_h h w]; rfl
end Go.Proofs.YtofbomcimicccaaDoor
