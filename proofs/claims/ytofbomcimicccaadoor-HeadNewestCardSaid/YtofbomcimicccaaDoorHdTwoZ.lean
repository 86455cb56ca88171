/-
  Two pages in a variable; a page's byte stored anew; one bit of it turned.
-/
import Derived.Test.YtofbomcimicccaaDoorHdLawZ
namespace Go.Proofs.YtofbomcimicccaaDoor
open Go Go.RowKit

abbrev T16 : TypeId := 46
theorem Row.ext {w w' : World} {g E : Nat} {l : List Nat} (h : Row w g E l) (hb : Ext w w') : Row w' g E l := h.below hb h.lt
theorem Row.turn {F : Nat → Prop} {w w' : World} {g E : Nat} {l : List Nat} (h : Row w g E l) (t : Turn F w w') (hF : ¬ F g) : Row w' g E l := t.hg h hF
theorem run_store_sl (w : World) (g k : Nat) (a : Option Addr) (n c : Nat) (v : Value) (hc : w.cell? ⟨g, k, none⟩ = some v) (hf : w.frozen? ⟨g, k, none⟩ = false) : (storeVar 25 ⟨g, k, none⟩ (.slice a n c)).run Tryd.prog w = .ok () (w.setCell ⟨g, k, none⟩ (.slice a n c)) := by
  go_simp
theorem run_store_u8 (w : World) (g k : Nat) (x : Int) (v : Value) (hc : w.cell? ⟨g, k, none⟩ = some v) (hf : w.frozen? ⟨g, k, none⟩ = false) : (storeVar 5 ⟨g, k, none⟩ (.int .u8 x)).run Tryd.prog w = .ok () (w.setCell ⟨g, k, none⟩ (.int .u8 x)) := by
  go_simp
section
variable {ops : Array Oper} {rest : List Oper} {o : Oper} {a : Act} {w : World} {K : Act → World → Prop} {Q : Exit → Act → World → Prop}
theorem wp_store_two (x y : Operand) (ho : o.op = .store 25 x y) (g k : Nat) (cs : Array Value) (t : TypeId) (b : Option Addr) (n c : Nat) (hx : a.eval x = .pointer (some ⟨g, k, none⟩)) (hy : a.eval y = .slice b n c) (hg : Blk w g t cs) (hk : k < cs.size)
    (h : ∀ w', Blk w' g t (cs.setIfInBounds k (.slice b n c)) → Turn (fun i => i = g) w w' → K (a.put o.dst undef) w') : o.wp Tryd.prog a w K Q := by
  have hc := hg.cell k
  rw [Array.getElem?_eq_getElem hk] at hc
  have hf := hg.fz k
  have hK := h (w.setCell ⟨g, k, none⟩ (.slice b n c)) (hg.set k _) ((Turn.refl _ _).setCell _ (fun _ => rfl))
  unfold Oper.wp execOp
  simp only [ho, hx, hy, Instr.storeAt, Instr.sureAddr, Sem.run_bind, Sem.run_pure, Result.andThen_ok, run_store_sl w g k b n c _ hc hf]
  exact hK
theorem wpList_store_two (hgd : o.guard = none) (x y : Operand) (ho : o.op = .store 25 x y) (g k : Nat) (cs : Array Value) (t : TypeId) (b : Option Addr) (n c : Nat) (hx : a.eval x = .pointer (some ⟨g, k, none⟩)) (hy : a.eval y = .slice b n c) (hg : Blk w g t cs) (hk : k < cs.size)
    (h : ∀ w', Blk w' g t (cs.setIfInBounds k (.slice b n c)) → Turn (fun i => i = g) w w' → wpList Tryd.prog ops Q rest (a.put o.dst undef) w') : wpList Tryd.prog ops Q (o :: rest) a w :=
  wpList_plain hgd fun _ hK => wp_store_two x y ho g k cs t b n c hx hy hg hk fun w' h1 h2 => hK _ _ (h w' h1 h2)
theorem wpList_store_byte (hgd : o.guard = none) (x y : Operand) (ho : o.op = .store 5 x y) (g k v : Nat) (L : List Nat) (hx : a.eval x = .pointer (some ⟨g, k, none⟩)) (hy : a.eval y = .int .u8 (v : Nat)) (hr : Row w g 5 L) (hk : k < L.length)
    (h : ∀ w', Row w' g 5 (L.set k v) → Turn (fun i => i = g) w w' → wpList Tryd.prog ops Q rest (a.put o.dst undef) w') : wpList Tryd.prog ops Q (o :: rest) a w := by
  have hc := hr.cell k hk
  have hf := hr.frozen k
  have hj := h (w.setCell ⟨g, k, none⟩ (.int .u8 (v : Nat))) (hr.set k v) ((Turn.refl _ _).setCell _ (fun _ => rfl))
  refine wpList_plain hgd fun _ hK => ?_
  unfold Oper.wp execOp
  simp only [ho, hx, hy, Instr.storeAt, Instr.sureAddr, Sem.run_bind, Sem.run_pure, Result.andThen_ok, run_store_u8 w g k _ _ hc hf]
  exact hK _ _ hj
end
/-- One bit of a page: which byte, which bit of it, what it becomes. -/
structure Bit (x : Int) (L : List Nat) (q P I J X T Y : Nat) : Prop where
  eq : IntKind.u64.wrap x = (q : Int)
  eP : (q : Int) % 4096 = (P : Int)
  eI : (P : Int) / 8 = (I : Int)
  eJ : (P : Int) % 8 = (J : Int)
  Pl : P < 4096
  Il : I < 512
  Jl : J < 8
  eX : X = L.getD I 0
  Tl : (2 : Int) ^ J % 256 = (T : Int)
  eY : bits .xor .u8 (X : Int) (T : Int) = (Y : Int)
  Yl : Y < 256
  ne : Y ≠ X
theorem bit_any (x : Int) (L : List Nat) (hb : B8 L) : ∃ q P I J X T Y, Bit x L q P I J X T Y := by
  obtain ⟨q, hq⟩ := Int.eq_ofNat_of_zero_le (show 0 ≤ IntKind.u64.wrap x by rw [IntKind.wrap_u64]; omega)
  have hX := hb.get ((q % 4096) / 8)
  have hbit : 2 ^ ((q % 4096) % 8) < 256 := by
    have : 2 ^ ((q % 4096) % 8) ≤ 2 ^ 7 := Nat.pow_le_pow_right (by decide) (by omega)
    omega
  have e2J : (2 : Int) ^ ((q % 4096) % 8) % 256 = ((2 ^ ((q % 4096) % 8) : Nat) : Int) := by
    have : ((2 ^ ((q % 4096) % 8) : Nat) : Int) = (2 : Int) ^ ((q % 4096) % 8) := Int.natCast_pow 2 _
    have h3 := Int.natCast_emod (2 ^ ((q % 4096) % 8)) 256
    rw [Nat.mod_eq_of_lt hbit] at h3
    rw [← this]
    exact h3.symm
  exact ⟨q, q % 4096, (q % 4096) / 8, (q % 4096) % 8, L.getD ((q % 4096) / 8) 0, 2 ^ ((q % 4096) % 8), L.getD ((q % 4096) / 8) 0 ^^^ 2 ^ ((q % 4096) % 8),
    hq, by omega, by omega, by omega, by omega, by omega, by omega, rfl, e2J, xor_u8_nat _ _ hX hbit, xor_u8_lt _ _ hX hbit, xor_bit_ne _ _⟩
end Go.Proofs.YtofbomcimicccaaDoor
