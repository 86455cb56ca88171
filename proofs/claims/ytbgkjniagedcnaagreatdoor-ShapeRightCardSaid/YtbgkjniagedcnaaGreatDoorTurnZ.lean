/-
  What has turned of a world: all blocks but those of F are as they were. No program.
  A region that draws its order, one of whose operations writes: walked once, as XGr's, where of what was there only the blocks of F turn. No program.
  One proof for several ways; a function's result that is one cell; what turned a block of the call's own. No program.
-/
import Derived.Below
import Derived.OwnWalk
import Derived.Test.YtbgkjniagedcnaaGreatDoorGr
import Derived.Laws.ResultCell
namespace Go.Proofs.YtbgkjniagedcnaaGreatDoor
open Go Go.RowKit

/-! ### what has turned -/
/-- Of what was there nothing has turned but the blocks of F. -/
structure Turn (F : Nat → Prop) (w w' : World) : Prop where
  os : w'.os = w.os
  tape : w'.tape = w.tape
  output : w'.output = w.output
  size : w.heap.size ≤ w'.heap.size
  block : ∀ i, i < w.heap.size → ¬ F i → w'.heap[i]? = w.heap[i]?
theorem Turn.refl (F : Nat → Prop) (w : World) : Turn F w w := ⟨rfl, rfl, rfl, Nat.le_refl _, fun _ _ _ => rfl⟩
theorem Turn.step {F G : Nat → Prop} {a b c : World} (h : Turn F a b) (k : Turn G b c) (hs : ∀ i, G i → i < a.heap.size → F i) : Turn F a c :=
  ⟨k.os.trans h.os, k.tape.trans h.tape, k.output.trans h.output, Nat.le_trans h.size k.size, fun i hi hF =>
    (k.block i (Nat.lt_of_lt_of_le hi h.size) (fun hg => hF (hs i hg hi))).trans (h.block i hi hF)⟩
theorem Turn.trans {F : Nat → Prop} {a b c : World} (h : Turn F a b) (k : Turn F b c) : Turn F a c := h.step k (fun _ hg _ => hg)
theorem Turn.mono {F G : Nat → Prop} {a b : World} (h : Turn F a b) (hs : ∀ i, F i → i < a.heap.size → G i) : Turn G a b :=
  ⟨h.os, h.tape, h.output, h.size, fun i hi hG => h.block i hi (fun hf => hG (hs i hf hi))⟩
theorem Turn.ofBelow {F : Nat → Prop} {a b : World} (h : Below a.heap.size a b) : Turn F a b := ⟨h.os, h.tape, h.output, h.size, fun i hi _ => h.block i hi⟩
theorem Turn.below {F : Nat → Prop} {a b : World} (h : Turn F a b) {B : Nat} (hB : B ≤ a.heap.size) (hF : ∀ i, F i → B ≤ i) : Below B a b :=
  ⟨h.os, h.tape, h.output, h.size, fun i hi => h.block i (Nat.lt_of_lt_of_le hi hB) (fun hf => by have := hF i hf; omega)⟩
theorem Turn.alloc {F : Nat → Prop} {a b : World} (h : Turn F a b) (o : Obj) : Turn F a (b.alloc o) :=
  h.step (G := fun _ => False) (Turn.ofBelow ((Below.refl _ _).alloc (Nat.le_refl _) _)) (fun _ hg _ => hg.elim)
theorem Turn.drew {F : Nat → Prop} {a b : World} (h : Turn F a b) : Turn F a b.drew := ⟨h.os, h.tape, h.output, h.size, h.block⟩
theorem Turn.setCell {F : Nat → Prop} {a b : World} (h : Turn F a b) {p : Addr} (u : Value) (hp : p.block < a.heap.size → F p.block) : Turn F a (b.setCell p u) :=
  h.step (G := fun i => i = p.block) ⟨rfl, rfl, rfl, by simp [World.setCell], fun i _ hne => Below.heap_setCell _ _ _ _ hne⟩ (fun i hi hl => by subst hi; exact hp hl)
theorem Turn.grown {F : Nat → Prop} {a b c : World} {row : Option Nat} (h : Turn F a b) (hg : b.grownBy c row) (hr : ∀ k, row = some k → k < a.heap.size → F k) : Turn F a c :=
  h.step (G := fun i => row = some i) ⟨hg.os, hg.tape, hg.output, hg.size, fun i hi hne => hg.block i hi (fun e => hne e.symm)⟩ hr
theorem Turn.cell {F : Nat → Prop} {a b : World} (h : Turn F a b) {p : Addr} (hp : p.block < a.heap.size) (hF : ¬ F p.block) : b.cell? p = a.cell? p := World.cell?_of_block (w := a) (h.block p.block hp hF)
theorem Turn.hg {F : Nat → Prop} {a b : World} (h : Turn F a b) {k : Nat} {o : Obj} (ho : a.heap[k]? = some o) (hF : ¬ F k) : b.heap[k]? = some o :=
  (h.block k (Array.getElem?_eq_some_iff.1 ho).1 hF).trans ho

theorem Turn.ofGrown {w w' : World} {b : Nat} (hg : w.grownBy w' (some b)) : Turn (fun i => i = b) w w' :=
  ⟨hg.os, hg.tape, hg.output, hg.size, fun i hi hne => hg.block i hi (fun e => hne (Option.some.inj e))⟩

end Go.Proofs.YtbgkjniagedcnaaGreatDoor
namespace Go.Proofs.YtbgkjniagedcnaaGreatDoor
open Go Go.RowKit
section
variable {F : Nat → Prop} {P : Program} {ops : Array Oper} {Q : Exit → Act → World → Prop} {md : Region.Mode}
/-- The walk of a schedule: a reading (true) yields one value in every world that goes on from the one at hand; a call (false) is carried out, and goes on from it. -/
def wpGt (F : Nat → Prop) (P : Program) (ops : Array Oper) (Q : Exit → Act → World → Prop) : List (Nat × Bool) → Act → World → Prop
  | [], a, w => Q .normal a w
  | (i, true) :: rest, a, w => ∃ o v, ops[i]? = some o ∧ YieldsIf P ops (Turn F w) o v a ∧ wpGt F P ops Q rest (a.put o.dst v) w
  | (i, false) :: rest, a, w => ∃ o, ops[i]? = some o ∧ (if Region.wanted o (yielded ops a.tmps) = true then Oper.wp P o a w (fun a' w' => Turn F w w' ∧ wpGt F P ops Q rest a' w') Q else wpGt F P ops Q rest (a.put o.dst undef) w)

theorem wpAnyH_of_gt (hs : Region.noSelect ops = true) (hQ : ∀ t v c a w, Q (.panic c) (Act.put a (some t) v) w → Q (.panic c) a w) :
    ∀ (sc : List (Nat × Bool)) (fuel : Nat) (listed : Array Bool) (a : Act) (w : World), sc.length ≤ fuel → schedOk md ops sc listed = true → wpGt F P ops Q sc a w → wpAnyH P md ops Q (Turn F w) fuel listed a w
  | [], fuel, listed, a, w, _, hc, h => wpAnyH_done (by simpa [schedOk] using hc) h fuel
  | (i, true) :: rest, 0, _, _, _, hl, _, _ => by simp at hl
  | (i, false) :: rest, 0, _, _, _, hl, _, _ => by simp at hl
  | (i, true) :: rest, fuel + 1, listed, a, w, hl, hc, h => by
    obtain ⟨o, v, ho, hy, hr⟩ := h
    simp only [schedOk, Bool.and_eq_true] at hc
    exact wpAnyH_take ho hs hc.1 hc.2.1 (fun c a w => put_panic hQ _ _ c a w) hy (Turn.refl F w) (wpAnyH_of_gt hs hQ rest fuel _ _ w (by simpa using hl) hc.2.2 hr)
  | (i, false) :: rest, fuel + 1, listed, a, w, hl, hc, h => by
    obtain ⟨o, ho, hr⟩ := h
    simp only [schedOk, Bool.and_eq_true, beq_iff_eq] at hc
    refine wpAnyH_all hc.1 (by simp) (fun j hj => ?_)
    obtain rfl := List.mem_singleton.1 hj
    unfold wpOp
    simp only [ho]
    by_cases hw : Region.wanted o (yielded ops a.tmps) = true
    · rw [if_pos hw] at hr ⊢
      refine .inl (Oper.wp_mono (fun a' w' h' => ⟨h'.1, ?_⟩) hr)
      exact wpAnyH_weaken (fun w'' hx => h'.1.trans hx) _ _ _ _ (wpAnyH_of_gt hs hQ rest fuel _ a' w' (by simpa using hl) hc.2 h'.2)
    · rw [if_neg hw] at hr ⊢
      exact ⟨Turn.refl F w, wpAnyH_of_gt hs hQ rest fuel _ _ w (by simpa using hl) hc.2 hr⟩

theorem wp_region_gt (sc : List (Nat × Bool)) {id : Nat} {a : Act} {w : World} (hm : P.follows .mixedOrders = true) (hs : Region.noSelect ops = true) (hlen : decide (sc.length ≤ ops.size) = true)
    (hc : schedOk .any ops sc (Array.replicate ops.size false) = true) (hQ : ∀ t v c a w, Q (.panic c) (Act.put a (some t) v) w → Q (.panic c) a w)
    (h : wpGt F P ops Q sc a w.drew) : (Code.region id ops true).wp P Q a w :=
  wp_region_held hm (wpAnyH_of_gt hs hQ sc _ _ a w.drew (of_decide_eq_true hlen) hc h)

theorem rgt (sc : List (Nat × Bool)) {id : Nat} {a : Act} {w : World} (hm : P.follows .mixedOrders = true := by kernel_rfl) (hs : Region.noSelect ops = true := by kernel_rfl) (hlen : decide (sc.length ≤ ops.size) = true := by kernel_rfl)
    (hc : schedOk .any ops sc (Array.replicate ops.size false) = true := by kernel_rfl) (hQ : ∀ t v c a w, Q (.panic c) (Act.put a (some t) v) w → Q (.panic c) a w := by exact fun _ _ _ _ _ h => h)
    (h : wpGt F P ops Q sc a w.drew) : (Code.region id ops true).wp P Q a w := wp_region_gt sc hm hs hlen hc hQ h
theorem wpGt_done {a : Act} {w : World} (h : Q .normal a w) : wpGt F P ops Q [] a w := h
theorem wpGt_skip {i : Nat} {rest : List (Nat × Bool)} {o : Oper} {a : Act} {w : World} (ho : ops[i]? = some o) (hw : Region.wanted o (yielded ops a.tmps) = false)
    (h : wpGt F P ops Q rest (a.put o.dst undef) w) : wpGt F P ops Q ((i, true) :: rest) a w := ⟨o, undef, ho, .inr ⟨hw, rfl⟩, h⟩
theorem wpGt_skipCall {i : Nat} {rest : List (Nat × Bool)} {o : Oper} {a : Act} {w : World} (ho : ops[i]? = some o) (hw : Region.wanted o (yielded ops a.tmps) = false)
    (h : wpGt F P ops Q rest (a.put o.dst undef) w) : wpGt F P ops Q ((i, false) :: rest) a w := ⟨o, ho, by rw [hw]; exact h⟩
theorem wpGt_read {i : Nat} {rest : List (Nat × Bool)} {o : Oper} {v : Value} {a : Act} {w : World} (ho : ops[i]? = some o) (hw : Region.wanted o (yielded ops a.tmps) = true)
    (hy : ∀ w', Turn F w w' → (execOp a.eval o).run P w' = .ok (.value v) w') (h : wpGt F P ops Q rest (a.put o.dst v) w) : wpGt F P ops Q ((i, true) :: rest) a w := ⟨o, v, ho, .inl ⟨hw, hy⟩, h⟩
theorem wpGt_call {i : Nat} {rest : List (Nat × Bool)} {o : Oper} {a : Act} {w : World} (ho : ops[i]? = some o) (hw : Region.wanted o (yielded ops a.tmps) = true)
    (h : ∀ K : Act → World → Prop, (∀ a' w', Turn F w w' → wpGt F P ops Q rest a' w' → K a' w') → Oper.wp P o a w K Q) : wpGt F P ops Q ((i, false) :: rest) a w :=
  ⟨o, ho, by rw [if_pos hw]; exact h _ fun _ _ h1 h2 => ⟨h1, h2⟩⟩
theorem gtr {i : Nat} {rest : List (Nat × Bool)} {d : _} {op : _} {ty : _} {ps : _} {af : _} {gd : _} {v : Value} {a : Act} {w : World} (ho : ops[i]? = some (⟨d, op, ty, ps, af, gd⟩ : Oper)) (hw : Region.wanted (⟨d, op, ty, ps, af, gd⟩ : Oper) (yielded ops a.tmps) = true)
    (hy : ∀ w', Turn F w w' → (execOp a.eval (⟨d, op, ty, ps, af, gd⟩ : Oper)).run P w' = .ok (.value v) w') (h : wpGt F P ops Q rest (a.put d v) w) : wpGt F P ops Q ((i, true) :: rest) a w := wpGt_read ho hw hy h
theorem gtc {i : Nat} {rest : List (Nat × Bool)} {d : _} {op : _} {ty : _} {ps : _} {af : _} {gd : _} {a : Act} {w : World} (ho : ops[i]? = some (⟨d, op, ty, ps, af, gd⟩ : Oper)) (hw : Region.wanted (⟨d, op, ty, ps, af, gd⟩ : Oper) (yielded ops a.tmps) = true)
    (h : ∀ K : Act → World → Prop, (∀ a' w', Turn F w w' → wpGt F P ops Q rest a' w' → K a' w') → Oper.wp P (⟨d, op, ty, ps, af, gd⟩ : Oper) a w K Q) : wpGt F P ops Q ((i, false) :: rest) a w := wpGt_call ho hw h
end
end Go.Proofs.YtbgkjniagedcnaaGreatDoor
namespace Go.Proofs.YtbgkjniagedcnaaGreatDoor
open Go Go.RowKit

/-- One proof for several ways. -/
theorem share {G T : Prop} (k : G) (h : G → T) : T := h k
theorem results_cell_one {fn : Func} {p : Tmp} {ty : TypeId} (h : fn.results = #[.cell p ty]) (tmps : Array Value) (P : Program) (w : World) :
    (results fn tmps).run P w = ((asAddr (tmps.getD p undef)).run P w).andThen fun a w₁ => (loadVar ty a).run P w₁ := by
  simp only [results, h]
  simp [Sem.run_bind]
/-- What turned a block of the call's own left what was there. -/
theorem Turn.own {w w1 w2 : World} {b B : Nat} (hb : Below B w w1) (t : Turn (fun i => i = b) w1 w2) (hB : B ≤ b) (hz : B ≤ w.heap.size) : Below B w w2 :=
  hb.trans (t.below (Nat.le_trans hz hb.size) (fun i hi => by rw [hi]; exact hB))
end Go.Proofs.YtbgkjniagedcnaaGreatDoor
