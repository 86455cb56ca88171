/-
  A region that draws its order, whose calls may make memory, and whose other operations only read: walked once, each reading as soon as it may come up, the calls in their order. No program.
-/
import Derived.OrdersHeld
import Derived.Deep.RegionHeld
import Derived.Below
namespace Go.Proofs.YtbgkjniagedcnaaGreatDoor
open Go Go.RowKit
section
variable {P : Program} {ops : Array Oper} {Q : Exit → Act → World → Prop} {md : Region.Mode}

/-- w' goes on from w: of what was there nothing has turned. -/
def Ext (w w' : World) : Prop := Below w.heap.size w w'
theorem Ext.refl (w : World) : Ext w w := Below.refl _ _
theorem Ext.trans {a b c : World} (h : Ext a b) (k : Ext b c) : Ext a c := Below.trans h (Below.mono k h.size)
theorem Ext.drew (w : World) : Ext w w.drew := (Below.refl _ w).drew

/-- What holds of each world to come may be weakened. -/
theorem wpAnyH_weaken {S T : World → Prop} (hST : ∀ w, S w → T w) : ∀ (fuel : Nat) (listed : Array Bool) (a : Act) (w : World), wpAnyH P md ops Q S fuel listed a w → wpAnyH P md ops Q T fuel listed a w
  | 0, _, _, _, h => h
  | fuel + 1, _, _, _, h => ⟨h.1, fun i hi => wpOp_mono (fun a' w' h' => ⟨hST _ h'.1, wpAnyH_weaken hST fuel _ a' w' h'.2⟩) (h.2 i hi)⟩

/-- The walk of a schedule: a reading (true) yields one value in every world that goes on from the one at hand; a call (false) is carried out, and goes on from it. -/
def wpGr (P : Program) (ops : Array Oper) (Q : Exit → Act → World → Prop) : List (Nat × Bool) → Act → World → Prop
  | [], a, w => Q .normal a w
  | (i, true) :: rest, a, w => ∃ o v, ops[i]? = some o ∧ YieldsIf P ops (Ext w) o v a ∧ wpGr P ops Q rest (a.put o.dst v) w
  | (i, false) :: rest, a, w => ∃ o, ops[i]? = some o ∧ (if Region.wanted o (yielded ops a.tmps) = true then Oper.wp P o a w (fun a' w' => Ext w w' ∧ wpGr P ops Q rest a' w') Q else wpGr P ops Q rest (a.put o.dst undef) w)

/-- May the schedule be walked: each reading may come up and nobody who could come ahead of it touches its temporaries; a call is all that may come up. -/
def schedOk (md : Region.Mode) (ops : Array Oper) : List (Nat × Bool) → Array Bool → Bool
  | [], listed => (Region.ready md ops listed).isEmpty
  | (i, true) :: rest, listed => Region.free md ops listed i && ((Region.ready md ops listed).contains i && schedOk md ops rest (listed.setIfInBounds i true))
  | (i, false) :: rest, listed => (Region.ready md ops listed == [i]) && schedOk md ops rest (listed.setIfInBounds i true)

theorem put_panic (hQ : ∀ t v c a w, Q (.panic c) (Act.put a (some t) v) w → Q (.panic c) a w) : ∀ d v c a w, Q (.panic c) (Act.put a d v) w → Q (.panic c) a w
  | none, _, _, _, _, h => h
  | some t, v, c, a, w, h => hQ t v c a w h
theorem wpAnyH_of_gr (hs : Region.noSelect ops = true) (hQ : ∀ t v c a w, Q (.panic c) (Act.put a (some t) v) w → Q (.panic c) a w) :
    ∀ (sc : List (Nat × Bool)) (fuel : Nat) (listed : Array Bool) (a : Act) (w : World), sc.length ≤ fuel → schedOk md ops sc listed = true → wpGr P ops Q sc a w → wpAnyH P md ops Q (Ext w) fuel listed a w
  | [], fuel, listed, a, w, _, hc, h => wpAnyH_done (by simpa [schedOk] using hc) h fuel
  | (i, true) :: rest, 0, _, _, _, hl, _, _ => by simp at hl
  | (i, false) :: rest, 0, _, _, _, hl, _, _ => by simp at hl
  | (i, true) :: rest, fuel + 1, listed, a, w, hl, hc, h => by
    obtain ⟨o, v, ho, hy, hr⟩ := h
    simp only [schedOk, Bool.and_eq_true] at hc
    exact wpAnyH_take ho hs hc.1 hc.2.1 (fun c a w => put_panic hQ _ _ c a w) hy (Ext.refl w) (wpAnyH_of_gr hs hQ rest fuel _ _ w (by simpa using hl) hc.2.2 hr)
  | (i, false) :: rest, fuel + 1, listed, a, w, hl, hc, h => by
    obtain ⟨o, ho, hr⟩ := h
    simp only [schedOk, Bool.and_eq_true, beq_iff_eq] at hc
    refine wpAnyH_all hc.1 (by simp) (fun j hj => ?_)
    obtain rfl := List.mem_singleton.1 hj
    unfold wpOp
    simp only [ho]
    by_cases hw : Region.wanted o (yielded ops a.tmps) = true
    · rw [if_pos hw] at hr ⊢
      refine .inl (Oper.wp_mono (fun a' w' h' => ⟨h'.1, ?_⟩) hr)
      exact wpAnyH_weaken (fun w'' hx => h'.1.trans hx) _ _ _ _ (wpAnyH_of_gr hs hQ rest fuel _ a' w' (by simpa using hl) hc.2 h'.2)
    · rw [if_neg hw] at hr ⊢
      exact ⟨Ext.refl w, wpAnyH_of_gr hs hQ rest fuel _ _ w (by simpa using hl) hc.2 hr⟩

theorem wp_region_gr (sc : List (Nat × Bool)) {id : Nat} {a : Act} {w : World} (hm : P.follows .mixedOrders = true) (hs : Region.noSelect ops = true) (hlen : decide (sc.length ≤ ops.size) = true)
    (hc : schedOk .any ops sc (Array.replicate ops.size false) = true) (hQ : ∀ t v c a w, Q (.panic c) (Act.put a (some t) v) w → Q (.panic c) a w)
    (h : wpGr P ops Q sc a w.drew) : (Code.region id ops true).wp P Q a w :=
  wp_region_held hm (wpAnyH_of_gr hs hQ sc _ _ a w.drew (of_decide_eq_true hlen) hc h)

theorem rgr (sc : List (Nat × Bool)) {id : Nat} {a : Act} {w : World} (hm : P.follows .mixedOrders = true := by kernel_rfl) (hs : Region.noSelect ops = true := by kernel_rfl) (hlen : decide (sc.length ≤ ops.size) = true := by kernel_rfl)
    (hc : schedOk .any ops sc (Array.replicate ops.size false) = true := by kernel_rfl) (hQ : ∀ t v c a w, Q (.panic c) (Act.put a (some t) v) w → Q (.panic c) a w := by exact fun _ _ _ _ _ h => h)
    (h : wpGr P ops Q sc a w.drew) : (Code.region id ops true).wp P Q a w := wp_region_gr sc hm hs hlen hc hQ h
theorem wpGr_done {a : Act} {w : World} (h : Q .normal a w) : wpGr P ops Q [] a w := h
theorem wpGr_skip {i : Nat} {rest : List (Nat × Bool)} {o : Oper} {a : Act} {w : World} (ho : ops[i]? = some o) (hw : Region.wanted o (yielded ops a.tmps) = false)
    (h : wpGr P ops Q rest (a.put o.dst undef) w) : wpGr P ops Q ((i, true) :: rest) a w := ⟨o, undef, ho, .inr ⟨hw, rfl⟩, h⟩
theorem wpGr_skipCall {i : Nat} {rest : List (Nat × Bool)} {o : Oper} {a : Act} {w : World} (ho : ops[i]? = some o) (hw : Region.wanted o (yielded ops a.tmps) = false)
    (h : wpGr P ops Q rest (a.put o.dst undef) w) : wpGr P ops Q ((i, false) :: rest) a w := ⟨o, ho, by rw [hw]; exact h⟩
theorem wpGr_read {i : Nat} {rest : List (Nat × Bool)} {o : Oper} {v : Value} {a : Act} {w : World} (ho : ops[i]? = some o) (hw : Region.wanted o (yielded ops a.tmps) = true)
    (hy : ∀ w', Ext w w' → (execOp a.eval o).run P w' = .ok (.value v) w') (h : wpGr P ops Q rest (a.put o.dst v) w) : wpGr P ops Q ((i, true) :: rest) a w := ⟨o, v, ho, .inl ⟨hw, hy⟩, h⟩
theorem wpGr_call {i : Nat} {rest : List (Nat × Bool)} {o : Oper} {a : Act} {w : World} (ho : ops[i]? = some o) (hw : Region.wanted o (yielded ops a.tmps) = true)
    (h : ∀ K : Act → World → Prop, (∀ a' w', Ext w w' → wpGr P ops Q rest a' w' → K a' w') → Oper.wp P o a w K Q) : wpGr P ops Q ((i, false) :: rest) a w :=
  ⟨o, ho, by rw [if_pos hw]; exact h _ fun _ _ h1 h2 => ⟨h1, h2⟩⟩
theorem grr {i : Nat} {rest : List (Nat × Bool)} {d : _} {op : _} {ty : _} {ps : _} {af : _} {gd : _} {v : Value} {a : Act} {w : World} (ho : ops[i]? = some (⟨d, op, ty, ps, af, gd⟩ : Oper)) (hw : Region.wanted (⟨d, op, ty, ps, af, gd⟩ : Oper) (yielded ops a.tmps) = true)
    (hy : ∀ w', Ext w w' → (execOp a.eval (⟨d, op, ty, ps, af, gd⟩ : Oper)).run P w' = .ok (.value v) w') (h : wpGr P ops Q rest (a.put d v) w) : wpGr P ops Q ((i, true) :: rest) a w := wpGr_read ho hw hy h
theorem grc {i : Nat} {rest : List (Nat × Bool)} {d : _} {op : _} {ty : _} {ps : _} {af : _} {gd : _} {a : Act} {w : World} (ho : ops[i]? = some (⟨d, op, ty, ps, af, gd⟩ : Oper)) (hw : Region.wanted (⟨d, op, ty, ps, af, gd⟩ : Oper) (yielded ops a.tmps) = true)
    (h : ∀ K : Act → World → Prop, (∀ a' w', Ext w w' → wpGr P ops Q rest a' w' → K a' w') → Oper.wp P (⟨d, op, ty, ps, af, gd⟩ : Oper) a w K Q) : wpGr P ops Q ((i, false) :: rest) a w := wpGr_call ho hw h
end
end Go.Proofs.YtbgkjniagedcnaaGreatDoor

