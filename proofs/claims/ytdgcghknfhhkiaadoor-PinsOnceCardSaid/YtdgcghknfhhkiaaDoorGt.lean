/-
  A region that draws its order, one of whose operations writes: walked once, as XGr's, where of what was there only the blocks of F turn. No program.
-/
import Derived.Test.YtdgcghknfhhkiaaDoorGr
import Derived.Test.YtdgcghknfhhkiaaDoorTurn
namespace Go.Proofs.YtdgcghknfhhkiaaDoor
open Go Go.RowKit
section
variable {F : Nat → Prop} {P : Program} {ops : Array Oper} {Q : Exit → Act → World → Prop} {md : Region.Mode}
/-- The walk of a schedule: a reading (true) yields one value in every world that goes on from the one at hand; a call (false) is carried out, and goes on from it. -/
def wpGt (F : Nat → Prop) (P : Program) (ops : Array Oper) (Q : Exit → Act → World → Prop) : List (Nat × Bool) → Act → World → Prop
  | [], a, w => Q .normal a w
  | (i, true) :: rest, a, w => ∃ o v, ops[i]? = some o ∧ YieldsIf P ops (Turn F w) o v a ∧ wpGt F P ops Q rest (a.put o.dst v) w
  | (i, false) :: rest, a, w => ∃ o, ops[i]? = some o ∧ (if Region.wanted o (yielded ops a.tmps) = true then Oper.wp P o a w (fun a' w' => Turn F w w' ∧ wpGt F P ops Q rest a' w') Q else wpGt F P ops Q rest (a.put o.dst undef) w)

theorem wpAnyH_of_gt (hs : Region.noSelect ops = true) (hQ : ∀ t v c a w, Q (.panic c) (Act.put a (some t) v) w → Q (.panic c) a w) :
    ∀ (sc : List (Nat × Bool)) (fuel : Nat) (listed : Array Bool) (a : Act) (w : World), sc.length ≤ fuel → schedOk md ops sc listed = true → wpGt F P ops Q sc a w → wpAnyH P md ops Q (Turn F w) fuel listed a w
  | [], fuel, listed, a, w, _, hc, h => wpAnyH_done (by simpa [schedOk] using hc) h fuel
  | (i, true) :: rest, 0, _, _, _, hl, _, _ => by simp at hl
  | (i, false) :: rest, 0, _, _, _, hl, _, _ => by simp at hl
  | (i, true) :: rest, fuel + 1, listed, a, w, hl, hc, h => by
    obtain ⟨o, v, ho, hy, hr⟩ := h
    simp only [schedOk, Bool.and_eq_true] at hc
    exact wpAnyH_take ho hs hc.1 hc.2.1 (fun c a w => put_panic hQ _ _ c a w) hy (Turn.refl F w) (wpAnyH_of_gt hs hQ rest fuel _ _ w (by simpa using hl) hc.2.2 hr)
  | (i, false) :: rest, fuel + 1, listed, a, w, hl, hc, h => by
    obtain ⟨o, ho, hr⟩ := h
    simp only [schedOk, Bool.and_eq_true, beq_iff_eq] at hc
    refine wpAnyH_all hc.1 (by simp) (fun j hj => ?_)
    obtain rfl := List.mem_singleton.1 hj
    unfold wpOp
    simp only [ho]
    by_cases hw : Region.wanted o (yielded ops a.tmps) = true
    · rw [if_pos hw] at hr ⊢
      refine .inl (Oper.wp_mono (fun a' w' h' => ⟨h'.1, ?_⟩) hr)
      exact wpAnyH_weaken (fun w'' hx => h'.1.trans hx) _ _ _ _ (wpAnyH_of_gt hs hQ rest fuel _ a' w' (by simpa using hl) hc.2 h'.2)
    · rw [if_neg hw] at hr ⊢
      exact ⟨Turn.refl F w, wpAnyH_of_gt hs hQ rest fuel _ _ w (by simpa using hl) hc.2 hr⟩

theorem wp_region_gt (sc : List (Nat × Bool)) {id : Nat} {a : Act} {w : World} (hm : P.follows .mixedOrders = true) (hs : Region.noSelect ops = true) (hlen : decide (sc.length ≤ ops.size) = true)
    (hc : schedOk .any ops sc (Array.replicate ops.size false) = true) (hQ : ∀ t v c a w, Q (.panic c) (Act.put a (some t) v) w → Q (.panic c) a w)
    (h : wpGt F P ops Q sc a w.drew) : (Code.region id ops true).wp P Q a w :=
  wp_region_held hm (wpAnyH_of_gt hs hQ sc _ _ a w.drew (of_decide_eq_true hlen) hc h)

theorem wpGt_done {a : Act} {w : World} (h : Q .normal a w) : wpGt F P ops Q [] a w := h
theorem wpGt_skip {i : Nat} {rest : List (Nat × Bool)} {o : Oper} {a : Act} {w : World} (ho : ops[i]? = some o) (hw : Region.wanted o (yielded ops a.tmps) = false)
    (h : wpGt F P ops Q rest (a.put o.dst undef) w) : wpGt F P ops Q ((i, true) :: rest) a w := ⟨o, undef, ho, .inr ⟨hw, rfl⟩, h⟩
theorem wpGt_skipCall {i : Nat} {rest : List (Nat × Bool)} {o : Oper} {a : Act} {w : World} (ho : ops[i]? = some o) (hw : Region.wanted o (yielded ops a.tmps) = false)
    (h : wpGt F P ops Q rest (a.put o.dst undef) w) : wpGt F P ops Q ((i, false) :: rest) a w := ⟨o, ho, by rw [hw]; exact h⟩
theorem wpGt_read {i : Nat} {rest : List (Nat × Bool)} {o : Oper} {v : Value} {a : Act} {w : World} (ho : ops[i]? = some o) (hw : Region.wanted o (yielded ops a.tmps) = true)
    (hy : ∀ w', Turn F w w' → (execOp a.eval o).run P w' = .ok (.value v) w') (h : wpGt F P ops Q rest (a.put o.dst v) w) : wpGt F P ops Q ((i, true) :: rest) a w := ⟨o, v, ho, .inl ⟨hw, hy⟩, h⟩
theorem wpGt_call {i : Nat} {rest : List (Nat × Bool)} {o : Oper} {a : Act} {w : World} (ho : ops[i]? = some o) (hw : Region.wanted o (yielded ops a.tmps) = true)
    (h : ∀ K : Act → World → Prop, (∀ a' w', Turn F w w' → wpGt F P ops Q rest a' w' → K a' w') → Oper.wp P o a w K Q) : wpGt F P ops Q ((i, false) :: rest) a w :=
  ⟨o, ho, by rw [if_pos hw]; exact h _ fun _ _ h1 h2 => ⟨h1, h2⟩⟩
end
end Go.Proofs.YtdgcghknfhhkiaaDoor
