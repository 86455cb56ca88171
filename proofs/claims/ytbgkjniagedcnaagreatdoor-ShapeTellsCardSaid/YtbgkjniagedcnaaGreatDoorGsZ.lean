/-
  A region that draws its order, in which two or three makes may come up in whatever order: walked as a tree. No program.
-/
import Derived.Test.YtbgkjniagedcnaaGreatDoorTurnZ
namespace Go.Proofs.YtbgkjniagedcnaaGreatDoor
open Go Go.RowKit
/-- A schedule that parts where several may come up that are no readings. -/
inductive Sch where
  | done
  | rd (i : Nat) (r : Sch)
  | call (i : Nat) (r : Sch)
  | two (i : Nat) (r : Sch) (j : Nat) (s : Sch)
  | three (i : Nat) (r : Sch) (j : Nat) (s : Sch) (k : Nat) (t : Sch)
def Sch.len : Sch → Nat
  | .done => 0
  | .rd _ r => r.len + 1
  | .call _ r => r.len + 1
  | .two _ r _ s => max r.len s.len + 1
  | .three _ r _ s _ t => max r.len (max s.len t.len) + 1
section
variable {F : Nat → Prop} {P : Program} {ops : Array Oper} {Q : Exit → Act → World → Prop} {md : Region.Mode}
/-- One that is carried out. -/
def stepS (F : Nat → Prop) (P : Program) (ops : Array Oper) (Q : Exit → Act → World → Prop) (i : Nat) (K : Act → World → Prop) (a : Act) (w : World) : Prop :=
  ∃ o, ops[i]? = some o ∧ (if Region.wanted o (yielded ops a.tmps) = true then Oper.wp P o a w (fun a' w' => Turn F w w' ∧ K a' w') Q else K (a.put o.dst undef) w)
def wpGs (F : Nat → Prop) (P : Program) (ops : Array Oper) (Q : Exit → Act → World → Prop) : Sch → Act → World → Prop
  | .done, a, w => Q .normal a w
  | .rd i r, a, w => ∃ o v, ops[i]? = some o ∧ YieldsIf P ops (Turn F w) o v a ∧ wpGs F P ops Q r (a.put o.dst v) w
  | .call i r, a, w => stepS F P ops Q i (wpGs F P ops Q r) a w
  | .two i r j s, a, w => stepS F P ops Q i (wpGs F P ops Q r) a w ∧ stepS F P ops Q j (wpGs F P ops Q s) a w
  | .three i r j s k t, a, w => stepS F P ops Q i (wpGs F P ops Q r) a w ∧ stepS F P ops Q j (wpGs F P ops Q s) a w ∧ stepS F P ops Q k (wpGs F P ops Q t) a w
def schedOkS (md : Region.Mode) (ops : Array Oper) : Sch → Array Bool → Bool
  | .done, listed => (Region.ready md ops listed).isEmpty
  | .rd i r, listed => Region.free md ops listed i && ((Region.ready md ops listed).contains i && schedOkS md ops r (listed.setIfInBounds i true))
  | .call i r, listed => (Region.ready md ops listed == [i]) && schedOkS md ops r (listed.setIfInBounds i true)
  | .two i r j s, listed => (Region.ready md ops listed == [i, j]) && (schedOkS md ops r (listed.setIfInBounds i true) && schedOkS md ops s (listed.setIfInBounds j true))
  | .three i r j s k t, listed => (Region.ready md ops listed == [i, j, k]) && (schedOkS md ops r (listed.setIfInBounds i true) && (schedOkS md ops s (listed.setIfInBounds j true) && schedOkS md ops t (listed.setIfInBounds k true)))
theorem wpOp_of_step {fuel i : Nat} {listed : Array Bool} {a : Act} {w : World} {K : Act → World → Prop} (h : stepS F P ops Q i K a w)
    (ih : ∀ a' w', K a' w' → wpAnyH P md ops Q (Turn F w') fuel listed a' w') : wpOp P ops Q i (fun a' w' => Turn F w w' ∧ wpAnyH P md ops Q (Turn F w) fuel listed a' w') a w := by
  obtain ⟨o, ho, hr⟩ := h
  unfold wpOp
  simp only [ho]
  by_cases hw : Region.wanted o (yielded ops a.tmps) = true
  · rw [if_pos hw] at hr ⊢
    refine .inl (Oper.wp_mono (fun a' w' h' => ⟨h'.1, ?_⟩) hr)
    exact wpAnyH_weaken (fun w'' hx => h'.1.trans hx) _ _ _ _ (ih a' w' h'.2)
  · rw [if_neg hw] at hr ⊢
    exact ⟨Turn.refl F w, ih _ w hr⟩
theorem wpAnyH_of_gs (hs : Region.noSelect ops = true) (hQ : ∀ t v c a w, Q (.panic c) (Act.put a (some t) v) w → Q (.panic c) a w) :
    ∀ (sc : Sch) (fuel : Nat) (listed : Array Bool) (a : Act) (w : World), sc.len ≤ fuel → schedOkS md ops sc listed = true → wpGs F P ops Q sc a w → wpAnyH P md ops Q (Turn F w) fuel listed a w
  | .done, fuel, listed, a, w, _, hc, h => wpAnyH_done (by simpa [schedOkS] using hc) h fuel
  | .rd i r, 0, _, _, _, hl, _, _ => by simp [Sch.len] at hl
  | .call i r, 0, _, _, _, hl, _, _ => by simp [Sch.len] at hl
  | .two i r j s, 0, _, _, _, hl, _, _ => by simp [Sch.len] at hl
  | .three i r j s k t, 0, _, _, _, hl, _, _ => by simp [Sch.len] at hl
  | .rd i r, fuel + 1, listed, a, w, hl, hc, h => by
    obtain ⟨o, v, ho, hy, hr⟩ := h
    simp only [schedOkS, Bool.and_eq_true] at hc
    exact wpAnyH_take ho hs hc.1 hc.2.1 (fun c a w => put_panic hQ _ _ c a w) hy (Turn.refl F w) (wpAnyH_of_gs hs hQ r fuel _ _ w (by simpa [Sch.len] using hl) hc.2.2 hr)
  | .call i r, fuel + 1, listed, a, w, hl, hc, h => by
    simp only [schedOkS, Bool.and_eq_true, beq_iff_eq] at hc
    refine wpAnyH_all hc.1 (by simp) (fun j hj => ?_)
    obtain rfl := List.mem_singleton.1 hj
    exact wpOp_of_step h (fun a' w' => wpAnyH_of_gs hs hQ r fuel _ a' w' (by simpa [Sch.len] using hl) hc.2)
  | .two i r j s, fuel + 1, listed, a, w, hl, hc, h => by
    simp only [schedOkS, Bool.and_eq_true, beq_iff_eq] at hc
    have hl' : max r.len s.len ≤ fuel := by simpa [Sch.len] using hl
    refine wpAnyH_all hc.1 (by simp) (fun x hx => ?_)
    simp only [List.mem_cons, List.not_mem_nil, or_false] at hx
    rcases hx with rfl | rfl
    · exact wpOp_of_step h.1 (fun a' w' => wpAnyH_of_gs hs hQ r fuel _ a' w' (by omega) hc.2.1)
    · exact wpOp_of_step h.2 (fun a' w' => wpAnyH_of_gs hs hQ s fuel _ a' w' (by omega) hc.2.2)
  | .three i r j s k t, fuel + 1, listed, a, w, hl, hc, h => by
    simp only [schedOkS, Bool.and_eq_true, beq_iff_eq] at hc
    have hl' : max r.len (max s.len t.len) ≤ fuel := by simpa [Sch.len] using hl
    refine wpAnyH_all hc.1 (by simp) (fun x hx => ?_)
    simp only [List.mem_cons, List.not_mem_nil, or_false] at hx
    rcases hx with rfl | rfl | rfl
    · exact wpOp_of_step h.1 (fun a' w' => wpAnyH_of_gs hs hQ r fuel _ a' w' (by omega) hc.2.1)
    · exact wpOp_of_step h.2.1 (fun a' w' => wpAnyH_of_gs hs hQ s fuel _ a' w' (by omega) hc.2.2.1)
    · exact wpOp_of_step h.2.2 (fun a' w' => wpAnyH_of_gs hs hQ t fuel _ a' w' (by omega) hc.2.2.2)

theorem wp_region_gs (sc : Sch) {id : Nat} {a : Act} {w : World} (hm : P.follows .mixedOrders = true) (hs : Region.noSelect ops = true) (hlen : decide (sc.len ≤ ops.size) = true)
    (hc : schedOkS .any ops sc (Array.replicate ops.size false) = true) (hQ : ∀ t v c a w, Q (.panic c) (Act.put a (some t) v) w → Q (.panic c) a w)
    (h : wpGs F P ops Q sc a w.drew) : (Code.region id ops true).wp P Q a w :=
  wp_region_held hm (wpAnyH_of_gs hs hQ sc _ _ a w.drew (of_decide_eq_true hlen) hc h)

theorem rgs (sc : Sch) {id : Nat} {a : Act} {w : World} (hm : P.follows .mixedOrders = true := by kernel_rfl) (hs : Region.noSelect ops = true := by kernel_rfl) (hlen : decide (sc.len ≤ ops.size) = true := by kernel_rfl)
    (hc : schedOkS .any ops sc (Array.replicate ops.size false) = true := by kernel_rfl) (hQ : ∀ t v c a w, Q (.panic c) (Act.put a (some t) v) w → Q (.panic c) a w := by exact fun _ _ _ _ _ h => h)
    (h : wpGs F P ops Q sc a w.drew) : (Code.region id ops true).wp P Q a w := wp_region_gs sc hm hs hlen hc hQ h
theorem wpGs_done {a : Act} {w : World} (h : Q .normal a w) : wpGs F P ops Q .done a w := h
theorem wpGs_read {i : Nat} {rest : Sch} {o : Oper} {v : Value} {a : Act} {w : World} (ho : ops[i]? = some o) (hw : Region.wanted o (yielded ops a.tmps) = true)
    (hy : ∀ w', Turn F w w' → (execOp a.eval o).run P w' = .ok (.value v) w') (h : wpGs F P ops Q rest (a.put o.dst v) w) : wpGs F P ops Q (.rd i rest) a w := ⟨o, v, ho, .inl ⟨hw, hy⟩, h⟩
theorem stepS_call {K : Act → World → Prop} {i : Nat} {o : Oper} {a : Act} {w : World} (ho : ops[i]? = some o) (hw : Region.wanted o (yielded ops a.tmps) = true)
    (h : ∀ K' : Act → World → Prop, (∀ a' w', Turn F w w' → K a' w' → K' a' w') → Oper.wp P o a w K' Q) : stepS F P ops Q i K a w :=
  ⟨o, ho, by rw [if_pos hw]; exact h _ fun _ _ h1 h2 => ⟨h1, h2⟩⟩
theorem wpGs_call {i : Nat} {rest : Sch} {o : Oper} {a : Act} {w : World} (ho : ops[i]? = some o) (hw : Region.wanted o (yielded ops a.tmps) = true)
    (h : ∀ K : Act → World → Prop, (∀ a' w', Turn F w w' → wpGs F P ops Q rest a' w' → K a' w') → Oper.wp P o a w K Q) : wpGs F P ops Q (.call i rest) a w := stepS_call ho hw h
theorem gsr {i : Nat} {rest : Sch} {d : _} {op : _} {ty : _} {ps : _} {af : _} {gd : _} {v : Value} {a : Act} {w : World} (ho : ops[i]? = some (⟨d, op, ty, ps, af, gd⟩ : Oper)) (hw : Region.wanted (⟨d, op, ty, ps, af, gd⟩ : Oper) (yielded ops a.tmps) = true)
    (hy : ∀ w', Turn F w w' → (execOp a.eval (⟨d, op, ty, ps, af, gd⟩ : Oper)).run P w' = .ok (.value v) w') (h : wpGs F P ops Q rest (a.put d v) w) : wpGs F P ops Q (.rd i rest) a w := wpGs_read ho hw hy h
theorem gsc {K : Act → World → Prop} {i : Nat} {d : _} {op : _} {ty : _} {ps : _} {af : _} {gd : _} {a : Act} {w : World} (ho : ops[i]? = some (⟨d, op, ty, ps, af, gd⟩ : Oper)) (hw : Region.wanted (⟨d, op, ty, ps, af, gd⟩ : Oper) (yielded ops a.tmps) = true)
    (h : ∀ K' : Act → World → Prop, (∀ a' w', Turn F w w' → K a' w' → K' a' w') → Oper.wp P (⟨d, op, ty, ps, af, gd⟩ : Oper) a w K' Q) : stepS F P ops Q i K a w := stepS_call ho hw h
end
end Go.Proofs.YtbgkjniagedcnaaGreatDoor
