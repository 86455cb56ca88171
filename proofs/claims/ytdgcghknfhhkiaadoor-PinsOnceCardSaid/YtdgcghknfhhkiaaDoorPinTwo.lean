/-
  PinsOnce, a reader more: two rows that grow while another variable waits.
-/
import Derived.Test.YtdgcghknfhhkiaaDoorPinState
namespace Go.Proofs.YtdgcghknfhhkiaaDoor
open Go Go.RowKit

theorem build_set0 (w : World) : (Instr.build TS #[]).run Tryd.prog w = .ok (.agg (sc (fun _ => false))) w := by kernel_rfl
theorem rd_build_set0 {o : Oper} {a : Act} {w : World} (ho : o.op = .build TS #[]) : (execOp a.eval o).run Tryd.prog w = .ok (.value (.agg (sc (fun _ => false)))) w := by
  unfold execOp
  simp only [ho, Sem.run_bind, Sem.run_pure, Result.andThen_ok, Array.map_empty, build_set0]
theorem turn_grown {w w' : World} {x : Option Nat} (hg : w.grownBy w' x) : Turn (fun i => x = some i) w w' :=
  (Turn.refl (fun i => x = some i) w).grown hg (fun _ hk _ => hk)
theorem ES.turnU {F : Nat → Prop} {w w' : World} {g o : Nat} {l : List Nat} (h : ES uE w (some ⟨g, o, none⟩) l) (ht : Turn F w w') (hF : ¬ F g) : ES uE w' (some ⟨g, o, none⟩) l := by
  rcases h with ⟨h, _⟩ | ⟨g', o', e, ⟨A, T, fz, h1, h2⟩, hc⟩
  · cases h
  · cases e
    exact .inr ⟨g, o, rfl, ⟨A, T, fz, ht.hg h1 hF, h2⟩, fun j u hu => by have := hc j u hu; rw [ht.cell (p := ⟨g, o + j, none⟩) (block_lt_of_cell this) hF]; exact this⟩
structure PW (w : World) (g3 g10 B N M : Nat) (v u : Value) (L2 : List Pn) (sl ol : List Nat) (vs vo : Value) : Prop where
  k3 : Blk w g3 PS (psv N v)
  k10 : Blk w g10 PS (psv M u)
  eu : EV pinE w u L2
  es : w.ownsRow B UT 1 vs sl.length (uE.row sl)
  eo : w.ownsRow B UT 1 vo ol.length (uE.row ol)
  gB : g3 < B
  Bw : B ≤ w.heap.size
  uB : ∀ k, u.ownBlock = some k → B ≤ k
  us : ∀ k, u.ownBlock = some k → vs.ownBlock = some k → False
  uo : ∀ k, u.ownBlock = some k → vo.ownBlock = some k → False
  so_ : ∀ k, vs.ownBlock = some k → vo.ownBlock = some k → False
  ts : ∀ k, vs.ownBlock = some k → k ≠ g10
  to_ : ∀ k, vo.ownBlock = some k → k ≠ g10
section
variable {w w' : World} {g3 g10 B N M : Nat} {v u : Value} {L2 : List Pn} {sl ol : List Nat} {vs vo : Value}
theorem PW.ext (h : PW w g3 g10 B N M v u L2 sl ol vs vo) (hb : Ext w w') : PW w' g3 g10 B N M v u L2 sl ol vs vo :=
  have ht : Turn (fun i => w.heap.size ≤ i) w w' := turn_from hb
  ⟨h.k3.ext hb, h.k10.ext hb, h.eu.ext hb, own_turn h.es ht (fun k hk => by have := own_blk h.es hk; omega), own_turn h.eo ht (fun k hk => by have := own_blk h.eo hk; omega), h.gB, Nat.le_trans h.Bw (Below.size hb), h.uB, h.us, h.uo, h.so_, h.ts, h.to_⟩
/-- One more number seen. -/
theorem PW.app4 (h : PW w g3 g10 B N M v u L2 sl ol vs vo) (ty : TypeId) (g y : Nat) (hy : ES uE w (some ⟨g, 0, none⟩) [y]) (hl : sl.length + 1 ≤ 1000000) :
    ∃ v' w', (Builtin.append_ #[SUT, SUT] ty #[vs, .slice (some ⟨g, 0, none⟩) 1 1]).run Tryd.prog w = .ok v' w' ∧ Below B w w' ∧ PW w' g3 g10 B N M v u L2 (sl ++ [y]) ol v' vo ∧ Turn (fun i => vs.ownBlock = some i) w w' := by
  obtain ⟨v', w', hr, hb, ho, hg, hn⟩ := uapp_one ty g y h.es h.Bw hy hl
  have ht := turn_grown hg
  have hsz : w.heap.size ≤ w'.heap.size := ht.size
  refine ⟨v', w', hr, hb, ⟨h.k3.turn ht (fun e => ?_), h.k10.turn ht (fun e => h.ts _ e rfl), h.eu.turnP ht (fun k h1 h2 => h.us k h1 h2), ho, own_turn h.eo ht (fun k h1 h2 => h.so_ k h2 h1), h.gB, Nat.le_trans h.Bw hsz, h.uB, fun k h1 h2 => ?_, h.uo, fun k h1 h2 => ?_, fun k h1 => ?_, h.to_⟩, ht⟩
  · have := (h.es.lt g3 e).1; have := h.gB; omega
  · rcases hn k h2 with h3 | h3
    · exact h.us k h1 h3
    · have := h.eu.lt h1; omega
  · rcases hn k h1 with h3 | h3
    · exact h.so_ k h3 h2
    · have := own_blk h.eo h2; omega
  · rcases hn k h1 with h3 | h3
    · exact h.ts k h3
    · have := h.k10.lt; omega
/-- One more number open. -/
theorem PW.app8 (h : PW w g3 g10 B N M v u L2 sl ol vs vo) (ty : TypeId) (g y : Nat) (hy : ES uE w (some ⟨g, 0, none⟩) [y]) (hl : ol.length + 1 ≤ 1000000) :
    ∃ v' w', (Builtin.append_ #[SUT, SUT] ty #[vo, .slice (some ⟨g, 0, none⟩) 1 1]).run Tryd.prog w = .ok v' w' ∧ Below B w w' ∧ PW w' g3 g10 B N M v u L2 sl (ol ++ [y]) vs v' ∧ Turn (fun i => vo.ownBlock = some i) w w' := by
  obtain ⟨v', w', hr, hb, ho, hg, hn⟩ := uapp_one ty g y h.eo h.Bw hy hl
  have ht := turn_grown hg
  have hsz : w.heap.size ≤ w'.heap.size := ht.size
  refine ⟨v', w', hr, hb, ⟨h.k3.turn ht (fun e => ?_), h.k10.turn ht (fun e => h.to_ _ e rfl), h.eu.turnP ht (fun k h1 h2 => h.uo k h1 h2), own_turn h.es ht (fun k h1 h2 => h.so_ k h1 h2), ho, h.gB, Nat.le_trans h.Bw hsz, h.uB, h.us, fun k h1 h2 => ?_, fun k h1 h2 => ?_, h.ts, fun k h1 => ?_⟩, ht⟩
  · have := (h.eo.lt g3 e).1; have := h.gB; omega
  · rcases hn k h2 with h3 | h3
    · exact h.uo k h1 h3
    · have := h.eu.lt h1; omega
  · rcases hn k h2 with h3 | h3
    · exact h.so_ k h1 h3
    · have := own_blk h.es h1; omega
  · rcases hn k h1 with h3 | h3
    · exact h.to_ k h3
    · have := h.k10.lt; omega
/-- The readers go into the variable. -/
theorem PW.fin (h : PW w g3 g10 B N M v u L2 (seenL M) (ids L2) vs vo) (hk : Blk w' g3 PS (psv M u)) (ht : Turn (fun i => i = g3) w w') : PO w' g3 B M u L2 vs vo :=
  ⟨hk, h.eu.turnP ht (fun k h1 e => by have := h.uB k h1; have := h.gB; omega), own_turn h.es ht (fun k h1 e => by have := (h.es.lt k h1).1; have := h.gB; omega), own_turn h.eo ht (fun k h1 e => by have := (h.eo.lt k h1).1; have := h.gB; omega), h.gB, Nat.le_trans h.Bw ht.size, h.uB, h.us, h.uo, h.so_⟩
/-- Readers opened beside what is held. -/
theorem PO.two (h : PO w g3 B N v L2 vs vo) {u : Value} {L3 : List Pn} {w1 : World} (hb : Ext w w1) (hk : Blk w1 g10 PS (psv M u)) (hu : EV pinE w1 u L3) (hnew : ∀ k, u.ownBlock = some k → w.heap.size ≤ k) (hg : w.heap.size ≤ g10) : PW w1 g3 g10 B N M v u L3 (seenL N) (ids L2) vs vo :=
  have h1 := h.ext hb
  ⟨h1.k3, hk, hu, h1.es, h1.eo, h.gB, h1.Bw, fun k hk => Nat.le_trans h.Bw (hnew k hk), fun k h2 h3 => by have := hnew k h2; have := own_blk h.es h3; omega, fun k h2 h3 => by have := hnew k h2; have := own_blk h.eo h3; omega, h.so_, fun k h2 => by have := own_blk h.es h2; omega, fun k h2 => by have := own_blk h.eo h2; omega⟩
end
end Go.Proofs.YtdgcghknfhhkiaaDoor
