/-
  What stays beside rows that grow and structs that are filled.
-/
import Derived.Test.YtjlllkdimfkjaaaDoorRdB
namespace Go.Proofs.YtjlllkdimfkjaaaDoor
open Go Go.RowKit

/-- Blocks with no bytes turn: bytes stay. -/
theorem Sl.turnF {w w' : World} {F : Nat → Prop} {v : Value} {l : List Nat} (h : Sl w v l) (t : Turn F w w') (hn : ∀ b, F b → NoByte w b) : Sl w' v l := by
  rcases h with h | ⟨g, o, c, rfl, hc, h1, h2⟩
  · exact .inl h
  · refine .inr ⟨g, o, c, rfl, fun i hi => ?_, h1, h2⟩
    have hx := hc i hi
    rw [t.cell (p := ⟨g, o + i, Option.none⟩) (block_lt_of_cell hx) (fun hF => hn g hF _ _ hx)]
    exact hx
theorem Rd.turnF {w w' : World} {F : Nat → Prop} {b : Nat} {S : RS} (h : Rd w b S) (t : Turn F w w') (hb : ¬ F b) (hn : ∀ b, F b → NoByte w b) : Rd w' b S := by
  obtain ⟨v, h1, h2⟩ := h.ex
  exact ⟨⟨v, h1.turn t hb, h2.turnF t hn⟩, h.b8, h.len, h.inv⟩
theorem turn_new (w : World) (o : Obj) (F : Nat → Prop) : Turn F w (w.alloc o) := (Turn.refl F w).alloc o
theorem nb1 {w : World} {b : Nat} (h : NoByte w b) : ∀ i, i = b → NoByte w i := fun _ e => e ▸ h
theorem nb2 {w : World} {b p : Nat} (h : NoByte w b) (h2 : NoByte w p) : ∀ i, (i = b ∨ i = p) → NoByte w i := fun _ e => e.elim (fun e => e ▸ h) (fun e => e ▸ h2)
theorem byteS_b8 {S : RS} (h : B8 S.l) : (byteS S).1 < 256 ∧ B8 (byteS S).2.l := by
  by_cases h0 : S.l = []
  · rw [byteS_nil h0]; exact ⟨by decide, B8.nil⟩
  · rw [byteS_cons h0]; exact ⟨h.get 0, h.drop 1⟩
theorem turn_grown {w w' : World} {row : Option Nat} (hg : w.grownBy w' row) : Turn (fun i => row = some i) w w' :=
  ⟨hg.os, hg.tape, hg.output, hg.size, fun i hi hne => hg.block i hi (fun e => hne e.symm)⟩
theorem Rb.overF {w w' : World} {b B : Nat} {S : RS} {F : Nat → Prop} (h : Rb w b B S) (t : Turn F w w') (hF : ∀ i, F i → B ≤ i ∧ i ≠ b) : Rb w' b B S := by
  obtain ⟨v, h1, h2, h3⟩ := h.ex
  refine ⟨⟨v, h1.turn t (fun hb => (hF b hb).2 rfl), ?_, h3⟩, h.b8, h.len, h.inv⟩
  rcases h2 with h4 | ⟨g', o', c', rfl, hc, h5, h6⟩
  · exact .inl h4
  · refine .inr ⟨g', o', c', rfl, fun i hi => ?_, h5, h6⟩
    have hlt := h3 g' o' _ c' rfl (by omega)
    rw [t.cell (p := ⟨g', o' + i, none⟩) (block_lt_of_cell (hc i hi)) (fun hx => by have := (hF g' hx).1; omega)]
    exact hc i hi
theorem rs_eta {S : RS} {l : List Nat} {b : Bool} (h1 : S.l = l) (h2 : S.wr = b) : S = ⟨l, b⟩ := by
  obtain ⟨x, y⟩ := S
  dsimp only at h1 h2
  rw [h1, h2]
theorem Lo.ofSrc {w : World} {a : Option Addr} {c : Nat} {l : List Nat} (h : Src w a l) : Lo (.slice a l.length c) w.heap.size := fun g o n c' e h0 => by
  simp only [Value.slice.injEq] at e
  obtain ⟨rfl, rfl, rfl⟩ := e
  obtain ⟨g', o', e, hc⟩ := h h0
  cases e
  exact hc.lt h0
/-- Blocks above the bound turn: bytes below stay. -/
theorem Sl.overLo {w w' : World} {B : Nat} {v : Value} {l : List Nat} {F : Nat → Prop} (h : Sl w v l) (hl : Lo v B) (t : Turn F w w') (hF : ∀ i, F i → B ≤ i) : Sl w' v l := by
  rcases h with h4 | ⟨g', o', c', rfl, hc, h5, h6⟩
  · exact .inl h4
  · refine .inr ⟨g', o', c', rfl, fun i hi => ?_, h5, h6⟩
    have hlt := hl g' o' _ c' rfl (by omega)
    rw [t.cell (p := ⟨g', o' + i, Option.none⟩) (block_lt_of_cell (hc i hi)) (fun hx => by have := hF g' hx; omega)]
    exact hc i hi
theorem own_lts {w : World} {B E sz n : Nat} {v : Value} {xs : List Value} (h : w.ownsRow B E sz v n xs) : ∀ i, v.ownBlock = some i → i < w.heap.size := fun i hi => (h.lt i hi).2
theorem own_turnF {w w' : World} {B E sz n : Nat} {v : Value} {xs : List Value} {F : Nat → Prop} (h : w.ownsRow B E sz v n xs) (t : Turn F w w') (hF : ∀ i, v.ownBlock = some i → ¬ F i) : w'.ownsRow B E sz v n xs := by
  refine ⟨h.1, ?_⟩
  rcases h.2 with h1 | ⟨g, cap, cur, h1, h2, h3, h4⟩
  · exact .inl h1
  · exact .inr ⟨g, cap, cur, h1, h2, t.hg h3 (hF g (by rw [h1]; rfl)), h4⟩
/-- An owned row's base may be lower. -/
theorem own_base {w : World} {B B' E sz n : Nat} {v : Value} {xs : List Value} (h : w.ownsRow B E sz v n xs) (hb : B' ≤ B) : w.ownsRow B' E sz v n xs := by
  refine ⟨h.1, ?_⟩
  rcases h.2 with h1 | ⟨g, cap, cur, h1, h2, h3⟩
  · exact .inl h1
  · exact .inr ⟨g, cap, cur, h1, Nat.le_trans hb h2, h3⟩
theorem beL_two (v : Nat) : beL v 2 = [v / 256 % 256, v % 256] := rfl
end Go.Proofs.YtjlllkdimfkjaaaDoor
