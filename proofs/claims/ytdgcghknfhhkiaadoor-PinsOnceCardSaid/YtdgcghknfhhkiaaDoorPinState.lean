/-
  What PinsOnce holds between two acts: readers in a variable, the numbers seen, the numbers open.
-/
import Derived.Test.YtdgcghknfhhkiaaDoorPinIds
namespace Go.Proofs.YtdgcghknfhhkiaaDoor
open Go Go.RowKit

/-- A slice of pairs of bytes. -/
def QS (w : World) (a : Option Addr) (l : List (Nat × Nat)) : Prop := 0 < l.length → ∃ b o, a = some ⟨b, o, none⟩ ∧ ∀ i, i < l.length →
  w.cell? ⟨b, o + i * 2, none⟩ = some (.int .u8 ((l.getD i (0, 0)).1 : Int)) ∧ w.cell? ⟨b, o + i * 2 + 1, none⟩ = some (.int .u8 ((l.getD i (0, 0)).2 : Int))
theorem QS.ext {w w' : World} {a : Option Addr} {l : List (Nat × Nat)} (h : QS w a l) (hb : Ext w w') : QS w' a l := fun h0 => by
  obtain ⟨b, o, rfl, hc⟩ := h h0
  refine ⟨b, o, rfl, fun i hi => ?_⟩
  obtain ⟨h1, h2⟩ := hc i hi
  exact ⟨by rw [Below.cell hb (p := ⟨b, o + i * 2, none⟩) (block_lt_of_cell h1)]; exact h1, by rw [Below.cell hb (p := ⟨b, o + i * 2 + 1, none⟩) (block_lt_of_cell h2)]; exact h2⟩
theorem own_turn {F : Nat → Prop} {w w' : World} {B T sz n : Nat} {v : Value} {xs : List Value} (h : w.ownsRow B T sz v n xs) (ht : Turn F w w') (hF : ∀ k, v.ownBlock = some k → ¬ F k) : w'.ownsRow B T sz v n xs := by
  refine ⟨h.1, ?_⟩
  rcases h.2 with h1 | ⟨g, cap, cur, rfl, hbg, hh, r⟩
  · exact .inl h1
  · exact .inr ⟨g, cap, cur, rfl, hbg, ht.hg hh (hF g rfl), r⟩
theorem own_blk {w : World} {B T sz n : Nat} {v : Value} {xs : List Value} (h : w.ownsRow B T sz v n xs) {k : Nat} (hk : v.ownBlock = some k) : k < w.heap.size := by
  rcases h.2 with ⟨rfl, _⟩ | ⟨g, cap, cur, rfl, _, hh, _⟩
  · cases hk
  · cases hk; exact (Array.getElem?_eq_some_iff.1 hh).1
theorem EV.turnP {F : Nat → Prop} {w w' : World} {v : Value} {l : List Pn} (h : EV pinE w v l) (ht : Turn F w w') (hF : ∀ k, v.ownBlock = some k → ¬ F k) : EV pinE w' v l := by
  obtain ⟨a, c, rfl, hs, h1⟩ := h
  refine ⟨a, c, rfl, ?_, h1⟩
  rcases hs with hs | ⟨g, o, rfl, hr⟩
  · exact .inl hs
  · exact ES.turnP (.inr ⟨g, o, rfl, hr⟩) ht (hF g rfl)
theorem EV.lt {w : World} {v : Value} {l : List Pn} (h : EV pinE w v l) {k : Nat} (hk : v.ownBlock = some k) : k < w.heap.size := by
  obtain ⟨a, c, rfl, hs, h1⟩ := h
  rcases hs with ⟨rfl, _⟩ | ⟨g, o, rfl, ⟨A, T, fz, hh, _⟩, _⟩
  · cases hk
  · cases hk; exact (Array.getElem?_eq_some_iff.1 hh).1
structure PO (w : World) (g B N : Nat) (v : Value) (L : List Pn) (vs vo : Value) : Prop where
  k3 : Blk w g PS (psv N v)
  ep : EV pinE w v L
  es : w.ownsRow B UT 1 vs (seenL N).length (uE.row (seenL N))
  eo : w.ownsRow B UT 1 vo (ids L).length (uE.row (ids L))
  gB : g < B
  Bw : B ≤ w.heap.size
  vB : ∀ k, v.ownBlock = some k → B ≤ k
  vs_ : ∀ k, v.ownBlock = some k → vs.ownBlock = some k → False
  vo_ : ∀ k, v.ownBlock = some k → vo.ownBlock = some k → False
  so_ : ∀ k, vs.ownBlock = some k → vo.ownBlock = some k → False
theorem PO.ext {w w' : World} {g B N : Nat} {v vs vo : Value} {L : List Pn} (h : PO w g B N v L vs vo) (hb : Ext w w') : PO w' g B N v L vs vo :=
  have ht : Turn (fun i => w.heap.size ≤ i) w w' := turn_from hb
  ⟨h.k3.ext hb, h.ep.ext hb, own_turn h.es ht (fun k hk => by have := own_blk h.es hk; omega), own_turn h.eo ht (fun k hk => by have := own_blk h.eo hk; omega), h.gB, Nat.le_trans h.Bw (Below.size hb), h.vB, h.vs_, h.vo_, h.so_⟩
/-- Other readers in the variable; the numbers open are others too. -/
theorem PO.del {w w2 : World} {g B N : Nat} {v vs vo u vo2 : Value} {L L2 : List Pn} (h : PO w g B N v L vs vo) {w1 : World} (ht : Turn (fun i => i = g) w w1) (hk : Blk w1 g PS (psv N u)) (hu : EV pinE w1 u L2) (hnew : ∀ k, u.ownBlock = some k → B ≤ k)
    (hus : ∀ k, u.ownBlock = some k → vs.ownBlock = some k → False) (hb : Ext w1 w2) (ho : w2.ownsRow w1.heap.size UT 1 vo2 (ids L2).length (uE.row (ids L2))) : PO w2 g B N u L2 vs vo2 := by
  have hsz : w.heap.size ≤ w1.heap.size := ht.size
  have hs1 := own_turn h.es ht (fun k hk2 e => by have := (h.es.lt k hk2).1; have := h.gB; omega)
  have ht2 : Turn (fun i => w1.heap.size ≤ i) w1 w2 := turn_from hb
  exact ⟨hk.ext hb, hu.ext hb, own_turn hs1 ht2 (fun k hk2 => by have := own_blk hs1 hk2; omega), ho.mono (Nat.le_trans h.Bw hsz), h.gB, Nat.le_trans (Nat.le_trans h.Bw hsz) (Below.size hb), hnew, hus,
    fun k h1 h2 => by have := hu.lt h1; have := (ho.lt k h2).1; omega,
    fun k h1 h2 => by have := own_blk hs1 h1; have := (ho.lt k h2).1; omega⟩
/-- The rows open, without one. -/
theorem udel {w : World} {B n k : Nat} {vo : Value} {l : List Nat} {c : Nat} {g : Nat} (ho : w.ownsRow B UT 1 vo l.length (uE.row l)) (hvo : vo = .slice (some ⟨g, 0, none⟩) n c) (hn : l.length = n) (hk : k < n) (hl : n ≤ 1000) :
    ∃ A v1 w1 v2 w2, (if c = k + 1 then some (⟨g, 0, none⟩ : Addr) else some ⟨g, k + 1, none⟩) = some A ∧
      (Builtin.append_ #[SUT, SUT] SUT #[.slice (some ⟨w.heap.size, 0, none⟩) 0 0, .slice (some ⟨g, 0, none⟩) k c]).run Tryd.prog (w.alloc (.cells #[] UT)) = .ok v1 w1 ∧ Below w.heap.size (w.alloc (.cells #[] UT)) w1 ∧
      (Builtin.append_ #[SUT, SUT] SUT #[v1, .slice (some A) (n - (k + 1)) (c - (k + 1))]).run Tryd.prog w1 = .ok v2 w2 ∧ Below w.heap.size w1 w2 ∧ Below w.heap.size w w2 ∧
      w2.ownsRow w.heap.size UT 1 v2 (l.take k ++ l.drop (k + 1)).length (uE.row (l.take k ++ l.drop (k + 1))) := by
  subst hn
  have hev := own_u64 ho
  subst hvo
  obtain ⟨a, c', he, hs, _, hlc, hcm⟩ := hev
  cases he
  have hb0 : Below w.heap.size w (w.alloc (.cells #[] UT)) := (Below.refl _ _).alloc (Nat.le_refl _) _
  have hno : (w.alloc (.cells #[] UT)).ownsRow w.heap.size UT uE.sz (.slice (some ⟨w.heap.size, 0, none⟩) 0 0) 0 (uE.row []) := by
    refine ⟨by simp [Elt.row], .inr ⟨w.heap.size, 0, #[], rfl, Nat.le_refl _, ?_, Nat.le_refl _, by unfold maxLen; omega, by simp, by simp [Elt.row]⟩⟩
    show (w.heap.push _)[w.heap.size]? = _; rw [Array.getElem?_push_size]
  have htl : (l.take k).length = k := by rw [List.length_take]; omega
  have hdl : (l.drop (k + 1)).length = l.length - (k + 1) := by rw [List.length_drop]
  obtain ⟨v1, w1, h1, hb1, ho1⟩ := run_app_own (P := Tryd.prog) (E := uE) w.heap.size SUT SUT UT Tryd.underlying61 uinfo _ 0 [] hno hb0.size (some ⟨g, 0, none⟩) k c (l.take k) htl (fun h => by cases h) ((hs.take k).below hb0 (Nat.le_refl _)) (by unfold maxLen; omega) (by show _ * 8 ≤ _; omega)
  rw [List.nil_append, Nat.zero_add] at ho1
  have hb01 : Below w.heap.size w w1 := hb0.trans hb1
  obtain ⟨A, hA, hES⟩ : ∃ A : Addr, (if c = k + 1 then some (⟨g, 0, none⟩ : Addr) else some ⟨g, k + 1, none⟩) = some A ∧ ES uE w (some A) (l.drop (k + 1)) := by
    by_cases h : c = k + 1
    · refine ⟨⟨g, 0, none⟩, by simp [h], ?_⟩
      have : l.drop (k + 1) = [] := List.drop_of_length_le (by omega)
      rw [this]
      exact (hs.take 0)
    · exact ⟨⟨g, k + 1, none⟩, by simp [h], hs.drop (k + 1) (k + 1) (by omega) (by show k + 1 = 0 + (k + 1) * 1; omega)⟩
  obtain ⟨v2, w2, h2, hb2, ho2⟩ := run_app_own (P := Tryd.prog) (E := uE) w.heap.size SUT SUT UT Tryd.underlying61 uinfo v1 k (l.take k) ho1 hb01.size (some A) (l.length - (k + 1)) (c - (k + 1)) (l.drop (k + 1)) hdl (fun h => by cases h) (hES.below hb01 (Nat.le_refl _)) (by unfold maxLen; omega) (by show _ * 8 ≤ _; omega)
  exact ⟨A, v1, w1, v2, w2, hA, h1, hb1, h2, hb2, hb01.trans hb2, by rw [List.length_append, htl, hdl]; exact ho2⟩
end Go.Proofs.YtdgcghknfhhkiaaDoor
