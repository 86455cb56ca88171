/-
  An append of one entry behind a row of one's own: only that row's block turns. No program of the project.
-/
import Derived.Test.YtggibbgohhpfpaaDoorLawTreeZ
namespace Go.Proofs.YtggibbgohhpfpaaDoor
open Go Go.RowKit

theorem app_entry (W : World) (B : Nat) (v : Value) (n : Nat) (l : List En) (hown : W.ownsRow B ET entE.sz v n (entE.row l)) (hB : B ≤ W.heap.size) (g : Nat) (e : En) (hlit : ES entE W (some ⟨g, 0, none⟩) [e]) (hn : n ≤ 100000) :
    ∃ v' w', (Builtin.append_ #[SET, SET] SET #[v, .slice (some ⟨g, 0, none⟩) 1 1]).run Tryd.prog W = .ok v' w' ∧ Below B W w' ∧ w'.ownsRow B ET entE.sz v' (n + 1) (entE.row (l ++ [e])) ∧
      ∀ b, b < W.heap.size → (∀ k, v.ownBlock = some k → b ≠ k) → w'.heap[b]? = W.heap[b]? := by
  obtain ⟨i0, hi, hz, hs0, hby⟩ := info_parts infoE
  obtain ⟨g9, o9, h9, hc9⟩ := hlit.at (by simp)
  obtain ⟨rfl, rfl⟩ : g = g9 ∧ 0 = o9 := by
    injection h9 with h9
    injection h9 with h10 h11
    exact ⟨h10, h11⟩
  obtain ⟨v2, w3, hrun, ho3, hg3, _⟩ := run_append_own (P := Tryd.prog) W B SET SET ET i0 entE.zero entE.sz entE.by_ Tryd.underlying54 hi hz hs0 hby entE.zc entE.pos v n (entE.row l) hown ⟨g, 0, none⟩ 1 1 (entE.row [e]) (by rw [entE.row_len]; rfl) (fun j u hu => by rw [addr_add]; exact hc9 j u hu) (entE.row_one _) (by unfold maxLen; omega) (by show _ * 32 ≤ _; omega) hB
  refine ⟨v2, w3, hrun, (Below.refl B W).grown hg3 hB (fun k hk => (hown.lt k hk).1), ?_, fun b hb hne => hg3.block b hb (fun e => hne b e.symm rfl)⟩
  rw [entE.row_app]; exact ho3
theorem ES.cells {w : World} {g o : Nat} {es : List En} (h : ES entE w (some ⟨g, o, none⟩) es) {i : Nat} (hi : i < es.length) : w.cell? ⟨g, o + i * 2, none⟩ = some (.string (ea es i).k) ∧ w.cell? ⟨g, o + i * 2 + 1, none⟩ = some (.string (ea es i).v) := by
  obtain ⟨g', o', e, hc⟩ := h.ents (by omega)
  injection e with e
  injection e with e1 e2 _
  subst e1 e2
  exact hc i hi
theorem Turn.ofBelowB {a b : World} {B : Nat} (h : Below B a b) : Turn (fun i => B ≤ i) a b := ⟨h.os, h.tape, h.output, h.size, fun i _ hF => h.block i (by omega)⟩
/-- A row of one's own stays where a block below it turns. -/
theorem own_turn {w w' : World} {B T sz n b : Nat} {v : Value} {xs : List Value} (h : w.ownsRow B T sz v n xs) (t : Turn (fun i => i = b) w w') (hb : b < B) : w'.ownsRow B T sz v n xs := by
  obtain ⟨h1, h2⟩ := h
  refine ⟨h1, ?_⟩
  rcases h2 with h2 | ⟨g, cap, cur, rfl, hB, hg, r⟩
  · exact .inl h2
  · exact .inr ⟨g, cap, cur, rfl, hB, t.hg hg (by omega), r⟩
theorem inS_take_no {s : Sp} {es : List En} {i : Nat} (h : i < es.length) (hD : hasS s (ea es i).k = false) : inS s (es.take (i + 1)) = inS s (es.take i) := by
  rw [ea_take es i h, inS_app, inS_cons, if_neg (by rw [hD]; decide)]; simp [inS]
theorem inS_take_yes {s : Sp} {es : List En} {i : Nat} (h : i < es.length) (hD : hasS s (ea es i).k = true) : inS s (es.take (i + 1)) = inS s (es.take i) ++ [ea es i] := by
  rw [ea_take es i h, inS_app, inS_cons, if_pos hD]; rfl
theorem inS_at {s : Sp} {es : List En} {i : Nat} (h : i < es.length) (hD : hasS s (ea es i).k = true) : (inS s (es.take i)).length < (inS s es).length ∧ ea (inS s es) (inS s (es.take i)).length = ea es i := by
  have e : inS s es = inS s (es.take i) ++ (ea es i :: inS s (es.drop (i + 1))) := by
    conv => lhs; rw [← List.take_append_drop i es, ea_drop es i h, inS_app, inS_cons, if_pos hD]
  constructor
  · rw [e, List.length_append, List.length_cons]; omega
  · rw [e]
    exact ea_app_at (inS s (es.take i)) (ea es i :: inS s (es.drop (i + 1))) 0
end Go.Proofs.YtggibbgohhpfpaaDoor
