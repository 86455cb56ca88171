/-
  Rows of numbers of 64 bits; the numbers of readers; a row of one's own that is kept where another variable turns.
-/
import Derived.Test.YtdgcghknfhhkiaaDoorPinClose
namespace Go.Proofs.YtdgcghknfhhkiaaDoor
open Go Go.RowKit

abbrev UT : TypeId := 22
abbrev SUT : TypeId := 61
def uE : Elt Nat := ⟨1, 8, .int .u64 0, fun n => [.int .u64 (n : Nat)], fun _ => rfl, fun e u hu => by
  simp only [List.mem_cons, List.not_mem_nil, or_false] at hu; rcases hu with rfl; rfl, by decide, rfl, fun _ => true⟩
theorem uinfo : (Tryd.prog.info? UT).map (fun i => (i.zero, i.size, i.bytes)) = some (some uE.zero, uE.sz, uE.by_) := by kernel_rfl
def ua (l : List Nat) (i : Nat) : Nat := l.getD i 0
theorem ua_at (l : List Nat) (i : Nat) (h : i < l.length) : l[i]? = some (ua l i) := by
  unfold ua; rw [List.getD_eq_getElem?_getD, List.getElem?_eq_getElem h]; rfl
theorem ES.u64 {w : World} {a : Option Addr} {l : List Nat} (h : ES uE w a l) (h0 : 0 < l.length) : ∃ g o, a = some ⟨g, o, none⟩ ∧ ∀ i, i < l.length → w.cell? ⟨g, o + i, none⟩ = some (.int .u64 (ua l i : Nat)) := by
  obtain ⟨g, o, rfl, hc⟩ := h.at h0
  refine ⟨g, o, rfl, fun i hi => ?_⟩
  have h1 := hc (i * 1 + 0) _ (uE.row_at l i 0 _ (ua_at l i hi) (by decide))
  rwa [Nat.mul_one] at h1
theorem own_u64 {w : World} {B T : Nat} {v : Value} {l : List Nat} (h : w.ownsRow B T 1 v l.length (uE.row l)) : EV uE w v l := own_ev (E := uE) h rfl
/-! ### The numbers -/
def ids (l : List Pn) : List Nat := l.map (·.id)
theorem ids_len (l : List Pn) : (ids l).length = l.length := by unfold ids; simp
theorem ids_at (l : List Pn) (k : Nat) (h : k < l.length) : ua (ids l) k = (pn l k).id := by
  unfold ua ids
  rw [List.getD_eq_getElem?_getD, List.getElem?_map, pn_at l k h]; rfl
theorem ids_del (l : List Pn) (k : Nat) : ids (pdel l k) = (ids l).take k ++ (ids l).drop (k + 1) := by
  unfold ids pdel; rw [List.map_append, List.map_take, List.map_drop]
theorem ids_app (l : List Pn) (x : Pn) : ids (l ++ [x]) = ids l ++ [x.id] := by unfold ids; simp
def seenL (N : Nat) : List Nat := (List.range N).map (· + 1)
theorem seen_len (N : Nat) : (seenL N).length = N := by unfold seenL; simp
theorem seen_at (N k : Nat) (h : k < N) : ua (seenL N) k = k + 1 := by
  unfold ua seenL
  rw [List.getD_eq_getElem?_getD, List.getElem?_map, List.getElem?_range h]; rfl
theorem seen_app (N : Nat) : seenL (N + 1) = seenL N ++ [N + 1] := by
  unfold seenL; rw [List.range_succ, List.map_append]; rfl
/-! ### Rows of one's own, in two blocks -/
theorem ulit (W : World) (T : TypeId) (y : Nat) : ES uE (W.alloc (.cells #[.int .u64 (y : Nat)] T)) (some ⟨W.heap.size, 0, none⟩) [y] := ES.lit (E := uE) (l := [y]) (heap_new W T #[.int .u64 (y : Nat)]) rfl
theorem own_grown {w w' : World} {B T sz n : Nat} {v u : Value} {xs : List Value} (h : w.ownsRow B T sz v n xs) (hg : w.grownBy w' u.ownBlock) (hne : ∀ k, u.ownBlock = some k → v.ownBlock = some k → False) : w'.ownsRow B T sz v n xs := by
  refine ⟨h.1, ?_⟩
  rcases h.2 with h1 | ⟨g, cap, cur, rfl, hbg, hh, r⟩
  · exact .inl h1
  · refine .inr ⟨g, cap, cur, rfl, hbg, ?_, r⟩
    have hl : g < w.heap.size := (Array.getElem?_eq_some_iff.1 hh).1
    rw [hg.block g hl (fun e => hne g e.symm rfl)]; exact hh
/-- One more behind a row of one's own: what else is kept. -/
theorem uapp_one {w : World} {B : Nat} {v : Value} {L : List Nat} (ty : TypeId) (g y : Nat) (hown : w.ownsRow B UT 1 v L.length (uE.row L)) (hB : B ≤ w.heap.size) (hy : ES uE w (some ⟨g, 0, none⟩) [y]) (hl : L.length + 1 ≤ 1000000) :
    ∃ v' w', (Builtin.append_ #[SUT, SUT] ty #[v, .slice (some ⟨g, 0, none⟩) 1 1]).run Tryd.prog w = .ok v' w' ∧ Below B w w' ∧ w'.ownsRow B UT 1 v' (L ++ [y]).length (uE.row (L ++ [y])) ∧ w.grownBy w' v.ownBlock ∧ (∀ k, v'.ownBlock = some k → v.ownBlock = some k ∨ w.heap.size ≤ k) := by
  obtain ⟨i0, hi, hz0, hz1, hz2⟩ := info_parts uinfo
  obtain ⟨g', o, he, hc⟩ := hy.at (by simp)
  cases he
  obtain ⟨v', w', hr, ho, hg, hn⟩ := run_append_near (P := Tryd.prog) (w := w) B SUT ty UT i0 uE.zero 1 8 Tryd.underlying61 hi hz0 hz1 hz2 uE.zc (by decide) v L.length (uE.row L) hown ⟨g, 0, none⟩ 1 1 (uE.row [y]) rfl (fun j u hj => by rw [addr_add]; exact hc j u hj) (uE.row_one [y]) (by unfold maxLen; omega) (by omega) hB
  refine ⟨v', w', hr, (Below.refl B _).grown hg hB (fun k hk => (hown.lt k hk).1), by rw [List.length_append, Elt.row_app]; exact ho, hg, fun k hk => ?_⟩
  rcases hn with hn | hn
  · exact .inl (hn ▸ hk)
  · exact .inr (hn k hk)
end Go.Proofs.YtdgcghknfhhkiaaDoor
