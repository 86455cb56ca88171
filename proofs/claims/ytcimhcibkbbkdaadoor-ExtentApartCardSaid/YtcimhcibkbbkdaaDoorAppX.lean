/-
  append of one stretch: to a row of one's own, and to one of two.
-/
import Derived.Test.YtcimhcibkbbkdaaDoorExtMem
namespace Go.Proofs.YtcimhcibkbbkdaaDoor
open Go Go.RowKit

theorem xlen_sum : ∀ (l : List Xt), (∀ x ∈ l, 1 ≤ x.m) → (l.length : Int) ≤ xsumM l
  | [], _ => by simp [xsumM]
  | x :: r, h => by
    have h1 := h x (by simp)
    have h2 := xlen_sum r (fun y hy => h y (by simp [hy]))
    rw [xsumM, List.length_cons]; omega
theorem XMay.len {l : List Xt} {p : Int} (h : XMay l p) : l.length ≤ 1024 := by
  have h1 := xlen_sum l (fun x hx => (h.ins x hx).2.1)
  have h2 := h.sum
  have h3 := h.hi
  omega
/-- A new row of one stretch. -/
theorem xlit (W : World) (T : TypeId) (y : Xt) : ES xtE (W.alloc (.cells #[.int .i64 y.f, .int .i64 y.m] T)) (some ⟨W.heap.size, 0, none⟩) [y] := ES.lit (E := xtE) (l := [y]) (heap_new W T #[.int .i64 y.f, .int .i64 y.m]) rfl
/-- To a row of one's own. -/
theorem xapp_one {W : World} {B : Nat} {v : Value} {L : List Xt} (t ty T : TypeId) (ht : Tryd.prog.underlying t = some (.slice T)) (h2 : (Tryd.prog.info? T).map (fun i => (i.zero, i.size, i.bytes)) = some (some xtE.zero, xtE.sz, xtE.by_)) (y : Xt)
    (hown : W.ownsRow B T 2 v L.length (xtE.row L)) (hB : B ≤ W.heap.size) (hl : L.length + 1 ≤ 1000000) :
    ∃ v' w', (Builtin.append_ #[t, t] ty #[v, .slice (some ⟨W.heap.size, 0, none⟩) 1 1]).run Tryd.prog (W.alloc (.cells #[.int .i64 y.f, .int .i64 y.m] T)) = .ok v' w' ∧ Below B W w' ∧ w'.ownsRow B T 2 v' (L ++ [y]).length (xtE.row (L ++ [y])) ∧ ∀ b, b < W.heap.size → v.ownBlock ≠ some b → w'.heap[b]? = W.heap[b]? := by
  have hb : Below B W (W.alloc (.cells #[.int .i64 y.f, .int .i64 y.m] T)) := (Below.refl _ _).alloc hB _
  have hA := hown.alloc (.cells #[.int .i64 y.f, .int .i64 y.m] T)
  obtain ⟨i0, hi, hz0, hz1, hz2⟩ := info_parts h2
  have hlit := (xlit W T y).at (by simp)
  obtain ⟨g, o, he, hc⟩ := hlit
  cases he
  obtain ⟨v', w', hr, ho, hg, _⟩ := run_append_near (P := Tryd.prog) (w := W.alloc (.cells #[.int .i64 y.f, .int .i64 y.m] T)) B t ty T i0 xtE.zero 2 16 ht hi hz0 hz1 hz2 xtE.zc (by decide) v L.length (xtE.row L) hA ⟨W.heap.size, 0, none⟩ 1 1 (xtE.row [y]) rfl (fun j u hj => by rw [addr_add]; exact hc j u hj) (xtE.row_one [y]) (by unfold maxLen; omega) (by omega) (by simp; omega)
  refine ⟨v', w', hr, hb.trans ((Below.refl B _).grown hg (by simp; omega) (fun k hk => (hA.lt k hk).1)), by rw [List.length_append, Elt.row_app]; exact ho, fun b hb1 hne => ?_⟩
  rw [hg.block b (by simp; omega) (fun e => hne e.symm)]
  exact ((Below.refl W.heap.size W).alloc (Nat.le_refl _) _).block b hb1
/-- Two rows of one's own, in two blocks. -/
structure XTwo (w : World) (B T : Nat) (v1 : Value) (L1 : List Xt) (v2 : Value) (L2 : List Xt) : Prop where
  o1 : w.ownsRow B T 2 v1 L1.length (xtE.row L1)
  o2 : w.ownsRow B T 2 v2 L2.length (xtE.row L2)
  ne : ∀ k, v1.ownBlock = some k → v2.ownBlock = some k → False
theorem XTwo.nil (w : World) (B T : Nat) : XTwo w B T xnil [] xnil [] := ⟨World.ownsRow_nil _ _ _ _, World.ownsRow_nil _ _ _ _, fun k h => by cases h⟩
theorem XTwo.swap {w : World} {B T : Nat} {v1 v2 : Value} {L1 L2 : List Xt} (h : XTwo w B T v1 L1 v2 L2) : XTwo w B T v2 L2 v1 L1 := ⟨h.o2, h.o1, fun k a b => h.ne k b a⟩
theorem XTwo.alloc {w : World} {B T : Nat} {v1 v2 : Value} {L1 L2 : List Xt} (h : XTwo w B T v1 L1 v2 L2) (o : Obj) : XTwo (w.alloc o) B T v1 L1 v2 L2 := ⟨h.o1.alloc _, h.o2.alloc _, h.ne⟩
theorem xown_grown {w w' : World} {B T n : Nat} {v u : Value} {xs : List Value} (h : w.ownsRow B T 2 v n xs) (hg : w.grownBy w' u.ownBlock) (hne : ∀ k, u.ownBlock = some k → v.ownBlock = some k → False) : w'.ownsRow B T 2 v n xs := by
  refine ⟨h.1, ?_⟩
  rcases h.2 with h1 | ⟨g, cap, cur, rfl, hbg, hh, r⟩
  · exact .inl h1
  · refine .inr ⟨g, cap, cur, rfl, hbg, ?_, r⟩
    have hl : g < w.heap.size := (Array.getElem?_eq_some_iff.1 hh).1
    rw [hg.block g hl (fun e => hne g e.symm rfl)]; exact hh
theorem xapp_two {W : World} {B : Nat} {v1 v2 : Value} {L1 L2 : List Xt} (t ty T : TypeId) (ht : Tryd.prog.underlying t = some (.slice T)) (h2 : (Tryd.prog.info? T).map (fun i => (i.zero, i.size, i.bytes)) = some (some xtE.zero, xtE.sz, xtE.by_)) (y : Xt)
    (h : XTwo W B T v1 L1 v2 L2) (hB : B ≤ W.heap.size) (hl : L1.length + 1 ≤ 1000000) :
    ∃ v' w', (Builtin.append_ #[t, t] ty #[v1, .slice (some ⟨W.heap.size, 0, none⟩) 1 1]).run Tryd.prog (W.alloc (.cells #[.int .i64 y.f, .int .i64 y.m] T)) = .ok v' w' ∧ Below B W w' ∧ XTwo w' B T v' (L1 ++ [y]) v2 L2 ∧ ∀ b, b < W.heap.size → v1.ownBlock ≠ some b → w'.heap[b]? = W.heap[b]? := by
  have hb : Below B W (W.alloc (.cells #[.int .i64 y.f, .int .i64 y.m] T)) := (Below.refl _ _).alloc hB _
  have hA := h.alloc (.cells #[.int .i64 y.f, .int .i64 y.m] T)
  obtain ⟨i0, hi, hz0, hz1, hz2⟩ := info_parts h2
  have hlit := (xlit W T y).at (by simp)
  obtain ⟨g, o, he, hc⟩ := hlit
  cases he
  obtain ⟨v', w', hr, ho, hg, hn⟩ := run_append_near (P := Tryd.prog) (w := W.alloc (.cells #[.int .i64 y.f, .int .i64 y.m] T)) B t ty T i0 xtE.zero 2 16 ht hi hz0 hz1 hz2 xtE.zc (by decide) v1 L1.length (xtE.row L1) hA.o1 ⟨W.heap.size, 0, none⟩ 1 1 (xtE.row [y]) rfl (fun j u hj => by rw [addr_add]; exact hc j u hj) (xtE.row_one [y]) (by unfold maxLen; omega) (by omega) (by simp; omega)
  refine ⟨v', w', hr, hb.trans ((Below.refl B _).grown hg (by simp; omega) (fun k hk => (hA.o1.lt k hk).1)), ⟨by rw [List.length_append, Elt.row_app]; exact ho, xown_grown hA.o2 hg hA.ne, fun k h1 h3 => ?_⟩, fun b hb1 hne => ?_⟩
  · rcases hn with hn | hn
    · exact hA.ne k (hn ▸ h1) h3
    · have := hn k h1
      have := (hA.o2.lt k h3).2
      omega
  · rw [hg.block b (by simp; omega) (fun e => hne e.symm)]
    exact ((Below.refl W.heap.size W).alloc (Nat.le_refl _) _).block b hb1
/-- A stretch in a block of its own. -/
def XB (w : World) (b : Nat) (F M : Int) : Prop := w.cell? ⟨b, 0, none⟩ = some (.int .i64 F) ∧ w.cell? ⟨b, 1, none⟩ = some (.int .i64 M)
theorem xb_new (w : World) (T : TypeId) (F M : Int) : XB (w.alloc (.cells #[.int .i64 F, .int .i64 M] T)) w.heap.size F M := ⟨by simp, by simp⟩
theorem XB.to {w w' : World} {b : Nat} {F M : Int} (h : XB w b F M) (he : w'.heap[b]? = w.heap[b]?) : XB w' b F M :=
  ⟨(World.cell?_of_block (a := ⟨b, 0, none⟩) he).trans h.1, (World.cell?_of_block (a := ⟨b, 1, none⟩) he).trans h.2⟩
theorem XB.below {w w' : World} {b B : Nat} {F M : Int} (h : XB w b F M) (hb : Below B w w') (hB : b < B) : XB w' b F M := h.to (hb.block b hB)
end Go.Proofs.YtcimhcibkbbkdaaDoor
