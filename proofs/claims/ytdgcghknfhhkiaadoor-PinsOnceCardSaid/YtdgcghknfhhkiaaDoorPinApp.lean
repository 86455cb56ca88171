/-
  slices.Clone at readers; a reader more behind a row of one's own; slices.Delete at readers.
-/
import Derived.Test.YtdgcghknfhhkiaaDoorPinArm
import Derived.Deep.Onto
import Derived.Deep.RegionLaw
import Derived.Shelf.RegionOpenPlain
import Derived.Lib.SliceRun
namespace Go.Proofs.YtdgcghknfhhkiaaDoor
open Go Go.RowKit

theorem pown_no (w : World) (T : TypeId) : (w.alloc (.cells #[] T)).ownsRow w.heap.size T 18 (.slice (some ⟨w.heap.size, 0, none⟩) 0 0) 0 (pinE.row []) := by
  refine ⟨by simp [Elt.row], .inr ⟨w.heap.size, 0, #[], rfl, Nat.le_refl _, ?_, Nat.le_refl _, by unfold maxLen; omega, by simp, by simp [Elt.row]⟩⟩
  show (w.heap.push _)[w.heap.size]? = _; rw [Array.getElem?_push_size]
theorem plit (W : World) (T : TypeId) (y : Pn) : ES pinE (W.alloc (.cells (pv y) T)) (some ⟨W.heap.size, 0, none⟩) [y] := by
  have e : (pinE.row [y]).toArray = pv y := by
    show ((pv y).toList ++ []).toArray = pv y
    rw [List.append_nil, Array.toArray_toList]
  have h := heap_new W T (pinE.row [y]).toArray
  have h2 := ES.lit (E := pinE) (l := [y]) h rfl
  rw [e] at h2
  exact h2
/-- A reader more, behind a row of one's own. -/
theorem papp_own {w : World} {B : Nat} {v : Value} {L : List Pn} (t ty T : TypeId) (ht : Tryd.prog.underlying t = some (.slice T)) (h2 : (Tryd.prog.info? T).map (fun i => (i.zero, i.size, i.bytes)) = some (some pinE.zero, pinE.sz, pinE.by_)) (g : Nat) (y : Pn)
    (hown : w.ownsRow B T 18 v L.length (pinE.row L)) (hB : B ≤ w.heap.size) (hy : ES pinE w (some ⟨g, 0, none⟩) [y]) (hl : (L.length + 1) * 144 ≤ 140737488355328) :
    ∃ v' w', (Builtin.append_ #[t, t] ty #[v, .slice (some ⟨g, 0, none⟩) 1 1]).run Tryd.prog w = .ok v' w' ∧ Below B w w' ∧ w'.ownsRow B T 18 v' (L ++ [y]).length (pinE.row (L ++ [y])) := by
  obtain ⟨v', w', hr, hb2, ho⟩ := run_app_own (P := Tryd.prog) (E := pinE) B t ty T ht h2 v L.length L hown hB (some ⟨g, 0, none⟩) 1 1 [y] rfl (fun h => by cases h) hy (by unfold maxLen; omega) (by show _ * 144 ≤ _; omega)
  refine ⟨v', w', hr, hb2, ?_⟩
  rw [List.length_append]; exact ho
/-- slices.Clone. -/
theorem pclone_any (v : Value) (l : List Pn) (w : World) (hv : EV pinE w v l) (hl : l.length * 144 ≤ 140737488355328) :
    Calls Tryd.prog 24 #[v] w fun e w' => ∃ u, e = .returned u ∧ w'.ownsRow w.heap.size PT 18 u l.length (pinE.row l) ∧ Below w.heap.size w w' := by
  obtain ⟨a, c, rfl, hs, hz, hc, hm⟩ := hv
  have q22 : ∀ (w : World) (a : Option Addr) (n c n' c' : Nat), (binOp .eql SPT (.slice a n c) (.slice none n' c')).run Tryd.prog w = .ok (.bool a.isNone) w := fun w a n c n' c' => Lib.run_eql_slice_nil w _ _ a n c n' c' Tryd.underlying28
  cases a with
  | none =>
    obtain rfl : l = [] := by
      rcases hs with ⟨_, h⟩ | ⟨g, o, h, _⟩
      · exact h
      · cases h
    have hcz := hz rfl
    clear hs hz hc hm
    go_enter Tryd.func24, Tryd.ntmps24
    go_wp2
    go_ret
    exact ⟨_, rfl, World.ownsRow_nil _ _ _ _, Below.refl _ _⟩
  | some ad =>
    have hb1 : Below w.heap.size w (w.alloc (.cells #[] PT)) := (Below.refl _ _).alloc (Nat.le_refl _) _
    obtain ⟨v1, w1, hrun, hb2, ho⟩ := run_app_own (P := Tryd.prog) (w := w.alloc (.cells #[] PT)) (E := pinE) w.heap.size SPT SPT PT Tryd.underlying28 pinfo _ 0 [] (pown_no w PT) hb1.size (some ad) l.length c l rfl (fun h => by cases h) (hs.below hb1 (Nat.le_refl _)) (by unfold maxLen; omega) (by show _ * 144 ≤ _; omega)
    rw [List.nil_append, Nat.zero_add] at ho
    have Ho : Hid (w1.ownsRow w.heap.size PT 18 v1 l.length (pinE.row l)) := ho
    have HB := Lib.hid (hb1.trans hb2)
    obtain ⟨n, hn⟩ : ∃ n, l.length = n := ⟨_, rfl⟩
    rw [hn] at hrun Ho ⊢
    clear hs hz hc hm hb1 hb2 ho hn hl
    go_enter Tryd.func24, Tryd.ntmps24
    go_wp2_with (at_builtin; refine Lib.wpList_append_run _ rfl (.tmp 5) (.tmp 6) _ _ rfl _ _ (by rfl) (by rfl) _ _ hrun ?_)
    go_ret
    exact ⟨_, rfl, Ho.out, HB.out⟩
end Go.Proofs.YtdgcghknfhhkiaaDoor
