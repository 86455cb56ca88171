/-
  Stretches in memory; slices.Clone at stretches.
-/
import Derived.Test.YtcimhcibkbbkdaaDoorProg
import Derived.Test.YtcimhcibkbbkdaaDoorEls
import Derived.Test.YtcimhcibkbbkdaaDoorExtMath
import Derived.WalkKit
import Derived.Below
import Derived.Lib.Hide
import Derived.Lib.AppendZerosOnto
import Derived.Lib.SliceRun
namespace Go.Proofs.YtcimhcibkbbkdaaDoor
open Go Go.RowKit

abbrev XT : TypeId := 53
abbrev RXT : TypeId := 51
abbrev SXT : TypeId := 24
abbrev SRXT : TypeId := 22
abbrev xnil : Value := .slice none 0 0
def xtE : Elt Xt := ⟨2, 16, .agg #[.int .i64 0, .int .i64 0], fun x => [.int .i64 x.f, .int .i64 x.m], fun _ => rfl, fun e u hu => by
  simp only [List.mem_cons, List.not_mem_nil, or_false] at hu; rcases hu with rfl | rfl <;> rfl, by decide, rfl, fun _ => true⟩
theorem xinfo : (Tryd.prog.info? XT).map (fun i => (i.zero, i.size, i.bytes)) = some (some xtE.zero, xtE.sz, xtE.by_) := by kernel_rfl
theorem xinfoR : (Tryd.prog.info? RXT).map (fun i => (i.zero, i.size, i.bytes)) = some (some xtE.zero, xtE.sz, xtE.by_) := by kernel_rfl
section
variable {w : World}
/-- The stretches' cells. -/
theorem ES.xts {a : Option Addr} {l : List Xt} (h : ES xtE w a l) (h0 : 0 < l.length) : ∃ g o, a = some ⟨g, o, none⟩ ∧ ∀ i, i < l.length → w.cell? ⟨g, o + i * 2, none⟩ = some (.int .i64 (xt l i).f) ∧ w.cell? ⟨g, o + i * 2 + 1, none⟩ = some (.int .i64 (xt l i).m) := by
  obtain ⟨g, o, rfl, hc⟩ := h.at h0
  refine ⟨g, o, rfl, fun i hi => ?_⟩
  have e := xt_at l i hi
  have h1 := hc (i * 2 + 0) _ (xtE.row_at l i 0 _ e (by decide))
  have h2 := hc (i * 2 + 1) _ (xtE.row_at l i 1 _ e (by decide))
  exact ⟨h1, h2⟩
theorem ES.of_xts {g o : Nat} {l : List Xt} (h0 : 0 < l.length) (h : ∀ i, i < l.length → w.cell? ⟨g, o + i * 2, none⟩ = some (.int .i64 (xt l i).f) ∧ w.cell? ⟨g, o + i * 2 + 1, none⟩ = some (.int .i64 (xt l i).m)) : ES xtE w (some ⟨g, o, none⟩) l := by
  have hb : RT w g xtE.ty := by
    have h1 := (h 0 h0).1
    unfold World.cell? at h1
    cases hg : w.heap[g]? with
    | none => rw [hg] at h1; cases h1
    | some x =>
      rw [hg] at h1
      cases x with
      | cells A T fz => exact ⟨A, T, fz, hg, rfl⟩
      | _ => cases h1
  refine .inr ⟨g, o, rfl, hb, fun j u hu => ?_⟩
  have hj : j < l.length * 2 := by have := (List.getElem?_eq_some_iff.1 hu).1; rwa [Elt.row_len] at this
  have hi : j / 2 < l.length := by omega
  have e := xt_at l (j / 2) hi
  have h1 := h (j / 2) hi
  have e0 := xtE.row_at l (j / 2) 0 _ e (by decide)
  have e1 := xtE.row_at l (j / 2) 1 _ e (by decide)
  have hsz : xtE.sz = 2 := rfl
  rw [hsz] at e0 e1
  rcases Nat.mod_two_eq_zero_or_one j with h2 | h2
  · have e4 : j = j / 2 * 2 + 0 := by omega
    rw [e4] at hu ⊢
    rw [e0] at hu
    exact h1.1.trans hu
  · have e4 : j = j / 2 * 2 + 1 := by omega
    rw [e4] at hu ⊢
    rw [e1] at hu
    exact h1.2.trans hu
end
theorem xown_no {α : Type} (E : Elt α) (w : World) (T : TypeId) : (w.alloc (.cells #[] T)).ownsRow w.heap.size T E.sz (.slice (some ⟨w.heap.size, 0, none⟩) 0 0) 0 (E.row []) := by
  refine ⟨by simp [Elt.row], .inr ⟨w.heap.size, 0, #[], rfl, Nat.le_refl _, ?_, Nat.le_refl _, by unfold maxLen; omega, by simp, by simp [Elt.row]⟩⟩
  show (w.heap.push _)[w.heap.size]? = _; rw [Array.getElem?_push_size]
/-- A row of one's own in a later world, and as a slice. -/
theorem own_xev {w : World} {B T : Nat} {v : Value} {l : List Xt} (h : w.ownsRow B T 2 v l.length (xtE.row l)) : EV xtE w v l := own_ev (E := xtE) h rfl
/-- An argument's stretches: of none nothing is said of the address. -/
def XS (w : World) (a : Option Addr) (l : List Xt) : Prop := 0 < l.length → ES xtE w a l
theorem XS.below {w w' : World} {a : Option Addr} {l : List Xt} {B : Nat} (h : XS w a l) (hb : Below B w w') (hB : w.heap.size ≤ B) : XS w' a l := fun h0 => (h h0).below hb hB
theorem XS.xts {w : World} {a : Option Addr} {l : List Xt} (h : XS w a l) (h0 : 0 < l.length) : ∃ g o, a = some ⟨g, o, none⟩ ∧ ∀ i, i < l.length → w.cell? ⟨g, o + i * 2, none⟩ = some (.int .i64 (xt l i).f) ∧ w.cell? ⟨g, o + i * 2 + 1, none⟩ = some (.int .i64 (xt l i).m) := (h h0).xts h0
def XV (w : World) (v : Value) (l : List Xt) : Prop := ∃ a c, v = .slice a l.length c ∧ XS w a l ∧ l.length ≤ c ∧ c ≤ maxLen
theorem XV.ext {w w' : World} {v : Value} {l : List Xt} (h : XV w v l) (hb : Below w.heap.size w w') : XV w' v l := by
  obtain ⟨a, c, rfl, hs, h1⟩ := h
  exact ⟨a, c, rfl, hs.below hb (Nat.le_refl _), h1⟩
theorem EV.xv {w : World} {v : Value} {l : List Xt} (h : EV xtE w v l) : XV w v l := by
  obtain ⟨a, c, rfl, hs, _, h1⟩ := h
  exact ⟨a, c, rfl, fun _ => hs, h1⟩
/-- slices.Clone. -/
theorem xclone_any (v : Value) (l : List Xt) (w : World) (hv : EV xtE w v l) (hl : l.length * 16 ≤ 140737488355328) :
    Calls Tryd.prog 30 #[v] w fun e w' => ∃ u, e = .returned u ∧ w'.ownsRow w.heap.size XT 2 u l.length (xtE.row l) ∧ Below w.heap.size w w' := by
  obtain ⟨a, c, rfl, hs, hz, hc, hm⟩ := hv
  have q22 : ∀ (w : World) (a : Option Addr) (n c n' c' : Nat), (binOp .eql SXT (.slice a n c) (.slice none n' c')).run Tryd.prog w = .ok (.bool a.isNone) w := fun w a n c n' c' => Lib.run_eql_slice_nil w _ _ a n c n' c' Tryd.underlying24
  cases a with
  | none =>
    obtain rfl : l = [] := by
      rcases hs with ⟨_, h⟩ | ⟨g, o, h, _⟩
      · exact h
      · cases h
    have hcz := hz rfl
    clear hs hz hc hm
    go_enter Tryd.func30, Tryd.ntmps30
    go_wp2
    go_ret
    exact ⟨_, rfl, World.ownsRow_nil _ _ _ _, Below.refl _ _⟩
  | some ad =>
    have hb1 : Below w.heap.size w (w.alloc (.cells #[] XT)) := (Below.refl _ _).alloc (Nat.le_refl _) _
    obtain ⟨v1, w1, hrun, hb2, ho⟩ := run_app_own (P := Tryd.prog) (w := w.alloc (.cells #[] XT)) (E := xtE) w.heap.size SXT SXT XT Tryd.underlying24 xinfo _ 0 [] (xown_no xtE w XT) hb1.size (some ad) l.length c l rfl (fun h => by cases h) (hs.below hb1 (Nat.le_refl _)) (by unfold maxLen; omega) (by show _ * 16 ≤ _; omega)
    rw [List.nil_append, Nat.zero_add] at ho
    have Ho : Hid (w1.ownsRow w.heap.size XT 2 v1 l.length (xtE.row l)) := ho
    have HB := Lib.hid (hb1.trans hb2)
    obtain ⟨n, hn⟩ : ∃ n, l.length = n := ⟨_, rfl⟩
    rw [hn] at hrun Ho ⊢
    clear hs hz hc hm hb1 hb2 ho hn hl
    go_enter Tryd.func30, Tryd.ntmps30
    go_wp2_with (at_builtin; refine Lib.wpList_append_run _ rfl (.tmp 5) (.tmp 6) _ _ rfl _ _ (by rfl) (by rfl) _ _ hrun ?_)
    go_ret
    exact ⟨_, rfl, Ho.out, HB.out⟩
end Go.Proofs.YtcimhcibkbbkdaaDoor
