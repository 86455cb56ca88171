/-
  A range over a map of sectors: which of them are still to come.
-/
import Derived.Test.YtbkjaifpgknadaaDoorSecW
namespace Go.Proofs.YtbkjaifpgknadaaDoor
open Go Go.RowKit Go.Maps Go.ChangeMaps Go.MapKept

/-- A range over the map b is under way, its iterator is r; left: which sectors are still to come. -/
def RG (w : World) (b r M : Nat) (g : Secs) (left : Nat → Bool) : Prop :=
  M ≤ 8192 ∧ ∃ N D lf cnt, w.ranges Tryd.prog PT RS b r N D lf cnt ∧ Rep M D g ∧ (∀ n, n < M → lf (kl n) = left n) ∧ ∀ n, M ≤ n → left n = false
/-- One fewer is to come. -/
def but (left : Nat → Bool) (n : Nat) : Nat → Bool := fun i => left i && decide (i ≠ n)
theorem RG.lt {w : World} {b r M : Nat} {g : Secs} {left : Nat → Bool} (h : RG w b r M g left) : r < w.heap.size := by
  obtain ⟨_, _, _, _, _, hr, _⟩ := h; exact hr.lt
theorem RG.turn {F : Nat → Prop} {w w' : World} {b r M : Nat} {g : Secs} {left : Nat → Bool} (h : RG w b r M g left) (t : Turn F w w') (hb : ¬ F b) (hr : ¬ F r) : RG w' b r M g left ∧ w'.rangeLeft b r = w.rangeLeft b r := by
  obtain ⟨hM, N, D, lf, cnt, hrg, hrep, hl, hz⟩ := h
  have e1 := t.block b hrg.owns.lt hb
  have e2 := t.block r hrg.lt hr
  refine ⟨⟨hM, N, D, lf, cnt, ?_, hrep, hl, hz⟩, ?_⟩
  · obtain ⟨es, clock, since, seen, c0, hb0, F0, hs, hD, hr0, rest⟩ := hrg
    exact ⟨es, clock, since, seen, c0, e1.trans hb0, F0, hs, hD, e2.trans hr0, rest⟩
  · unfold World.rangeLeft; rw [e1, e2]
theorem ranges_has {w : World} {b r N cnt : Nat} {D : DataW Value} {lf : Lit → Bool} (h : w.ranges Tryd.prog PT RS b r N D lf cnt) {kl : Lit} (hk : lf kl = true) : Maps.has D kl = true := by
  obtain ⟨es, clock, since, seen, c0, hb, F, hs, rfl, hr, _, _, _, h4, _⟩ := h
  obtain ⟨x, hx, rfl⟩ := h4 kl hk
  obtain ⟨y, hy⟩ := F.reads x hx
  exact List.any_eq_true.2 ⟨_, mem_sorted.2 (List.mem_map.2 ⟨x, hx, rfl⟩), WideAt.sameKey_self (by rw [WideElems.rg_of hy]; exact place_keyed.key (WideElems.rd_key hy))⟩
section
variable {w : World} {ops : Array Oper} {rest : List Oper} {o : Oper} {a : Act} {Q : Exit → Act → World → Prop}
theorem wpList_range_om (hgd : o.guard = none) (m : Operand) (ho : o.op = Op.range MT m) (b M : Nat) (g : Secs) (hm : a.eval m = .map (some b)) (hb : OM w b M g)
    (h : ∀ r w', w.heap.size ≤ r → RG w' b r M g (fun n => (g n).isSome) → Below w.heap.size w w' → wpList Tryd.prog ops Q rest (a.put o.dst (.pointer (some ⟨r, 0, none⟩))) w') : wpList Tryd.prog ops Q (o :: rest) a w := by
  obtain ⟨hM, N, D, hown, hrep⟩ := hb
  refine wpList_range_own w hgd m MT ho PT ST place_keyed map_under RS b N D hm hown ?_
  intro w' hrg hg hs
  refine h w.heap.size w' (Nat.le_refl _) ⟨hM, N, D, _, _, hrg, hrep, fun n hn => hrep.has n hn, fun n hn => ?_⟩ ⟨hg.os, hg.tape, hg.output, hg.size, fun i hi => hg.block i hi (by simp)⟩
  show (g n).isSome = false
  cases hgn : g n with
  | none => rfl
  | some l => have := (hrep.form n l hgn).2.2; omega
theorem wpList_next_om (hgd : o.guard = none) (it : Operand) (ho : o.op = Op.next it false) (b r M : Nat) (g : Secs) (left : Nat → Bool) (hit : a.eval it = .pointer (some ⟨r, 0, none⟩)) (h : RG w b r M g left)
    (hDone : (∀ n, left n = false) → wpList Tryd.prog ops Q rest (a.put o.dst (.tuple #[.bool false])) w)
    (hMore : ∀ (n : Nat) (l : List Nat) (w' : World), n < M → left n = true → g n = some l → RG w' b r M g (but left n) → Turn (fun i => i = r) w w' → w'.heap.size = w.heap.size → w'.rangeLeft b r < w.rangeLeft b r →
      (Instr.entry (.pointer (some ⟨r, 0, none⟩))).run Tryd.prog w' = .ok (.tuple #[plc n, sec l]) w' → wpList Tryd.prog ops Q rest (a.put o.dst (.tuple #[.bool true, plc n, sec l])) w') :
    wpList Tryd.prog ops Q (o :: rest) a w := by
  obtain ⟨hM, N, D, lf, cnt, hrg, hrep, hl, hz⟩ := h
  refine wpList_next_ranges w hgd it ho PT place_keyed RS (fun v : Value => v) (fun v : Value => v) (fun key _ _ => ⟨key, rfl⟩) (fun v _ _ => ⟨v, rfl⟩) b r N D lf cnt hit hrg ?_ ?_
  · intro _ hl0
    refine hDone (fun n => ?_)
    by_cases hn : n < M
    · rw [← hl n hn]; exact hl0 _
    · exact hz n (by omega)
  · intro x c k y w' cnt' hkey hlk hv hat hrg' hlt hg hs hen
    have hh := ranges_has hrg hlk
    obtain ⟨n, hn, rfl⟩ := hrep.keys k hh
    obtain rfl : x = plc n := place_keyed.inj hkey (key_plc n (by omega))
    rw [hrep.has n hn] at hh
    obtain ⟨l, hgl⟩ := Option.isSome_iff_exists.1 hh
    have hv' := hrep.val n l hn hgl .nil
    rw [hat .nil] at hv'
    simp only [RS, Option.some.injEq] at hv
    rw [← hv] at hv'
    simp only [DataW.held.injEq] at hv'
    subst hv'
    refine hMore n l w' hn (by rw [← hl n hn]; exact hlk) hgl ⟨hM, N, D, _, cnt', hrg', hrep, fun m hm => ?_, fun m hm => by simp [but, hz m hm]⟩ (Turn.ofGrown hg) hs (by rw [hrg'.left_eq, hrg.left_eq]; exact hlt) hen
    show (lf (kl m) && !(kl m).sameKey (kl n)) = (left m && decide (m ≠ n))
    rw [hl m hm]
    by_cases e : m = n
    · subst e; rw [WideAt.sameKey_self (kl_key (by omega))]; simp
    · rw [Maps.sameKey_ne (kl_ne (by omega) (by omega) e)]; simp [e]
end
end Go.Proofs.YtbkjaifpgknadaaDoor
