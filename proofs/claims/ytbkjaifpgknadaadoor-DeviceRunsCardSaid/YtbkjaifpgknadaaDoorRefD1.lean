/-
  The document's device in memory: the same states, each sector in its place.
-/
import Derived.Test.YtbkjaifpgknadaaDoorKeep2
import Derived.Laws.CopyRow
namespace Go.Proofs.YtbkjaifpgknadaaDoor
open Go Go.RowKit Go.Maps

abbrev RT : TypeId := 43
abbrev A64 : TypeId := 69
abbrev SLT : TypeId := 40
abbrev BLT : TypeId := 41
abbrev BO : TypeId := 4
/-! ### sectors, one behind the other -/
def flatS (f : Nat → List Nat) : Nat → List Nat
  | 0 => []
  | n + 1 => flatS f n ++ f n
def L64 (f : Nat → List Nat) : Prop := ∀ n, (f n).length = 64
theorem flat_len {f : Nat → List Nat} (h : L64 f) : ∀ N, (flatS f N).length = N * 64
  | 0 => rfl
  | N + 1 => by rw [flatS, List.length_append, flat_len h N, h]; omega
theorem flat_congr {f g : Nat → List Nat} : ∀ N, (∀ i, i < N → f i = g i) → flatS f N = flatS g N
  | 0, _ => rfl
  | N + 1, h => by rw [flatS, flatS, flat_congr N (fun i hi => h i (by omega)), h N (by omega)]
theorem getD_app_l (a b : List Nat) (i : Nat) (h : i < a.length) : (a ++ b).getD i 0 = a.getD i 0 := by
  rw [List.getD_eq_getElem?_getD, List.getElem?_append_left h, ← List.getD_eq_getElem?_getD]
theorem getD_app_r (a b : List Nat) (i : Nat) (h : a.length ≤ i) : (a ++ b).getD i 0 = b.getD (i - a.length) 0 := by
  rw [List.getD_eq_getElem?_getD, List.getElem?_append_right h, ← List.getD_eq_getElem?_getD]
theorem flat_get {f : Nat → List Nat} (h : L64 f) : ∀ N n i, n < N → i < 64 → (flatS f N).getD (n * 64 + i) 0 = (f n).getD i 0
  | 0, n, i, hn, _ => by omega
  | N + 1, n, i, hn, hi => by
    rw [flatS]
    by_cases e : n = N
    · subst e
      rw [getD_app_r _ _ _ (by rw [flat_len h]; omega), flat_len h]
      congr 1; omega
    · rw [getD_app_l _ _ _ (by rw [flat_len h]; omega)]
      exact flat_get h N n i (by omega) hi
theorem flat_ext {f : Nat → List Nat} (h : L64 f) {N : Nat} {L : List Nat} (hL : L.length = N * 64) (hg : ∀ n i, n < N → i < 64 → L.getD (n * 64 + i) 0 = (f n).getD i 0) : L = flatS f N := by
  apply List.ext_getElem (by rw [hL, flat_len h])
  intro j h1 h2
  have hj : j < N * 64 := by omega
  have hn : j / 64 < N := by omega
  have hi : j % 64 < 64 := Nat.mod_lt _ (by omega)
  have e : j / 64 * 64 + j % 64 = j := by omega
  have a1 := hg (j / 64) (j % 64) hn hi
  have a2 := flat_get h N (j / 64) (j % 64) hn hi
  rw [e] at a1 a2
  have a3 := a1.trans a2.symm
  rw [List.getD_eq_getElem?_getD, List.getD_eq_getElem?_getD, List.getElem?_eq_getElem h1, List.getElem?_eq_getElem h2] at a3
  exact a3
theorem getD_set (L : List Nat) (j i v : Nat) (hj : j < L.length) : (L.set j v).getD i 0 = if i = j then v else L.getD i 0 := by
  by_cases e : i = j
  · subst e; rw [if_pos rfl, List.getD_eq_getElem?_getD, List.getElem?_set_self hj]; rfl
  · rw [if_neg e, List.getD_eq_getElem?_getD, List.getElem?_set_ne (fun h => e h.symm), ← List.getD_eq_getElem?_getD]
/-- One sector is another one. -/
def at1 (f : Nat → List Nat) (n : Nat) (l : List Nat) : Nat → List Nat := fun m => if m = n then l else f m
theorem at1_len {f : Nat → List Nat} (h : L64 f) {n : Nat} {l : List Nat} (hl : l.length = 64) : L64 (at1 f n l) := by
  intro m; unfold at1; split
  · exact hl
  · exact h m
theorem flat_set {f : Nat → List Nat} (h : L64 f) {N n i : Nat} (hn : n < N) (hi : i < 64) (v : Nat) : (flatS f N).set (n * 64 + i) v = flatS (at1 f n ((f n).set i v)) N := by
  refine flat_ext (at1_len h (by rw [List.length_set]; exact h n)) (by rw [List.length_set, flat_len h]) (fun m j hm hj => ?_)
  rw [getD_set _ _ _ _ (by rw [flat_len h]; omega)]
  unfold at1
  by_cases e : m = n
  · subst e
    rw [if_pos rfl, getD_set _ _ _ _ (by rw [h]; exact hi), flat_get h N m j hm hj]
    by_cases e2 : j = i
    · subst e2; rw [if_pos rfl, if_pos rfl]
    · rw [if_neg (by omega), if_neg e2]
  · rw [if_neg (by omega), if_neg e]
    exact flat_get h N m j hm hj
theorem splice_getD (L : List Nat) (o : Nat) (c : List Nat) (i : Nat) (h : o + c.length ≤ L.length) : (splice L o c).getD i 0 = if o ≤ i ∧ i < o + c.length then c.getD (i - o) 0 else L.getD i 0 := by
  unfold splice
  by_cases h1 : i < o
  · rw [if_neg (by omega), getD_app_l _ _ _ (by rw [List.length_take]; omega), List.getD_eq_getElem?_getD, List.getElem?_take_of_lt h1, ← List.getD_eq_getElem?_getD]
  · rw [getD_app_r _ _ _ (by rw [List.length_take]; omega), List.length_take, Nat.min_eq_left (by omega)]
    by_cases h2 : i < o + c.length
    · rw [if_pos (by omega), getD_app_l _ _ _ (by omega)]
    · rw [if_neg (by omega), getD_app_r _ _ _ (by omega), List.getD_eq_getElem?_getD, List.getElem?_drop, ← List.getD_eq_getElem?_getD]
      congr 1; omega
theorem splice_len {α : Type} (L : List α) (o : Nat) (c : List α) (h : o + c.length ≤ L.length) : (splice L o c).length = L.length := by
  unfold splice; rw [List.length_append, List.length_append, List.length_take, List.length_drop]; omega
theorem flat_put {f : Nat → List Nat} (h : L64 f) {N n : Nat} (hn : n < N) (l : List Nat) (hl : l.length = 64) : splice (flatS f N) (n * 64) l = flatS (at1 f n l) N := by
  refine flat_ext (at1_len h hl) (by rw [splice_len _ _ _ (by rw [flat_len h, hl]; omega), flat_len h]) (fun m j hm hj => ?_)
  rw [splice_getD _ _ _ _ (by rw [flat_len h, hl]; omega), hl]
  unfold at1
  by_cases e : m = n
  · subst e
    rw [if_pos (by omega), if_pos rfl]
    congr 1; omega
  · rw [if_neg (by omega), if_neg e]
    exact flat_get h N m j hm hj
/-! ### the document's device -/
def lfS (S : DS) : Int := if S.armed = true then S.left else -1
/-- What is safe, what is read, which wait. -/
def sfS (S : DS) (n : Nat) : List Nat := (S.safe n).getD zeros
def wtS (S : DS) (n : Nat) : Bool := (S.waits n).isSome
def bvs (f : Nat → Bool) : Nat → List Value
  | 0 => []
  | n + 1 => bvs f n ++ [.bool (f n)]
theorem bvs_len (f : Nat → Bool) : ∀ n, (bvs f n).length = n
  | 0 => rfl
  | n + 1 => by rw [bvs, List.length_append, bvs_len f n]; rfl
theorem bvs_get (f : Nat → Bool) : ∀ n i, i < n → (bvs f n)[i]? = some (.bool (f i))
  | 0, i, h => by omega
  | n + 1, i, h => by
    rw [bvs]
    by_cases e : i = n
    · subst e; rw [List.getElem?_append_right (by rw [bvs_len]; exact Nat.le_refl _), bvs_len, Nat.sub_self]; rfl
    · rw [List.getElem?_append_left (by rw [bvs_len]; omega)]; exact bvs_get f n i (by omega)
def BRow (w : World) (g : Nat) (f : Nat → Bool) (n : Nat) : Prop := w.heap[g]? = some (.cells (bvs f n).toArray BO (0, 0))
theorem BRow.cell {w : World} {g n : Nat} {f : Nat → Bool} (h : BRow w g f n) (i : Nat) (hi : i < n) : w.cell? ⟨g, i, none⟩ = some (.bool (f i)) := by
  rw [cell_of_row w g i _ _ _ h]; simpa using bvs_get f n i hi
theorem BRow.frozen {w : World} {g n : Nat} {f : Nat → Bool} (h : BRow w g f n) (i : Nat) : w.frozen? ⟨g, i, none⟩ = false := frozen_of_row w g i _ _ h
theorem bvs_congr {f g : Nat → Bool} : ∀ n, (∀ i, i < n → f i = g i) → bvs f n = bvs g n
  | 0, _ => rfl
  | n + 1, h => by rw [bvs, bvs, bvs_congr n (fun i hi => h i (by omega)), h n (by omega)]
def bat (f : Nat → Bool) (n : Nat) (x : Bool) : Nat → Bool := fun m => if m = n then x else f m
theorem bvs_set (f : Nat → Bool) (x : Bool) : ∀ n i, i < n → (bvs f n).set i (.bool x) = bvs (bat f i x) n := by
  intro n i hi
  apply List.ext_getElem?
  intro j
  by_cases hj : j < n
  · rw [bvs_get _ n j hj]
    by_cases e : j = i
    · subst e; rw [List.getElem?_set_self (by rw [bvs_len]; exact hi)]; unfold bat; rw [if_pos rfl]
    · rw [List.getElem?_set_ne (fun h => e h.symm), bvs_get f n j hj]; unfold bat; rw [if_neg e]
  · rw [List.getElem?_eq_none (by rw [List.length_set, bvs_len]; omega), List.getElem?_eq_none (by rw [bvs_len]; omega)]
theorem BRow.set {w : World} {g n : Nat} {f : Nat → Bool} (h : BRow w g f n) (i : Nat) (hi : i < n) (x : Bool) : BRow (w.setCell ⟨g, i, none⟩ (.bool x)) g (bat f i x) n := by
  have := heap_setCell_same w g i _ _ (.bool x) h
  unfold BRow
  rw [this, ← bvs_set f x n i hi]
  simp
def rcs (ps pn pw : Nat) (S : DS) : Array Value := #[.int .i64 (S.pages : Int), .slice (some ⟨ps, 0, none⟩) (8 * S.pages) (8 * S.pages), .slice (some ⟨pn, 0, none⟩) (8 * S.pages) (8 * S.pages), .slice (some ⟨pw, 0, none⟩) (8 * S.pages) (8 * S.pages), .int .i64 (lfS S), .bool S.down]
/-- The states that are well formed. -/
structure WfS (S : DS) : Prop where
  p1 : 1 ≤ S.pages
  p2 : S.pages ≤ 1024
  rd : L64 (rd S)
  sf : L64 (sfS S)
  rd8 : ∀ n, B8 (Proofs.YtbkjaifpgknadaaDoor.rd S n)
  wt : ∀ n l, S.waits n = some l → n < 8 * S.pages
  l1 : -9223372036854775808 ≤ S.left
  l2 : S.left ≤ 9223372036854775807
  arm : S.armed = true → 0 ≤ S.left
theorem wf_dev {w : World} {bd bs bw : Nat} {S : DS} (h : Dev w bd bs bw S) : WfS S :=
  ⟨h.p1, h.p2, fun n => rd_len h n, fun n => by
    obtain ⟨_, _, _, _, r1⟩ := h.safe
    unfold sfS
    cases h2 : S.safe n with
    | some l => exact (r1.form n l h2).1
    | none => exact zeros_len, fun n => rd_b8 h n, fun _ _ hw => (waits_form h hw).2.2, h.l1, h.l2, h.arm⟩
/-- The rows behind the document's device. -/
structure RefV (w : World) (ps pn pw : Nat) (S : DS) : Prop where
  safe : Row w ps A64 (flatS (sfS S) (8 * S.pages))
  now : Row w pn A64 (flatS (rd S) (8 * S.pages))
  waits : BRow w pw (wtS S) (8 * S.pages)
  sn : ps ≠ pn
structure Ref (w : World) (yb ps pn pw : Nat) (S : DS) : Prop where
  row : w.heap[yb]? = some (.cells (rcs ps pn pw S) RT (0, 0))
  v : RefV w ps pn pw S
theorem RefV.nw {w : World} {ps pn pw : Nat} {S : DS} (h : RefV w ps pn pw S) : pn ≠ pw := by
  intro e
  have h1 : w.heap[pn]? = some (.cells _ A64 (0, 0)) := h.now
  have h2 : w.heap[pw]? = some (.cells _ BO (0, 0)) := h.waits
  rw [e, h2] at h1
  have h3 := Option.some.inj h1
  injection h3 with _ h4 _
  exact absurd h4 (by decide)
theorem RefV.sw {w : World} {ps pn pw : Nat} {S : DS} (h : RefV w ps pn pw S) : ps ≠ pw := by
  intro e
  have h1 : w.heap[ps]? = some (.cells _ A64 (0, 0)) := h.safe
  have h2 : w.heap[pw]? = some (.cells _ BO (0, 0)) := h.waits
  rw [e, h2] at h1
  have h3 := Option.some.inj h1
  injection h3 with _ h4 _
  exact absurd h4 (by decide)
/-- The blocks of the document's device. -/
def FootR (yb ps pn pw : Nat) (i : Nat) : Prop := i = yb ∨ i = ps ∨ i = pn ∨ i = pw
theorem Ref.out {w : World} {yb ps pn pw : Nat} {S : DS} (h : Ref w yb ps pn pw S) : yb ≠ ps ∧ yb ≠ pn ∧ yb ≠ pw := by
  have h0 := h.row
  refine ⟨fun e => ?_, fun e => ?_, fun e => ?_⟩
  · have h1 : w.heap[ps]? = some (.cells _ A64 (0, 0)) := h.v.safe
    rw [← e, h0] at h1
    have h3 := Option.some.inj h1
    injection h3 with _ h4 _
    exact absurd h4 (by decide)
  · have h1 : w.heap[pn]? = some (.cells _ A64 (0, 0)) := h.v.now
    rw [← e, h0] at h1
    have h3 := Option.some.inj h1
    injection h3 with _ h4 _
    exact absurd h4 (by decide)
  · have h1 : w.heap[pw]? = some (.cells _ BO (0, 0)) := h.v.waits
    rw [← e, h0] at h1
    have h3 := Option.some.inj h1
    injection h3 with _ h4 _
    exact absurd h4 (by decide)
theorem RefV.turn {F : Nat → Prop} {w w' : World} {ps pn pw : Nat} {S : DS} (h : RefV w ps pn pw S) (t : Turn F w w') (h1 : ¬ F ps) (h2 : ¬ F pn) (h3 : ¬ F pw) : RefV w' ps pn pw S :=
  ⟨Row.turn h.safe t h1, Row.turn h.now t h2, t.hg h.waits h3, h.sn⟩
theorem Ref.turn {F : Nat → Prop} {w w' : World} {yb ps pn pw : Nat} {S : DS} (h : Ref w yb ps pn pw S) (t : Turn F w w') (hF : ∀ i, FootR yb ps pn pw i → ¬ F i) : Ref w' yb ps pn pw S :=
  ⟨t.hg h.row (hF _ (.inl rfl)), h.v.turn t (hF _ (.inr (.inl rfl))) (hF _ (.inr (.inr (.inl rfl)))) (hF _ (.inr (.inr (.inr rfl))))⟩
theorem Ref.below {w w' : World} {yb ps pn pw : Nat} {S : DS} (h : Ref w yb ps pn pw S) (t : Below w.heap.size w w') : Ref w' yb ps pn pw S := h.turn (F := fun _ => False) (Turn.ofBelow t) (fun _ _ hf => hf)
theorem Ref.foot_lt {w : World} {yb ps pn pw : Nat} {S : DS} (h : Ref w yb ps pn pw S) : ∀ i, FootR yb ps pn pw i → i < w.heap.size := by
  rintro i (rfl | rfl | rfl | rfl)
  · exact (Array.getElem?_eq_some_iff.1 h.row).1
  · exact h.v.safe.lt
  · exact h.v.now.lt
  · exact (Array.getElem?_eq_some_iff.1 h.v.waits).1
section
variable {w : World} {yb ps pn pw : Nat} {S : DS}
theorem Ref.c0 (h : Ref w yb ps pn pw S) : w.cell? ⟨yb, 0, none⟩ = some (.int .i64 (S.pages : Int)) := cell_of_row w yb 0 _ _ _ h.row
theorem Ref.c1 (h : Ref w yb ps pn pw S) : w.cell? ⟨yb, 1, none⟩ = some (.slice (some ⟨ps, 0, none⟩) (8 * S.pages) (8 * S.pages)) := cell_of_row w yb 1 _ _ _ h.row
theorem Ref.c2 (h : Ref w yb ps pn pw S) : w.cell? ⟨yb, 2, none⟩ = some (.slice (some ⟨pn, 0, none⟩) (8 * S.pages) (8 * S.pages)) := cell_of_row w yb 2 _ _ _ h.row
theorem Ref.c3 (h : Ref w yb ps pn pw S) : w.cell? ⟨yb, 3, none⟩ = some (.slice (some ⟨pw, 0, none⟩) (8 * S.pages) (8 * S.pages)) := cell_of_row w yb 3 _ _ _ h.row
theorem Ref.c4 (h : Ref w yb ps pn pw S) : w.cell? ⟨yb, 4, none⟩ = some (.int .i64 (lfS S)) := cell_of_row w yb 4 _ _ _ h.row
theorem Ref.c5 (h : Ref w yb ps pn pw S) : w.cell? ⟨yb, 5, none⟩ = some (.bool S.down) := cell_of_row w yb 5 _ _ _ h.row
theorem Ref.fz (h : Ref w yb ps pn pw S) (j : Nat) : w.frozen? ⟨yb, j, none⟩ = false := frozen_of_row w yb j _ _ h.row
end
theorem rstep_any (w : World) (yb ps pn pw : Nat) (S : DS) (hw : WfS S) (h : Ref w yb ps pn pw S) :
    Calls Tryd.prog 40 #[.pointer (some ⟨yb, 0, none⟩)] w fun e w' => e = .returned (.int .i64 (stepS S).1) ∧ Ref w' yb ps pn pw (stepS S).2 ∧ Turn (fun i => i = yb) w w' := by
  have c4 := h.c4
  have c5 := h.c5
  have f5 := h.fz 5
  have f4 := h.fz 4
  have b1 := hw.l1
  have b2 := hw.l2
  have ba := hw.arm
  have H := Lib.hid h
  have ho := h.out
  have hset : ∀ (j : Nat) (u : Value) (T : DS), ((rcs ps pn pw S).setIfInBounds j u = rcs ps pn pw T) → T.pages = S.pages → T.safe = S.safe → T.waits = S.waits → Ref (w.setCell ⟨yb, j, none⟩ u) yb ps pn pw T := fun j u T e1 e2 e3 e4 => by
    have hr := heap_setCell_same w yb j _ _ u h.row
    rw [e1] at hr
    refine ⟨hr, ?_⟩
    have hv := h.v.turn (turn_set w yb j u) (fun e => ho.1 e.symm) (fun e => ho.2.1 e.symm) (fun e => ho.2.2 e.symm)
    obtain ⟨v1, v2, v3, v4⟩ := hv
    have r1 : rd T = rd S := by unfold rd; rw [e3, e4]
    have r2 : sfS T = sfS S := by unfold sfS; rw [e3]
    have r3 : wtS T = wtS S := by unfold wtS; rw [e4]
    exact ⟨by rw [r2, e2]; exact v1, by rw [r1, e2]; exact v2, by rw [r3, e2]; exact v3, v4⟩
  have Hset := Lib.hid hset
  clear h ho hset hw
  obtain ⟨A, hA⟩ : ∃ A, A = S.armed := ⟨_, rfl⟩
  rw [← hA] at ba
  cases A with
  | false =>
    have e1 : stepS S = (0, S) := by unfold stepS; rw [if_pos hA.symm]
    rw [e1]
    have e2 : lfS S = -1 := by unfold lfS; rw [← hA]; rfl
    rw [e2] at c4
    clear hA e1 ba e2
    go_enter Tryd.func40, Tryd.ntmps40
    go_wp2
    go_ret
    exact ⟨rfl, H.out, Turn.refl _ _⟩
  | true =>
    have ba' : 0 ≤ S.left := ba rfl
    have e2 : lfS S = S.left := by unfold lfS; rw [← hA]; rfl
    rw [e2] at c4
    clear ba
    by_cases h0 : S.left = 0
    · have e1 : stepS S = (9, { S with down := true }) := by unfold stepS; rw [if_neg (by rw [← hA]; simp), if_pos h0]
      rw [e1]
      rw [h0] at c4
      have hr := Hset.out 5 (.bool true) { S with down := true } (by simp [rcs, lfS]) rfl rfl rfl
      have Hr := Lib.hid hr
      have ht := Lib.hid (turn_set w yb 5 (.bool true))
      clear hA e1 h0 hr b1 b2 ba' e2 Hset
      go_enter Tryd.func40, Tryd.ntmps40
      go_wp2
      go_ret
      exact ⟨rfl, Hr.out, ht.out⟩
    · have e1 : stepS S = (0, { S with left := S.left - 1 }) := by unfold stepS; rw [if_neg (by rw [← hA]; simp), if_neg h0]
      rw [e1]
      have hr := Hset.out 4 (.int .i64 (S.left - 1)) { S with left := S.left - 1 } (by simp [rcs, lfS, ← hA]) rfl rfl rfl
      have Hr := Lib.hid hr
      have ht := Lib.hid (turn_set w yb 4 (.int .i64 (S.left - 1)))
      have d0 : (S.left == 0) = false := by simpa using h0
      have d1 : 0 < S.left := by omega
      clear hA e1 hr e2 Hset h0
      go_enter Tryd.func40, Tryd.ntmps40
      go_wp2
      go_ret
      exact ⟨rfl, Hr.out, ht.out⟩
end Go.Proofs.YtbkjaifpgknadaaDoor
