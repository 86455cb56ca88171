/-
  A device in memory: its row, its two maps; the small calls on it.
-/
import Derived.Test.YtbkjaifpgknadaaDoorSec
import Derived.Test.YtbkjaifpgknadaaDoorNum
import Derived.Test.YtbkjaifpgknadaaDoorNum2
import Derived.WalkKit
import Derived.Lib.Hide
namespace Go.Proofs.YtbkjaifpgknadaaDoor
open Go Go.RowKit Go.Maps

abbrev DT : TypeId := 64
/-- What a device is. -/
structure DS where
  pages : Nat
  safe : Secs
  waits : Secs
  armed : Bool
  left : Int
  down : Bool
def dcs (bs bw : Nat) (S : DS) : Array Value := #[.int .i64 (S.pages : Int), .map (some bs), .map (some bw), .bool S.armed, .int .i64 S.left, .bool S.down]
structure Dev (w : World) (bd bs bw : Nat) (S : DS) : Prop where
  row : w.heap[bd]? = some (.cells (dcs bs bw S) DT (0, 0))
  safe : OM w bs (8 * S.pages) S.safe
  waits : OM w bw (8 * S.pages) S.waits
  ne : bs ≠ bw
  p1 : 1 ≤ S.pages
  p2 : S.pages ≤ 1024
  l1 : -9223372036854775808 ≤ S.left
  l2 : S.left ≤ 9223372036854775807
  arm : S.armed = true → 0 ≤ S.left
/-- The blocks of a device. -/
def Foot (bd bs bw : Nat) (i : Nat) : Prop := i = bd ∨ i = bs ∨ i = bw
theorem om_obj {w : World} {b M : Nat} {g : Secs} (h : OM w b M g) : ∃ es c, w.heap[b]? = some (.map es c) := by
  obtain ⟨_, _, _, ⟨es, c, hb, _⟩, _⟩ := h; exact ⟨es, c, hb⟩
section
variable {w : World} {bd bs bw : Nat} {S : DS}
theorem Dev.ns (h : Dev w bd bs bw S) : bd ≠ bs := by
  intro e; obtain ⟨es, c, hb⟩ := om_obj h.safe; have := h.row; rw [e, hb] at this; cases this
theorem Dev.nw (h : Dev w bd bs bw S) : bd ≠ bw := by
  intro e; obtain ⟨es, c, hb⟩ := om_obj h.waits; have := h.row; rw [e, hb] at this; cases this
theorem Dev.lt (h : Dev w bd bs bw S) : bd < w.heap.size := (Array.getElem?_eq_some_iff.1 h.row).1
theorem Dev.foot_lt (h : Dev w bd bs bw S) : ∀ i, Foot bd bs bw i → i < w.heap.size := by
  rintro i (rfl | rfl | rfl)
  · exact h.lt
  · exact h.safe.lt
  · exact h.waits.lt
theorem Dev.cell (h : Dev w bd bs bw S) (j : Nat) : w.cell? ⟨bd, j, none⟩ = (dcs bs bw S)[j]? := cell_of_row w bd j _ _ _ h.row
theorem Dev.c0 (h : Dev w bd bs bw S) : w.cell? ⟨bd, 0, none⟩ = some (.int .i64 (S.pages : Int)) := h.cell 0
theorem Dev.c1 (h : Dev w bd bs bw S) : w.cell? ⟨bd, 1, none⟩ = some (.map (some bs)) := h.cell 1
theorem Dev.c2 (h : Dev w bd bs bw S) : w.cell? ⟨bd, 2, none⟩ = some (.map (some bw)) := h.cell 2
theorem Dev.c3 (h : Dev w bd bs bw S) : w.cell? ⟨bd, 3, none⟩ = some (.bool S.armed) := h.cell 3
theorem Dev.c4 (h : Dev w bd bs bw S) : w.cell? ⟨bd, 4, none⟩ = some (.int .i64 S.left) := h.cell 4
theorem Dev.c5 (h : Dev w bd bs bw S) : w.cell? ⟨bd, 5, none⟩ = some (.bool S.down) := h.cell 5
theorem Dev.fz (h : Dev w bd bs bw S) (j : Nat) : w.frozen? ⟨bd, j, none⟩ = false := frozen_of_row w bd j _ _ h.row
theorem Dev.turn (h : Dev w bd bs bw S) {F : Nat → Prop} {w' : World} (t : Turn F w w') (hF : ∀ i, Foot bd bs bw i → ¬ F i) : Dev w' bd bs bw S :=
  ⟨t.hg h.row (hF _ (.inl rfl)), h.safe.turn t (hF _ (.inr (.inl rfl))), h.waits.turn t (hF _ (.inr (.inr rfl))), h.ne, h.p1, h.p2, h.l1, h.l2, h.arm⟩
theorem Dev.below (h : Dev w bd bs bw S) {w' : World} (t : Below w.heap.size w w') : Dev w' bd bs bw S := h.turn (F := fun _ => False) (Turn.ofBelow t) (fun _ _ hf => hf)
theorem Dev.set3 (h : Dev w bd bs bw S) (x : Bool) (hx : x = true → 0 ≤ S.left) : Dev (w.setCell ⟨bd, 3, none⟩ (.bool x)) bd bs bw { S with armed := x } :=
  ⟨(heap_setCell_same w bd 3 _ _ _ h.row), h.safe.keptAt (heap_setCell_other _ _ _ _ h.ns.symm), h.waits.keptAt (heap_setCell_other _ _ _ _ h.nw.symm), h.ne, h.p1, h.p2, h.l1, h.l2, hx⟩
theorem Dev.set4 (h : Dev w bd bs bw S) (x : Int) (h1 : -9223372036854775808 ≤ x) (h2 : x ≤ 9223372036854775807) (hx : S.armed = true → 0 ≤ x) : Dev (w.setCell ⟨bd, 4, none⟩ (.int .i64 x)) bd bs bw { S with left := x } :=
  ⟨(heap_setCell_same w bd 4 _ _ _ h.row), h.safe.keptAt (heap_setCell_other _ _ _ _ h.ns.symm), h.waits.keptAt (heap_setCell_other _ _ _ _ h.nw.symm), h.ne, h.p1, h.p2, h1, h2, hx⟩
theorem Dev.set5 (h : Dev w bd bs bw S) (x : Bool) : Dev (w.setCell ⟨bd, 5, none⟩ (.bool x)) bd bs bw { S with down := x } :=
  ⟨(heap_setCell_same w bd 5 _ _ _ h.row), h.safe.keptAt (heap_setCell_other _ _ _ _ h.ns.symm), h.waits.keptAt (heap_setCell_other _ _ _ _ h.nw.symm), h.ne, h.p1, h.p2, h.l1, h.l2, h.arm⟩
end
theorem Dev.reset {w w' : World} {bd bs bw : Nat} {S : DS} (h : Dev w bd bs bw S) {a : Bool} {l : Int} {d : Bool} (hr : w'.heap[bd]? = some (.cells (dcs bs bw { S with armed := a, left := l, down := d }) DT (0, 0))) (hs : w'.heap[bs]? = w.heap[bs]?) (hw : w'.heap[bw]? = w.heap[bw]?)
    (h1 : -9223372036854775808 ≤ l) (h2 : l ≤ 9223372036854775807) (ha : a = true → 0 ≤ l) : Dev w' bd bs bw { S with armed := a, left := l, down := d } :=
  ⟨hr, h.safe.keptAt hs, h.waits.keptAt hw, h.ne, h.p1, h.p2, h1, h2, ha⟩
theorem set2_same (w : World) (bd i j : Nat) (cs : Array Value) (t : TypeId) (u v : Value) (h : w.heap[bd]? = some (.cells cs t (0, 0))) :
    ((w.setCell ⟨bd, i, none⟩ u).setCell ⟨bd, j, none⟩ v).heap[bd]? = some (.cells ((cs.setIfInBounds i u).setIfInBounds j v) t (0, 0)) :=
  heap_setCell_same _ bd j _ _ _ (heap_setCell_same w bd i _ _ _ h)
theorem set2_other (w : World) (bd i j k : Nat) (u v : Value) (h : k ≠ bd) : ((w.setCell ⟨bd, i, none⟩ u).setCell ⟨bd, j, none⟩ v).heap[k]? = w.heap[k]? :=
  (heap_setCell_other _ _ _ _ h).trans (heap_setCell_other _ _ _ _ h)
/-- An error's value. -/
def errV (f : Int) : Value := if f = 0 then .nilIface else .iface 73 (.int .i64 f)
theorem errV_is (f : Int) : NumIs (errV f) f := by
  unfold errV
  by_cases h : f = 0
  · rw [if_pos h]; exact .inl ⟨rfl, h⟩
  · rw [if_neg h]; exact .inr rfl

theorem pages_nil (w : World) : Calls Tryd.prog 9 #[.pointer none] w fun e w' => e = .returned (.int .i64 0) ∧ w = w' := by
  go_enter Tryd.func9, Tryd.ntmps9
  go_wp2
  go_ret
  exact ⟨rfl, rfl⟩
theorem pages_any (w : World) (bd bs bw : Nat) (S : DS) (h : Dev w bd bs bw S) : Calls Tryd.prog 9 #[.pointer (some ⟨bd, 0, none⟩)] w fun e w' => e = .returned (.int .i64 (S.pages : Int)) ∧ w = w' := by
  have c0 := h.c0
  go_enter Tryd.func9, Tryd.ntmps9
  go_wp2
  go_ret
  exact ⟨rfl, rfl⟩
theorem down_nil (w : World) : Calls Tryd.prog 10 #[.pointer none] w fun e w' => e = .returned (.bool true) ∧ w = w' := by
  go_enter Tryd.func10, Tryd.ntmps10
  go_wp2
  go_ret
  exact ⟨rfl, rfl⟩
theorem down_any (w : World) (bd bs bw : Nat) (S : DS) (h : Dev w bd bs bw S) : Calls Tryd.prog 10 #[.pointer (some ⟨bd, 0, none⟩)] w fun e w' => e = .returned (.bool S.down) ∧ w = w' := by
  have c5 := h.c5
  go_enter Tryd.func10, Tryd.ntmps10
  go_wp2
  go_ret
  exact ⟨rfl, rfl⟩
theorem arm_nil (w : World) (n : Int) : Calls Tryd.prog 6 #[.pointer none, .int .i64 n] w fun e w' => e = .returned (.tuple #[]) ∧ w = w' := by
  go_enter Tryd.func6, Tryd.ntmps6
  go_wp2
  (try simp only [Exit.inBlock, Exit.then])
  refine bodyPost_ret (results_none rfl _ _ _) rfl ?_
  exact ⟨rfl, rfl⟩
theorem arm_any (w : World) (bd bs bw : Nat) (S : DS) (n : Int) (h1 : -9223372036854775808 ≤ n) (h2 : n ≤ 9223372036854775807) (h : Dev w bd bs bw S) :
    Calls Tryd.prog 6 #[.pointer (some ⟨bd, 0, none⟩), .int .i64 n] w fun e w' => e = .returned (.tuple #[]) ∧ Dev w' bd bs bw { S with armed := decide (0 ≤ n), left := n } ∧ Turn (Foot bd bs bw) w w' := by
  have c3 := h.c3
  have c4 := h.c4
  have f3 := h.fz 3
  have f4 := h.fz 4
  have H := Lib.hid h
  clear h
  have ht : ∀ u v : Value, Turn (Foot bd bs bw) w ((w.setCell ⟨bd, 3, none⟩ u).setCell ⟨bd, 4, none⟩ v) := fun u v =>
    ((Turn.refl _ w).setCell u (fun _ => .inl rfl)).setCell v (fun _ => .inl rfl)
  have Ht := Lib.hid ht
  clear ht
  by_cases hn : 0 ≤ n
  · have hd : decide (0 ≤ n) = true := by simpa using hn
    go_enter Tryd.func6, Tryd.ntmps6
    go_wp2
    go_end0
    refine ⟨rfl, ?_, Ht.out _ _⟩
    try rw [hd]
    exact H.out.reset (d := S.down) (set2_same w bd 3 4 _ _ _ _ H.out.row) (set2_other w bd 3 4 bs _ _ H.out.ns.symm) (set2_other w bd 3 4 bw _ _ H.out.nw.symm) h1 h2 (fun _ => hn)
  · have hd : decide (0 ≤ n) = false := by simpa using hn
    go_enter Tryd.func6, Tryd.ntmps6
    go_wp2
    go_end0
    refine ⟨rfl, ?_, Ht.out _ _⟩
    try rw [hd]
    exact H.out.reset (d := S.down) (set2_same w bd 3 4 _ _ _ _ H.out.row) (set2_other w bd 3 4 bs _ _ H.out.ns.symm) (set2_other w bd 3 4 bw _ _ H.out.nw.symm) h1 h2 (fun h => by cases h)
/-- A step: the error's number, and what the device is then. -/
def stepS (S : DS) : Int × DS := if S.armed = false then (0, S) else if S.left = 0 then (9, { S with down := true }) else (0, { S with left := S.left - 1 })
theorem step_any (w : World) (bd bs bw : Nat) (S : DS) (h : Dev w bd bs bw S) :
    Calls Tryd.prog 37 #[.pointer (some ⟨bd, 0, none⟩)] w fun e w' => e = .returned (errV (stepS S).1) ∧ Dev w' bd bs bw (stepS S).2 ∧ Turn (Foot bd bs bw) w w' := by
  have c3 := h.c3
  have c4 := h.c4
  have c5 := h.c5
  have f5 := h.fz 5
  have f4 := h.fz 4
  have b1 := h.l1
  have b2 := h.l2
  have ba := h.arm
  have H := Lib.hid h
  clear h
  obtain ⟨A, hA⟩ : ∃ A, A = S.armed := ⟨_, rfl⟩
  rw [← hA] at c3 ba
  cases A with
  | false =>
    have e1 : stepS S = (0, S) := by unfold stepS; rw [if_pos hA.symm]
    rw [e1]
    clear hA e1 ba
    go_enter Tryd.func37, Tryd.ntmps37
    go_wp2
    go_ret
    exact ⟨rfl, H.out, Turn.refl _ _⟩
  | true =>
    have ba' : 0 ≤ S.left := ba rfl
    clear ba
    by_cases h0 : S.left = 0
    · have e1 : stepS S = (9, { S with down := true }) := by unfold stepS; rw [if_neg (by rw [← hA]; simp), if_pos h0]
      rw [e1]
      rw [h0] at c4
      have hr := H.out.set5 true
      have Hr := Lib.hid hr
      have ht : Turn (Foot bd bs bw) w (w.setCell ⟨bd, 5, none⟩ (.bool true)) := (Turn.refl _ w).setCell _ (fun _ => .inl rfl)
      have Ht := Lib.hid ht
      clear hA e1 h0 hr ht b1 b2 ba'
      go_enter Tryd.func37, Tryd.ntmps37
      go_wp2
      go_ret
      exact ⟨rfl, Hr.out, Ht.out⟩
    · have e1 : stepS S = (0, { S with left := S.left - 1 }) := by unfold stepS; rw [if_neg (by rw [← hA]; simp), if_neg h0]
      rw [e1]
      have hr := H.out.set4 (S.left - 1) (by omega) (by omega) (fun _ => by omega)
      have Hr := Lib.hid hr
      have ht : Turn (Foot bd bs bw) w (w.setCell ⟨bd, 4, none⟩ (.int .i64 (S.left - 1))) := (Turn.refl _ w).setCell _ (fun _ => .inl rfl)
      have Ht := Lib.hid ht
      have d0 : (S.left == 0) = false := by simpa using h0
      clear hA e1 hr ht
      go_enter Tryd.func37, Tryd.ntmps37
      go_wp2
      go_ret
      exact ⟨rfl, Hr.out, Ht.out⟩
/-- The error of a number that should be one of so many. -/
def amongE (S : DS) (n many : Int) : Int := if S.down = true then 9 else if n < 0 ∨ many ≤ n then 2 else 0
theorem among_any (w : World) (bd bs bw : Nat) (S : DS) (n many : Int) (h : Dev w bd bs bw S) :
    Calls Tryd.prog 34 #[.pointer (some ⟨bd, 0, none⟩), .int .i64 n, .int .i64 many] w fun e w' => e = .returned (errV (amongE S n many)) ∧ w = w' := by
  have hd := down_any w bd bs bw S h
  clear h
  by_cases h1 : S.down = true
  · have e1 : amongE S n many = 9 := by unfold amongE; rw [if_pos h1]
    rw [e1]
    rw [h1] at hd
    clear h1 e1
    go_enter Tryd.func34, Tryd.ntmps34
    go_wp2_with fail
    refine hd.mono ?_; rintro e w' ⟨rfl, rfl⟩
    go_wp2_with fail
    go_ret
    exact ⟨rfl, rfl⟩
  · have h2 : S.down = false := by cases hq : S.down <;> simp_all
    rw [h2] at hd
    by_cases h3 : n < 0
    · have e1 : amongE S n many = 2 := by unfold amongE; rw [if_neg h1, if_pos (.inl h3)]
      rw [e1]
      clear h1 e1 h2
      go_enter Tryd.func34, Tryd.ntmps34
      go_wp2_with fail
      refine hd.mono ?_; rintro e w' ⟨rfl, rfl⟩
      go_wp2_with fail
      go_ret
      exact ⟨rfl, rfl⟩
    · have h3' : decide (n < 0) = false := by simpa using h3
      by_cases h4 : many ≤ n
      · have e1 : amongE S n many = 2 := by unfold amongE; rw [if_neg h1, if_pos (.inr h4)]
        rw [e1]
        clear h1 e1 h2
        go_enter Tryd.func34, Tryd.ntmps34
        go_wp2_with fail
        refine hd.mono ?_; rintro e w' ⟨rfl, rfl⟩
        go_wp2_with fail
        go_ret
        exact ⟨rfl, rfl⟩
      · have e1 : amongE S n many = 0 := by unfold amongE; rw [if_neg h1, if_neg (by omega)]
        have h4' : decide (many ≤ n) = false := by simpa using h4
        rw [e1]
        clear h1 e1 h2
        go_enter Tryd.func34, Tryd.ntmps34
        go_wp2_with fail
        refine hd.mono ?_; rintro e w' ⟨rfl, rfl⟩
        go_wp2_with fail
        go_ret
        exact ⟨rfl, rfl⟩
end Go.Proofs.YtbkjaifpgknadaaDoor
