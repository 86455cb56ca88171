/-
  DeviceRuns: what the law's own pages are; the answers of no device; of both devices together.
-/
import Derived.Test.YtbkjaifpgknadaaDoorWp2
import Derived.Test.YtbkjaifpgknadaaDoorRefNew
import Derived.Test.YtbkjaifpgknadaaDoorSure4
namespace Go.Proofs.YtbkjaifpgknadaaDoor
open Go Go.RowKit Go.Maps Go.Sort

theorem read_nil (w : World) (n : Int) : Calls Tryd.prog 8 #[.pointer none, .int .i64 n] w fun e w' => e = .returned (.tuple #[.slice none 0 0, errV 9]) ∧ w = w' := by
  have hpg := pages_nil w
  have hdn := down_nil w
  rw [errV_ne (by decide)]
  have HP := Lib.hid (And.intro hpg hdn)
  have ham : ∀ (m k : Int), Calls Tryd.prog 34 #[.pointer none, .int .i64 m, .int .i64 k] w fun e w' => e = .returned (errV 9) ∧ w = w' := fun m k => by
    rw [errV_ne (by decide)]
    clear hpg hdn
    go_enter Tryd.func34, Tryd.ntmps34
    go_wp2_with fail
    refine HP.out.2.mono ?_; rintro e w' ⟨rfl, rfl⟩
    go_wp2_with fail
    go_ret
    exact ⟨rfl, rfl⟩
  have Ham := Lib.hid (ham n 0)
  rw [errV_ne (by decide)] at Ham
  clear hpg hdn ham
  go_enter Tryd.func8, Tryd.ntmps8
  go_wp2_with fail
  refine HP.out.1.mono ?_; rintro e w' ⟨rfl, rfl⟩
  go_wp2_with fail
  refine Ham.out.mono ?_; rintro e w' ⟨rfl, rfl⟩
  go_wp2_with fail
  go_ret2
  exact ⟨rfl, rfl⟩
theorem sync_nil (w : World) : Calls Tryd.prog 12 #[.pointer none] w fun e w' => e = .returned (errV 9) ∧ w = w' := by
  rw [errV_ne (by decide)]
  have hdn := Lib.hid (down_nil w)
  go_enter Tryd.func12, Tryd.ntmps12
  go_wp2_with fail
  refine hdn.out.mono ?_; rintro e w' ⟨rfl, rfl⟩
  go_wp2_with fail
  go_ret
  exact ⟨rfl, rfl⟩
/-- The law's page of bytes. -/
def pgOf (l : List Nat) : List Nat := if l.length ≤ 512 then l ++ List.replicate (512 - l.length) 0 else l
theorem pgOf_b8 {l : List Nat} (h : B8 l) : B8 (pgOf l) := by
  unfold pgOf; split
  · intro x hx
    rcases List.mem_append.1 hx with h1 | h1
    · exact h x h1
    · have := List.eq_of_mem_replicate h1; omega
  · exact h
theorem splice_zero_front (l : List Nat) (n : Nat) (_ : l.length ≤ n) : splice (List.replicate n 0) 0 l = l ++ List.replicate (n - l.length) 0 := by
  rw [splice_start, List.drop_replicate]
/-- A page behind the law's call: of the call's own, or what it was given. -/
def NewPg (w : World) (a : Option Addr) (l : List Nat) (e : Ending) (w' : World) : Prop := ∃ p c, e = .returned (.slice p (pgOf l).length c) ∧ Src w' p (pgOf l) ∧ (pgOf l).length ≤ c ∧ (∀ b o, p = some ⟨b, o, none⟩ → w.heap.size ≤ b ∨ (0 < l.length ∧ ∃ o2, a = some ⟨b, o2, none⟩)) ∧ Below w.heap.size w w'
set_option maxRecDepth 100000 in
theorem page_any (w : World) (a : Option Addr) (l : List Nat) (c : Nat) (hs : Src w a l) (hc : l.length ≤ c) (hm : c ≤ maxLen) :
    Calls Tryd.prog 24 #[.slice a l.length c] w (NewPg w a l) := by
  have Hs := Lib.hid hs
  have hm2 : l.length ≤ 9223372036854775807 := by unfold maxLen at hm; omega
  clear hs
  by_cases h5 : l.length ≤ 512
  · have d0 : decide (512 < (l.length : Int)) = false := by simp; omega
    have hpg : pgOf l = splice (List.replicate 512 0) 0 l := by unfold pgOf; rw [if_pos h5, splice_zero_front _ _ h5]
    have hpl : (pgOf l).length = 512 := by unfold pgOf; rw [if_pos h5, List.length_append, List.length_replicate]; omega
    have Hp := Lib.hid (And.intro hpg hpl)
    clear hpg hpl
    go_enter Tryd.func24, Tryd.ntmps24
    go_wp2_with (first
      | (refine wpList_make_bytes rfl (.const (.int .i64 512)) (.const (.int .i64 512)) BT rfl U8 Tryd.underlying26 (by kernel_rfl) .i64 .i64 512 512 512 (by rfl) (by rfl) rfl rfl (by omega) ?_; intro w1 hr1 hb1; have hs1 := Lib.hid (src_turn Hs.out (Turn.ofBelow (F := fun _ => False) hb1) (fun _ _ _ h => h)))
      | (refine wpList_copy_bytes rfl (.tmp 9) (.tmp 10) BT BT rfl U8 Tryd.underlying26 (by kernel_rfl) w.heap.size 0 512 512 a c (List.replicate 512 0) l (by rfl) (by rfl) hr1 hs1.out (by rw [List.length_replicate]; omega) h5 w.heap.size w hb1 (Nat.le_refl _) ?_; intro w2 hr2 hb2))
    have hr3 : Row w2 w.heap.size U8 (pgOf l) := by rw [Hp.out.1]; exact hr2.out
    have Hf := Lib.hid (And.intro hr3 hb2)
    clear hr3 hr2 hb2 hr1 hb1 hs1
    go_ret
    refine ⟨some ⟨w.heap.size, 0, none⟩, 512, ?_, fun _ => ⟨_, 0, rfl, fun i hi => by rw [Nat.zero_add]; exact Hf.out.1.cell i hi⟩, ?_, fun b o e => ?_, Hf.out.2⟩
    · rw [Hp.out.2]; rfl
    · rw [Hp.out.2]; exact Nat.le_refl _
    · cases e; exact .inl (Nat.le_refl _)
  · have d0 : decide (512 < (l.length : Int)) = true := by simp; omega
    have hpg : pgOf l = l := by unfold pgOf; rw [if_neg h5]
    have Hp := Lib.hid hpg
    clear hpg
    go_enter Tryd.func24, Tryd.ntmps24
    go_wp2
    go_ret
    refine ⟨a, c, ?_, ?_, ?_, ?_, Below.refl _ _⟩
    · rw [Hp.out]; rfl
    · rw [Hp.out]; exact Hs.out
    · rw [Hp.out]; exact hc
    · intro b o e; exact .inr ⟨by omega, o, e⟩
/-! ### Both devices together -/
/-- Bytes behind a call: of its own, or none. -/
def Got (w : World) (l : List Nat) (x : Value) (e : Ending) (w' : World) : Prop := ∃ p c, e = .returned (.tuple #[.slice p l.length c, x]) ∧ Src w' p l ∧ (l = [] → p = none ∧ c = 0) ∧ Below w.heap.size w w'
def rdL (S : DS) (n : Int) : List Nat := if amongE S n (8 * S.pages : Nat) = 0 then rd S n.toNat else []
def rpL (S : DS) (n : Int) : List Nat := if amongE S n (S.pages : Nat) = 0 then pgL S n.toNat 8 else []
theorem src_nil (w : World) : Src w none ([] : List Nat) := fun h => by cases h
theorem got_none {w w' : World} {x : Value} (hb : Below w.heap.size w w') : Got w [] x (.returned (.tuple #[.slice none 0 0, x])) w' := ⟨none, 0, rfl, src_nil _, fun _ => ⟨rfl, rfl⟩, hb⟩
theorem got_row {w w' : World} {l : List Nat} {x : Value} {g n : Nat} {E : TypeId} (hn : n = l.length) (h0 : 0 < n) (hr : Row w' g E l) (hb : Below w.heap.size w w') : Got w l x (.returned (.tuple #[.slice (some ⟨g, 0, none⟩) n n, x])) w' :=
  ⟨some ⟨g, 0, none⟩, n, by rw [hn], fun _ => ⟨g, 0, rfl, fun i hi => by rw [Nat.zero_add]; exact hr.cell i hi⟩, fun h => by rw [h] at hn; rw [hn] at h0; exact absurd h0 (by decide), hb⟩
theorem read_got (w : World) (bd bs bw : Nat) (S : DS) (n : Int) (h : Dev w bd bs bw S) : Calls Tryd.prog 8 #[.pointer (some ⟨bd, 0, none⟩), .int .i64 n] w (Got w (rdL S n) (errV (amongE S n (8 * S.pages : Nat)))) := by
  rcases among_ne S n ((8 * S.pages : Nat) : Int) with ⟨he, _, hn0, _⟩ | he
  · obtain ⟨k, rfl⟩ := Int.eq_ofNat_of_zero_le hn0
    have e1 : rdL S (k : Int) = rd S k := by unfold rdL; rw [if_pos he]; rfl
    rw [e1, he]
    refine (read_ok w bd bs bw S k he h).mono ?_
    rintro e w' ⟨g, _, rfl, hr, hb⟩
    exact got_row (rd_len h k).symm (by decide) hr hb
  · have h0 : amongE S n ((8 * S.pages : Nat) : Int) ≠ 0 := by rcases he with h | h <;> rw [h] <;> decide
    have e1 : rdL S n = [] := by unfold rdL; rw [if_neg h0]
    rw [e1]
    refine (read_bad w bd bs bw S n _ rfl h0 h).mono ?_
    rintro e w' ⟨rfl, rfl⟩
    exact got_none (Below.refl _ _)
theorem rread_got (w : World) (ps pn pw : Nat) (S : DS) (n : Int) (hw : WfS S) (h : RefV w ps pn pw S) : Calls Tryd.prog 18 #[.agg (rcs ps pn pw S), .int .i64 n] w (Got w (rdL S n) (.int .i64 (amongE S n (8 * S.pages : Nat)))) := by
  rcases among_ne S n ((8 * S.pages : Nat) : Int) with ⟨he, _, hn0, _⟩ | he
  · obtain ⟨k, rfl⟩ := Int.eq_ofNat_of_zero_le hn0
    have e1 : rdL S (k : Int) = rd S k := by unfold rdL; rw [if_pos he]; rfl
    rw [e1, he]
    refine (rread_ok w ps pn pw S k he hw h).mono ?_
    rintro e w' ⟨g, _, rfl, hr, hb⟩
    exact got_row (hw.rd k).symm (by decide) hr hb
  · have h0 : amongE S n ((8 * S.pages : Nat) : Int) ≠ 0 := by rcases he with h | h <;> rw [h] <;> decide
    have e1 : rdL S n = [] := by unfold rdL; rw [if_neg h0]
    rw [e1]
    refine (rread_bad w ps pn pw S n _ rfl h0 hw).mono ?_
    rintro e w' ⟨rfl, hb⟩
    exact got_none hb
theorem readPage_got (w : World) (bd bs bw : Nat) (S : DS) (n : Int) (h : Dev w bd bs bw S) : Calls Tryd.prog 21 #[.pointer (some ⟨bd, 0, none⟩), .int .i64 n] w (Got w (rpL S n) (errV (amongE S n (S.pages : Nat)))) := by
  rcases among_ne S n (S.pages : Int) with ⟨he, _, hn0, _⟩ | he
  · obtain ⟨k, rfl⟩ := Int.eq_ofNat_of_zero_le hn0
    have e1 : rpL S (k : Int) = pgL S k 8 := by unfold rpL; rw [if_pos he]; rfl
    rw [e1, he]
    refine (readPage_ok w bd bs bw S k he h).mono ?_
    rintro e w' ⟨g, _, rfl, hr, hb⟩
    exact got_row rfl (by rw [pgL_len h]; decide) hr hb
  · have h0 : amongE S n (S.pages : Int) ≠ 0 := by rcases he with h | h <;> rw [h] <;> decide
    have e1 : rpL S n = [] := by unfold rpL; rw [if_neg h0]
    rw [e1]
    refine (readPage_bad w bd bs bw S n _ rfl h0 h).mono ?_
    rintro e w' ⟨rfl, rfl⟩
    exact got_none (Below.refl _ _)
theorem rreadPage_got (w : World) (ps pn pw : Nat) (S : DS) (n : Int) (hw : WfS S) (h : RefV w ps pn pw S) : Calls Tryd.prog 22 #[.agg (rcs ps pn pw S), .int .i64 n] w (Got w (rpL S n) (.int .i64 (amongE S n (S.pages : Nat)))) := by
  rcases among_ne S n (S.pages : Int) with ⟨he, _, hn0, _⟩ | he
  · obtain ⟨k, rfl⟩ := Int.eq_ofNat_of_zero_le hn0
    have e1 : rpL S (k : Int) = pgL S k 8 := by unfold rpL; rw [if_pos he]; rfl
    rw [e1, he]
    refine (rreadPage_ok w ps pn pw S k he hw h).mono ?_
    rintro e w' ⟨v, rfl, ho, hb⟩
    obtain ⟨p, c, rfl, hs, _⟩ := own_slice ho
    refine ⟨p, c, rfl, hs, fun e => ?_, hb⟩
    have hl := pgL_lenW hw k 8
    rw [e] at hl; cases hl
  · have h0 : amongE S n (S.pages : Int) ≠ 0 := by rcases he with h | h <;> rw [h] <;> decide
    have e1 : rpL S n = [] := by unfold rpL; rw [if_neg h0]
    rw [e1]
    refine (rreadPage_bad w ps pn pw S n _ rfl h0 hw).mono ?_
    rintro e w' ⟨rfl, hb⟩
    exact got_none hb
end Go.Proofs.YtbkjaifpgknadaaDoor
