/-
  Layer 7's long and sure.
-/
import Derived.Test.YtblebkgobhlonaaDoorKeys3
import Derived.Test.YtblebkgobhlonaaDoorKeys5
import Derived.Test.YtblebkgobhlonaaDoorNum2
namespace Go.Proofs.YtblebkgobhlonaaDoor
open Go Go.RowKit

/-- A row of texts. -/
def StrS (w : World) (g : Nat) (ss : List ByteArray) : Prop := ∀ i, i < ss.length → w.cell? ⟨g, i, none⟩ = some (.string (ss.getD i ByteArray.empty))
def bigS (s : ByteArray) : Bool := decide (300 < s.size)
def longS (ss : List ByteArray) : Bool := ss.any bigS
theorem any_take (ss : List ByteArray) (k : Nat) (h : k < ss.length) (h0 : (ss.take k).any bigS = false) (h1 : bigS (ss.getD k ByteArray.empty) = false) : (ss.take (k + 1)).any bigS = false := by
  rw [List.take_succ_eq_append_getElem h, List.any_append, h0]
  have e : ss.getD k ByteArray.empty = ss[k] := by simp [List.getD, h]
  rw [e] at h1
  simp [h1]
theorem any_at (ss : List ByteArray) (k : Nat) (h : k < ss.length) (h1 : bigS (ss.getD k ByteArray.empty) = true) : longS ss = true := by
  have e : ss.getD k ByteArray.empty = ss[k] := by simp [List.getD, h]
  rw [e] at h1
  exact List.any_eq_true.2 ⟨_, List.getElem_mem h, h1⟩
set_option maxRecDepth 100000 in
theorem long_any (g n c : Nat) (ss : List ByteArray) (hn : ss.length = n) (hn1 : n ≤ 1000) (w : World) (hs : StrS w g ss) : Calls Tryd.prog 6 #[.slice (some ⟨g, 0, none⟩) n c] w fun e w' => e = .returned (.bool (longS ss)) ∧ w = w' := by
  have Hs := Lib.hid (And.intro hs hn)
  clear hs hn
  go_enter Tryd.func6, Tryd.ntmps6
  go_wp2_with fail
  go_loop [3] (fun i => ∃ k : Nat, k ≤ n ∧ i = .int .i64 k ∧ Hid ((ss.take k).any bigS = false)) (fun i => n - (intOf i).toNat)
  case atStart => exact ⟨0, Nat.zero_le _, by first | trivial | rfl, by show _ = _; simp⟩
  case round =>
    obtain ⟨k, hk, rfl, hno⟩ := hrel
    by_cases hkn : k < n
    · have hc := Hs.out.1 k (by rw [Hs.out.2]; exact hkn)
      obtain ⟨S, hS⟩ : ∃ S, ss.getD k ByteArray.empty = S := ⟨_, rfl⟩
      rw [hS] at hc
      have HS := Lib.hid hS
      clear hS
      by_cases hb : 300 < S.size
      · have e := Lib.hid (any_at ss k (by rw [Hs.out.2]; exact hkn) (by rw [HS.out]; unfold bigS; simpa using hb))
        have d1 : decide (300 < (S.size : Int)) = true := by simp; omega
        go_wp2_with fail
        go_ret
        exact ⟨by rw [e.out]; rfl, rfl⟩
      · have e := Lib.hid (any_take ss k (by rw [Hs.out.2]; exact hkn) hno.out (by rw [HS.out]; unfold bigS; simpa using hb))
        have d1 : decide (300 < (S.size : Int)) = false := by simp; omega
        go_wp2_with fail
        go_round
        case rel => exact ⟨k + 1, by omega, by first | trivial | rfl, e⟩
        case measure => simp [intOf]; omega
    · have e : Hid (longS ss = false) := by
        have h := hno.out
        rw [List.take_of_length_le (by rw [Hs.out.2]; omega)] at h
        exact h
      go_wp2_with fail
      go_ret
      exact ⟨by rw [e.out]; rfl, rfl⟩
/-- long of a literal's new row. -/
theorem long_new (w : World) (E : TypeId) (fr : Nat × Nat) (g n : Nat) (arr : Array Value) (ss : List ByteArray) (V : Bool) (hg : g = w.heap.size) (harr : arr = (ss.map Value.string).toArray) (hn : ss.length = n) (hn1 : n ≤ 1000) (hV : longS ss = V) : Calls Tryd.prog 6 #[.slice (some ⟨g, 0, none⟩) n n] (w.alloc (.cells arr E fr)) fun e w' => e = .returned (.bool V) ∧ Below w.heap.size w w' := by
  subst hg harr hV
  refine (long_any w.heap.size n n ss hn hn1 _ (fun i hi => ?_)).mono ?_
  · rw [World.cell?_alloc_mark]
    simp [List.getD, hi]
  · rintro e w' ⟨rfl, rfl⟩
    exact ⟨rfl, (Below.refl _ _).alloc (Nat.le_refl _) _⟩
def sAb : Sp := ⟨⟨#[97, 98]⟩, ⟨#[97, 99]⟩, false⟩
def sA : Sp := ⟨⟨#[97]⟩, ⟨#[98]⟩, false⟩
theorem k_of_ab : ofS ⟨#[97, 98]⟩ = sAb := rfl
theorem k_of_a : ofS ⟨#[97]⟩ = sA := rfl
theorem k_of_ff : ofS ⟨#[255]⟩ = ⟨⟨#[255]⟩, ⟨#[]⟩, true⟩ := rfl
theorem k_has1 : hasS sAb ⟨#[97, 98, 255]⟩ = true := by rw [← k_of_ab, has_of]; decide
theorem k_has2 : hasS sAb ⟨#[97, 99]⟩ = false := by rw [← k_of_ab, has_of]; decide
theorem k_chk1 : chkV ⟨#[]⟩ = .iface 48 (.int .i64 1) := rfl
theorem k_chk2 : chkV ⟨#[97]⟩ = .nilIface := rfl
theorem k_emp : empS ⟨⟨#[]⟩, ⟨#[]⟩, false⟩ = true := by unfold empS; rw [blt_eq]; rfl
theorem k_next : nextS ⟨#[97]⟩ = ⟨#[97, 0]⟩ := by apply bl_inj; unfold nextS; rw [bl_app]; rfl
theorem k_with : withS sAb sA = true := by
  have h := with_of ⟨#[97]⟩ ⟨#[98]⟩
  have e : (⟨#[97]⟩ ++ ⟨#[98]⟩ : ByteArray) = ⟨#[97, 98]⟩ := by apply bl_inj; rw [bl_app]; rfl
  rw [e] at h
  exact h
/-- The answers of Of that are asked for here. -/
theorem of_at (p : ByteArray) (s : Sp) (w : World) (hp : p.size ≤ 1000000) (h : ofS p = s) : Calls Tryd.prog 14 #[.string p] w fun e w' => e = .returned (.agg #[.string s.lo, .string s.hi, .bool s.op]) ∧ Below w.heap.size w w' := by
  subst h; exact of_any p w hp
theorem has_at (lo hi k : ByteArray) (op V : Bool) (w : World) (h : hasS ⟨lo, hi, op⟩ k = V) : Calls Tryd.prog 10 #[.agg #[.string lo, .string hi, .bool op], .string k] w fun e w' => e = .returned (.bool V) ∧ Below w.heap.size w w' := by
  subst h; exact has_any ⟨lo, hi, op⟩ k w
theorem chk_at (k : ByteArray) (V : Value) (w : World) (h : chkV k = V) : Calls Tryd.prog 8 #[.string k] w fun e w' => e = .returned V ∧ w = w' := by
  subst h; exact check_any k w
theorem emp_at (lo hi : ByteArray) (op V : Bool) (w : World) (h : empS ⟨lo, hi, op⟩ = V) : Calls Tryd.prog 12 #[.agg #[.string lo, .string hi, .bool op]] w fun e w' => e = .returned (.bool V) ∧ Below w.heap.size w w' := by
  subst h; exact emp_any ⟨lo, hi, op⟩ w
theorem next_at (k N : ByteArray) (w : World) (hk : k.size ≤ 1000000) (h : nextS k = N) : Calls Tryd.prog 20 #[.string k] w fun e w' => e = .returned (.string N) ∧ w = w' := by
  subst h; exact next_any k w hk
theorem with_at (a b : Sp) (V : Bool) (w : World) (h : withS a b = V) : Calls Tryd.prog 18 #[.agg #[.string a.lo, .string a.hi, .bool a.op], .agg #[.string b.lo, .string b.hi, .bool b.op]] w fun e w' => e = .returned (.bool V) ∧ Below w.heap.size w w' := by
  subst h; exact with_any a b w
theorem field_op (x y : ByteArray) (z : Bool) (w : World) : (Instr.field SPT (.agg #[.string x, .string y, .bool z]) 2).run Tryd.prog w = .ok (.bool z) w := by
  simp only [Instr.field, Sem.run_bind, run_underlying Tryd.underlying26, Result.andThen_ok]
  go_simp
  simp [asAgg]
set_option maxRecDepth 100000 in
set_option maxHeartbeats 1000000 in
theorem sure_any (w : World) (hg : Hg w) : Calls Tryd.prog 7 #[] w fun e w' => e = .returned (.bool true) ∧ Below w.heap.size w w' := by
  have HG := Lib.hid hg
  clear hg
  have fo := field_op
  go_enter Tryd.func7, Tryd.ntmps7
  go_wp2_with fail
  refine (of_at _ sAb _ (by decide) k_of_ab).mono ?_
  rintro e w1 ⟨rfl, hb1⟩
  unfold sAb
  dsimp only
  have hs := SpIn.new w1 SPT sAb
  have Hb1 := Lib.hid (hb1.trans (((Below.refl w1.heap.size w1).alloc (Nat.le_refl _) (.cells #[.string sAb.lo, .string sAb.hi, .bool sAb.op] SPT)).mono hb1.size))
  unfold sAb at hs Hb1
  dsimp only at hs Hb1
  have Hs := Lib.hid hs
  clear hs hb1
  go_wp2_with fail
  refine wp_region_gr [(0, true), (1, true), (2, true), (3, true), (4, false), (5, true), (6, true), (7, true), (8, true), (9, false), (10, true), (11, true), (12, true), (13, false), (14, true), (15, true), (16, true), (17, false), (18, false), (19, true), (20, true), (21, true), (22, false), (23, true), (24, true), (25, true), (26, true), (27, false), (28, true), (29, true), (30, false), (31, true), (32, true), (33, true), (34, true), (35, false), (36, false), (37, true), (38, true)] (by kernel_rfl) (by kernel_rfl) (by kernel_rfl) (by kernel_rfl) (fun _ _ _ _ _ h => h) ?_
  obtain ⟨w2, hw2⟩ : ∃ w2, w2 = (w1.alloc (.cells #[.string ⟨#[97, 98]⟩, .string ⟨#[97, 99]⟩, .bool false] SPT)).drew := ⟨_, rfl⟩
  have Hb2 : Hid (Below w.heap.size w w2) := by rw [hw2]; exact Hb1.out.drew
  have Hs2 : Hid (SpIn w2 w1.heap.size SPT ⟨⟨#[97, 98]⟩, ⟨#[97, 99]⟩, false⟩) := by rw [hw2]; exact Hs.out
  rw [← hw2]
  clear hw2 Hb1 Hs
  generalize w1.heap.size = g at *
  have c0 : ∀ w', Ext w2 w' → w'.cell? ⟨g, 0, none⟩ = some (.string ⟨#[97, 98]⟩) := fun w' h => (Hs2.out.ext h).c0
  have c1 : ∀ w', Ext w2 w' → w'.cell? ⟨g, 1, none⟩ = some (.string ⟨#[97, 99]⟩) := fun w' h => (Hs2.out.ext h).c1
  have c2 : ∀ w', Ext w2 w' → w'.cell? ⟨g, 2, none⟩ = some (.bool false) := fun w' h => (Hs2.out.ext h).c2
  iterate 4 (refine wpGr_read (o := ⟨_, _, _, _, _, _⟩) (v := ?_) rfl (by rfl) ?_ ?_; rotate_left; (intro w' hw'; go_simp; with_reducible rfl); simp only [Act.put, List.setIfInBounds_toArray, List.set_cons_zero, List.set_cons_succ])
  refine wpGr_call (o := ⟨_, _, _, _, _, _⟩) rfl (by rfl) (fun K hK => ?_)
  go_simp
  refine (of_at _ ⟨⟨#[255]⟩, ⟨#[]⟩, true⟩ _ (by decide) k_of_ff).mono ?_
  rintro e w3 ⟨rfl, hb⟩
  refine hK _ _ hb ?_
  clear hK K
  have Hb3 := Lib.hid (Hb2.out.trans (hb.mono Hb2.out.size))
  have Hs3 := Lib.hid (Hs2.out.ext hb)
  clear hb c0 c1 c2 Hb2 Hs2
  have c0 : ∀ w', Ext w3 w' → w'.cell? ⟨g, 0, none⟩ = some (.string ⟨#[97, 98]⟩) := fun w' h => (Hs3.out.ext h).c0
  have c1 : ∀ w', Ext w3 w' → w'.cell? ⟨g, 1, none⟩ = some (.string ⟨#[97, 99]⟩) := fun w' h => (Hs3.out.ext h).c1
  have c2 : ∀ w', Ext w3 w' → w'.cell? ⟨g, 2, none⟩ = some (.bool false) := fun w' h => (Hs3.out.ext h).c2
  iterate 4 (refine wpGr_read (o := ⟨_, _, _, _, _, _⟩) (v := ?_) rfl (by rfl) ?_ ?_; rotate_left; (intro w' hw'; go_simp; with_reducible rfl); simp only [Act.put, List.setIfInBounds_toArray, List.set_cons_zero, List.set_cons_succ])
  refine wpGr_call (o := ⟨_, _, _, _, _, _⟩) rfl (by rfl) (fun K hK => ?_)
  go_simp
  refine (has_at _ _ _ _ true _ k_has1).mono ?_
  rintro e w4 ⟨rfl, hb⟩
  refine hK _ _ hb ?_
  clear hK K
  have Hb4 := Lib.hid (Hb3.out.trans (hb.mono Hb3.out.size))
  have Hs4 := Lib.hid (Hs3.out.ext hb)
  clear hb c0 c1 c2 Hb3 Hs3
  have c0 : ∀ w', Ext w4 w' → w'.cell? ⟨g, 0, none⟩ = some (.string ⟨#[97, 98]⟩) := fun w' h => (Hs4.out.ext h).c0
  have c1 : ∀ w', Ext w4 w' → w'.cell? ⟨g, 1, none⟩ = some (.string ⟨#[97, 99]⟩) := fun w' h => (Hs4.out.ext h).c1
  have c2 : ∀ w', Ext w4 w' → w'.cell? ⟨g, 2, none⟩ = some (.bool false) := fun w' h => (Hs4.out.ext h).c2
  iterate 3 (refine wpGr_read (o := ⟨_, _, _, _, _, _⟩) (v := ?_) rfl (by rfl) ?_ ?_; rotate_left; (intro w' hw'; go_simp; with_reducible rfl); simp only [Act.put, List.setIfInBounds_toArray, List.set_cons_zero, List.set_cons_succ])
  refine wpGr_call (o := ⟨_, _, _, _, _, _⟩) rfl (by rfl) (fun K hK => ?_)
  go_simp
  refine (has_at _ _ _ _ false _ k_has2).mono ?_
  rintro e w5 ⟨rfl, hb⟩
  refine hK _ _ hb ?_
  clear hK K
  have Hb5 := Lib.hid (Hb4.out.trans (hb.mono Hb4.out.size))
  have Hs5 := Lib.hid (Hs4.out.ext hb)
  clear hb c0 c1 c2 Hb4 Hs4
  have c0 : ∀ w', Ext w5 w' → w'.cell? ⟨g, 0, none⟩ = some (.string ⟨#[97, 98]⟩) := fun w' h => (Hs5.out.ext h).c0
  have c1 : ∀ w', Ext w5 w' → w'.cell? ⟨g, 1, none⟩ = some (.string ⟨#[97, 99]⟩) := fun w' h => (Hs5.out.ext h).c1
  have c2 : ∀ w', Ext w5 w' → w'.cell? ⟨g, 2, none⟩ = some (.bool false) := fun w' h => (Hs5.out.ext h).c2
  iterate 3 (refine wpGr_read (o := ⟨_, _, _, _, _, _⟩) (v := ?_) rfl (by rfl) ?_ ?_; rotate_left; (intro w' hw'; go_simp; with_reducible rfl); simp only [Act.put, List.setIfInBounds_toArray, List.set_cons_zero, List.set_cons_succ])
  refine wpGr_call (o := ⟨_, _, _, _, _, _⟩) rfl (by rfl) (fun K hK => ?_)
  go_simp
  refine (chk_at _ _ _ k_chk1).mono ?_
  rintro e w' ⟨rfl, rfl⟩
  refine hK _ _ (Ext.refl _) ?_
  clear hK K
  refine wpGr_call (o := ⟨_, _, _, _, _, _⟩) rfl (by rfl) (fun K hK => ?_)
  go_simp
  refine (num_err 1 _ (HG.out.below Hb5.out)).mono ?_
  rintro e w6 ⟨rfl, hb⟩
  refine hK _ _ hb ?_
  clear hK K
  have Hb6 := Lib.hid (Hb5.out.trans (hb.mono Hb5.out.size))
  have Hs6 := Lib.hid (Hs5.out.ext hb)
  clear hb c0 c1 c2 Hb5 Hs5
  have c0 : ∀ w', Ext w6 w' → w'.cell? ⟨g, 0, none⟩ = some (.string ⟨#[97, 98]⟩) := fun w' h => (Hs6.out.ext h).c0
  have c1 : ∀ w', Ext w6 w' → w'.cell? ⟨g, 1, none⟩ = some (.string ⟨#[97, 99]⟩) := fun w' h => (Hs6.out.ext h).c1
  have c2 : ∀ w', Ext w6 w' → w'.cell? ⟨g, 2, none⟩ = some (.bool false) := fun w' h => (Hs6.out.ext h).c2
  iterate 3 (refine wpGr_read (o := ⟨_, _, _, _, _, _⟩) (v := ?_) rfl (by rfl) ?_ ?_; rotate_left; (intro w' hw'; go_simp; with_reducible rfl); simp only [Act.put, List.setIfInBounds_toArray, List.set_cons_zero, List.set_cons_succ])
  refine wpGr_call (o := ⟨_, _, _, _, _, _⟩) rfl (by rfl) (fun K hK => ?_)
  go_simp
  refine (chk_at _ _ _ k_chk2).mono ?_
  rintro e w' ⟨rfl, rfl⟩
  refine hK _ _ (Ext.refl _) ?_
  clear hK K
  iterate 4 (refine wpGr_read (o := ⟨_, _, _, _, _, _⟩) (v := ?_) rfl (by rfl) ?_ ?_; rotate_left; (intro w' hw'; go_simp; with_reducible rfl); simp only [Act.put, List.setIfInBounds_toArray, List.set_cons_zero, List.set_cons_succ])
  refine wpGr_call (o := ⟨_, _, _, _, _, _⟩) rfl (by rfl) (fun K hK => ?_)
  go_simp
  refine (emp_at _ _ _ true _ k_emp).mono ?_
  rintro e w7 ⟨rfl, hb⟩
  refine hK _ _ hb ?_
  clear hK K
  have Hb7 := Lib.hid (Hb6.out.trans (hb.mono Hb6.out.size))
  have Hs7 := Lib.hid (Hs6.out.ext hb)
  clear hb c0 c1 c2 Hb6 Hs6
  have c0 : ∀ w', Ext w7 w' → w'.cell? ⟨g, 0, none⟩ = some (.string ⟨#[97, 98]⟩) := fun w' h => (Hs7.out.ext h).c0
  have c1 : ∀ w', Ext w7 w' → w'.cell? ⟨g, 1, none⟩ = some (.string ⟨#[97, 99]⟩) := fun w' h => (Hs7.out.ext h).c1
  have c2 : ∀ w', Ext w7 w' → w'.cell? ⟨g, 2, none⟩ = some (.bool false) := fun w' h => (Hs7.out.ext h).c2
  iterate 2 (refine wpGr_read (o := ⟨_, _, _, _, _, _⟩) (v := ?_) rfl (by rfl) ?_ ?_; rotate_left; (intro w' hw'; go_simp; with_reducible rfl); simp only [Act.put, List.setIfInBounds_toArray, List.set_cons_zero, List.set_cons_succ])
  refine wpGr_call (o := ⟨_, _, _, _, _, _⟩) rfl (by rfl) (fun K hK => ?_)
  go_simp
  refine (next_at _ _ _ (by decide) k_next).mono ?_
  rintro e w' ⟨rfl, rfl⟩
  refine hK _ _ (Ext.refl _) ?_
  clear hK K
  iterate 4 (refine wpGr_read (o := ⟨_, _, _, _, _, _⟩) (v := ?_) rfl (by rfl) ?_ ?_; rotate_left; (intro w' hw'; go_simp; with_reducible rfl); simp only [Act.put, List.setIfInBounds_toArray, List.set_cons_zero, List.set_cons_succ])
  refine wpGr_call (o := ⟨_, _, _, _, _, _⟩) rfl (by rfl) (fun K hK => ?_)
  go_simp
  refine (of_at _ sA _ (by decide) k_of_a).mono ?_
  rintro e w8 ⟨rfl, hb⟩
  refine hK _ _ hb ?_
  clear hK K
  have Hb8 := Lib.hid (Hb7.out.trans (hb.mono Hb7.out.size))
  have Hs8 := Lib.hid (Hs7.out.ext hb)
  clear hb c0 c1 c2 Hb7 Hs7
  have c0 : ∀ w', Ext w8 w' → w'.cell? ⟨g, 0, none⟩ = some (.string ⟨#[97, 98]⟩) := fun w' h => (Hs8.out.ext h).c0
  have c1 : ∀ w', Ext w8 w' → w'.cell? ⟨g, 1, none⟩ = some (.string ⟨#[97, 99]⟩) := fun w' h => (Hs8.out.ext h).c1
  have c2 : ∀ w', Ext w8 w' → w'.cell? ⟨g, 2, none⟩ = some (.bool false) := fun w' h => (Hs8.out.ext h).c2
  unfold sA
  dsimp only
  refine wpGr_call (o := ⟨_, _, _, _, _, _⟩) rfl (by rfl) (fun K hK => ?_)
  go_simp
  refine (with_at sAb sA true _ k_with).mono ?_
  rintro e w9 ⟨rfl, hb⟩
  refine hK _ _ hb ?_
  clear hK K
  have Hb9 := Lib.hid (Hb8.out.trans (hb.mono Hb8.out.size))
  have Hs9 := Lib.hid (Hs8.out.ext hb)
  clear hb c0 c1 c2 Hb8 Hs8
  have c0 : ∀ w', Ext w9 w' → w'.cell? ⟨g, 0, none⟩ = some (.string ⟨#[97, 98]⟩) := fun w' h => (Hs9.out.ext h).c0
  have c1 : ∀ w', Ext w9 w' → w'.cell? ⟨g, 1, none⟩ = some (.string ⟨#[97, 99]⟩) := fun w' h => (Hs9.out.ext h).c1
  have c2 : ∀ w', Ext w9 w' → w'.cell? ⟨g, 2, none⟩ = some (.bool false) := fun w' h => (Hs9.out.ext h).c2
  iterate 2 (refine wpGr_read (o := ⟨_, _, _, _, _, _⟩) (v := ?_) rfl (by rfl) ?_ ?_; rotate_left; (intro w' hw'; go_simp; with_reducible rfl); simp only [Act.put, List.setIfInBounds_toArray, List.set_cons_zero, List.set_cons_succ])
  refine wpGr_done ?_
  go_wp2_with fail
  go_ret
  exact ⟨rfl, Hb9.out⟩
end Go.Proofs.YtblebkgobhlonaaDoor
