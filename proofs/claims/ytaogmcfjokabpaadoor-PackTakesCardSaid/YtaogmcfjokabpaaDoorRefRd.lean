/-
  The document's reader, a value: Done, Byte.
-/
import Derived.Test.YtaogmcfjokabpaaDoorRd3
import Derived.Test.YtaogmcfjokabpaaDoorGt
import Derived.Test.YtaogmcfjokabpaaDoorVarRef
import Derived.Laws.ResultCell
namespace Go.Proofs.YtaogmcfjokabpaaDoor
open Go Go.RowKit

abbrev RFT : TypeId := 40
/-- The document's reader. -/
structure Rf (w : World) (x : Value) (S : RS) : Prop where
  ex : ∃ v, x = .agg #[v, .bool S.wr] ∧ Sl w v S.l
  b8 : B8 S.l
  len : S.l.length ≤ 65536
  inv : S.wr = true → S.l = []
theorem Rf.below {w w' : World} {B : Nat} {x : Value} {S : RS} (h : Rf w x S) (hb : Below B w w') (hB : w.heap.size ≤ B) : Rf w' x S := by
  obtain ⟨v, h1, h2⟩ := h.ex
  exact ⟨⟨v, h1, h2.below hb hB⟩, h.b8, h.len, h.inv⟩
theorem Rf.turn {w w' : World} {b : Nat} {x : Value} {S : RS} (h : Rf w x S) (t : Turn (fun i => i = b) w w') (hn : NoByte w b) : Rf w' x S := by
  obtain ⟨v, h1, h2⟩ := h.ex
  exact ⟨⟨v, h1, h2.turn t hn⟩, h.b8, h.len, h.inv⟩
theorem Rf.wrong (w : World) : Rf w (.agg #[.slice none 0 0, .bool true]) ⟨[], true⟩ := ⟨⟨_, rfl, Sl.none _⟩, B8.nil, by simp, fun _ => rfl⟩
/-- A slice that reads as these bytes, wherever an empty one lies. -/
def Sw (w : World) (v : Value) (l : List Nat) : Prop := ∃ a c, v = .slice a l.length c ∧ Src w a l ∧ (a = none → c = 0) ∧ l.length ≤ c ∧ c ≤ maxLen
theorem Sl.sw {w : World} {v : Value} {l : List Nat} (h : Sl w v l) : Sw w v l := h.arg
theorem Sw.arg {w : World} {v : Value} {l : List Nat} (h : Sw w v l) : ∃ a c, v = .slice a l.length c ∧ Src w a l ∧ (a = none → c = 0) ∧ l.length ≤ c ∧ c ≤ maxLen := h
theorem Sw.sl {w : World} {v : Value} {l : List Nat} (h : Sw w v l) (h0 : l ≠ []) : Sl w v l := by
  obtain ⟨a, c, rfl, hs, _, h1, h2⟩ := h
  obtain ⟨g, o, rfl, hc⟩ := hs (List.length_pos_iff.2 h0)
  exact .inr ⟨g, o, c, rfl, hc, h1, h2⟩
theorem Sw.below {w w' : World} {v : Value} {l : List Nat} {B : Nat} (h : Sw w v l) (hb : Below B w w') (hB : w.heap.size ≤ B) : Sw w' v l := by
  obtain ⟨a, c, rfl, hs, hz, h1, h2⟩ := h
  exact ⟨a, c, rfl, hs.below hb hB, hz, h1, h2⟩
theorem Sw.turn {w w' : World} {b : Nat} {v : Value} {l : List Nat} (h : Sw w v l) (t : Turn (fun i => i = b) w w') (hn : NoByte w b) : Sw w' v l := by
  obtain ⟨a, c, rfl, hs, hz, h1, h2⟩ := h
  exact ⟨a, c, rfl, hs.turn t hn, hz, h1, h2⟩
/-- The document's reader, as an argument. -/
structure RfW (w : World) (x : Value) (S : RS) : Prop where
  ex : ∃ v, x = .agg #[v, .bool S.wr] ∧ Sw w v S.l
  b8 : B8 S.l
  len : S.l.length ≤ 65536
  inv : S.wr = true → S.l = []
theorem Rf.weak {w : World} {x : Value} {S : RS} (h : Rf w x S) : RfW w x S := by
  obtain ⟨v, h1, h2⟩ := h.ex
  exact ⟨⟨v, h1, h2.sw⟩, h.b8, h.len, h.inv⟩
theorem RfW.below {w w' : World} {B : Nat} {x : Value} {S : RS} (h : RfW w x S) (hb : Below B w w') (hB : w.heap.size ≤ B) : RfW w' x S := by
  obtain ⟨v, h1, h2⟩ := h.ex
  exact ⟨⟨v, h1, h2.below hb hB⟩, h.b8, h.len, h.inv⟩
theorem refDone_any (w : World) (x : Value) (S : RS) (h : RfW w x S) :
    Calls Tryd.prog 22 #[x] w fun e w' => e = .returned (.bool (okS S)) ∧ Below w.heap.size w w' := by
  obtain ⟨v, rfl, h2⟩ := h.ex
  have hl := h.len
  obtain ⟨a, c, rfl, _⟩ := h2.arg
  obtain ⟨l, wr⟩ := S
  dsimp only at *
  clear h h2
  have hb : Hid (Below w.heap.size w (w.alloc (.cells #[.slice a l.length c, .bool wr] RFT))) := (Below.refl _ _).alloc (Nat.le_refl _) _
  cases wr with
  | true =>
    have e : Hid (okS ⟨l, true⟩ = false) := by show _ = _; unfold okS; simp
    generalize l.length = n at *
    go_enter Tryd.func22, Tryd.ntmps22
    go_wp2
    go_ret
    exact ⟨by rw [e.out]; rfl, hb.out⟩
  | false =>
    have e : Hid (okS ⟨l, false⟩ = decide (l.length = 0)) := by show _ = _; unfold okS; cases l <;> simp
    generalize l.length = n at *
    have d1 : ((n : Int) == 0) = decide (n = 0) := by rw [Bool.eq_iff_iff]; simp
    generalize decide (n = 0) = D at *
    go_enter Tryd.func22, Tryd.ntmps22
    go_wp2
    go_ret
    exact ⟨by rw [e.out]; rfl, hb.out⟩
theorem two_new (w : World) (T : TypeId) (v1 v2 : Value) (x1 x2 : Bool) : Below w.heap.size w ((w.alloc (.cells #[v1, .bool x1] T)).alloc (.cells #[v2, .bool x2] T)).drew ∧
    SB ((w.alloc (.cells #[v1, .bool x1] T)).alloc (.cells #[v2, .bool x2] T)).drew w.heap.size T v1 x1 ∧ SB ((w.alloc (.cells #[v1, .bool x1] T)).alloc (.cells #[v2, .bool x2] T)).drew (w.heap.size + 1) T v2 x2 := by
  have hsz : (w.alloc (.cells #[v1, .bool x1] T)).heap.size = w.heap.size + 1 := by simp
  refine ⟨(((Below.refl w.heap.size w).alloc (Nat.le_refl _) (.cells #[v1, .bool x1] T)).alloc (by omega) _).drew, ?_, ?_⟩
  · have h1 := SB.new w T v1 x1
    have hb : Below (w.heap.size + 1) (w.alloc (.cells #[v1, .bool x1] T)) ((w.alloc (.cells #[v1, .bool x1] T)).alloc (.cells #[v2, .bool x2] T)) := (Below.refl _ _).alloc (by omega) _
    have h3 := h1.below hb (by omega)
    exact h3
  · have h2 := SB.new (w.alloc (.cells #[v1, .bool x1] T)) T v2 x2
    rw [hsz] at h2
    exact h2
set_option maxRecDepth 100000 in
theorem refByte_any (w : World) (x : Value) (S : RS) (h : RfW w x S) :
    Calls Tryd.prog 19 #[x] w fun e w' => ∃ x', e = .returned (.tuple #[x', .int .u8 ((byteS S).1 : Nat)]) ∧ Rf w' x' (byteS S).2 ∧ Below w.heap.size w w' := by
  obtain ⟨v, rfl, h2⟩ := h.ex
  have hl := h.len
  by_cases h0 : S.l = []
  · rw [byteS_nil h0]
    obtain ⟨a, c, rfl, _⟩ := h2.arg
    rw [h0, show ([] : List Nat).length = 0 from rfl]
    generalize S.wr = wr at *
    clear h h2 h0 hl
    have hb : Hid (Below w.heap.size w ((w.alloc (.cells #[.slice a 0 c, .bool wr] RFT)).alloc (.cells #[.slice none 0 0, .bool true] RFT))) :=
      ((Below.refl _ _).alloc (Nat.le_refl _) _).alloc (by simp) _
    go_enter Tryd.func19, Tryd.ntmps19
    go_wp2
    refine bodyPost_ret (v := .tuple #[.agg #[.slice none 0 0, .bool true], .int .u8 0]) (by rw [results_cell_tmp rfl]; go_simp) rfl ⟨_, rfl, Rf.wrong _, hb.out⟩
  · rw [byteS_cons h0]
    have hp : 0 < S.l.length := List.length_pos_iff.2 h0
    have hwr : S.wr = false := by
      cases hw : S.wr with
      | false => rfl
      | true => exact absurd (h.inv hw) h0
    rcases h2.sl h0 with ⟨_, hn⟩ | ⟨g, o, c, rfl, hc, hnc, hcm⟩
    · exact absurd hn h0
    have hc0 := hc 0 hp
    rw [Nat.add_zero] at hc0
    have hn : ∃ n, n = S.l.length := ⟨_, rfl⟩
    obtain ⟨n, hn⟩ := hn
    rw [← hn] at hl hp hnc ⊢
    have Hn := Lib.hid hn.symm
    rw [hwr]
    obtain ⟨X, hX⟩ : ∃ X, X = S.l.getD 0 0 := ⟨_, rfl⟩
    rw [← hX] at hc0 ⊢
    have Hc := Lib.hid hc
    have Hst := Lib.hid (And.intro (h.b8.drop 1) hcm)
    have hcm2 : c ≤ 9223372036854775807 := by unfold maxLen at hcm; omega
    have Hw := Lib.hid (two_new w RFT (.slice (some ⟨g, o, none⟩) n c) (.slice none 0 0) false false)
    have hglt := hc.lt (by rw [Hn.out]; exact hp)
    clear h h2 hX hn hc h0
    go_enter Tryd.func19, Tryd.ntmps19
    go_wp2_with fail
    refine wp_region_gt (F := fun i => i = w.heap.size + 1) [(0, true), (1, true), (2, true), (3, true), (4, true), (5, true), (6, true), (7, true), (8, false), (9, true)] (by kernel_rfl) (by kernel_rfl) (by kernel_rfl) (by kernel_rfl) (fun _ _ _ _ _ h => h) ?_
    obtain ⟨w3, hw3⟩ : ∃ w3, w3 = ((w.alloc (.cells #[.slice (some ⟨g, o, none⟩) n c, .bool false] RFT)).alloc (.cells #[.slice none 0 0, .bool false] RFT)).drew := ⟨_, rfl⟩
    rw [← hw3] at Hw ⊢
    clear hw3
    obtain ⟨hbw, s1, s2⟩ := Hw.out
    have c0 : ∀ w', Turn (fun i => i = w.heap.size + 1) w3 w' → w'.cell? ⟨w.heap.size, 0, none⟩ = some (.slice (some ⟨g, o, none⟩) n c) := fun w' t => (s1.turn t (by omega)).c0
    have c8 : ∀ w', Turn (fun i => i = w.heap.size + 1) w3 w' → w'.cell? ⟨g, o, none⟩ = some (.int .u8 X) := fun w' t => by
      rw [t.cell (p := ⟨g, o, none⟩) (Nat.lt_of_lt_of_le hglt hbw.size) (by show ¬ g = _; omega), hbw.cell (p := ⟨g, o, none⟩) hglt]; exact hc0
    have y1 : (1 : Int) ≤ n := by omega
    have y2 : (0 : Int) < n := by omega
    have y3 : (n : Int) ≤ c := by omega
    have y5 : (1 : Int) ≤ c := by omega
    have q0 := s2.c0
    have q1 := s2.c1
    have f0 := s2.fz 0
    have f1 := s2.fz 1
    have hset : ∀ v : Value, Below w.heap.size w ((w3.setCell ⟨w.heap.size + 1, 0, none⟩ v).setCell ⟨w.heap.size + 1, 1, none⟩ (.bool false)) := fun v =>
      Below.setCell (p := ⟨w.heap.size + 1, 1, none⟩) (Below.setCell (p := ⟨w.heap.size + 1, 0, none⟩) hbw (by show w.heap.size ≤ w.heap.size + 1; omega) v) (by show w.heap.size ≤ w.heap.size + 1; omega) _
    have Hset := Lib.hid hset
    clear hset s1 s2 hbw
    rcases Nat.lt_or_ge 1 c with hc1 | hc1
    · have y4 : ¬ (c = 1) := by omega
      have hsl := Lib.hid (sl_drop Hc.out Hn.out (show 1 ≤ n by omega) hnc hcm)
      clear hcm
      iterate 8 (refine wpGt_read (o := ⟨_, _, _, _, _, _⟩) (v := ?_) rfl (by rfl) ?_ ?_; rotate_left; (intro w' hw'; go_simp; with_reducible rfl); simp only [Act.put, List.setIfInBounds_toArray, List.set_cons_zero, List.set_cons_succ])
      refine wpGt_call (o := ⟨_, _, _, _, _, _⟩) rfl (by rfl) (fun K hK => ?_)
      go_simp
      refine hK _ _ (turn_set2 _ _ _ _) ?_
      clear hK K c0 c8
      iterate 1 (refine wpGt_read (o := ⟨_, _, _, _, _, _⟩) (v := ?_) rfl (by rfl) ?_ ?_; rotate_left; (intro w' hw'; go_simp; with_reducible rfl); simp only [Act.put, List.setIfInBounds_toArray, List.set_cons_zero, List.set_cons_succ])
      refine wpGt_done ?_
      have hb := Hset.out (.slice (some ⟨g, o + 1, none⟩) (n - 1) (c - 1))
      have hrf : Hid (Rf ((w3.setCell ⟨w.heap.size + 1, 0, none⟩ (.slice (some ⟨g, o + 1, none⟩) (n - 1) (c - 1))).setCell ⟨w.heap.size + 1, 1, none⟩ (.bool false)) (.agg #[.slice (some ⟨g, o + 1, none⟩) (n - 1) (c - 1), .bool false]) ⟨S.l.drop 1, false⟩) :=
        ⟨⟨_, rfl, hsl.out.below hb (Nat.le_refl _)⟩, Hst.out.1, by show (S.l.drop 1).length ≤ _; rw [List.length_drop, Hn.out]; omega, fun h => by cases h⟩
      have Hb := Lib.hid hb
      clear hb
      go_wp2_with fail
      refine bodyPost_ret (v := .tuple #[.agg #[.slice (some ⟨g, o + 1, none⟩) (n - 1) (c - 1), .bool false], .int .u8 X]) (by rw [results_cell_tmp rfl]; go_simp) rfl ⟨_, rfl, hrf.out, Hb.out⟩
    · obtain rfl : c = 1 := by omega
      obtain rfl : n = 1 := by omega
      have hsl := Lib.hid (sl_end (w := w) (g := g) (o := o) Hn.out (Nat.le_refl _))
      clear hcm
      iterate 8 (refine wpGt_read (o := ⟨_, _, _, _, _, _⟩) (v := ?_) rfl (by rfl) ?_ ?_; rotate_left; (intro w' hw'; go_simp; with_reducible rfl); simp only [Act.put, List.setIfInBounds_toArray, List.set_cons_zero, List.set_cons_succ])
      refine wpGt_call (o := ⟨_, _, _, _, _, _⟩) rfl (by rfl) (fun K hK => ?_)
      go_simp
      refine hK _ _ (turn_set2 _ _ _ _) ?_
      clear hK K c0 c8
      iterate 1 (refine wpGt_read (o := ⟨_, _, _, _, _, _⟩) (v := ?_) rfl (by rfl) ?_ ?_; rotate_left; (intro w' hw'; go_simp; with_reducible rfl); simp only [Act.put, List.setIfInBounds_toArray, List.set_cons_zero, List.set_cons_succ])
      refine wpGt_done ?_
      have hb := Hset.out (.slice (some ⟨g, o, none⟩) 0 0)
      have hrf : Hid (Rf ((w3.setCell ⟨w.heap.size + 1, 0, none⟩ (.slice (some ⟨g, o, none⟩) 0 0)).setCell ⟨w.heap.size + 1, 1, none⟩ (.bool false)) (.agg #[.slice (some ⟨g, o, none⟩) 0 0, .bool false]) ⟨S.l.drop 1, false⟩) :=
        ⟨⟨_, rfl, hsl.out.below hb (Nat.le_refl _)⟩, Hst.out.1, by show (S.l.drop 1).length ≤ _; rw [List.length_drop, Hn.out]; omega, fun h => by cases h⟩
      have Hb := Lib.hid hb
      clear hb
      go_wp2_with fail
      refine bodyPost_ret (v := .tuple #[.agg #[.slice (some ⟨g, o, none⟩) 0 0, .bool false], .int .u8 X]) (by rw [results_cell_tmp rfl]; go_simp) rfl ⟨_, rfl, hrf.out, Hb.out⟩
end Go.Proofs.YtaogmcfjokabpaaDoor
