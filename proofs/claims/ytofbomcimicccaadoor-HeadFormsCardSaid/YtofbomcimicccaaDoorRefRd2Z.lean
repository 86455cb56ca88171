/-
  The document's reader: Num.
-/
import Derived.Test.YtofbomcimicccaaDoorRefRdZ
namespace Go.Proofs.YtofbomcimicccaaDoor
open Go Go.RowKit

set_option maxRecDepth 100000 in
theorem refNum_any (w : World) (x : Value) (S : RS) (h : RfW w x S) (m : Nat) :
    Calls Tryd.prog 29 #[x, .int .u64 m] w fun e w' => ∃ x', e = .returned (.tuple #[x', .int .u64 ((numS S m).1 : Nat)]) ∧ Rf w' x' (numS S m).2 ∧ Below w.heap.size w w' := by
  obtain ⟨v, rfl, h2⟩ := h.ex
  have hl := h.len
  obtain ⟨a, c, rfl, hsrc, _⟩ := h2.arg
  have hbz : ∀ u : Value, ∀ y : Bool, Below w.heap.size w ((w.alloc (.cells #[.slice a S.l.length c, .bool S.wr] RFT)).alloc (.cells #[u, .bool y] RFT)) := fun u y => by
    have h0 : w.heap.size ≤ (w.alloc (.cells #[.slice a S.l.length c, .bool S.wr] RFT)).heap.size := by simp
    exact ((Below.refl w.heap.size w).alloc (Nat.le_refl _) _).alloc h0 _
  have hget := refGet_any a c S.l ((w.alloc (.cells #[.slice a S.l.length c, .bool S.wr] RFT)).alloc (.cells #[.slice none 0 0, .bool false] RFT)) h.b8 (by omega) (hsrc.below (hbz _ _) (Nat.le_refl _))
  have hlt := gt_val_lt S.l
  have hgl := gt_len S.l
  have hmiss : ¬ ((gt S.l).2.2 = 0 ∧ (gt S.l).1 ≤ m) → numS S m = (0, ⟨[], true⟩) := numS_miss
  have hhit : (gt S.l).2.2 = 0 → (gt S.l).1 ≤ m → numS S m = ((gt S.l).1, ⟨S.l.drop (gt S.l).2.1, false⟩) := numS_hit
  have hgv : refV S.l = .tuple #[.int .u64 ((gt S.l).1 : Nat), .int .i64 ((gt S.l).2.1 : Nat), .int .i64 ((gt S.l).2.2 : Nat)] := rfl
  have hger := gt_err_le S.l
  rw [hgv] at hget
  have Hb := Lib.hid hbz
  have Hget := Lib.hid hget
  have Hst := Lib.hid (And.intro h.b8 h2)
  obtain ⟨n, hn⟩ : ∃ n, n = S.l.length := ⟨_, rfl⟩
  have Hn := Lib.hid hn.symm
  obtain ⟨V, hV⟩ : ∃ V, V = (gt S.l).1 := ⟨_, rfl⟩
  obtain ⟨N, hN⟩ : ∃ N, N = (gt S.l).2.1 := ⟨_, rfl⟩
  obtain ⟨F, hF⟩ : ∃ F, F = (gt S.l).2.2 := ⟨_, rfl⟩
  rw [← hV] at hlt hmiss hhit Hget
  rw [← hN] at hgl hhit Hget
  rw [← hF] at hgl hmiss hhit Hget hger
  rw [← hn] at Hget hgl hl Hb ⊢
  generalize S.wr = wr at *
  clear h h2 hsrc hbz hget hgv hn hV hN hF
  by_cases hF0 : F = 0
  · subst hF0
    obtain ⟨k1, k2, k3⟩ := hgl rfl
    clear hgl
    by_cases hm : V ≤ m
    · rw [hhit rfl hm]
      have d1 : decide ((m : Int) < (V : Int)) = false := by simp; omega
      rcases Hst.out.2.sl (fun h => by have := Hn.out; rw [h] at this; simp at this; omega) with ⟨_, h0⟩ | ⟨g, o, c', he, hc, hnc, hcm⟩
      · have := Hn.out; rw [h0] at this; simp at this; omega
      cases he
      have hnc2 : n ≤ c := by rw [← Hn.out]; exact hnc
      have hcm2 : c ≤ 9223372036854775807 := by unfold maxLen at hcm; omega
      have hb8 := Lib.hid (Hst.out.1.drop N)
      rcases Nat.lt_or_ge N c with hNc | hNc
      · have hb := Hb.out (.slice (some ⟨g, o + N, none⟩) (n - N) (c - N)) false
        have hsl := (sl_drop hc Hn.out k2 hnc2 hcm).below hb (Nat.le_refl _)
        have hrf : Hid (Rf ((w.alloc (.cells #[.slice (some ⟨g, o, none⟩) n c, .bool wr] RFT)).alloc (.cells #[.slice (some ⟨g, o + N, none⟩) (n - N) (c - N), .bool false] RFT)) (.agg #[.slice (some ⟨g, o + N, none⟩) (n - N) (c - N), .bool false]) ⟨S.l.drop N, false⟩) :=
          ⟨⟨_, rfl, hsl⟩, hb8.out, by show (S.l.drop N).length ≤ _; rw [List.length_drop, Hn.out]; omega, fun h => by cases h⟩
        have HB := Lib.hid hb
        have y1 : ¬ (c = N) := by omega
        clear hb hsl hmiss hhit hc hcm hnc Hst Hb
        go_enter Tryd.func29, Tryd.ntmps29
        go_wp2_with fail
        refine Hget.out.mono ?_
        rintro e w' ⟨rfl, rfl⟩
        go_wp2
        refine bodyPost_ret (v := .tuple #[.agg #[.slice (some ⟨g, o + N, none⟩) (n - N) (c - N), .bool false], .int .u64 V]) (by rw [results_cell_tmp rfl]; go_simp) rfl ⟨_, rfl, hrf.out, HB.out⟩
      · obtain rfl : N = c := by omega
        obtain rfl : N = n := by omega
        have hb := Hb.out (.slice (some ⟨g, o, none⟩) 0 0) false
        have hsl := (sl_end (w := w) (g := g) (o := o) Hn.out (Nat.le_refl N)).below hb (Nat.le_refl _)
        have hrf : Hid (Rf ((w.alloc (.cells #[.slice (some ⟨g, o, none⟩) N N, .bool wr] RFT)).alloc (.cells #[.slice (some ⟨g, o, none⟩) 0 0, .bool false] RFT)) (.agg #[.slice (some ⟨g, o, none⟩) 0 0, .bool false]) ⟨S.l.drop N, false⟩) :=
          ⟨⟨_, rfl, hsl⟩, hb8.out, by show (S.l.drop N).length ≤ _; rw [List.length_drop, Hn.out]; omega, fun h => by cases h⟩
        have HB := Lib.hid hb
        clear hb hsl hmiss hhit hc hcm hnc Hst Hb
        go_enter Tryd.func29, Tryd.ntmps29
        go_wp2_with fail
        refine Hget.out.mono ?_
        rintro e w' ⟨rfl, rfl⟩
        go_wp2
        refine bodyPost_ret (v := .tuple #[.agg #[.slice (some ⟨g, o, none⟩) 0 0, .bool false], .int .u64 V]) (by rw [results_cell_tmp rfl]; go_simp) rfl ⟨_, rfl, hrf.out, HB.out⟩
    · rw [hmiss (fun h => hm h.2)]
      have d1 : decide ((m : Int) < (V : Int)) = true := by simp; omega
      have HB := Lib.hid (Hb.out (.slice none 0 0) true)
      clear hmiss hhit Hb
      go_enter Tryd.func29, Tryd.ntmps29
      go_wp2_with fail
      refine Hget.out.mono ?_
      rintro e w' ⟨rfl, rfl⟩
      go_wp2
      refine bodyPost_ret (v := .tuple #[.agg #[.slice none 0 0, .bool true], .int .u64 0]) (by rw [results_cell_tmp rfl]; go_simp) rfl ⟨_, rfl, Rf.wrong _, HB.out⟩
  · rw [hmiss (fun h => hF0 h.1)]
    have d1 : ((F : Int) == 0) = false := by simp; omega
    have HB := Lib.hid (Hb.out (.slice none 0 0) true)
    clear hmiss hhit Hb hgl
    go_enter Tryd.func29, Tryd.ntmps29
    go_wp2_with fail
    refine Hget.out.mono ?_
    rintro e w' ⟨rfl, rfl⟩
    go_wp2
    refine bodyPost_ret (v := .tuple #[.agg #[.slice none 0 0, .bool true], .int .u64 0]) (by rw [results_cell_tmp rfl]; go_simp) rfl ⟨_, rfl, Rf.wrong _, HB.out⟩
end Go.Proofs.YtofbomcimicccaaDoor
