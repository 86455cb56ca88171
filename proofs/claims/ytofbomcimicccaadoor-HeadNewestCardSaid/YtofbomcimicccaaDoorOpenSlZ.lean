/-
  sheet.Open and the document's: what they hand back reads as the load, with its reach.
-/
import Derived.Test.YtofbomcimicccaaDoorSheet3Z
import Derived.Test.YtofbomcimicccaaDoorRefOpenZ
import Derived.Test.YtofbomcimicccaaDoorRefRdZ
namespace Go.Proofs.YtofbomcimicccaaDoor
open Go Go.RowKit

theorem opS_few (l : List Nat) : (opS l).2.1.length ≤ 504 := by
  unfold opS
  split
  · simp
  · split
    · simp
    · split
      · rename_i h
        show ((l.drop 4).take _).length ≤ 504
        rw [List.length_take]
        have := h.2.2.1
        omega
      · simp
theorem open_sl (a : Option Addr) (n c : Nat) (l : List Nat) (hn : l.length = n) (w : World) (hb : B8 l) (hlc : n ≤ c) (hcm : c ≤ 140737488355328) (hsrc : Src w a l) (hT : WorthIn w) :
    Calls Tryd.prog 22 #[.slice a n c] w fun e w' => ∃ v, e = .returned (.tuple #[.int .u8 ((opS l).1 : Nat), v, errS (opS l).2.2]) ∧ Sl w' v (opS l).2.1 ∧ Below w.heap.size w w' := by
  subst hn
  by_cases h512 : l.length = 512
  · obtain ⟨b, o, rfl, hcs⟩ := hsrc (by omega)
    by_cases hs : numL (l.drop 508) = (more 0#32 (l.take 508)).toNat
    · have hI := is_512 b o c l w h512 (by omega) (by omega) hcs hb hT
      rw [decide_eq_true hs] at hI
      have hG := get_two b o c l w h512 hcs hb
      have c0 := hcs 0 (by omega)
      have c1 := hcs 1 (by omega)
      rw [Nat.add_zero] at c0
      have hK := isKind_any (l.getD 0 0) w (hb.get 0)
      have hx1 := hb.get 1
      have hN : l.getD 2 0 * 256 + l.getD 3 0 < 65536 := by have := hb.get 2; have := hb.get 3; omega
      have hB := fun (hN5 : l.getD 2 0 * 256 + l.getD 3 0 ≤ 504) => blank_any (some ⟨b, o + (4 + (l.getD 2 0 * 256 + l.getD 3 0)), none⟩) (508 - (4 + (l.getD 2 0 * 256 + l.getD 3 0))) (c - (4 + (l.getD 2 0 * 256 + l.getD 3 0))) ((l.take 508).drop (4 + (l.getD 2 0 * 256 + l.getD 3 0))) (by rw [List.length_drop, List.length_take]; omega) w (by omega) ((hcs.start 508).rest _).src
      rw [h512]
      by_cases hgood : (1 ≤ l.getD 0 0 ∧ l.getD 0 0 ≤ 5) ∧ l.getD 1 0 = 0 ∧ l.getD 2 0 * 256 + l.getD 3 0 ≤ 504 ∧ allZero ((l.take 508).drop (4 + (l.getD 2 0 * 256 + l.getD 3 0))) = true
      · rw [opS_good h512 hs hgood]
        obtain ⟨g1, g2, g3, g4⟩ := hgood
        have hB := hB g3
        rw [g4] at hB
        rw [decide_eq_true g1] at hK
        rw [g2] at c1
        have hLl : ((l.drop 4).take (l.getD 2 0 * 256 + l.getD 3 0)).length = l.getD 2 0 * 256 + l.getD 3 0 := by rw [List.length_take, List.length_drop]; omega
        refine (open_good b o c _ _ _ w (by omega) hcm hI hG hB hK c0 c1 g3 (hcs.cut 4 _).src hLl).mono ?_
        rintro e w' ⟨rfl, hr, hbw⟩
        refine ⟨_, rfl, ?_, hbw⟩
        have h1 := Sl.row hr (by rw [hLl]; unfold maxLen; omega)
        rw [hLl] at h1
        exact h1
      · rw [opS_form h512 hs hgood]
        refine (open_bad b o c _ _ _ _ _ w (by omega) hcm hI hG hB hK c0 c1 hx1 hN (fun h => hgood ⟨of_decide_eq_true h.1, h.2.1, h.2.2.1, h.2.2.2⟩)).mono ?_
        rintro e w' ⟨rfl, rfl⟩
        exact ⟨_, rfl, Sl.none _, Below.refl _ _⟩
    · rw [opS_sum h512 hs]
      have := open_sum b o c l w h512 (by omega) (by omega) hcs hb hT hs
      rw [h512]
      refine this.mono ?_
      rintro e w' ⟨rfl, rfl⟩
      exact ⟨_, rfl, Sl.none _, Below.refl _ _⟩
  · rw [opS_len h512]
    refine (open_len a _ c w h512).mono ?_
    rintro e w' ⟨rfl, rfl⟩
    exact ⟨_, rfl, Sl.none _, Below.refl _ _⟩
theorem refOpen_sw (a : Option Addr) (n c : Nat) (l : List Nat) (hn : l.length = n) (w : World) (hb : B8 l) (hlc : n ≤ c) (hcm : c ≤ 140737488355328) (hsrc : Src w a l) :
    Calls Tryd.prog 28 #[.slice a n c] w fun e w' => ∃ v, e = .returned (.tuple #[.int .u8 ((opS l).1 : Nat), v, .int .i64 ((opS l).2.2 : Nat)]) ∧ Sl w' v (opS l).2.1 ∧ Below w.heap.size w w' := by
  subst hn
  have hcx : c ≤ maxLen := by unfold maxLen; omega
  by_cases h512 : l.length = 512
  · obtain ⟨b, o, rfl, hcs⟩ := hsrc (by omega)
    have hI := refIs_512 b o c l w h512 (by omega) hcm hcs hb
    rw [h512]
    by_cases hs : numL (l.drop 508) = (more 0#32 (l.take 508)).toNat
    · rw [decide_eq_true hs] at hI
      have hcore := refOpen_core b o c _ _ _ _ _ _ _ l w h512 (by omega) hcm hcs hb hI rfl rfl rfl rfl rfl rfl rfl
      by_cases hgood : (1 ≤ l.getD 0 0 ∧ l.getD 0 0 ≤ 5) ∧ l.getD 1 0 = 0 ∧ l.getD 2 0 * 256 + l.getD 3 0 ≤ 504 ∧ allZero ((l.take 508).drop (4 + (l.getD 2 0 * 256 + l.getD 3 0))) = true
      · rw [opS_good h512 hs hgood]
        obtain ⟨g1, g2, g3, g4⟩ := hgood
        rw [decide_eq_true ⟨g1, g2, g3⟩, g4] at hcore
        have hLl : ((l.drop 4).take (l.getD 2 0 * 256 + l.getD 3 0)).length = l.getD 2 0 * 256 + l.getD 3 0 := by rw [List.length_take, List.length_drop]; omega
        have hlt := hcs.lt (by omega)
        refine hcore.mono ?_
        rintro e w' ⟨rfl, hbw⟩
        refine ⟨_, rfl, ?_, hbw⟩
        exact .inr ⟨b, o + 4, c - 4, by rw [hLl], (hcs.below hbw hlt).cut 4 _, by rw [hLl]; omega, by omega⟩
      · rw [opS_form h512 hs hgood]
        have hf : (decide ((1 ≤ l.getD 0 0 ∧ l.getD 0 0 ≤ 5) ∧ l.getD 1 0 = 0 ∧ l.getD 2 0 * 256 + l.getD 3 0 ≤ 504) && allZero ((l.take 508).drop (4 + (l.getD 2 0 * 256 + l.getD 3 0)))) = false := by
          rw [Bool.and_eq_false_iff, decide_eq_false_iff_not]
          by_cases hz : allZero ((l.take 508).drop (4 + (l.getD 2 0 * 256 + l.getD 3 0))) = true
          · left; intro h; exact hgood ⟨h.1, h.2.1, h.2.2, hz⟩
          · right; exact Bool.eq_false_iff.2 hz
        rw [hf] at hcore
        refine hcore.mono ?_
        rintro e w' ⟨rfl, hbw⟩
        exact ⟨_, rfl, Sl.none _, hbw⟩
    · rw [opS_sum h512 hs]
      rw [decide_eq_false hs] at hI
      refine (refOpen_sum b o c w hI).mono ?_
      rintro e w' ⟨rfl, rfl⟩
      exact ⟨_, rfl, Sl.none _, Below.refl _ _⟩
  · rw [opS_len h512]
    refine (refOpen_len a _ c w h512).mono ?_
    rintro e w' ⟨rfl, rfl⟩
    exact ⟨_, rfl, Sl.none _, Below.refl _ _⟩
end Go.Proofs.YtofbomcimicccaaDoor
