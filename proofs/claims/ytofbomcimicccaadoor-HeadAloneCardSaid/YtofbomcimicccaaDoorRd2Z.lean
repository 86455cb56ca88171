/-
  A reader's take, Byte, Num, Bytes, Left, Done.
-/
import Derived.Test.YtofbomcimicccaaDoorRdZ
import Derived.Test.YtofbomcimicccaaDoorAsZ
namespace Go.Proofs.YtofbomcimicccaaDoor
open Go Go.RowKit

theorem sl_take {w : World} {g o c k n : Nat} {l : List Nat} (hc : Cs w g o l) (hn : l.length = n) (hk : k ≤ n) (hnc : n ≤ c) (hcm : c ≤ maxLen) : Sl w (.slice (some ⟨g, o, none⟩) k c) (l.take k) := by
  have e : (l.take k).length = k := by rw [List.length_take]; omega
  refine .inr ⟨g, o, c, by rw [e], hc.start k, by rw [e]; omega, hcm⟩
theorem sl_drop {w : World} {g o c k n : Nat} {l : List Nat} (hc : Cs w g o l) (hn : l.length = n) (hk : k ≤ n) (hnc : n ≤ c) (hcm : c ≤ maxLen) : Sl w (.slice (some ⟨g, o + k, none⟩) (n - k) (c - k)) (l.drop k) := by
  have e : (l.drop k).length = n - k := by rw [List.length_drop]; omega
  refine .inr ⟨g, o + k, c - k, by rw [e], hc.rest k, by rw [e]; omega, by omega⟩
theorem sl_end {w : World} {g o k n : Nat} {l : List Nat} (hn : l.length = n) (hk : n ≤ k) : Sl w (.slice (some ⟨g, o, none⟩) 0 0) (l.drop k) := by
  rw [List.drop_of_length_le (by omega)]
  exact .inr ⟨g, o, 0, rfl, fun i hi => by simp at hi, Nat.le_refl _, by unfold maxLen; omega⟩
/-- What a reader holds behind a take. -/
def takeS (S : RS) (k : Nat) : List Nat × RS := if k ≤ S.l.length then (S.l.take k, ⟨S.l.drop k, S.wr⟩) else ([], ⟨[], true⟩)
set_option maxRecDepth 100000 in
theorem take_any (w : World) (b : Nat) (S : RS) (h : Rd w b S) (k : Nat) (hk : k ≤ 9223372036854775807) :
    Calls Tryd.prog 43 #[.pointer (some ⟨b, 0, none⟩), .int .i64 k] w fun e w' => ∃ v, e = .returned v ∧ Sl w' v (takeS S k).1 ∧ Rd w' b (takeS S k).2 ∧ Turn (fun i => i = b) w w' := by
  obtain ⟨v, h1, h2⟩ := h.ex
  have f0 := h1.fz 0
  have c0 := h1.c0
  have H := Lib.hid h
  have Hlen := Lib.hid h.len
  by_cases hlt : S.l.length < k
  · have e : takeS S k = ([], ⟨[], true⟩) := by unfold takeS; rw [if_neg (by omega)]
    rw [e]
    have hsp := Lib.hid (spoil_any w b S h)
    obtain ⟨a, c, rfl, _⟩ := h2.arg
    generalize S.l.length = n at *
    have d1 : decide ((n : Int) < (k : Int)) = true := by simp; omega
    clear h h1 h2 e
    go_enter Tryd.func43, Tryd.ntmps43
    go_wp2_with fail
    refine hsp.out.mono ?_
    rintro e w' ⟨rfl, hr, ht⟩
    go_wp2
    go_ret
    exact ⟨_, rfl, Sl.none _, hr, ht⟩
  · have e : takeS S k = (S.l.take k, ⟨S.l.drop k, S.wr⟩) := by unfold takeS; rw [if_pos (by omega)]
    rw [e]
    have hb8 := h.b8.drop k
    have hinv : S.wr = true → S.l.drop k = [] := fun hw => by rw [h.inv hw]; exact List.drop_nil
    have hlen : (S.l.drop k).length ≤ 65536 := by have := h.len; rw [List.length_drop]; omega
    have Hst := Lib.hid (And.intro hb8 (And.intro hinv hlen))
    have H1 := Lib.hid h1
    have H2 := Lib.hid h2
    have Hnb := Lib.hid h.noByte
    rcases h2 with ⟨rfl, h0⟩ | ⟨g, o, c, rfl, hc, hnc, hcm⟩
    · have hl0 : S.l.length = 0 := by rw [h0]; rfl
      obtain rfl : k = 0 := by omega
      have e1 : S.l.take 0 = [] := rfl
      have e2 : S.l.drop 0 = [] := h0
      have hr : Hid (Rd (w.setCell ⟨b, 0, none⟩ (.slice none 0 0)) b ⟨S.l.drop 0, S.wr⟩) := ⟨⟨_, H1.out.set0 _, by show Sl _ _ (S.l.drop 0); rw [e2]; exact Sl.none _⟩, Hst.out.1, Hst.out.2.2, Hst.out.2.1⟩
      have ht := Lib.hid (turn_set1 w b 0 (.slice none 0 0))
      rw [e1]
      clear h h1 e e1 e2 hb8 hinv hlen h0 hl0 hlt hk
      go_enter Tryd.func43, Tryd.ntmps43
      go_wp2
      go_ret
      exact ⟨_, rfl, Sl.none _, hr.out, ht.out⟩
    · have Hn : ∃ n, n = S.l.length := ⟨_, rfl⟩
      obtain ⟨n, hn⟩ := Hn
      rw [← hn] at c0 H1 H2 Hlen hnc hlt
      have HN := Lib.hid hn.symm
      have hn64 := Hlen.out
      have hkn : k ≤ n := by omega
      have hcm2 : c ≤ 9223372036854775807 := by unfold maxLen at hcm; omega
      have Hcm := Lib.hid hcm
      have d1 : decide ((n : Int) < (k : Int)) = false := by simp; omega
      have Htk : Hid (Sl w (.slice (some ⟨g, o, none⟩) k c) (S.l.take k)) := sl_take hc hn.symm hkn hnc hcm
      rcases Nat.lt_or_ge k c with hkc | hkc
      · have ht := Lib.hid (turn_set1 w b 0 (.slice (some ⟨g, o + k, none⟩) (n - k) (c - k)))
        have hs := Lib.hid ((sl_drop hc hn.symm hkn hnc hcm).turn ht.out Hnb.out)
        have hs2 := Lib.hid (Htk.out.turn ht.out Hnb.out)
        have hr : Hid (Rd (w.setCell ⟨b, 0, none⟩ (.slice (some ⟨g, o + k, none⟩) (n - k) (c - k))) b ⟨S.l.drop k, S.wr⟩) := ⟨⟨_, H1.out.set0 _, hs.out⟩, Hst.out.1, Hst.out.2.2, Hst.out.2.1⟩
        have y1 : ¬ (c = k) := by omega
        clear h h1 e hb8 hinv hlen hn hc Hcm hcm Htk hs
        go_enter Tryd.func43, Tryd.ntmps43
        go_wp2
        go_ret
        exact ⟨_, rfl, hs2.out, hr.out, ht.out⟩
      · obtain rfl : k = c := by omega
        obtain rfl : k = n := by omega
        have ht := Lib.hid (turn_set1 w b 0 (.slice (some ⟨g, o, none⟩) 0 0))
        have hs2 := Lib.hid (Htk.out.turn ht.out Hnb.out)
        have hr : Hid (Rd (w.setCell ⟨b, 0, none⟩ (.slice (some ⟨g, o, none⟩) 0 0)) b ⟨S.l.drop k, S.wr⟩) := ⟨⟨_, H1.out.set0 _, sl_end HN.out (Nat.le_refl _)⟩, Hst.out.1, Hst.out.2.2, Hst.out.2.1⟩
        clear h h1 e hb8 hinv hlen hn hc Hcm hcm Htk
        go_enter Tryd.func43, Tryd.ntmps43
        go_wp2
        go_ret
        exact ⟨_, rfl, hs2.out, hr.out, ht.out⟩
theorem take_nil (w : World) (k : Int) : Calls Tryd.prog 43 #[.pointer none, .int .i64 k] w fun e w' => e = .returned (.slice none 0 0) ∧ w = w' := by
  go_enter Tryd.func43, Tryd.ntmps43
  go_wp2
  go_ret
  exact ⟨rfl, rfl⟩
theorem done_nil (w : World) : Calls Tryd.prog 26 #[.pointer none] w fun e w' => e = .returned (errV 3) ∧ w = w' := by
  go_enter Tryd.func26, Tryd.ntmps26
  go_wp2
  go_ret
  exact ⟨rfl, rfl⟩
/-- Done's error. -/
def doneV (S : RS) : Value := if okS S = true then .nilIface else errV 3
theorem done_any (w : World) (b : Nat) (S : RS) (h : Rd w b S) :
    Calls Tryd.prog 26 #[.pointer (some ⟨b, 0, none⟩)] w fun e w' => e = .returned (doneV S) ∧ w = w' := by
  obtain ⟨v, h1, h2⟩ := h.ex
  have c0 := h1.c0
  have c1 := h1.c1
  have hl := h.len
  obtain ⟨a, c, rfl, _⟩ := h2.arg
  obtain ⟨l, wr⟩ := S
  dsimp only at *
  clear h h1 h2
  cases wr with
  | true =>
    have e : Hid (doneV ⟨l, true⟩ = errV 3) := by show _ = _; unfold doneV okS; simp
    generalize l.length = n at *
    go_enter Tryd.func26, Tryd.ntmps26
    go_wp2
    go_ret
    exact ⟨by rw [e.out]; rfl, rfl⟩
  | false =>
    by_cases h0 : l = []
    · subst h0
      have e : Hid (doneV ⟨[], false⟩ = .nilIface) := by show _ = _; unfold doneV okS; simp
      go_enter Tryd.func26, Tryd.ntmps26
      go_wp2
      go_ret
      exact ⟨by rw [e.out]; rfl, rfl⟩
    · have e : Hid (doneV ⟨l, false⟩ = errV 3) := by show _ = _; unfold doneV okS; simp [h0]
      have hp : 0 < l.length := List.length_pos_iff.2 h0
      generalize l.length = n at *
      have d1 : decide (0 < (n : Int)) = true := by simp; omega
      go_enter Tryd.func26, Tryd.ntmps26
      go_wp2
      go_ret
      exact ⟨by rw [e.out]; rfl, rfl⟩
end Go.Proofs.YtofbomcimicccaaDoor
