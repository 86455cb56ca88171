/-
  What the laws of heads ask: both Encodes in one form; pages as arguments; what is picked of pages that are known.
-/
import Derived.Test.YtofbomcimicccaaDoorRefHead3Z
import Derived.Test.YtofbomcimicccaaDoorAsZ
namespace Go.Proofs.YtofbomcimicccaaDoor
open Go Go.RowKit

/-- What Encode hands back: a page, or nothing. -/
def hL (h : Hd) : List Nat := if hmayB h = true then hpage h else []
theorem hL_yes {h : Hd} (m : HMay h) : hL h = hpage h := by unfold hL; rw [if_pos ((hmayB_iff h).2 m)]
theorem hL_no {h : Hd} (m : ¬ HMay h) : hL h = [] := by unfold hL; rw [if_neg (fun e => m ((hmayB_iff h).1 e))]
theorem hE_yes {h : Hd} (m : HMay h) : hE h = 0 := by unfold hE; rw [if_pos ((hmayB_iff h).2 m)]
theorem hE_no {h : Hd} (m : ¬ HMay h) : hE h = 1 := by unfold hE; rw [if_neg (fun e => m ((hmayB_iff h).1 e))]
theorem enc_any (h : Hd) (f : h.Fit) (w : World) (hT : WorthIn w) (hM : MostIn w) :
    Calls Tryd.prog 7 #[.agg (hv h)] w fun e w' => ∃ v, e = .returned (.tuple #[v, errS (hE h)]) ∧ Sl w' v (hL h) ∧ Below w.heap.size w w' := by
  by_cases m : HMay h
  · rw [hE_yes m, hL_yes m]
    refine (enc_yes h m w hM hT).mono ?_
    rintro e w' ⟨g, rfl, _, hr, hb⟩
    have h1 := Sl.row hr (by rw [hpage_len m]; decide)
    rw [hpage_len m] at h1
    exact ⟨_, rfl, h1, hb⟩
  · rw [hE_no m, hL_no m]
    refine (enc_no h f m w hM).mono ?_
    rintro e w' ⟨rfl, hb⟩
    exact ⟨_, rfl, Sl.none _, hb⟩
theorem refEnc_any (h : Hd) (w : World) :
    Calls Tryd.prog 8 #[.agg (hv h)] w fun e w' => ∃ v, e = .returned (.tuple #[v, .int .i64 (hE h : Nat)]) ∧ Sl w' v (hL h) ∧ Below w.heap.size w w' := by
  by_cases m : HMay h
  · rw [hE_yes m, hL_yes m]; exact refEnc_yes h m w
  · rw [hE_no m, hL_no m]
    refine (refEnc_no h m w).mono ?_
    rintro e w' ⟨rfl, hb⟩
    exact ⟨_, rfl, Sl.none _, hb⟩
theorem Row.ba {w : World} {g : Nat} {l : List Nat} (h : Row w g 5 l) (hl : l.length = 512) (hb : B8 l) : BA w (.slice (some ⟨g, 0, none⟩) 512 512) l :=
  ⟨⟨_, 512, by rw [hl], row_src h, by omega, by decide⟩, hb⟩
theorem Sl.ext {w w' : World} {v : Value} {l : List Nat} (h : Sl w v l) (hb : Ext w w') : Sl w' v l := h.below hb (Nat.le_refl _)
/-- A page of noughts is no head's. -/
theorem opS_kind0 {b : List Nat} (h : b.getD 0 0 = 0) : (opS b).2.2 ≠ 0 := by
  unfold opS
  by_cases h1 : b.length ≠ 512
  · rw [if_pos h1]; exact Nat.succ_ne_zero 2
  · rw [if_neg h1]
    split
    · exact Nat.succ_ne_zero 3
    · rw [if_neg]
      · exact Nat.succ_ne_zero 2
      · rintro ⟨⟨h2, _⟩, _⟩
        omega
theorem hdec_zero : (hdec (List.replicate 512 0)).2 ≠ 0 := by
  have h0 : (opS (List.replicate 512 0)).2.2 ≠ 0 := opS_kind0 rfl
  generalize List.replicate 512 0 = b at *
  rw [hdec_err h0]; exact h0
theorem hdec_nil : (hdec []).2 ≠ 0 := by
  have h0 : opS [] = (0, [], 3) := opS_len (by decide)
  rw [hdec_err (by rw [h0]; decide), h0]; decide
theorem hat_err {x : Hd × Nat} {k : Nat} (h : x.2 ≠ 0) : ¬ hat x k = true := fun e => h ((hat_iff x k).1 e).1
theorem hat_page {h : Hd} (m : HMay h) (k : Nat) : hat (hdec (hpage h)) k = true ↔ h.s % 2 = k := by rw [hdec_page m, hat_iff]; simp
/-- One head's page, where it belongs, beside a page that is none. -/
theorem hpick_left {h : Hd} (m : HMay h) (hs : h.s % 2 = 0) {b : List Nat} (hb : (hdec b).2 ≠ 0) : hpick (hpage h) b = (h, 0) := by
  rw [hpick_one ((hat_page m 0).2 hs) (hat_err hb), hdec_page m]
theorem hpick_right {h : Hd} (m : HMay h) (hs : h.s % 2 = 1) {a : List Nat} (ha : (hdec a).2 ≠ 0) : hpick a (hpage h) = (h, 0) := by
  rw [hpick_other (hat_err ha) ((hat_page m 1).2 hs), hdec_page m]
/-- Where it doesn't. -/
theorem hpick_wrong0 {h : Hd} (m : HMay h) (hs : h.s % 2 = 1) {b : List Nat} (hb : (hdec b).2 ≠ 0) : hpick (hpage h) b = (hd0, 16) :=
  hpick_no (fun e => by have := (hat_page m 0).1 e; omega) (hat_err hb)
theorem hpick_wrong1 {h : Hd} (m : HMay h) (hs : h.s % 2 = 0) {a : List Nat} (ha : (hdec a).2 ≠ 0) : hpick a (hpage h) = (hd0, 16) :=
  hpick_no (hat_err ha) (fun e => by have := (hat_page m 1).1 e; omega)
/-- Two heads' pages, each where it belongs. -/
theorem hpick_newer0 {x y : Hd} (mx : HMay x) (my : HMay y) (hx : x.s % 2 = 0) (hy : x.s = y.s + 1) : hpick (hpage x) (hpage y) = (x, 0) := by
  rw [hpick_two ((hat_page mx 0).2 hx) ((hat_page my 1).2 (by omega)), hdec_page mx, hdec_page my, if_pos (by show y.s < x.s; omega)]
theorem hpick_newer1 {x y : Hd} (mx : HMay x) (my : HMay y) (hx : x.s % 2 = 1) (hy : x.s = y.s + 1) : hpick (hpage y) (hpage x) = (x, 0) := by
  rw [hpick_two ((hat_page my 0).2 (by omega)) ((hat_page mx 1).2 hx), hdec_page mx, hdec_page my, if_neg (by show ¬ x.s < y.s; omega)]
theorem agg_T2 : AggT T2 2 := ⟨⟨_, Tryd.underlying47, rfl⟩, by kernel_rfl⟩
theorem arrz_T2 : ArrZ T2 #[.slice none 0 0, .slice none 0 0] := fun w => by kernel_rfl
theorem build_T2 (w : World) : (Instr.build T2 #[]).run Tryd.prog w = .ok (.agg #[.slice none 0 0, .slice none 0 0]) w := by kernel_rfl
end Go.Proofs.YtofbomcimicccaaDoor
