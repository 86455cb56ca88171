/-
  The document's device: Waiting, Sync.
-/
import Derived.Test.YtbkjaifpgknadaaDoorRefD4
namespace Go.Proofs.YtbkjaifpgknadaaDoor
open Go Go.RowKit Go.Maps Go.Sort

/-- Which of the first k sectors wait. -/
def wlk (S : DS) (k : Nat) : List Nat := (List.range k).filter fun n => (S.waits n).isSome
theorem wlk_yes {S : DS} {k : Nat} (h : wtS S k = true) : wlk S (k + 1) = wlk S k ++ [k] := by
  unfold wtS at h
  unfold wlk; rw [List.range_succ, List.filter_append]; simp [h]
theorem wlk_no {S : DS} {k : Nat} (h : wtS S k = false) : wlk S (k + 1) = wlk S k := by
  unfold wtS at h
  have h1 : S.waits k = none := by cases hq : S.waits k <;> simp_all
  unfold wlk; rw [List.range_succ, List.filter_append]; simp [h1]
theorem wlk_len (S : DS) (k : Nat) : (wlk S k).length ≤ k := by
  have := List.length_filter_le (fun n => (S.waits n).isSome) (List.range k)
  rw [List.length_range] at this
  exact this
theorem own_down {w : World} {B B' E sz n : Nat} {v : Value} {xs : List Value} (h : w.ownsRow B' E sz v n xs) (hB : B ≤ B') : w.ownsRow B E sz v n xs := by
  refine ⟨h.1, ?_⟩
  rcases h.2 with h1 | ⟨g9, cap, cur, e, hbg, rest⟩
  · exact .inl h1
  · exact .inr ⟨g9, cap, cur, e, Nat.le_trans hB hbg, rest⟩
theorem BRow.below {w w' : World} {g n : Nat} {f : Nat → Bool} (h : BRow w g f n) (b : Below w.heap.size w w') : BRow w' g f n := (Turn.ofBelow (F := fun _ => False) b).hg h (fun h => h)
theorem rcs_cell' {w : World} {g ps pn pw : Nat} {S : DS} (h : w.heap[g]? = some (.cells (rcs ps pn pw S) RT (0, 0))) : w.cell? ⟨g, 3, none⟩ = some (.slice (some ⟨pw, 0, none⟩) (8 * S.pages) (8 * S.pages)) := (rcs_cell h 3).trans (by simp [rcs])
set_option maxRecDepth 100000 in
set_option maxHeartbeats 1000000 in
theorem rwaiting_any (w : World) (ps pn pw : Nat) (S : DS) (hw : WfS S) (h : RefV w ps pn pw S) : Calls Tryd.prog 30 #[.agg (rcs ps pn pw S)] w (NewInts w (wl S)) := by
  have hp2 := hw.p2
  have H := Lib.hid h
  clear h hw
  go_enter Tryd.func30, Tryd.ntmps30
  go_wp2_with (refine wpList_box_rt rfl (.tmp 0) rfl (rcs ps pn pw S) (by rfl) ?_; intro g w1 hg1 hr1 hb1)
  have hg1l : g < w1.heap.size := (Array.getElem?_eq_some_iff.1 hr1).1
  have hown : Hid (w1.ownsRow w1.heap.size IT 1 (.slice none 0 0) (wlk S 0).length (ivs (wlk S 0))) := ⟨rfl, .inl ⟨rfl, rfl⟩⟩
  have hbw : Hid (Below w1.heap.size w1 w1) := Below.refl _ _
  have HB := Lib.hid (And.intro hb1 (And.intro hr1 hg1l))
  clear hb1 hr1 hg1 hg1l
  go_loopw [3, 4] (fun v i wr => ∃ k : Nat, k ≤ 8 * S.pages ∧ i = .int .i64 k ∧ Hid (wr.ownsRow w1.heap.size IT 1 v (wlk S k).length (ivs (wlk S k))) ∧ Hid (Below w1.heap.size w1 wr)) (fun _ i _ => 8 * S.pages - (intOf i).toNat)
  case atStart => exact ⟨0, Nat.zero_le _, rfl, hown, hbw⟩
  case round =>
    clear hown hbw
    obtain ⟨k, hk, rfl, ho, hbl⟩ := hrel
    have k3 : wr.cell? ⟨g, 3, none⟩ = some (.slice (some ⟨pw, 0, none⟩) (8 * S.pages) (8 * S.pages)) := by
      rw [hbl.out.cell (p := ⟨g, 3, none⟩) HB.out.2.2]; exact rcs_cell' HB.out.2.1
    by_cases hlt : k < 8 * S.pages
    · have hkI : (k : Int) < 8 * (S.pages : Int) := by omega
      have kb := ((H.out.waits.below HB.out.1).below hbl.out).cell k hlt
      by_cases hx : wtS S k = true
      · rw [hx] at kb
        have hl1 := wlk_len S k
        have hl2 := wlk_yes hx
        have HL := Lib.hid hl2
        obtain ⟨i0, hi0, hz0, hz1, hz2⟩ := info_parts infoInt
        have Hi0 := Lib.hid (And.intro hi0 (And.intro hz0 (And.intro hz1 hz2)))
        have hl3 : (wlk S k).length ≤ 8192 := by omega
        clear hi0 hz0 hz1 hz2 hx hl1 hl2
        go_wp2_with (at_builtin; refine wpList_append_own _ rfl (.tmp 17) (.tmp 19) 36 rfl w1.heap.size IT i0 (.int .i64 0) 1 8 Tryd.underlying36 Hi0.out.1 Hi0.out.2.1 Hi0.out.2.2.1 Hi0.out.2.2.2 rfl (by decide) u3 (wlk S k).length (ivs (wlk S k)) (by rfl) (ho.out.alloc _) ⟨wr.heap.size, 0, none⟩ 1 1 [.int .i64 (k : Int)] (by rfl) rfl (cell_one_new _ _ _) (ints_oneCell .i64 [(k : Int)]) (by unfold maxLen; omega) (by omega) (Nat.le_trans hbl.out.size (by simp)) ?_; intro v6 w6 hown6 hgrow6 hnil6; clear hnil6)
        have hb6 : Hid (Below w1.heap.size w1 w6) := (hbl.out.alloc hbl.out.size _).grown hgrow6 (Nat.le_trans hbl.out.size (by simp)) (fun i hi => (own_cells ho.out hi).1)
        have ho6 : Hid (w6.ownsRow w1.heap.size IT 1 v6 (wlk S (k + 1)).length (ivs (wlk S (k + 1)))) := by
          rw [HL.out, List.length_append, List.length_singleton, ivs, List.map_append]
          exact hown6
        clear hown6 hgrow6 Hi0 HL ho hbl k3 kb
        go_roundw
        case rel => exact ⟨k + 1, by omega, by go_num, ho6, hb6⟩
        case measure => simp [intOf]; omega
      · have hxf : wtS S k = false := by cases hq : wtS S k <;> simp_all
        rw [hxf] at kb
        have ho6 : Hid (wr.ownsRow w1.heap.size IT 1 u3 (wlk S (k + 1)).length (ivs (wlk S (k + 1)))) := by rw [wlk_no hxf]; exact ho
        clear ho hx hxf
        go_wp2
        go_roundw
        case rel => exact ⟨k + 1, by omega, by go_num, ho6, hbl⟩
        case measure => simp [intOf]; omega
    · obtain rfl : k = 8 * S.pages := by omega
      have hfin : wr.ownsRow w.heap.size IT 1 u3 (wl S).length (ivs (wl S)) ∧ Below w.heap.size w wr := ⟨own_down ho.out HB.out.1.size, HB.out.1.trans (hbl.out.mono HB.out.1.size)⟩
      have Hf := Lib.hid hfin
      clear hfin ho hbl
      go_wp2
      go_ret
      exact ⟨_, rfl, Hf.out.1, Hf.out.2⟩
/-! ### Sync -/
/-- The one up to a place, from there on the other. -/
def upto {α : Type} (j : Nat) (f g : Nat → α) : Nat → α := fun m => if m < j then f m else g m
theorem upto_zero {α : Type} (f g : Nat → α) : upto 0 f g = g := by funext m; unfold upto; rw [if_neg (by omega)]
theorem upto_at1 (j : Nat) (f g : Nat → List Nat) : at1 (upto j f g) j (f j) = upto (j + 1) f g := by
  funext m; unfold at1 upto
  by_cases e : m = j
  · subst e; simp
  · rw [if_neg e]; by_cases h : m < j
    · rw [if_pos h, if_pos (by omega)]
    · rw [if_neg h, if_neg (by omega)]
theorem upto_bat (j : Nat) (f g : Nat → Bool) : bat (upto j f g) j (f j) = upto (j + 1) f g := by
  funext m; unfold bat upto
  by_cases e : m = j
  · subst e; simp
  · rw [if_neg e]; by_cases h : m < j
    · rw [if_pos h, if_pos (by omega)]
    · rw [if_neg h, if_neg (by omega)]
theorem upto_L {j : Nat} {f g : Nat → List Nat} (hf : L64 f) (hg : L64 g) : L64 (upto j f g) := by
  intro m; unfold upto; split
  · exact hf m
  · exact hg m
theorem sf_flat (T : DS) : sfS (flat T) = rd T := by
  funext n; cases h : T.waits n <;> simp [sfS, flat, laidF, rd, h, thin_getD]
theorem rd_flat (T : DS) : rd (flat T) = rd T := by
  funext n; cases h : T.waits n <;> simp [flat, laidF, rd, h, thin_getD]
theorem wt_flat (T : DS) : wtS (flat T) = fun _ => false := by funext n; rfl
theorem wlk_pre (S : DS) (m : Nat) : ∀ d, ∃ t, wlk S (m + d) = wlk S m ++ t
  | 0 => ⟨[], by simp⟩
  | d + 1 => by
    obtain ⟨t, ht⟩ := wlk_pre S m d
    cases hx : wtS S (m + d) with
    | true => exact ⟨t ++ [m + d], by rw [← Nat.add_assoc, wlk_yes hx, ht, List.append_assoc]⟩
    | false => exact ⟨t, by rw [← Nat.add_assoc, wlk_no hx, ht]⟩
theorem wl_rank {S : DS} {m : Nat} (hm : m < 8 * S.pages) (hx : wtS S m = true) : (wlk S m).length < (wl S).length ∧ (wl S).getD (wlk S m).length 0 = m := by
  obtain ⟨t, ht⟩ := wlk_pre S (m + 1) (8 * S.pages - (m + 1))
  rw [show m + 1 + (8 * S.pages - (m + 1)) = 8 * S.pages by omega, wlk_yes hx] at ht
  have e : wl S = wlk S m ++ ([m] ++ t) := by rw [← List.append_assoc, ← ht]; rfl
  rw [e]
  refine ⟨by simp, ?_⟩
  rw [List.getD_eq_getElem?_getD, List.getElem?_append_right (Nat.le_refl _), Nat.sub_self]
  rfl
/-- What is safe behind a crash, of one sector. -/
def crN (S : DS) (k : List Bool) (m : Nat) : List Nat := if wtS S m = true ∧ kp k (wlk S m).length = true then rd S m else sfS S m
theorem crN_L {S : DS} (h1 : L64 (rd S)) (h2 : L64 (sfS S)) (k : List Bool) : L64 (crN S k) := by
  intro m; unfold crN; split
  · exact h1 m
  · exact h2 m
theorem sf_crash (S : DS) (k : List Bool) (m : Nat) (hm : m < 8 * S.pages) : sfS (crS S k) m = crN S k m := by
  unfold crN
  cases hx : wtS S m with
  | true =>
    obtain ⟨h1, h2⟩ := wl_rank hm hx
    have h3 := rd_crash_at S k _ h1
    rw [h2] at h3
    have h4 : rd (crS S k) m = sfS (crS S k) m := rfl
    rw [← h4, h3]
    by_cases hk : kp k (wlk S m).length = true
    · rw [if_pos hk, if_pos ⟨rfl, hk⟩]
      unfold wtS at hx
      unfold rd
      cases hq : S.waits m with
      | some l => rfl
      | none => rw [hq] at hx; cases hx
    · rw [if_neg hk, if_neg (fun h => hk h.2)]; rfl
  | false =>
    rw [if_neg (fun h => by cases h.1)]
    show (crF S k (wl S).length m).getD zeros = (S.safe m).getD zeros
    rw [crF_out S k m (fun i hi e => by
      have := ((wl_iff S m).1 ⟨i, hi, e⟩).2
      unfold wtS at hx
      rw [this] at hx; cases hx) _ (Nat.le_refl _)]
theorem rd_crash (S : DS) (k : List Bool) (m : Nat) (hm : m < 8 * S.pages) : rd (crS S k) m = crN S k m := sf_crash S k m hm
theorem wt_crash (S : DS) (k : List Bool) : wtS (crS S k) = fun _ => false := by funext n; rfl
end Go.Proofs.YtbkjaifpgknadaaDoor
