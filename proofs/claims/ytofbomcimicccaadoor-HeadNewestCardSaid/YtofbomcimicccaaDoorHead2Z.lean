/-
  head's Check, Encode.
-/
import Derived.Test.YtofbomcimicccaaDoorHead1Z
import Derived.Test.YtofbomcimicccaaDoorSheet2Z
import Derived.Test.YtofbomcimicccaaDoorPackNumZ
namespace Go.Proofs.YtofbomcimicccaaDoor
open Go Go.RowKit

theorem hnum_3 {h : Hd} (m : HMay h) : hnum h 3 = h.r.toNat := by
  have h0 := m.root0
  have h1 := m.fit.r1
  show (IntKind.u64.wrap h.r).toNat = _
  rw [IntKind.wrap_u64]; omega
theorem hnum_4 {h : Hd} (m : HMay h) : hnum h 4 = h.e.toNat := by
  have h0 := m.2.1.1
  have h1 := m.fit.e1
  show (IntKind.u64.wrap h.e).toNat = _
  rw [IntKind.wrap_u64]; omega
theorem hnum_lt {h : Hd} (f : h.Fit) (k : Nat) : hnum h k < 18446744073709551616 := by
  unfold hnum
  have := f.s
  have := f.t
  have := f.g
  rw [IntKind.wrap_u64, IntKind.wrap_u64]
  split
  · assumption
  · split
    · assumption
    · split
      · assumption
      · split <;> omega
theorem hnum_may {h : Hd} (f : h.Fit) : (∀ i, i < 5 → hnum h i ≤ msP i) ∧ hrootB h = true ↔ HMay h := by
  have f1 := f.r0
  have f2 := f.r1
  have f3 := f.e0
  have f4 := f.e1
  have e0 : hnum h 0 = h.s := rfl
  have e1 : hnum h 1 = h.t := rfl
  have e2 : hnum h 2 = h.g := rfl
  have e3 : hnum h 3 = (IntKind.u64.wrap h.r).toNat := rfl
  have e4 : hnum h 4 = (IntKind.u64.wrap h.e).toNat := rfl
  rw [IntKind.wrap_u64] at e3 e4
  constructor
  · rintro ⟨h1, h2⟩
    have b0 : hnum h 0 ≤ B62 := h1 0 (by omega)
    have b1 : hnum h 1 ≤ B62 := h1 1 (by omega)
    have b2 : hnum h 2 ≤ B62 := h1 2 (by omega)
    have b3 : hnum h 3 ≤ 1023 := h1 3 (by omega)
    have b4 : hnum h 4 ≤ 4096 := h1 4 (by omega)
    rw [e0] at b0
    rw [e1] at b1
    rw [e2] at b2
    unfold hrootB at h2
    unfold HMay
    refine ⟨⟨b0, b1, b2⟩, by omega, ?_⟩
    by_cases he : h.e = 0
    · rw [if_pos he, decide_eq_true_iff] at h2
      exact .inl ⟨he, h2⟩
    · rw [if_neg he, decide_eq_true_iff] at h2
      exact .inr ⟨he, h2, by omega⟩
  · rintro ⟨⟨b0, b1, b2⟩, b4, b3⟩
    refine ⟨?_, ?_⟩
    · intro i hi
      match i, hi with
      | 0, _ => exact b0
      | 1, _ => exact b1
      | 2, _ => exact b2
      | 3, _ => show hnum h 3 ≤ 1023; omega
      | 4, _ => show hnum h 4 ≤ 4096; omega
      | n + 5, h => omega
    · unfold hrootB
      rcases b3 with ⟨he, hr⟩ | ⟨he, hr, _⟩
      · rw [if_pos he]; exact decide_eq_true hr
      · rw [if_neg he]; exact decide_eq_true hr
/-- Whether one may be, as an error. -/
def hE (h : Hd) : Nat := if hmayB h = true then 0 else 1
theorem errS_0 : errS 0 = .nilIface := rfl
theorem errS_1 : errS 1 = .iface 59 (.int .i64 1) := rfl
theorem errS_3 : errS 3 = .iface 59 (.int .i64 3) := rfl
theorem errS_16 : errS 16 = .iface 59 (.int .i64 16) := rfl
theorem run_index_nv (f : Nat → Nat) (k : Nat) (hk : k < 5) (w : World) : (Instr.index NT (.agg (nv f)) (.int .i64 k)).run Tryd.prog w = .ok (.int .u64 (f k : Nat)) w := by
  have hu := Tryd.underlying52
  have he := Tryd.underlying22
  have hsz : ∀ w, (sizeOf 22).run Tryd.prog w = .ok 1 w := fun w => by kernel_rfl
  have h2 : ¬ 5 ≤ k := by omega
  have hg : (nv f)[k]? = some (.int .u64 (f k : Nat)) := nv_get f k hk
  simp [Instr.index, run_underlying hu, asIntOf, part, isAgg, run_underlying he, hsz, h2, hg, Result.andThen]
section
variable {ops : Array Oper} {rest : List Oper} {o : Oper} {a : Act} {w : World} {Q : Exit → Act → World → Prop}
theorem wpList_index_nv (hgd : o.guard = none) (x y : Operand) (ho : o.op = .index NT x y) (f : Nat → Nat) (k : Nat) (hx : a.eval x = .agg (nv f)) (hy : a.eval y = .int .i64 k) (hk : k < 5)
    (h : wpList Tryd.prog ops Q rest (a.put o.dst (.int .u64 (f k : Nat))) w) : wpList Tryd.prog ops Q (o :: rest) a w := by
  refine wpList_plain hgd fun K hK => ?_
  have hk2 := hK _ _ h
  unfold Oper.wp execOp
  simp only [ho, hx, hy, Sem.run_bind, Sem.run_pure, Result.andThen_ok, run_index_nv f k hk]
  exact hk2
end
set_option maxRecDepth 100000 in
theorem check_any (h : Hd) (f : h.Fit) (w : World) (hM : MostIn w) : Calls Tryd.prog 14 #[.agg (hv h)] w fun e w' => e = .returned (errS (hE h)) ∧ Below w.heap.size w w' := by
  have HM := Lib.hid hM
  have HC := Lib.hid (hnum_may f)
  have CN := Lib.hid (fun w => numbers_any h w)
  have CR := Lib.hid (fun w => rooted_any h w)
  obtain ⟨E, hE1⟩ : ∃ E, errS (hE h) = E := ⟨_, rfl⟩
  have HE0 : Hid (¬ HMay h → E = .iface 59 (.int .i64 1)) := fun hn => by rw [← hE1, hE, if_neg (by rw [hmayB_iff]; exact hn)]; rfl
  have HE1 : Hid (HMay h → E = .nilIface) := fun hn => by rw [← hE1, hE, if_pos (by rw [hmayB_iff]; exact hn)]; rfl
  rw [hE1]
  clear hM hE1 f
  go_enter Tryd.func14, Tryd.ntmps14
  go_wp2_with (first
    | (refine wpList_box_arr rfl HT (.tmp 0) rfl (hv h) (by rfl) ?_; intro g1 w1 hg1 hk1 hb1; have HK := Lib.hid hk1)
    | (refine wpList_load_agg rfl HT (.tmp 1) rfl g1 0 (hv h) (by rfl) agg_HT hk1.at (hv_size _) ?_))
  have HB := Lib.hid hb1
  clear hg1 hb1 hk1
  refine (CN.out w1).mono ?_
  rintro e w2 ⟨rfl, hb⟩
  replace HB := Lib.hid (HB.out.trans (hb.mono HB.out.size))
  replace HK := Lib.hid (HK.out.ext hb)
  clear hb
  have HM2 := Lib.hid (HM.out.below HB.out)
  go_wp2_with fail
  go_loop [3, 4, 7] (fun _ _ i => ∃ k : Nat, i = .int .i64 k ∧ k ≤ 5 ∧ Hid (∀ j, j < k → hnum h j ≤ msP j)) (fun _ _ i => 5 - (intOf i).toNat)
  case atStart => exact ⟨0, rfl, by omega, fun j hj => absurd hj (Nat.not_lt_zero j)⟩
  case round =>
    obtain ⟨k, rfl, hk, hi⟩ := hrel
    by_cases hlt : k < 5
    · have hlt2 : (k : Int) < 5 := by omega
      have q := HM2.out k hlt
      by_cases hle : hnum h k ≤ msP k
      · have hi2 : Hid (∀ j, j < k + 1 → hnum h j ≤ msP j) := fun j hj => by
          rcases Nat.lt_succ_iff_lt_or_eq.1 hj with h1 | h1
          · exact hi.out j h1
          · subst h1; exact hle
        obtain ⟨V, hV⟩ : ∃ V, hnum h k = V := ⟨_, rfl⟩
        obtain ⟨M, hMx⟩ : ∃ M, msP k = M := ⟨_, rfl⟩
        rw [hMx] at q hle
        rw [hV] at hle
        have d1 : decide ((M : Int) < (V : Int)) = false := decide_eq_false (by omega)
        have d2 : decide (M < V) = false := decide_eq_false (by omega)
        have HV := Lib.hid hV
        clear hi hMx hV hle
        go_wp2_with (first | (refine wpList_index_nv rfl (.tmp 6) (.tmp 7) rfl (hnum h) k (by rfl) (by rfl) hlt ?_; rw [HV.out]))
        go_round
        case rel => exact ⟨k + 1, by go_num, by omega, hi2⟩
        case measure => simp [intOf]; omega
      · obtain ⟨V, hV⟩ : ∃ V, hnum h k = V := ⟨_, rfl⟩
        obtain ⟨M, hMx⟩ : ∃ M, msP k = M := ⟨_, rfl⟩
        have HN : Hid (¬ HMay h) := fun hm => hle ((HC.out.2 hm).1 k hlt)
        rw [hMx] at q hle
        rw [hV] at hle
        have d1 : decide ((M : Int) < (V : Int)) = true := decide_eq_true (by omega)
        have d2 : decide (M < V) = true := decide_eq_true (by omega)
        have HV := Lib.hid hV
        clear hi hMx hV hle
        go_wp2_with (first | (refine wpList_index_nv rfl (.tmp 6) (.tmp 7) rfl (hnum h) k (by rfl) (by rfl) hlt ?_; rw [HV.out]))
        go_ret
        exact ⟨by rw [HE0.out HN.out]; rfl, HB.out⟩
    · obtain rfl : k = 5 := by omega
      clear hlt hk
      go_wp2_with (refine wpList_load_agg rfl HT (.tmp 1) rfl g1 0 (hv h) (by rfl) agg_HT HK.out.at (hv_size _) ?_)
      refine (CR.out w2).mono ?_
      rintro e w3 ⟨rfl, hb⟩
      replace HB := Lib.hid (HB.out.trans (hb.mono HB.out.size))
      clear hb
      cases hR : hrootB h with
      | false =>
        have HN : Hid (¬ HMay h) := fun hm => by have := (HC.out.2 hm).2; rw [hR] at this; cases this
        clear hR hi
        go_wp2
        go_ret
        exact ⟨by rw [HE0.out HN.out]; rfl, HB.out⟩
      | true =>
        have HN : Hid (HMay h) := HC.out.1 ⟨hi.out, hR⟩
        clear hR hi
        go_wp2
        go_ret
        exact ⟨by rw [HE1.out HN.out]; rfl, HB.out⟩
/-- The first k numbers, one behind the other. -/
def hpart (h : Hd) : Nat → List Nat
  | 0 => []
  | k + 1 => hpart h k ++ vb (hnum h k)
theorem hpart_len {h : Hd} (f : h.Fit) : ∀ k, (hpart h k).length ≤ 10 * k
  | 0 => Nat.le_refl _
  | k + 1 => by
    have h1 := hpart_len f k
    have h2 := vs_le (hnum_lt f k)
    unfold vs at h2
    show (hpart h k ++ vb (hnum h k)).length ≤ _
    rw [List.length_append]; omega
theorem hpart_all {h : Hd} (m : HMay h) : hpart h 5 = hload h := by
  show ((((([] ++ vb (hnum h 0)) ++ vb (hnum h 1)) ++ vb (hnum h 2)) ++ vb (hnum h 3)) ++ vb (hnum h 4)) = _
  rw [hnum_3 m, hnum_4 m]; rfl
set_option maxRecDepth 100000 in
theorem enc_yes (h : Hd) (m : HMay h) (w : World) (hM : MostIn w) (hT : WorthIn w) :
    Calls Tryd.prog 7 #[.agg (hv h)] w fun e w' => ∃ g, e = .returned (.tuple #[.slice (some ⟨g, 0, none⟩) 512 512, .nilIface]) ∧ w.heap.size ≤ g ∧ Row w' g 5 (hpage h) ∧ Below w.heap.size w w' := by
  have HM := Lib.hid hM
  have HT2 := Lib.hid hT
  have CC := Lib.hid (fun w => check_any h m.fit w)
  have CN := Lib.hid (fun w => numbers_any h w)
  have CS := Lib.hid (fun a n c l hn w hl hb hs hT => seal_in 4 a n c l hn w (by decide) (by decide) hl hb hs hT)
  rw [show hE h = 0 by unfold hE; rw [if_pos ((hmayB_iff h).2 m)], errS_0] at CC
  have HP := Lib.hid (hpart_len m.fit)
  have HA := Lib.hid (hpart_all m)
  have HL := Lib.hid (hnum_lt m.fit)
  have HQ := Lib.hid (hload_len m)
  clear hM hT m
  go_enter Tryd.func7, Tryd.ntmps7
  go_wp2_with (first
    | (refine wpList_box_arr rfl HT (.tmp 0) rfl (hv h) (by rfl) ?_; intro g1 w1 hg1 hk1 hb1; have HK := Lib.hid hk1)
    | (refine wpList_load_agg rfl HT (.tmp 1) rfl g1 0 (hv h) (by rfl) agg_HT hk1.at (hv_size _) ?_))
  have HB := Lib.hid hb1
  clear hg1 hb1 hk1
  refine (CC.out w1 (HM.out.below HB.out)).mono ?_
  rintro e w2 ⟨rfl, hb⟩
  replace HB := Lib.hid (HB.out.trans (hb.mono HB.out.size))
  replace HK := Lib.hid (HK.out.ext hb)
  clear hb
  go_wp2_with (refine wpList_load_agg rfl HT (.tmp 1) rfl g1 0 (hv h) (by rfl) agg_HT HK.out.at (hv_size _) ?_)
  refine (CN.out w2).mono ?_
  rintro e w3 ⟨rfl, hb⟩
  replace HB := Lib.hid (HB.out.trans (hb.mono HB.out.size))
  clear hb HK
  go_wp2_with fail
  go_loopw [5, 7, 15] (fun L _ i wr => ∃ (k : Nat) (v : Value), i = .int .i64 k ∧ k ≤ 5 ∧ L = v ∧ Hid (Sl wr v (hpart h k)) ∧ Hid (Below w.heap.size w wr)) (fun _ _ i _ => 5 - (intOf i).toNat)
  case atStart => exact ⟨0, _, rfl, by omega, rfl, Sl.none _, HB⟩
  case round =>
    obtain ⟨k, v, rfl, hk, rfl, hs, HB⟩ := hrel
    obtain ⟨a, c, rfl, hsrc, _⟩ := hs.out.arg
    obtain ⟨n, hn⟩ : ∃ n, (hpart h k).length = n := ⟨_, rfl⟩
    have hn2 : n ≤ 10 * k := by rw [← hn]; exact HP.out k
    have Hn := Lib.hid hn
    rw [hn]
    by_cases hlt : k < 5
    · have hlt2 : (k : Int) < 5 := by omega
      have H1 := Lib.hid (packNum_any a n c (hpart h k) hn (hnum h k) wr hsrc (by omega) (HL.out k))
      clear hs hsrc hn
      go_wp2_with (first | (refine wpList_index_nv rfl (.tmp 14) (.tmp 15) rfl (hnum h) k (by rfl) (by rfl) hlt ?_))
      refine H1.out.mono ?_
      rintro e w4 ⟨v', rfl, hs', hb⟩
      have HB4 := Lib.hid (HB.out.trans (hb.mono HB.out.size))
      have HS4 : Hid (Sl w4 v' (hpart h (k + 1))) := hs'
      clear hb hs' H1
      go_wp2
      go_roundw
      case rel => exact ⟨k + 1, v', by go_num, by omega, rfl, HS4, HB4⟩
      case measure => simp [intOf]; omega
    · obtain rfl : k = 5 := by omega
      have hsrc2 := hsrc
      rw [HA.out] at hn hsrc2
      have hq := HQ.out
      have H1 := Lib.hid (CS.out a n c (hload h) hn wr (by omega) (hload_b8 h) hsrc2 (HT2.out.below HB.out))
      clear hs hsrc hsrc2 hn hlt hk
      go_wp2_with fail
      refine H1.out.mono ?_
      rintro e w4 ⟨rfl, hr, hb⟩
      have HB4 := Lib.hid (HB.out.trans (hb.mono HB.out.size))
      have HR := Lib.hid hr
      have hz := HB.out.size
      have HZ := Lib.hid hz
      clear hb hr H1 hz
      go_wp2
      go_ret2
      exact ⟨_, rfl, HZ.out, HR.out, HB4.out⟩
theorem enc_no (h : Hd) (f : h.Fit) (m : ¬ HMay h) (w : World) (hM : MostIn w) :
    Calls Tryd.prog 7 #[.agg (hv h)] w fun e w' => e = .returned (.tuple #[.slice none 0 0, .iface 59 (.int .i64 1)]) ∧ Below w.heap.size w w' := by
  have HM := Lib.hid hM
  have CC := Lib.hid (fun w => check_any h f w)
  rw [show hE h = 1 by unfold hE; rw [if_neg (by rw [hmayB_iff]; exact m)], errS_1] at CC
  clear hM m f
  go_enter Tryd.func7, Tryd.ntmps7
  go_wp2_with (first
    | (refine wpList_box_arr rfl HT (.tmp 0) rfl (hv h) (by rfl) ?_; intro g1 w1 hg1 hk1 hb1; have HK := Lib.hid hk1)
    | (refine wpList_load_agg rfl HT (.tmp 1) rfl g1 0 (hv h) (by rfl) agg_HT hk1.at (hv_size _) ?_))
  have HB := Lib.hid hb1
  clear hg1 hb1 hk1
  refine (CC.out w1 (HM.out.below HB.out)).mono ?_
  rintro e w2 ⟨rfl, hb⟩
  replace HB := Lib.hid (HB.out.trans (hb.mono HB.out.size))
  clear hb HK
  go_wp2
  go_ret2
  exact ⟨rfl, HB.out⟩
end Go.Proofs.YtofbomcimicccaaDoor
