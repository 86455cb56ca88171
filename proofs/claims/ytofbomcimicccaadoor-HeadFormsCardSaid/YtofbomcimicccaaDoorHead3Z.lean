/-
  head's Decode.
-/
import Derived.Test.YtofbomcimicccaaDoorHead2Z
import Derived.Test.YtofbomcimicccaaDoorOpenSlZ
import Derived.Test.YtofbomcimicccaaDoorAsZ
namespace Go.Proofs.YtofbomcimicccaaDoor
open Go Go.RowKit

theorem errS_not {f : Nat} (h : f ≠ 0) : errS f = .iface 59 (.int .i64 f) := by unfold errS; rw [if_neg h]
theorem nv_noByte {w : World} {b : Nat} {t : TypeId} {f : Nat → Nat} (h : Blk w b t (nv f)) : NoByte w b := fun j x hx => by
  rw [h.cell] at hx
  have hj : j < 5 := (Array.getElem?_eq_some_iff.1 hx).1
  rw [nv_get f j hj] at hx
  cases hx
/-- The first k numbers, noughts behind. -/
def hfst (ms : Nat → Nat) (l : List Nat) (k : Nat) : Nat → Nat := fun i => if i < k then hnu ms l i else 0
theorem hfst_0 (ms : Nat → Nat) (l : List Nat) : nv (hfst ms l 0) = nv (fun _ => 0) := nv_ext fun i _ => by simp [hfst]
theorem hfst_5 (ms : Nat → Nat) (l : List Nat) : nv (hfst ms l 5) = nv (hnu ms l) := nv_ext fun i hi => by simp [hfst, hi]
theorem hfst_next (ms : Nat → Nat) (l : List Nat) (k : Nat) : nv (fun i => if i = k then hnu ms l k else hfst ms l k i) = nv (hfst ms l (k + 1)) := nv_ext fun i _ => by
  unfold hfst
  by_cases h1 : i = k
  · subst h1; rw [if_pos rfl, if_pos (by omega)]
  · rw [if_neg h1]
    by_cases h2 : i < k
    · rw [if_pos h2, if_pos (by omega)]
    · rw [if_neg h2, if_neg (by omega)]
/-- What stands in memory while the numbers are read: the result, the reader, the numbers. -/
structure DecP (w0 w : World) (T : TypeId) (g b n : Nat) (S : RS) (f : Nat → Nat) : Prop where
  below : Below w0.heap.size w0 w
  res : Blk w g T (hv hd0)
  rd : Rd w b S
  num : Blk w n NT (nv f)
  gb : g < b
  bn : b < n
  lo : w0.heap.size ≤ g
theorem DecP.step {w0 w w1 : World} {T : TypeId} {g b n : Nat} {S S' : RS} {f : Nat → Nat} (h : DecP w0 w T g b n S f) (hr : Rd w1 b S') (ht : Turn (fun i => i = b) w w1) : DecP w0 w1 T g b n S' f :=
  ⟨h.below.trans (ht.below h.below.size (fun i hi => by subst hi; have := h.gb; have := h.lo; omega)), h.res.turn ht (by have := h.gb; omega), hr, h.num.turn ht (by have := h.bn; omega), h.gb, h.bn, h.lo⟩
theorem DecP.set {w0 w : World} {T : TypeId} {g b n : Nat} {S : RS} {f : Nat → Nat} (h : DecP w0 w T g b n S f) (k v : Nat) (hk : k < 5) : DecP w0 (w.setCell ⟨n, k, none⟩ (.int .u64 (v : Nat))) T g b n S (fun i => if i = k then v else f i) := by
  have ht := turn_set1 w n k (.int .u64 (v : Nat))
  have hg : g ≠ n := by have := h.gb; have := h.bn; omega
  have hb : b ≠ n := by have := h.bn; omega
  exact ⟨h.below.trans (ht.below h.below.size (fun i hi => by subst hi; have := h.gb; have := h.bn; have := h.lo; omega)), h.res.turn ht hg, h.rd.turn ht hb (nv_noByte h.num), h.num.num_set k v hk, h.gb, h.bn, h.lo⟩
theorem dec_err (v : Value) (l : List Nat) (w : World) (he : (opS l).2.2 ≠ 0)
    (hO : ∀ w1, Below w.heap.size w w1 → Calls Tryd.prog 22 #[v] w1 fun e w' => ∃ u, e = .returned (.tuple #[.int .u8 ((opS l).1 : Nat), u, errS (opS l).2.2]) ∧ Sl w' u (opS l).2.1 ∧ Below w1.heap.size w1 w') :
    Calls Tryd.prog 9 #[v] w fun e w' => e = .returned (.tuple #[.agg (hv (hdec l).1), errS (hdec l).2]) ∧ Below w.heap.size w w' := by
  have H := Lib.hid hO
  rw [hdec_err he]
  rw [errS_not he] at H
  dsimp only
  rw [errS_not he]
  generalize (opS l).2.2 = E at *
  clear hO he
  go_enter Tryd.func9, Tryd.ntmps9
  go_wp2_with (refine wpList_alloc_arr rfl HT rfl arrz_HT ?_; intro g1 w1 hg1 hk1 hb1)
  have HB := Lib.hid hb1
  have HK := Lib.hid hk1
  refine (H.out w1 HB.out).mono ?_
  rintro e w2 ⟨u, rfl, _, hb⟩
  replace HB := Lib.hid (HB.out.trans (hb.mono HB.out.size))
  replace HK := Lib.hid (HK.out.ext hb)
  clear hb hb1 hk1 H
  go_wp2_with (first
    | (refine wpList_build rfl HT _ rfl _ (by rfl) (hv hd0) (build_h0 _) ?_)
    | (refine wpList_store_agg rfl HT (.tmp 2) (.tmp 19) rfl g1 (hv hd0) _ HT (by rfl) (by rfl) agg_HT HK.out (hv_size _) (hv_size _) (hv_one _) ?_; intro w8 hk8 ht8 hs8))
  refine bodyPost_ret (v := .tuple #[.agg (hv hd0), .iface 59 (.int .i64 E)]) ?_ rfl ?_
  · exact results_agg2 agg_HT rfl _ _ g1 _ _ (by rfl) (by rfl) hk8 (hv_size _)
  · exact ⟨rfl, HB.out.trans (ht8.below HB.out.size (fun i hi => by subst hi; exact hg1))⟩
theorem dec_kind (v : Value) (l : List Nat) (w : World) (he : (opS l).2.2 = 0) (hk : (opS l).1 ≠ 4)
    (hO : ∀ w1, Below w.heap.size w w1 → Calls Tryd.prog 22 #[v] w1 fun e w' => ∃ u, e = .returned (.tuple #[.int .u8 ((opS l).1 : Nat), u, errS (opS l).2.2]) ∧ Sl w' u (opS l).2.1 ∧ Below w1.heap.size w1 w') :
    Calls Tryd.prog 9 #[v] w fun e w' => e = .returned (.tuple #[.agg (hv (hdec l).1), errS (hdec l).2]) ∧ Below w.heap.size w w' := by
  have H := Lib.hid hO
  rw [hdec_form he (fun h => hk h.1)]
  rw [he, errS_0] at H
  dsimp only
  rw [errS_3]
  obtain ⟨K, hK⟩ : ∃ K, (opS l).1 = K := ⟨_, rfl⟩
  rw [hK] at H hk
  have d1 : ((K : Int) != 4) = true := by simp; omega
  clear hO he hk hK
  go_enter Tryd.func9, Tryd.ntmps9
  go_wp2_with (refine wpList_alloc_arr rfl HT rfl arrz_HT ?_; intro g1 w1 hg1 hk1 hb1)
  have HB := Lib.hid hb1
  have HK := Lib.hid hk1
  refine (H.out w1 HB.out).mono ?_
  rintro e w2 ⟨u, rfl, _, hb⟩
  replace HB := Lib.hid (HB.out.trans (hb.mono HB.out.size))
  replace HK := Lib.hid (HK.out.ext hb)
  clear hb hb1 hk1 H
  go_wp2_with (first
    | (refine wpList_build rfl HT _ rfl _ (by rfl) (hv hd0) (build_h0 _) ?_)
    | (refine wpList_store_agg rfl HT (.tmp 2) (.tmp 23) rfl g1 (hv hd0) _ HT (by rfl) (by rfl) agg_HT HK.out (hv_size _) (hv_size _) (hv_one _) ?_; intro w8 hk8 ht8 hs8))
  refine bodyPost_ret (v := .tuple #[.agg (hv hd0), .iface 59 (.int .i64 3)]) ?_ rfl ?_
  · exact results_agg2 agg_HT rfl _ _ g1 _ _ (by rfl) (by rfl) hk8 (hv_size _)
  · exact ⟨rfl, HB.out.trans (ht8.below HB.out.size (fun i hi => by subst hi; exact hg1))⟩
set_option maxRecDepth 100000 in
theorem dec_load (v : Value) (l : List Nat) (w : World) (hb8 : B8 l) (he : (opS l).2.2 = 0) (hk : (opS l).1 = 4) (hM : MostIn w)
    (hO : ∀ w1, Below w.heap.size w w1 → Calls Tryd.prog 22 #[v] w1 fun e w' => ∃ u, e = .returned (.tuple #[.int .u8 ((opS l).1 : Nat), u, errS (opS l).2.2]) ∧ Sl w' u (opS l).2.1 ∧ Below w1.heap.size w1 w') :
    Calls Tryd.prog 9 #[v] w fun e w' => e = .returned (.tuple #[.agg (hv (hdec l).1), errS (hdec l).2]) ∧ Below w.heap.size w w' := by
  have H := Lib.hid hO
  have HM := Lib.hid hM
  obtain ⟨X, hX⟩ : ∃ X, hdec l = X := ⟨_, rfl⟩
  obtain ⟨L, hL⟩ : ∃ L, (opS l).2.1 = L := ⟨_, rfl⟩
  have hP := prog_good L
  have hGood : okS (hst msP L 5) = true → hrootB (hof (hnu msP L)) = true → X = (hof (hnu msP L), 0) := fun h1 h2 => by
    have hg := hP.1.1 (by rw [h1, h2]; rfl)
    rw [← hX, hdec_good he (by rw [hL]; exact ⟨hk, hg⟩), hL, hP.2 hg]
  have hBad : ¬ (okS (hst msP L 5) = true ∧ hrootB (hof (hnu msP L)) = true) → X = (hd0, 3) := fun h1 => by
    rw [← hX, hdec_form he]
    rw [hL]
    rintro ⟨_, hg⟩
    have := hP.1.2 hg
    rw [Bool.and_eq_true] at this
    exact h1 this
  have HG := Lib.hid hGood
  have HN := Lib.hid hBad
  have H8 : Hid (B8 L) := by rw [← hL]; exact (opS_b8 hb8).2.1
  have hlen : L.length ≤ 504 := by rw [← hL]; exact opS_few l
  rw [hX]
  rw [he, hk, hL, errS_0] at H
  have C1 := Lib.hid (fun a n c hn w hs hz hl hb8 => new_any a n c L hn w hs hz hl hb8)
  have h3 : hnu msP L 3 ≤ 4096 := Nat.le_trans (hnu_le msP L 3) (by decide)
  have h4 : hnu msP L 4 ≤ 4096 := Nat.le_trans (hnu_le msP L 4) (by decide)
  have C2 := Lib.hid (fun w => headOf_any (hnu msP L) h3 h4 w)
  have C3 := Lib.hid (fun w => rooted_any (hof (hnu msP L)) w)
  have HF := Lib.hid (hfst_5 msP L)
  have HF0 := Lib.hid (hfst_0 msP L)
  have HFn := Lib.hid (hfst_next msP L)
  clear hO hM he hk hX hL hP hGood hBad h3 h4 hb8
  go_enter Tryd.func9, Tryd.ntmps9
  go_wp2_with (refine wpList_alloc_arr rfl HT rfl arrz_HT ?_; intro g1 w1 hg1 hk1 hb1)
  have HB := Lib.hid hb1
  have HK := Lib.hid hk1
  have Hg1 := Lib.hid hg1
  have Hg1' := Lib.hid hk1.lt
  refine (H.out w1 HB.out).mono ?_
  rintro e w2 ⟨u, rfl, hs, hb⟩
  replace HB := Lib.hid (HB.out.trans (hb.mono HB.out.size))
  replace HK := Lib.hid (HK.out.ext hb)
  have Hz2 := Lib.hid hb.size
  obtain ⟨a, c, rfl, hsrc, hz, _⟩ := hs.arg
  obtain ⟨n, hn⟩ : ∃ n, L.length = n := ⟨_, rfl⟩
  have H1 := Lib.hid (C1.out a n c hn w2 hsrc hz (by omega) H8.out)
  rw [hn]
  clear hb hb1 hk1 hg1 H C1 hs hsrc hz hlen hn H8
  go_wp2_with fail
  refine H1.out.mono ?_
  rintro e w3 ⟨b, rfl, hbz, hr, hb⟩
  replace HB := Lib.hid (HB.out.trans (hb.mono HB.out.size))
  replace HK := Lib.hid (HK.out.ext hb)
  have HR := Lib.hid hr
  have Hb1 : Hid (g1 < b) := by show _ < _; have := Hz2.out; have := Hg1'.out; omega
  clear hb hr hbz H1
  go_wp2_with (refine wpList_alloc_arr rfl NT rfl arrz_NT ?_; intro g2 w4 hg2 hk2 hb2)
  have HD : Hid (DecP w w4 HT g1 b g2 (hst msP L 0) (hfst msP L 0)) :=
    ⟨HB.out.trans (hb2.mono HB.out.size), HK.out.ext hb2, HR.out.below hb2 (Nat.le_refl _), by rw [HF0.out]; exact hk2, Hb1.out, Nat.lt_of_lt_of_le HR.out.lt hg2, Hg1.out⟩
  clear HB HK HR hb2 hk2 hg2 Hb1
  go_loopw [9, 27] (fun _ i wr => ∃ k : Nat, i = .int .i64 k ∧ k ≤ 5 ∧ Hid (DecP w wr HT g1 b g2 (hst msP L k) (hfst msP L k))) (fun _ i _ => 5 - (intOf i).toNat)
  case atStart => exact ⟨0, rfl, by omega, HD⟩
  case round =>
    obtain ⟨k, rfl, hk, HD⟩ := hrel
    by_cases hlt : k < 5
    · have hlt2 : (k : Int) < 5 := by omega
      have q := (HM.out.below HD.out.below) k hlt
      have H1 := rnum_any wr b (hst msP L k) HD.out.rd (msP k)
      rw [show (numS (hst msP L k) (msP k)).1 = hnu msP L k from rfl, show (numS (hst msP L k) (msP k)).2 = hst msP L (k + 1) from rfl] at H1
      have HF2 := Lib.hid (HFn.out k)
      obtain ⟨M, hMx⟩ : ∃ M, msP k = M := ⟨_, rfl⟩
      obtain ⟨V, hV⟩ : ∃ V, hnu msP L k = V := ⟨_, rfl⟩
      rw [hMx] at q H1
      rw [hV] at H1 HF2
      have H2 := Lib.hid H1
      clear H1 hMx hV
      go_wp2_with fail
      refine H2.out.mono ?_
      rintro e w5 ⟨rfl, hr, ht⟩
      have HD5 := Lib.hid (HD.out.step hr ht)
      have q1 := HD5.out.num.num k hlt
      have q2 := HD5.out.num.fz k
      have HD6 : Hid (DecP w (w5.setCell ⟨g2, k, none⟩ (.int .u64 (V : Nat))) HT g1 b g2 (hst msP L (k + 1)) (hfst msP L (k + 1))) := by
        have h := HD5.out.set k V hlt
        refine ⟨h.below, h.res, h.rd, ?_, h.gb, h.bn, h.lo⟩
        rw [← HF2.out]; exact h.num
      clear hr ht H2 HD q
      go_wp2
      go_roundw
      case rel => exact ⟨k + 1, by go_num, by omega, HD6⟩
      case measure => simp [intOf]; omega
    · obtain rfl : k = 5 := by omega
      have HNum : Hid (Blk wr g2 NT (nv (hnu msP L))) := by have := HD.out.num; rw [HF.out] at this; exact this
      have H4 := Lib.hid (done_any wr b (hst msP L 5) HD.out.rd)
      clear hlt hk HF HF0 HFn
      go_wp2_with (refine wpList_load_agg rfl NT (.tmp 8) rfl g2 0 (nv (hnu msP L)) (by rfl) agg_NT HNum.out.at (nv_size _) ?_)
      refine (C2.out wr).mono ?_
      rintro e w5 ⟨rfl, hb⟩
      have HB := Lib.hid (HD.out.below.trans (hb.mono HD.out.below.size))
      have HK := Lib.hid (HD.out.res.ext hb)
      have HR := Lib.hid (HD.out.rd.below hb (Nat.le_refl _))
      have Hlo := Lib.hid HD.out.lo
      clear hb H4 HNum HD
      obtain ⟨Y, hY⟩ : ∃ Y, hof (hnu msP L) = Y := ⟨_, rfl⟩
      rw [hY] at C3 HG HN
      rw [hY]
      clear hY C2
      go_wp2_with (first
        | (refine wpList_alloc_arr rfl HT rfl arrz_HT ?_; intro g3 w6 hg3 hk3 hb3)
        | (refine wpList_store_agg rfl HT (.tmp 10) (.tmp 39) rfl g3 (hv Y) _ HT (by rfl) (by rfl) agg_HT hk3 (hv_size _) (hv_size _) (hv_one _) ?_; intro w7 hk7 ht7 hs7))
      have bb : Ext w5 w7 := hb3.trans (ht7.below hb3.size (fun i hi => by subst hi; exact hg3))
      replace HB := Lib.hid (HB.out.trans (Below.mono bb HB.out.size))
      replace HK := Lib.hid (HK.out.ext bb)
      have HK3 := Lib.hid hk7
      have H4 := Lib.hid (done_any w7 b (hst msP L 5) (HR.out.below bb (Nat.le_refl _)))
      clear hg3 hk3 hb3 hk7 ht7 hs7 bb HR
      refine H4.out.mono ?_
      rintro e w8 ⟨rfl, rfl⟩
      clear H4
      cases hok : okS (hst msP L 5) with
      | false =>
        have HX := Lib.hid (HN.out (fun h => by rw [hok] at h; cases h.1))
        have e1 : doneV (hst msP L 5) = errV 3 := by unfold doneV; rw [hok]; rfl
        rw [e1, show errV 3 = .iface 59 (.int .i64 3) from rfl]
        clear hok e1 HG HN C3
        go_wp2_with (first
          | (refine wpList_build rfl HT _ rfl _ (by rfl) (hv hd0) (build_h0 _) ?_)
          | (refine wpList_store_agg rfl HT (.tmp 2) (.tmp 48) rfl g1 (hv hd0) _ HT (by rfl) (by rfl) agg_HT HK.out (hv_size _) (hv_size _) (hv_one _) ?_; intro w8 hk8 ht8 hs8))
        refine bodyPost_ret (v := .tuple #[.agg (hv hd0), .iface 59 (.int .i64 3)]) ?_ rfl ?_
        · exact results_agg2 agg_HT rfl _ _ g1 _ _ (by rfl) (by rfl) hk8 (hv_size _)
        · exact ⟨by rw [HX.out]; rfl, HB.out.trans (ht8.below HB.out.size (fun i hi => by subst hi; exact Hlo.out))⟩
      | true =>
        have e1 : doneV (hst msP L 5) = .nilIface := by unfold doneV; rw [hok]; rfl
        rw [e1]
        have HG2 := Lib.hid (HG.out hok)
        have HN2 := Lib.hid (fun (h : ¬ hrootB Y = true) => HN.out (fun h2 => h h2.2))
        clear hok e1 HG HN
        go_wp2_with (refine wpList_load_agg_when (by rfl) HT (.tmp 10) rfl g3 0 (hv Y) (by rfl) agg_HT HK3.out.at (hv_size _) ?_)
        refine (C3.out _).mono ?_
        rintro e w8 ⟨rfl, hb⟩
        replace HB := Lib.hid (HB.out.trans (hb.mono HB.out.size))
        replace HK := Lib.hid (HK.out.ext hb)
        replace HK3 := Lib.hid (HK3.out.ext hb)
        clear hb C3
        cases hR : hrootB Y with
        | false =>
          have HX := Lib.hid (HN2.out (by rw [hR]; decide))
          clear hR HG2 HN2
          go_wp2_with (first
            | (refine wpList_build rfl HT _ rfl _ (by rfl) (hv hd0) (build_h0 _) ?_)
            | (refine wpList_store_agg rfl HT (.tmp 2) (.tmp 48) rfl g1 (hv hd0) _ HT (by rfl) (by rfl) agg_HT HK.out (hv_size _) (hv_size _) (hv_one _) ?_; intro w9 hk9 ht9 hs9))
          refine bodyPost_ret (v := .tuple #[.agg (hv hd0), .iface 59 (.int .i64 3)]) ?_ rfl ?_
          · exact results_agg2 agg_HT rfl _ _ g1 _ _ (by rfl) (by rfl) hk9 (hv_size _)
          · exact ⟨by rw [HX.out]; rfl, HB.out.trans (ht9.below HB.out.size (fun i hi => by subst hi; exact Hlo.out))⟩
        | true =>
          have HX := Lib.hid (HG2.out hR)
          clear hR HG2 HN2
          go_wp2_with (first
            | (refine wpList_load_agg rfl HT (.tmp 10) rfl g3 0 (hv Y) (by rfl) agg_HT HK3.out.at (hv_size _) ?_)
            | (refine wpList_store_agg rfl HT (.tmp 2) (.tmp 50) rfl g1 (hv Y) _ HT (by rfl) (by rfl) agg_HT HK.out (hv_size _) (hv_size _) (hv_one _) ?_; intro w9 hk9 ht9 hs9))
          refine bodyPost_ret (v := .tuple #[.agg (hv Y), .nilIface]) ?_ rfl ?_
          · exact results_agg2 agg_HT rfl _ _ g1 _ _ (by rfl) (by rfl) hk9 (hv_size _)
          · exact ⟨by rw [HX.out]; rfl, HB.out.trans (ht9.below HB.out.size (fun i hi => by subst hi; exact Hlo.out))⟩
/-- head.Decode, of whatever bytes. -/
theorem dec_any (a : Option Addr) (n c : Nat) (l : List Nat) (hn : l.length = n) (w : World) (hb : B8 l) (hlc : n ≤ c) (hcm : c ≤ 140737488355328) (hsrc : Src w a l) (hT : WorthIn w) (hM : MostIn w) :
    Calls Tryd.prog 9 #[.slice a n c] w fun e w' => e = .returned (.tuple #[.agg (hv (hdec l).1), errS (hdec l).2]) ∧ Below w.heap.size w w' := by
  have hO : ∀ w1, Below w.heap.size w w1 → Calls Tryd.prog 22 #[.slice a n c] w1 fun e w' => ∃ u, e = .returned (.tuple #[.int .u8 ((opS l).1 : Nat), u, errS (opS l).2.2]) ∧ Sl w' u (opS l).2.1 ∧ Below w1.heap.size w1 w' :=
    fun w1 hb1 => open_sl a n c l hn w1 hb hlc hcm (hsrc.below hb1 (Nat.le_refl _)) (hT.below hb1)
  by_cases he : (opS l).2.2 = 0
  · by_cases hk : (opS l).1 = 4
    · exact dec_load _ l w hb he hk hM hO
    · exact dec_kind _ l w he hk hO
  · exact dec_err _ l w he hO
end Go.Proofs.YtofbomcimicccaaDoor
