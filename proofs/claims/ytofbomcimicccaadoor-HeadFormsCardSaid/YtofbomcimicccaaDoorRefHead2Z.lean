/-
  The document's Decode.
-/
import Derived.Test.YtofbomcimicccaaDoorRefHead1Z
import Derived.Test.YtofbomcimicccaaDoorOpenSlZ
import Derived.Test.YtofbomcimicccaaDoorRefRd2Z
import Derived.Test.YtofbomcimicccaaDoorRefDoneZ
import Derived.Test.YtofbomcimicccaaDoorHead3Z
namespace Go.Proofs.YtofbomcimicccaaDoor
open Go Go.RowKit

/-- The document's reader: its two cells. -/
def rc (v : Value) (b : Bool) : Array Value := #[v, .bool b]
theorem rc_size (v : Value) (b : Bool) : (rc v b).size = 2 := rfl
theorem rc_one {w : World} {v : Value} {l : List Nat} (h : Sl w v l) (b : Bool) : (rc v b).all (·.oneCell') = true := by
  obtain ⟨a, c, rfl, _⟩ := h.arg
  simp [rc, Value.oneCell']
theorem agg_RFT : AggT RFT 2 := ⟨⟨_, Tryd.underlying69, rfl⟩, by kernel_rfl⟩
theorem arrz_RFT : ArrZ RFT (rc (.slice none 0 0) false) := fun w => by kernel_rfl
theorem build_rd (a : Option Addr) (n c : Nat) (w : World) : (Instr.build RFT #[(0, .slice a n c)]).run Tryd.prog w = .ok (.agg (rc (.slice a n c) false)) w := by kernel_rfl
theorem rc_noByte {w : World} {b : Nat} {v : Value} {x : Bool} {l : List Nat} (h : Blk w b RFT (rc v x)) (hs : Sl w v l) : NoByte w b := fun j y hy => by
  obtain ⟨a, c, rfl, _⟩ := hs.arg
  rw [h.cell] at hy
  unfold rc at hy
  rcases j with _ | _ | j <;> simp at hy
/-- What stands in memory while the numbers are read. -/
structure RDec (w0 w : World) (g r n : Nat) (S : RS) (f : Nat → Nat) (v : Value) : Prop where
  below : Below w0.heap.size w0 w
  res : Blk w g RHT (hv hd0)
  box : Blk w r RFT (rc v S.wr)
  sl : Sl w v S.l
  b8 : B8 S.l
  len : S.l.length ≤ 65536
  inv : S.wr = true → S.l = []
  num : Blk w n RNT (nv f)
  gr : g < r
  rn : r < n
  lo : w0.heap.size ≤ g
theorem RDec.rf {w0 w : World} {g r n : Nat} {S : RS} {f : Nat → Nat} {v : Value} (h : RDec w0 w g r n S f v) : RfW w (.agg (rc v S.wr)) S :=
  Rf.weak ⟨⟨v, rfl, h.sl⟩, h.b8, h.len, h.inv⟩
theorem RDec.ext {w0 w w1 : World} {g r n : Nat} {S : RS} {f : Nat → Nat} {v : Value} (h : RDec w0 w g r n S f v) (hb : Ext w w1) : RDec w0 w1 g r n S f v :=
  ⟨h.below.trans (Below.mono hb h.below.size), h.res.ext hb, h.box.ext hb, h.sl.below hb (Nat.le_refl _), h.b8, h.len, h.inv, h.num.ext hb, h.gr, h.rn, h.lo⟩
theorem RDec.put {w0 w w1 : World} {g r n : Nat} {S S' : RS} {f : Nat → Nat} {v v' : Value} (h : RDec w0 w g r n S f v) (hk : Blk w1 r RFT (rc v' S'.wr)) (hs : Sl w v' S'.l) (hb8 : B8 S'.l) (hl : S'.l.length ≤ 65536) (hi : S'.wr = true → S'.l = [])
    (ht : Turn (fun i => i = r) w w1) : RDec w0 w1 g r n S' f v' :=
  ⟨h.below.trans (ht.below h.below.size (fun i hi => by subst hi; have := h.gr; have := h.lo; omega)), h.res.turn ht (by have := h.gr; omega), hk, hs.turn ht (rc_noByte h.box h.sl), hb8, hl, hi, h.num.turn ht (by have := h.rn; omega), h.gr, h.rn, h.lo⟩
theorem RDec.set {w0 w : World} {g r n : Nat} {S : RS} {f : Nat → Nat} {v : Value} (h : RDec w0 w g r n S f v) (k x : Nat) (hk : k < 5) : RDec w0 (w.setCell ⟨n, k, none⟩ (.int .u64 (x : Nat))) g r n S (fun i => if i = k then x else f i) v := by
  have ht := turn_set1 w n k (.int .u64 (x : Nat))
  have hg : g ≠ n := by have := h.gr; have := h.rn; omega
  have hb : r ≠ n := by have := h.rn; omega
  exact ⟨h.below.trans (ht.below h.below.size (fun i hi => by subst hi; have := h.gr; have := h.rn; have := h.lo; omega)), h.res.turn ht hg, h.box.turn ht hb, h.sl.turn ht (nv_noByte h.num), h.b8, h.len, h.inv, h.num.num_set k x hk, h.gr, h.rn, h.lo⟩
theorem refDec_err (v : Value) (l : List Nat) (w : World) (he : (opS l).2.2 ≠ 0)
    (hO : ∀ w1, Below w.heap.size w w1 → Calls Tryd.prog 28 #[v] w1 fun e w' => ∃ u, e = .returned (.tuple #[.int .u8 ((opS l).1 : Nat), u, .int .i64 ((opS l).2.2 : Nat)]) ∧ Sl w' u (opS l).2.1 ∧ Below w1.heap.size w1 w') :
    Calls Tryd.prog 10 #[v] w fun e w' => e = .returned (.tuple #[.agg (hv (hdec l).1), .int .i64 ((hdec l).2 : Nat)]) ∧ Below w.heap.size w w' := by
  have H := Lib.hid hO
  rw [hdec_err he]
  dsimp only
  generalize (opS l).2.2 = E at *
  have d1 : ((E : Int) != 0) = true := by simp; omega
  clear hO he
  go_enter Tryd.func10, Tryd.ntmps10
  go_wp2_with (refine wpList_alloc_arr rfl RHT rfl arrz_RHT ?_; intro g1 w1 hg1 hk1 hb1)
  have HB := Lib.hid hb1
  have HK := Lib.hid hk1
  refine (H.out w1 HB.out).mono ?_
  rintro e w2 ⟨u, rfl, _, hb⟩
  replace HB := Lib.hid (HB.out.trans (hb.mono HB.out.size))
  replace HK := Lib.hid (HK.out.ext hb)
  clear hb hb1 hk1 H
  go_wp2_with (first
    | (refine wpList_build rfl RHT _ rfl _ (by rfl) (hv hd0) (build_rh0 _) ?_)
    | (refine wpList_store_agg rfl RHT (.tmp 2) (.tmp 21) rfl g1 (hv hd0) _ RHT (by rfl) (by rfl) agg_RHT HK.out (hv_size _) (hv_size _) (hv_one _) ?_; intro w8 hk8 ht8 hs8))
  refine bodyPost_ret (v := .tuple #[.agg (hv hd0), .int .i64 (E : Nat)]) ?_ rfl ?_
  · exact results_agg2 agg_RHT rfl _ _ g1 _ _ (by rfl) (by rfl) hk8 (hv_size _)
  · exact ⟨rfl, HB.out.trans (ht8.below HB.out.size (fun i hi => by subst hi; exact hg1))⟩
set_option maxRecDepth 100000 in
set_option maxHeartbeats 1000000 in
theorem refDec_load (v : Value) (l : List Nat) (w : World) (hb8 : B8 l) (he : (opS l).2.2 = 0)
    (hO : ∀ w1, Below w.heap.size w w1 → Calls Tryd.prog 28 #[v] w1 fun e w' => ∃ u, e = .returned (.tuple #[.int .u8 ((opS l).1 : Nat), u, .int .i64 ((opS l).2.2 : Nat)]) ∧ Sl w' u (opS l).2.1 ∧ Below w1.heap.size w1 w') :
    Calls Tryd.prog 10 #[v] w fun e w' => e = .returned (.tuple #[.agg (hv (hdec l).1), .int .i64 ((hdec l).2 : Nat)]) ∧ Below w.heap.size w w' := by
  have H := Lib.hid hO
  obtain ⟨X, hX⟩ : ∃ X, hdec l = X := ⟨_, rfl⟩
  obtain ⟨L, hL⟩ : ∃ L, (opS l).2.1 = L := ⟨_, rfl⟩
  obtain ⟨K, hK⟩ : ∃ K, (opS l).1 = K := ⟨_, rfl⟩
  have hP := ref_good L
  have HG : Hid (K = 4 → okS (hst msD L 5) = true → hnu msD L 3 ≤ 1023 → hnu msD L 4 ≤ 4096 → hmayB (hof (hnu msD L)) = true → X = (hof (hnu msD L), 0)) := fun hk h1 h2 h3 h4 => by
    have hg := hP.1.1 ⟨⟨h1, h2, h3⟩, (hmayB_iff _).1 h4⟩
    rw [← hX, hdec_good he (by rw [hL, hK]; exact ⟨hk, hg⟩), hL, hP.2 hg]
  have HN : Hid (¬ (K = 4 ∧ (okS (hst msD L 5) = true ∧ hnu msD L 3 ≤ 1023 ∧ hnu msD L 4 ≤ 4096) ∧ hmayB (hof (hnu msD L)) = true) → X = (hd0, 3)) := fun h1 => by
    rw [← hX, hdec_form he]
    rw [hL, hK]
    rintro ⟨hk, hg⟩
    obtain ⟨h2, h3⟩ := hP.1.2 hg
    exact h1 ⟨hk, h2, (hmayB_iff _).2 h3⟩
  have H8 : Hid (B8 L) := by rw [← hL]; exact (opS_b8 hb8).2.1
  have hlen : L.length ≤ 504 := by rw [← hL]; exact opS_few l
  rw [hX]
  rw [he, hK, hL] at H
  have HF := Lib.hid (hfst_5 msD L)
  have HF0 := Lib.hid (hfst_0 msD L)
  have HFn := Lib.hid (hfst_next msD L)
  have HL := Lib.hid hlen
  clear hO he hX hL hP hK hb8 hlen
  go_enter Tryd.func10, Tryd.ntmps10
  go_wp2_with (refine wpList_alloc_arr rfl RHT rfl arrz_RHT ?_; intro g1 w1 hg1 hk1 hb1)
  have HB := Lib.hid hb1
  have HK := Lib.hid hk1
  have Hg1 := Lib.hid hg1
  have Hg1' := Lib.hid hk1.lt
  refine (H.out w1 HB.out).mono ?_
  rintro e w2 ⟨u, rfl, hs, hb⟩
  replace HB := Lib.hid (HB.out.trans (hb.mono HB.out.size))
  replace HK := Lib.hid (HK.out.ext hb)
  have Hz2 := Lib.hid hb.size
  have HS := Lib.hid hs
  obtain ⟨a, c, rfl, _⟩ := hs.arg
  clear hb hb1 hk1 hg1 H hs
  go_wp2_with (first
    | (refine wpList_build rfl RFT _ rfl _ (by rfl) (rc (.slice a L.length c) false) (build_rd _ _ _ _) ?_)
    | (refine wpList_alloc_arr rfl RFT rfl arrz_RFT ?_; intro g7 w3 hg7 hk7 hb7)
    | (refine wpList_store_agg rfl RFT (.tmp 7) (.tmp 24) rfl g7 (rc (.slice a L.length c) false) _ RFT (by rfl) (by rfl) agg_RFT hk7 (rc_size _ _) (rc_size _ _) (rc_one HS.out _) ?_; intro w4 hk7' ht7 hs7)
    | (refine wpList_alloc_arr rfl RNT rfl arrz_RNT ?_; intro g8 w5 hg8 hk8 hb8))
  have HD : Hid (RDec w w5 g1 g7 g8 (hst msD L 0) (hfst msD L 0) (.slice a L.length c)) := by
    have bb : Ext w2 w4 := hb7.trans (ht7.below hb7.size (fun i hi => by subst hi; exact hg7))
    have b5 : Ext w2 w5 := bb.trans hb8
    refine ⟨HB.out.trans (Below.mono b5 HB.out.size), HK.out.ext b5, hk7'.ext hb8, HS.out.below b5 (Nat.le_refl _), H8.out, by have := HL.out; show L.length ≤ 65536; omega, (fun h => by cases h), by rw [HF0.out]; exact hk8, ?_, ?_, Hg1.out⟩
    · have := Hz2.out; have := Hg1'.out; omega
    · have := hk7'.lt; omega
  clear HB HK Hg1 Hg1' Hz2 HS hg7 hk7 hb7 hk7' ht7 hs7 hg8 hk8 hb8 H8 HL
  go_loopw [9, 10, 11] (fun i _ _ wr => ∃ (k : Nat) (u : Value), i = .int .i64 k ∧ k ≤ 5 ∧ Hid (RDec w wr g1 g7 g8 (hst msD L k) (hfst msD L k) u)) (fun i _ _ _ => 5 - (intOf i).toNat)
  case atStart => exact ⟨0, _, rfl, by omega, HD⟩
  case round =>
    obtain ⟨k, u, rfl, hk, HD⟩ := hrel
    by_cases hlt : k < 5
    · have hlt2 : (k : Int) < 5 := by omega
      have H1 := refNum_any wr (.agg (rc u (hst msD L k).wr)) (hst msD L k) HD.out.rf B62
      rw [show (numS (hst msD L k) B62).1 = hnu msD L k from rfl, show (numS (hst msD L k) B62).2 = hst msD L (k + 1) from rfl] at H1
      have HF2 := Lib.hid (HFn.out k)
      obtain ⟨V, hV⟩ : ∃ V, hnu msD L k = V := ⟨_, rfl⟩
      rw [hV] at H1 HF2
      have H2 := Lib.hid H1
      clear H1 hV
      go_wp2_with (refine wpList_load_agg rfl RFT (.tmp 7) rfl g7 0 (rc u (hst msD L k).wr) (by rfl) agg_RFT HD.out.box.at (rc_size _ _) ?_)
      refine H2.out.mono ?_
      rintro e w6 ⟨x, rfl, hx, hb⟩
      obtain ⟨u', rfl, hs'⟩ := hx.ex
      have HX := Lib.hid hx
      have HS := Lib.hid hs'
      have HD6 := Lib.hid (HD.out.ext hb)
      obtain ⟨R, hR⟩ : ∃ R, rc u' (hst msD L (k + 1)).wr = R := ⟨_, rfl⟩
      have oR : R.all (·.oneCell') = true := by rw [← hR]; exact rc_one hs' _
      have sR : R.size = 2 := by rw [← hR]; rfl
      rw [show (#[u', .bool (hst msD L (k + 1)).wr] : Array Value) = R from hR]
      have HR := Lib.hid hR
      clear hb hx hs' H2 HD hR
      go_wp2_with (first
        | (refine wpList_alloc_arr rfl RFT rfl arrz_RFT ?_; intro g10 w7 hg10 hk10 hb10)
        | (refine wpList_store_agg rfl RFT (.tmp 10) (.tmp 32) rfl g10 R _ RFT (by rfl) (by rfl) agg_RFT hk10 sR (rc_size _ _) oR ?_; intro w8 hk8 ht8 hs8; have bb : Ext w6 w8 := hb10.trans (ht8.below hb10.size (fun i hi => by subst hi; exact hg10)); have HD8 := Lib.hid (HD6.out.ext bb); have HS8 := Lib.hid (HS.out.below bb (Nat.le_refl _)); have HK8 := Lib.hid hk8; clear hg10 hk10 hb10 hk8 ht8 hs8 bb HD6 HS)
        | (refine wpList_load_agg rfl RFT (.tmp 10) rfl g10 0 R (by rfl) agg_RFT HK8.out.at sR ?_)
        | (refine wpList_store_agg rfl RFT (.tmp 7) (.tmp 34) rfl g7 R _ RFT (by rfl) (by rfl) agg_RFT HD8.out.box sR (rc_size _ _) oR ?_; intro w9 hk9 ht9 hs9; have HD9 : Hid (RDec w w9 g1 g7 g8 (hst msD L (k + 1)) (hfst msD L k) u') := HD8.out.put (by rw [HR.out]; exact hk9) HS8.out HX.out.b8 HX.out.len HX.out.inv ht9; clear hk9 ht9 hs9 HD8 HS8 HK8; have q1 := HD9.out.num.num k hlt; have q2 := HD9.out.num.fz k; have HD10 : Hid (RDec w (w9.setCell ⟨g8, k, none⟩ (.int .u64 (V : Nat))) g1 g7 g8 (hst msD L (k + 1)) (hfst msD L (k + 1)) u') := (by have h := HD9.out.set k V hlt; refine ⟨h.below, h.res, h.box, h.sl, h.b8, h.len, h.inv, ?_, h.gr, h.rn, h.lo⟩; rw [← HF2.out]; exact h.num)))
      go_roundw
      case rel => exact ⟨k + 1, u', by go_num, by omega, HD10⟩
      case measure => simp [intOf]; omega
    · obtain rfl : k = 5 := by omega
      have HNum : Hid (Blk wr g8 RNT (nv (hnu msD L))) := by have := HD.out.num; rw [HF.out] at this; exact this
      have HDn := Lib.hid (refDone_any wr (.agg (rc u (hst msD L 5).wr)) (hst msD L 5) HD.out.rf)
      have HB := Lib.hid HD.out.below
      have HK := Lib.hid HD.out.res
      have Hlo := Lib.hid HD.out.lo
      have HBx := Lib.hid HD.out.box
      clear hlt hk HF HF0 HFn HD
      by_cases hK4 : K = 4
      · have d1 : ((K : Int) != 4) = false := by rw [hK4]; rfl
        cases hok : okS (hst msD L 5) with
        | false =>
          have HX := Lib.hid (HN.out (fun h => by rw [hok] at h; cases h.2.1.1))
          rw [hok] at HDn
          clear hok HG HN hK4 HNum
          go_wp2_with (refine wpList_load_agg_when (by rfl) RFT (.tmp 7) rfl g7 0 (rc u (hst msD L 5).wr) (by rfl) agg_RFT HBx.out.at (rc_size _ _) ?_)
          refine HDn.out.mono ?_
          rintro e w6 ⟨rfl, hb⟩
          replace HB := Lib.hid (HB.out.trans (hb.mono HB.out.size))
          replace HK := Lib.hid (HK.out.ext hb)
          clear hb HDn HBx
          go_wp2_with (first
            | (refine wpList_build rfl RHT _ rfl _ (by rfl) (hv hd0) (build_rh0 _) ?_)
            | (refine wpList_store_agg rfl RHT (.tmp 2) (.tmp 55) rfl g1 (hv hd0) _ RHT (by rfl) (by rfl) agg_RHT HK.out (hv_size _) (hv_size _) (hv_one _) ?_; intro w9 hk9 ht9 hs9))
          refine bodyPost_ret (v := .tuple #[.agg (hv hd0), .int .i64 3]) ?_ rfl ?_
          · exact results_agg2 agg_RHT rfl _ _ g1 _ _ (by rfl) (by rfl) hk9 (hv_size _)
          · exact ⟨by rw [HX.out]; rfl, HB.out.trans (ht9.below HB.out.size (fun i hi => by subst hi; exact Hlo.out))⟩
        | true =>
          rw [hok] at HDn
          have HG2 := Lib.hid (HG.out hK4 hok)
          have q3 := HNum.out.num 3 (by decide)
          have q4 := HNum.out.num 4 (by decide)
          have C3 := Lib.hid (fun w => refMay_any (hof (hnu msD L)) w)
          have hbld := build_rh (hnu msD L 0) (hnu msD L 1) (hnu msD L 2) (hnu msD L 3 : Nat) (hnu msD L 4 : Nat)
          rw [show (⟨hnu msD L 0, hnu msD L 1, hnu msD L 2, (hnu msD L 3 : Nat), (hnu msD L 4 : Nat)⟩ : Hd) = hof (hnu msD L) from rfl] at hbld
          have Hbld := Lib.hid hbld
          clear hok HG hbld
          obtain ⟨Y, hY⟩ : ∃ Y, hof (hnu msD L) = Y := ⟨_, rfl⟩
          rw [hY] at HG2 HN C3 Hbld
          clear hY
          by_cases h3 : hnu msD L 3 ≤ 1023
          · by_cases h4 : hnu msD L 4 ≤ 4096
            · replace HG2 := Lib.hid (HG2.out h3 h4)
              have HN2 : Hid (hmayB Y = false → X = (hd0, 3)) := fun hm => HN.out (fun h => by rw [hm] at h; cases h.2.2)
              have d3 : decide ((1023 : Int) < (hnu msD L 3 : Int)) = false := decide_eq_false (by omega)
              have d4 : decide ((4096 : Int) < (hnu msD L 4 : Int)) = false := decide_eq_false (by omega)
              have z3 : IntKind.i64.wrap (hnu msD L 3 : Int) = (hnu msD L 3 : Int) := by rw [IntKind.wrap_i64]; omega
              have z4 : IntKind.i64.wrap (hnu msD L 4 : Int) = (hnu msD L 4 : Int) := by rw [IntKind.wrap_i64]; omega
              clear HN h3 h4 hK4
              go_wp2_with (refine wpList_load_agg_when (by rfl) RFT (.tmp 7) rfl g7 0 (rc u (hst msD L 5).wr) (by rfl) agg_RFT HBx.out.at (rc_size _ _) ?_)
              refine HDn.out.mono ?_
              rintro e w6 ⟨rfl, hb⟩
              replace HB := Lib.hid (HB.out.trans (hb.mono HB.out.size))
              replace HK := Lib.hid (HK.out.ext hb)
              replace HNum := Lib.hid (HNum.out.ext hb)
              clear hb HDn HBx q3 q4
              have p0 := HNum.out.num 0 (by decide)
              have p1 := HNum.out.num 1 (by decide)
              have p2 := HNum.out.num 2 (by decide)
              have p3 := HNum.out.num 3 (by decide)
              have p4 := HNum.out.num 4 (by decide)
              go_wp2_with (first
                | (refine wpList_build rfl RHT _ rfl _ (by rfl) (hv Y) (Hbld.out _) ?_)
                | (refine wpList_alloc_arr rfl RHT rfl arrz_RHT ?_; intro g12 w7 hg12 hk12 hb12)
                | (refine wpList_store_agg rfl RHT (.tmp 12) (.tmp 68) rfl g12 (hv Y) _ RHT (by rfl) (by rfl) agg_RHT hk12 (hv_size _) (hv_size _) (hv_one _) ?_; intro w8 hk8 ht8 hs8)
                | (refine wpList_load_agg rfl RHT (.tmp 12) rfl g12 0 (hv Y) (by rfl) agg_RHT hk8.at (hv_size _) ?_))
              have bb : Ext w6 w8 := hb12.trans (ht8.below hb12.size (fun i hi => by subst hi; exact hg12))
              replace HB := Lib.hid (HB.out.trans (Below.mono bb HB.out.size))
              replace HK := Lib.hid (HK.out.ext bb)
              have HK12 := Lib.hid hk8
              clear hg12 hk12 hb12 hk8 ht8 hs8 bb HNum p0 p1 p2 p3 p4 z3 z4 d3 d4 Hbld
              refine (C3.out w8).mono ?_
              rintro e w9 ⟨rfl, hb⟩
              replace HB := Lib.hid (HB.out.trans (hb.mono HB.out.size))
              replace HK := Lib.hid (HK.out.ext hb)
              replace HK12 := Lib.hid (HK12.out.ext hb)
              clear hb C3
              cases hM : hmayB Y with
              | false =>
                have HX := Lib.hid (HN2.out hM)
                clear hM HG2 HN2
                go_wp2_with (first
                  | (refine wpList_build rfl RHT _ rfl _ (by rfl) (hv hd0) (build_rh0 _) ?_)
                  | (refine wpList_store_agg rfl RHT (.tmp 2) (.tmp 72) rfl g1 (hv hd0) _ RHT (by rfl) (by rfl) agg_RHT HK.out (hv_size _) (hv_size _) (hv_one _) ?_; intro wz hk9 ht9 hs9))
                refine bodyPost_ret (v := .tuple #[.agg (hv hd0), .int .i64 3]) ?_ rfl ?_
                · exact results_agg2 agg_RHT rfl _ _ g1 _ _ (by rfl) (by rfl) hk9 (hv_size _)
                · exact ⟨by rw [HX.out]; rfl, HB.out.trans (ht9.below HB.out.size (fun i hi => by subst hi; exact Hlo.out))⟩
              | true =>
                have HX := Lib.hid (HG2.out hM)
                clear hM HG2 HN2
                go_wp2_with (first
                  | (refine wpList_load_agg rfl RHT (.tmp 12) rfl g12 0 (hv Y) (by rfl) agg_RHT HK12.out.at (hv_size _) ?_)
                  | (refine wpList_store_agg rfl RHT (.tmp 2) (.tmp 73) rfl g1 (hv Y) _ RHT (by rfl) (by rfl) agg_RHT HK.out (hv_size _) (hv_size _) (hv_one _) ?_; intro wz hk9 ht9 hs9))
                refine bodyPost_ret (v := .tuple #[.agg (hv Y), .int .i64 0]) ?_ rfl ?_
                · exact results_agg2 agg_RHT rfl _ _ g1 _ _ (by rfl) (by rfl) hk9 (hv_size _)
                · exact ⟨by rw [HX.out]; rfl, HB.out.trans (ht9.below HB.out.size (fun i hi => by subst hi; exact Hlo.out))⟩
            · have HX := Lib.hid (HN.out (fun h => h4 h.2.1.2.2))
              have d3 : decide ((1023 : Int) < (hnu msD L 3 : Int)) = false := decide_eq_false (by omega)
              have d4 : decide ((4096 : Int) < (hnu msD L 4 : Int)) = true := decide_eq_true (by omega)
              clear HN h3 h4 hK4 HG2 C3 Hbld
              go_wp2_with (refine wpList_load_agg_when (by rfl) RFT (.tmp 7) rfl g7 0 (rc u (hst msD L 5).wr) (by rfl) agg_RFT HBx.out.at (rc_size _ _) ?_)
              refine HDn.out.mono ?_
              rintro e w6 ⟨rfl, hb⟩
              replace HB := Lib.hid (HB.out.trans (hb.mono HB.out.size))
              replace HK := Lib.hid (HK.out.ext hb)
              replace HNum := Lib.hid (HNum.out.ext hb)
              clear hb HDn HBx q3 q4
              have p3 := HNum.out.num 3 (by decide)
              have p4 := HNum.out.num 4 (by decide)
              go_wp2_with (first
                | (refine wpList_build rfl RHT _ rfl _ (by rfl) (hv hd0) (build_rh0 _) ?_)
                | (refine wpList_store_agg rfl RHT (.tmp 2) (.tmp 55) rfl g1 (hv hd0) _ RHT (by rfl) (by rfl) agg_RHT HK.out (hv_size _) (hv_size _) (hv_one _) ?_; intro w9 hk9 ht9 hs9))
              refine bodyPost_ret (v := .tuple #[.agg (hv hd0), .int .i64 3]) ?_ rfl ?_
              · exact results_agg2 agg_RHT rfl _ _ g1 _ _ (by rfl) (by rfl) hk9 (hv_size _)
              · exact ⟨by rw [HX.out]; rfl, HB.out.trans (ht9.below HB.out.size (fun i hi => by subst hi; exact Hlo.out))⟩
          · have HX := Lib.hid (HN.out (fun h => h3 h.2.1.2.1))
            have d3 : decide ((1023 : Int) < (hnu msD L 3 : Int)) = true := decide_eq_true (by omega)
            clear HN h3 hK4 HG2 C3 Hbld
            go_wp2_with (refine wpList_load_agg_when (by rfl) RFT (.tmp 7) rfl g7 0 (rc u (hst msD L 5).wr) (by rfl) agg_RFT HBx.out.at (rc_size _ _) ?_)
            refine HDn.out.mono ?_
            rintro e w6 ⟨rfl, hb⟩
            replace HB := Lib.hid (HB.out.trans (hb.mono HB.out.size))
            replace HK := Lib.hid (HK.out.ext hb)
            replace HNum := Lib.hid (HNum.out.ext hb)
            clear hb HDn HBx q3 q4
            have p3 := HNum.out.num 3 (by decide)
            go_wp2_with (first
              | (refine wpList_build rfl RHT _ rfl _ (by rfl) (hv hd0) (build_rh0 _) ?_)
              | (refine wpList_store_agg rfl RHT (.tmp 2) (.tmp 55) rfl g1 (hv hd0) _ RHT (by rfl) (by rfl) agg_RHT HK.out (hv_size _) (hv_size _) (hv_one _) ?_; intro w9 hk9 ht9 hs9))
            refine bodyPost_ret (v := .tuple #[.agg (hv hd0), .int .i64 3]) ?_ rfl ?_
            · exact results_agg2 agg_RHT rfl _ _ g1 _ _ (by rfl) (by rfl) hk9 (hv_size _)
            · exact ⟨by rw [HX.out]; rfl, HB.out.trans (ht9.below HB.out.size (fun i hi => by subst hi; exact Hlo.out))⟩
      · have d1 : ((K : Int) != 4) = true := by simp; omega
        have HX := Lib.hid (HN.out (fun h => hK4 h.1))
        clear HG HN hK4 HNum HDn HBx
        go_wp2_with (first
          | (refine wpList_build rfl RHT _ rfl _ (by rfl) (hv hd0) (build_rh0 _) ?_)
          | (refine wpList_store_agg rfl RHT (.tmp 2) (.tmp 55) rfl g1 (hv hd0) _ RHT (by rfl) (by rfl) agg_RHT HK.out (hv_size _) (hv_size _) (hv_one _) ?_; intro w9 hk9 ht9 hs9))
        refine bodyPost_ret (v := .tuple #[.agg (hv hd0), .int .i64 3]) ?_ rfl ?_
        · exact results_agg2 agg_RHT rfl _ _ g1 _ _ (by rfl) (by rfl) hk9 (hv_size _)
        · exact ⟨by rw [HX.out]; rfl, HB.out.trans (ht9.below HB.out.size (fun i hi => by subst hi; exact Hlo.out))⟩
theorem refDec_any (a : Option Addr) (n c : Nat) (l : List Nat) (hn : l.length = n) (w : World) (hb : B8 l) (hlc : n ≤ c) (hcm : c ≤ 140737488355328) (hsrc : Src w a l) :
    Calls Tryd.prog 10 #[.slice a n c] w fun e w' => e = .returned (.tuple #[.agg (hv (hdec l).1), .int .i64 ((hdec l).2 : Nat)]) ∧ Below w.heap.size w w' := by
  have hO : ∀ w1, Below w.heap.size w w1 → Calls Tryd.prog 28 #[.slice a n c] w1 fun e w' => ∃ u, e = .returned (.tuple #[.int .u8 ((opS l).1 : Nat), u, .int .i64 ((opS l).2.2 : Nat)]) ∧ Sl w' u (opS l).2.1 ∧ Below w1.heap.size w1 w' :=
    fun w1 hb1 => refOpen_sw a n c l hn w1 hb hlc hcm (hsrc.below hb1 (Nat.le_refl _))
  by_cases he : (opS l).2.2 = 0
  · exact refDec_load _ l w hb he hO
  · exact refDec_err _ l w he hO
end Go.Proofs.YtofbomcimicccaaDoor
