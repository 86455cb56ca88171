/-
  CursorRuns.
-/
import Derived.Test.YtggibbgohhpfpaaDoorSure14Z
import Derived.Test.YtggibbgohhpfpaaDoorMovesZ
import Derived.Test.YtggibbgohhpfpaaDoorGsZ
import Derived.Deep.Cut
import Derived.Deep.CutRange
import Derived.Deep.LoopGhost
namespace Go.Proofs.YtggibbgohhpfpaaDoor
open Go Go.RowKit

set_option maxHeartbeats 4000000 in
set_option maxRecDepth 100000 in
theorem runs_any (n0 m0 : Nat) (lo hi : ByteArray) (op : Bool) (am : Option Addr) (mm mc : Nat) (mvs : List Mv) (w : World) (h1 : n0 < 65536) (h2 : m0 < 65536) (hmm : mvs.length = mm) (hms : MS w am mvs) (hml : mm ≤ 9223372036854775807) (hg : Hg w) :
    Calls Tryd.prog 3 #[.agg #[.int .u16 n0, .int .u16 m0], .agg #[.string lo, .string hi, .bool op], .slice am mm mc] w fun e w' => e = .returned (.bool true) ∧ Below w.heap.size w w' := by
  have Hg0 : Hid (∀ {w'}, Below w.heap.size w w' → Hg w') := fun h => hg.below h
  obtain ⟨W0, hW0, k1, k2, hb0⟩ := two_owns w #[.int .u16 n0, .int .u16 m0] #[.string lo, .string hi, .bool op] ARR RSP
  obtain ⟨N0, hN0⟩ : ∃ N0, n0 % 120 = N0 := ⟨_, rfl⟩
  have eN : (n0 : Int).tmod 120 = (N0 : Int) := by rw [Int.tmod_eq_emod_of_nonneg (by omega)]; omega
  have wN : IntKind.i64.wrap (N0 : Int) = (N0 : Int) := by rw [IntKind.wrap_i64]; omega
  have wM : IntKind.i64.wrap (m0 : Int) = (m0 : Int) := by rw [IntKind.wrap_i64]; omega
  obtain ⟨bo, hbo⟩ : ∃ bo, w.heap.size = bo := ⟨_, rfl⟩
  obtain ⟨bs, hbs⟩ : ∃ bs, bo + 1 = bs := ⟨_, rfl⟩
  rw [hbo] at k1 k2
  rw [hbs] at k2
  have A0 : Hid (AR2 W0 bo n0 m0) := k1
  have SP0 : Hid (SpIn W0 bs RSP ⟨lo, hi, op⟩) := k2
  have HB0 := Lib.hid hb0
  have HW0 := Lib.hid hW0
  have HN9 : Hid (N0 ≤ 119) := by show _ ≤ _; omega
  have Hbs := Lib.hid (And.intro hbo hbs)
  have Hmv := Lib.hid (And.intro hmm hms)
  clear hW0 k1 k2 hb0 hN0 hg hbo hbs hmm hms
  go_enter Tryd.func3, Tryd.ntmps3
  go_wp2_with fail
  rw [HW0.out, Hbs.out.1, Hbs.out.2]
  refine (seek_nil W0 xa).mono ?_
  rintro e wa ⟨rfl, hba⟩
  have Ha := Lib.hid hba
  clear hba
  go_wp2_with fail
  refine (end_nil wa).mono ?_
  rintro e _ ⟨rfl, rfl⟩
  go_wp2_with fail
  refine (next_nil wa).mono ?_
  rintro e wb ⟨rfl, hbb⟩
  obtain ⟨Wb, hWb, _, hbWb⟩ := alloc_ent wb
  have Hb := Lib.hid ((Ha.out.trans (hbb.mono Ha.out.size)).trans (hbWb.mono (Nat.le_trans Ha.out.size hbb.size)))
  have HWb := Lib.hid hWb
  clear hbb hWb hbWb Ha
  go_wp2_with fail
  rw [HWb.out]
  refine (prev_nil Wb).mono ?_
  rintro e wc ⟨rfl, hbc⟩
  obtain ⟨Wc, hWc, _, hbWc⟩ := alloc_ent wc
  have hbc0 := (Hb.out.trans (hbc.mono Hb.out.size)).trans (hbWc.mono (Nat.le_trans Hb.out.size hbc.size))
  have A1 := Lib.hid (A0.out.ext hbc0)
  have SP1 := Lib.hid (SP0.out.ext hbc0)
  have HB1 := Lib.hid (HB0.out.trans (hbc0.mono HB0.out.size))
  have Hgr := Lib.hid (grown_any N0 m0 Wc (by have := HN9.out; omega) (by omega) (Hg0.out HB1.out))
  have HWc := Lib.hid hWc
  clear hbc hWc hbWc hbc0 Hb HWb HB0 A0 SP0 HW0
  go_wp2_with fail
  rw [HWc.out]
  refine (ccopy_nil Wc).mono ?_
  rintro e _ ⟨rfl, rfl⟩
  have o0 := A1.out.c0
  have o1 := A1.out.c1
  go_wp2_with fail
  refine Hgr.out.mono ?_
  rintro e w1 ⟨p, H, es, l, rfl, ht, hl, hlen, hb1⟩
  replace ht := ht.tp
  obtain ⟨al, N, cl, rfl, hls, hlN, hlc⟩ := ev_ct hl
  rw [hlN]
  obtain ⟨W1, hW1, hn1, hbW1⟩ := alloc_own w1 TT #[.pointer p, .int .i64 N]
  obtain ⟨bt, hbt⟩ : ∃ bt, w1.heap.size = bt := ⟨_, rfl⟩
  rw [hbt] at hn1
  have hb01 := HB1.out.trans (hb1.mono HB1.out.size)
  have hN119 : N ≤ 119 := by have := HN9.out; omega
  have X : Hid (CT w W1 bt p es N H al cl) := ⟨hn1, ht.ext hbW1, hls.below hbW1 (Nat.le_refl _), hlN, by omega, hlc, hb01.trans (hbW1.mono hb01.size)⟩
  have SP := Lib.hid ((SP1.out.ext hb1).ext hbW1)
  have A := Lib.hid ((A1.out.ext hb1).ext hbW1)
  have hne1 : bt ≠ bs := by have h5 := SP1.out.lt; have h6 := hb1.size; omega
  have Hne := Lib.hid (And.intro hne1 (show w.heap.size ≤ bs by have := Hbs.out.1; have := Hbs.out.2; omega))
  have HW1 := Lib.hid hW1
  have Hbt := Lib.hid hbt
  have t0 := X.out.t.c0
  have t1 := X.out.t.c1
  have s0 := SP.out.c0
  have s1 := SP.out.c1
  have s2 := SP.out.c2
  clear o0 o1
  have o0 := A.out.c0
  have o1 := A.out.c1
  rw [← hW1] at t0 t1 s0 s1 s2 o0 o1
  clear hW1 hn1 hbW1 hb01 hb1 ht hl hlen hls hlN hlc Hgr HB1 SP1 A1 hne1 hbt
  by_cases g1 : 100 < lo.size
  · have d1 : decide (100 < (lo.size : Int)) = true := decide_eq_true (by omega)
    have Hsu := Lib.hid (sure_any W1 (Hg0.out X.out.b))
    go_wp2_with fail
    rw [HW1.out]
    refine Hsu.out.mono ?_
    rintro e w2 ⟨rfl, hb2⟩
    have HB := Lib.hid (X.out.b.trans (hb2.mono X.out.b.size))
    clear hb2 Hsu t0 t1 s0 s1 s2 o0 o1
    go_wp2_with fail
    go_ret
    exact ⟨rfl, HB.out⟩
  · have d1 : decide (100 < (lo.size : Int)) = false := decide_eq_false (by omega)
    by_cases g2 : 100 < hi.size
    · have d2 : decide (100 < (hi.size : Int)) = true := decide_eq_true (by omega)
      have Hsu := Lib.hid (sure_any W1 (Hg0.out X.out.b))
      go_wp2_with fail
      rw [HW1.out]
      refine Hsu.out.mono ?_
      rintro e w2 ⟨rfl, hb2⟩
      have HB := Lib.hid (X.out.b.trans (hb2.mono X.out.b.size))
      clear hb2 Hsu t0 t1 s0 s1 s2 o0 o1
      go_wp2_with fail
      go_ret
      exact ⟨rfl, HB.out⟩
    · have d2 : decide (100 < (hi.size : Int)) = false := decide_eq_false (by omega)
      have Hnr := near_any ⟨lo, hi, op⟩ al N cl es m0 n0 W1 X.out.hn X.out.l (by omega) h2 h1
      obtain ⟨sp, hsp⟩ : ∃ sp, nearS ⟨lo, hi, op⟩ es m0 n0 = sp := ⟨_, rfl⟩
      rw [hsp] at Hnr
      obtain ⟨lo2, hi2, op2⟩ := sp
      unfold Sp.v at Hnr
      have Hnr := Lib.hid Hnr
      clear hsp
      go_wp2_with fail
      rw [HW1.out, Hbt.out]
      refine Hnr.out.mono ?_
      rintro e w2 ⟨rfl, hb2⟩
      clear t0 t1 s0 s1 s2 o0 o1
      replace X := Lib.hid (X.out.ext hb2)
      replace SP := Lib.hid (SP.out.ext hb2)
      have f0 := SP.out.fz 0
      have f1 := SP.out.fz 1
      have f2 := SP.out.fz 2
      have y0 := SP.out.c0
      have y1 := SP.out.c1
      have y2 := SP.out.c2
      obtain ⟨W2, hW2⟩ : ∃ W2, ((w2.setCell ⟨bs, 0, none⟩ (.string lo2)).setCell ⟨bs, 1, none⟩ (.string hi2)).setCell ⟨bs, 2, none⟩ (.bool op2) = W2 := ⟨_, rfl⟩
      have tn := turn3 w2 bs (.string lo2) (.string hi2) (.bool op2)
      have sp3 := SP.out.put3 ⟨lo2, hi2, op2⟩
      have hF : TF w2 (fun i => i = bs) := TF.var (h := (SP.out : w2.heap[bs]? = _))
      have x3 := X.out.turn tn hF Hne.out.1 Hne.out.2
      rw [hW2] at sp3 x3
      replace X := Lib.hid x3
      have SP := Lib.hid sp3
      have HW2 := Lib.hid hW2
      clear hb2 tn sp3 hF x3 hW2 HW1 Hbt Hnr A Hne
      go_upto_region 14 with fail
      rw [HW2.out]
      clear f0 f1 f2 y0 y1 y2
      obtain ⟨L, hL⟩ : ∃ L, inS ⟨lo2, hi2, op2⟩ es = L := ⟨_, rfl⟩
      obtain ⟨n, hn⟩ : ∃ n, L.length = n := ⟨_, rfl⟩
      have hn119 : n ≤ 119 := by have h5 := inS_len ⟨lo2, hi2, op2⟩ es; rw [hL] at h5; have h6 := X.out.hn; omega
      have HL : Hid (inS ⟨lo2, hi2, op2⟩ es = L ∧ L.length = n ∧ srt L) := ⟨hL, hn, by rw [← hL]; exact srt_in _ X.out.srt⟩
      have Hes : Hid (es.length = N ∧ ∀ e ∈ es, okE e) := ⟨X.out.hn, X.out.ok⟩
      clear hL hn
      go_cut [15, 16] from 17 (fun u v wx => ∃ (bc : Nat) (a : Option Addr) (c b9 : Nat) (a2 : Option Addr) (c2 : Nat), u = .pointer (some ⟨bc, 0, none⟩) ∧ v = .pointer (some ⟨b9, 0, none⟩) ∧ Hid (CR w wx bc a c b9 a2 c2 n 0 L al es))
      case first =>
        obtain ⟨W, hW⟩ : ∃ W, W2.drew = W := ⟨_, rfl⟩
        have hbd : Below W2.heap.size W2 W := by rw [← hW]; exact (Below.refl _ _).drew
        have XW := Lib.hid (X.out.ext hbd)
        have SW := Lib.hid (SP.out.ext hbd)
        have q0 : ∀ w', Turn (fun _ => False) W w' → w'.cell? ⟨bt, 0, none⟩ = some (.pointer p) := fun w' t => (XW.out.t.turn t (fun h => h)).c0
        have q1 : ∀ w', Turn (fun _ => False) W w' → w'.cell? ⟨bt, 1, none⟩ = some (.int .i64 N) := fun w' t => (XW.out.t.turn t (fun h => h)).c1
        have q2 : ∀ w', Turn (fun _ => False) W w' → w'.cell? ⟨bs, 0, none⟩ = some (.string lo2) := fun w' t => (show SpIn w' bs RSP ⟨lo2, hi2, op2⟩ from t.hg SW.out (fun h => h)).c0
        have q3 : ∀ w', Turn (fun _ => False) W w' → w'.cell? ⟨bs, 1, none⟩ = some (.string hi2) := fun w' t => (show SpIn w' bs RSP ⟨lo2, hi2, op2⟩ from t.hg SW.out (fun h => h)).c1
        have q4 : ∀ w', Turn (fun _ => False) W w' → w'.cell? ⟨bs, 2, none⟩ = some (.bool op2) := fun w' t => (show SpIn w' bs RSP ⟨lo2, hi2, op2⟩ from t.hg SW.out (fun h => h)).c2
        have Hnew : Hid (∀ x, Below W.heap.size W x → Calls Tryd.prog 14 #[.agg #[.pointer p, .int .i64 N], .agg #[.string lo2, .string hi2, .bool op2]] x fun e w' => ∃ b a m c, e = .returned (.pointer (some ⟨b, 0, none⟩)) ∧ x.heap.size ≤ b ∧ CurQ w' b a m c L 0 ∧ Below x.heap.size x w') := fun x hx => by
          have h := cnew_any p es H ⟨lo2, hi2, op2⟩ x (XW.out.tr.ext hx) N XW.out.hn (by omega)
          rw [HL.out.1] at h
          exact h
        have Hrn : Hid (∀ x, Below W.heap.size W x → Calls Tryd.prog 15 #[.slice al N cl, .agg #[.string lo2, .string hi2, .bool op2]] x fun e w' => ∃ v, e = .returned (.agg #[v, .int .i64 0]) ∧ EV entE w' v L ∧ Below x.heap.size x w') := fun x hx => by
          have h := refCNew_any x al N cl es ⟨lo2, hi2, op2⟩ (XW.out.l.below hx (Nat.le_refl _)) XW.out.hn XW.out.ok (by omega)
          rw [HL.out.1] at h
          exact h
        have XB := Lib.hid (Below.refl W.heap.size W)
        have HW := Lib.hid hW
        clear hW hbd X SP
        refine wp_region_gx (fun _ => False) (.rd 0 (.rd 1 (.rd 3 (.rd 4 (.two 2 (.two 5 (.call 6 (.rd 7 (.call 8 .done))) 6 (.call 5 (.rd 7 (.call 8 .done)))) 6 (.call 2 (.call 5 (.rd 7 (.call 8 .done))))))))) (by kernel_rfl) (by kernel_rfl) (by kernel_rfl) (by kernel_rfl) (fun _ _ _ _ _ h => h) ?_
        rw [HW.out]
        clear HW
        iterate 4 (refine wpGx_read (o := ⟨_, _, _, _, _, _⟩) (v := ?_) rfl (by rfl) ?_ ?_; rotate_left; (intro w' hw'; go_simp; with_reducible rfl); simp only [Act.put, List.setIfInBounds_toArray, List.set_cons_zero, List.set_cons_succ])
        clear q0 q1 q2 q3 q4
        refine ⟨?_, ?_⟩
        · refine stepX_call (o := ⟨_, _, _, _, _, _⟩) rfl (by rfl) (fun K hK => ?_)
          go_simp
          refine (Hnew.out W XB.out).mono ?_
          rintro e wn ⟨bc, a, m, c, rfl, hlb, hq, hb⟩
          obtain rfl : n = m := by rw [← hq.hn]; exact HL.out.2.1.symm
          refine hK (fun _ => False) (fun _ h _ => h) _ _ (Turn.ofBelow hb) ?_
          clear hK K
          have Q := Lib.hid (And.intro hq (show w.heap.size ≤ bc from Nat.le_trans (Nat.le_trans XW.out.b.size XB.out.size) hlb))
          replace XB := Lib.hid (XB.out.trans (hb.mono XB.out.size))
          clear hlb hq hb
          refine ⟨?_, ?_⟩
          · refine stepX_call (o := ⟨_, _, _, _, _, _⟩) rfl (by rfl) (fun K hK => ?_)
            go_simp
            refine (Hrn.out wn XB.out).mono ?_
            rintro e wr ⟨v2, rfl, hev, hb⟩
            obtain ⟨a2, n2, c2, rfl, hrs, hrn, hrc2⟩ := ev_ct hev
            obtain rfl : n = n2 := by rw [← hrn]; exact HL.out.2.1.symm
            refine hK (fun _ => False) (fun _ h _ => h) _ _ (Turn.ofBelow hb) ?_
            clear hK K
            have E := Lib.hid (show ES entE wr a2 L from hrs)
            replace Q := Lib.hid (And.intro (Q.out.1.ext hb) Q.out.2)
            replace XB := Lib.hid (XB.out.trans (hb.mono XB.out.size))
            clear hev hrs hrn hrc2 hb
            obtain ⟨b9, wv, hb0, hwa, hrc, hb⟩ := alloc_rcur wr
            have HG := Lib.hid (And.intro hb0 hwa)
            have Hbv := Lib.hid hb
            have Hrc := Lib.hid hrc
            clear hb0 hwa hrc hb
            refine stepX_call (o := ⟨_, _, _, _, _, _⟩) rfl (by rfl) (fun K hK => ?_)
            go_simp
            rw [HG.out.1, HG.out.2]
            refine hK (fun i => i = b9) (fun j h hj => absurd hj (by have := HG.out.1; omega)) _ _ (Turn.ofBelow Hbv.out) ?_
            clear hK K
            have R := Lib.hid (And.intro Hrc.out (show w.heap.size ≤ b9 from by have := HG.out.1; have := XW.out.b.size; have := XB.out.size; omega))
            have Nbc := Lib.hid (show bc ≠ b9 by have := HG.out.1; have := Q.out.1.at_.lt; omega)
            replace Q := Lib.hid (And.intro (Q.out.1.ext Hbv.out) Q.out.2)
            replace E := Lib.hid (E.out.below Hbv.out (Nat.le_refl _))
            replace XB := Lib.hid (XB.out.trans (Hbv.out.mono XB.out.size))
            clear HG Hbv Hrc
            iterate 1 (refine wpGx_read (o := ⟨_, _, _, _, _, _⟩) (v := ?_) rfl (by rfl) ?_ ?_; rotate_left; (intro w' hw'; go_simp; with_reducible rfl); simp only [Act.put, List.setIfInBounds_toArray, List.set_cons_zero, List.set_cons_succ])
            have r0 := R.out.1.c0
            have r1 := R.out.1.c1
            have r2 := R.out.1.fz 0
            have r3 := R.out.1.fz 1
            have hfin : CR w ((wv.setCell ⟨b9, 0, none⟩ (.slice a2 n c2)).setCell ⟨b9, 1, none⟩ (.int .i64 0)) bc a c b9 a2 c2 n 0 L al es := by
              have tp := turn_put wv b9 (.slice a2 n c2) (.int .i64 0)
              have hbw := XW.out.b.trans (XB.out.mono XW.out.b.size)
              exact ⟨Q.out.1.turn tp R.out.1.tf Nbc.out, R.out.1.put a2 n c2 0, E.out.turn entE_str tp R.out.1.tf, (XW.out.l.below XB.out (Nat.le_refl _)).turn entE_str tp R.out.1.tf, below_put hbw R.out.2, Q.out.2, R.out.2, Nbc.out⟩
            have Hfin := Lib.hid hfin
            clear hfin
            refine stepX_call (o := ⟨_, _, _, _, _, _⟩) rfl (by rfl) (fun K hK => ?_)
            go_simp
            refine hK (fun _ => False) (fun _ h => h.elim) _ _ (turn_put _ _ _ _) ?_
            clear hK K r0 r1 r2 r3
            refine wpGx_done ?_
            go_wp2
            go_meet
            exact ⟨bc, a, c, b9, a2, c2, rfl, rfl, Hfin.out⟩
          · obtain ⟨b9, wv, hb0, hwa, hrc, hb⟩ := alloc_rcur wn
            have HG := Lib.hid (And.intro hb0 hwa)
            have Hbv := Lib.hid hb
            have Hrc := Lib.hid hrc
            clear hb0 hwa hrc hb
            refine stepX_call (o := ⟨_, _, _, _, _, _⟩) rfl (by rfl) (fun K hK => ?_)
            go_simp
            rw [HG.out.1, HG.out.2]
            refine hK (fun i => i = b9) (fun j h hj => absurd hj (by have := HG.out.1; omega)) _ _ (Turn.ofBelow Hbv.out) ?_
            clear hK K
            have R := Lib.hid (And.intro Hrc.out (show w.heap.size ≤ b9 from by have := HG.out.1; have := XW.out.b.size; have := XB.out.size; omega))
            have Nbc := Lib.hid (show bc ≠ b9 by have := HG.out.1; have := Q.out.1.at_.lt; omega)
            replace Q := Lib.hid (And.intro (Q.out.1.ext Hbv.out) Q.out.2)
            replace XB := Lib.hid (XB.out.trans (Hbv.out.mono XB.out.size))
            clear HG Hbv Hrc
            refine stepX_call (o := ⟨_, _, _, _, _, _⟩) rfl (by rfl) (fun K hK => ?_)
            go_simp
            refine (Hrn.out wv XB.out).mono ?_
            rintro e wr ⟨v2, rfl, hev, hb⟩
            obtain ⟨a2, n2, c2, rfl, hrs, hrn, hrc2⟩ := ev_ct hev
            obtain rfl : n = n2 := by rw [← hrn]; exact HL.out.2.1.symm
            refine hK (fun i => i = b9) (fun _ h _ => h) _ _ (Turn.ofBelow hb) ?_
            clear hK K
            have E := Lib.hid (show ES entE wr a2 L from hrs)
            replace Q := Lib.hid (And.intro (Q.out.1.ext hb) Q.out.2)
            replace R := Lib.hid (And.intro (R.out.1.ext hb) R.out.2)
            replace XB := Lib.hid (XB.out.trans (hb.mono XB.out.size))
            clear hev hrs hrn hrc2 hb
            iterate 1 (refine wpGx_read (o := ⟨_, _, _, _, _, _⟩) (v := ?_) rfl (by rfl) ?_ ?_; rotate_left; (intro w' hw'; go_simp; with_reducible rfl); simp only [Act.put, List.setIfInBounds_toArray, List.set_cons_zero, List.set_cons_succ])
            have r0 := R.out.1.c0
            have r1 := R.out.1.c1
            have r2 := R.out.1.fz 0
            have r3 := R.out.1.fz 1
            have hfin : CR w ((wr.setCell ⟨b9, 0, none⟩ (.slice a2 n c2)).setCell ⟨b9, 1, none⟩ (.int .i64 0)) bc a c b9 a2 c2 n 0 L al es := by
              have tp := turn_put wr b9 (.slice a2 n c2) (.int .i64 0)
              have hbw := XW.out.b.trans (XB.out.mono XW.out.b.size)
              exact ⟨Q.out.1.turn tp R.out.1.tf Nbc.out, R.out.1.put a2 n c2 0, E.out.turn entE_str tp R.out.1.tf, (XW.out.l.below XB.out (Nat.le_refl _)).turn entE_str tp R.out.1.tf, below_put hbw R.out.2, Q.out.2, R.out.2, Nbc.out⟩
            have Hfin := Lib.hid hfin
            clear hfin
            refine stepX_call (o := ⟨_, _, _, _, _, _⟩) rfl (by rfl) (fun K hK => ?_)
            go_simp
            refine hK (fun _ => False) (fun _ h => h.elim) _ _ (turn_put _ _ _ _) ?_
            clear hK K r0 r1 r2 r3
            refine wpGx_done ?_
            go_wp2
            go_meet
            exact ⟨bc, a, c, b9, a2, c2, rfl, rfl, Hfin.out⟩
        · obtain ⟨b9, wv, hb0, hwa, hrc, hb⟩ := alloc_rcur W
          have HG := Lib.hid (And.intro hb0 hwa)
          have Hbv := Lib.hid hb
          have Hrc := Lib.hid hrc
          clear hb0 hwa hrc hb
          refine stepX_call (o := ⟨_, _, _, _, _, _⟩) rfl (by rfl) (fun K hK => ?_)
          go_simp
          rw [HG.out.1, HG.out.2]
          refine hK (fun i => i = b9) (fun j h hj => absurd hj (by have := HG.out.1; omega)) _ _ (Turn.ofBelow Hbv.out) ?_
          clear hK K
          have R := Lib.hid (And.intro Hrc.out (show w.heap.size ≤ b9 from by have := HG.out.1; have := XW.out.b.size; have := XB.out.size; omega))
          replace XB := Lib.hid (XB.out.trans (Hbv.out.mono XB.out.size))
          clear HG Hbv Hrc
          refine stepX_call (o := ⟨_, _, _, _, _, _⟩) rfl (by rfl) (fun K hK => ?_)
          go_simp
          refine (Hnew.out wv XB.out).mono ?_
          rintro e wn ⟨bc, a, m, c, rfl, hlb, hq, hb⟩
          obtain rfl : n = m := by rw [← hq.hn]; exact HL.out.2.1.symm
          refine hK (fun i => i = b9) (fun _ h _ => h) _ _ (Turn.ofBelow hb) ?_
          clear hK K
          have Q := Lib.hid (And.intro hq (show w.heap.size ≤ bc from Nat.le_trans (Nat.le_trans XW.out.b.size XB.out.size) hlb))
          have Nbc := Lib.hid (show bc ≠ b9 by have := R.out.1.lt; omega)
          replace R := Lib.hid (And.intro (R.out.1.ext hb) R.out.2)
          replace XB := Lib.hid (XB.out.trans (hb.mono XB.out.size))
          clear hlb hq hb
          refine stepX_call (o := ⟨_, _, _, _, _, _⟩) rfl (by rfl) (fun K hK => ?_)
          go_simp
          refine (Hrn.out wn XB.out).mono ?_
          rintro e wr ⟨v2, rfl, hev, hb⟩
          obtain ⟨a2, n2, c2, rfl, hrs, hrn, hrc2⟩ := ev_ct hev
          obtain rfl : n = n2 := by rw [← hrn]; exact HL.out.2.1.symm
          refine hK (fun i => i = b9) (fun _ h _ => h) _ _ (Turn.ofBelow hb) ?_
          clear hK K
          have E := Lib.hid (show ES entE wr a2 L from hrs)
          replace R := Lib.hid (And.intro (R.out.1.ext hb) R.out.2)
          replace Q := Lib.hid (And.intro (Q.out.1.ext hb) Q.out.2)
          replace XB := Lib.hid (XB.out.trans (hb.mono XB.out.size))
          clear hev hrs hrn hrc2 hb
          iterate 1 (refine wpGx_read (o := ⟨_, _, _, _, _, _⟩) (v := ?_) rfl (by rfl) ?_ ?_; rotate_left; (intro w' hw'; go_simp; with_reducible rfl); simp only [Act.put, List.setIfInBounds_toArray, List.set_cons_zero, List.set_cons_succ])
          have r0 := R.out.1.c0
          have r1 := R.out.1.c1
          have r2 := R.out.1.fz 0
          have r3 := R.out.1.fz 1
          have hfin : CR w ((wr.setCell ⟨b9, 0, none⟩ (.slice a2 n c2)).setCell ⟨b9, 1, none⟩ (.int .i64 0)) bc a c b9 a2 c2 n 0 L al es := by
            have tp := turn_put wr b9 (.slice a2 n c2) (.int .i64 0)
            have hbw := XW.out.b.trans (XB.out.mono XW.out.b.size)
            exact ⟨Q.out.1.turn tp R.out.1.tf Nbc.out, R.out.1.put a2 n c2 0, E.out.turn entE_str tp R.out.1.tf, (XW.out.l.below XB.out (Nat.le_refl _)).turn entE_str tp R.out.1.tf, below_put hbw R.out.2, Q.out.2, R.out.2, Nbc.out⟩
          have Hfin := Lib.hid hfin
          clear hfin
          refine stepX_call (o := ⟨_, _, _, _, _, _⟩) rfl (by rfl) (fun K hK => ?_)
          go_simp
          refine hK (fun _ => False) (fun _ h => h.elim) _ _ (turn_put _ _ _ _) ?_
          clear hK K r0 r1 r2 r3
          refine wpGx_done ?_
          go_wp2
          go_meet
          exact ⟨bc, a, c, b9, a2, c2, rfl, rfl, Hfin.out⟩
      case rest =>
        obtain ⟨bc0, a, c, b9, a2, c2, rfl, rfl, HR⟩ := hcut
        go_wp2_with fail
        go_loopg [15, 17, 18, 19, 20, 21, 22, 23, 24] 80 (fun gk cp iv _ _ _ _ _ _ _ wr => ∃ (i bc k : Nat), cp = .pointer (some ⟨bc, 0, none⟩) ∧ iv = .int .i64 i ∧ i ≤ mm ∧ i ≤ 80 ∧ 80 - i = gk ∧ Hid (CR w wr bc a c b9 a2 c2 n k L al es))
        case atStart => exact ⟨0, bc0, 0, rfl, rfl, by omega, by omega, rfl, HR⟩
        case round =>
          obtain ⟨i, bc, k, rfl, rfl, him, hi80, rfl, HS⟩ := hrel
          by_cases hlt : i < mm ∧ i < 80
          · obtain ⟨hl1, hl2⟩ := hlt
            have iM : (i : Int) < (mm : Int) := by omega
            have i80 : (i : Int) < 80 := by omega
            have i0 : (0 : Int) ≤ (i : Int) := by omega
            obtain ⟨ga, oa, rfl, hmov⟩ := (Hmv.out.2.below HS.out.b (Nat.le_refl _)) (by rw [Hmv.out.1]; omega)
            obtain ⟨⟨k0, k1, k2⟩, hok⟩ := hmov i (by rw [Hmv.out.1]; exact hl1)
            generalize mva mvs i = y at *
            obtain ⟨kx, ky, kt⟩ := y
            have Hok := Lib.hid hok
            have hkt := hok.2
            dsimp only at k0 k1 k2 hkt
            obtain ⟨W1, hW1, hm1, hbW1⟩ := alloc_own wr MVT #[.int .i64 kx, .string ky, .int .u16 kt]
            obtain ⟨bm, hbm⟩ : ∃ bm, wr.heap.size = bm := ⟨_, rfl⟩
            rw [hbm] at hm1
            have M1 : Hid (MB W1 bm kx ky kt) := hm1
            have X1 := Lib.hid (HS.out.ext hbW1)
            have Hb1 := Lib.hid hbW1
            have HW1 := Lib.hid hW1
            have Hbm := Lib.hid hbm
            obtain ⟨T3, hT3⟩ : ∃ T3, kt % 3 = T3 := ⟨_, rfl⟩
            have eT : (kt : Int).tmod 3 = (T3 : Int) := by rw [Int.tmod_eq_emod_of_nonneg (by omega)]; omega
            obtain ⟨kk, hkk⟩ : ∃ kk, keyS es ky kt = kk := ⟨_, rfl⟩
            obtain ⟨DB, hDB⟩ : ∃ DB, DB = decide (0 < N ∧ 0 < T3) := ⟨_, rfl⟩
            have HDB := Lib.hid hDB
            have Hkk : Hid (kk = if 0 < N ∧ 0 < T3 then (ea es (kt % N)).k else ky) := by show _ = _; rw [← hkk, ← hT3, ← Hes.out.1]; rfl
            have mk1 := M1.out.c1
            have mk2 := M1.out.c2
            rw [← hW1, ← hbm] at mk1 mk2
            clear hmov hok hW1 hm1 hbW1 hbm hT3 hkk hDB
            go_upto_region 22 with fail
            rw [HW1.out, Hbm.out]
            clear mk1 mk2 k0 k1 k2
            have mk2 := M1.out.c2
            go_cut [113] from 89 to 187 (fun bv wx => bv = .bool DB ∧ W1 = wx)
            case first =>
              by_cases hN0 : 0 < N
              · have e1 : (0 : Int) < (N : Int) := by omega
                by_cases hT : 0 < T3
                · have e2 : (0 : Int) < (T3 : Int) := by omega
                  have hD : DB = true := by rw [HDB.out]; exact decide_eq_true ⟨hN0, hT⟩
                  subst hD
                  go_wp2_with fail
                  go_meet
                  exact ⟨rfl, rfl⟩
                · obtain rfl : T3 = 0 := by omega
                  have hD : DB = false := by rw [HDB.out]; exact decide_eq_false (by omega)
                  subst hD
                  go_wp2_with fail
                  go_meet
                  exact ⟨rfl, rfl⟩
              · obtain rfl : N = 0 := by omega
                have hD : DB = false := by rw [HDB.out]; exact decide_eq_false (by omega)
                subst hD
                go_wp2_with fail
                go_meet
                exact ⟨rfl, rfl⟩
            case rest =>
              obtain ⟨rfl, rfl⟩ := hcut
              go_upto_if 113 with fail
              go_cut [19] from 89 to 187 (fun kv wx => kv = .string kk ∧ W1 = wx)
              case first =>
                cases hD : DB with
                | false =>
                  have hk : kk = ky := by rw [Hkk.out, if_neg (by have := HDB.out; rw [hD] at this; simpa using this.symm)]
                  subst hk
                  go_wp2_with fail
                  go_meet
                  exact ⟨rfl, rfl⟩
                | true =>
                  have hD2 : 0 < N ∧ 0 < T3 := by have := HDB.out; rw [hD] at this; simpa using this.symm
                  have hk : kk = (ea es (kt % N)).k := by rw [Hkk.out, if_pos hD2]
                  have h0' := hD2.1
                  obtain ⟨Q, hQ⟩ : ∃ Q, kt % N = Q := ⟨_, rfl⟩
                  rw [hQ] at hk
                  have lQ : Q < N := by rw [← hQ]; exact Nat.mod_lt _ h0'
                  have rQ : (kt : Int).tmod (N : Int) = (Q : Int) := by rw [Int.tmod_eq_emod_of_nonneg (by omega), ← hQ]; rfl
                  have wT : IntKind.i64.wrap (kt : Int) = (kt : Int) := by rw [IntKind.wrap_i64]; have := Hok.out.2; omega
                  have iQ : (Q : Int) < (N : Int) := by omega
                  have jQ : (0 : Int) ≤ (Q : Int) := by omega
                  have vQ : IntKind.i64.wrap (Q : Int) = (Q : Int) := by rw [IntKind.wrap_i64]; omega
                  have n0 : ((N : Int) == 0) = false := by rw [beq_eq_false_iff_ne]; omega
                  have n0' : ¬ (N : Int) = 0 := by omega
                  have n1 : (0 : Int) < (N : Int) := by omega
                  obtain ⟨g, o, rfl, hce⟩ := ES.ents X1.out.l (by rw [Hes.out.1]; exact h0')
                  have hc0 := (hce Q (by rw [Hes.out.1]; exact lQ)).1
                  rw [← hk] at hc0
                  have Hkq := Lib.hid hk
                  clear hQ hk hD2 h0' hce hD
                  go_wp2_with fail
                  go_meet
                  exact ⟨rfl, rfl⟩
              case rest =>
                obtain ⟨rfl, rfl⟩ := hcut
                by_cases hk100 : 100 < kk.size
                · have d3 : decide (100 < (kk.size : Int)) = true := decide_eq_true (by omega)
                  clear hk100
                  go_wp2_with fail
                  go_roundg (79 - i)
                  case measure => omega
                  case rel => exact ⟨i + 1, bc, k, rfl, by go_num, by omega, by omega, by omega, X1.out⟩
                have d3 : decide (100 < (kk.size : Int)) = false := decide_eq_false (by omega)
                clear hk100
                obtain ⟨W2, hW2, ha2, hbW2⟩ := alloc_own W1 ET #[.string ⟨#[]⟩, .string ⟨#[]⟩]
                obtain ⟨W3, hW3, hb3, hbW3⟩ := alloc_own W2 RET #[.string ⟨#[]⟩, .string ⟨#[]⟩]
                obtain ⟨ba, hba⟩ : ∃ ba, W1.heap.size = ba := ⟨_, rfl⟩
                obtain ⟨bb, hbb⟩ : ∃ bb, W2.heap.size = bb := ⟨_, rfl⟩
                have z2 : W2.heap.size = W1.heap.size + 1 := by rw [← hW2]; exact alloc_size _ _
                rw [hba] at ha2
                rw [hbb] at hb3
                have A3 : Hid (EB W3 ba E0) := (show EB W2 ba E0 from ha2).ext hbW3
                have B3 : Hid (RB W3 bb E0) := hb3
                have hbb1 : ba + 1 = bb := by omega
                have hb13 : Below W1.heap.size W1 W3 := hbW2.trans (hbW3.mono hbW2.size)
                have X3 := Lib.hid (X1.out.ext hb13)
                have M3 := Lib.hid (M1.out.ext hb13)
                have T3w : Hid (Turn (fun i => i = bc ∨ i = b9) wr W3) := Turn.ofBelow (Hb1.out.trans (hb13.mono Hb1.out.size))
                have Hne := Lib.hid (show ba ≠ bc ∧ ba ≠ b9 ∧ bb ≠ bc ∧ bb ≠ b9 ∧ ba ≠ bb ∧ wr.heap.size ≤ ba ∧ wr.heap.size ≤ bb from by
                  have e1 := X1.out.q.at_.lt; have e2 := X1.out.y.lt; have e3 := Hb1.out.size
                  refine ⟨?_, ?_, ?_, ?_, ?_, ?_, ?_⟩ <;> omega)
                have HW3 : Hid ((W1.alloc (.cells #[.string ⟨#[]⟩, .string ⟨#[]⟩] ET)).alloc (.cells #[.string ⟨#[]⟩, .string ⟨#[]⟩] RET) = W3) := by show _ = _; rw [hW2, hW3]
                have Hba := Lib.hid (And.intro hba hbb1)
                have mk0 := M3.out.c0
                rw [← hW3, ← hW2] at mk0
                clear hW2 ha2 hbW2 hW3 hb3 hbW3 z2 hba hbb hbb1 hb13
                by_cases q2 : kx = 2
                · subst q2
                  go_wp2_with fail
                  rw [HW3.out, Hba.out.1, Hba.out.2]
                  refine (prev_any W3 bc a n c L k X3.out.q).mono ?_
                  rintro e w4 ⟨rfl, hq4, ht4⟩
                  have hr := fun x hx => refPrev_any x a2 n c2 L k hx X3.out.q.hn X3.out.q.hl X3.out.q.hk
                  obtain ⟨D, hD⟩ : ∃ D, decide (0 < k) = D := ⟨_, rfl⟩
                  obtain ⟨x, hx⟩ : ∃ x, prevE L k = x := ⟨_, rfl⟩
                  obtain ⟨k2, hk2⟩ : ∃ k2, k - 1 = k2 := ⟨_, rfl⟩
                  rw [hD, hx]
                  rw [hk2] at hq4
                  have T4 : Turn (fun i => i = bc ∨ i = b9) wr w4 := T3w.out.step ht4 (fun i h _ => .inl h)
                  have a4 : EB w4 ba E0 := ht4.hg A3.out (by have := Hne.out; omega)
                  have p0 := a4.c0
                  have p1 := a4.c1
                  have p2 := a4.fz 0
                  have p3 := a4.fz 1
                  simp only [E0] at p0 p1
                  obtain ⟨w5, hw5⟩ : ∃ w5, (w4.setCell ⟨ba, 0, none⟩ (.string x.k)).setCell ⟨ba, 1, none⟩ (.string x.v) = w5 := ⟨_, rfl⟩
                  have tp := turn_put w4 ba (.string x.k) (.string x.v)
                  rw [hw5] at tp
                  have T5 : Turn (fun i => i = bc ∨ i = b9) wr w5 := T4.step tp (fun i h hl => by have := Hne.out; omega)
                  have a5 : EB w5 ba x := by rw [← hw5]; exact a4.put x
                  have b5 : RB w5 bb E0 := tp.hg (ht4.hg B3.out (by have := Hne.out; omega)) (by have := Hne.out; omega)
                  have c5 : Cur w5 bc a n c k2 := tp.hg hq4.at_ (by have := Hne.out; omega)
                  have y5 : RCur w5 b9 a2 n c2 k := tp.hg (ht4.hg X3.out.y (by have := X3.out.ne; omega)) (by have := Hne.out; omega)
                  have e5 := y5.c0
                  have e6 := y5.c1
                  rw [← hw5] at e5 e6
                  have hr5 := hr w5 (HS.out.rs.turn entE_str T5 HS.out.tf)
                  rw [hD, hx, hk2] at hr5
                  have Hr5 := Lib.hid hr5
                  have A5 := Lib.hid a5
                  have B5 := Lib.hid b5
                  have C5 := Lib.hid c5
                  have Y5 := Lib.hid y5
                  have TT5 := Lib.hid T5
                  have HW5 := Lib.hid hw5
                  have Hk2 : Hid (k2 ≤ n) := by show _ ≤ _; rw [← hk2]; exact Nat.le_trans (Nat.sub_le _ _) X3.out.q.hk
                  obtain ⟨xk, xv, xh⟩ := x
                  dsimp only at Hr5
                  clear hq4 ht4 hr T4 a4 hw5 tp T5 a5 b5 c5 y5 hr5 mk0 hx hD hk2
                  go_wp2_with fail
                  rw [HW5.out]
                  refine Hr5.out.mono ?_
                  rintro e w6 ⟨rfl, hb6⟩
                  have y6 := Y5.out.ext hb6
                  have u0 := y6.c0
                  have u1 := y6.c1
                  have u2 := y6.fz 0
                  have u3 := y6.fz 1
                  have t1 := turn_put w6 b9 (.slice a2 n c2) (.int .i64 k2)
                  obtain ⟨w7, hw7⟩ : ∃ w7, (w6.setCell ⟨b9, 0, none⟩ (.slice a2 n c2)).setCell ⟨b9, 1, none⟩ (.int .i64 k2) = w7 := ⟨_, rfl⟩
                  rw [hw7] at t1
                  have b7 : RB w7 bb E0 := t1.hg (B5.out.ext hb6) (by have := Hne.out; omega)
                  have v0 := b7.c0
                  have v1 := b7.c1
                  have v2 := b7.fz 0
                  have v3 := b7.fz 1
                  simp only [E0] at v0 v1
                  have t2 := turn_put w7 bb (.string xk) (.string xv)
                  obtain ⟨w8, hw8⟩ : ∃ w8, (w7.setCell ⟨bb, 0, none⟩ (.string xk)).setCell ⟨bb, 1, none⟩ (.string xv) = w8 := ⟨_, rfl⟩
                  rw [hw8] at t2
                  have T8 : Turn (fun i => i = bc ∨ i = b9) wr w8 := ((TT5.out.step (Turn.ofBelow (F := fun _ => False) hb6) (fun _ h _ => h.elim)).step t1 (fun i h _ => .inr h)).step t2 (fun i h hl => by have := Hne.out; omega)
                  have y8 : RCur w8 b9 a2 n c2 k2 := t2.hg (by rw [← hw7]; exact y6.put a2 n c2 k2) (by have := Hne.out; omega)
                  have c8 : Cur w8 bc a n c k2 := t2.hg (t1.hg (C5.out.ext hb6) (HS.out.ne)) (by have := Hne.out; omega)
                  have X8 := Lib.hid (HS.out.next T8 Hk2.out c8 y8 HS.out.lo HS.out.ne)
                  have a8 : EB w8 ba ⟨xk, xv, xh⟩ := t2.hg (t1.hg (A5.out.ext hb6) (by have := Hne.out; omega)) (by have := Hne.out; omega)
                  have b8 : RB w8 bb ⟨xk, xv, xh⟩ := by rw [← hw8]; exact b7.put ⟨xk, xv, xh⟩
                  have g0 := a8.c0
                  have g1 := a8.c1
                  have g2 := b8.c0
                  have g3 := b8.c1
                  dsimp only at g0 g1 g2 g3
                  rw [← hw8, ← hw7] at g0 g1 g2 g3
                  rw [← hw7] at v0 v1 v2 v3
                  have HW8 : Hid ((((w6.setCell ⟨b9, 0, none⟩ (.slice a2 n c2)).setCell ⟨b9, 1, none⟩ (.int .i64 k2)).setCell ⟨bb, 0, none⟩ (.string xk)).setCell ⟨bb, 1, none⟩ (.string xv) = w8) := by show _ = _; rw [hw7, hw8]
                  clear y6 t1 b7 t2 T8 y8 c8 a8 b8 hw7 hw8 hb6 e5 e6 Hr5 p0 p1 p2 p3
                  go_wp2_with fail
                  go_roundg (79 - i)
                  case measure => omega
                  case rel => exact ⟨i + 1, bc, k2, rfl, by go_num, by omega, by omega, by omega, by rw [HW8.out]; exact X8.out⟩

                have s2 : (kx == 2) = false := by rw [beq_eq_false_iff_ne]; exact q2
                by_cases q3 : kx = 3
                · subst q3
                  go_wp2_with fail
                  rw [HW3.out, Hba.out.1, Hba.out.2]
                  refine (seek_at W3 bc a n c L k kk X3.out.q HL.out.2.2).mono ?_
                  rintro e w4 ⟨rfl, hq4, ht4⟩
                  obtain ⟨k2, hk2⟩ : ∃ k2, fE L kk = k2 := ⟨_, rfl⟩
                  rw [hk2] at hq4
                  have T4 : Turn (fun i => i = bc ∨ i = b9) wr w4 := T3w.out.step ht4 (fun i h _ => .inl h)
                  have y4 : RCur w4 b9 a2 n c2 k := ht4.hg X3.out.y (by have := X3.out.ne; omega)
                  have e5 := y4.c0
                  have e6 := y4.c1
                  have hr5 := refSeek_any w4 a2 n c2 L k kk (HS.out.rs.turn entE_str T4 HS.out.tf) X3.out.q.hn X3.out.q.hl
                  rw [hk2] at hr5
                  have Hr5 := Lib.hid hr5
                  have A4 : Hid (EB w4 ba E0) := ht4.hg A3.out (by have := Hne.out; omega)
                  have B4 : Hid (RB w4 bb E0) := ht4.hg B3.out (by have := Hne.out; omega)
                  have C4 := Lib.hid hq4.at_
                  have Hk2 := Lib.hid hq4.hk
                  have Y4 := Lib.hid y4
                  have TT4 := Lib.hid T4
                  clear hq4 ht4 T4 y4 hr5 mk0 hk2
                  go_wp2_with fail
                  refine Hr5.out.mono ?_
                  rintro e w6 ⟨rfl, hb6⟩
                  have y6 := Y4.out.ext hb6
                  have u0 := y6.c0
                  have u1 := y6.c1
                  have u2 := y6.fz 0
                  have u3 := y6.fz 1
                  have t1 := turn_put w6 b9 (.slice a2 n c2) (.int .i64 k2)
                  obtain ⟨w7, hw7⟩ : ∃ w7, (w6.setCell ⟨b9, 0, none⟩ (.slice a2 n c2)).setCell ⟨b9, 1, none⟩ (.int .i64 k2) = w7 := ⟨_, rfl⟩
                  rw [hw7] at t1
                  have T7 : Turn (fun i => i = bc ∨ i = b9) wr w7 := (TT4.out.step (Turn.ofBelow (F := fun _ => False) hb6) (fun _ h _ => h.elim)).step t1 (fun i h _ => .inr h)
                  have y7 : RCur w7 b9 a2 n c2 k2 := by rw [← hw7]; exact y6.put a2 n c2 k2
                  have c7 : Cur w7 bc a n c k2 := t1.hg (C4.out.ext hb6) (HS.out.ne)
                  have X7 := Lib.hid (HS.out.next T7 Hk2.out c7 y7 HS.out.lo HS.out.ne)
                  have a7 : EB w7 ba E0 := t1.hg (A4.out.ext hb6) (by have := Hne.out; omega)
                  have b7 : RB w7 bb E0 := t1.hg (B4.out.ext hb6) (by have := Hne.out; omega)
                  have g0 := a7.c0
                  have g1 := a7.c1
                  have g2 := b7.c0
                  have g3 := b7.c1
                  simp only [E0] at g0 g1 g2 g3
                  rw [← hw7] at g0 g1 g2 g3
                  have HW7 := Lib.hid hw7
                  clear y6 t1 T7 y7 c7 a7 b7 hw7 hb6 e5 e6 Hr5
                  go_wp2_with fail
                  go_roundg (79 - i)
                  case measure => omega
                  case rel => exact ⟨i + 1, bc, k2, rfl, by go_num, by omega, by omega, by omega, by rw [HW7.out]; exact X7.out⟩

                have s3 : (kx == 3) = false := by rw [beq_eq_false_iff_ne]; exact q3
                by_cases q4 : kx = 4
                · subst q4
                  go_wp2_with fail
                  rw [HW3.out, Hba.out.1, Hba.out.2]
                  refine (end_at W3 bc a n c L k X3.out.q).mono ?_
                  rintro e w4 ⟨rfl, hq4, ht4⟩
                  have T4 : Turn (fun i => i = bc ∨ i = b9) wr w4 := T3w.out.step ht4 (fun i h _ => .inl h)
                  have y4 : RCur w4 b9 a2 n c2 k := ht4.hg X3.out.y (by have := X3.out.ne; omega)
                  have e5 := y4.c0
                  have e6 := y4.c1
                  have e7 := y4.fz 1
                  have t1 := turn_one w4 b9 1 (.int .i64 n)
                  obtain ⟨w7, hw7⟩ : ∃ w7, w4.setCell ⟨b9, 1, none⟩ (.int .i64 n) = w7 := ⟨_, rfl⟩
                  rw [hw7] at t1
                  have T7 : Turn (fun i => i = bc ∨ i = b9) wr w7 := T4.step t1 (fun i h _ => .inr h)
                  have y7 : RCur w7 b9 a2 n c2 n := by rw [← hw7]; exact y4.put1 n
                  have c7 : Cur w7 bc a n c n := t1.hg hq4.at_ (HS.out.ne)
                  have X7 := Lib.hid (HS.out.next T7 (Nat.le_refl _) c7 y7 HS.out.lo HS.out.ne)
                  have a7 : EB w7 ba E0 := t1.hg (ht4.hg A3.out (by have := Hne.out; omega)) (by have := Hne.out; omega)
                  have b7 : RB w7 bb E0 := t1.hg (ht4.hg B3.out (by have := Hne.out; omega)) (by have := Hne.out; omega)
                  have g0 := a7.c0
                  have g1 := a7.c1
                  have g2 := b7.c0
                  have g3 := b7.c1
                  simp only [E0] at g0 g1 g2 g3
                  rw [← hw7] at g0 g1 g2 g3
                  have HW7 := Lib.hid hw7
                  clear hq4 ht4 T4 y4 t1 T7 y7 c7 a7 b7 hw7 mk0
                  go_wp2_with fail
                  go_roundg (79 - i)
                  case measure => omega
                  case rel => exact ⟨i + 1, bc, n, rfl, by go_num, by omega, by omega, by omega, by rw [HW7.out]; exact X7.out⟩

                have s4 : (kx == 4) = false := by rw [beq_eq_false_iff_ne]; exact q4
                by_cases q5 : kx = 5
                · subst q5
                  go_wp2_with fail
                  rw [HW3.out, Hba.out.1, Hba.out.2]
                  refine (ccopy_any W3 bc a n c L k X3.out.q).mono ?_
                  rintro e w4 ⟨b2, rfl, hlb, hq4, hb4⟩
                  have X4 := Lib.hid (X3.out.ext hb4)
                  have Q4 := Lib.hid hq4
                  have Hb2 := Lib.hid (show b2 ≠ bc ∧ b2 ≠ b9 ∧ w.heap.size ≤ b2 from ⟨by have := X3.out.q.at_.lt; omega, by have := X3.out.y.lt; omega, Nat.le_trans X3.out.b.size hlb⟩)
                  have Hb4 := Lib.hid hb4
                  clear hlb hq4 hb4 mk0
                  go_wp2_with fail
                  refine (end_at w4 bc a n c L k X4.out.q).mono ?_
                  rintro e w5 ⟨rfl, hq5, ht5⟩
                  have T5 : Turn (fun i => i = bc ∨ i = b9) wr w5 := (T3w.out.step (Turn.ofBelow (F := fun _ => False) Hb4.out) (fun _ h _ => h.elim)).step ht5 (fun i h _ => .inl h)
                  have y5 : RCur w5 b9 a2 n c2 k := ht5.hg X4.out.y (by have := X3.out.ne; omega)
                  have c5 : Cur w5 b2 a n c k := ht5.hg Q4.out.at_ Hb2.out.1
                  have X5 := Lib.hid (HS.out.next T5 X4.out.q.hk c5 y5 Hb2.out.2.2 Hb2.out.2.1)
                  have a7 : EB w5 ba E0 := ht5.hg (A3.out.ext Hb4.out) (by have := Hne.out; omega)
                  have b7 : RB w5 bb E0 := ht5.hg (B3.out.ext Hb4.out) (by have := Hne.out; omega)
                  have g0 := a7.c0
                  have g1 := a7.c1
                  have g2 := b7.c0
                  have g3 := b7.c1
                  simp only [E0] at g0 g1 g2 g3
                  clear hq5 ht5 T5 y5 c5 a7 b7
                  go_wp2_with fail
                  go_roundg (79 - i)
                  case measure => omega
                  case rel => exact ⟨i + 1, b2, k, rfl, by go_num, by omega, by omega, by omega, X5.out⟩

                have s5 : (kx == 5) = false := by rw [beq_eq_false_iff_ne]; exact q5
                clear q2 q3 q4 q5
                go_wp2_with fail
                rw [HW3.out, Hba.out.1, Hba.out.2]
                refine (next_any W3 bc a n c L k X3.out.q).mono ?_
                rintro e w4 ⟨rfl, hq4, ht4⟩
                have hr := fun x hx => refNext_any x a2 n c2 L k hx X3.out.q.hn X3.out.q.hl X3.out.q.hk
                obtain ⟨D, hD⟩ : ∃ D, decide (k < n) = D := ⟨_, rfl⟩
                obtain ⟨x, hx⟩ : ∃ x, ea L k = x := ⟨_, rfl⟩
                obtain ⟨k2, hk2⟩ : ∃ k2, nextK n k = k2 := ⟨_, rfl⟩
                rw [hD, hx]
                rw [hk2] at hq4
                have T4 : Turn (fun i => i = bc ∨ i = b9) wr w4 := T3w.out.step ht4 (fun i h _ => .inl h)
                have a4 : EB w4 ba E0 := ht4.hg A3.out (by have := Hne.out; omega)
                have p0 := a4.c0
                have p1 := a4.c1
                have p2 := a4.fz 0
                have p3 := a4.fz 1
                simp only [E0] at p0 p1
                obtain ⟨w5, hw5⟩ : ∃ w5, (w4.setCell ⟨ba, 0, none⟩ (.string x.k)).setCell ⟨ba, 1, none⟩ (.string x.v) = w5 := ⟨_, rfl⟩
                have tp := turn_put w4 ba (.string x.k) (.string x.v)
                rw [hw5] at tp
                have T5 : Turn (fun i => i = bc ∨ i = b9) wr w5 := T4.step tp (fun i h hl => by have := Hne.out; omega)
                have a5 : EB w5 ba x := by rw [← hw5]; exact a4.put x
                have b5 : RB w5 bb E0 := tp.hg (ht4.hg B3.out (by have := Hne.out; omega)) (by have := Hne.out; omega)
                have c5 : Cur w5 bc a n c k2 := tp.hg hq4.at_ (by have := Hne.out; omega)
                have y5 : RCur w5 b9 a2 n c2 k := tp.hg (ht4.hg X3.out.y (by have := X3.out.ne; omega)) (by have := Hne.out; omega)
                have e5 := y5.c0
                have e6 := y5.c1
                rw [← hw5] at e5 e6
                have hr5 := hr w5 (HS.out.rs.turn entE_str T5 HS.out.tf)
                rw [hD, hx, hk2] at hr5
                have Hr5 := Lib.hid hr5
                have A5 := Lib.hid a5
                have B5 := Lib.hid b5
                have C5 := Lib.hid c5
                have Y5 := Lib.hid y5
                have TT5 := Lib.hid T5
                have HW5 := Lib.hid hw5
                have Hk2 : Hid (k2 ≤ n) := by show _ ≤ _; rw [← hk2]; exact nextK_le X3.out.q.hk
                obtain ⟨xk, xv, xh⟩ := x
                dsimp only at Hr5
                clear hq4 ht4 hr T4 a4 hw5 tp T5 a5 b5 c5 y5 hr5 mk0 hx hD hk2
                go_wp2_with fail
                rw [HW5.out]
                refine Hr5.out.mono ?_
                rintro e w6 ⟨rfl, hb6⟩
                have y6 := Y5.out.ext hb6
                have u0 := y6.c0
                have u1 := y6.c1
                have u2 := y6.fz 0
                have u3 := y6.fz 1
                have t1 := turn_put w6 b9 (.slice a2 n c2) (.int .i64 k2)
                obtain ⟨w7, hw7⟩ : ∃ w7, (w6.setCell ⟨b9, 0, none⟩ (.slice a2 n c2)).setCell ⟨b9, 1, none⟩ (.int .i64 k2) = w7 := ⟨_, rfl⟩
                rw [hw7] at t1
                have b7 : RB w7 bb E0 := t1.hg (B5.out.ext hb6) (by have := Hne.out; omega)
                have v0 := b7.c0
                have v1 := b7.c1
                have v2 := b7.fz 0
                have v3 := b7.fz 1
                simp only [E0] at v0 v1
                have t2 := turn_put w7 bb (.string xk) (.string xv)
                obtain ⟨w8, hw8⟩ : ∃ w8, (w7.setCell ⟨bb, 0, none⟩ (.string xk)).setCell ⟨bb, 1, none⟩ (.string xv) = w8 := ⟨_, rfl⟩
                rw [hw8] at t2
                have T8 : Turn (fun i => i = bc ∨ i = b9) wr w8 := ((TT5.out.step (Turn.ofBelow (F := fun _ => False) hb6) (fun _ h _ => h.elim)).step t1 (fun i h _ => .inr h)).step t2 (fun i h hl => by have := Hne.out; omega)
                have y8 : RCur w8 b9 a2 n c2 k2 := t2.hg (by rw [← hw7]; exact y6.put a2 n c2 k2) (by have := Hne.out; omega)
                have c8 : Cur w8 bc a n c k2 := t2.hg (t1.hg (C5.out.ext hb6) (HS.out.ne)) (by have := Hne.out; omega)
                have X8 := Lib.hid (HS.out.next T8 Hk2.out c8 y8 HS.out.lo HS.out.ne)
                have a8 : EB w8 ba ⟨xk, xv, xh⟩ := t2.hg (t1.hg (A5.out.ext hb6) (by have := Hne.out; omega)) (by have := Hne.out; omega)
                have b8 : RB w8 bb ⟨xk, xv, xh⟩ := by rw [← hw8]; exact b7.put ⟨xk, xv, xh⟩
                have g0 := a8.c0
                have g1 := a8.c1
                have g2 := b8.c0
                have g3 := b8.c1
                dsimp only at g0 g1 g2 g3
                rw [← hw8, ← hw7] at g0 g1 g2 g3
                rw [← hw7] at v0 v1 v2 v3
                have HW8 : Hid ((((w6.setCell ⟨b9, 0, none⟩ (.slice a2 n c2)).setCell ⟨b9, 1, none⟩ (.int .i64 k2)).setCell ⟨bb, 0, none⟩ (.string xk)).setCell ⟨bb, 1, none⟩ (.string xv) = w8) := by show _ = _; rw [hw7, hw8]
                clear y6 t1 b7 t2 T8 y8 c8 a8 b8 hw7 hw8 hb6 e5 e6 Hr5 p0 p1 p2 p3
                go_wp2_with fail
                go_roundg (79 - i)
                case measure => omega
                case rel => exact ⟨i + 1, bc, k2, rfl, by go_num, by omega, by omega, by omega, by rw [HW8.out]; exact X8.out⟩

          · have Hsu := Lib.hid (sure_any wr (Hg0.out HS.out.b))
            rcases Nat.lt_or_ge i mm with hl1 | hl1
            · have iM : (i : Int) < (mm : Int) := by omega
              have i80 : ¬ (i : Int) < 80 := by omega
              clear hlt
              go_wp2_with fail
              refine Hsu.out.mono ?_
              rintro e w2 ⟨rfl, hb2⟩
              have HB := Lib.hid (HS.out.b.trans (hb2.mono HS.out.b.size))
              clear hb2 Hsu
              go_wp2_with fail
              go_ret
              exact ⟨rfl, HB.out⟩
            · have iM : ¬ (i : Int) < (mm : Int) := by omega
              clear hlt
              go_wp2_with fail
              refine Hsu.out.mono ?_
              rintro e w2 ⟨rfl, hb2⟩
              have HB := Lib.hid (HS.out.b.trans (hb2.mono HS.out.b.size))
              clear hb2 Hsu
              go_wp2_with fail
              go_ret
              exact ⟨rfl, HB.out⟩
end Go.Proofs.YtggibbgohhpfpaaDoor
