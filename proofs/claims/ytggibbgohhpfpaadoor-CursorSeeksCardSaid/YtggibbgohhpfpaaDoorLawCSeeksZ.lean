/-
  CursorSeeks.
-/
import Derived.Test.YtggibbgohhpfpaaDoorSure14Z
import Derived.Test.YtggibbgohhpfpaaDoorAppOneZ
import Derived.Test.YtggibbgohhpfpaaDoorMovesZ
import Derived.Test.YtggibbgohhpfpaaDoorGsZ
import Derived.Deep.Cut
import Derived.Deep.CutRange
import Derived.Deep.LoopGhost
namespace Go.Proofs.YtggibbgohhpfpaaDoor
open Go Go.RowKit

/-- The first entry not below the key among the first k. -/
def nxE (L : List En) (F k : Nat) : En := if F < k then ea L F else E0
/-- What stands between the rounds. -/
structure SJ (wz w : World) (s : Sp) (es : List En) (bn ba bd : Nat) (L : List En) (F i k : Nat) : Prop where
  hk : k = (inS s (es.take i)).length
  b : Below wz.heap.size wz w
  n : EB w bn (nxE L F k)
  a : EB w ba (prevE L (min F k))
  d : EB w bd (prevE L k)
theorem SJ.ext {wz w w' : World} {s : Sp} {es L : List En} {bn ba bd F i k : Nat} (h : SJ wz w s es bn ba bd L F i k) (hb : Below w.heap.size w w') : SJ wz w' s es bn ba bd L F i k :=
  ⟨h.hk, h.b.trans (hb.mono h.b.size), h.n.ext hb, h.a.ext hb, h.d.ext hb⟩
theorem eb_put {W : World} {b b2 : Nat} {x y : En} (h : EB W b2 y) (hne : b2 ≠ b) : EB ((W.setCell ⟨b, 0, none⟩ (.string x.k)).setCell ⟨b, 1, none⟩ (.string x.v)) b2 y := (turn_put W b _ _).hg h hne
theorem three_ents (w : World) : ∃ W, ((w.alloc (.cells #[.string ⟨#[]⟩, .string ⟨#[]⟩] ET)).alloc (.cells #[.string ⟨#[]⟩, .string ⟨#[]⟩] ET)).alloc (.cells #[.string ⟨#[]⟩, .string ⟨#[]⟩] ET) = W ∧
    EB W w.heap.size E0 ∧ EB W (w.heap.size + 1) E0 ∧ EB W (w.heap.size + 1 + 1) E0 ∧ Below w.heap.size w W := by
  obtain ⟨W, hW, h1, h2, h3, hb, _⟩ := three_own w #[.string ⟨#[]⟩, .string ⟨#[]⟩] #[.string ⟨#[]⟩, .string ⟨#[]⟩] #[.string ⟨#[]⟩, .string ⟨#[]⟩] ET ET ET
  exact ⟨W, hW, h1, h2, h3, hb⟩
set_option maxHeartbeats 4000000 in
set_option maxRecDepth 100000 in
theorem seeks_any (n0 m0 : Nat) (lo hi : ByteArray) (op : Bool) (y : Mv) (w : World) (h1 : n0 < 65536) (h2 : m0 < 65536) (hok : mvOk y) (hg : Hg w) :
    Calls Tryd.prog 5 #[.agg #[.int .u16 n0, .int .u16 m0], .agg #[.string lo, .string hi, .bool op], .agg #[.int .i64 y.x, .string y.k, .int .u16 y.t]] w fun e w' => e = .returned (.bool true) ∧ Below w.heap.size w w' := by
  have Hg0 : Hid (∀ {w'}, Below w.heap.size w w' → Hg w') := fun h => hg.below h
  obtain ⟨kx, ky, kt⟩ := y
  dsimp only
  have Hok := Lib.hid hok
  have hkt := hok.2
  dsimp only at hkt
  obtain ⟨W0, hW0, k1, k2, k3, hb0, _⟩ := three_own w #[.int .u16 n0, .int .u16 m0] #[.string lo, .string hi, .bool op] #[.int .i64 kx, .string ky, .int .u16 kt] ARR RSP MVT
  obtain ⟨N0, hN0⟩ : ∃ N0, n0 % 120 = N0 := ⟨_, rfl⟩
  have eN : (n0 : Int).tmod 120 = (N0 : Int) := by rw [Int.tmod_eq_emod_of_nonneg (by omega)]; omega
  have wN : IntKind.i64.wrap (N0 : Int) = (N0 : Int) := by rw [IntKind.wrap_i64]; omega
  have wM : IntKind.i64.wrap (m0 : Int) = (m0 : Int) := by rw [IntKind.wrap_i64]; omega
  obtain ⟨bo, hbo⟩ : ∃ bo, w.heap.size = bo := ⟨_, rfl⟩
  obtain ⟨bs, hbs⟩ : ∃ bs, bo + 1 = bs := ⟨_, rfl⟩
  obtain ⟨bm, hbm⟩ : ∃ bm, bs + 1 = bm := ⟨_, rfl⟩
  rw [hbo] at k1 k2 k3
  rw [hbs] at k2 k3
  rw [hbm] at k3
  have A1 : Hid (AR2 W0 bo n0 m0) := k1
  have SP1 : Hid (SpIn W0 bs RSP ⟨lo, hi, op⟩) := k2
  have M0 : Hid (MB W0 bm kx ky kt) := k3
  have HB1 := Lib.hid hb0
  have HW0 := Lib.hid hW0
  have HN9 : Hid (N0 ≤ 119) := by show _ ≤ _; omega
  have Hbs := Lib.hid (And.intro hbo (And.intro hbs hbm))
  have Hgr := Lib.hid (grown_any N0 m0 W0 (by omega) (by omega) (Hg0.out hb0))
  clear hW0 k1 k2 k3 hb0 hN0 hg hbo hbs hbm hok
  go_enter Tryd.func5, Tryd.ntmps5
  go_wp2_with fail
  rw [HW0.out, Hbs.out.1, Hbs.out.2.1, Hbs.out.2.2]
  refine Hgr.out.mono ?_
  rintro e w1 ⟨p, H, es, l, rfl, ht, hl, hlen, hb1⟩
  replace ht := ht.tp
  obtain ⟨al, N, cl, rfl, hls, hlN, hlc⟩ := ev_ct hl
  rw [hlN]
  obtain ⟨W1, hW1, hn1, hbW1⟩ := alloc_own w1 TT #[.pointer p, .int .i64 N]
  obtain ⟨bt, hbt⟩ : ∃ bt, w1.heap.size = bt := ⟨_, rfl⟩
  rw [hbt] at hn1
  have hb01 := HB1.out.trans (hb1.mono HB1.out.size)
  have hN119 : N ≤ 119 := by have := HN9.out; omega
  have X : Hid (CT w W1 bt p es N H al cl) := ⟨hn1, ht.ext hbW1, hls.below hbW1 (Nat.le_refl _), hlN, by omega, hlc, hb01.trans (hbW1.mono hb01.size)⟩
  have SP := Lib.hid ((SP1.out.ext hb1).ext hbW1)
  have A := Lib.hid ((A1.out.ext hb1).ext hbW1)
  have M1 := Lib.hid ((M0.out.ext hb1).ext hbW1)
  have HW1 := Lib.hid hW1
  have Hbt := Lib.hid hbt
  have Hes : Hid (es.length = N ∧ ∀ e ∈ es, okE e) := ⟨X.out.hn, X.out.ok⟩
  obtain ⟨T3, hT3⟩ : ∃ T3, kt % 3 = T3 := ⟨_, rfl⟩
  have eT : (kt : Int).tmod 3 = (T3 : Int) := by rw [Int.tmod_eq_emod_of_nonneg (by omega)]; omega
  obtain ⟨kk, hkk⟩ : ∃ kk, keyS es ky kt = kk := ⟨_, rfl⟩
  obtain ⟨DB, hDB⟩ : ∃ DB, DB = decide (0 < N ∧ 0 < T3) := ⟨_, rfl⟩
  have HDB := Lib.hid hDB
  have Hkk : Hid (kk = if 0 < N ∧ 0 < T3 then (ea es (kt % N)).k else ky) := by show _ = _; rw [← hkk, ← hT3, ← Hes.out.1]; rfl
  have mk1 := M1.out.c1
  have mk2 := M1.out.c2
  have t0 := X.out.t.c0
  have t1 := X.out.t.c1
  have s0 := SP.out.c0
  have s1 := SP.out.c1
  have s2 := SP.out.c2
  have o0 := A.out.c0
  have o1 := A.out.c1
  rw [← hW1] at t0 t1 s0 s1 s2 o0 o1 mk1 mk2
  clear hW1 hn1 hbW1 hb01 hb1 ht hl hlen hls hlN hlc Hgr HB1 SP1 A1 M0 hbt HW0 hT3 hkk hDB
  go_upto_region 5 with fail
  rw [HW1.out, Hbt.out]
  clear mk1 mk2 t0 t1 s0 s1 s2 o0 o1
  have mk2 := M1.out.c2
  go_cut [53] from 29 (fun bv wx => bv = .bool DB ∧ W1 = wx)
  case first =>
    by_cases hN0 : 0 < N
    · have e1 : (0 : Int) < (N : Int) := by omega
      by_cases hT : 0 < T3
      · have e2 : (0 : Int) < (T3 : Int) := by omega
        have hD : DB = true := by rw [HDB.out]; exact decide_eq_true ⟨hN0, hT⟩
        subst hD
        go_wp2_with fail
        go_meet
        exact ⟨rfl, rfl⟩
      · obtain rfl : T3 = 0 := by omega
        have hD : DB = false := by rw [HDB.out]; exact decide_eq_false (by omega)
        subst hD
        go_wp2_with fail
        go_meet
        exact ⟨rfl, rfl⟩
    · obtain rfl : N = 0 := by omega
      have hD : DB = false := by rw [HDB.out]; exact decide_eq_false (by omega)
      subst hD
      go_wp2_with fail
      go_meet
      exact ⟨rfl, rfl⟩
  case rest =>
    obtain ⟨rfl, rfl⟩ := hcut
    go_upto_if 53 with fail
    go_cut [10] from 29 (fun kv wx => kv = .string kk ∧ W1 = wx)
    case first =>
      cases hD : DB with
      | false =>
        have hk : kk = ky := by rw [Hkk.out, if_neg (by have := HDB.out; rw [hD] at this; simpa using this.symm)]
        subst hk
        go_wp2_with fail
        go_meet
        exact ⟨rfl, rfl⟩
      | true =>
        have hD2 : 0 < N ∧ 0 < T3 := by have := HDB.out; rw [hD] at this; simpa using this.symm
        have hk : kk = (ea es (kt % N)).k := by rw [Hkk.out, if_pos hD2]
        have h0' := hD2.1
        obtain ⟨Q, hQ⟩ : ∃ Q, kt % N = Q := ⟨_, rfl⟩
        rw [hQ] at hk
        have lQ : Q < N := by rw [← hQ]; exact Nat.mod_lt _ h0'
        have rQ : (kt : Int).tmod (N : Int) = (Q : Int) := by rw [Int.tmod_eq_emod_of_nonneg (by omega), ← hQ]; rfl
        have wT : IntKind.i64.wrap (kt : Int) = (kt : Int) := by rw [IntKind.wrap_i64]; have := Hok.out.2; omega
        have iQ : (Q : Int) < (N : Int) := by omega
        have jQ : (0 : Int) ≤ (Q : Int) := by omega
        have vQ : IntKind.i64.wrap (Q : Int) = (Q : Int) := by rw [IntKind.wrap_i64]; omega
        have n0 : ((N : Int) == 0) = false := by rw [beq_eq_false_iff_ne]; omega
        have n0' : ¬ (N : Int) = 0 := by omega
        have n1 : (0 : Int) < (N : Int) := by omega
        obtain ⟨g, o, rfl, hce⟩ := ES.ents X.out.l (by rw [Hes.out.1]; exact h0')
        have hc0 := (hce Q (by rw [Hes.out.1]; exact lQ)).1
        rw [← hk] at hc0
        have Hkq := Lib.hid hk
        clear hQ hk hD2 h0' hce hD
        go_wp2_with fail
        go_meet
        exact ⟨rfl, rfl⟩
    case rest =>
      obtain ⟨rfl, rfl⟩ := hcut
      have s0 := SP.out.c0
      have s1 := SP.out.c1
      have s2 := SP.out.c2
      have o0 := A.out.c0
      have o1 := A.out.c1
      clear mk2
      by_cases g1 : 100 < lo.size
      · have d1 : decide (100 < (lo.size : Int)) = true := decide_eq_true (by omega)
        have Hsu := Lib.hid (sure_any W1 (Hg0.out X.out.b))
        go_wp2_with fail
        refine Hsu.out.mono ?_
        rintro e w2 ⟨rfl, hb2⟩
        have HB := Lib.hid (X.out.b.trans (hb2.mono X.out.b.size))
        clear hb2 Hsu s0 s1 s2 o0 o1
        go_wp2_with fail
        go_ret
        exact ⟨rfl, HB.out⟩
      have d1 : decide (100 < (lo.size : Int)) = false := decide_eq_false (by omega)
      by_cases g2 : 100 < hi.size
      · have d2 : decide (100 < (hi.size : Int)) = true := decide_eq_true (by omega)
        have Hsu := Lib.hid (sure_any W1 (Hg0.out X.out.b))
        go_wp2_with fail
        refine Hsu.out.mono ?_
        rintro e w2 ⟨rfl, hb2⟩
        have HB := Lib.hid (X.out.b.trans (hb2.mono X.out.b.size))
        clear hb2 Hsu s0 s1 s2 o0 o1
        go_wp2_with fail
        go_ret
        exact ⟨rfl, HB.out⟩
      have d2 : decide (100 < (hi.size : Int)) = false := decide_eq_false (by omega)
      by_cases g3 : 100 < kk.size
      · have d3 : decide (100 < (kk.size : Int)) = true := decide_eq_true (by omega)
        have Hsu := Lib.hid (sure_any W1 (Hg0.out X.out.b))
        go_wp2_with fail
        refine Hsu.out.mono ?_
        rintro e w2 ⟨rfl, hb2⟩
        have HB := Lib.hid (X.out.b.trans (hb2.mono X.out.b.size))
        clear hb2 Hsu s0 s1 s2 o0 o1
        go_wp2_with fail
        go_ret
        exact ⟨rfl, HB.out⟩
      have d3 : decide (100 < (kk.size : Int)) = false := decide_eq_false (by omega)
      have Hnr := near_any ⟨lo, hi, op⟩ al N cl es m0 n0 W1 X.out.hn X.out.l (by omega) h2 h1
      obtain ⟨sp, hsp⟩ : ∃ sp, nearS ⟨lo, hi, op⟩ es m0 n0 = sp := ⟨_, rfl⟩
      rw [hsp] at Hnr
      obtain ⟨lo2, hi2, op2⟩ := sp
      unfold Sp.v at Hnr
      have Hnr := Lib.hid Hnr
      clear hsp
      go_wp2_with fail
      refine Hnr.out.mono ?_
      rintro e w2 ⟨rfl, hb2⟩
      clear s0 s1 s2 o0 o1
      obtain ⟨W2, hW2, hn2, hbW2⟩ := alloc_own w2 SPT #[.string lo2, .string hi2, .bool op2]
      obtain ⟨bx, hbx⟩ : ∃ bx, w2.heap.size = bx := ⟨_, rfl⟩
      rw [hbx] at hn2
      have hbw2 := hb2.trans (hbW2.mono hb2.size)
      replace X := Lib.hid (X.out.ext hbw2)
      replace SP := Lib.hid (show SpIn W2 bx SPT ⟨lo2, hi2, op2⟩ from hn2)
      have HW2 := Lib.hid hW2
      have Hbx := Lib.hid hbx
      obtain ⟨L, hL⟩ : ∃ L, inS ⟨lo2, hi2, op2⟩ es = L := ⟨_, rfl⟩
      obtain ⟨n, hn⟩ : ∃ n, L.length = n := ⟨_, rfl⟩
      have hn119 : n ≤ 119 := by have h5 := inS_len ⟨lo2, hi2, op2⟩ es; rw [hL] at h5; have h6 := X.out.hn; omega
      have HL : Hid (inS ⟨lo2, hi2, op2⟩ es = L ∧ L.length = n ∧ srt L) := ⟨hL, hn, by rw [← hL]; exact srt_in _ X.out.srt⟩
      clear hb2 hW2 hn2 hbW2 hbx hbw2 hL hn Hnr A M1
      go_upto_region 10 with fail
      rw [HW2.out, Hbx.out]
      obtain ⟨W, hW⟩ : ∃ W, W2.drew = W := ⟨_, rfl⟩
      have hbd : Below W2.heap.size W2 W := by rw [← hW]; exact (Below.refl _ _).drew
      have XW := Lib.hid (X.out.ext hbd)
      have SW := Lib.hid (SP.out.ext hbd)
      have q0 : ∀ w', Turn (fun _ => False) W w' → w'.cell? ⟨bt, 0, none⟩ = some (.pointer p) := fun w' t => (XW.out.t.turn t (fun h => h)).c0
      have q1 : ∀ w', Turn (fun _ => False) W w' → w'.cell? ⟨bt, 1, none⟩ = some (.int .i64 N) := fun w' t => (XW.out.t.turn t (fun h => h)).c1
      have q2 : ∀ w', Turn (fun _ => False) W w' → w'.cell? ⟨bx, 0, none⟩ = some (.string lo2) := fun w' t => (show SpIn w' bx SPT ⟨lo2, hi2, op2⟩ from t.hg SW.out (fun h => h)).c0
      have q3 : ∀ w', Turn (fun _ => False) W w' → w'.cell? ⟨bx, 1, none⟩ = some (.string hi2) := fun w' t => (show SpIn w' bx SPT ⟨lo2, hi2, op2⟩ from t.hg SW.out (fun h => h)).c1
      have q4 : ∀ w', Turn (fun _ => False) W w' → w'.cell? ⟨bx, 2, none⟩ = some (.bool op2) := fun w' t => (show SpIn w' bx SPT ⟨lo2, hi2, op2⟩ from t.hg SW.out (fun h => h)).c2
      have Hnew : Hid (∀ x, Below W.heap.size W x → Calls Tryd.prog 14 #[.agg #[.pointer p, .int .i64 N], .agg #[.string lo2, .string hi2, .bool op2]] x fun e w' => ∃ b a m c, e = .returned (.pointer (some ⟨b, 0, none⟩)) ∧ x.heap.size ≤ b ∧ CurQ w' b a m c L 0 ∧ Below x.heap.size x w') := fun x hx => by
        have h := cnew_any p es H ⟨lo2, hi2, op2⟩ x (XW.out.tr.ext hx) N XW.out.hn (by omega)
        rw [HL.out.1] at h
        exact h
      have HW := Lib.hid hW
      clear hW hbd X SP HW2 Hbx
      refine wp_region_gx (fun _ => False) (.rd 0 (.rd 1 (.rd 3 (.rd 4 (.rd 6 (.rd 7 (.call 2 (.call 5 (.call 8 (.rd 9 (.rd 10 (.rd 11 .done)))))))))))) (by kernel_rfl) (by kernel_rfl) (by kernel_rfl) (by kernel_rfl) (fun _ _ _ _ _ h => h) ?_
      rw [HW.out]
      clear HW
      iterate 6 (refine wpGx_read (o := ⟨_, _, _, _, _, _⟩) (v := ?_) rfl (by rfl) ?_ ?_; rotate_left; (intro w' hw'; go_simp; with_reducible rfl); simp only [Act.put, List.setIfInBounds_toArray, List.set_cons_zero, List.set_cons_succ])
      clear q0 q1 q2 q3 q4
      refine stepX_call (o := ⟨_, _, _, _, _, _⟩) rfl (by rfl) (fun K hK => ?_)
      go_simp
      refine (Hnew.out W (Below.refl _ _)).mono ?_
      rintro e wa ⟨b1, a1, m1, c1, rfl, hl1, hq1, hb1⟩
      obtain rfl : n = m1 := by rw [← hq1.hn]; exact HL.out.2.1.symm
      refine hK (fun _ => False) (fun _ h => h.elim) _ _ (Turn.ofBelow hb1) ?_
      clear hK K
      have Hl1 := Lib.hid hl1
      have Q1 := Lib.hid hq1
      have Hb1 := Lib.hid hb1
      clear hl1 hq1 hb1
      refine stepX_call (o := ⟨_, _, _, _, _, _⟩) rfl (by rfl) (fun K hK => ?_)
      go_simp
      refine (Hnew.out wa Hb1.out).mono ?_
      rintro e wb ⟨b2, a2, m2, c2, rfl, hl2, hq2, hb2⟩
      obtain rfl : n = m2 := by rw [← hq2.hn]; exact HL.out.2.1.symm
      refine hK (fun _ => False) (fun _ h => h.elim) _ _ (Turn.ofBelow hb2) ?_
      clear hK K
      have Hl2 : Hid (W.heap.size ≤ b2 ∧ b1 ≠ b2) := ⟨Nat.le_trans Hb1.out.size hl2, by have := Q1.out.at_.lt; omega⟩
      replace Q1 := Lib.hid (Q1.out.ext hb2)
      have Q2 := Lib.hid hq2
      have Hb2 := Lib.hid (Hb1.out.trans (hb2.mono Hb1.out.size))
      clear hl2 hq2 hb2 Hb1
      refine stepX_call (o := ⟨_, _, _, _, _, _⟩) rfl (by rfl) (fun K hK => ?_)
      go_simp
      refine (Hnew.out wb Hb2.out).mono ?_
      rintro e wc ⟨b3, a3, m3, c3, rfl, hl3, hq3, hb3⟩
      obtain rfl : n = m3 := by rw [← hq3.hn]; exact HL.out.2.1.symm
      refine hK (fun _ => False) (fun _ h => h.elim) _ _ (Turn.ofBelow hb3) ?_
      clear hK K
      have Hl3 : Hid (W.heap.size ≤ b3 ∧ b1 ≠ b3 ∧ b2 ≠ b3) := ⟨Nat.le_trans Hb2.out.size hl3, by have := Q1.out.at_.lt; omega, by have := Q2.out.at_.lt; omega⟩
      replace Q1 := Lib.hid (Q1.out.ext hb3)
      replace Q2 := Lib.hid (Q2.out.ext hb3)
      have Q3 := Lib.hid hq3
      have hbc := Hb2.out.trans (hb3.mono Hb2.out.size)
      have Xc := Lib.hid (XW.out.ext hbc)
      have Sc := Lib.hid (SW.out.ext hbc)
      have Hne : Hid (b1 ≠ b2 ∧ b1 ≠ b3 ∧ b2 ≠ b3 ∧ w.heap.size ≤ b1 ∧ w.heap.size ≤ b2 ∧ w.heap.size ≤ b3 ∧ (bt ≠ b1 ∧ bt ≠ b2 ∧ bt ≠ b3) ∧ (bx ≠ b1 ∧ bx ≠ b2 ∧ bx ≠ b3)) := by
        have e1 := XW.out.b.size
        have e2 := Hl1.out
        have e3 := Hl2.out
        have e4 := Hl3.out
        have e5 := XW.out.t.lt
        have e6 := SW.out.lt
        refine ⟨e3.2, e4.2.1, e4.2.2, ?_, ?_, ?_, ⟨?_, ?_, ?_⟩, ⟨?_, ?_, ?_⟩⟩ <;> omega
      clear hl3 hq3 hb3 Hb2 Hl1 Hl2 Hl3 hbc XW SW Hnew
      iterate 3 (refine wpGx_read (o := ⟨_, _, _, _, _, _⟩) (v := ?_) rfl (by rfl) ?_ ?_; rotate_left; (intro w' hw'; go_simp; with_reducible rfl); simp only [Act.put, List.setIfInBounds_toArray, List.set_cons_zero, List.set_cons_succ])
      refine wpGx_done ?_
      have F3 : Hid (TF wc (fun i => i = b1 ∨ i = b2 ∨ i = b3)) := fun b hb => by
        rcases hb with rfl | rfl | rfl
        · exact Q1.out.at_.tf b rfl
        · exact Q2.out.at_.tf b rfl
        · exact Q3.out.at_.tf b rfl
      obtain ⟨F, hF⟩ : ∃ F, fE L kk = F := ⟨_, rfl⟩
      have hFn : F ≤ n := by have h5 := fE_le L kk; have h6 := HL.out.2.1; rw [← hF]; unfold goneE at h5; split at h5 <;> omega
      have HF := Lib.hid hF
      clear hF
      have hsk := seek_at wc b1 a1 n c1 L 0 kk Q1.out HL.out.2.2
      rw [HF.out] at hsk
      have Hsk := Lib.hid hsk
      clear hsk
      go_wp2_with fail
      refine Hsk.out.mono ?_
      rintro e w4 ⟨rfl, hq4, ht4⟩
      replace Q2 := Lib.hid (Q2.out.turn ht4 Q1.out.at_.tf (fun e => Hne.out.1 e.symm))
      replace Q3 := Lib.hid (Q3.out.turn ht4 Q1.out.at_.tf (fun e => Hne.out.2.1 e.symm))
      replace Q1 := Lib.hid hq4
      have T4 : Hid (Turn (fun i => i = b1 ∨ i = b2 ∨ i = b3) wc w4) := ht4.mono (fun _ h _ => .inl h)
      have hsk := seek_at w4 b2 a2 n c2 L 0 kk Q2.out HL.out.2.2
      rw [HF.out] at hsk
      replace Hsk := Lib.hid hsk
      clear hsk hq4 ht4
      go_wp2_with fail
      refine Hsk.out.mono ?_
      rintro e w5 ⟨rfl, hq5, ht5⟩
      replace Q1 := Lib.hid (Q1.out.turn ht5 Q2.out.at_.tf Hne.out.1)
      replace Q3 := Lib.hid (Q3.out.turn ht5 Q2.out.at_.tf (fun e => Hne.out.2.2.1 e.symm))
      replace Q2 := Lib.hid hq5
      replace T4 := Lib.hid (T4.out.trans (ht5.mono (fun _ h _ => .inr (.inl h))))
      have Hen := Lib.hid (end_at w5 b3 a3 n c3 L 0 Q3.out)
      clear hq5 ht5 Hsk
      go_wp2_with fail
      refine Hen.out.mono ?_
      rintro e w6 ⟨rfl, hq6, ht6⟩
      replace Q1 := Lib.hid (Q1.out.turn ht6 Q3.out.at_.tf Hne.out.2.1)
      replace Q2 := Lib.hid (Q2.out.turn ht6 Q3.out.at_.tf Hne.out.2.2.1)
      replace Q3 := Lib.hid hq6
      replace T4 := Lib.hid (T4.out.trans (ht6.mono (fun _ h _ => .inr (.inr h))))
      have hnx := next_any w6 b1 a1 n c1 L F Q1.out
      obtain ⟨IS, hIS⟩ : ∃ IS, decide (F < n) = IS := ⟨_, rfl⟩
      obtain ⟨x1, hx1⟩ : ∃ x1, ea L F = x1 := ⟨_, rfl⟩
      rw [hIS, hx1] at hnx
      obtain ⟨x1k, x1v, x1h⟩ := x1
      dsimp only at hnx
      have Hnx := Lib.hid hnx
      have HIS := Lib.hid hIS
      have Hx1 := Lib.hid hx1
      clear hq6 ht6 Hen hnx hIS hx1
      go_wp2_with fail
      refine Hnx.out.mono ?_
      rintro e w7 ⟨rfl, hq7, ht7⟩
      obtain ⟨W7, hW7, he7, hbW7⟩ := alloc_own w7 ET #[.string x1k, .string x1v]
      obtain ⟨be, hbe⟩ : ∃ be, w7.heap.size = be := ⟨_, rfl⟩
      rw [hbe] at he7
      replace Q2 := Lib.hid ((Q2.out.turn ht7 Q1.out.at_.tf (fun e => Hne.out.1 e.symm)).ext hbW7)
      replace Q3 := Lib.hid ((Q3.out.turn ht7 Q1.out.at_.tf (fun e => Hne.out.2.1 e.symm)).ext hbW7)
      replace T4 := Lib.hid ((T4.out.trans (ht7.mono (fun _ h _ => .inl h))).trans (Turn.ofBelow hbW7))
      have EE : Hid (EB W7 be ⟨x1k, x1v, x1h⟩) := he7
      have Hbe := Lib.hid hbe
      have Hbne : Hid (be ≠ b2 ∧ be ≠ b3) := by
        have e1 := T4.out.size; have e2 := hbW7.size
        refine ⟨fun e => ?_, fun e => ?_⟩
        · subst e; have h5 := (EE.out : W7.heap[be]? = _).symm.trans Q2.out.at_; injection h5 with h5; injection h5 with _ h5 _; revert h5; decide
        · subst e; have h5 := (EE.out : W7.heap[be]? = _).symm.trans Q3.out.at_; injection h5 with h5; injection h5 with _ h5 _; revert h5; decide
      have HW7 := Lib.hid hW7
      have hpv := prev_any W7 b2 a2 n c2 L F Q2.out
      obtain ⟨WS, hWS⟩ : ∃ WS, decide (0 < F) = WS := ⟨_, rfl⟩
      obtain ⟨x2, hx2⟩ : ∃ x2, prevE L F = x2 := ⟨_, rfl⟩
      rw [hWS, hx2] at hpv
      obtain ⟨x2k, x2v, x2h⟩ := x2
      dsimp only at hpv
      have Hpv := Lib.hid hpv
      have HWS := Lib.hid hWS
      have Hx2 := Lib.hid hx2
      clear hq7 ht7 Hnx hW7 he7 hbW7 hbe hpv hWS hx2 Q1
      go_wp2_with fail
      rw [HW7.out, Hbe.out]
      refine Hpv.out.mono ?_
      rintro e w8 ⟨rfl, hq8, ht8⟩
      obtain ⟨W8, hW8, he8, hbW8⟩ := alloc_own w8 ET #[.string x2k, .string x2v]
      obtain ⟨bf, hbf⟩ : ∃ bf, w8.heap.size = bf := ⟨_, rfl⟩
      rw [hbf] at he8
      replace Q3 := Lib.hid ((Q3.out.turn ht8 Q2.out.at_.tf (fun e => Hne.out.2.2.1 e.symm)).ext hbW8)
      replace T4 := Lib.hid ((T4.out.trans (ht8.mono (fun _ h _ => .inr (.inl h)))).trans (Turn.ofBelow hbW8))
      replace EE := Lib.hid ((show EB w8 be ⟨x1k, x1v, x1h⟩ from ht8.hg EE.out Hbne.out.1).ext hbW8)
      have FF : Hid (EB W8 bf ⟨x2k, x2v, x2h⟩) := he8
      have Hbf := Lib.hid hbf
      have Hbfn : Hid (bf ≠ b3) := fun e => by
        subst e; have h5 := (FF.out : W8.heap[bf]? = _).symm.trans Q3.out.at_; injection h5 with h5; injection h5 with _ h5 _; revert h5; decide
      have HW8 := Lib.hid hW8
      have hpv := prev_any W8 b3 a3 n c3 L n Q3.out
      obtain ⟨LS, hLS⟩ : ∃ LS, decide (0 < n) = LS := ⟨_, rfl⟩
      obtain ⟨x3, hx3⟩ : ∃ x3, prevE L n = x3 := ⟨_, rfl⟩
      rw [hLS, hx3] at hpv
      obtain ⟨x3k, x3v, x3h⟩ := x3
      dsimp only at hpv
      replace Hpv := Lib.hid hpv
      have HLS := Lib.hid hLS
      have Hx3 := Lib.hid hx3
      clear hq8 ht8 hW8 he8 hbW8 hbf hpv hLS hx3 Q2 HW7 Hbe
      go_wp2_with fail
      rw [HW8.out, Hbf.out]
      refine Hpv.out.mono ?_
      rintro e w9 ⟨rfl, hq9, ht9⟩
      obtain ⟨W9, hW9, he9, hbW9⟩ := alloc_own w9 ET #[.string x3k, .string x3v]
      obtain ⟨bg, hbg⟩ : ∃ bg, w9.heap.size = bg := ⟨_, rfl⟩
      rw [hbg] at he9
      replace T4 := Lib.hid ((T4.out.trans (ht9.mono (fun _ h _ => .inr (.inr h)))).trans (Turn.ofBelow hbW9))
      replace EE := Lib.hid ((show EB w9 be ⟨x1k, x1v, x1h⟩ from ht9.hg EE.out Hbne.out.2).ext hbW9)
      replace FF := Lib.hid ((show EB w9 bf ⟨x2k, x2v, x2h⟩ from ht9.hg FF.out Hbfn.out).ext hbW9)
      have GG : Hid (EB W9 bg ⟨x3k, x3v, x3h⟩) := he9
      have Hbg := Lib.hid hbg
      have HW9 := Lib.hid hW9
      have TR : TreeP W9 p es H := Xc.out.tr.turn T4.out F3.out
      have TBt : TB W9 bt p N := Xc.out.t.turn T4.out (by have := Hne.out; omega)
      have S9 : Hid (SpIn W9 bx SPT ⟨lo2, hi2, op2⟩) := T4.out.hg Sc.out (by have := Hne.out; omega)
      have B9 : Hid (Below w.heap.size w W9) := Xc.out.b.trans (T4.out.below Xc.out.b.size (fun i hi => by have := Hne.out; omega))
      have t0 := TBt.c0
      have t1 := TBt.c1
      rw [← hW9] at t0 t1
      have hall := all_any p es H W9 TR (by have := Hes.out.1; omega)
      rw [Hes.out.1] at hall
      have Hall := Lib.hid hall
      clear hq9 ht9 hW9 he9 hbW9 hbg hall TR TBt Hpv HW8 Hbf Q3
      go_wp2_with fail
      rw [HW9.out, Hbg.out]
      refine Hall.out.mono ?_
      rintro e wz ⟨vA, rfl, hevA, hbz⟩
      obtain ⟨aA, nA, cA, rfl, hsA, hnA, _⟩ := ev_ct hevA
      obtain rfl : N = nA := by rw [← hnA]; exact Hes.out.1.symm
      have EA := Lib.hid hsA
      have Sz := Lib.hid (S9.out.ext hbz)
      have Ez := Lib.hid (EE.out.ext hbz)
      have Fz := Lib.hid (FF.out.ext hbz)
      have Gz := Lib.hid (GG.out.ext hbz)
      have Bz := Lib.hid (B9.out.trans (hbz.mono B9.out.size))
      obtain ⟨Wz, hWz, hz1, hz2, hz3, hbWz⟩ := three_ents wz
      obtain ⟨bn, hbn⟩ : ∃ bn, wz.heap.size = bn := ⟨_, rfl⟩
      obtain ⟨ba, hba⟩ : ∃ ba, bn + 1 = ba := ⟨_, rfl⟩
      obtain ⟨bd, hbd⟩ : ∃ bd, ba + 1 = bd := ⟨_, rfl⟩
      have HJ0 : Hid (SJ wz Wz ⟨lo2, hi2, op2⟩ es bn ba bd L F 0 0) := by
        rw [hbn] at hz1 hz2 hz3
        rw [hba] at hz2 hz3
        rw [hbd] at hz3
        refine ⟨rfl, hbWz, ?_, ?_, hz3⟩
        · show EB _ _ (nxE L F 0); unfold nxE; rw [if_neg (by omega)]; exact hz1
        · rw [Nat.min_zero]; exact hz2
      have Hbn : Hid (wz.heap.size = bn ∧ bn + 1 = ba ∧ ba + 1 = bd) := ⟨hbn, hba, hbd⟩
      have HWz := Lib.hid hWz
      clear hevA hsA hnA hbz hWz hz1 hz2 hz3 hbWz hbn hba hbd t0 t1 Hall HW9 Hbg S9 EE FF GG B9 T4 Xc Sc F3
      go_wp2_with fail
      rw [HWz.out, Hbn.out.1, Hbn.out.2.1, Hbn.out.2.2]
      have Hbn3 : Hid (bn ≠ ba ∧ bn ≠ bd ∧ ba ≠ bd ∧ wz.heap.size ≤ bn ∧ wz.heap.size ≤ ba ∧ wz.heap.size ≤ bd) := by have := Hbn.out; refine ⟨?_, ?_, ?_, ?_, ?_, ?_⟩ <;> omega
      clear HWz
      go_loopg [25, 26, 27, 28] N (fun gk bN bM bO iv wr => ∃ (i k : Nat) (DN DM DO : Bool), bN = .bool DN ∧ bM = .bool DM ∧ bO = .bool DO ∧ iv = .int .i64 i ∧ i ≤ N ∧ N - i = gk ∧ Hid (SJ wz wr ⟨lo2, hi2, op2⟩ es bn ba bd L F i k ∧ DN = decide (F < k) ∧ DM = decide (0 < min F k) ∧ DO = decide (0 < k)))
      case atStart => exact ⟨0, 0, false, false, false, rfl, rfl, rfl, rfl, by omega, by omega, ⟨HJ0.out, rfl, by rw [Nat.min_zero]; rfl, rfl⟩⟩
      case round =>
        obtain ⟨i, k, DN, DM, DO, rfl, rfl, rfl, rfl, hi, rfl, HJ⟩ := hrel
        by_cases hlt : i < N
        · have iN : (i : Int) < (N : Int) := by omega
          have i0 : (0 : Int) ≤ (i : Int) := by omega
          have z0 : IntKind.i64.wrap (i : Int) = (i : Int) := by rw [IntKind.wrap_i64]; omega
          obtain ⟨W, hW⟩ : ∃ W, wr.drew = W := ⟨_, rfl⟩
          have hbd : Below wr.heap.size wr W := by rw [← hW]; exact (Below.refl _ _).drew
          have bW : Below wz.heap.size wz W := HJ.out.1.b.trans (hbd.mono HJ.out.1.b.size)
          have eW : ES entE W aA es := EA.out.below bW (Nat.le_refl _)
          have sW : SpIn W bx SPT ⟨lo2, hi2, op2⟩ := Sz.out.ext bW
          obtain ⟨g, o, rfl, hce⟩ := eW.ents (by rw [Hes.out.1]; omega)
          obtain ⟨hc0, hc1⟩ := hce i (by rw [Hes.out.1]; exact hlt)
          obtain ⟨y, hy⟩ : ∃ y, ea es i = y := ⟨_, rfl⟩
          rw [hy] at hc0 hc1
          have q0 : ∀ w', Turn (fun _ => False) W w' → w'.cell? ⟨bx, 0, none⟩ = some (.string lo2) := fun w' t => (show SpIn w' bx SPT ⟨lo2, hi2, op2⟩ from t.hg sW (fun h => h)).c0
          have q1 : ∀ w', Turn (fun _ => False) W w' → w'.cell? ⟨bx, 1, none⟩ = some (.string hi2) := fun w' t => (show SpIn w' bx SPT ⟨lo2, hi2, op2⟩ from t.hg sW (fun h => h)).c1
          have q2 : ∀ w', Turn (fun _ => False) W w' → w'.cell? ⟨bx, 2, none⟩ = some (.bool op2) := fun w' t => (show SpIn w' bx SPT ⟨lo2, hi2, op2⟩ from t.hg sW (fun h => h)).c2
          have q3 : ∀ w', Turn (fun _ => False) W w' → w'.cell? ⟨g, o + i * 2, none⟩ = some (.string y.k) := fun w' t => by
            rw [t.cell (p := ⟨g, o + i * 2, none⟩) (block_lt_of_cell hc0) (fun h => h)]; exact hc0
          obtain ⟨D, hD⟩ : ∃ D, hasS ⟨lo2, hi2, op2⟩ y.k = D := ⟨_, rfl⟩
          have hhas := has_any ⟨lo2, hi2, op2⟩ y.k W
          rw [hD] at hhas
          unfold Sp.v at hhas
          have Hhas := Lib.hid hhas
          have HW := Lib.hid hW
          have HD := Lib.hid (And.intro hy hD)
          have BW := Lib.hid (And.intro bW hbd)
          clear hW hbd bW eW sW hce hc0 hc1 hy hD hhas
          go_wp2_with fail
          refine wp_region_gx (fun _ => False) (.rd 0 (.rd 1 (.rd 2 (.rd 3 (.rd 4 (.rd 5 (.call 6 (.rd 7 .done)))))))) (by kernel_rfl) (by kernel_rfl) (by kernel_rfl) (by kernel_rfl) (fun _ _ _ _ _ h => h) ?_
          rw [HW.out]
          iterate 6 (refine wpGx_read (o := ⟨_, _, _, _, _, _⟩) (v := ?_) rfl (by rfl) ?_ ?_; rotate_left; (intro w' hw'; go_simp; with_reducible rfl); simp only [Act.put, List.setIfInBounds_toArray, List.set_cons_zero, List.set_cons_succ])
          clear q0 q1 q2 q3
          refine stepX_call (o := ⟨_, _, _, _, _, _⟩) rfl (by rfl) (fun K hK => ?_)
          go_simp
          refine Hhas.out.mono ?_
          rintro e w5 ⟨rfl, hb5⟩
          refine hK (fun _ => False) (fun _ h => h.elim) _ _ (Turn.ofBelow hb5) ?_
          clear hK K
          have J5 := Lib.hid (HJ.out.1.ext (BW.out.2.trans (hb5.mono BW.out.2.size)))
          clear hb5 Hhas HW BW
          iterate 1 (refine wpGx_read (o := ⟨_, _, _, _, _, _⟩) (v := ?_) rfl (by rfl) ?_ ?_; rotate_left; (intro w' hw'; go_simp; with_reducible rfl); simp only [Act.put, List.setIfInBounds_toArray, List.set_cons_zero, List.set_cons_succ])
          refine wpGx_done ?_
          cases D with
          | false =>
            have HJ2 : Hid (SJ wz w5 ⟨lo2, hi2, op2⟩ es bn ba bd L F (i + 1) k ∧ DN = decide (F < k) ∧ DM = decide (0 < min F k) ∧ DO = decide (0 < k)) := by
              have h5 := inS_take_no (s := ⟨lo2, hi2, op2⟩) (es := es) (i := i) (by rw [Hes.out.1]; exact hlt) (by rw [HD.out.1]; exact HD.out.2)
              have h6 := J5.out
              exact ⟨⟨by rw [h5]; exact h6.hk, h6.b, h6.n, h6.a, h6.d⟩, HJ.out.2⟩
            go_wp2_with fail
            go_roundg (N - (i + 1))
            case measure => omega
            case rel => exact ⟨i + 1, k, DN, DM, DO, rfl, rfl, rfl, by go_num, by omega, by omega, HJ2⟩
          | true =>
            have hat := inS_at (s := ⟨lo2, hi2, op2⟩) (es := es) (i := i) (by rw [Hes.out.1]; exact hlt) (by rw [HD.out.1]; exact HD.out.2)
            rw [← HJ.out.1.hk, HL.out.1, HL.out.2.1, HD.out.1] at hat
            have hkn : k < n := hat.1
            have Hat := Lib.hid hat.2
            have Htk : Hid (k + 1 = (inS ⟨lo2, hi2, op2⟩ (es.take (i + 1))).length) := by
              show _ = _
              rw [inS_take_yes (s := ⟨lo2, hi2, op2⟩) (es := es) (i := i) (by rw [Hes.out.1]; exact hlt) (by rw [HD.out.1]; exact HD.out.2), List.length_append, ← HJ.out.1.hk]; rfl
            have c5 := (EA.out.below J5.out.b (Nat.le_refl _)).cells (i := i) (by rw [Hes.out.1]; exact hlt)
            rw [HD.out.1] at c5
            have hlk : Op.bytesLess y.k.toList kk.toList = decide (k < F) := by
              show blt y.k kk = _
              rw [← Hat.out]
              rcases Nat.lt_or_ge k F with h5 | h5
              · rw [decide_eq_true h5]; exact fE_lt L kk k (by rw [HF.out]; exact h5)
              · rw [decide_eq_false (by omega)]; exact fE_ge HL.out.2.2 kk k (by rw [HF.out]; exact h5) (by rw [HL.out.2.1]; exact hkn)
            have HDs := Lib.hid HJ.out.2
            have gn : g < wz.heap.size := by
              obtain ⟨g', o', e, hc⟩ := EA.out.ents (by rw [Hes.out.1]; omega)
              injection e with e
              injection e with e1 e2 _
              rw [e1]; exact block_lt_of_cell (hc i (by rw [Hes.out.1]; exact hlt)).1
            clear hat HJ
            obtain ⟨yk, yv, yh⟩ := y
            dsimp only at c5 hlk
            have c50 := c5.1
            have c51 := c5.2
            have Hc5 := Lib.hid c5
            have Hgn := Lib.hid gn
            clear c5 gn
            rcases Nat.lt_trichotomy k F with hFk | hFk | hFk
            · have dK : Op.bytesLess yk.toList kk.toList = true := by rw [hlk]; exact decide_eq_true hFk
              obtain rfl : DN = false := by rw [HDs.out.1]; exact decide_eq_false (by omega)
              clear hlk
              have p0 := J5.out.a.c0
              have p1 := J5.out.a.c1
              have p2 := J5.out.a.fz 0
              have p3 := J5.out.a.fz 1
              obtain ⟨w6, hw6⟩ : ∃ w6, (w5.setCell ⟨ba, 0, none⟩ (.string yk)).setCell ⟨ba, 1, none⟩ (.string yv) = w6 := ⟨_, rfl⟩
              have tw6 := turn_put w5 ba (.string yk) (.string yv)
              rw [hw6] at tw6
              have dw6 : EB w6 ba ⟨yk, yv, yh⟩ := by rw [← hw6]; exact EB.put (show EB w5 ba _ from J5.out.a) ⟨yk, yv, yh⟩
              have D6 : EB w6 bd (prevE L k) := tw6.hg J5.out.d (by have := Hbn3.out; omega)
              have O6 : EB w6 bn (nxE L F k) := tw6.hg J5.out.n (by have := Hbn3.out; omega)
              have x50 : w6.cell? ⟨g, o + i * 2, none⟩ = some (.string yk) := by rw [tw6.cell (p := ⟨g, o + i * 2, none⟩) (block_lt_of_cell Hc5.out.1) (by have := Hbn3.out; have := Hgn.out; show ¬ g = ba; omega)]; exact Hc5.out.1
              have x51 : w6.cell? ⟨g, o + i * 2 + 1, none⟩ = some (.string yv) := by rw [tw6.cell (p := ⟨g, o + i * 2 + 1, none⟩) (block_lt_of_cell Hc5.out.2) (by have := Hbn3.out; have := Hgn.out; show ¬ g = ba; omega)]; exact Hc5.out.2
              have v0 := D6.c0
              have v1 := D6.c1
              have v2 := D6.fz 0
              have v3 := D6.fz 1
              rw [← hw6] at x50 x51 v0 v1 v2 v3
              obtain ⟨w9, hw9⟩ : ∃ w9, (w6.setCell ⟨bd, 0, none⟩ (.string yk)).setCell ⟨bd, 1, none⟩ (.string yv) = w9 := ⟨_, rfl⟩
              have tw9 := turn_put w6 bd (.string yk) (.string yv)
              rw [hw9] at tw9
              have dw9 : EB w9 bd ⟨yk, yv, yh⟩ := by rw [← hw9]; exact EB.put (show EB w6 bd _ from D6) ⟨yk, yv, yh⟩
              have B9 : Below wz.heap.size wz w9 := (J5.out.b.trans (tw6.below J5.out.b.size (fun i hi => by have := Hbn3.out; omega))).trans (tw9.below (Nat.le_trans J5.out.b.size tw6.size) (fun i hi => by have := Hbn3.out; omega))
              have N9 : EB w9 bn (nxE L F k) := tw9.hg O6 (by have := Hbn3.out; omega)
              have A9 : EB w9 ba ⟨yk, yv, yh⟩ := tw9.hg dw6 (by have := Hbn3.out; omega)
              have HJ9 : Hid (SJ wz w9 ⟨lo2, hi2, op2⟩ es bn ba bd L F (i + 1) (k + 1) ∧ false = decide (F < k + 1) ∧ true = decide (0 < min F (k + 1)) ∧ true = decide (0 < k + 1)) := by
                have e1 : nxE L F (k + 1) = nxE L F k := by unfold nxE; rw [if_neg (by omega), if_neg (by omega)]
                have e2 : prevE L (min F (k + 1)) = ⟨yk, yv, yh⟩ := by rw [Nat.min_eq_right (by omega)]; exact Hat.out
                refine ⟨⟨Htk.out, B9, by rw [e1]; exact N9, by rw [e2]; exact A9, by rw [show prevE L (k + 1) = ea L k from rfl, Hat.out]; exact dw9⟩, (decide_eq_false (by omega)).symm, (decide_eq_true (by omega)).symm, (decide_eq_true (by omega)).symm⟩
              have HW9 : Hid ((((w5.setCell ⟨ba, 0, none⟩ (.string yk)).setCell ⟨ba, 1, none⟩ (.string yv)).setCell ⟨bd, 0, none⟩ (.string yk)).setCell ⟨bd, 1, none⟩ (.string yv) = w9) := by show _ = _; rw [hw6, hw9]
              clear hw6 tw6 dw6 D6 O6 hw9 tw9 dw9 B9 N9 A9 hlt
              go_wp2_with fail
              go_roundg (N - (i + 1))
              case measure => have := iN; omega
              case rel => exact ⟨i + 1, k + 1, false, true, true, rfl, rfl, rfl, by go_num, by have := iN; omega, by omega, by rw [HW9.out]; exact HJ9.out⟩
            · have dK : Op.bytesLess yk.toList kk.toList = false := by rw [hlk]; exact decide_eq_false (by omega)
              obtain rfl : DN = false := by rw [HDs.out.1]; exact decide_eq_false (by omega)
              clear hlk
              have p0 := J5.out.n.c0
              have p1 := J5.out.n.c1
              have p2 := J5.out.n.fz 0
              have p3 := J5.out.n.fz 1
              obtain ⟨w6, hw6⟩ : ∃ w6, (w5.setCell ⟨bn, 0, none⟩ (.string yk)).setCell ⟨bn, 1, none⟩ (.string yv) = w6 := ⟨_, rfl⟩
              have tw6 := turn_put w5 bn (.string yk) (.string yv)
              rw [hw6] at tw6
              have dw6 : EB w6 bn ⟨yk, yv, yh⟩ := by rw [← hw6]; exact EB.put (show EB w5 bn _ from J5.out.n) ⟨yk, yv, yh⟩
              have D6 : EB w6 bd (prevE L k) := tw6.hg J5.out.d (by have := Hbn3.out; omega)
              have O6 : EB w6 ba (prevE L (min F k)) := tw6.hg J5.out.a (by have := Hbn3.out; omega)
              have x50 : w6.cell? ⟨g, o + i * 2, none⟩ = some (.string yk) := by rw [tw6.cell (p := ⟨g, o + i * 2, none⟩) (block_lt_of_cell Hc5.out.1) (by have := Hbn3.out; have := Hgn.out; show ¬ g = bn; omega)]; exact Hc5.out.1
              have x51 : w6.cell? ⟨g, o + i * 2 + 1, none⟩ = some (.string yv) := by rw [tw6.cell (p := ⟨g, o + i * 2 + 1, none⟩) (block_lt_of_cell Hc5.out.2) (by have := Hbn3.out; have := Hgn.out; show ¬ g = bn; omega)]; exact Hc5.out.2
              have v0 := D6.c0
              have v1 := D6.c1
              have v2 := D6.fz 0
              have v3 := D6.fz 1
              rw [← hw6] at x50 x51 v0 v1 v2 v3
              obtain ⟨w9, hw9⟩ : ∃ w9, (w6.setCell ⟨bd, 0, none⟩ (.string yk)).setCell ⟨bd, 1, none⟩ (.string yv) = w9 := ⟨_, rfl⟩
              have tw9 := turn_put w6 bd (.string yk) (.string yv)
              rw [hw9] at tw9
              have dw9 : EB w9 bd ⟨yk, yv, yh⟩ := by rw [← hw9]; exact EB.put (show EB w6 bd _ from D6) ⟨yk, yv, yh⟩
              have B9 : Below wz.heap.size wz w9 := (J5.out.b.trans (tw6.below J5.out.b.size (fun i hi => by have := Hbn3.out; omega))).trans (tw9.below (Nat.le_trans J5.out.b.size tw6.size) (fun i hi => by have := Hbn3.out; omega))
              have N9 : EB w9 bn ⟨yk, yv, yh⟩ := tw9.hg dw6 (by have := Hbn3.out; omega)
              have A9 : EB w9 ba (prevE L (min F k)) := tw9.hg O6 (by have := Hbn3.out; omega)
              have HJ9 : Hid (SJ wz w9 ⟨lo2, hi2, op2⟩ es bn ba bd L F (i + 1) (k + 1) ∧ true = decide (F < k + 1) ∧ DM = decide (0 < min F (k + 1)) ∧ true = decide (0 < k + 1)) := by
                have e1 : nxE L F (k + 1) = ⟨yk, yv, yh⟩ := by unfold nxE; rw [if_pos (by omega), ← hFk]; exact Hat.out
                have e2 : min F (k + 1) = min F k := by omega
                refine ⟨⟨Htk.out, B9, by rw [e1]; exact N9, by rw [e2]; exact A9, by rw [show prevE L (k + 1) = ea L k from rfl, Hat.out]; exact dw9⟩, (decide_eq_true (by omega)).symm, by rw [e2]; exact HDs.out.2.1, (decide_eq_true (by omega)).symm⟩
              have HW9 : Hid ((((w5.setCell ⟨bn, 0, none⟩ (.string yk)).setCell ⟨bn, 1, none⟩ (.string yv)).setCell ⟨bd, 0, none⟩ (.string yk)).setCell ⟨bd, 1, none⟩ (.string yv) = w9) := by show _ = _; rw [hw6, hw9]
              clear hw6 tw6 dw6 D6 O6 hw9 tw9 dw9 B9 N9 A9 hlt
              go_wp2_with fail
              go_roundg (N - (i + 1))
              case measure => have := iN; omega
              case rel => exact ⟨i + 1, k + 1, true, DM, true, rfl, rfl, rfl, by go_num, by have := iN; omega, by omega, by rw [HW9.out]; exact HJ9.out⟩
            · have dK : Op.bytesLess yk.toList kk.toList = false := by rw [hlk]; exact decide_eq_false (by omega)
              obtain rfl : DN = true := by rw [HDs.out.1]; exact decide_eq_true (by omega)
              clear hlk
              have v0 := J5.out.d.c0
              have v1 := J5.out.d.c1
              have v2 := J5.out.d.fz 0
              have v3 := J5.out.d.fz 1
              obtain ⟨w9, hw9⟩ : ∃ w9, (w5.setCell ⟨bd, 0, none⟩ (.string yk)).setCell ⟨bd, 1, none⟩ (.string yv) = w9 := ⟨_, rfl⟩
              have tw9 := turn_put w5 bd (.string yk) (.string yv)
              rw [hw9] at tw9
              have dw9 : EB w9 bd ⟨yk, yv, yh⟩ := by rw [← hw9]; exact EB.put (show EB w5 bd _ from J5.out.d) ⟨yk, yv, yh⟩
              have B9 : Below wz.heap.size wz w9 := J5.out.b.trans (tw9.below J5.out.b.size (fun i hi => by have := Hbn3.out; omega))
              have N9 : EB w9 bn (nxE L F k) := tw9.hg J5.out.n (by have := Hbn3.out; omega)
              have A9 : EB w9 ba (prevE L (min F k)) := tw9.hg J5.out.a (by have := Hbn3.out; omega)
              have HJ9 : Hid (SJ wz w9 ⟨lo2, hi2, op2⟩ es bn ba bd L F (i + 1) (k + 1) ∧ true = decide (F < k + 1) ∧ DM = decide (0 < min F (k + 1)) ∧ true = decide (0 < k + 1)) := by
                have e1 : nxE L F (k + 1) = nxE L F k := by unfold nxE; rw [if_pos (by omega), if_pos (by omega)]
                have e2 : min F (k + 1) = min F k := by omega
                refine ⟨⟨Htk.out, B9, by rw [e1]; exact N9, by rw [e2]; exact A9, by rw [show prevE L (k + 1) = ea L k from rfl, Hat.out]; exact dw9⟩, (decide_eq_true (by omega)).symm, by rw [e2]; exact HDs.out.2.1, (decide_eq_true (by omega)).symm⟩
              have HW9 : Hid ((w5.setCell ⟨bd, 0, none⟩ (.string yk)).setCell ⟨bd, 1, none⟩ (.string yv) = w9) := by show _ = _; rw [hw9]
              clear hw9 tw9 dw9 B9 N9 A9 hlt
              go_wp2_with fail
              go_roundg (N - (i + 1))
              case measure => have := iN; omega
              case rel => exact ⟨i + 1, k + 1, true, DM, true, rfl, rfl, rfl, by go_num, by have := iN; omega, by omega, by rw [HW9.out]; exact HJ9.out⟩
        · obtain rfl : i = N := by omega
          have hkn : k = n := by rw [HJ.out.1.hk, List.take_of_length_le (by rw [Hes.out.1]; exact Nat.le_refl _), HL.out.1]; exact HL.out.2.1
          subst hkn
          obtain rfl : DN = IS := by rw [HJ.out.2.1]; exact HIS.out
          obtain rfl : DM = WS := by rw [HJ.out.2.2.1, Nat.min_eq_left hFn]; exact HWS.out
          obtain rfl : DO = LS := by rw [HJ.out.2.2.2]; exact HLS.out
          have e0 : EB wr bn ⟨x1k, x1v, x1h⟩ := by
            have h5 := HJ.out.1.n
            have h6 : nxE L F k = ⟨x1k, x1v, x1h⟩ := by
              rw [← Hx1.out]; unfold nxE
              rcases Nat.lt_or_ge F k with h7 | h7
              · rw [if_pos h7]
              · obtain rfl : F = k := by omega
                rw [if_neg (by omega), ← HL.out.2.1]; exact (ea_end L).symm
            rw [h6] at h5; exact h5
          have e1 : EB wr ba ⟨x2k, x2v, x2h⟩ := by
            have h5 := HJ.out.1.a
            rw [Nat.min_eq_left hFn, Hx2.out] at h5; exact h5
          have e2 : EB wr bd ⟨x3k, x3v, x3h⟩ := by
            have h5 := HJ.out.1.d
            rw [Hx3.out] at h5; exact h5
          have r0 := e0.c0
          have r1 := e0.c1
          have r2 := e1.c0
          have r3 := e1.c1
          have r4 := e2.c0
          have r5 := e2.c1
          have u0 := (Ez.out.ext HJ.out.1.b).c0
          have u1 := (Ez.out.ext HJ.out.1.b).c1
          have u2 := (Fz.out.ext HJ.out.1.b).c0
          have u3 := (Fz.out.ext HJ.out.1.b).c1
          have u4 := (Gz.out.ext HJ.out.1.b).c0
          have u5 := (Gz.out.ext HJ.out.1.b).c1
          dsimp only at r0 r1 r2 r3 r4 r5 u0 u1 u2 u3 u4 u5
          have HBr := Lib.hid (Bz.out.trans (HJ.out.1.b.mono Bz.out.size))
          have Hsu := Lib.hid (sure_any wr (Hg0.out HBr.out))
          clear e0 e1 e2 HJ hlt
          go_wp2_with fail
          refine Hsu.out.mono ?_
          rintro e w7 ⟨rfl, hb7⟩
          have HB7 := Lib.hid (HBr.out.trans (hb7.mono HBr.out.size))
          clear hb7 Hsu
          go_wp2_with fail
          go_ret
          exact ⟨rfl, HB7.out⟩

end Go.Proofs.YtggibbgohhpfpaaDoor
