/-
  CursorAll.
-/
import Derived.Test.YtggibbgohhpfpaaDoorSure14Z
import Derived.Test.YtggibbgohhpfpaaDoorAppOneZ
import Derived.Test.YtggibbgohhpfpaaDoorGsZ
import Derived.Deep.Cut
import Derived.Deep.CutRange
import Derived.Deep.LoopGhost
namespace Go.Proofs.YtggibbgohhpfpaaDoor
open Go Go.RowKit

/-- What stands between the steps forth: the cursor's place, the entries so far. -/
structure AJ (w4 w : World) (s : Sp) (es : List En) (bc : Nat) (a : Option Addr) (n c : Nat) (L : List En) (v : Value) (i k : Nat) : Prop where
  hk : k = (inS s (es.take i)).length
  q : CurQ w bc a n c L k
  t : Turn (fun i => i = bc) w4 w
  o : w.ownsRow w4.heap.size ET entE.sz v k (entE.row (inS s (es.take i)))
  hz : w4.heap.size ≤ w.heap.size
theorem AJ.ext {w4 w w' : World} {s : Sp} {es L : List En} {bc n c i k : Nat} {a : Option Addr} {v : Value} (h : AJ w4 w s es bc a n c L v i k) (hb : Below w.heap.size w w') : AJ w4 w' s es bc a n c L v i k :=
  ⟨h.hk, h.q.ext hb, h.t.trans (Turn.ofBelow hb), own_ext h.o hb, Nat.le_trans h.hz hb.size⟩
set_option maxHeartbeats 4000000 in
set_option maxRecDepth 100000 in
theorem all_law (n0 m0 : Nat) (lo hi : ByteArray) (op : Bool) (st : Nat) (w : World) (h1 : n0 < 65536) (h2 : m0 < 65536) (h3 : st < 65536) (hg : Hg w) :
    Calls Tryd.prog 4 #[.agg #[.int .u16 n0, .int .u16 m0], .agg #[.string lo, .string hi, .bool op], .int .u16 st] w fun e w' => e = .returned (.bool true) ∧ Below w.heap.size w w' := by
  have Hg0 : Hid (∀ {w'}, Below w.heap.size w w' → Hg w') := fun h => hg.below h
  obtain ⟨W0, hW0, k1, k2, hb0⟩ := two_owns w #[.int .u16 n0, .int .u16 m0] #[.string lo, .string hi, .bool op] ARR RSP
  obtain ⟨N0, hN0⟩ : ∃ N0, n0 % 120 = N0 := ⟨_, rfl⟩
  have eN : (n0 : Int).tmod 120 = (N0 : Int) := by rw [Int.tmod_eq_emod_of_nonneg (by omega)]; omega
  have wN : IntKind.i64.wrap (N0 : Int) = (N0 : Int) := by rw [IntKind.wrap_i64]; omega
  have wM : IntKind.i64.wrap (m0 : Int) = (m0 : Int) := by rw [IntKind.wrap_i64]; omega
  obtain ⟨bo, hbo⟩ : ∃ bo, w.heap.size = bo := ⟨_, rfl⟩
  obtain ⟨bs, hbs⟩ : ∃ bs, bo + 1 = bs := ⟨_, rfl⟩
  rw [hbo] at k1 k2
  rw [hbs] at k2
  have A1 : Hid (AR2 W0 bo n0 m0) := k1
  have SP1 : Hid (SpIn W0 bs RSP ⟨lo, hi, op⟩) := k2
  have HB1 := Lib.hid hb0
  have HW0 := Lib.hid hW0
  have HN9 : Hid (N0 ≤ 119) := by show _ ≤ _; omega
  have Hbs := Lib.hid (And.intro hbo hbs)
  have Hgr := Lib.hid (grown_any N0 m0 W0 (by omega) (by omega) (Hg0.out hb0))
  clear hW0 k1 k2 hb0 hN0 hg hbo hbs
  go_enter Tryd.func4, Tryd.ntmps4
  go_wp2_with fail
  rw [HW0.out, Hbs.out.1, Hbs.out.2]
  refine Hgr.out.mono ?_
  rintro e w1 ⟨p, H, es, l, rfl, ht, hl, hlen, hb1⟩
  replace ht := ht.tp
  obtain ⟨al, N, cl, rfl, hls, hlN, hlc⟩ := ev_ct hl
  rw [hlN]
  obtain ⟨W1, hW1, hn1, hbW1⟩ := alloc_own w1 TT #[.pointer p, .int .i64 N]
  obtain ⟨bt, hbt⟩ : ∃ bt, w1.heap.size = bt := ⟨_, rfl⟩
  rw [hbt] at hn1
  have hb01 := HB1.out.trans (hb1.mono HB1.out.size)
  have hN119 : N ≤ 119 := by have := HN9.out; omega
  have X : Hid (CT w W1 bt p es N H al cl) := ⟨hn1, ht.ext hbW1, hls.below hbW1 (Nat.le_refl _), hlN, by omega, hlc, hb01.trans (hbW1.mono hb01.size)⟩
  have SP := Lib.hid ((SP1.out.ext hb1).ext hbW1)
  have A := Lib.hid ((A1.out.ext hb1).ext hbW1)
  have HW1 := Lib.hid hW1
  have Hbt := Lib.hid hbt
  have t0 := X.out.t.c0
  have t1 := X.out.t.c1
  have s0 := SP.out.c0
  have s1 := SP.out.c1
  have s2 := SP.out.c2
  have o0 := A.out.c0
  have o1 := A.out.c1
  rw [← hW1] at t0 t1 s0 s1 s2 o0 o1
  clear hW1 hn1 hbW1 hb01 hb1 ht hl hlen hls hlN hlc Hgr HB1 SP1 A1 hbt HW0
  by_cases g1 : 100 < lo.size
  · have d1 : decide (100 < (lo.size : Int)) = true := decide_eq_true (by omega)
    have Hsu := Lib.hid (sure_any W1 (Hg0.out X.out.b))
    go_wp2_with fail
    rw [HW1.out]
    refine Hsu.out.mono ?_
    rintro e w2 ⟨rfl, hb2⟩
    have HB := Lib.hid (X.out.b.trans (hb2.mono X.out.b.size))
    clear hb2 Hsu t0 t1 s0 s1 s2 o0 o1
    go_wp2_with fail
    go_ret
    exact ⟨rfl, HB.out⟩
  · have d1 : decide (100 < (lo.size : Int)) = false := decide_eq_false (by omega)
    by_cases g2 : 100 < hi.size
    · have d2 : decide (100 < (hi.size : Int)) = true := decide_eq_true (by omega)
      have Hsu := Lib.hid (sure_any W1 (Hg0.out X.out.b))
      go_wp2_with fail
      rw [HW1.out]
      refine Hsu.out.mono ?_
      rintro e w2 ⟨rfl, hb2⟩
      have HB := Lib.hid (X.out.b.trans (hb2.mono X.out.b.size))
      clear hb2 Hsu t0 t1 s0 s1 s2 o0 o1
      go_wp2_with fail
      go_ret
      exact ⟨rfl, HB.out⟩
    · have d2 : decide (100 < (hi.size : Int)) = false := decide_eq_false (by omega)
      have Hnr := near_any ⟨lo, hi, op⟩ al N cl es m0 n0 W1 X.out.hn X.out.l (by omega) h2 h1
      obtain ⟨sp, hsp⟩ : ∃ sp, nearS ⟨lo, hi, op⟩ es m0 n0 = sp := ⟨_, rfl⟩
      rw [hsp] at Hnr
      obtain ⟨lo2, hi2, op2⟩ := sp
      unfold Sp.v at Hnr
      have Hnr := Lib.hid Hnr
      clear hsp
      go_wp2_with fail
      rw [HW1.out, Hbt.out]
      refine Hnr.out.mono ?_
      rintro e w2 ⟨rfl, hb2⟩
      clear t0 t1 s0 s1 s2 o0 o1
      obtain ⟨W2, hW2, hn2, hbW2⟩ := alloc_own w2 SPT #[.string lo2, .string hi2, .bool op2]
      obtain ⟨bx, hbx⟩ : ∃ bx, w2.heap.size = bx := ⟨_, rfl⟩
      rw [hbx] at hn2
      have hbw2 := hb2.trans (hbW2.mono hb2.size)
      replace X := Lib.hid (X.out.ext hbw2)
      replace SP := Lib.hid (show SpIn W2 bx SPT ⟨lo2, hi2, op2⟩ from hn2)
      have HW2 := Lib.hid hW2
      have Hbx := Lib.hid hbx
      have t0 := X.out.t.c0
      have t1 := X.out.t.c1
      have s0 := SP.out.c0
      have s1 := SP.out.c1
      have s2 := SP.out.c2
      rw [← hW2] at t0 t1
      rw [← hW2, ← hbx] at s0 s1 s2
      dsimp only at s0 s1 s2
      obtain ⟨L, hL⟩ : ∃ L, inS ⟨lo2, hi2, op2⟩ es = L := ⟨_, rfl⟩
      obtain ⟨n, hn⟩ : ∃ n, L.length = n := ⟨_, rfl⟩
      have hn119 : n ≤ 119 := by have h5 := inS_len ⟨lo2, hi2, op2⟩ es; rw [hL] at h5; have h6 := X.out.hn; omega
      have HL : Hid (inS ⟨lo2, hi2, op2⟩ es = L ∧ L.length = n) := ⟨hL, hn⟩
      have hnew := cnew_any p es H ⟨lo2, hi2, op2⟩ W2 X.out.tr N X.out.hn (by omega)
      rw [hL] at hnew
      have Hnew := Lib.hid hnew
      unfold Sp.v at Hnew
      have Hnew := Lib.hid Hnew.out
      clear hb2 hW2 hn2 hbW2 hbx hbw2 hL hn hnew HW1 Hbt Hnr A
      go_wp2_with fail
      rw [HW2.out]
      refine Hnew.out.mono ?_
      rintro e w3 ⟨bc, a, m3, c, rfl, hlb, hq, hb3⟩
      obtain rfl : n = m3 := by rw [← hq.hn]; exact HL.out.2.symm
      have hbcw : w.heap.size ≤ bc := Nat.le_trans X.out.b.size hlb
      replace X := Lib.hid (X.out.ext hb3)
      replace SP := Lib.hid (SP.out.ext hb3)
      have Q := Lib.hid hq
      have hne : bx ≠ bc := by have := SP.out.lt; have := Hbx.out; intro e; rw [e] at SP; have h5 := (SP.out : w3.heap[bc]? = _).symm.trans hq.at_; injection h5 with h5; injection h5 with _ h5 _; revert h5; decide
      have Hne := Lib.hid (And.intro hne hbcw)
      clear t0 t1
      have t0 := X.out.t.c0
      have t1 := X.out.t.c1
      have hall := all_any p es H w3 X.out.tr (by have := X.out.hn; omega)
      rw [X.out.hn] at hall
      have Hall := Lib.hid hall
      clear s0 s1 s2 hlb hq hb3 hne hbcw hall Hnew HW2
      go_wp2_with fail
      refine Hall.out.mono ?_
      rintro e w4 ⟨vA, rfl, hevA, hb4⟩
      obtain ⟨aA, nA, cA, rfl, hsA, hnA, _⟩ := ev_ct hevA
      obtain rfl : N = nA := by rw [← hnA]; exact X.out.hn.symm
      replace X := Lib.hid (X.out.ext hb4)
      replace SP := Lib.hid (SP.out.ext hb4)
      replace Q := Lib.hid (Q.out.ext hb4)
      have EA := Lib.hid hsA
      have Hx := Lib.hid Hbx.out
      rw [Hbx.out]
      clear hevA hsA hnA hb4 t0 t1 Hall Hbx
      go_wp2_with fail
      go_loopg [13, 14, 15, 16, 17, 18, 19, 20] N (fun gk v iv _ _ _ _ _ _ wr => ∃ (i k : Nat) (u : Value), u = v ∧ iv = .int .i64 i ∧ i ≤ N ∧ N - i = gk ∧ Hid (AJ w4 wr ⟨lo2, hi2, op2⟩ es bc a n c L u i k))
      case atStart => exact ⟨0, 0, _, rfl, rfl, by omega, by omega, ⟨rfl, Q.out, Turn.refl _ _, World.ownsRow_nil _ _ _ _, Nat.le_refl _⟩⟩
      case round =>
        obtain ⟨i, k, v, rfl, rfl, hi, rfl, HJ⟩ := hrel
        by_cases hlt : i < N
        · have iN : (i : Int) < (N : Int) := by omega
          have i0 : (0 : Int) ≤ (i : Int) := by omega
          have z0 : IntKind.i64.wrap (i : Int) = (i : Int) := by rw [IntKind.wrap_i64]; omega
          obtain ⟨W, hW⟩ : ∃ W, wr.drew = W := ⟨_, rfl⟩
          have hbd : Below wr.heap.size wr W := by rw [← hW]; exact (Below.refl _ _).drew
          have tW : Turn (fun i => i = bc) w4 W := HJ.out.t.step (Turn.ofBelow (F := fun _ => False) hbd) (fun _ h _ => h.elim)
          have eW : ES entE W aA es := EA.out.turn entE_str tW Q.out.at_.tf
          have sW : SpIn W bx SPT ⟨lo2, hi2, op2⟩ := tW.hg SP.out Hne.out.1
          obtain ⟨g, o, rfl, hce⟩ := eW.ents (by rw [X.out.hn]; omega)
          obtain ⟨hc0, hc1⟩ := hce i (by rw [X.out.hn]; exact hlt)
          obtain ⟨y, hy⟩ : ∃ y, ea es i = y := ⟨_, rfl⟩
          rw [hy] at hc0 hc1
          have q0 : ∀ w', Turn (fun _ => False) W w' → w'.cell? ⟨bx, 0, none⟩ = some (.string lo2) := fun w' t => (show SpIn w' bx SPT ⟨lo2, hi2, op2⟩ from t.hg sW (fun h => h)).c0
          have q1 : ∀ w', Turn (fun _ => False) W w' → w'.cell? ⟨bx, 1, none⟩ = some (.string hi2) := fun w' t => (show SpIn w' bx SPT ⟨lo2, hi2, op2⟩ from t.hg sW (fun h => h)).c1
          have q2 : ∀ w', Turn (fun _ => False) W w' → w'.cell? ⟨bx, 2, none⟩ = some (.bool op2) := fun w' t => (show SpIn w' bx SPT ⟨lo2, hi2, op2⟩ from t.hg sW (fun h => h)).c2
          have q3 : ∀ w', Turn (fun _ => False) W w' → w'.cell? ⟨g, o + i * 2, none⟩ = some (.string y.k) := fun w' t => by
            rw [t.cell (p := ⟨g, o + i * 2, none⟩) (block_lt_of_cell hc0) (fun h => h)]; exact hc0
          obtain ⟨D, hD⟩ : ∃ D, hasS ⟨lo2, hi2, op2⟩ y.k = D := ⟨_, rfl⟩
          have hhas := has_any ⟨lo2, hi2, op2⟩ y.k W
          rw [hD] at hhas
          unfold Sp.v at hhas
          have Hhas := Lib.hid hhas
          have HW := Lib.hid hW
          have HD := Lib.hid (And.intro hy hD)
          have CG : Hid (W.cell? ⟨g, o + i * 2, none⟩ = some (.string y.k) ∧ W.cell? ⟨g, o + i * 2 + 1, none⟩ = some (.string y.v)) := ⟨hc0, hc1⟩
          have TW := Lib.hid (And.intro tW hbd)
          clear hW hbd tW eW sW hce hc0 hc1 hy hD hhas
          go_wp2_with fail
          refine wp_region_gx (fun _ => False) (.rd 0 (.rd 1 (.rd 2 (.rd 3 (.rd 4 (.rd 5 (.call 6 (.rd 7 .done)))))))) (by kernel_rfl) (by kernel_rfl) (by kernel_rfl) (by kernel_rfl) (fun _ _ _ _ _ h => h) ?_
          rw [HW.out]
          iterate 6 (refine wpGx_read (o := ⟨_, _, _, _, _, _⟩) (v := ?_) rfl (by rfl) ?_ ?_; rotate_left; (intro w' hw'; go_simp; with_reducible rfl); simp only [Act.put, List.setIfInBounds_toArray, List.set_cons_zero, List.set_cons_succ])
          clear q0 q1 q2 q3
          refine stepX_call (o := ⟨_, _, _, _, _, _⟩) rfl (by rfl) (fun K hK => ?_)
          go_simp
          refine Hhas.out.mono ?_
          rintro e w5 ⟨rfl, hb5⟩
          refine hK (fun _ => False) (fun _ h => h.elim) _ _ (Turn.ofBelow hb5) ?_
          clear hK K
          have T5 : Hid (Turn (fun i => i = bc) w4 w5 ∧ Below wr.heap.size wr w5 ∧ Below W.heap.size W w5) := ⟨TW.out.1.step (Turn.ofBelow (F := fun _ => False) hb5) (fun _ h _ => h.elim), TW.out.2.trans (hb5.mono TW.out.2.size), hb5⟩
          clear hb5 Hhas
          iterate 1 (refine wpGx_read (o := ⟨_, _, _, _, _, _⟩) (v := ?_) rfl (by rfl) ?_ ?_; rotate_left; (intro w' hw'; go_simp; with_reducible rfl); simp only [Act.put, List.setIfInBounds_toArray, List.set_cons_zero, List.set_cons_succ])
          refine wpGx_done ?_
          cases D with
          | false =>
            have HJ2 : Hid (AJ w4 w5 ⟨lo2, hi2, op2⟩ es bc a n c L v (i + 1) k) := by
              have h5 := inS_take_no (s := ⟨lo2, hi2, op2⟩) (es := es) (i := i) (by rw [X.out.hn]; exact hlt) (by rw [HD.out.1]; exact HD.out.2)
              have h6 := HJ.out.ext T5.out.2.1
              exact ⟨by rw [h5]; exact h6.hk, h6.q, h6.t, by rw [h5]; exact h6.o, h6.hz⟩
            go_wp2_with fail
            go_roundg (N - (i + 1))
            case measure => omega
            case rel => exact ⟨i + 1, k, v, rfl, by go_num, by omega, by omega, HJ2⟩
          | true =>
            have hat := inS_at (s := ⟨lo2, hi2, op2⟩) (es := es) (i := i) (by rw [X.out.hn]; exact hlt) (by rw [HD.out.1]; exact HD.out.2)
            rw [← HJ.out.hk, HL.out.1, HL.out.2, HD.out.1] at hat
            have hkn : k < n := hat.1
            have q5 := HJ.out.q.ext T5.out.2.1
            have hnx := next_any w5 bc a n c L k q5
            rw [hat.2, decide_eq_true hkn, show nextK n k = k + 1 from if_pos hkn] at hnx
            have Hnx := Lib.hid hnx
            have Hat := Lib.hid hat.2
            clear hat q5 hnx
            obtain ⟨yk, yv, yh⟩ := y
            dsimp only at Hnx
            go_wp2_with fail
            refine Hnx.out.mono ?_
            rintro e w6 ⟨rfl, hq6, ht6⟩
            obtain ⟨W6, hW6, hx6, hbW6⟩ := alloc_own w6 ET #[.string yk, .string yv]
            obtain ⟨be, hbe⟩ : ∃ be, w6.heap.size = be := ⟨_, rfl⟩
            rw [hbe] at hx6
            have E6 : Hid (EB W6 be ⟨yk, yv, yh⟩) := hx6
            obtain ⟨W7, hW7⟩ : ∃ W7, W6.drew = W7 := ⟨_, rfl⟩
            have hbd7 : Below W6.heap.size W6 W7 := by rw [← hW7]; exact (Below.refl _ _).drew
            have E7 := Lib.hid (E6.out.ext hbd7)
            have T6 : Hid (Turn (fun i => i = bc) wr W7 ∧ Turn (fun i => i = bc) W W7) := by
              have h5 : Turn (fun i => i = bc) w6 W7 := (Turn.ofBelow hbW6).trans (Turn.ofBelow hbd7)
              exact ⟨((Turn.ofBelow T5.out.2.1).trans ht6).trans h5, ((Turn.ofBelow T5.out.2.2).trans ht6).trans h5⟩
            have t47 : Turn (fun i => i = bc) w4 W7 := HJ.out.t.trans T6.out.1
            have c7 := (EA.out.turn entE_str t47 Q.out.at_.tf).cells (i := i) (by rw [X.out.hn]; exact hlt)
            rw [HD.out.1] at c7
            dsimp only at c7
            have q0 : ∀ w', Turn (fun _ => False) W7 w' → w'.cell? ⟨g, o + i * 2, none⟩ = some (.string yk) := fun w' t => by
              rw [t.cell (p := ⟨g, o + i * 2, none⟩) (block_lt_of_cell c7.1) (fun h => h)]; exact c7.1
            have q1 : ∀ w', Turn (fun _ => False) W7 w' → w'.cell? ⟨g, o + i * 2 + 1, none⟩ = some (.string yv) := fun w' t => by
              rw [t.cell (p := ⟨g, o + i * 2 + 1, none⟩) (block_lt_of_cell c7.2) (fun h => h)]; exact c7.2
            have q2 : ∀ w', Turn (fun _ => False) W7 w' → w'.cell? ⟨be, 0, none⟩ = some (.string yk) := fun w' t => (show EB w' be ⟨yk, yv, yh⟩ from t.hg E7.out (fun h => h)).c0
            have q3 : ∀ w', Turn (fun _ => False) W7 w' → w'.cell? ⟨be, 1, none⟩ = some (.string yv) := fun w' t => (show EB w' be ⟨yk, yv, yh⟩ from t.hg E7.out (fun h => h)).c1
            have e70 := E7.out.c0
            have e71 := E7.out.c1
            dsimp only at e70 e71
            -- the append
            have own7 : W7.ownsRow w4.heap.size ET entE.sz v k (entE.row (inS ⟨lo2, hi2, op2⟩ (es.take i))) := own_turn HJ.out.o T6.out.1 Q.out.at_.lt
            obtain ⟨W8, hW8, hl8, hbW8⟩ := alloc_own W7 ET #[.string yk, .string yv]
            have hlit : ES entE W8 (some ⟨W7.heap.size, 0, none⟩) [⟨yk, yv, yh⟩] := ES.lit (E := entE) (l := [⟨yk, yv, yh⟩]) hl8
            have hz7 : w4.heap.size ≤ W7.heap.size := t47.size
            obtain ⟨v9, w9, hrun, hb9, own9, hoth⟩ := app_entry W8 w4.heap.size v k _ (own_ext own7 hbW8) (Nat.le_trans hz7 hbW8.size) W7.heap.size ⟨yk, yv, yh⟩ hlit (by omega)
            have E9 : Hid (EB w9 be ⟨yk, yv, yh⟩) := (hoth be (Nat.lt_of_lt_of_le E7.out.lt hbW8.size) (fun k9 hk9 e => by
              have h5 := (HJ.out.o.lt k9 hk9).2
              have h6 := T5.out.2.1.size
              have h7 := ht6.size
              omega)).trans (E7.out.ext hbW8)
            have t49 : Turn (fun i => i = bc) w4 w9 := (t47.trans (Turn.ofBelow hbW8)).step (Turn.ofBelowB hb9) (fun i h hl => by omega)
            have cur8 : Cur W8 bc a n c (k + 1) := ((hq6.at_.ext hbW6).ext hbd7).ext hbW8
            have cur9 : Cur w9 bc a n c (k + 1) := (hb9.block bc Q.out.at_.lt).trans cur8
            have htk := inS_take_yes (s := ⟨lo2, hi2, op2⟩) (es := es) (i := i) (by rw [X.out.hn]; exact hlt) (by rw [HD.out.1]; exact HD.out.2)
            rw [HD.out.1] at htk
            have HJ9 : Hid (AJ w4 w9 ⟨lo2, hi2, op2⟩ es bc a n c L v9 (i + 1) (k + 1)) :=
              ⟨by rw [htk, List.length_append, ← HJ.out.hk]; rfl, Q.out.own t49 hkn cur9, t49, by rw [htk]; exact own9, t49.size⟩
            have HW7 := Lib.hid (And.intro hW6 hW7)
            have Hbe := Lib.hid hbe
            have Hbec := Lib.hid (show be ≠ bc by have := hq6.at_.lt; omega)
            rw [← hW8] at hrun
            clear hq6 ht6 hW6 hx6 hbW6 hbe E6 hW7 hbd7 T6 t47 c7 own7 hW8 hl8 hbW8 hlit hz7 hb9 own9 hoth t49 cur8 cur9 htk Hnx T5 E7 TW CG
            go_upto_region 17 with fail
            rw [HW7.out.1, Hbe.out]
            refine wp_region_gx (fun _ => False) (.rd 0 (.rd 1 (.rd 2 (.rd 3 (.rd 4 (.rd 5 (.rd 6 (.rd 7 (.rd 8 (.rd 9 .done)))))))))) (by kernel_rfl) (by kernel_rfl) (by kernel_rfl) (by kernel_rfl) (fun _ _ _ _ _ h => h) ?_
            rw [HW7.out.2]
            iterate 10 (refine wpGx_read (o := ⟨_, _, _, _, _, _⟩) (v := ?_) rfl (by rfl) ?_ ?_; rotate_left; (intro w' hw'; go_simp; with_reducible rfl); simp only [Act.put, List.setIfInBounds_toArray, List.set_cons_zero, List.set_cons_succ])
            refine wpGx_done ?_
            clear q0 q1 q2 q3
            go_upto_region 20 with (at_builtin; refine Lib.wpList_append_run _ rfl (.tmp 97) (.tmp 99) _ _ rfl _ _ (by rfl) (by rfl) _ _ hrun ?_)
            clear hrun e70 e71
            obtain ⟨S7, hS7⟩ : ∃ S7, st % 7 = S7 := ⟨_, rfl⟩
            obtain ⟨I7, hI7⟩ : ∃ I7, i % 7 = I7 := ⟨_, rfl⟩
            have eS : (st : Int).tmod 7 = (S7 : Int) := by rw [Int.tmod_eq_emod_of_nonneg (by omega)]; omega
            have eI : (i : Int).tmod 7 = (I7 : Int) := by rw [Int.tmod_eq_emod_of_nonneg (by omega)]; omega
            have eS2 : (st : Int) % 7 = (S7 : Int) := by omega
            have eI2 : (i : Int) % 7 = (I7 : Int) := by omega
            have wS : IntKind.i64.wrap (st : Int) = (st : Int) := by rw [IntKind.wrap_i64]; omega
            clear hS7 hI7
            by_cases hSI : S7 = I7
            · subst hSI
              have d7 : ((S7 : Int) == (S7 : Int)) = true := by simp
              have hpv := prev_any w9 bc a n c L (k + 1) HJ9.out.q
              rw [show prevE L (k + 1) = ea L k from rfl, Hat.out, show decide (0 < k + 1) = true from decide_eq_true (by omega), show k + 1 - 1 = k from rfl] at hpv
              dsimp only at hpv
              have Hpv := Lib.hid hpv
              clear hpv
              go_wp2_with fail
              refine Hpv.out.mono ?_
              rintro e w10 ⟨rfl, hq10, ht10⟩
              obtain ⟨W10, hW10, hx10, hbW10⟩ := alloc_own w10 ET #[.string yk, .string yv]
              obtain ⟨bf, hbf⟩ : ∃ bf, w10.heap.size = bf := ⟨_, rfl⟩
              rw [hbf] at hx10
              have hnx := next_any W10 bc a n c L k (hq10.ext hbW10)
              rw [Hat.out, decide_eq_true hkn, show nextK n k = k + 1 from if_pos hkn] at hnx
              dsimp only at hnx
              have Hnx := Lib.hid hnx
              have T10 : Hid (Turn (fun i => i = bc) w9 W10) := ht10.trans (Turn.ofBelow hbW10)
              have E10 : Hid (EB W10 be ⟨yk, yv, yh⟩) := T10.out.hg E9.out Hbec.out
              have F10 : Hid (EB W10 bf ⟨yk, yv, yh⟩) := hx10
              have Hbfc := Lib.hid (show bf ≠ bc by have := hq10.at_.lt; omega)
              have HW10 := Lib.hid hW10
              have Hbf := Lib.hid hbf
              clear hnx hq10 ht10 hW10 hx10 hbW10 hbf E9 Hpv
              go_wp2_with fail
              rw [HW10.out, Hbf.out]
              refine Hnx.out.mono ?_
              rintro e w11 ⟨rfl, hq11, ht11⟩
              obtain ⟨W11, hW11, hx11, hbW11⟩ := alloc_own w11 ET #[.string yk, .string yv]
              obtain ⟨bg, hbg⟩ : ∃ bg, w11.heap.size = bg := ⟨_, rfl⟩
              rw [hbg] at hx11
              have T11 : Turn (fun i => i = bc) w9 W11 := (T10.out.trans ht11).trans (Turn.ofBelow hbW11)
              have T1011 : Turn (fun i => i = bc) W10 W11 := ht11.trans (Turn.ofBelow hbW11)
              have e0 := (show EB W11 be ⟨yk, yv, yh⟩ from T1011.hg E10.out Hbec.out).c0
              have e1 := (show EB W11 be ⟨yk, yv, yh⟩ from T1011.hg E10.out Hbec.out).c1
              have f0 := (show EB W11 bf ⟨yk, yv, yh⟩ from T1011.hg F10.out Hbfc.out).c0
              have f1 := (show EB W11 bf ⟨yk, yv, yh⟩ from T1011.hg F10.out Hbfc.out).c1
              have g0 := (show EB W11 bg ⟨yk, yv, yh⟩ from hx11).c0
              have g1 := (show EB W11 bg ⟨yk, yv, yh⟩ from hx11).c1
              dsimp only at e0 e1 f0 f1 g0 g1
              rw [← hW11] at e0 e1 f0 f1
              rw [← hW11, ← hbg] at g0 g1
              have HJ11 : Hid (AJ w4 W11 ⟨lo2, hi2, op2⟩ es bc a n c L v9 (i + 1) (k + 1)) :=
                ⟨HJ9.out.hk, hq11.ext hbW11, HJ9.out.t.trans T11, own_turn HJ9.out.o T11 Q.out.at_.lt, Nat.le_trans HJ9.out.hz T11.size⟩
              have HW11 := Lib.hid hW11
              clear hq11 ht11 hW11 hx11 hbW11 hbg T11 T1011 Hnx E10 F10
              go_wp2_with fail
              go_roundg (N - (i + 1))
              case measure => omega
              case rel => exact ⟨i + 1, k + 1, v9, rfl, by go_num, by omega, by omega, by rw [HW11.out]; exact HJ11.out⟩
            · have d7 : ((S7 : Int) == (I7 : Int)) = false := by rw [beq_eq_false_iff_ne]; omega
              have d8 : (S7 == I7) = false := by rw [beq_eq_false_iff_ne]; exact hSI
              go_wp2_with fail
              go_roundg (N - (i + 1))
              case measure => omega
              case rel => exact ⟨i + 1, k + 1, v9, rfl, by go_num, by omega, by omega, HJ9.out⟩
        · obtain rfl : i = N := by omega
          obtain ⟨w8, rfl⟩ : ∃ x, x = wr := ⟨_, rfl⟩
          have hk : k = n := by rw [HJ.out.hk, List.take_of_length_le (by rw [X.out.hn]; exact Nat.le_refl _), HL.out.1]; exact HL.out.2
          subst hk
          have hev : EV entE w8 v L := by
            have h5 := HJ.out.o
            rw [List.take_of_length_le (by rw [X.out.hn]; exact Nat.le_refl _), HL.out.1] at h5
            have h6 := HL.out.2
            rw [← h6] at h5
            exact own_ev h5
          obtain ⟨ag, ng, cg, rfl, hsg, hng, _⟩ := ev_ct hev
          obtain rfl : k = ng := by rw [← hng]; exact HL.out.2.symm
          have hnx := next_any w8 bc a k c L k HJ.out.q
          rw [show ea L k = E0 by rw [← HL.out.2]; exact ea_end L, show decide (k < k) = false from decide_eq_false (by omega), show nextK k k = k from if_neg (by omega)] at hnx
          simp only [E0] at hnx
          have Hnx := Lib.hid hnx
          have G0 := Lib.hid hsg
          have TB0 : Hid (Below w.heap.size w w8) := X.out.b.trans (HJ.out.t.below X.out.b.size (fun i hi => by have := Hne.out.2; omega))
          have tfr := Lib.hid HJ.out.q.at_.tf
          clear hev hsg hng hnx hlt
          go_wp2_with fail
          refine Hnx.out.mono ?_
          rintro e w5 ⟨rfl, hq5, ht5⟩
          obtain ⟨W5, hW5, _, hbW5⟩ := alloc_own w5 ET #[.string ⟨#[]⟩, .string ⟨#[]⟩]
          have T5 : Hid (Turn (fun i => i = bc) w8 W5) := ht5.trans (Turn.ofBelow hbW5)
          have Q5 := Lib.hid (hq5.ext hbW5)
          have HW5 := Lib.hid hW5
          have k0 : (0 : Int) ≤ (k : Int) := by omega
          clear hq5 ht5 hW5 hbW5 Hnx
          go_wp2_with fail
          rw [HW5.out]
          go_loopg [23, 24, 25] k (fun gk iv _ _ wz => ∃ (j : Nat) (x : Int), iv = .int .i64 x ∧ x = (j : Int) - 1 ∧ j ≤ k ∧ j = gk ∧ Hid (CurQ wz bc a k c L j ∧ Turn (fun i => i = bc) w8 wz))
          case atStart => exact ⟨k, _, rfl, by omega, by omega, rfl, ⟨Q5.out, T5.out⟩⟩
          case round =>
            obtain ⟨j, x, rfl, hx, hj, rfl, HZ⟩ := hrel
            by_cases hj0 : 0 < j
            · obtain ⟨J, rfl⟩ : ∃ J, j = J + 1 := ⟨j - 1, by omega⟩
              obtain rfl : x = (J : Int) := by omega
              have j0 : (0 : Int) ≤ (J : Int) := by omega
              have jk : (J : Int) < (k : Int) := by omega
              have zJ : IntKind.i64.wrap (J : Int) = (J : Int) := by rw [IntKind.wrap_i64]; omega
              obtain ⟨y, hy⟩ : ∃ y, ea L J = y := ⟨_, rfl⟩
              have hpv := prev_any wr bc a k c L (J + 1) HZ.out.1
              rw [show prevE L (J + 1) = ea L J from rfl, hy, show decide (0 < J + 1) = true from decide_eq_true (by omega), show J + 1 - 1 = J from rfl] at hpv
              obtain ⟨yk, yv, yh⟩ := y
              dsimp only at hpv
              have Hpv := Lib.hid hpv
              have Hy := Lib.hid hy
              have Hj := Lib.hid hj
              clear hx hj0 hpv hy hj
              go_wp2_with fail
              refine Hpv.out.mono ?_
              rintro e w6 ⟨rfl, hq6, ht6⟩
              obtain ⟨W6, hW6, hx6, hbW6⟩ := alloc_own w6 ET #[.string yk, .string yv]
              obtain ⟨be, hbe⟩ : ∃ be, w6.heap.size = be := ⟨_, rfl⟩
              rw [hbe] at hx6
              obtain ⟨W7, hW7⟩ : ∃ W7, W6.drew = W7 := ⟨_, rfl⟩
              have hbd7 : Below W6.heap.size W6 W7 := by rw [← hW7]; exact (Below.refl _ _).drew
              have E7 : EB W7 be ⟨yk, yv, yh⟩ := (show EB W6 be ⟨yk, yv, yh⟩ from hx6).ext hbd7
              have T7 : Turn (fun i => i = bc) w8 W7 := ((HZ.out.2.trans ht6).trans (Turn.ofBelow hbW6)).trans (Turn.ofBelow hbd7)
              have es7 : ES entE W7 ag L := G0.out.turn entE_str T7 tfr.out
              have hJL : J < L.length := by have := HL.out.2; have := Hj.out; omega
              obtain ⟨g, o, rfl, hce⟩ := es7.ents (by omega)
              have c7 := hce J hJL
              rw [Hy.out] at c7
              dsimp only at c7
              have q0 : ∀ w', Turn (fun _ => False) W7 w' → w'.cell? ⟨g, o + J * 2, none⟩ = some (.string yk) := fun w' t => by
                rw [t.cell (p := ⟨g, o + J * 2, none⟩) (block_lt_of_cell c7.1) (fun h => h)]; exact c7.1
              have q1 : ∀ w', Turn (fun _ => False) W7 w' → w'.cell? ⟨g, o + J * 2 + 1, none⟩ = some (.string yv) := fun w' t => by
                rw [t.cell (p := ⟨g, o + J * 2 + 1, none⟩) (block_lt_of_cell c7.2) (fun h => h)]; exact c7.2
              have q2 : ∀ w', Turn (fun _ => False) W7 w' → w'.cell? ⟨be, 0, none⟩ = some (.string yk) := fun w' t => (show EB w' be ⟨yk, yv, yh⟩ from t.hg E7 (fun h => h)).c0
              have q3 : ∀ w', Turn (fun _ => False) W7 w' → w'.cell? ⟨be, 1, none⟩ = some (.string yv) := fun w' t => (show EB w' be ⟨yk, yv, yh⟩ from t.hg E7 (fun h => h)).c1
              have HZ7 : Hid (CurQ W7 bc a k c L J ∧ Turn (fun i => i = bc) w8 W7) := ⟨(hq6.ext hbW6).ext hbd7, T7⟩
              have HW7 := Lib.hid (And.intro hW6 hW7)
              have Hbe := Lib.hid hbe
              clear hq6 ht6 hW6 hx6 hbW6 hbe hW7 hbd7 E7 T7 es7 hce c7 Hpv hJL
              go_upto_region 30 with fail
              rw [HW7.out.1, Hbe.out]
              refine wp_region_gx (fun _ => False) (.rd 0 (.rd 1 (.rd 2 (.rd 3 (.rd 4 (.rd 5 (.rd 6 (.rd 7 (.rd 8 (.rd 9 .done)))))))))) (by kernel_rfl) (by kernel_rfl) (by kernel_rfl) (by kernel_rfl) (fun _ _ _ _ _ h => h) ?_
              rw [HW7.out.2]
              iterate 10 (refine wpGx_read (o := ⟨_, _, _, _, _, _⟩) (v := ?_) rfl (by rfl) ?_ ?_; rotate_left; (intro w' hw'; go_simp; with_reducible rfl); simp only [Act.put, List.setIfInBounds_toArray, List.set_cons_zero, List.set_cons_succ])
              refine wpGx_done ?_
              clear q0 q1 q2 q3
              go_wp2_with fail
              go_roundg J
              case measure => omega
              case rel => exact ⟨J, (J : Int) - 1, by go_num, rfl, by have := Hj.out; omega, rfl, HZ7⟩
            · obtain rfl : j = 0 := by omega
              obtain rfl : x = -1 := by omega
              have hpv := prev_any wr bc a k c L 0 HZ.out.1
              rw [show prevE L 0 = E0 from rfl, show decide (0 < 0) = false from rfl] at hpv
              simp only [E0] at hpv
              have Hpv := Lib.hid hpv
              clear hx hj0 hpv hj
              go_wp2_with fail
              refine Hpv.out.mono ?_
              rintro e w6 ⟨rfl, hq6, ht6⟩
              obtain ⟨W6, hW6, _, hbW6⟩ := alloc_own w6 ET #[.string ⟨#[]⟩, .string ⟨#[]⟩]
              have hB6 : Below w.heap.size w W6 := TB0.out.trans (((HZ.out.2.trans ht6).trans (Turn.ofBelow hbW6)).below TB0.out.size (fun i hi => by have := Hne.out.2; omega))
              have HB6 := Lib.hid hB6
              have Hsu := Lib.hid (sure_any W6 (Hg0.out hB6))
              have HW6 := Lib.hid hW6
              clear hq6 ht6 hW6 hbW6 hB6 Hpv
              go_wp2_with fail
              rw [HW6.out]
              refine Hsu.out.mono ?_
              rintro e w7 ⟨rfl, hb7⟩
              have HB7 := Lib.hid (HB6.out.trans (hb7.mono HB6.out.size))
              clear hb7 Hsu
              go_wp2_with fail
              go_ret
              exact ⟨rfl, HB7.out⟩

end Go.Proofs.YtggibbgohhpfpaaDoor
