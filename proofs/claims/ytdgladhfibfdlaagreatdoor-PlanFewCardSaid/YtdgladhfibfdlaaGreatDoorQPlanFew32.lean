/-
  What the law PlanFew stands on.
-/
import Derived.Test.YtdgladhfibfdlaaGreatDoorQPlanFew31
import Derived.Test.YtdgladhfibfdlaaGreatDoorQPlanFew13
import Derived.Test.YtdgladhfibfdlaaGreatDoorQPlanFew29
namespace Go.Proofs.YtdgladhfibfdlaaGreatDoor
open Go Go.RowKit
theorem cNs_app : ∀ (a b : List En), cNs (a ++ b) = cNs a + cNs b
  | [], b => by simp [cNs]
  | e :: r, b => by rw [List.cons_append, cNs, cNs, cNs_app r b]; omega
theorem cNs_take (es : List En) (k : Nat) (h : k < es.length) : cNs (es.take (k + 1)) = cNs (es.take k) + cN (ea es k) := by
  rw [ea_take es k h, cNs_app]; simp [cNs]
theorem cNs_le (es : List En) (k : Nat) : cNs (es.take k) ≤ cNs es := by
  conv => rhs; rw [← List.take_append_drop k es, cNs_app]
  omega
theorem needL_app : ∀ (a b : List Tr), needL (a ++ b) = needL a + needL b
  | [], b => by simp [needL]
  | e :: r, b => by rw [List.cons_append, needL, needL, needL_app r b]; omega
theorem VB4.c0 {w : World} {b : Nat} {v : NoV} (h : VB4 w b v) : w.cell? ⟨b, 0, none⟩ = some (.int .i64 (v.pg : Nat)) := by
  have h' : w.heap[b]? = _ := h
  simp [World.cell?, h']
theorem VB4.c1 {w : World} {b : Nat} {v : NoV} (h : VB4 w b v) : w.cell? ⟨b, 1, none⟩ = some v.c := by
  have h' : w.heap[b]? = _ := h
  simp [World.cell?, h']
theorem VB4.c2 {w : World} {b : Nat} {v : NoV} (h : VB4 w b v) : w.cell? ⟨b, 2, none⟩ = some v.k := by
  have h' : w.heap[b]? = _ := h
  simp [World.cell?, h']
theorem VB4.c3 {w : World} {b : Nat} {v : NoV} (h : VB4 w b v) : w.cell? ⟨b, 3, none⟩ = some v.p := by
  have h' : w.heap[b]? = _ := h
  simp [World.cell?, h']
theorem VB4.lt {w : World} {b : Nat} {v : NoV} (h : VB4 w b v) : b < w.heap.size := (Array.getElem?_eq_some_iff.1 h).1
theorem VB4.new (w : World) (v : NoV) : ∃ W, w.alloc (.cells #[.int .i64 (v.pg : Nat), v.c, v.k, v.p] VT) = W ∧ VB4 W w.heap.size v ∧ Below w.heap.size w W :=
  ⟨_, rfl, by show (w.heap.push _)[w.heap.size]? = _; rw [Array.getElem?_push_size], (Below.refl _ _).alloc (Nat.le_refl _) _⟩
theorem need_no (v : NoV) (w : World) (h : v.pg ≠ 0) : Calls Tryz.prog 44 #[v.v] w fun e w' => e = .returned (.int .i64 0) ∧ Below w.heap.size w w' := by
  obtain ⟨W, hW, hV, hb⟩ := VB4.new w v
  have Hc := Lib.hid (lies_any v W)
  rw [show (!decide (v.pg = 0)) = true by rw [decide_eq_false h]; rfl] at Hc
  have HW := Lib.hid hW
  have HB := Lib.hid hb
  clear hW hV hb h
  obtain ⟨pg, ca, cn, cc, ka, kn, kc, pa, pn, pc⟩ := v
  dsimp only [NoV.c, NoV.k, NoV.p, NoV.v] at *
  go_enter Tryz.func44, Tryz.ntmps44
  go_wp2_with fail
  rw [HW.out]
  refine Hc.out.mono ?_
  rintro e w' ⟨rfl, hb⟩
  have Hb := Lib.hid (HB.out.trans (hb.mono HB.out.size))
  clear hb
  go_wp2
  go_ret
  exact ⟨rfl, Hb.out⟩
set_option maxRecDepth 100000 in
theorem need_walk (v : NoV) (es : List En) (vs : List NoV) (ps : List Nat) (ns : List Nat) (w : World) (h0 : v.pg = 0) (hc : CV w v.c es) (hl : es.length ≤ 100000) (hch : ∀ e ∈ es, e.ch.length ≤ 100000)
    (hsz : ∀ e ∈ es, e.v.size ≤ 2048) (hp : EV ptrE w v.p ps) (hvs : vs.length = ps.length) (hnp : ∀ i, i < ps.length → NPv w (na ps i) (va vs i)) (hpl : ps.length ≤ 100000)
    (hns : ns.length = ps.length) (hsum : cNs es + ns.sum + 1 ≤ 1000000)
    (ih : ∀ i w', i < ps.length → Below w.heap.size w w' → Calls Tryz.prog 44 #[(va vs i).v] w' fun e w'' => e = .returned (.int .i64 (na ns i : Nat)) ∧ Below w'.heap.size w' w'') :
    Calls Tryz.prog 44 #[v.v] w fun e w' => e = .returned (.int .i64 ((cNs es + ns.sum + 1 : Nat) : Int)) ∧ Below w.heap.size w w' := by
  obtain ⟨W, hW, hV, hb⟩ := VB4.new w v
  have Hc := Lib.hid (lies_any v W)
  rw [show (!decide (v.pg = 0)) = false by rw [decide_eq_true h0]; rfl] at Hc
  have HW := Lib.hid hW
  have HB := Lib.hid hb
  have HV := Lib.hid hV
  have Hcv := Lib.hid hc
  have Hp := Lib.hid hp
  have Hih := Lib.hid ih
  have Hnp := Lib.hid hnp
  have Hch := Lib.hid (And.intro hch hsz)
  have lb : w.heap.size < W.heap.size := hV.lt
  have Hsum := Lib.hid hsum
  have Hl := Lib.hid (And.intro hl (And.intro hpl (And.intro hvs hns)))
  clear hW hV hb hc hp ih hnp hch hsz hsum hl hpl hvs hns
  have Hlaid := Lib.hid (fun (w1 : World) (hx : Below w.heap.size w w1) => nlaid_any v es w1 (Hcv.out.below hx (Nat.le_refl _)) Hl.out.1 Hch.out.1)
  have Hkids := Lib.hid (fun (w1 : World) (hx : Below w.heap.size w w1) => nkids_any v ps vs w1 (Hp.out.below hx (Nat.le_refl _)) Hl.out.2.2.1 (fun i hi => NP.ext (Hnp.out i hi) hx) Hl.out.2.1)
  have hcell : Hid (∀ w1, Below W.heap.size W w1 → VB4 w1 w.heap.size v) := fun w1 hx => HV.out.ext hx
  have Hpg := Lib.hid h0
  clear Hp Hnp HV h0
  go_enter Tryz.func44, Tryz.ntmps44
  go_wp2_with fail
  rw [HW.out]
  refine Hc.out.mono ?_
  rintro e w1 ⟨rfl, hb1⟩
  have Hb1 := Lib.hid hb1
  have q0 := (hcell.out w1 hb1).c0
  have q1 := (hcell.out w1 hb1).c1
  have q2 := (hcell.out w1 hb1).c2
  have q3 := (hcell.out w1 hb1).c3
  have HB1 := Lib.hid (HB.out.trans (hb1.mono HB.out.size))
  clear hb1 Hc
  go_wp2_with fail
  refine (Hlaid.out w1 HB1.out).mono ?_
  rintro e w2 ⟨u, rfl, hoc, hb2⟩
  obtain ⟨n, hn⟩ : ∃ n, es.length = n := ⟨_, rfl⟩
  have Hn := Lib.hid hn
  have hn9 : n ≤ 100000 := by have := Hl.out.1; omega
  obtain ⟨ua, uc, hu⟩ := hoc.form
  subst hu
  have Hu := Lib.hid hoc.cv
  rw [hn] at Hu ⊢
  have HB2 := Lib.hid (HB1.out.trans (hb2.mono HB1.out.size))
  have Hb2 := Lib.hid (Hb1.out.trans (hb2.mono Hb1.out.size))
  clear hoc hb2 hn q0 q1 q2 q3 Hlaid
  go_wp2_with fail
  go_loopw [3, 5, 13] (fun x _ i wr => ∃ k A : Nat, x = .int .i64 (A : Int) ∧ i = .int .i64 k ∧ k ≤ n ∧ Hid (A = 1 + cNs (es.take k)) ∧ Hid (Below w2.heap.size w2 wr)) (fun _ _ i _ => n - (intOf i).toNat)
  case atStart => exact ⟨0, 1, rfl, rfl, by omega, (by show _ = _; simp [cNs]), Below.refl _ _⟩
  case round =>
    obtain ⟨k, A, rfl, rfl, hk, hA, hB⟩ := hrel
    by_cases hlt : k < n
    · obtain ⟨g, o, hua, hcell2⟩ := cv_ents (Hu.out.below hB.out (Nat.le_refl _)) (by rw [Hn.out]; omega)
      subst hua
      obtain ⟨p0, p1, _, p2, ⟨sa, sc, rfl, _⟩⟩ := hcell2 k (by rw [Hn.out]; exact hlt)
      have hstep := cNs_take es k (by rw [Hn.out]; exact hlt)
      have hle := cNs_le es (k + 1)
      have hs48 := Hch.out.2 (ea es k) (ea_mem (by rw [Hn.out]; exact hlt))
      have hcN : cN (ea es k) = if (decide (64 < (ea es k).v.size) && decide ((ea es k).ch.length = 0)) = true then nP (ea es k).v.size else 0 := rfl
      have hsz := hB.out.size
      have hbk : Below w2.heap.size w2 (wr.alloc (.cells #[.string (ea es k).k, .string (ea es k).v, .slice sa (ea es k).ch.length sc] TCT)) := hB.out.alloc hsz _
      have Hw := Lib.hid (waits_any (ea es k).k (ea es k).v sa (ea es k).ch.length sc (wr.alloc (.cells #[.string (ea es k).k, .string (ea es k).v, .slice sa (ea es k).ch.length sc] TCT)))
      have Hbk := Lib.hid hbk
      have hTn := heap_new wr TCT #[.string (ea es k).k, .string (ea es k).v, .slice sa (ea es k).ch.length sc]
      have HTn := Lib.hid hTn
      have Hsum2 : Hid (1 + cNs (es.take (k + 1)) ≤ 1000000) := by show _ ≤ _; have := Hsum.out; omega
      generalize ea es k = y at *
      obtain ⟨yk, yv, yc⟩ := y
      dsimp only at p0 p1 p2 Hw hs48 hcN hstep Hbk HTn
      generalize yc.length = yn at *
      obtain ⟨D, hD⟩ : ∃ D, (decide (64 < yv.size) && decide (yn = 0)) = D := ⟨_, rfl⟩
      rw [hD] at Hw hcN
      clear hcell2 hbk hTn hD hle
      go_wp2_with fail
      refine Hw.out.mono ?_
      rintro e w3 ⟨rfl, hb3⟩
      have HB3 : Hid (Below w2.heap.size w2 w3) := Hbk.out.trans (hb3.mono Hbk.out.size)
      have hg3 : w3.heap[wr.heap.size]? = some (.cells #[.string yk, .string yv, .slice sa yn sc] TCT (0, 0)) := (hb3.block _ (by simp)).trans HTn.out
      have c1 : w3.cell? ⟨wr.heap.size, 1, none⟩ = some (.string yv) := by simp [World.cell?, hg3]
      clear Hw hb3 hg3 hB Hbk HTn
      cases D with
      | false =>
        rw [if_neg (by decide)] at hcN
        have hst : Hid (A = 1 + cNs (es.take (k + 1))) := by show _ = _; rw [hstep, hcN, hA.out]; omega
        clear hstep hcN hA
        go_wp2
        go_roundw
        case rel => exact ⟨k + 1, A, rfl, by go_num, by omega, hst, HB3⟩
        case measure => simp [intOf]; omega
      | true =>
        rw [if_pos rfl] at hcN
        have hst : Hid (A + nP yv.size = 1 + cNs (es.take (k + 1))) := by show _ = _; rw [hstep, hcN, hA.out]; omega
        have Hct := Lib.hid (count_any (yv.size : Int) w3 (by omega) (by omega))
        rw [cnt_np] at Hct
        have hsum3 := Hsum2.out
        rw [← hst.out] at hsum3
        obtain ⟨C, hC⟩ : ∃ C, nP yv.size = C := ⟨_, rfl⟩
        rw [hC] at hst hsum3 Hct
        clear hstep hcN hC hA
        go_wp2_with fail
        refine Hct.out.mono ?_
        rintro e w' ⟨rfl, rfl⟩
        have z1 : IntKind.i64.wrap ((A : Int) + (C : Int)) = ((A + C : Nat) : Int) := by rw [IntKind.wrap_i64]; omega
        clear Hct hsum3
        go_wp2
        go_roundw
        case rel => exact ⟨k + 1, A + C, by go_num, by go_num, by omega, hst, HB3⟩
        case measure => simp [intOf]; omega
    · obtain rfl : k = n := by omega
      have HA : Hid (A = 1 + cNs es) := by
        have h1 := hA.out
        rw [List.take_of_length_le (by rw [Hn.out]; exact Nat.le_refl _)] at h1
        exact h1
      have hbx := Hb2.out.trans (hB.out.mono Hb2.out.size)
      have q0 := (hcell.out wr hbx).c0
      have q1 := (hcell.out wr hbx).c1
      have q2 := (hcell.out wr hbx).c2
      have q3 := (hcell.out wr hbx).c3
      have HBr := Lib.hid (HB2.out.trans (hB.out.mono HB2.out.size))
      clear hbx hB hA
      go_wp2_with fail
      refine (Hkids.out wr HBr.out).mono ?_
      rintro e w3 ⟨u3, rfl, hon, hb3⟩
      have hev := hon.ev
      obtain ⟨ka3, kc3, hu3, hs3, _⟩ := hev
      subst hu3
      have hvl : vs.length = ps.length := Hl.out.2.2.1
      obtain ⟨m, hm⟩ : ∃ m, ps.length = m := ⟨_, rfl⟩
      have Hm := Lib.hid hm
      have hm9 : m ≤ 100000 := by have := Hl.out.2.1; omega
      rw [hvl, hm]
      have Hs3 := Lib.hid hs3
      have HB3 := Lib.hid (HBr.out.trans (hb3.mono HBr.out.size))
      clear hon hb3 hs3 hvl hm q0 q1 q2 q3
      go_wp2_with fail
      go_loopw [3, 7, 30] (fun x _ i wr => ∃ k X : Nat, x = .int .i64 (X : Int) ∧ i = .int .i64 k ∧ k ≤ m ∧ Hid (X = A + (ns.take k).sum) ∧ Hid (Below w3.heap.size w3 wr)) (fun _ _ i _ => m - (intOf i).toNat)
      case atStart => exact ⟨0, A, rfl, rfl, by omega, (by show _ = _; simp), Below.refl _ _⟩
      case round =>
        obtain ⟨k, X, rfl, rfl, hk, hX, hB⟩ := hrel
        by_cases hlt : k < m
        · obtain ⟨g, o, hua, hcell2⟩ := (Hs3.out.below hB.out (Nat.le_refl _)).nods (by have := Hl.out.2.2.1; have := Hm.out; omega)
          subst hua
          obtain ⟨p0, p1, p2, p3⟩ := hcell2 k (by have := Hl.out.2.2.1; have := Hm.out; omega)
          have hsz := hB.out.size
          have hnl : k < ns.length := by have := Hl.out.2.2.2; have := Hm.out; omega
          have hstep : (ns.take (k + 1)).sum = (ns.take k).sum + na ns k := by rw [take_na ns k hnl, List.sum_append]; simp
          have hle : (ns.take (k + 1)).sum ≤ ns.sum := by
            conv => rhs; rw [← List.take_append_drop (k + 1) ns, List.sum_append]
            omega
          have hbk : Below w3.heap.size w3 (wr.alloc (.cells #[.int .i64 ((va vs k).pg : Nat), (va vs k).c, (va vs k).k, (va vs k).p] VT)) := hB.out.alloc hsz _
          have Hcall := Lib.hid (Hih.out k (wr.alloc (.cells #[.int .i64 ((va vs k).pg : Nat), (va vs k).c, (va vs k).k, (va vs k).p] VT)) (by rw [Hm.out]; exact hlt) (HB3.out.trans (hbk.mono HB3.out.size)))
          have Hbk := Lib.hid hbk
          have hsm := Hsum.out
          have hA2 := HA.out
          have hst : Hid (X + na ns k = A + (ns.take (k + 1)).sum) := by show _ = _; have := hX.out; omega
          have hX2 := hX.out
          obtain ⟨Y, hY⟩ : ∃ Y, na ns k = Y := ⟨_, rfl⟩
          have z1 : IntKind.i64.wrap ((X : Int) + (Y : Int)) = ((X + Y : Nat) : Int) := by rw [IntKind.wrap_i64]; omega
          rw [hY] at hst Hcall
          clear hstep hle hbk hsm hA2 hY hB hnl hcell2 hX hX2
          generalize va vs k = x at *
          obtain ⟨xg, xa, xn, xc, ya, yn, yc, za, zn, zc⟩ := x
          dsimp only [NoV.c, NoV.k, NoV.p, NoV.v] at *
          go_wp2_with fail
          refine Hcall.out.mono ?_
          rintro e w4 ⟨rfl, hb4⟩
          have HB4 := Lib.hid (Hbk.out.trans (hb4.mono Hbk.out.size))
          clear hb4 Hcall Hbk
          go_wp2
          go_roundw
          case rel => exact ⟨k + 1, X + Y, by go_num, by go_num, by omega, hst, HB4⟩
          case measure => simp [intOf]; omega
        · obtain rfl : k = m := by omega
          have hfin : Hid (X = cNs es + ns.sum + 1) := by
            show _ = _
            have h1 := hX.out
            rw [List.take_of_length_le (by have := Hl.out.2.2.2; have := Hm.out; omega)] at h1
            have := HA.out; omega
          have HBf := Lib.hid (HB3.out.trans (hB.out.mono HB3.out.size))
          clear hB hX
          go_wp2
          go_ret
          exact ⟨by rw [← hfin.out]; rfl, HBf.out⟩
theorem KRow.vals {w : World} {h : Nat} {ks : List ByteArray} {lo hi : SB} {ps : List Nat} {ts : List Tr} (hr : KRow (GoodT w h) ks lo hi ps ts) :
    ∃ vs : List NoV, vs.length = ps.length ∧ ∀ i, i < ps.length → NPv w (na ps i) (va vs i) ∧ NdVT w h (lob lo ks i) (hib hi ks i) (va vs i) (ta ts i) ∧ 126 ≤ (ta ts i).sz ∧ (ta ts i).sz ≤ 504 := by
  have hl := hr.len
  have hex : ∀ k, k < ps.length → ∃ x : NoV, NPv w (na ps k) x ∧ NdVT w h (lob lo ks k) (hib hi ks k) x (ta ts k) ∧ 126 ≤ (ta ts k).sz ∧ (ta ts k).sz ≤ 504 := fun k hk => by
    obtain ⟨h1, h2, h3⟩ : GoodT w h (lob lo ks k) (hib hi ks k) (na ps k) (ta ts k) := hr.kid (d := default) (by omega)
    obtain ⟨x, h4, h5⟩ := h1.val
    exact ⟨x, h4, h5, h2, h3⟩
  refine ⟨(List.range ps.length).map (fun k => if hk : k < ps.length then Classical.choose (hex k hk) else default), by simp, fun i hi => ?_⟩
  have e : va ((List.range ps.length).map (fun k => if hk : k < ps.length then Classical.choose (hex k hk) else default)) i = Classical.choose (hex i hi) := by
    unfold va; simp [List.getD, hi]
  rw [e]
  exact Classical.choose_spec (hex i hi)
theorem na_map (ts : List Tr) (f : Tr → Nat) (i : Nat) (h : i < ts.length) : na (ts.map f) i = f (ta ts i) := by
  unfold na ta; simp [List.getD, h]
theorem needL_sum : ∀ (ts : List Tr), needL ts = (ts.map Tr.need).sum
  | [] => by simp [needL]
  | t :: r => by rw [needL, needL_sum r]; simp
theorem ta_mem {ts : List Tr} {i : Nat} (h : i < ts.length) : ta ts i ∈ ts := by
  unfold ta; simp [List.getD, h]
theorem mem_esL {e : En} {t : Tr} : ∀ {ts : List Tr}, t ∈ ts → e ∈ t.es → e ∈ esL ts
  | [], h, _ => by cases h
  | u :: r, h, he => by
    rw [esL]
    rcases List.mem_cons.1 h with rfl | h
    · exact List.mem_append_left _ he
    · exact List.mem_append_right _ (mem_esL h he)
theorem needL_mem {t : Tr} : ∀ {ts : List Tr}, t ∈ ts → t.need ≤ needL ts
  | [], h => by cases h
  | u :: r, h => by
    rw [needL]
    rcases List.mem_cons.1 h with rfl | h
    · omega
    · have := needL_mem h; omega
theorem need_any : ∀ (h : Nat) {lo hi : SB} (v : NoV) (t : Tr) (w : World), NdVT w h lo hi v t → t.sz ≤ 504 → (∀ e ∈ t.es, e.ch.length ≤ 100000) → t.need ≤ 1000000 →
    Calls Tryz.prog 44 #[v.v] w fun e w' => e = .returned (.int .i64 (t.need : Nat)) ∧ Below w.heap.size w w'
  | h, lo, hi, v, t, w, hn, hz, hch, hnd => by
    by_cases h0 : v.pg = 0
    · cases h with
      | zero =>
        obtain ⟨es, rfl, h1, h2, h3, _, _, h4⟩ := hn
        rw [Tr.need, if_pos h0] at hnd ⊢
        rw [Tr.es] at hch
        simp only [Tr.sz] at hz
        have hr := szs_range (fun x hx => (h4 x hx).1)
        have := need_walk v es [] [] [] w h0 h3 (by unfold leafSz at hz; omega) hch (fun e he => (h4 e he).1.2) (by rw [h2]; exact EV.none _) rfl (fun i hi => by simp at hi) (by simp) rfl (by simpa using hnd) (fun i w' hi _ => by simp at hi)
        simpa using this
      | succ h =>
        obtain ⟨ks, ps, ts, rfl, h1, h2, h3, hr⟩ := hn
        rw [Tr.need, if_pos h0] at hnd ⊢
        rw [Tr.es] at hch
        simp only [Tr.sz] at hz
        obtain ⟨vs, hvl, hvs⟩ := hr.vals
        have hl := hr.len
        have hkr := kss_range hr.factsT.2.2.2
        rw [needL_sum] at hnd ⊢
        have := need_walk v [] vs ps (ts.map Tr.need) w h0 (by rw [h1]; exact CV.none _) (by simp) (fun e he => by cases he) (fun e he => by cases he) h3 hvl (fun i hi => (hvs i hi).1) (by unfold brSz at hz; omega) (by rw [List.length_map]; omega) (by simpa [cNs] using hnd) (fun i w' hi hb => by
          rw [na_map ts Tr.need i (by omega)]
          obtain ⟨g1, g2, g3, g4⟩ := hvs i hi
          have hm : ta ts i ∈ ts := ta_mem (by omega)
          exact need_any h (va vs i) (ta ts i) w' (g2.ext hb) g4 (fun e he => hch e (mem_esL hm he)) (by have := needL_mem hm; rw [needL_sum] at this; omega))
        simpa [cNs] using this
    · rw [show t.need = 0 from need_lies t (by rw [hn.pg]; exact h0)]
      exact need_no v w h0
end Go.Proofs.YtdgladhfibfdlaaGreatDoor
namespace Go.Proofs.YtdgladhfibfdlaaGreatDoor
open Go Go.RowKit
theorem cellOf_any (key v : ByteArray) (w : World) :
    Calls Tryz.prog 61 #[.string key, .string v] w fun e w' => e = .returned (.agg #[.string key, .string v, nilS]) ∧ Below w.heap.size w w' := by
  go_enter Tryz.func61, Tryz.ntmps61
  go_wp2_with fail
  refine bodyPost_ret (v := .agg #[.string key, .string v, nilS]) (by rw [results_cell_one rfl]; go_simp) rfl ⟨rfl, ?_⟩
  exact (Below.refl _ _).alloc (Nat.le_refl _) _
theorem cell_lit (w : World) (key v : ByteArray) : CS (w.alloc (.cells #[.string key, .string v, nilS] TCT)) (some ⟨w.heap.size, 0, none⟩) [⟨key, v, []⟩] :=
  ⟨[⟨key, v, none, 0, 0⟩], ES.lit (E := celE) (l := [⟨key, v, none, 0, 0⟩]) (heap_new w _ _), ⟨rfl, rfl, EV.none _⟩, trivial⟩
end Go.Proofs.YtdgladhfibfdlaaGreatDoor
