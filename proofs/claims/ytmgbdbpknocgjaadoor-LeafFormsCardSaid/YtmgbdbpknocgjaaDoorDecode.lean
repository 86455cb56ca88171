/-
  leaf's Decode.
-/
import Derived.Test.YtmgbdbpknocgjaaDoorTakeC
namespace Go.Proofs.YtmgbdbpknocgjaaDoor
open Go Go.RowKit

/-- Where Decode stands behind i cells. -/
def St (l : List Nat) (i : Nat) (cs : List Ce) (S : RS) : Prop := (S.wr = false ∧ (numS ⟨l, false⟩ 504).2.wr = false ∧ decN i (numS ⟨l, false⟩ 504).2.l = some (cs, S.l)) ∨ (S.wr = true ∧ S.l = [] ∧ decS l = none)
theorem st_start (l : List Nat) (h : (numS ⟨l, false⟩ 504).2.wr = true → (numS ⟨l, false⟩ 504).2.l = []) : St l 0 [] (numS ⟨l, false⟩ 504).2 := by
  cases hw : (numS ⟨l, false⟩ 504).2.wr with
  | false => exact .inl ⟨hw, hw, by rw [decN]⟩
  | true => exact .inr ⟨hw, h hw, decS_wr hw⟩
theorem rs_eta {S : RS} {l : List Nat} {b : Bool} (h1 : S.l = l) (h2 : S.wr = b) : S = ⟨l, b⟩ := by
  obtain ⟨x, y⟩ := S
  dsimp only at h1 h2
  rw [h1, h2]
theorem st_no {l : List Nat} {i : Nat} {cs : List Ce} {S : RS} (h : St l i cs S) (hi : i < (numS ⟨l, false⟩ 504).1) (hm : mayB (tkS S).1 = false) : decS l = none := by
  rcases h with ⟨hw, _, hd⟩ | ⟨_, _, h2⟩
  · rw [rs_eta rfl hw] at hm
    cases hc : cellS S.l with
    | none => exact decS_none (decN_stop hd hc) (by omega)
    | some x =>
      obtain ⟨c, r⟩ := x
      rw [tk_some hc] at hm
      exact decS_none (decN_not hd hc hm) (by omega)
  · exact h2
theorem st_yes {l : List Nat} {i : Nat} {cs : List Ce} {S : RS} (h : St l i cs S) (hi : i < (numS ⟨l, false⟩ 504).1) (hm : mayB (tkS S).1 = true) (hinv : (tkS S).2.wr = true → (tkS S).2.l = []) : St l (i + 1) (cs ++ [(tkS S).1]) (tkS S).2 := by
  rcases h with ⟨hw, hw0, hd⟩ | ⟨hw, hl, h2⟩
  · rw [rs_eta rfl hw] at hm hinv ⊢
    cases hc : cellS S.l with
    | none => exact .inr ⟨tk_none hc, hinv (tk_none hc), decS_none (decN_stop hd hc) (by omega)⟩
    | some x =>
      obtain ⟨c, r⟩ := x
      rw [tk_some hc] at hm ⊢
      exact .inl ⟨rfl, hw0, decN_succ hd hc hm⟩
  · rw [rs_eta hl hw, tk_wr] at hm; cases hm
theorem st_end {l : List Nat} {cs : List Ce} {S : RS} (h : St l (numS ⟨l, false⟩ 504).1 cs S) (hl : l.length ≤ 504) :
    (okS S = false → decS l = none) ∧ (okS S = true → ¬ asc cs → decS l = none) ∧ (okS S = true → asc cs → decS l = some cs) := by
  rcases h with ⟨hw, h0, hd⟩ | ⟨hw, _, h2⟩
  · have := decS_end hl h0 hd
    refine ⟨fun ho => this.2.1 (fun hx => ?_), fun _ ha => this.2.2 ha, fun ho ha => this.1 ?_ ha⟩
    · unfold okS at ho; rw [hw, hx] at ho; cases ho
    · unfold okS at ho; rw [hw] at ho; simpa using ho
  · have : okS S = false := by unfold okS; rw [hw]; rfl
    exact ⟨fun _ => h2, (fun ho => by rw [this] at ho; cases ho), (fun ho => by rw [this] at ho; cases ho)⟩
/-- Decode's cells and its error. -/
noncomputable def decC (l : List Nat) : List Ce := match decS l with
  | none => []
  | some cs => cs
noncomputable def decE (l : List Nat) : Nat := match decS l with
  | none => 3
  | some _ => 0
theorem dec_none {l : List Nat} (h : decS l = none) : decC l = [] ∧ decE l = 3 := by unfold decC decE; rw [h]; exact ⟨rfl, rfl⟩
theorem dec_some {l : List Nat} {cs : List Ce} (h : decS l = some cs) : decC l = cs ∧ decE l = 0 := by unfold decC decE; rw [h]; exact ⟨rfl, rfl⟩
/-- What turned a block of the call's own left what was there. -/
theorem Turn.own {w w1 w2 : World} {b B : Nat} (hb : Below B w w1) (t : Turn (fun i => i = b) w1 w2) (hB : B ≤ b) (hz : B ≤ w.heap.size) : Below B w w2 :=
  hb.trans (t.below (Nat.le_trans hz hb.size) (fun i hi => by rw [hi]; exact hB))
/-- A row of cells is no reader. -/
theorem own_turn {w w' : World} {B b n : Nat} {v : Value} {xs : List Value} {S : RS} (h : w.ownsRow B CT 4 v n xs) (hr : Rd w b S) (t : Turn (fun i => i = b) w w') : w'.ownsRow B CT 4 v n xs := by
  refine ⟨h.1, ?_⟩
  rcases h.2 with h1 | ⟨g, cap, cur, h1, h2, h3, h4⟩
  · exact .inl h1
  · refine .inr ⟨g, cap, cur, h1, h2, t.hg h3 (fun e => ?_), h4⟩
    subst e
    obtain ⟨u, hu, _⟩ := hr.ex
    have hu' : w.heap[g]? = _ := hu
    rw [h3] at hu'
    have : (CT : Nat) = RT := by cases hu'
    exact absurd this (by decide)
theorem own_ne {w : World} {B b n : Nat} {v : Value} {xs : List Value} {S : RS} (h : w.ownsRow B CT 4 v n xs) (hr : Rd w b S) : ∀ i, v.ownBlock = some i → B ≤ i ∧ i ≠ b := fun i hi => by
  refine ⟨(h.lt i hi).1, fun e => ?_⟩
  subst e
  rcases h.2 with ⟨h1, _⟩ | ⟨g, cap, cur, h1, h2, h3, h4⟩
  · subst h1; cases hi
  · subst h1
    simp only [Value.ownBlock, Option.some.injEq] at hi
    subst hi
    obtain ⟨u, hu, _⟩ := hr.ex
    have hu' : w.heap[g]? = _ := hu
    rw [h3] at hu'
    have : (CT : Nat) = RT := by cases hu'
    exact absurd this (by decide)
theorem turn_grown {w w' : World} {row : Option Nat} (hg : w.grownBy w' row) : Turn (fun i => row = some i) w w' :=
  ⟨hg.os, hg.tape, hg.output, hg.size, fun i hi hne => hg.block i hi (fun e => hne e.symm)⟩
theorem Rb.overF {w w' : World} {b B : Nat} {S : RS} {F : Nat → Prop} (h : Rb w b B S) (t : Turn F w w') (hF : ∀ i, F i → B ≤ i ∧ i ≠ b) : Rb w' b B S := by
  obtain ⟨v, h1, h2, h3⟩ := h.ex
  refine ⟨⟨v, h1.turn t (fun hb => (hF b hb).2 rfl), ?_, h3⟩, h.b8, h.len, h.inv⟩
  rcases h2 with h4 | ⟨g', o', c', rfl, hc, h5, h6⟩
  · exact .inl h4
  · refine .inr ⟨g', o', c', rfl, fun i hi => ?_, h5, h6⟩
    have hlt := h3 g' o' _ c' rfl (by omega)
    rw [t.cell (p := ⟨g', o' + i, none⟩) (block_lt_of_cell (hc i hi)) (fun hx => by have := (hF g' hx).1; omega)]
    exact hc i hi
set_option maxRecDepth 100000 in
set_option maxHeartbeats 1000000 in
theorem decode_any (a : Option Addr) (n c : Nat) (l : List Nat) (w : World) (hn : l.length = n) (hs : Src w a l) (hz : a = none → c = 0) (hl : n ≤ 65536) (hb8 : B8 l) :
    Calls Tryd.prog 10 #[.slice a n c] w fun e w' => ∃ v, e = .returned (.tuple #[v, errV (decE l)]) ∧ Cl w' v (decC l) ∧ Below w.heap.size w w' := by
  have Hs := Lib.hid (And.intro hs hz)
  have Hn := Lib.hid hn
  have H8 := Lib.hid hb8
  clear hs hz hn hb8
  by_cases hlong : 504 < n
  · have hd := Lib.hid (dec_none (decS_long (l := l) (by rw [Hn.out]; exact hlong)))
    have d1 : decide (504 < (n : Int)) = true := by simp; omega
    go_enter Tryd.func10, Tryd.ntmps10
    go_wp2
    go_ret2
    exact ⟨.slice none 0 0, by rw [hd.out.2]; rfl, by rw [hd.out.1]; exact Cl.none _, Below.refl _ _⟩
  · have d1 : decide (504 < (n : Int)) = false := by simp; omega
    have hN := numS_le ⟨l, false⟩ 504
    have hst := Lib.hid (st_start l)
    have hno := Lib.hid (fun i cs S => st_no (l := l) (i := i) (cs := cs) (S := S))
    have hyes := Lib.hid (fun i cs S => st_yes (l := l) (i := i) (cs := cs) (S := S))
    have hend := Lib.hid (fun cs S => st_end (l := l) (cs := cs) (S := S))
    obtain ⟨NS, hNS⟩ : ∃ NS, NS = numS ⟨l, false⟩ 504 := ⟨_, rfl⟩
    rw [← hNS] at hN hst hno hyes hend
    obtain ⟨N, S0⟩ := NS
    dsimp only at hN hst hno hyes hend
    have HNS := Lib.hid hNS.symm
    clear hNS
    go_enter Tryd.func10, Tryd.ntmps10
    go_wp2_with fail
    refine (new_any a n c l Hn.out w Hs.out.1 Hs.out.2 (by omega) H8.out).mono ?_
    rintro e w1 ⟨b, rfl, hbb, hr1, hb1⟩
    have Hbb := Lib.hid hbb
    have Hr1 := Lib.hid hr1.rb
    have Hb1 := Lib.hid hb1
    clear hbb hr1 hb1
    go_wp2_with fail
    refine (rnumB_any w1 b w1.heap.size ⟨l, false⟩ Hr1.out 504).mono ?_
    rintro e w2 ⟨rfl, hr2, ht2⟩
    rw [HNS.out] at hr2 ⊢
    have Hb2 := Lib.hid (Turn.own Hb1.out ht2 Hbb.out (Nat.le_refl _))
    have Hz2 : Hid (w1.heap.size ≤ w2.heap.size) := ht2.size
    have Hz1 : Hid (w.heap.size ≤ w1.heap.size) := Hb1.out.size
    have hst0 := Lib.hid (hst.out hr2.inv)
    have Hr2 := Lib.hid hr2
    clear hr2 ht2 Hb1 Hr1
    dsimp only
    go_wp2_with fail
    go_loopw [5, 15] (fun lv i wr => ∃ (k : Nat) (cs : List Ce) (S : RS) (v : Value), i = .int .u64 k ∧ lv = v ∧ k ≤ N ∧ Hid (cs.length = k) ∧ Hid (St l k cs S) ∧ Hid (wr.ownsRow w1.heap.size CT 4 v cs.length (cvs cs)) ∧ Hid (Rb wr b w1.heap.size S) ∧ Hid (w1.heap.size ≤ wr.heap.size) ∧ Hid (Below w.heap.size w wr)) (fun _ i _ => N - (intOf i).toNat)
    case atStart => exact ⟨0, [], S0, .slice none 0 0, rfl, rfl, by omega, rfl, hst0, World.ownsRow_nil w2 w1.heap.size CT 4, Hr2, Hz2, Hb2⟩
    case round =>
      obtain ⟨k, cs, S, v, rfl, rfl, hk, hcl, hS, hown, hr, hz, hB⟩ := hrel
      by_cases hlt : k < N
      · have hno1 := Lib.hid (fun h => dec_none (hno.out k cs S hS.out hlt h))
        have hyes1 := Lib.hid (hyes.out k cs S hS.out hlt)
        have htk := Lib.hid (leafTake_any wr b w1.heap.size S hr.out hz.out)
        obtain ⟨T, hT⟩ : ∃ T, T = tkS S := ⟨_, rfl⟩
        rw [← hT] at hno1 hyes1 htk
        obtain ⟨⟨x0, x1, x2, x3⟩, S3⟩ := T
        unfold Ce.val at htk
        dsimp only at hno1 hyes1 htk
        clear hT
        go_wp2_with fail
        refine htk.out.mono ?_
        rintro e w3 ⟨rfl, hr3, ht3⟩
        have Hb3 := Lib.hid (Turn.own hB.out ht3 Hbb.out (Nat.le_refl _))
        have Ho3 := Lib.hid (own_turn hown.out hr.out.rd ht3)
        have Hz3 : Hid (w1.heap.size ≤ w3.heap.size) := Nat.le_trans hz.out ht3.size
        have Hr3 := Lib.hid hr3
        have hsz3 := Hb3.out.size
        clear htk ht3 hr3 hown hB hr hS hz
        have hnew : Below w3.heap.size w3 (w3.alloc (.cells #[.string x0, .string x1, .int .i64 x2, .int .i64 x3] CT)) := (Below.refl _ _).alloc (Nat.le_refl _) _
        have hchk := Lib.hid (leafCheck_any x0 x1 x2 x3 (w3.alloc (.cells #[.string x0, .string x1, .int .i64 x2, .int .i64 x3] CT)))
        have Hn4 := Lib.hid hnew
        have hci := Lib.hid (CIn.new w3 CT ⟨x0, x1, x2, x3⟩)
        clear hnew
        generalize mayB ⟨x0, x1, x2, x3⟩ = M at *
        unfold chkC at hchk
        cases M with
        | false =>
          have hd := Lib.hid (hno1.out rfl)
          clear hno1 hyes1 Ho3 Hr3
          simp only [Bool.false_eq_true, if_false] at hchk
          go_wp2_with fail
          refine hchk.out.mono ?_
          rintro e w4 ⟨rfl, hb4⟩
          have Hb4 := Lib.hid (Hb3.out.trans ((Hn4.out.trans (hb4.mono Hn4.out.size)).mono hsz3))
          clear hb4
          go_wp2
          go_ret2
          exact ⟨.slice none 0 0, by rw [hd.out.2]; rfl, by rw [hd.out.1]; exact Cl.none _, Hb4.out⟩
        | true =>
          have hst2 := Lib.hid (hyes1.out rfl Hr3.out.inv)
          clear hno1 hyes1
          simp only [if_true] at hchk
          go_wp2_with fail
          refine hchk.out.mono ?_
          rintro e w4 ⟨rfl, hb4⟩
          have hb34 : Below w3.heap.size w3 w4 := Hn4.out.trans (hb4.mono Hn4.out.size)
          have Hb4 := Lib.hid (Hb3.out.trans (hb34.mono hsz3))
          have Ho4 := Lib.hid (own_below Ho3.out hb34 (Nat.le_refl _))
          have Hr4 := Lib.hid (Hr3.out.below hb34)
          have hz4 : w1.heap.size ≤ w4.heap.size := Nat.le_trans Hz3.out hb34.size
          have ci4 := hci.out.ext hb4
          have r0 := ci4.c0
          have r1 := ci4.c1
          have r2 := ci4.c2
          have r3 := ci4.c3
          dsimp only at r0 r1 r2 r3
          have hsz4 := Hb4.out.size
          have hn5 := Lib.hid (cat_new w4 CT ⟨x0, x1, x2, x3⟩)
          clear hb4 hb34 ci4 hci Hn4 hchk Hb3 Ho3 Hr3
          go_wp2_with (at_builtin; refine wpList_append_cell rfl (.tmp 23) (.tmp 25) 31 rfl w1.heap.size CT Tryd.underlying31 infoC _ cs (by rfl) (Ho4.out.alloc _) w4.heap.size 1 ⟨x0, x1, x2, x3⟩ (by rfl) hn5.out (by rw [hcl.out]; omega) (by simp; omega) ?_; intro v' w5 hown5 hgrow5)
          have hal : Below w4.heap.size w4 (w4.alloc (.cells #[.string x0, .string x1, .int .i64 x2, .int .i64 x3] CT)) := (Below.refl _ _).alloc (Nat.le_refl _) _
          have hr5 : Hid (Rb w5 b w1.heap.size S3) := (Hr4.out.below hal).overF (turn_grown hgrow5.out) (own_ne (Ho4.out.alloc _) (Hr4.out.below hal).rd)
          have hB5 : Hid (Below w.heap.size w w5) := (Hb4.out.alloc hsz4 _).grown hgrow5.out (by simp; omega) (fun j hj => Nat.le_trans Hz1.out (Ho4.out.lt j hj).1)
          have hz5 : Hid (w1.heap.size ≤ w5.heap.size) := Nat.le_trans hz4 (Nat.le_trans hal.size hgrow5.out.size)
          have hcl5 : Hid ((cs ++ [(⟨x0, x1, x2, x3⟩ : Ce)]).length = k + 1) := by show _ = _; rw [List.length_append, hcl.out]; rfl
          clear hgrow5 hal Ho4 Hr4 Hb4 hn5
          go_wp2
          go_roundw
          case rel => exact ⟨k + 1, cs ++ [⟨x0, x1, x2, x3⟩], S3, v', by go_num, rfl, by omega, hcl5, hst2, hown5, hr5, hz5, hB5⟩
          case measure => simp [intOf]; omega
      · obtain rfl : k = N := by omega
        have he := hend.out cs S hS.out (by rw [Hn.out]; omega)
        have he1 := Lib.hid (fun h => dec_none (he.1 h))
        have he2 := Lib.hid (fun h h2 => dec_none (he.2.1 h h2))
        have he3 := Lib.hid (fun h h2 => dec_some (he.2.2 h h2))
        have hcell := Lib.hid (own_cells hown.out)
        obtain ⟨av, cv, hv, hcs, hcz, hcl2⟩ := own_cells hown.out
        have hdn := Lib.hid (done_any wr b S hr.out.rd)
        clear he
        cases hok : okS S with
        | false =>
          have hd := Lib.hid (he1.out hok)
          have hdv : doneV S = errV 3 := by unfold doneV; rw [hok]; rfl
          rw [hdv] at hdn
          clear he1 he2 he3 hok hdv hcs hcz
          go_wp2_with fail
          refine hdn.out.mono ?_
          rintro e w' ⟨rfl, rfl⟩
          rw [errV_3]
          go_wp2
          go_ret2
          exact ⟨.slice none 0 0, by rw [hd.out.2]; rfl, by rw [hd.out.1]; exact Cl.none _, hB.out⟩
        | true =>
          have hdv : doneV S = .nilIface := by unfold doneV; rw [hok]; rfl
          rw [hdv] at hdn
          have he2' := Lib.hid (he2.out hok)
          have he3' := Lib.hid (he3.out hok)
          clear he1 he2 he3 hok hdv
          subst hv
          have hasc := Lib.hid (ascend_any av _ cv cs wr rfl hcs (by rw [hcl.out]; omega))
          have hLL : Hid (cs.length = cs.length) := rfl
          obtain ⟨L, hL⟩ : ∃ L, L = cs.length := ⟨_, rfl⟩
          rw [← hL] at hasc ⊢
          replace hLL : Hid (cs.length = L) := hL.symm
          clear hL
          go_wp2_with fail
          refine hdn.out.mono ?_
          rintro e w' ⟨rfl, rfl⟩
          go_wp2_with fail
          refine hasc.out.mono ?_
          rintro e w6 ⟨D, rfl, hD, hb6⟩
          have hB6 := Lib.hid (hB.out.trans (hb6.mono hB.out.size))
          have Hcs := Lib.hid (And.intro hcs (And.intro hcz hcl2))
          have hb6' := Lib.hid hb6
          have HD := Lib.hid hD
          clear hD hb6 hcs hcz hcl2 hasc hB
          cases D with
          | false =>
            have hd := Lib.hid (he2'.out (fun h => by have := HD.out.2 h; cases this))
            clear he2' he3' HD
            go_wp2
            go_ret2
            exact ⟨.slice none 0 0, by rw [hd.out.2]; rfl, by rw [hd.out.1]; exact Cl.none _, hB6.out⟩
          | true =>
            have hd := Lib.hid (he3'.out (HD.out.1 rfl))
            clear he2' he3' HD
            go_wp2
            go_ret2
            refine ⟨_, by rw [hd.out.2]; rfl, ?_, hB6.out⟩
            rw [hd.out.1]
            exact ⟨av, cv, by rw [hLL.out]; rfl, Hcs.out.1.below hb6'.out (Nat.le_refl _), Hcs.out.2.1, Hcs.out.2.2⟩
end Go.Proofs.YtmgbdbpknocgjaaDoor
