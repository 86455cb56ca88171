/-
  What the law PlanFew stands on.
-/
import Derived.Test.YtdgladhfibfdlaaGreatDoorQPlanFew32
import Derived.Test.YtdgladhfibfdlaaGreatDoorQPlanFew19
import Derived.Test.YtdgladhfibfdlaaGreatDoorQPlanFew02
import Derived.Test.YtdgladhfibfdlaaGreatDoorQPlanFew05
namespace Go.Proofs.YtdgladhfibfdlaaGreatDoor
open Go Go.RowKit
theorem rep_same {es : List En} {key v : ByteArray} (hs : bare es = es) (h : isE es key = true) (hv : getE es key = v) : rep es key [⟨key, v, []⟩] = es := by
  have h1 := isE_eq es key
  rw [h] at h1
  have h2 := h1.symm
  rw [Bool.and_eq_true, decide_eq_true_iff] at h2
  have h3 : getE es key = (ea es (fE es key)).v := by unfold getE; rw [if_pos h]
  have h4 : goneE es key = 1 := by unfold goneE; rw [if_pos h]
  have h5 : ea es (fE es key) = ⟨key, v, []⟩ := by
    have e1 := beq_bytes h2.2
    have e2 : (ea es (fE es key)).v = v := h3.symm.trans hv
    have e3 : (ea es (fE es key)).ch = [] := by
      conv => lhs; rw [← hs]
      rw [ea_bare]; rfl
    cases hx : ea es (fE es key) with
    | mk k' v' c' => rw [hx] at e1 e2 e3; simp only at e1 e2 e3; rw [e1, e2, e3]
  unfold rep
  rw [h4, ← h5]
  conv => rhs; rw [← List.take_append_drop (fE es key) es, ea_drop es _ h2.1]
  rfl
theorem two_own (w : World) (p : Option Addr) (n : Int) : ∃ W, (w.alloc (.cells #[.pointer p, .int .i64 n] TT)).alloc (.cells #[.pointer none, .int .i64 0] TT) = W ∧ TB W w.heap.size p n ∧ TB W (w.heap.size + 1) none 0 ∧ Below w.heap.size w W := by
  obtain ⟨W1, hW1, hT1, hb1⟩ := alloc_own w TT #[.pointer p, .int .i64 n]
  obtain ⟨W2, hW2, hT2, hb2⟩ := alloc_own W1 TT #[.pointer none, .int .i64 0]
  have hs1 : W1.heap.size = w.heap.size + 1 := by rw [← hW1]; simp
  exact ⟨W2, by rw [hW1, hW2], TB.ext (w := W1) hT1 hb2, by rw [← hs1]; exact hT2, hb1.trans (hb2.mono hb1.size)⟩
set_option maxRecDepth 100000 in
theorem put_no (p : Option Addr) (n : Int) (es : List En) (key v : ByteArray) (w : World) (h : okK key = false ∨ 2048 < v.size) :
    Calls Tryz.prog 29 #[.agg #[.pointer p, .int .i64 n], .string key, .string v] w fun e w' => e = .returned (.tuple #[.agg #[.pointer none, .int .i64 0], errC (tpF es key v : Nat)]) ∧ Below w.heap.size w w' := by
  have hch := fun w => check_any key w
  by_cases hk : okK key = false
  · have ht : Hid (tpF es key v = 1) := by show _ = _; unfold tpF; rw [if_pos hk]
    have hv : chkV key = .iface 110 (.int .i64 1) := by unfold chkV; rw [hk]; rfl
    rw [hv] at hch
    have Hch := Lib.hid hch
    rw [show errC ((tpF es key v : Nat) : Int) = .iface 110 (.int .i64 1) by rw [ht.out]; rfl]
    clear hch hv hk h
    go_enter Tryz.func29, Tryz.ntmps29
    go_wp2_with fail
    refine (Hch.out _).mono ?_
    rintro e w' ⟨rfl, rfl⟩
    go_wp2_with fail
    refine bodyPost_ret (v := .tuple #[.agg #[.pointer none, .int .i64 0], .iface 110 (.int .i64 1)]) (by rw [results_cell_tmp rfl]; go_simp) rfl ⟨rfl, ?_⟩
    exact ((Below.refl _ _).alloc (Nat.le_refl _) _).alloc (by simp) _
  · have hv2 : 2048 < v.size := by rcases h with h | h; exact absurd h hk; exact h
    have ht : Hid (tpF es key v = 5) := by show _ = _; unfold tpF; rw [if_neg hk, if_pos hv2]
    have hk1 : okK key = true := by simpa using hk
    have hv : chkV key = .nilIface := by unfold chkV; rw [hk1]; rfl
    rw [hv] at hch
    have Hch := Lib.hid hch
    rw [show errC ((tpF es key v : Nat) : Int) = .iface 110 (.int .i64 5) by rw [ht.out]; rfl]
    have d3 : decide (2048 < (v.size : Int)) = true := decide_eq_true (by omega)
    clear hch hv hk hk1 h hv2
    go_enter Tryz.func29, Tryz.ntmps29
    go_wp2_with fail
    refine (Hch.out _).mono ?_
    rintro e w' ⟨rfl, rfl⟩
    go_wp2_with fail
    refine bodyPost_ret (v := .tuple #[.agg #[.pointer none, .int .i64 0], .iface 110 (.int .i64 5)]) (by rw [results_cell_tmp rfl]; go_simp) rfl ⟨rfl, ?_⟩
    exact ((Below.refl _ _).alloc (Nat.le_refl _) _).alloc (by simp) _
def PutFr (ts ts' : List Tr) (H' : Nat) (key v : ByteArray) : Prop :=
  (esL ts' = rep (esL ts) key [⟨key, v, []⟩] ∧ Fr ts ts' (2 * H')) ∨ (ts' = ts ∧ isE (esL ts) key = true ∧ getE (esL ts) key = v)
theorem PutFr.ste {ts ts' : List Tr} {H' : Nat} {key v : ByteArray} (h : PutFr ts ts' H' key v) : bare (esL ts') = rep (bare (esL ts)) key [⟨key, v, []⟩] := by
  rcases h with ⟨h, _⟩ | ⟨rfl, h1, h2⟩
  · rw [h, rep_bare]; rfl
  · exact (rep_same (bare_bare _) (by rw [(fE_bare _ _).2]; exact h1) (by rw [getE_bare]; exact h2)).symm
theorem PutFr.len {ts ts' : List Tr} {H' : Nat} {key v : ByteArray} (h : PutFr ts ts' H' key v) : (esL ts').length = (rep (esL ts) key [⟨key, v, []⟩]).length := by
  have h1 := congrArg List.length h.ste
  rw [bare_len] at h1
  have h2 := rep_len (bare (esL ts)) key [⟨key, v, []⟩]
  have h3 := rep_len (esL ts) key [⟨key, v, []⟩]
  unfold goneE at h2 h3
  rw [(fE_bare _ _).2, bare_len] at h2
  omega
theorem PutFr.fr {ts ts' : List Tr} {H' : Nat} {key v : ByteArray} (h : PutFr ts ts' H' key v) : Fr ts ts' (2 * H') := by
  rcases h with ⟨_, h⟩ | ⟨rfl, _⟩
  · exact h
  · exact (Fr.refl _).mono (by omega)
set_option maxRecDepth 100000 in
theorem put_yesT (p : Option Addr) (ts : List Tr) (H : Nat) (key v : ByteArray) (w : World) (ht : TreeT w p ts H) (hl : (esL ts).length ≤ 4096) (hk : okK key = true) (hv : v.size ≤ 2048) :
    Calls Tryz.prog 29 #[.agg #[.pointer p, .int .i64 (esL ts).length], .string key, .string v] w fun e w' => ∃ p' ts' H', e = .returned (.tuple #[.agg #[.pointer p', .int .i64 ((esL ts').length : Nat)], errC (tpF (esL ts) key v : Nat)]) ∧ TreeT w' p' ts' H' ∧
      ((tpF (esL ts) key v ≠ 0 ∧ ts' = []) ∨ (tpF (esL ts) key v = 0 ∧ PutFr ts ts' H' key v)) ∧ Below w.heap.size w w' := by
  have hch := fun w => check_any key w
  rw [show chkV key = .nilIface by unfold chkV; rw [hk]; rfl] at hch
  have Hch := Lib.hid hch
  have d3 : decide (2048 < (v.size : Int)) = false := decide_eq_false (by omega)
  obtain ⟨es, hes⟩ : ∃ es, esL ts = es := ⟨_, rfl⟩
  have Hes := Lib.hid hes
  rw [hes] at hl ⊢
  obtain ⟨W, hW, hT1, hT2, hb⟩ := two_own w p es.length
  have hq := (ht.ext hb).tq
  rw [hes] at hq
  have Hget := Lib.hid (getQ_any p es.length es H key W hq)
  have HW := Lib.hid hW
  have HT := Lib.hid (And.intro hT1 hT2)
  have HB := Lib.hid hb
  have Htr := Lib.hid ht
  have HtF : Hid (tpF es key v = if isE es key = false ∧ 4096 ≤ es.length then 7 else 0) := by
    show _ = _; unfold tpF; rw [if_neg (by rw [hk]; decide), if_neg (by omega)]
  have hlen := rep_len es key [⟨key, v, []⟩]
  have hgo : goneE es key = if isE es key = true then 1 else 0 := rfl
  have hcore : ∀ (w3 : World) (m : Int), Below W.heap.size W w3 → IntKind.i64.wrap ((es.length : Int) + m) = ((rep es key [⟨key, v, []⟩]).length : Int) →
      ∃ w4, w3.alloc (.cells #[.string key, .string v, nilS] TCT) = w4 ∧ Below w3.heap.size w3 w4 ∧ Calls Tryz.prog 58 #[.agg #[.pointer p, .int .i64 es.length], .int .i64 m, .string key, .slice (some ⟨w3.heap.size, 0, none⟩) 1 1] w4 (fun e w' => ∃ p' ts' H', e = .returned (.agg #[.pointer p', .int .i64 ((rep es key [⟨key, v, []⟩]).length : Nat)]) ∧
        TreeT w' p' ts' H' ∧ (esL ts' = rep es key [⟨key, v, []⟩] ∧ Fr ts ts' (2 * H')) ∧ Below w4.heap.size w4 w') := fun w3 m h2 hm => by
    have h3 : Below w3.heap.size w3 (w3.alloc (.cells #[.string key, .string v, nilS] TCT)) := (Below.refl _ _).alloc (Nat.le_refl _) _
    have h23 := h2.trans (h3.mono h2.size)
    have hw3 := hb.trans (h23.mono hb.size)
    refine ⟨_, rfl, h3, ?_⟩
    have := change_core p ts es.length m _ key _ 1 1 [⟨key, v, []⟩] _ (.inr ⟨v, rfl⟩) (fun x hx => by
      simp only [List.mem_singleton] at hx; subst hx; exact ⟨hk, hv⟩) rfl (fun h => by cases h) (cell_lit w3 key v) H (ht.ext hw3) hm
    rw [hes] at this
    exact this
  have Hcore := Lib.hid hcore
  have Hco := Lib.hid (fun w => cellOf_any key v w)
  clear hch hW hT1 hT2 hb ht hk hv hcore hq hes
  go_enter Tryz.func29, Tryz.ntmps29
  go_wp2_with fail
  refine (Hch.out _).mono ?_
  rintro e w' ⟨rfl, rfl⟩
  clear Hch
  go_wp2_with fail
  rw [HW.out]
  refine Hget.out.mono ?_
  rintro e w2 ⟨rfl, hb2⟩
  clear Hget
  have a0 := (HT.out.1.ext hb2).c0
  have a1 := (HT.out.1.ext hb2).c1
  have hR := HT.out.2.ext hb2
  have r0 := hR.c0
  have r1 := hR.c1
  have f0 := hR.fz 0
  have f1 := hR.fz 1
  have HR := Lib.hid hR
  have HB2 := Lib.hid (HB.out.trans (hb2.mono HB.out.size))
  have Hb2 := Lib.hid hb2
  clear hb2 hR
  cases hI : isE es key with
  | false =>
    have hg0 : goneE es key = 0 := by rw [hgo, hI]; rfl
    by_cases hfull : 4096 ≤ es.length
    · have hT7 : Hid (tpF es key v = 7) := by show _ = _; rw [HtF.out, if_pos ⟨hI, hfull⟩]
      have d4 : ((es.length : Int) == 4096) = true := by rw [beq_iff_eq]; omega
      have HP := Lib.hid (HR.out.put none 0)
      have e0 := HP.out.c0
      have e1 := HP.out.c1
      clear Hcore hlen hgo hg0 HtF
      go_wp2_with fail
      refine bodyPost_ret (v := .tuple #[.agg #[.pointer none, .int .i64 0], .iface 110 (.int .i64 7)]) (by rw [results_cell_tmp rfl]; go_simp) rfl ⟨none, [], 0, by rw [hT7.out]; rfl, TreeT.none _, .inl ⟨by rw [hT7.out]; decide, rfl⟩, below_put HB2.out (by omega)⟩
    · have hT0 : Hid (tpF es key v = 0) := by show _ = _; rw [HtF.out, if_neg (fun h => hfull h.2)]
      have d4 : ((es.length : Int) == 4096) = false := by rw [beq_eq_false_iff_ne]; omega
      have hM : IntKind.i64.wrap ((es.length : Int) + 1) = ((rep es key [⟨key, v, []⟩]).length : Int) := by rw [hg0] at hlen; rw [IntKind.wrap_i64]; simp at hlen; omega
      have HM := Lib.hid hM
      clear hlen hgo hg0 HtF r0 r1 f0 f1 hM
      obtain ⟨W3, hW3⟩ : ∃ W, w2.drew = W := ⟨_, rfl⟩
      have hd3 : Below w2.heap.size w2 W3 := by rw [← hW3]; exact (Below.refl _ _).drew
      have l2 : w.heap.size + 2 ≤ w2.heap.size := by have := HR.out.lt; omega
      have hA3 := (HT.out.1.ext Hb2.out).ext hd3
      have hR3 := HR.out.ext hd3
      have q0 : ∀ w', Turn (fun i => i = w.heap.size + 1) W3 w' → w'.cell? ⟨w.heap.size, 0, none⟩ = some (.pointer p) := fun w' t => (hA3.turn t (by omega)).c0
      have q1 : ∀ w', Turn (fun i => i = w.heap.size + 1) W3 w' → w'.cell? ⟨w.heap.size, 1, none⟩ = some (.int .i64 (es.length : Int)) := fun w' t => (hA3.turn t (by omega)).c1
      have HW3 := Lib.hid hW3
      have Hb3 := Lib.hid (Hb2.out.trans (hd3.mono Hb2.out.size))
      have HB3 := Lib.hid (HB2.out.trans (hd3.mono HB2.out.size))
      have HR3 := Lib.hid hR3
      clear hW3 hd3 hA3 hR3 HT HR HB2 Hb2 Htr HB
      go_wp2_with fail
      refine wp_region_gt (F := fun i => i = w.heap.size + 1) [(0, true), (1, true), (2, true), (3, true), (4, false), (5, false), (6, false), (7, false), (8, true)] (by kernel_rfl) (by kernel_rfl) (by kernel_rfl) (by kernel_rfl) (fun _ _ _ _ _ h => h) ?_
      rw [HW3.out]
      iterate 4 (refine wpGt_read (o := ⟨_, _, _, _, _, _⟩) (v := ?_) rfl (by rfl) ?_ ?_; rotate_left; (intro w' hw'; go_simp; with_reducible rfl); simp only [Act.put, List.setIfInBounds_toArray, List.set_cons_zero, List.set_cons_succ])
      clear q0 q1
      refine wpGt_call (o := ⟨_, _, _, _, _, _⟩) rfl (by rfl) (fun K hK => ?_)
      go_simp
      refine (Hco.out W3).mono ?_
      rintro e w3 ⟨rfl, hb3⟩
      refine hK _ _ (Turn.ofBelow hb3) ?_
      clear hK K
      obtain ⟨w4, hw4, hb4, hc4⟩ := Hcore.out w3 1 (Hb3.out.trans (hb3.mono Hb3.out.size)) HM.out
      have Hw4 := Lib.hid hw4
      have Hc4 := Lib.hid hc4
      have hb34 := hb3.trans (hb4.mono hb3.size)
      replace HB3 := Lib.hid (HB3.out.trans (hb34.mono HB3.out.size))
      replace HR3 := Lib.hid (HR3.out.ext hb34)
      have Hb4 := Lib.hid hb4
      clear Hcore hw4 hc4 hb34 hb3 hb4 Hb3
      refine wpGt_call (o := ⟨_, _, _, _, _, _⟩) rfl (by rfl) (fun K hK => ?_)
      go_simp
      rw [Hw4.out]
      refine hK _ _ (Turn.ofBelow Hb4.out) ?_
      clear hK K
      obtain ⟨N, hN⟩ : ∃ N, (rep es key [⟨key, v, []⟩]).length = N := ⟨_, rfl⟩
      have HN := Lib.hid hN
      rw [hN] at Hc4
      clear hN Hb4
      refine wpGt_call (o := ⟨_, _, _, _, _, _⟩) rfl (by rfl) (fun K hK => ?_)
      go_simp
      refine Hc4.out.mono ?_
      rintro e w5 ⟨p5, ts5, H5, rfl, ht5, hf5, hb5⟩
      refine hK _ _ (Turn.ofBelow hb5) ?_
      clear hK K Hc4
      have hR5 := HR3.out.ext hb5
      have HB5 := Lib.hid (HB3.out.trans (hb5.mono HB3.out.size))
      have f0 := hR5.fz 0
      have f1 := hR5.fz 1
      have r0 := hR5.c0
      have r1 := hR5.c1
      have HT5 := Lib.hid (ht5.turn (turn_put w5 (w.heap.size + 1) (.pointer p5) (.int .i64 (N : Int))) (TF.one hR5))
      have HP := Lib.hid (hR5.put p5 (N : Int))
      have HF5 := Lib.hid hf5
      clear hb5 hR5 ht5 hf5 HB3 HR3
      refine wpGt_call (o := ⟨_, _, _, _, _, _⟩) rfl (by rfl) (fun K hK => ?_)
      go_simp
      refine hK _ _ (turn_put _ _ _ _) ?_
      clear hK K
      (refine wpGt_read (o := ⟨_, _, _, _, _, _⟩) (v := ?_) rfl (by rfl) ?_ ?_; rotate_left; (intro w' hw'; go_simp; with_reducible rfl); simp only [Act.put, List.setIfInBounds_toArray, List.set_cons_zero, List.set_cons_succ])
      refine wpGt_done ?_
      have d0 := HP.out.c0
      have d1 := HP.out.c1
      go_wp2_with fail
      refine bodyPost_ret (v := .tuple #[.agg #[.pointer p5, .int .i64 (N : Int)], .nilIface]) (by rw [results_cell_tmp rfl]; go_simp) rfl ⟨p5, ts5, H5, by rw [HF5.out.1, HN.out, hT0.out]; rfl, HT5.out, .inr ⟨hT0.out, .inl ⟨by rw [Hes.out]; exact HF5.out.1, HF5.out.2⟩⟩, below_put HB5.out (by omega)⟩
  | true =>
    have hg1 : goneE es key = 1 := by rw [hgo, hI]; rfl
    have hT0 : Hid (tpF es key v = 0) := by show _ = _; rw [HtF.out, if_neg (fun h => by rw [hI] at h; cases h.1)]
    by_cases hsame : getE es key = v
    · have dv : ((getE es key).toList == v.toList) = true := by rw [hsame]; exact beq_self v
      have HT4 := Lib.hid (((Htr.out.ext HB.out).ext Hb2.out).turn (turn_put w2 (w.heap.size + 1) (.pointer p) (.int .i64 (es.length : Int))) (TF.one HR.out))
      have HP := Lib.hid (HR.out.put p (es.length : Int))
      have e0 := HP.out.c0
      have e1 := HP.out.c1
      have Hput : Hid (PutFr ts ts H key v) := .inr ⟨rfl, by rw [Hes.out]; exact hI, by rw [Hes.out]; exact hsame⟩
      clear Hcore hlen hgo hg1 HtF hsame
      generalize getE es key = G at *
      go_wp2_with fail
      refine bodyPost_ret (v := .tuple #[.agg #[.pointer p, .int .i64 (es.length : Int)], .nilIface]) (by rw [results_cell_tmp rfl]; go_simp) rfl ⟨p, ts, H, by rw [Hes.out, hT0.out]; rfl, HT4.out, .inr ⟨hT0.out, Hput.out⟩, below_put HB2.out (by omega)⟩
    · have dv : ((getE es key).toList == v.toList) = false := by
        cases hx : ((getE es key).toList == v.toList) with
        | false => rfl
        | true => exact absurd (beq_bytes hx) hsame
      have hM : IntKind.i64.wrap ((es.length : Int) + 0) = ((rep es key [⟨key, v, []⟩]).length : Int) := by rw [hg1] at hlen; rw [IntKind.wrap_i64]; simp at hlen; omega
      have HM := Lib.hid hM
      clear hlen hgo hg1 HtF r0 r1 f0 f1 hM hsame
      generalize getE es key = G at *
      obtain ⟨W3, hW3⟩ : ∃ W, w2.drew = W := ⟨_, rfl⟩
      have hd3 : Below w2.heap.size w2 W3 := by rw [← hW3]; exact (Below.refl _ _).drew
      have l2 : w.heap.size + 2 ≤ w2.heap.size := by have := HR.out.lt; omega
      have hA3 := (HT.out.1.ext Hb2.out).ext hd3
      have hR3 := HR.out.ext hd3
      have q0 : ∀ w', Turn (fun i => i = w.heap.size + 1) W3 w' → w'.cell? ⟨w.heap.size, 0, none⟩ = some (.pointer p) := fun w' t => (hA3.turn t (by omega)).c0
      have q1 : ∀ w', Turn (fun i => i = w.heap.size + 1) W3 w' → w'.cell? ⟨w.heap.size, 1, none⟩ = some (.int .i64 (es.length : Int)) := fun w' t => (hA3.turn t (by omega)).c1
      have HW3 := Lib.hid hW3
      have Hb3 := Lib.hid (Hb2.out.trans (hd3.mono Hb2.out.size))
      have HB3 := Lib.hid (HB2.out.trans (hd3.mono HB2.out.size))
      have HR3 := Lib.hid hR3
      clear hW3 hd3 hA3 hR3 HT HR HB2 Hb2 Htr HB
      go_wp2_with fail
      refine wp_region_gt (F := fun i => i = w.heap.size + 1) [(0, true), (1, true), (2, true), (3, true), (4, false), (5, false), (6, false), (7, false), (8, true)] (by kernel_rfl) (by kernel_rfl) (by kernel_rfl) (by kernel_rfl) (fun _ _ _ _ _ h => h) ?_
      rw [HW3.out]
      iterate 4 (refine wpGt_read (o := ⟨_, _, _, _, _, _⟩) (v := ?_) rfl (by rfl) ?_ ?_; rotate_left; (intro w' hw'; go_simp; with_reducible rfl); simp only [Act.put, List.setIfInBounds_toArray, List.set_cons_zero, List.set_cons_succ])
      clear q0 q1
      refine wpGt_call (o := ⟨_, _, _, _, _, _⟩) rfl (by rfl) (fun K hK => ?_)
      go_simp
      refine (Hco.out W3).mono ?_
      rintro e w3 ⟨rfl, hb3⟩
      refine hK _ _ (Turn.ofBelow hb3) ?_
      clear hK K
      obtain ⟨w4, hw4, hb4, hc4⟩ := Hcore.out w3 0 (Hb3.out.trans (hb3.mono Hb3.out.size)) HM.out
      have Hw4 := Lib.hid hw4
      have Hc4 := Lib.hid hc4
      have hb34 := hb3.trans (hb4.mono hb3.size)
      replace HB3 := Lib.hid (HB3.out.trans (hb34.mono HB3.out.size))
      replace HR3 := Lib.hid (HR3.out.ext hb34)
      have Hb4 := Lib.hid hb4
      clear Hcore hw4 hc4 hb34 hb3 hb4 Hb3
      refine wpGt_call (o := ⟨_, _, _, _, _, _⟩) rfl (by rfl) (fun K hK => ?_)
      go_simp
      rw [Hw4.out]
      refine hK _ _ (Turn.ofBelow Hb4.out) ?_
      clear hK K
      obtain ⟨N, hN⟩ : ∃ N, (rep es key [⟨key, v, []⟩]).length = N := ⟨_, rfl⟩
      have HN := Lib.hid hN
      rw [hN] at Hc4
      clear hN Hb4
      refine wpGt_call (o := ⟨_, _, _, _, _, _⟩) rfl (by rfl) (fun K hK => ?_)
      go_simp
      refine Hc4.out.mono ?_
      rintro e w5 ⟨p5, ts5, H5, rfl, ht5, hf5, hb5⟩
      refine hK _ _ (Turn.ofBelow hb5) ?_
      clear hK K Hc4
      have hR5 := HR3.out.ext hb5
      have HB5 := Lib.hid (HB3.out.trans (hb5.mono HB3.out.size))
      have f0 := hR5.fz 0
      have f1 := hR5.fz 1
      have r0 := hR5.c0
      have r1 := hR5.c1
      have HT5 := Lib.hid (ht5.turn (turn_put w5 (w.heap.size + 1) (.pointer p5) (.int .i64 (N : Int))) (TF.one hR5))
      have HP := Lib.hid (hR5.put p5 (N : Int))
      have HF5 := Lib.hid hf5
      clear hb5 hR5 ht5 hf5 HB3 HR3
      refine wpGt_call (o := ⟨_, _, _, _, _, _⟩) rfl (by rfl) (fun K hK => ?_)
      go_simp
      refine hK _ _ (turn_put _ _ _ _) ?_
      clear hK K
      (refine wpGt_read (o := ⟨_, _, _, _, _, _⟩) (v := ?_) rfl (by rfl) ?_ ?_; rotate_left; (intro w' hw'; go_simp; with_reducible rfl); simp only [Act.put, List.setIfInBounds_toArray, List.set_cons_zero, List.set_cons_succ])
      refine wpGt_done ?_
      have d0 := HP.out.c0
      have d1 := HP.out.c1
      go_wp2_with fail
      refine bodyPost_ret (v := .tuple #[.agg #[.pointer p5, .int .i64 (N : Int)], .nilIface]) (by rw [results_cell_tmp rfl]; go_simp) rfl ⟨p5, ts5, H5, by rw [HF5.out.1, HN.out, hT0.out]; rfl, HT5.out, .inr ⟨hT0.out, .inl ⟨by rw [Hes.out]; exact HF5.out.1, HF5.out.2⟩⟩, below_put HB5.out (by omega)⟩
theorem put_allT (p : Option Addr) (ts : List Tr) (H : Nat) (key v : ByteArray) (w : World) (ht : TreeT w p ts H) (hl : (esL ts).length ≤ 4096) :
    Calls Tryz.prog 29 #[.agg #[.pointer p, .int .i64 (esL ts).length], .string key, .string v] w fun e w' => ∃ p' ts' H', e = .returned (.tuple #[.agg #[.pointer p', .int .i64 ((esL ts').length : Nat)], errC (tpF (esL ts) key v : Nat)]) ∧ TreeT w' p' ts' H' ∧
      ((tpF (esL ts) key v ≠ 0 ∧ ts' = []) ∨ (tpF (esL ts) key v = 0 ∧ PutFr ts ts' H' key v)) ∧ Below w.heap.size w w' := by
  by_cases hk : okK key = false ∨ 2048 < v.size
  · refine (put_no p (esL ts).length (esL ts) key v w hk).mono ?_
    rintro e w' ⟨rfl, hb⟩
    have : tpF (esL ts) key v ≠ 0 := by
      unfold tpF
      rcases hk with hk | hk
      · rw [if_pos hk]; decide
      · by_cases hk1 : okK key = false
        · rw [if_pos hk1]; decide
        · rw [if_neg hk1, if_pos hk]; decide
    exact ⟨none, [], 0, rfl, TreeT.none _, .inl ⟨this, rfl⟩, hb⟩
  · have hk1 : okK key = true := by simpa using fun h => hk (.inl h)
    have hv1 : v.size ≤ 2048 := by
      rcases Nat.lt_or_ge 2048 v.size with h | h
      · exact absurd (.inr h) hk
      · exact h
    exact put_yesT p ts H key v w ht hl hk1 hv1
end Go.Proofs.YtdgladhfibfdlaaGreatDoor
namespace Go.Proofs.YtdgladhfibfdlaaGreatDoor
open Go Go.RowKit
theorem results_cell_two {fn : Func} {p u x : Tmp} {ty : TypeId} (h : fn.results = #[.cell p ty, .tmp u, .tmp x]) (tmps : Array Value) (P : Program) (w : World) :
    (results fn tmps).run P w =
      ((asAddr (tmps.getD p undef)).run P w).andThen fun a w₁ => ((loadVar ty a).run P w₁).andThen fun v w₂ => .ok (.tuple #[v, tmps.getD u undef, tmps.getD x undef]) w₂ := by
  simp only [results, h]
  simp [Sem.run_bind, Result.andThen]
theorem infoU8 : (Tryz.prog.info? 5).map (fun i => (i.zero, i.size, i.bytes)) = some (some (.int .u8 0), 1, 1) := by kernel_rfl
def strLen : Value → Nat | .string s => s.size | _ => 0
theorem app_size (a b : ByteArray) : (a ++ b).size = a.size + b.size := by simp
theorem tp_ok {es : List En} {key v : ByteArray} (hk : okK key = true) (hv : v.size ≤ 2048) (hl : es.length < 4096) : tpF es key v = 0 ∧ tpL es key v = rep es key [⟨key, v, []⟩] := by
  have : tpF es key v = 0 := by unfold tpF; rw [if_neg (by rw [hk]; decide), if_neg (by omega), if_neg (fun h => by omega)]
  exact ⟨this, by unfold tpL; rw [this]; rfl⟩
theorem tpL_len (es : List En) (key v : ByteArray) : (tpL es key v).length ≤ es.length + 1 := by
  unfold tpL
  split
  · have := rep_len es key [⟨key, v, []⟩]
    simp at this; omega
  · simp
def NewP (w : World) (p : Option Addr) (es : List En) (H : Nat) : Prop := ∃ ts, TreeT w p ts H ∧ esL ts = es ∧ (∀ e ∈ es, e.ch = [] ∧ e.v.size ≤ 89) ∧ ∀ q, (pgsL ts).count q = 0
theorem NewP.none (w : World) : NewP w Option.none [] 0 := ⟨[], TreeT.none w, rfl, fun e he => (by cases he), fun q => rfl⟩
theorem NewP.ext {w w' : World} {p : Option Addr} {es : List En} {H : Nat} (h : NewP w p es H) (hb : Below w.heap.size w w') : NewP w' p es H := by
  obtain ⟨ts, h1, h2⟩ := h
  exact ⟨ts, h1.ext hb, h2⟩
theorem NewP.turn {w w' : World} {F : Nat → Prop} {p : Option Addr} {es : List En} {H : Nat} (h : NewP w p es H) (t : Turn F w w') (hF : TF w F) : NewP w' p es H := by
  obtain ⟨ts, h1, h2⟩ := h
  exact ⟨ts, h1.turn t hF, h2⟩
theorem put_new (p : Option Addr) (es : List En) (H : Nat) (key v : ByteArray) (w : World) (h : NewP w p es H) (hl : es.length ≤ 4096) (hv : v.size ≤ 89) :
    Calls Tryz.prog 29 #[.agg #[.pointer p, .int .i64 es.length], .string key, .string v] w fun e w' => ∃ p' H', e = .returned (.tuple #[.agg #[.pointer p', .int .i64 ((tpL es key v).length : Nat)], errC (tpF es key v : Nat)]) ∧ NewP w' p' (tpL es key v) H' ∧ Below w.heap.size w w' := by
  obtain ⟨ts, h1, rfl, h2, h3⟩ := h
  refine (put_allT p ts H key v w h1 hl).mono ?_
  rintro e w' ⟨p', ts', H', rfl, h4, h5, hb⟩
  rcases h5 with ⟨h5, rfl⟩ | ⟨h5, h6⟩
  · have e1 : tpL (esL ts) key v = [] := by unfold tpL; rw [if_neg h5]
    rw [e1]
    exact ⟨p', H', rfl, ⟨[], h4, rfl, fun e he => (by cases he), fun q => rfl⟩, hb⟩
  · have e1 : tpL (esL ts) key v = rep (esL ts) key [⟨key, v, []⟩] := by unfold tpL; rw [if_pos h5]
    have hch : ∀ e ∈ rep (esL ts) key [⟨key, v, []⟩], e.ch = [] ∧ e.v.size ≤ 89 := fun e he => by
      unfold rep at he
      rcases List.mem_append.1 he with he | he
      · exact h2 e (List.mem_of_mem_take he)
      · rcases List.mem_append.1 he with he | he
        · rw [List.mem_singleton.1 he]; exact ⟨rfl, hv⟩
        · exact h2 e (List.mem_of_mem_drop he)
    have e2 : esL ts' = rep (esL ts) key [⟨key, v, []⟩] := by
      rcases h6 with ⟨h7, _⟩ | ⟨rfl, h7, h8⟩
      · exact h7
      · exact (rep_same (bare_own (fun e he => (h2 e he).1)) h7 h8).symm
    rw [e1, ← e2]
    exact ⟨p', H', rfl, ⟨ts', h4, rfl, by rw [e2]; exact hch, fun q => by
      have h9 := h6.fr.pg q
      have h10 := h3 q
      omega⟩, hb⟩
structure Gr (w wr : World) (lv : Value) (k : Nat) (es : List En) (p : Option Addr) (H : Nat) : Prop where
  l : EV entE wr lv es
  t : TB wr (w.heap.size + 1) p es.length
  r : TB wr w.heap.size none 0
  tr : NewP wr p es H
  n : es.length ≤ k
  b : Below w.heap.size w wr
  g0 : ∀ {w'}, Below w.heap.size w w' → Hg w'
theorem Gr.next {w wr : World} {lv : Value} {k : Nat} {es es2 : List En} {p p2 : Option Addr} {H H2 : Nat} (h : Gr w wr lv k es p H) {w6 : World} {u : Value} (hb : Below wr.heap.size wr w6) (hu : EV entE w6 u es2) (ht : NewP w6 p2 es2 H2) (hn : es2.length ≤ k + 1) :
    Gr w ((w6.setCell ⟨w.heap.size + 1, 0, none⟩ (.pointer p2)).setCell ⟨w.heap.size + 1, 1, none⟩ (.int .i64 es2.length)) u (k + 1) es2 p2 H2 := by
  have t6 := h.t.ext hb
  have t := turn_put w6 (w.heap.size + 1) (.pointer p2) (.int .i64 es2.length)
  have hF : TF w6 (fun i => i = w.heap.size + 1) := TF.one t6
  have hbw := h.b.trans (hb.mono h.b.size)
  have hfin := below_put (b := w.heap.size + 1) (u := .pointer p2) (v := .int .i64 es2.length) hbw (by omega)
  exact ⟨hu.turn entE_str t hF, t6.put p2 _, (h.r.ext hb).turn t (by omega), ht.turn t hF, hn, hfin, fun h2 => h.g0 h2⟩
set_option maxRecDepth 100000 in
theorem grown_any (n seed : Nat) (w : World) (hn : n ≤ 200) (hsd : seed ≤ 65535) (hg : Hg w) :
    Calls Tryz.prog 9 #[.int .i64 n, .int .i64 seed] w fun e w' => ∃ p H es l, e = .returned (.tuple #[.agg #[.pointer p, .int .i64 es.length], l, .bool true]) ∧ NewP w' p es H ∧ EV entE w' l es ∧ es.length ≤ n ∧ Below w.heap.size w w' := by
  obtain ⟨W, hW, hT1, hT2, hb⟩ : ∃ W, (w.alloc (.cells #[.pointer none, .int .i64 0] TT)).alloc (.cells #[.pointer none, .int .i64 0] TT) = W ∧ TB W w.heap.size none 0 ∧ TB W (w.heap.size + 1) none 0 ∧ Below w.heap.size w W := two_own w none 0
  have HW := Lib.hid hW
  have Hgr : Hid (Gr w W nilS 0 [] none 0) := ⟨EV.none _, hT2, hT1, NewP.none _, by simp, hb, fun h => hg.below h⟩
  have Hn := Lib.hid hn
  clear hW hT1 hT2 hb hg
  go_enter Tryz.func9, Tryz.ntmps9
  go_wp2_with fail
  rw [HW.out]
  go_loopw [7, 9, 10, 11, 12, 13, 14, 15, 16] (fun lv i _ _ _ _ _ _ _ wr => ∃ (k : Nat) (es : List En) (p : Option Addr) (H : Nat) (v : Value), v = lv ∧ i = .int .i64 k ∧ k ≤ n ∧ Hid (Gr w wr v k es p H)) (fun _ i _ _ _ _ _ _ _ _ => n - (intOf i).toNat)
  case atStart => exact ⟨0, [], none, 0, nilS, rfl, rfl, by omega, Hgr⟩
  case round =>
    obtain ⟨k, es, p, H, v, rfl, rfl, hk, hgr⟩ := hrel
    by_cases hlt : k < n
    · obtain ⟨X, hX⟩ : ∃ X, X = k * 37 + seed := ⟨_, rfl⟩
      have eX : (k : Int) * 37 + (seed : Int) = (X : Int) := by omega
      obtain ⟨K, hK⟩ : ∃ K, K = X % 4001 := ⟨_, rfl⟩
      have eK : (X : Int).tmod 4001 = (K : Int) := by rw [Int.tmod_eq_emod_of_nonneg (by omega)]; omega
      have hK9 : K ≤ 4000 := by omega
      have hX9 : X ≤ 80000 := by omega
      obtain ⟨Q, hQ⟩ : ∃ Q, Q = K / 256 := ⟨_, rfl⟩
      have eQ : (K : Int).tdiv 256 = (Q : Int) := by rw [Int.tdiv_eq_ediv_of_nonneg (by omega)]; omega
      have hQ9 : Q ≤ 15 := by omega
      have wQ : IntKind.u8.wrap (Q : Int) = (Q : Int) := by rw [IntKind.wrap_u8]; omega
      obtain ⟨B1, hB1⟩ : ∃ B1, B1 = K % 256 := ⟨_, rfl⟩
      have wB1 : IntKind.u8.wrap (K : Int) = (B1 : Int) := by rw [IntKind.wrap_u8]; omega
      obtain ⟨B2, hB2⟩ : ∃ B2, B2 = k % 3 := ⟨_, rfl⟩
      have eB2 : (k : Int).tmod 3 = (B2 : Int) := by rw [Int.tmod_eq_emod_of_nonneg (by omega)]; omega
      have wB2 : IntKind.u8.wrap (B2 : Int) = (B2 : Int) := by rw [IntKind.wrap_u8]; omega
      obtain ⟨M, hM⟩ : ∃ M, M = K % 30 := ⟨_, rfl⟩
      have eM : (K : Int).tmod 30 = (M : Int) := by rw [Int.tmod_eq_emod_of_nonneg (by omega)]; omega
      have hM9 : M ≤ 29 := by omega
      obtain ⟨Y, hY⟩ : ∃ Y, Y = K * 7 + seed := ⟨_, rfl⟩
      have eY : (K : Int) * 7 + (seed : Int) = (Y : Int) := by omega
      obtain ⟨V, hV⟩ : ∃ V, V = Y % 90 := ⟨_, rfl⟩
      have eV : (Y : Int).tmod 90 = (V : Int) := by rw [Int.tmod_eq_emod_of_nonneg (by omega)]; omega
      have hV9 : V ≤ 89 := by omega
      have hY9 : Y ≤ 100000 := by omega
      -- the key's first bytes
      have hsrc3 : Src (wr.alloc (.cells #[.int .u8 (Q : Int), .int .u8 (B1 : Int), .int .u8 (B2 : Int)] 5)) (some ⟨wr.heap.size, 0, none⟩) [Q, B1, B2] := (src_new wr 5 (0, 0) [Q, B1, B2]).src
      have hcv := conv_src (P := Tryz.prog) 48 5 9 Tryz.underlying48 Tryz.underlying5 Tryz.underlying9 (some ⟨wr.heap.size, 0, none⟩) 3 3 [Q, B1, B2] rfl _ hsrc3
      have hxs := bstr_size [Q, B1, B2]
      generalize bstr [Q, B1, B2] = x3 at *
      obtain ⟨y4, hy4⟩ : ∃ y4, (⟨#[107]⟩ : ByteArray) ++ x3 = y4 := ⟨_, rfl⟩
      have hys : y4.size = 4 := by rw [← hy4, app_size, hxs]; rfl
      have hno : ¬ (9223372036854775807 < 1 + x3.size) := by rw [hxs]; simp
      have Hys := Lib.hid hys
      obtain ⟨W1, hW1⟩ : ∃ W1, wr.alloc (.cells #[.int .u8 (Q : Int), .int .u8 (B1 : Int), .int .u8 (B2 : Int)] 5) = W1 := ⟨_, rfl⟩
      have HW1 := Lib.hid hW1
      have hb1 : Below wr.heap.size wr W1 := by rw [← hW1]; exact (Below.refl _ _).alloc (Nat.le_refl _) _
      have Hb1 := Lib.hid hb1
      clear hX hK hQ hB1 hB2 hM hY hV hsrc3 hxs hys hW1 hb1
      go_wp2_with fail
      rw [HW1.out]
      go_loopw [11] (fun s wr2 => ∃ y : ByteArray, s = .string y ∧ 4 ≤ y.size ∧ y.size ≤ 33 ∧ W1 = wr2) (fun s _ => 40 - strLen s)
      case atStart => exact ⟨y4, rfl, by rw [Hys.out]; exact Nat.le_refl _, by rw [Hys.out]; omega, by first | trivial | rfl⟩
      case round =>
        obtain ⟨y, rfl, hy1, hy2, rfl⟩ := hrel
        by_cases hys : y.size < 4 + M
        · obtain ⟨y', hy'⟩ : ∃ y', y ++ (⟨#[46]⟩ : ByteArray) = y' := ⟨_, rfl⟩
          have hsz : Hid (y'.size = y.size + 1) := by show _ = _; rw [← hy', app_size]; rfl
          have hno2 : ¬ (9223372036854775807 < y.size + 1) := by omega
          have d5 : (y.size : Int) < 4 + (M : Int) := by omega
          go_wp2
          go_roundw
          case rel => exact ⟨y', rfl, by rw [hsz.out]; omega, by rw [hsz.out]; omega, by first | trivial | rfl⟩
          case measure => have := hsz.out; simp [strLen]; omega
        · have d5 : ¬ (y.size : Int) < 4 + (M : Int) := by omega
          obtain ⟨W2, hmk, hrow, hb2⟩ := run_make_bytes (P := Tryz.prog) W1 48 5 Tryz.underlying48 infoU8 .i64 .i64 V (by omega)
          have hcv2 := conv_src (P := Tryz.prog) 48 5 9 Tryz.underlying48 Tryz.underlying5 Tryz.underlying9 (some ⟨W1.heap.size, 0, none⟩) V V (List.replicate V 0) (by simp) W2 (row_src hrow)
          have hz9 : (bstr (List.replicate V 0)).size ≤ 89 := by rw [bstr_size]; simp; omega
          have hzs : (bstr (List.replicate V 0)).size ≤ 2048 := by omega
          generalize bstr (List.replicate V 0) = z at *
          have hbw2 := Hb1.out.trans (hb2.mono Hb1.out.size)
          have hG := hgr.out
          have t2 := hG.t.ext hbw2
          have c0 := t2.c0
          have c1 := t2.c1
          have Hput := Lib.hid (put_new p es H y z W2 (hG.tr.ext hbw2) (by have := hG.n; have := Hn.out; omega) hz9)
          have hkey : okK y = true := by unfold okK; simp; omega
          have htp := tp_ok (es := es) hkey hzs (by have := hG.n; have := Hn.out; omega)
          have hle := tpL_len es y z
          rw [htp.1] at Hput
          have Htl := Lib.hid hle
          have Hbw2 := Lib.hid hbw2
          obtain ⟨N, hN⟩ : ∃ N, (tpL es y z).length = N := ⟨_, rfl⟩
          have HNN := Lib.hid hN
          rw [hN] at Hput
          have hl5 : es.length ≤ 4096 := by have := hG.n; have := Hn.out; omega
          have Href : Hid (∀ (a : Option Addr) (c : Nat) (w4 : World), ES entE w4 a es → (a = none → c = 0) → es.length ≤ c → c ≤ maxLen → Calls Tryz.prog 30 #[.slice a es.length c, .string y, .string z] w4 fun e w' => ∃ u, e = .returned (.tuple #[u, .int .i64 0]) ∧ EV entE w' u (tpL es y z) ∧ Below w4.heap.size w4 w') := fun a c w4 h1 h2 h3 h4 => by
            have := refPut_all a es.length c es y z w4 rfl h1 (by omega) h2 h3 h4
            rw [htp.1] at this; exact this
          obtain ⟨a0, c9, rfl, s0, z0, n0, m0⟩ := hG.l
          have HS := Lib.hid (And.intro s0 (And.intro z0 (And.intro n0 m0)))
          clear hrow hb2 hzs hz9 hbw2 hG t2 hkey htp hle hN s0 z0 n0 m0 hys hy1 hy2
          go_wp2_with fail
          refine Hput.out.mono ?_
          rintro e w3 ⟨p3, H3, rfl, ht3, hb3⟩
          rw [show errC ((0 : Nat) : Int) = .nilIface from rfl]
          have hb03 := Hbw2.out.trans (hb3.mono Hbw2.out.size)
          obtain ⟨w4, hw4, hT4, hb4⟩ := alloc_own w3 TT #[.pointer p3, .int .i64 (N : Int)]
          have hb04 := hb03.trans (hb4.mono hb03.size)
          have Hw4 := Lib.hid hw4
          have HT4 := Lib.hid hT4
          have Ht3 := Lib.hid (ht3.ext hb4)
          have Hb04 := Lib.hid hb04
          have Href4 := Lib.hid (Href.out a0 c9 w4 (HS.out.1.below hb04 (Nat.le_refl _)) HS.out.2.1 HS.out.2.2.1 HS.out.2.2.2)
          have Hl3 := Lib.hid (Array.getElem?_eq_some_iff.1 hT4).1
          clear ht3 hb3 hb03 hw4 hT4 hb4 hb04 Hput Href c0 c1 hcv2 hmk
          go_wp2_with fail
          rw [Hw4.out]
          refine Href4.out.mono ?_
          rintro e w5 ⟨u, rfl, ⟨a5, c5, rfl, s5⟩, hb5⟩
          have hb05 := Hb04.out.trans (hb5.mono Hb04.out.size)
          have Hnum := Lib.hid (num_nil w5)
          have Hb05 := Lib.hid hb05
          have HS5 := Lib.hid s5
          have HT5 : Hid (TB w5 w3.heap.size p3 (N : Int)) := TB.ext (w := w4) HT4.out hb5
          have Ht5 := Lib.hid (Ht3.out.ext hb5)
          rw [HNN.out]
          clear s5 hb5 hb05 Href4 HT4 Ht3
          go_wp2_with fail
          refine Hnum.out.mono ?_
          rintro e w6 ⟨rfl, hb6⟩
          have hb06 := Hb05.out.trans (hb6.mono Hb05.out.size)
          have t6 := HT5.out.ext hb6
          have c0 := t6.c0
          have c1 := t6.c1
          have hG := hgr.out
          have f0 := (hG.t.ext hb06).fz 0
          have f1 := (hG.t.ext hb06).fz 1
          have g0 := (hG.t.ext hb06).c0
          have g1 := (hG.t.ext hb06).c1
          have hev : EV entE w6 (.slice a5 N c5) (tpL es y z) := ⟨a5, c5, by rw [HNN.out], HS5.out.1.below hb6 (Nat.le_refl _), HS5.out.2⟩
          have hfin := hG.next (es2 := tpL es y z) (p2 := p3) (H2 := H3) hb06 hev (Ht5.out.ext hb6) (by have := Htl.out; have := hG.n; omega)
          rw [HNN.out] at hfin
          have Hfin := Lib.hid hfin
          clear hb6 hb06 t6 hG hev hfin Hnum HS5 Ht5 HT5
          go_wp2_with fail
          go_roundw
          case rel => exact ⟨k + 1, tpL es y z, p3, H3, _, rfl, by go_num, by omega, Hfin⟩
          case measure => simp [intOf]; omega
    · have hG := hgr.out
      have c0 := hG.t.c0
      have c1 := hG.t.c1
      have r0 := hG.r.c0
      have r1 := hG.r.c1
      have f0 := hG.r.fz 0
      have f1 := hG.r.fz 1
      have t := turn_put wr w.heap.size (.pointer p) (.int .i64 es.length)
      have HT := Lib.hid (hG.tr.turn t (TF.one hG.r))
      have HE := Lib.hid (hG.l.turn entE_str t (TF.one hG.r))
      have HP := Lib.hid (hG.r.put p (es.length : Int))
      have d0 := HP.out.c0
      have d1 := HP.out.c1
      have Hb := Lib.hid (below_put (b := w.heap.size) (u := .pointer p) (v := .int .i64 es.length) hG.b (Nat.le_refl _))
      have Hnn := Lib.hid hG.n
      obtain ⟨a0, c9, rfl, _⟩ := hG.l
      clear hG t hgr
      go_wp2_with fail
      refine bodyPost_ret (v := .tuple #[.agg #[.pointer p, .int .i64 (es.length : Int)], .slice a0 es.length c9, .bool true]) (by rw [results_cell_two rfl]; go_simp) rfl ⟨p, H, es, _, rfl, HT.out, HE.out, by have := Hnn.out; omega, Hb.out⟩
end Go.Proofs.YtdgladhfibfdlaaGreatDoor
