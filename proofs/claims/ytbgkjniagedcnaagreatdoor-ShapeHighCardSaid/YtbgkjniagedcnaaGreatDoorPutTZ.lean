/-
  tree's Put, Delete.
  tree's Delete.
-/
import Derived.Test.YtbgkjniagedcnaaGreatDoorCellOfZ
import Derived.Test.YtbgkjniagedcnaaGreatDoorRefTreeZ
import Derived.Test.YtbgkjniagedcnaaGreatDoorKeysChkZ
namespace Go.Proofs.YtbgkjniagedcnaaGreatDoor
open Go Go.RowKit

theorem errC_7 : errC 7 = .iface 69 (.int .i64 7) := rfl
theorem rep_same {es : List En} {key v : ByteArray} (hs : bare es = es) (h : isE es key = true) (hv : getE es key = v) : rep es key [⟨key, v, []⟩] = es := by
  have h1 := isE_eq es key
  rw [h] at h1
  have h2 := h1.symm
  rw [Bool.and_eq_true, decide_eq_true_iff] at h2
  have h3 : getE es key = (ea es (fE es key)).v := by unfold getE; rw [if_pos h]
  have h4 : goneE es key = 1 := by unfold goneE; rw [if_pos h]
  have h5 : ea es (fE es key) = ⟨key, v, []⟩ := by
    have e1 := beq_bytes h2.2
    have e2 : (ea es (fE es key)).v = v := h3.symm.trans hv
    have e3 : (ea es (fE es key)).ch = [] := by
      conv => lhs; rw [← hs]
      rw [ea_bare]; rfl
    cases hx : ea es (fE es key) with
    | mk k' v' c' => rw [hx] at e1 e2 e3; simp only at e1 e2 e3; rw [e1, e2, e3]
  unfold rep
  rw [h4, ← h5]
  conv => rhs; rw [← List.take_append_drop (fE es key) es, ea_drop es _ h2.1]
  rfl
/-- The two blocks that Put and Delete make. -/
theorem two_own (w : World) (p : Option Addr) (n : Int) : ∃ W, (w.alloc (.cells #[.pointer p, .int .i64 n] TT)).alloc (.cells #[.pointer none, .int .i64 0] TT) = W ∧ TB W w.heap.size p n ∧ TB W (w.heap.size + 1) none 0 ∧ Below w.heap.size w W := by
  obtain ⟨W1, hW1, hT1, hb1⟩ := alloc_own w TT #[.pointer p, .int .i64 n]
  obtain ⟨W2, hW2, hT2, hb2⟩ := alloc_own W1 TT #[.pointer none, .int .i64 0]
  have hs1 : W1.heap.size = w.heap.size + 1 := by rw [← hW1]; simp
  exact ⟨W2, by rw [hW1, hW2], TB.ext (w := W1) hT1 hb2, by rw [← hs1]; exact hT2, hb1.trans (hb2.mono hb1.size)⟩
set_option maxRecDepth 100000 in
theorem put_no (p : Option Addr) (n : Int) (es : List En) (key v : ByteArray) (w : World) (h : okK key = false ∨ 2048 < v.size) :
    Calls Tryz.prog 18 #[.agg #[.pointer p, .int .i64 n], .string key, .string v] w fun e w' => e = .returned (.tuple #[.agg #[.pointer none, .int .i64 0], errC (tpF es key v : Nat)]) ∧ Below w.heap.size w w' := by
  have hch := fun w => check_any key w
  by_cases hk : okK key = false
  · have ht : Hid (tpF es key v = 1) := by show _ = _; unfold tpF; rw [if_pos hk]
    have hv : chkV key = .iface 69 (.int .i64 1) := by unfold chkV; rw [hk]; rfl
    rw [hv] at hch
    have Hch := Lib.hid hch
    rw [show errC ((tpF es key v : Nat) : Int) = .iface 69 (.int .i64 1) by rw [ht.out]; rfl]
    clear hch hv hk h
    go_enter Tryz.func18, Tryz.ntmps18
    go_wp2_with fail
    refine (Hch.out _).mono ?_
    rintro e w' ⟨rfl, rfl⟩
    go_wp2_with fail
    refine bodyPost_ret (v := .tuple #[.agg #[.pointer none, .int .i64 0], .iface 69 (.int .i64 1)]) (by rw [results_cell_tmp rfl]; go_simp) rfl ⟨rfl, ?_⟩
    exact ((Below.refl _ _).alloc (Nat.le_refl _) _).alloc (by simp) _
  · have hv2 : 2048 < v.size := by rcases h with h | h; exact absurd h hk; exact h
    have ht : Hid (tpF es key v = 5) := by show _ = _; unfold tpF; rw [if_neg hk, if_pos hv2]
    have hk1 : okK key = true := by simpa using hk
    have hv : chkV key = .nilIface := by unfold chkV; rw [hk1]; rfl
    rw [hv] at hch
    have Hch := Lib.hid hch
    rw [show errC ((tpF es key v : Nat) : Int) = .iface 69 (.int .i64 5) by rw [ht.out]; rfl]
    have d3 : decide (2048 < (v.size : Int)) = true := decide_eq_true (by omega)
    clear hch hv hk hk1 h hv2
    go_enter Tryz.func18, Tryz.ntmps18
    go_wp2_with fail
    refine (Hch.out _).mono ?_
    rintro e w' ⟨rfl, rfl⟩
    go_wp2_with fail
    refine bodyPost_ret (v := .tuple #[.agg #[.pointer none, .int .i64 0], .iface 69 (.int .i64 5)]) (by rw [results_cell_tmp rfl]; go_simp) rfl ⟨rfl, ?_⟩
    exact ((Below.refl _ _).alloc (Nat.le_refl _) _).alloc (by simp) _
/-- What Put makes of a tree: the same one, or one with the entry, which lies nowhere yet. -/
def PutFr (ts ts' : List Tr) (H' : Nat) (key v : ByteArray) : Prop :=
  (esL ts' = rep (esL ts) key [⟨key, v, []⟩] ∧ Fr ts ts' (2 * H')) ∨ (ts' = ts ∧ isE (esL ts) key = true ∧ getE (esL ts) key = v)
theorem PutFr.ste {ts ts' : List Tr} {H' : Nat} {key v : ByteArray} (h : PutFr ts ts' H' key v) : bare (esL ts') = rep (bare (esL ts)) key [⟨key, v, []⟩] := by
  rcases h with ⟨h, _⟩ | ⟨rfl, h1, h2⟩
  · rw [h, rep_bare]; rfl
  · exact (rep_same (bare_bare _) (by rw [(fE_bare _ _).2]; exact h1) (by rw [getE_bare]; exact h2)).symm
theorem PutFr.len {ts ts' : List Tr} {H' : Nat} {key v : ByteArray} (h : PutFr ts ts' H' key v) : (esL ts').length = (rep (esL ts) key [⟨key, v, []⟩]).length := by
  have h1 := congrArg List.length h.ste
  rw [bare_len] at h1
  have h2 := rep_len (bare (esL ts)) key [⟨key, v, []⟩]
  have h3 := rep_len (esL ts) key [⟨key, v, []⟩]
  unfold goneE at h2 h3
  rw [(fE_bare _ _).2, bare_len] at h2
  omega
theorem PutFr.fr {ts ts' : List Tr} {H' : Nat} {key v : ByteArray} (h : PutFr ts ts' H' key v) : Fr ts ts' (2 * H') := by
  rcases h with ⟨_, h⟩ | ⟨rfl, _⟩
  · exact h
  · exact (Fr.refl _).mono (by omega)
theorem tpF_bare (es : List En) (key v : ByteArray) : tpF (bare es) key v = tpF es key v := by
  unfold tpF; rw [(fE_bare es key).2, bare_len]
theorem tpL_bare (es : List En) (key v : ByteArray) (h : tpF es key v = 0) : tpL (bare es) key v = rep (bare es) key [⟨key, v, []⟩] := by
  unfold tpL; rw [tpF_bare, if_pos h]
set_option maxRecDepth 100000 in
theorem put_yesT (p : Option Addr) (ts : List Tr) (H : Nat) (key v : ByteArray) (w : World) (ht : TreeT w p ts H) (hl : (esL ts).length ≤ 4096) (hk : okK key = true) (hv : v.size ≤ 2048) :
    Calls Tryz.prog 18 #[.agg #[.pointer p, .int .i64 (esL ts).length], .string key, .string v] w fun e w' => ∃ p' ts' H', e = .returned (.tuple #[.agg #[.pointer p', .int .i64 ((esL ts').length : Nat)], errC (tpF (esL ts) key v : Nat)]) ∧ TreeT w' p' ts' H' ∧
      ((tpF (esL ts) key v ≠ 0 ∧ ts' = []) ∨ (tpF (esL ts) key v = 0 ∧ PutFr ts ts' H' key v)) ∧ Below w.heap.size w w' := by
  have hch := fun w => check_any key w
  rw [show chkV key = .nilIface by unfold chkV; rw [hk]; rfl] at hch
  have Hch := Lib.hid hch
  have d3 : decide (2048 < (v.size : Int)) = false := decide_eq_false (by omega)
  obtain ⟨es, hes⟩ : ∃ es, esL ts = es := ⟨_, rfl⟩
  have Hes := Lib.hid hes
  rw [hes] at hl ⊢
  obtain ⟨W, hW, hT1, hT2, hb⟩ := two_own w p es.length
  have hq := (ht.ext hb).tq
  rw [hes] at hq
  have Hget := Lib.hid (getQ_any p es.length es H key W hq)
  have HW := Lib.hid hW
  have HT := Lib.hid (And.intro hT1 hT2)
  have HB := Lib.hid hb
  have Htr := Lib.hid ht
  have HtF : Hid (tpF es key v = if isE es key = false ∧ 4096 ≤ es.length then 7 else 0) := by
    show _ = _; unfold tpF; rw [if_neg (by rw [hk]; decide), if_neg (by omega)]
  have hlen := rep_len es key [⟨key, v, []⟩]
  have hgo : goneE es key = if isE es key = true then 1 else 0 := rfl
  have hcore : ∀ (w3 : World) (m : Int), Below W.heap.size W w3 → IntKind.i64.wrap ((es.length : Int) + m) = ((rep es key [⟨key, v, []⟩]).length : Int) →
      ∃ w4, w3.alloc (.cells #[.string key, .string v, nilS] TCT) = w4 ∧ Below w3.heap.size w3 w4 ∧ Calls Tryz.prog 34 #[.agg #[.pointer p, .int .i64 es.length], .int .i64 m, .string key, .slice (some ⟨w3.heap.size, 0, none⟩) 1 1] w4 (fun e w' => ∃ p' ts' H', e = .returned (.agg #[.pointer p', .int .i64 ((rep es key [⟨key, v, []⟩]).length : Nat)]) ∧
        TreeT w' p' ts' H' ∧ (esL ts' = rep es key [⟨key, v, []⟩] ∧ Fr ts ts' (2 * H')) ∧ Below w4.heap.size w4 w') := fun w3 m h2 hm => by
    have h3 : Below w3.heap.size w3 (w3.alloc (.cells #[.string key, .string v, nilS] TCT)) := (Below.refl _ _).alloc (Nat.le_refl _) _
    have h23 := h2.trans (h3.mono h2.size)
    have hw3 := hb.trans (h23.mono hb.size)
    refine ⟨_, rfl, h3, ?_⟩
    have := change_core p ts es.length m _ key _ 1 1 [⟨key, v, []⟩] _ (.inr ⟨v, rfl⟩) (fun x hx => by
      simp only [List.mem_singleton] at hx; subst hx; exact ⟨hk, hv⟩) rfl (fun h => by cases h) (cell_lit w3 key v) H (ht.ext hw3) hm
    rw [hes] at this
    exact this
  have Hcore := Lib.hid hcore
  have Hco := Lib.hid (fun w => cellOf_any key v w)
  clear hch hW hT1 hT2 hb ht hk hv hcore hq hes
  go_enter Tryz.func18, Tryz.ntmps18
  go_wp2_with fail
  refine (Hch.out _).mono ?_
  rintro e w' ⟨rfl, rfl⟩
  clear Hch
  go_wp2_with fail
  rw [HW.out]
  refine Hget.out.mono ?_
  rintro e w2 ⟨rfl, hb2⟩
  clear Hget
  have a0 := (HT.out.1.ext hb2).c0
  have a1 := (HT.out.1.ext hb2).c1
  have hR := HT.out.2.ext hb2
  have r0 := hR.c0
  have r1 := hR.c1
  have f0 := hR.fz 0
  have f1 := hR.fz 1
  have HR := Lib.hid hR
  have HB2 := Lib.hid (HB.out.trans (hb2.mono HB.out.size))
  have Hb2 := Lib.hid hb2
  clear hb2 hR
  cases hI : isE es key with
  | false =>
    have hg0 : goneE es key = 0 := by rw [hgo, hI]; rfl
    by_cases hfull : 4096 ≤ es.length
    · have hT7 : Hid (tpF es key v = 7) := by show _ = _; rw [HtF.out, if_pos ⟨hI, hfull⟩]
      have d4 : ((es.length : Int) == 4096) = true := by rw [beq_iff_eq]; omega
      have HP := Lib.hid (HR.out.put none 0)
      have e0 := HP.out.c0
      have e1 := HP.out.c1
      clear Hcore hlen hgo hg0 HtF
      go_wp2_with fail
      refine bodyPost_ret (v := .tuple #[.agg #[.pointer none, .int .i64 0], .iface 69 (.int .i64 7)]) (by rw [results_cell_tmp rfl]; go_simp) rfl ⟨none, [], 0, by rw [hT7.out]; rfl, TreeT.none _, .inl ⟨by rw [hT7.out]; decide, rfl⟩, below_put HB2.out (by omega)⟩
    · have hT0 : Hid (tpF es key v = 0) := by show _ = _; rw [HtF.out, if_neg (fun h => hfull h.2)]
      have d4 : ((es.length : Int) == 4096) = false := by rw [beq_eq_false_iff_ne]; omega
      have hM : IntKind.i64.wrap ((es.length : Int) + 1) = ((rep es key [⟨key, v, []⟩]).length : Int) := by rw [hg0] at hlen; rw [IntKind.wrap_i64]; simp at hlen; omega
      have HM := Lib.hid hM
      clear hlen hgo hg0 HtF r0 r1 f0 f1 hM
      obtain ⟨W3, hW3⟩ : ∃ W, w2.drew = W := ⟨_, rfl⟩
      have hd3 : Below w2.heap.size w2 W3 := by rw [← hW3]; exact (Below.refl _ _).drew
      have l2 : w.heap.size + 2 ≤ w2.heap.size := by have := HR.out.lt; omega
      have hA3 := (HT.out.1.ext Hb2.out).ext hd3
      have hR3 := HR.out.ext hd3
      have q0 : ∀ w', Turn (fun i => i = w.heap.size + 1) W3 w' → w'.cell? ⟨w.heap.size, 0, none⟩ = some (.pointer p) := fun w' t => (hA3.turn t (by omega)).c0
      have q1 : ∀ w', Turn (fun i => i = w.heap.size + 1) W3 w' → w'.cell? ⟨w.heap.size, 1, none⟩ = some (.int .i64 (es.length : Int)) := fun w' t => (hA3.turn t (by omega)).c1
      have HW3 := Lib.hid hW3
      have Hb3 := Lib.hid (Hb2.out.trans (hd3.mono Hb2.out.size))
      have HB3 := Lib.hid (HB2.out.trans (hd3.mono HB2.out.size))
      have HR3 := Lib.hid hR3
      clear hW3 hd3 hA3 hR3 HT HR HB2 Hb2 Htr HB
      go_wp2_with fail
      refine wp_region_gt (F := fun i => i = w.heap.size + 1) [(0, true), (1, true), (2, true), (3, true), (4, false), (5, false), (6, false), (7, false), (8, true)] (by kernel_rfl) (by kernel_rfl) (by kernel_rfl) (by kernel_rfl) (fun _ _ _ _ _ h => h) ?_
      rw [HW3.out]
      iterate 4 (refine wpGt_read (o := ⟨_, _, _, _, _, _⟩) (v := ?_) rfl (by rfl) ?_ ?_; rotate_left; (intro w' hw'; go_simp; with_reducible rfl); simp only [Act.put, List.setIfInBounds_toArray, List.set_cons_zero, List.set_cons_succ])
      clear q0 q1
      refine wpGt_call (o := ⟨_, _, _, _, _, _⟩) rfl (by rfl) (fun K hK => ?_)
      go_simp
      refine (Hco.out W3).mono ?_
      rintro e w3 ⟨rfl, hb3⟩
      refine hK _ _ (Turn.ofBelow hb3) ?_
      clear hK K
      obtain ⟨w4, hw4, hb4, hc4⟩ := Hcore.out w3 1 (Hb3.out.trans (hb3.mono Hb3.out.size)) HM.out
      have Hw4 := Lib.hid hw4
      have Hc4 := Lib.hid hc4
      have hb34 := hb3.trans (hb4.mono hb3.size)
      replace HB3 := Lib.hid (HB3.out.trans (hb34.mono HB3.out.size))
      replace HR3 := Lib.hid (HR3.out.ext hb34)
      have Hb4 := Lib.hid hb4
      clear Hcore hw4 hc4 hb34 hb3 hb4 Hb3
      refine wpGt_call (o := ⟨_, _, _, _, _, _⟩) rfl (by rfl) (fun K hK => ?_)
      go_simp
      rw [Hw4.out]
      refine hK _ _ (Turn.ofBelow Hb4.out) ?_
      clear hK K
      obtain ⟨N, hN⟩ : ∃ N, (rep es key [⟨key, v, []⟩]).length = N := ⟨_, rfl⟩
      have HN := Lib.hid hN
      rw [hN] at Hc4
      clear hN Hb4
      refine wpGt_call (o := ⟨_, _, _, _, _, _⟩) rfl (by rfl) (fun K hK => ?_)
      go_simp
      refine Hc4.out.mono ?_
      rintro e w5 ⟨p5, ts5, H5, rfl, ht5, hf5, hb5⟩
      refine hK _ _ (Turn.ofBelow hb5) ?_
      clear hK K Hc4
      have hR5 := HR3.out.ext hb5
      have HB5 := Lib.hid (HB3.out.trans (hb5.mono HB3.out.size))
      have f0 := hR5.fz 0
      have f1 := hR5.fz 1
      have r0 := hR5.c0
      have r1 := hR5.c1
      have HT5 := Lib.hid (ht5.turn (turn_put w5 (w.heap.size + 1) (.pointer p5) (.int .i64 (N : Int))) (TF.one hR5))
      have HP := Lib.hid (hR5.put p5 (N : Int))
      have HF5 := Lib.hid hf5
      clear hb5 hR5 ht5 hf5 HB3 HR3
      refine wpGt_call (o := ⟨_, _, _, _, _, _⟩) rfl (by rfl) (fun K hK => ?_)
      go_simp
      refine hK _ _ (turn_put _ _ _ _) ?_
      clear hK K
      (refine wpGt_read (o := ⟨_, _, _, _, _, _⟩) (v := ?_) rfl (by rfl) ?_ ?_; rotate_left; (intro w' hw'; go_simp; with_reducible rfl); simp only [Act.put, List.setIfInBounds_toArray, List.set_cons_zero, List.set_cons_succ])
      refine wpGt_done ?_
      have d0 := HP.out.c0
      have d1 := HP.out.c1
      go_wp2_with fail
      refine bodyPost_ret (v := .tuple #[.agg #[.pointer p5, .int .i64 (N : Int)], .nilIface]) (by rw [results_cell_tmp rfl]; go_simp) rfl ⟨p5, ts5, H5, by rw [HF5.out.1, HN.out, hT0.out]; rfl, HT5.out, .inr ⟨hT0.out, .inl ⟨by rw [Hes.out]; exact HF5.out.1, HF5.out.2⟩⟩, below_put HB5.out (by omega)⟩
  | true =>
    have hg1 : goneE es key = 1 := by rw [hgo, hI]; rfl
    have hT0 : Hid (tpF es key v = 0) := by show _ = _; rw [HtF.out, if_neg (fun h => by rw [hI] at h; cases h.1)]
    by_cases hsame : getE es key = v
    · have dv : ((getE es key).toList == v.toList) = true := by rw [hsame]; exact beq_self v
      have HT4 := Lib.hid (((Htr.out.ext HB.out).ext Hb2.out).turn (turn_put w2 (w.heap.size + 1) (.pointer p) (.int .i64 (es.length : Int))) (TF.one HR.out))
      have HP := Lib.hid (HR.out.put p (es.length : Int))
      have e0 := HP.out.c0
      have e1 := HP.out.c1
      have Hput : Hid (PutFr ts ts H key v) := .inr ⟨rfl, by rw [Hes.out]; exact hI, by rw [Hes.out]; exact hsame⟩
      clear Hcore hlen hgo hg1 HtF hsame
      generalize getE es key = G at *
      go_wp2_with fail
      refine bodyPost_ret (v := .tuple #[.agg #[.pointer p, .int .i64 (es.length : Int)], .nilIface]) (by rw [results_cell_tmp rfl]; go_simp) rfl ⟨p, ts, H, by rw [Hes.out, hT0.out]; rfl, HT4.out, .inr ⟨hT0.out, Hput.out⟩, below_put HB2.out (by omega)⟩
    · have dv : ((getE es key).toList == v.toList) = false := by
        cases hx : ((getE es key).toList == v.toList) with
        | false => rfl
        | true => exact absurd (beq_bytes hx) hsame
      have hM : IntKind.i64.wrap ((es.length : Int) + 0) = ((rep es key [⟨key, v, []⟩]).length : Int) := by rw [hg1] at hlen; rw [IntKind.wrap_i64]; simp at hlen; omega
      have HM := Lib.hid hM
      clear hlen hgo hg1 HtF r0 r1 f0 f1 hM hsame
      generalize getE es key = G at *
      obtain ⟨W3, hW3⟩ : ∃ W, w2.drew = W := ⟨_, rfl⟩
      have hd3 : Below w2.heap.size w2 W3 := by rw [← hW3]; exact (Below.refl _ _).drew
      have l2 : w.heap.size + 2 ≤ w2.heap.size := by have := HR.out.lt; omega
      have hA3 := (HT.out.1.ext Hb2.out).ext hd3
      have hR3 := HR.out.ext hd3
      have q0 : ∀ w', Turn (fun i => i = w.heap.size + 1) W3 w' → w'.cell? ⟨w.heap.size, 0, none⟩ = some (.pointer p) := fun w' t => (hA3.turn t (by omega)).c0
      have q1 : ∀ w', Turn (fun i => i = w.heap.size + 1) W3 w' → w'.cell? ⟨w.heap.size, 1, none⟩ = some (.int .i64 (es.length : Int)) := fun w' t => (hA3.turn t (by omega)).c1
      have HW3 := Lib.hid hW3
      have Hb3 := Lib.hid (Hb2.out.trans (hd3.mono Hb2.out.size))
      have HB3 := Lib.hid (HB2.out.trans (hd3.mono HB2.out.size))
      have HR3 := Lib.hid hR3
      clear hW3 hd3 hA3 hR3 HT HR HB2 Hb2 Htr HB
      go_wp2_with fail
      refine wp_region_gt (F := fun i => i = w.heap.size + 1) [(0, true), (1, true), (2, true), (3, true), (4, false), (5, false), (6, false), (7, false), (8, true)] (by kernel_rfl) (by kernel_rfl) (by kernel_rfl) (by kernel_rfl) (fun _ _ _ _ _ h => h) ?_
      rw [HW3.out]
      iterate 4 (refine wpGt_read (o := ⟨_, _, _, _, _, _⟩) (v := ?_) rfl (by rfl) ?_ ?_; rotate_left; (intro w' hw'; go_simp; with_reducible rfl); simp only [Act.put, List.setIfInBounds_toArray, List.set_cons_zero, List.set_cons_succ])
      clear q0 q1
      refine wpGt_call (o := ⟨_, _, _, _, _, _⟩) rfl (by rfl) (fun K hK => ?_)
      go_simp
      refine (Hco.out W3).mono ?_
      rintro e w3 ⟨rfl, hb3⟩
      refine hK _ _ (Turn.ofBelow hb3) ?_
      clear hK K
      obtain ⟨w4, hw4, hb4, hc4⟩ := Hcore.out w3 0 (Hb3.out.trans (hb3.mono Hb3.out.size)) HM.out
      have Hw4 := Lib.hid hw4
      have Hc4 := Lib.hid hc4
      have hb34 := hb3.trans (hb4.mono hb3.size)
      replace HB3 := Lib.hid (HB3.out.trans (hb34.mono HB3.out.size))
      replace HR3 := Lib.hid (HR3.out.ext hb34)
      have Hb4 := Lib.hid hb4
      clear Hcore hw4 hc4 hb34 hb3 hb4 Hb3
      refine wpGt_call (o := ⟨_, _, _, _, _, _⟩) rfl (by rfl) (fun K hK => ?_)
      go_simp
      rw [Hw4.out]
      refine hK _ _ (Turn.ofBelow Hb4.out) ?_
      clear hK K
      obtain ⟨N, hN⟩ : ∃ N, (rep es key [⟨key, v, []⟩]).length = N := ⟨_, rfl⟩
      have HN := Lib.hid hN
      rw [hN] at Hc4
      clear hN Hb4
      refine wpGt_call (o := ⟨_, _, _, _, _, _⟩) rfl (by rfl) (fun K hK => ?_)
      go_simp
      refine Hc4.out.mono ?_
      rintro e w5 ⟨p5, ts5, H5, rfl, ht5, hf5, hb5⟩
      refine hK _ _ (Turn.ofBelow hb5) ?_
      clear hK K Hc4
      have hR5 := HR3.out.ext hb5
      have HB5 := Lib.hid (HB3.out.trans (hb5.mono HB3.out.size))
      have f0 := hR5.fz 0
      have f1 := hR5.fz 1
      have r0 := hR5.c0
      have r1 := hR5.c1
      have HT5 := Lib.hid (ht5.turn (turn_put w5 (w.heap.size + 1) (.pointer p5) (.int .i64 (N : Int))) (TF.one hR5))
      have HP := Lib.hid (hR5.put p5 (N : Int))
      have HF5 := Lib.hid hf5
      clear hb5 hR5 ht5 hf5 HB3 HR3
      refine wpGt_call (o := ⟨_, _, _, _, _, _⟩) rfl (by rfl) (fun K hK => ?_)
      go_simp
      refine hK _ _ (turn_put _ _ _ _) ?_
      clear hK K
      (refine wpGt_read (o := ⟨_, _, _, _, _, _⟩) (v := ?_) rfl (by rfl) ?_ ?_; rotate_left; (intro w' hw'; go_simp; with_reducible rfl); simp only [Act.put, List.setIfInBounds_toArray, List.set_cons_zero, List.set_cons_succ])
      refine wpGt_done ?_
      have d0 := HP.out.c0
      have d1 := HP.out.c1
      go_wp2_with fail
      refine bodyPost_ret (v := .tuple #[.agg #[.pointer p5, .int .i64 (N : Int)], .nilIface]) (by rw [results_cell_tmp rfl]; go_simp) rfl ⟨p5, ts5, H5, by rw [HF5.out.1, HN.out, hT0.out]; rfl, HT5.out, .inr ⟨hT0.out, .inl ⟨by rw [Hes.out]; exact HF5.out.1, HF5.out.2⟩⟩, below_put HB5.out (by omega)⟩
/-- tree's Put, with the pages. -/
theorem put_allT (p : Option Addr) (ts : List Tr) (H : Nat) (key v : ByteArray) (w : World) (ht : TreeT w p ts H) (hl : (esL ts).length ≤ 4096) :
    Calls Tryz.prog 18 #[.agg #[.pointer p, .int .i64 (esL ts).length], .string key, .string v] w fun e w' => ∃ p' ts' H', e = .returned (.tuple #[.agg #[.pointer p', .int .i64 ((esL ts').length : Nat)], errC (tpF (esL ts) key v : Nat)]) ∧ TreeT w' p' ts' H' ∧
      ((tpF (esL ts) key v ≠ 0 ∧ ts' = []) ∨ (tpF (esL ts) key v = 0 ∧ PutFr ts ts' H' key v)) ∧ Below w.heap.size w w' := by
  by_cases hk : okK key = false ∨ 2048 < v.size
  · refine (put_no p (esL ts).length (esL ts) key v w hk).mono ?_
    rintro e w' ⟨rfl, hb⟩
    have : tpF (esL ts) key v ≠ 0 := by
      unfold tpF
      rcases hk with hk | hk
      · rw [if_pos hk]; decide
      · by_cases hk1 : okK key = false
        · rw [if_pos hk1]; decide
        · rw [if_neg hk1, if_pos hk]; decide
    exact ⟨none, [], 0, rfl, TreeT.none _, .inl ⟨this, rfl⟩, hb⟩
  · have hk1 : okK key = true := by simpa using fun h => hk (.inl h)
    have hv1 : v.size ≤ 2048 := by
      rcases Nat.lt_or_ge 2048 v.size with h | h
      · exact absurd (.inr h) hk
      · exact h
    exact put_yesT p ts H key v w ht hl hk1 hv1
/-- tree's Put. -/
theorem put_all (p : Option Addr) (es : List En) (H : Nat) (key v : ByteArray) (w : World) (ht : TreeP w p es H) (hl : es.length ≤ 4096) :
    Calls Tryz.prog 18 #[.agg #[.pointer p, .int .i64 es.length], .string key, .string v] w fun e w' => ∃ p' H', e = .returned (.tuple #[.agg #[.pointer p', .int .i64 ((tpL es key v).length : Nat)], errC (tpF es key v : Nat)]) ∧ TreeP w' p' (tpL es key v) H' ∧ Below w.heap.size w w' := by
  obtain ⟨ts, h1, rfl⟩ := ht.t
  rw [bare_len] at hl ⊢
  refine (put_allT p ts H key v w h1 hl).mono ?_
  rintro e w' ⟨p', ts', H', rfl, h2, h3, hb⟩
  have e1 : tpL (bare (esL ts)) key v = bare (esL ts') := by
    rcases h3 with ⟨h3, rfl⟩ | ⟨h3, h4⟩
    · unfold tpL; rw [tpF_bare, if_neg h3]; rfl
    · rw [tpL_bare _ _ _ h3, h4.ste]
  refine ⟨p', H', ?_, by rw [e1]; exact h2.tp, hb⟩
  rw [tpF_bare, e1, bare_len]
end Go.Proofs.YtbgkjniagedcnaaGreatDoor
namespace Go.Proofs.YtbgkjniagedcnaaGreatDoor
open Go Go.RowKit

set_option maxRecDepth 100000 in
theorem delete_allT (p : Option Addr) (ts : List Tr) (H : Nat) (key : ByteArray) (w : World) (ht : TreeT w p ts H) (hl : (esL ts).length ≤ 100000) :
    Calls Tryz.prog 15 #[.agg #[.pointer p, .int .i64 (esL ts).length], .string key] w fun e w' => ∃ p' ts' H', e = .returned (.tuple #[.agg #[.pointer p', .int .i64 ((esL ts').length : Nat)], .bool (isE (esL ts) key)]) ∧ TreeT w' p' ts' H' ∧ (esL ts' = tdL (esL ts) key ∧ Fr ts ts' (2 * H')) ∧ Below w.heap.size w w' := by
  obtain ⟨es, hes⟩ : ∃ es, esL ts = es := ⟨_, rfl⟩
  have Hes := Lib.hid hes
  rw [hes] at hl ⊢
  obtain ⟨W, hW, hT1, hT2, hb⟩ := two_own w p es.length
  have hq := (ht.ext hb).tq
  rw [hes] at hq
  have Hget := Lib.hid (getQ_any p es.length es H key W hq)
  have HW := Lib.hid hW
  have HT := Lib.hid (And.intro hT1 hT2)
  have HB := Lib.hid hb
  have Htr := Lib.hid ht
  have hlen := rep_len es key []
  have hgo : goneE es key = if isE es key = true then 1 else 0 := rfl
  clear hW hT1 hT2 hb ht hq hes
  go_enter Tryz.func15, Tryz.ntmps15
  go_wp2_with fail
  rw [HW.out]
  refine Hget.out.mono ?_
  rintro e w2 ⟨rfl, hb2⟩
  clear Hget
  have a0 := (HT.out.1.ext hb2).c0
  have a1 := (HT.out.1.ext hb2).c1
  have hR := HT.out.2.ext hb2
  have r0 := hR.c0
  have r1 := hR.c1
  have f0 := hR.fz 0
  have f1 := hR.fz 1
  have HR := Lib.hid hR
  have HB2 := Lib.hid (HB.out.trans (hb2.mono HB.out.size))
  have HT2 := Lib.hid ((Htr.out.ext HB.out).ext hb2)
  clear hb2 hR
  cases hI : isE es key with
  | false =>
    have hL2 : Hid (tdL es key = es) := by show _ = _; unfold tdL; rw [hI]; rfl
    have HT4 := Lib.hid (HT2.out.turn (turn_put w2 (w.heap.size + 1) (.pointer p) (.int .i64 (es.length : Int))) (TF.one HR.out))
    have HP := Lib.hid (HR.out.put p (es.length : Int))
    have e0 := HP.out.c0
    have e1 := HP.out.c1
    clear hlen hgo
    go_wp2_with fail
    refine bodyPost_ret (v := .tuple #[.agg #[.pointer p, .int .i64 (es.length : Int)], .bool false]) (by rw [results_cell_tmp rfl]; go_simp) rfl ⟨p, ts, H, by rw [Hes.out, hI], HT4.out, ⟨by rw [Hes.out]; exact hL2.out.symm, (Fr.refl _).mono (by omega)⟩, below_put HB2.out (by omega)⟩
  | true =>
    have hg1 : goneE es key = 1 := by rw [hgo, hI]; rfl
    have hL : Hid (tdL es key = rep es key []) := by show _ = _; unfold tdL; rw [hI]; rfl
    have hc3 := change_core p ts es.length (-1) ((rep es key []).length : Int) key none 0 0 [] w2 (.inl rfl) (fun x hx => by cases hx) rfl (fun _ => rfl) (CS.nil _) H HT2.out (by rw [hg1] at hlen; rw [IntKind.wrap_i64]; simp at hlen; omega)
    rw [Hes.out] at hc3
    have Hc3 := Lib.hid hc3
    clear hlen hgo hg1 hc3 r0 r1 f0 f1
    go_wp2_with fail
    refine Hc3.out.mono ?_
    rintro e w4 ⟨p4, ts4, H4, rfl, ht4, hf4, hb4⟩
    have HF4 := Lib.hid hf4
    have hR4 := HR.out.ext hb4
    have r0 := hR4.c0
    have r1 := hR4.c1
    have f0 := hR4.fz 0
    have f1 := hR4.fz 1
    obtain ⟨N, hN⟩ : ∃ N, (rep es key []).length = N := ⟨_, rfl⟩
    have HT4 := Lib.hid (ht4.turn (turn_put w4 (w.heap.size + 1) (.pointer p4) (.int .i64 (N : Int))) (TF.one hR4))
    have HP := Lib.hid (hR4.put p4 (N : Int))
    have e0 := HP.out.c0
    have e1 := HP.out.c1
    have Hb4 := Lib.hid (HB2.out.trans (hb4.mono HB2.out.size))
    have HNN := Lib.hid hN
    rw [hN]
    clear ht4 hf4 hb4 hR4 Hc3 hN
    go_wp2_with fail
    refine bodyPost_ret (v := .tuple #[.agg #[.pointer p4, .int .i64 (N : Int)], .bool true]) (by rw [results_cell_tmp rfl]; go_simp) rfl ⟨p4, ts4, H4, by rw [HF4.out.1, HNN.out, hI], HT4.out, ⟨by rw [hL.out]; exact HF4.out.1, HF4.out.2⟩, below_put Hb4.out (by omega)⟩
theorem tdL_bare (es : List En) (key : ByteArray) : bare (tdL es key) = tdL (bare es) key := by
  unfold tdL
  rw [(fE_bare es key).2]
  split
  · rw [rep_bare]; rfl
  · rfl
theorem delete_all (p : Option Addr) (es : List En) (H : Nat) (key : ByteArray) (w : World) (ht : TreeP w p es H) (hl : es.length ≤ 100000) :
    Calls Tryz.prog 15 #[.agg #[.pointer p, .int .i64 es.length], .string key] w fun e w' => ∃ p' H', e = .returned (.tuple #[.agg #[.pointer p', .int .i64 ((tdL es key).length : Nat)], .bool (isE es key)]) ∧ TreeP w' p' (tdL es key) H' ∧ Below w.heap.size w w' := by
  obtain ⟨ts, h1, rfl⟩ := ht.t
  rw [bare_len] at hl ⊢
  refine (delete_allT p ts H key w h1 hl).mono ?_
  rintro e w' ⟨p', ts', H', rfl, h2, h3, hb⟩
  refine ⟨p', H', ?_, by rw [← tdL_bare, ← h3.1]; exact h2.tp, hb⟩
  rw [(fE_bare _ _).2, ← tdL_bare, bare_len, h3.1]
end Go.Proofs.YtbgkjniagedcnaaGreatDoor
