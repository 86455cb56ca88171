/-
  tree's Put, Delete.
  tree's Delete.
-/
import Derived.Test.YtjkpjbgapemieaaGreatDoorRootZ
import Derived.Test.YtjkpjbgapemieaaGreatDoorRefTreeZ
import Derived.Test.YtjkpjbgapemieaaGreatDoorKeysChkZ
namespace Go.Proofs.YtjkpjbgapemieaaGreatDoor
open Go Go.RowKit

theorem errC_7 : errC 7 = .iface 68 (.int .i64 7) := rfl
theorem rep_same {es : List En} {key v : ByteArray} (h : isE es key = true) (hv : getE es key = v) : rep es key [⟨key, v⟩] = es := by
  have h1 := isE_eq es key
  rw [h] at h1
  have h2 := h1.symm
  rw [Bool.and_eq_true, decide_eq_true_iff] at h2
  have h3 : getE es key = (ea es (fE es key)).v := by unfold getE; rw [if_pos h]
  have h4 : goneE es key = 1 := by unfold goneE; rw [if_pos h]
  have h5 : ea es (fE es key) = ⟨key, v⟩ := by
    have e1 := beq_bytes h2.2
    have e2 : (ea es (fE es key)).v = v := h3.symm.trans hv
    cases hx : ea es (fE es key) with
    | mk k' v' => rw [hx] at e1 e2; simp only at e1 e2; rw [e1, e2]
  unfold rep
  rw [h4, ← h5]
  conv => rhs; rw [← List.take_append_drop (fE es key) es, ea_drop es _ h2.1]
  rfl
/-- The two blocks that Put and Delete make. -/
theorem two_own (w : World) (p : Option Addr) (n : Int) : ∃ W, (w.alloc (.cells #[.pointer p, .int .i64 n] TT)).alloc (.cells #[.pointer none, .int .i64 0] TT) = W ∧ TB W w.heap.size p n ∧ TB W (w.heap.size + 1) none 0 ∧ Below w.heap.size w W := by
  obtain ⟨W1, hW1, hT1, hb1⟩ := alloc_own w TT #[.pointer p, .int .i64 n]
  obtain ⟨W2, hW2, hT2, hb2⟩ := alloc_own W1 TT #[.pointer none, .int .i64 0]
  have hs1 : W1.heap.size = w.heap.size + 1 := by rw [← hW1]; simp
  exact ⟨W2, by rw [hW1, hW2], TB.ext (w := W1) hT1 hb2, by rw [← hs1]; exact hT2, hb1.trans (hb2.mono hb1.size)⟩
set_option maxRecDepth 100000 in
theorem put_no (p : Option Addr) (n : Int) (es : List En) (key v : ByteArray) (w : World) (h : okK key = false ∨ 2048 < v.size) :
    Calls Tryz.prog 17 #[.agg #[.pointer p, .int .i64 n], .string key, .string v] w fun e w' => e = .returned (.tuple #[.agg #[.pointer none, .int .i64 0], errC (tpF es key v : Nat)]) ∧ Below w.heap.size w w' := by
  have hch := fun w => check_any key w
  by_cases hk : okK key = false
  · have ht : Hid (tpF es key v = 1) := by show _ = _; unfold tpF; rw [if_pos hk]
    have hv : chkV key = .iface 68 (.int .i64 1) := by unfold chkV; rw [hk]; rfl
    rw [hv] at hch
    have Hch := Lib.hid hch
    rw [show errC ((tpF es key v : Nat) : Int) = .iface 68 (.int .i64 1) by rw [ht.out]; rfl]
    clear hch hv hk h
    go_enter Tryz.func17, Tryz.ntmps17
    go_wp2_with fail
    refine (Hch.out _).mono ?_
    rintro e w' ⟨rfl, rfl⟩
    go_wp2_with fail
    refine bodyPost_ret (v := .tuple #[.agg #[.pointer none, .int .i64 0], .iface 68 (.int .i64 1)]) (by rw [results_cell_tmp rfl]; go_simp) rfl ⟨rfl, ?_⟩
    exact ((Below.refl _ _).alloc (Nat.le_refl _) _).alloc (by simp) _
  · have hv2 : 2048 < v.size := by rcases h with h | h; exact absurd h hk; exact h
    have ht : Hid (tpF es key v = 5) := by show _ = _; unfold tpF; rw [if_neg hk, if_pos hv2]
    have hk1 : okK key = true := by simpa using hk
    have hv : chkV key = .nilIface := by unfold chkV; rw [hk1]; rfl
    rw [hv] at hch
    have Hch := Lib.hid hch
    rw [show errC ((tpF es key v : Nat) : Int) = .iface 68 (.int .i64 5) by rw [ht.out]; rfl]
    have d3 : decide (2048 < (v.size : Int)) = true := decide_eq_true (by omega)
    clear hch hv hk hk1 h hv2
    go_enter Tryz.func17, Tryz.ntmps17
    go_wp2_with fail
    refine (Hch.out _).mono ?_
    rintro e w' ⟨rfl, rfl⟩
    go_wp2_with fail
    refine bodyPost_ret (v := .tuple #[.agg #[.pointer none, .int .i64 0], .iface 68 (.int .i64 5)]) (by rw [results_cell_tmp rfl]; go_simp) rfl ⟨rfl, ?_⟩
    exact ((Below.refl _ _).alloc (Nat.le_refl _) _).alloc (by simp) _
set_option maxRecDepth 100000 in
theorem put_yes (p : Option Addr) (es : List En) (H : Nat) (key v : ByteArray) (w : World) (ht : TreeP w p es H) (hl : es.length ≤ 4096) (hk : okK key = true) (hv : v.size ≤ 2048) :
    Calls Tryz.prog 17 #[.agg #[.pointer p, .int .i64 es.length], .string key, .string v] w fun e w' => ∃ p' H', e = .returned (.tuple #[.agg #[.pointer p', .int .i64 ((tpL es key v).length : Nat)], errC (tpF es key v : Nat)]) ∧ TreeP w' p' (tpL es key v) H' ∧ Below w.heap.size w w' := by
  have hch := fun w => check_any key w
  rw [show chkV key = .nilIface by unfold chkV; rw [hk]; rfl] at hch
  have Hch := Lib.hid hch
  have d3 : decide (2048 < (v.size : Int)) = false := decide_eq_false (by omega)
  obtain ⟨W, hW, hT1, hT2, hb⟩ := two_own w p es.length
  have Hget := Lib.hid (get_any p es.length es H key W (ht.ext hb))
  have HW := Lib.hid hW
  have HT := Lib.hid (And.intro hT1 hT2)
  have HB := Lib.hid hb
  have Htr := Lib.hid ht
  have HtF : Hid (tpF es key v = if isE es key = false ∧ 4096 ≤ es.length then 7 else 0) := by
    show _ = _; unfold tpF; rw [if_neg (by rw [hk]; decide), if_neg (by omega)]
  have hlen := rep_len es key [⟨key, v⟩]
  have hgo : goneE es key = if isE es key = true then 1 else 0 := rfl
  have hcore : ∀ (w2 : World) (m : Int), Below W.heap.size W w2 → IntKind.i64.wrap ((es.length : Int) + m) = ((rep es key [⟨key, v⟩]).length : Int) →
      ∃ w3, w2.alloc (.cells #[.string key, .string v] ET) = w3 ∧ Calls Tryz.prog 33 #[.agg #[.pointer p, .int .i64 es.length], .int .i64 m, .string key, .slice (some ⟨w2.heap.size, 0, none⟩) 1 1] w3 (fun e w' => ∃ p' H', e = .returned (.agg #[.pointer p', .int .i64 ((rep es key [⟨key, v⟩]).length : Nat)]) ∧
        TreeP w' p' (rep es key [⟨key, v⟩]) H' ∧ Below w.heap.size w w' ∧ TB w' (w.heap.size + 1) none 0) := fun w2 m h2 hm => by
    have h3 : Below w2.heap.size w2 (w2.alloc (.cells #[.string key, .string v] ET)) := (Below.refl _ _).alloc (Nat.le_refl _) _
    have h23 := h2.trans (h3.mono h2.size)
    have hw3 := hb.trans (h23.mono hb.size)
    have hlit : ES entE (w2.alloc (.cells #[.string key, .string v] ET)) (some ⟨w2.heap.size, 0, none⟩) [⟨key, v⟩] := ES.lit (E := entE) (l := [⟨key, v⟩]) (heap_new w2 _ _)
    refine ⟨_, rfl, (change_core p es es.length m _ key _ 1 1 [⟨key, v⟩] _ (.inr ⟨v, rfl⟩) (fun x hx => by
      simp only [List.mem_singleton] at hx; subst hx; exact ⟨hk, hv⟩) rfl (fun h => by cases h) hlit H (ht.ext hw3) hm).mono ?_⟩
    rintro e w' ⟨p', H', rfl, h4, h5⟩
    have h6 := h23.trans (h5.mono h23.size)
    exact ⟨p', H', rfl, h4, hb.trans (h6.mono hb.size), hT2.ext h6⟩
  have Hcore := Lib.hid hcore
  clear hch hW hT1 hT2 hb ht hk hv hcore
  go_enter Tryz.func17, Tryz.ntmps17
  go_wp2_with fail
  refine (Hch.out _).mono ?_
  rintro e w' ⟨rfl, rfl⟩
  clear Hch
  go_wp2_with fail
  rw [HW.out]
  refine Hget.out.mono ?_
  rintro e w2 ⟨rfl, hb2⟩
  clear Hget
  have a0 := (HT.out.1.ext hb2).c0
  have a1 := (HT.out.1.ext hb2).c1
  have hR := HT.out.2.ext hb2
  have r0 := hR.c0
  have r1 := hR.c1
  have f0 := hR.fz 0
  have f1 := hR.fz 1
  have HR := Lib.hid hR
  have HB2 := Lib.hid (HB.out.trans (hb2.mono HB.out.size))
  have Hb2 := Lib.hid hb2
  clear hb2 hR
  cases hI : isE es key with
  | false =>
    have hg0 : goneE es key = 0 := by rw [hgo, hI]; rfl
    by_cases hfull : 4096 ≤ es.length
    · have hT7 : Hid (tpF es key v = 7) := by show _ = _; rw [HtF.out, if_pos ⟨hI, hfull⟩]
      have hL : Hid (tpL es key v = []) := by show _ = _; unfold tpL; rw [hT7.out]; rfl
      have d4 : ((es.length : Int) == 4096) = true := by rw [beq_iff_eq]; omega
      have HP := Lib.hid (HR.out.put none 0)
      have e0 := HP.out.c0
      have e1 := HP.out.c1
      clear Hcore hlen hgo hg0 HtF
      go_wp2_with fail
      refine bodyPost_ret (v := .tuple #[.agg #[.pointer none, .int .i64 0], .iface 68 (.int .i64 7)]) (by rw [results_cell_tmp rfl]; go_simp) rfl ⟨none, 0, by rw [hL.out, hT7.out]; rfl, by rw [hL.out]; exact TreeP.none _, below_put HB2.out (by omega)⟩
    · have hT0 : Hid (tpF es key v = 0) := by show _ = _; rw [HtF.out, if_neg (fun h => hfull h.2)]
      have hL : Hid (tpL es key v = rep es key [⟨key, v⟩]) := by show _ = _; unfold tpL; rw [hT0.out]; rfl
      have d4 : ((es.length : Int) == 4096) = false := by rw [beq_eq_false_iff_ne]; omega
      obtain ⟨w3, hw3, hc3⟩ := Hcore.out w2 1 Hb2.out (by rw [hg0] at hlen; rw [IntKind.wrap_i64]; simp at hlen; omega)
      have Hc3 := Lib.hid hc3
      have Hw3 := Lib.hid hw3
      clear Hcore hlen hgo hg0 HtF hw3 hc3 r0 r1 f0 f1
      go_wp2_with fail
      rw [Hw3.out]
      refine Hc3.out.mono ?_
      rintro e w4 ⟨p4, H4, rfl, ht4, hb4, hR4⟩
      have r0 := hR4.c0
      have r1 := hR4.c1
      have f0 := hR4.fz 0
      have f1 := hR4.fz 1
      obtain ⟨N, hN⟩ : ∃ N, (rep es key [⟨key, v⟩]).length = N := ⟨_, rfl⟩
      have HT4 := Lib.hid (ht4.turn (turn_put w4 (w.heap.size + 1) (.pointer p4) (.int .i64 (N : Int))) (TF.one hR4))
      have HP := Lib.hid (hR4.put p4 (N : Int))
      have e0 := HP.out.c0
      have e1 := HP.out.c1
      have Hb4 := Lib.hid hb4
      have HNN := Lib.hid hN
      rw [hN]
      clear ht4 hb4 hR4 Hc3 hN
      go_wp2_with fail
      refine bodyPost_ret (v := .tuple #[.agg #[.pointer p4, .int .i64 (N : Int)], .nilIface]) (by rw [results_cell_tmp rfl]; go_simp) rfl ⟨p4, H4, by rw [hL.out, HNN.out, hT0.out]; rfl, by rw [hL.out]; exact HT4.out, below_put Hb4.out (by omega)⟩
  | true =>
    have hg1 : goneE es key = 1 := by rw [hgo, hI]; rfl
    have hT0 : Hid (tpF es key v = 0) := by show _ = _; rw [HtF.out, if_neg (fun h => by rw [hI] at h; cases h.1)]
    have hL : Hid (tpL es key v = rep es key [⟨key, v⟩]) := by show _ = _; unfold tpL; rw [hT0.out]; rfl
    by_cases hsame : getE es key = v
    · have dv : ((getE es key).toList == v.toList) = true := by rw [hsame]; exact beq_self v
      have hL2 : Hid (tpL es key v = es) := by show _ = _; rw [hL.out]; exact rep_same hI hsame
      have HT4 := Lib.hid (((Htr.out.ext HB.out).ext Hb2.out).turn (turn_put w2 (w.heap.size + 1) (.pointer p) (.int .i64 (es.length : Int))) (TF.one HR.out))
      have HP := Lib.hid (HR.out.put p (es.length : Int))
      have e0 := HP.out.c0
      have e1 := HP.out.c1
      clear Hcore hlen hgo hg1 HtF hL hsame
      generalize getE es key = G at *
      go_wp2_with fail
      refine bodyPost_ret (v := .tuple #[.agg #[.pointer p, .int .i64 (es.length : Int)], .nilIface]) (by rw [results_cell_tmp rfl]; go_simp) rfl ⟨p, H, by rw [hL2.out, hT0.out]; rfl, by rw [hL2.out]; exact HT4.out, below_put HB2.out (by omega)⟩
    · have dv : ((getE es key).toList == v.toList) = false := by
        cases hx : ((getE es key).toList == v.toList) with
        | false => rfl
        | true => exact absurd (beq_bytes hx) hsame
      obtain ⟨w3, hw3, hc3⟩ := Hcore.out w2 0 Hb2.out (by rw [hg1] at hlen; rw [IntKind.wrap_i64]; simp at hlen; omega)
      have Hc3 := Lib.hid hc3
      have Hw3 := Lib.hid hw3
      clear Hcore hlen hgo hg1 HtF hw3 hc3 r0 r1 f0 f1 hsame
      generalize getE es key = G at *
      go_wp2_with fail
      rw [Hw3.out]
      refine Hc3.out.mono ?_
      rintro e w4 ⟨p4, H4, rfl, ht4, hb4, hR4⟩
      have r0 := hR4.c0
      have r1 := hR4.c1
      have f0 := hR4.fz 0
      have f1 := hR4.fz 1
      obtain ⟨N, hN⟩ : ∃ N, (rep es key [⟨key, v⟩]).length = N := ⟨_, rfl⟩
      have HT4 := Lib.hid (ht4.turn (turn_put w4 (w.heap.size + 1) (.pointer p4) (.int .i64 (N : Int))) (TF.one hR4))
      have HP := Lib.hid (hR4.put p4 (N : Int))
      have e0 := HP.out.c0
      have e1 := HP.out.c1
      have Hb4 := Lib.hid hb4
      have HNN := Lib.hid hN
      rw [hN]
      clear ht4 hb4 hR4 Hc3 hN
      go_wp2_with fail
      refine bodyPost_ret (v := .tuple #[.agg #[.pointer p4, .int .i64 (N : Int)], .nilIface]) (by rw [results_cell_tmp rfl]; go_simp) rfl ⟨p4, H4, by rw [hL.out, HNN.out, hT0.out]; rfl, by rw [hL.out]; exact HT4.out, below_put Hb4.out (by omega)⟩
/-- tree's Put. -/
theorem put_all (p : Option Addr) (es : List En) (H : Nat) (key v : ByteArray) (w : World) (ht : TreeP w p es H) (hl : es.length ≤ 4096) :
    Calls Tryz.prog 17 #[.agg #[.pointer p, .int .i64 es.length], .string key, .string v] w fun e w' => ∃ p' H', e = .returned (.tuple #[.agg #[.pointer p', .int .i64 ((tpL es key v).length : Nat)], errC (tpF es key v : Nat)]) ∧ TreeP w' p' (tpL es key v) H' ∧ Below w.heap.size w w' := by
  by_cases hk : okK key = false ∨ 2048 < v.size
  · refine (put_no p es.length es key v w hk).mono ?_
    rintro e w' ⟨rfl, hb⟩
    have : tpL es key v = [] := by
      unfold tpL tpF
      rcases hk with hk | hk
      · rw [if_pos hk]; rfl
      · by_cases hk1 : okK key = false
        · rw [if_pos hk1]; rfl
        · rw [if_neg hk1, if_pos hk]; rfl
    exact ⟨none, 0, by rw [this]; rfl, by rw [this]; exact TreeP.none _, hb⟩
  · have hk1 : okK key = true := by simpa using fun h => hk (.inl h)
    have hv1 : v.size ≤ 2048 := by
      rcases Nat.lt_or_ge 2048 v.size with h | h
      · exact absurd (.inr h) hk
      · exact h
    exact put_yes p es H key v w ht hl hk1 hv1
end Go.Proofs.YtjkpjbgapemieaaGreatDoor
namespace Go.Proofs.YtjkpjbgapemieaaGreatDoor
open Go Go.RowKit

set_option maxRecDepth 100000 in
theorem delete_all (p : Option Addr) (es : List En) (H : Nat) (key : ByteArray) (w : World) (ht : TreeP w p es H) (hl : es.length ≤ 100000) :
    Calls Tryz.prog 14 #[.agg #[.pointer p, .int .i64 es.length], .string key] w fun e w' => ∃ p' H', e = .returned (.tuple #[.agg #[.pointer p', .int .i64 ((tdL es key).length : Nat)], .bool (isE es key)]) ∧ TreeP w' p' (tdL es key) H' ∧ Below w.heap.size w w' := by
  obtain ⟨W, hW, hT1, hT2, hb⟩ := two_own w p es.length
  have Hget := Lib.hid (get_any p es.length es H key W (ht.ext hb))
  have HW := Lib.hid hW
  have HT := Lib.hid (And.intro hT1 hT2)
  have HB := Lib.hid hb
  have Htr := Lib.hid ht
  have hlen := rep_len es key []
  have hgo : goneE es key = if isE es key = true then 1 else 0 := rfl
  clear hW hT1 hT2 hb ht
  go_enter Tryz.func14, Tryz.ntmps14
  go_wp2_with fail
  rw [HW.out]
  refine Hget.out.mono ?_
  rintro e w2 ⟨rfl, hb2⟩
  clear Hget
  have a0 := (HT.out.1.ext hb2).c0
  have a1 := (HT.out.1.ext hb2).c1
  have hR := HT.out.2.ext hb2
  have r0 := hR.c0
  have r1 := hR.c1
  have f0 := hR.fz 0
  have f1 := hR.fz 1
  have HR := Lib.hid hR
  have HB2 := Lib.hid (HB.out.trans (hb2.mono HB.out.size))
  have HT2 := Lib.hid ((Htr.out.ext HB.out).ext hb2)
  clear hb2 hR
  cases hI : isE es key with
  | false =>
    have hL2 : Hid (tdL es key = es) := by show _ = _; unfold tdL; rw [hI]; rfl
    have HT4 := Lib.hid (HT2.out.turn (turn_put w2 (w.heap.size + 1) (.pointer p) (.int .i64 (es.length : Int))) (TF.one HR.out))
    have HP := Lib.hid (HR.out.put p (es.length : Int))
    have e0 := HP.out.c0
    have e1 := HP.out.c1
    clear hlen hgo
    go_wp2_with fail
    refine bodyPost_ret (v := .tuple #[.agg #[.pointer p, .int .i64 (es.length : Int)], .bool false]) (by rw [results_cell_tmp rfl]; go_simp) rfl ⟨p, H, by rw [hL2.out, hI], by rw [hL2.out]; exact HT4.out, below_put HB2.out (by omega)⟩
  | true =>
    have hg1 : goneE es key = 1 := by rw [hgo, hI]; rfl
    have hL : Hid (tdL es key = rep es key []) := by show _ = _; unfold tdL; rw [hI]; rfl
    have hc3 := change_core p es es.length (-1) ((rep es key []).length : Int) key none 0 0 [] w2 (.inl rfl) (fun x hx => by cases hx) rfl (fun _ => rfl) (ES.nil _) H HT2.out (by rw [hg1] at hlen; rw [IntKind.wrap_i64]; simp at hlen; omega)
    have Hc3 := Lib.hid hc3
    clear hlen hgo hg1 hc3 r0 r1 f0 f1
    go_wp2_with fail
    refine Hc3.out.mono ?_
    rintro e w4 ⟨p4, H4, rfl, ht4, hb4⟩
    have hR4 := HR.out.ext hb4
    have r0 := hR4.c0
    have r1 := hR4.c1
    have f0 := hR4.fz 0
    have f1 := hR4.fz 1
    obtain ⟨N, hN⟩ : ∃ N, (rep es key []).length = N := ⟨_, rfl⟩
    have HT4 := Lib.hid (ht4.turn (turn_put w4 (w.heap.size + 1) (.pointer p4) (.int .i64 (N : Int))) (TF.one hR4))
    have HP := Lib.hid (hR4.put p4 (N : Int))
    have e0 := HP.out.c0
    have e1 := HP.out.c1
    have Hb4 := Lib.hid (HB2.out.trans (hb4.mono HB2.out.size))
    have HNN := Lib.hid hN
    rw [hN]
    clear ht4 hb4 hR4 Hc3 hN
    go_wp2_with fail
    refine bodyPost_ret (v := .tuple #[.agg #[.pointer p4, .int .i64 (N : Int)], .bool true]) (by rw [results_cell_tmp rfl]; go_simp) rfl ⟨p4, H4, by rw [hL.out, HNN.out, hI], by rw [hL.out]; exact HT4.out, below_put Hb4.out (by omega)⟩
end Go.Proofs.YtjkpjbgapemieaaGreatDoor
