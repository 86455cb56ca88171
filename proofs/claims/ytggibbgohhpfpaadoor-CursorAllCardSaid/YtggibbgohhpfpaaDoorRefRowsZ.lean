/-
  The document's Rows.
-/
import Derived.Test.YtggibbgohhpfpaaDoorTreeZ
import Derived.Test.YtggibbgohhpfpaaDoorSplZ
import Derived.Test.YtggibbgohhpfpaaDoorLessZ
import Derived.Test.YtggibbgohhpfpaaDoorRefTreeZ
namespace Go.Proofs.YtggibbgohhpfpaaDoor
open Go Go.RowKit

theorem rows_hit {s : Sp} {L : List En} {k m : Nat} {most : Int} (hm : m = (inS s (L.take k)).length) (h1 : m ≤ most.toNat) (g : most ≤ (m : Int)) (hk : k < L.length) (hD : hasS s (ea L k).k = true) :
    inS s (L.take k) = (inS s L).take most.toNat ∧ decide (most.toNat < (inS s L).length) = true := by
  have e : inS s L = inS s (L.take k) ++ (ea L k :: inS s (L.drop (k + 1))) := by
    conv => lhs; rw [← List.take_append_drop k L, ea_drop L k hk, inS_app, inS_cons, if_pos hD]
  have h2 : most.toNat = m := by omega
  rw [e, h2, hm]
  refine ⟨?_, ?_⟩
  · rw [List.take_append_of_le_length (Nat.le_refl _), List.take_of_length_le (Nat.le_refl _)]
  · rw [decide_eq_true_iff, List.length_append, List.length_cons]; omega
theorem rows_end {s : Sp} {L : List En} {m : Nat} {most : Int} (hm : m = (inS s L).length) (h1 : m ≤ most.toNat) : inS s L = (inS s L).take most.toNat ∧ decide (most.toNat < (inS s L).length) = false := by
  refine ⟨(List.take_of_length_le (by omega)).symm, decide_eq_false (by omega)⟩
theorem ea_back (es : List En) (k : Nat) (hk : k < es.length) : ea (turnB true es) k = ea es (es.length - 1 - k) := by
  unfold turnB ea
  rw [if_pos rfl]
  simp [List.getD, List.getElem?_reverse hk]
theorem rowsM_turn (s : Sp) (es : List En) (most : Int) (back : Bool) : rowsM s es most = decide (most.toNat < (inS s (turnB back es)).length) := by
  unfold rowsM; rw [in_turn, turn_len]
set_option maxRecDepth 100000 in
theorem refRows_front (a : Option Addr) (n c : Nat) (es : List En) (s : Sp) (most : Int) (w : World) (hn : es.length = n) (hs : ES entE w a es) (hok : ∀ e ∈ es, okE e) (hl : n ≤ 60000) (hmost : -9223372036854775808 ≤ most ∧ most ≤ 9223372036854775807) :
    Calls Tryd.prog 29 #[.slice a n c, s.v, .int .i64 most, .bool false] w fun e w' => ∃ u, e = .returned (.tuple #[u, .bool (rowsM s es most)]) ∧ EV entE w' u (rowsL s es most false) ∧ Below w.heap.size w w' := by
  obtain ⟨W, hW, hnew, hbW⟩ := alloc_own w RSP #[.string s.lo, .string s.hi, .bool s.op]
  have hsp : SpIn W w.heap.size RSP s := hnew
  obtain ⟨L, hL⟩ : ∃ L, turnB false es = L := ⟨_, rfl⟩
  have hLn : L.length = n := by rw [← hL, turn_len]; exact hn
  have HW := Lib.hid hW
  have Hsp := Lib.hid hsp
  have Hs := Lib.hid hs
  have Hok := Lib.hid hok
  have Hn := Lib.hid hn
  have HL := Lib.hid hL
  have HLn := Lib.hid hLn
  have HbW := Lib.hid hbW
  have Hans : Hid (∀ T : List En × Bool, inS s L = T.1 → True) := fun _ _ => trivial
  rw [rowsM_turn s es most false]
  unfold rowsL
  rw [hL]
  unfold Sp.v
  clear hW hnew hbW hsp hs hok hn hL hLn Hans
  go_enter Tryd.func29, Tryd.ntmps29
  go_wp2_with fail
  rw [HW.out]
  go_loopw [10, 11, 12] (fun u i _ wr => ∃ (k : Nat) (v : Value) (m : Nat), v = u ∧ i = .int .i64 k ∧ k ≤ n ∧ Hid (m = (inS s (L.take k)).length ∧ m ≤ most.toNat) ∧ Hid (wr.ownsRow W.heap.size RET entE.sz v m (entE.row (inS s (L.take k)))) ∧ Hid (Below W.heap.size W wr)) (fun _ i _ _ => n - (intOf i).toNat)
  case atStart => exact ⟨0, nilS, 0, rfl, rfl, by omega, ⟨rfl, by omega⟩, World.ownsRow_nil _ _ _ _, Below.refl _ _⟩
  case round =>
    obtain ⟨k, v, m, rfl, rfl, hk, hm, hown, hB⟩ := hrel
    have hmk : m ≤ k := by
      have h1 := hm.out.1
      have h2 := inS_len s (L.take k)
      rw [List.length_take] at h2; omega
    have hev : EV entE wr v (inS s (L.take k)) := by
      have h := hown.out
      rw [hm.out.1] at h; exact own_ev h
    obtain ⟨av, cv, hv, _⟩ := hev
    rw [← hm.out.1] at hv
    subst hv
    by_cases hlt : k < n
    · have hkl : k < es.length := by have := Hn.out; omega
      have hkL : k < L.length := by have := HLn.out; omega
      obtain ⟨g, o, rfl, hcell⟩ := (Hs.out.below (HbW.out.trans (hB.out.mono HbW.out.size)) (Nat.le_refl _)).ents (by omega)
      obtain ⟨p0, p1⟩ := hcell k hkl
      have hmem : ea L k ∈ es := by
        have h := ea_mem hkl
        rw [← HL.out]; exact h
      rw [show ea es k = ea L k by rw [← HL.out]; rfl] at p0 p1
      have htk : L.take (k + 1) = L.take k ++ [ea L k] := ea_take L k hkL
      have hsz := has_len (Hok.out _ hmem)
      have hb1 : Below wr.heap.size wr (wr.alloc (.cells #[.string (ea L k).k, .string (ea L k).v] RET)) := (Below.refl _ _).alloc (Nat.le_refl _) _
      obtain ⟨W1, hW1⟩ : ∃ W1, wr.alloc (.cells #[.string (ea L k).k, .string (ea L k).v] RET) = W1 := ⟨_, rfl⟩
      have hblk : W1.heap[wr.heap.size]? = some (.cells #[.string (ea L k).k, .string (ea L k).v] RET (0, 0)) := by
        rw [← hW1]; show (wr.heap.push _)[wr.heap.size]? = _; rw [Array.getElem?_push_size]
      rw [hW1] at hb1
      have s1 := (Hsp.out.ext hB.out).ext hb1
      have r0 := s1.c0
      have r1 := s1.c1
      have r2 := s1.c2
      rw [← hW1] at r0 r1 r2
      have Hhas := Lib.hid (refHas_any s (ea L k).k W1 hsz)
      have HW1 := Lib.hid hW1
      have HB1 := Lib.hid (hB.out.trans (hb1.mono hB.out.size))
      have Hown1 := Lib.hid (own_ext hown.out hb1)
      have Hblk := Lib.hid hblk
      have HkL := Lib.hid hkL
      cases hD : hasS s (ea L k).k with
      | false =>
        rw [hD] at Hhas
        unfold Sp.v at Hhas
        have e2 : inS s (L.take (k + 1)) = inS s (L.take k) := by
          rw [htk, inS_app]; unfold inS; simp [hD]
        have Hm2 : Hid (m = (inS s (L.take (k + 1))).length ∧ m ≤ most.toNat) := by show _ ∧ _; rw [e2]; exact hm.out
        have Ho2 : Hid (∀ w2, Below W1.heap.size W1 w2 → w2.ownsRow W.heap.size RET entE.sz (.slice av m cv) m (entE.row (inS s (L.take (k + 1))))) := fun w2 hb2 => by rw [e2]; exact own_ext Hown1.out hb2
        generalize ea L k = y at *
        clear hcell htk hsz hW1 hb1 hblk s1 hD e2 hm hown hB hmem
        go_wp2_with fail
        rw [HW1.out]
        refine Hhas.out.mono ?_
        rintro e w2 ⟨rfl, hb2⟩
        have Ho3 := Lib.hid (Ho2.out w2 hb2)
        have HB2 := Lib.hid (HB1.out.trans (hb2.mono HB1.out.size))
        clear hb2 Ho2 Hhas p0 p1 r0 r1 r2
        go_wp2_with fail
        go_roundw
        case rel => exact ⟨k + 1, .slice av m cv, m, rfl, by go_num, by omega, Hm2, Ho3, HB2⟩
        case measure => simp [intOf]; omega
      | true =>
        rw [hD] at Hhas
        unfold Sp.v at Hhas
        by_cases hg : most ≤ (m : Int)
        · have hh := rows_hit hm.out.1 hm.out.2 hg hkL hD
          have Hh2 := Lib.hid hh.2
          have He : Hid (∀ w2, Below W1.heap.size W1 w2 → EV entE w2 (.slice av m cv) ((inS s L).take most.toNat)) := fun w2 hb2 => by
            rw [← hh.1]
            have h := own_ext Hown1.out hb2
            rw [hm.out.1] at h ⊢
            exact own_ev h
          generalize ea L k = y at *
          clear hcell htk hsz hW1 hb1 hblk s1 hD hm hown hB hmem hh
          go_wp2_with fail
          rw [HW1.out]
          refine Hhas.out.mono ?_
          rintro e w2 ⟨rfl, hb2⟩
          have He2 := Lib.hid (He.out w2 hb2)
          have HB2 := Lib.hid (HbW.out.trans ((HB1.out.trans (hb2.mono HB1.out.size)).mono HbW.out.size))
          clear hb2 He Hhas p0 p1 r0 r1 r2
          go_wp2_with fail
          go_ret2
          exact ⟨_, by rw [Hh2.out]; rfl, He2.out, HB2.out⟩
        · have e2 : inS s (L.take (k + 1)) = inS s (L.take k) ++ [ea L k] := by
            rw [htk, inS_app]; unfold inS; simp [hD]
          have Hm2 : Hid (m + 1 = (inS s (L.take (k + 1))).length ∧ m + 1 ≤ most.toNat) := by
            show _ ∧ _
            rw [e2, List.length_append, ← hm.out.1]
            exact ⟨rfl, by omega⟩
          have Happ : Hid (∀ w2, Below W1.heap.size W1 w2 → w2.cell? ⟨wr.heap.size, 0, none⟩ = some (.string (ea L k).k) ∧ w2.cell? ⟨wr.heap.size, 1, none⟩ = some (.string (ea L k).v) ∧
              ∃ v2 w3, (Builtin.append_ #[SRET, SRET] SRET #[.slice av m cv, .slice (some ⟨w2.heap.size, 0, none⟩) 1 1]).run Tryd.prog (w2.alloc (.cells #[.string (ea L k).k, .string (ea L k).v] RET)) = .ok v2 w3 ∧
                w3.ownsRow W.heap.size RET entE.sz v2 (m + 1) (entE.row (inS s (L.take (k + 1)))) ∧ Below W.heap.size W w3) := fun w2 hb2 => by
            have hWx := HB1.out.trans (hb2.mono HB1.out.size)
            have hba := hWx.alloc hWx.size (.cells #[.string (ea L k).k, .string (ea L k).v] RET)
            have hlit : ES entE (w2.alloc (.cells #[.string (ea L k).k, .string (ea L k).v] RET)) (some ⟨w2.heap.size, 0, none⟩) [ea L k] := ES.lit (E := entE) (l := [ea L k]) (heap_new w2 _ _)
            obtain ⟨v2, w3, hrun, hb3, ho3⟩ := run_app_own (P := Tryd.prog) (w := w2.alloc (.cells #[.string (ea L k).k, .string (ea L k).v] RET)) (E := entE) W.heap.size SRET SRET RET Tryd.underlying37 infoRE (.slice av m cv) m (inS s (L.take k)) ((own_ext Hown1.out hb2).alloc _) hba.size (some ⟨w2.heap.size, 0, none⟩) 1 1 [ea L k] rfl (fun h => by cases h) hlit (by unfold maxLen; omega) (by show _ * 32 ≤ _; omega)
            have hx := (hb2.block _ (Array.getElem?_eq_some_iff.1 Hblk.out).1).trans Hblk.out
            refine ⟨by simp [World.cell?, hx], by simp [World.cell?, hx], v2, w3, hrun, by rw [e2]; exact ho3, hba.trans hb3⟩
          generalize ea L k = y at *
          clear hcell htk hsz hW1 hb1 hblk s1 hD e2 hm hown hB hmem
          go_wp2_with fail
          rw [HW1.out]
          refine Hhas.out.mono ?_
          rintro e w2 ⟨rfl, hb2⟩
          obtain ⟨x0, x1, v2, w3, hrun, ho3, hb3⟩ := Happ.out w2 hb2
          have Ho3 := Lib.hid ho3
          have HB2 := Lib.hid hb3
          clear hb2 Happ ho3 hb3 Hhas p0 p1 r0 r1 r2
          go_wp2_with (at_builtin; refine Lib.wpList_append_run _ rfl (.tmp 42) (.tmp 44) _ _ rfl _ _ (by rfl) (by rfl) _ _ hrun ?_)
          go_wp2_with fail
          go_roundw
          case rel => exact ⟨k + 1, v2, m + 1, rfl, by go_num, by omega, Hm2, Ho3, HB2⟩
          case measure => simp [intOf]; omega
    · obtain rfl : k = n := by omega
      have ho := hown.out
      have hm2 := hm.out
      rw [List.take_of_length_le (by have := HLn.out; omega)] at ho hm2
      have hh := rows_end hm2.1 hm2.2
      have Hh2 := Lib.hid hh.2
      have hev : Hid (EV entE wr (.slice av m cv) ((inS s L).take most.toNat)) := by
        rw [← hh.1]
        rw [hm2.1] at ho ⊢
        exact own_ev ho
      have HB := Lib.hid (HbW.out.trans (hB.out.mono HbW.out.size))
      clear ho hm hm2 hh hown hB
      go_wp2
      go_ret2
      exact ⟨_, by rw [Hh2.out]; rfl, hev.out, HB.out⟩
set_option maxRecDepth 100000 in
theorem refRows_back (a : Option Addr) (n c : Nat) (es : List En) (s : Sp) (most : Int) (w : World) (hn : es.length = n) (hs : ES entE w a es) (hok : ∀ e ∈ es, okE e) (hl : n ≤ 60000) (hmost : -9223372036854775808 ≤ most ∧ most ≤ 9223372036854775807) :
    Calls Tryd.prog 29 #[.slice a n c, s.v, .int .i64 most, .bool true] w fun e w' => ∃ u, e = .returned (.tuple #[u, .bool (rowsM s es most)]) ∧ EV entE w' u (rowsL s es most true) ∧ Below w.heap.size w w' := by
  obtain ⟨W, hW, hnew, hbW⟩ := alloc_own w RSP #[.string s.lo, .string s.hi, .bool s.op]
  have hsp : SpIn W w.heap.size RSP s := hnew
  obtain ⟨L, hL⟩ : ∃ L, turnB true es = L := ⟨_, rfl⟩
  have hLn : L.length = n := by rw [← hL, turn_len]; exact hn
  have HW := Lib.hid hW
  have Hsp := Lib.hid hsp
  have Hs := Lib.hid hs
  have Hok := Lib.hid hok
  have Hn := Lib.hid hn
  have HL := Lib.hid hL
  have HLn := Lib.hid hLn
  have HbW := Lib.hid hbW
  have Hans : Hid (∀ T : List En × Bool, inS s L = T.1 → True) := fun _ _ => trivial
  rw [rowsM_turn s es most true]
  unfold rowsL
  rw [hL]
  unfold Sp.v
  clear hW hnew hbW hsp hs hok hn hL hLn Hans
  go_enter Tryd.func29, Tryd.ntmps29
  go_wp2_with fail
  rw [HW.out]
  go_loopw [10, 11, 12] (fun u i _ wr => ∃ (k : Nat) (v : Value) (m : Nat), v = u ∧ i = .int .i64 k ∧ k ≤ n ∧ Hid (m = (inS s (L.take k)).length ∧ m ≤ most.toNat) ∧ Hid (wr.ownsRow W.heap.size RET entE.sz v m (entE.row (inS s (L.take k)))) ∧ Hid (Below W.heap.size W wr)) (fun _ i _ _ => n - (intOf i).toNat)
  case atStart => exact ⟨0, nilS, 0, rfl, rfl, by omega, ⟨rfl, by omega⟩, World.ownsRow_nil _ _ _ _, Below.refl _ _⟩
  case round =>
    obtain ⟨k, v, m, rfl, rfl, hk, hm, hown, hB⟩ := hrel
    have hmk : m ≤ k := by
      have h1 := hm.out.1
      have h2 := inS_len s (L.take k)
      rw [List.length_take] at h2; omega
    have hev : EV entE wr v (inS s (L.take k)) := by
      have h := hown.out
      rw [hm.out.1] at h; exact own_ev h
    obtain ⟨av, cv, hv, _⟩ := hev
    rw [← hm.out.1] at hv
    subst hv
    by_cases hlt : k < n
    · have hkl : k < es.length := by have := Hn.out; omega
      have hkL : k < L.length := by have := HLn.out; omega
      obtain ⟨g, o, rfl, hcell⟩ := (Hs.out.below (HbW.out.trans (hB.out.mono HbW.out.size)) (Nat.le_refl _)).ents (by omega)
      obtain ⟨p0, p1⟩ := hcell k hkl
      have hq : es.length - 1 - k < es.length := by omega
      have eb : ea L k = ea es (es.length - 1 - k) := by rw [← HL.out]; exact ea_back es k hkl
      have hmem : ea L k ∈ es := by rw [eb]; exact ea_mem hq
      obtain ⟨p2, p3⟩ := hcell (es.length - 1 - k) hq
      rw [← eb] at p2 p3
      obtain ⟨q, hq2⟩ : ∃ q, es.length - 1 - k = q := ⟨_, rfl⟩
      rw [hq2] at p2 p3
      have hqn : q < n := by have := Hn.out; omega
      have eq1 : (n : Int) - 1 - (k : Int) = (q : Int) := by have := Hn.out; omega
      have eq2 : IntKind.i64.wrap ((n : Int) - 1 - (k : Int)) = (q : Int) := by rw [IntKind.wrap_i64]; have := Hn.out; omega
      have eq3 : IntKind.i64.wrap ((n : Int) - 1) = (n : Int) - 1 := by rw [IntKind.wrap_i64]; have := Hn.out; omega
      have eq4 : (q : Int) < (n : Int) := by omega
      have eq5 : (0 : Int) ≤ (q : Int) := by omega
      have p2 : ∀ ob, (wr.alloc ob).cell? ⟨g, o + q * 2, none⟩ = some (.string (ea L k).k) := fun ob => by
        rw [((Below.refl wr.heap.size wr).alloc (Nat.le_refl _) ob).cell (p := ⟨g, o + q * 2, none⟩) (block_lt_of_cell p2)]; exact p2
      have p3 : ∀ ob, (wr.alloc ob).cell? ⟨g, o + q * 2 + 1, none⟩ = some (.string (ea L k).v) := fun ob => by
        rw [((Below.refl wr.heap.size wr).alloc (Nat.le_refl _) ob).cell (p := ⟨g, o + q * 2 + 1, none⟩) (block_lt_of_cell p3)]; exact p3
      generalize ea es k = y0 at *
      clear eb hq hq2
      have htk : L.take (k + 1) = L.take k ++ [ea L k] := ea_take L k hkL
      have hsz := has_len (Hok.out _ hmem)
      have hb1 : Below wr.heap.size wr (wr.alloc (.cells #[.string (ea L k).k, .string (ea L k).v] RET)) := (Below.refl _ _).alloc (Nat.le_refl _) _
      obtain ⟨W1, hW1⟩ : ∃ W1, wr.alloc (.cells #[.string (ea L k).k, .string (ea L k).v] RET) = W1 := ⟨_, rfl⟩
      have hblk : W1.heap[wr.heap.size]? = some (.cells #[.string (ea L k).k, .string (ea L k).v] RET (0, 0)) := by
        rw [← hW1]; show (wr.heap.push _)[wr.heap.size]? = _; rw [Array.getElem?_push_size]
      rw [hW1] at hb1
      have s1 := (Hsp.out.ext hB.out).ext hb1
      have r0 := s1.c0
      have r1 := s1.c1
      have r2 := s1.c2
      rw [← hW1] at r0 r1 r2
      have Hhas := Lib.hid (refHas_any s (ea L k).k W1 hsz)
      have HW1 := Lib.hid hW1
      have HB1 := Lib.hid (hB.out.trans (hb1.mono hB.out.size))
      have Hown1 := Lib.hid (own_ext hown.out hb1)
      have Hblk := Lib.hid hblk
      have HkL := Lib.hid hkL
      cases hD : hasS s (ea L k).k with
      | false =>
        rw [hD] at Hhas
        unfold Sp.v at Hhas
        have e2 : inS s (L.take (k + 1)) = inS s (L.take k) := by
          rw [htk, inS_app]; unfold inS; simp [hD]
        have Hm2 : Hid (m = (inS s (L.take (k + 1))).length ∧ m ≤ most.toNat) := by show _ ∧ _; rw [e2]; exact hm.out
        have Ho2 : Hid (∀ w2, Below W1.heap.size W1 w2 → w2.ownsRow W.heap.size RET entE.sz (.slice av m cv) m (entE.row (inS s (L.take (k + 1))))) := fun w2 hb2 => by rw [e2]; exact own_ext Hown1.out hb2
        generalize ea L k = y at *
        clear hcell htk hsz hW1 hb1 hblk s1 hD e2 hm hown hB hmem
        go_wp2_with fail
        rw [HW1.out]
        refine Hhas.out.mono ?_
        rintro e w2 ⟨rfl, hb2⟩
        have Ho3 := Lib.hid (Ho2.out w2 hb2)
        have HB2 := Lib.hid (HB1.out.trans (hb2.mono HB1.out.size))
        clear hb2 Ho2 Hhas p0 p1 p2 p3 r0 r1 r2
        go_wp2_with fail
        go_roundw
        case rel => exact ⟨k + 1, .slice av m cv, m, rfl, by go_num, by omega, Hm2, Ho3, HB2⟩
        case measure => simp [intOf]; omega
      | true =>
        rw [hD] at Hhas
        unfold Sp.v at Hhas
        by_cases hg : most ≤ (m : Int)
        · have hh := rows_hit hm.out.1 hm.out.2 hg hkL hD
          have Hh2 := Lib.hid hh.2
          have He : Hid (∀ w2, Below W1.heap.size W1 w2 → EV entE w2 (.slice av m cv) ((inS s L).take most.toNat)) := fun w2 hb2 => by
            rw [← hh.1]
            have h := own_ext Hown1.out hb2
            rw [hm.out.1] at h ⊢
            exact own_ev h
          generalize ea L k = y at *
          clear hcell htk hsz hW1 hb1 hblk s1 hD hm hown hB hmem hh
          go_wp2_with fail
          rw [HW1.out]
          refine Hhas.out.mono ?_
          rintro e w2 ⟨rfl, hb2⟩
          have He2 := Lib.hid (He.out w2 hb2)
          have HB2 := Lib.hid (HbW.out.trans ((HB1.out.trans (hb2.mono HB1.out.size)).mono HbW.out.size))
          clear hb2 He Hhas p0 p1 p2 p3 r0 r1 r2
          go_wp2_with fail
          go_ret2
          exact ⟨_, by rw [Hh2.out]; rfl, He2.out, HB2.out⟩
        · have e2 : inS s (L.take (k + 1)) = inS s (L.take k) ++ [ea L k] := by
            rw [htk, inS_app]; unfold inS; simp [hD]
          have Hm2 : Hid (m + 1 = (inS s (L.take (k + 1))).length ∧ m + 1 ≤ most.toNat) := by
            show _ ∧ _
            rw [e2, List.length_append, ← hm.out.1]
            exact ⟨rfl, by omega⟩
          have Happ : Hid (∀ w2, Below W1.heap.size W1 w2 → w2.cell? ⟨wr.heap.size, 0, none⟩ = some (.string (ea L k).k) ∧ w2.cell? ⟨wr.heap.size, 1, none⟩ = some (.string (ea L k).v) ∧
              ∃ v2 w3, (Builtin.append_ #[SRET, SRET] SRET #[.slice av m cv, .slice (some ⟨w2.heap.size, 0, none⟩) 1 1]).run Tryd.prog (w2.alloc (.cells #[.string (ea L k).k, .string (ea L k).v] RET)) = .ok v2 w3 ∧
                w3.ownsRow W.heap.size RET entE.sz v2 (m + 1) (entE.row (inS s (L.take (k + 1)))) ∧ Below W.heap.size W w3) := fun w2 hb2 => by
            have hWx := HB1.out.trans (hb2.mono HB1.out.size)
            have hba := hWx.alloc hWx.size (.cells #[.string (ea L k).k, .string (ea L k).v] RET)
            have hlit : ES entE (w2.alloc (.cells #[.string (ea L k).k, .string (ea L k).v] RET)) (some ⟨w2.heap.size, 0, none⟩) [ea L k] := ES.lit (E := entE) (l := [ea L k]) (heap_new w2 _ _)
            obtain ⟨v2, w3, hrun, hb3, ho3⟩ := run_app_own (P := Tryd.prog) (w := w2.alloc (.cells #[.string (ea L k).k, .string (ea L k).v] RET)) (E := entE) W.heap.size SRET SRET RET Tryd.underlying37 infoRE (.slice av m cv) m (inS s (L.take k)) ((own_ext Hown1.out hb2).alloc _) hba.size (some ⟨w2.heap.size, 0, none⟩) 1 1 [ea L k] rfl (fun h => by cases h) hlit (by unfold maxLen; omega) (by show _ * 32 ≤ _; omega)
            have hx := (hb2.block _ (Array.getElem?_eq_some_iff.1 Hblk.out).1).trans Hblk.out
            refine ⟨by simp [World.cell?, hx], by simp [World.cell?, hx], v2, w3, hrun, by rw [e2]; exact ho3, hba.trans hb3⟩
          generalize ea L k = y at *
          clear hcell htk hsz hW1 hb1 hblk s1 hD e2 hm hown hB hmem
          go_wp2_with fail
          rw [HW1.out]
          refine Hhas.out.mono ?_
          rintro e w2 ⟨rfl, hb2⟩
          obtain ⟨x0, x1, v2, w3, hrun, ho3, hb3⟩ := Happ.out w2 hb2
          have Ho3 := Lib.hid ho3
          have HB2 := Lib.hid hb3
          clear hb2 Happ ho3 hb3 Hhas p0 p1 p2 p3 r0 r1 r2
          go_wp2_with (at_builtin; refine Lib.wpList_append_run _ rfl (.tmp 42) (.tmp 44) _ _ rfl _ _ (by rfl) (by rfl) _ _ hrun ?_)
          go_wp2_with fail
          go_roundw
          case rel => exact ⟨k + 1, v2, m + 1, rfl, by go_num, by omega, Hm2, Ho3, HB2⟩
          case measure => simp [intOf]; omega
    · obtain rfl : k = n := by omega
      have ho := hown.out
      have hm2 := hm.out
      rw [List.take_of_length_le (by have := HLn.out; omega)] at ho hm2
      have hh := rows_end hm2.1 hm2.2
      have Hh2 := Lib.hid hh.2
      have hev : Hid (EV entE wr (.slice av m cv) ((inS s L).take most.toNat)) := by
        rw [← hh.1]
        rw [hm2.1] at ho ⊢
        exact own_ev ho
      have HB := Lib.hid (HbW.out.trans (hB.out.mono HbW.out.size))
      clear ho hm hm2 hh hown hB
      go_wp2
      go_ret2
      exact ⟨_, by rw [Hh2.out]; rfl, hev.out, HB.out⟩
theorem refRows_any (a : Option Addr) (n c : Nat) (es : List En) (s : Sp) (most : Int) (back : Bool) (w : World) (hn : es.length = n) (hs : ES entE w a es) (hok : ∀ e ∈ es, okE e) (hl : n ≤ 60000) (hmost : -9223372036854775808 ≤ most ∧ most ≤ 9223372036854775807) :
    Calls Tryd.prog 29 #[.slice a n c, s.v, .int .i64 most, .bool back] w fun e w' => ∃ u, e = .returned (.tuple #[u, .bool (rowsM s es most)]) ∧ EV entE w' u (rowsL s es most back) ∧ Below w.heap.size w w' := by
  cases back with
  | false => exact refRows_front a n c es s most w hn hs hok hl hmost
  | true => exact refRows_back a n c es s most w hn hs hok hl hmost
end Go.Proofs.YtggibbgohhpfpaaDoor
