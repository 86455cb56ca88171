/-
  What the law PlanFew stands on.
-/
import Derived.Test.YtdgladhfibfdlaaGreatDoorQPlanFew02
import Derived.Test.YtdgladhfibfdlaaGreatDoorQPlanFew07
import Derived.Test.YtdgladhfibfdlaaGreatDoorQPlanFew18
import Derived.WalkKit
import Derived.Below
import Derived.Lib.Hide
import Derived.Test.YtdgladhfibfdlaaGreatDoorQPlanFew01
import Derived.Test.YtdgladhfibfdlaaGreatDoorProg
import Derived.Test.YtdgladhfibfdlaaGreatDoorQPlanFew06
import Derived.Test.YtdgladhfibfdlaaGreatDoorQPlanFew05
import Derived.Test.YtdgladhfibfdlaaGreatDoorQPlanFew15
import Derived.OwnWalk
import Derived.Test.YtdgladhfibfdlaaGreatDoorQPlanFew14
import Derived.Deep.Slices
import Derived.Deep.Grids
namespace Go.Proofs.YtdgladhfibfdlaaGreatDoor
open Go Go.RowKit
abbrev CT : TypeId := 182
theorem plB_in (k v : ByteArray) (n p : Int) (h : n ≤ 64) : plB ⟨k, v, n, p⟩ = (((v.size : Int) == n) && (p == 0)) := by
  unfold plB; simp only; rw [if_pos h, Bool.eq_iff_iff]; simp
theorem plB_out (k v : ByteArray) (n p : Int) (h : ¬ n ≤ 64) : plB ⟨k, v, n, p⟩ = (v.toList.isEmpty && (decide (2 ≤ p) && decide (p < 1024))) := by
  have e : v.toList.isEmpty = decide (v.size = 0) := by
    rw [Bool.eq_iff_iff, List.isEmpty_iff, decide_eq_true_iff, Lib.toList_data]
    constructor
    · intro h; have := congrArg List.length h; simpa using this
    · intro h; exact List.eq_nil_of_length_eq_zero (by simpa using h)
  unfold plB; simp only; rw [if_neg h, e, Bool.eq_iff_iff]; simp; omega
theorem placed_any (k v : ByteArray) (n p : Int) (w : World) : Calls Tryz.prog 170 #[.agg #[.string k, .string v, .int .i64 n, .int .i64 p]] w fun e w' => e = .returned (.bool (plB ⟨k, v, n, p⟩)) ∧ Below w.heap.size w w' := by
  have hb : Hid (Below w.heap.size w (w.alloc (.cells #[.string k, .string v, .int .i64 n, .int .i64 p] CT))) := (Below.refl _ _).alloc (Nat.le_refl _) _
  have hi := fun w => isIn_any n w
  by_cases h1 : n ≤ 64
  · have hp := Lib.hid (plB_in k v n p h1)
    have d1 : decide (n ≤ 64) = true := by simpa using h1
    rw [d1] at hi
    obtain ⟨D, hD⟩ : ∃ D, ((v.size : Int) == n) = D := ⟨_, rfl⟩
    rw [hD] at hp
    obtain ⟨E, hE⟩ : ∃ E, (p == 0) = E := ⟨_, rfl⟩
    rw [hE] at hp
    clear d1 h1
    go_enter Tryz.func170, Tryz.ntmps170
    go_wp2_with fail
    refine (hi _).mono ?_
    rintro e w' ⟨rfl, rfl⟩
    cases D
    all_goals
      go_wp2
      go_ret
      exact ⟨by rw [hp.out]; rfl, hb.out⟩
  · have hp := Lib.hid (plB_out k v n p h1)
    have d1 : decide (n ≤ 64) = false := by simpa using h1
    rw [d1] at hi
    obtain ⟨E, hE⟩ : ∃ E, decide (2 ≤ p) = E := ⟨_, rfl⟩
    rw [hE] at hp
    obtain ⟨F, hF⟩ : ∃ F, decide (p < 1024) = F := ⟨_, rfl⟩
    rw [hF] at hp
    clear d1 h1
    by_cases hv : v.toList = []
    · have hp2 : Hid (plB ⟨k, v, n, p⟩ = (E && F)) := by show _ = _; rw [hp.out, hv]; rfl
      clear hp
      go_enter Tryz.func170, Tryz.ntmps170
      go_wp2_with fail
      refine (hi _).mono ?_
      rintro e w' ⟨rfl, rfl⟩
      cases E
      all_goals
        go_wp2
        go_ret
        exact ⟨by rw [hp2.out]; rfl, hb.out⟩
    · have hp2 : Hid (plB ⟨k, v, n, p⟩ = false) := by
        show _ = _
        rw [hp.out, show v.toList.isEmpty = false from by simpa using hv]; rfl
      have hv2 : v.toList.isEmpty = false := by simpa using hv
      clear hp
      go_enter Tryz.func170, Tryz.ntmps170
      go_wp2_with fail
      refine (hi _).mono ?_
      rintro e w' ⟨rfl, rfl⟩
      go_wp2
      go_ret
      exact ⟨by rw [hp2.out]; rfl, hb.out⟩
def chkC (b : Bool) : Value := if b = true then .nilIface else .iface 110 (.int .i64 1)
theorem leafCheck_any (k v : ByteArray) (n p : Int) (w : World) : Calls Tryz.prog 133 #[.agg #[.string k, .string v, .int .i64 n, .int .i64 p]] w fun e w' => e = .returned (chkC (mayB ⟨k, v, n, p⟩)) ∧ Below w.heap.size w w' := by
  have hb0 : Below w.heap.size w (w.alloc (.cells #[.string k, .string v, .int .i64 n, .int .i64 p] CT)) := (Below.refl _ _).alloc (Nat.le_refl _) _
  have hb := Lib.hid hb0
  have hm : Hid (mayB ⟨k, v, n, p⟩ = (okK k && (decide (n ≤ 2048) && plB ⟨k, v, n, p⟩))) := rfl
  have hk := fun w => check_any k w
  have hp := Lib.hid (placed_any k v n p (w.alloc (.cells #[.string k, .string v, .int .i64 n, .int .i64 p] CT)))
  clear hb0
  unfold chkV at hk
  generalize plB ⟨k, v, n, p⟩ = P at *
  generalize mayB ⟨k, v, n, p⟩ = M at *
  obtain ⟨K, hK⟩ : ∃ K, okK k = K := ⟨_, rfl⟩
  rw [hK] at hk hm
  clear hK
  cases K with
  | false =>
    simp only [Bool.false_eq_true, if_false] at hk
    have hM : Hid (M = false) := by show _ = _; rw [hm.out]; rfl
    clear hm
    go_enter Tryz.func133, Tryz.ntmps133
    go_wp2_with fail
    refine (hk _).mono ?_
    rintro e w' ⟨rfl, rfl⟩
    go_wp2
    go_ret
    exact ⟨by rw [hM.out]; rfl, hb.out⟩
  | true =>
    simp only [if_true] at hk
    by_cases h1 : 2048 < n
    · have hM : Hid (M = false) := by show _ = _; rw [hm.out, show decide (n ≤ 2048) = false by simp; omega]; rfl
      have d1 : decide (2048 < n) = true := by simpa using h1
      clear hm h1
      go_enter Tryz.func133, Tryz.ntmps133
      go_wp2_with fail
      refine (hk _).mono ?_
      rintro e w' ⟨rfl, rfl⟩
      go_wp2
      go_ret
      exact ⟨by rw [hM.out]; rfl, hb.out⟩
    · have hM : Hid (M = P) := by show _ = _; rw [hm.out, show decide (n ≤ 2048) = true by simp; omega]; simp
      have d1 : decide (2048 < n) = false := by simpa using h1
      clear hm h1
      go_enter Tryz.func133, Tryz.ntmps133
      go_wp2_with fail
      refine (hk _).mono ?_
      rintro e w' ⟨rfl, rfl⟩
      go_wp2_with fail
      refine hp.out.mono ?_
      rintro e w' ⟨rfl, hb2⟩
      have Hb2 := Lib.hid (hb.out.trans (hb2.mono hb.out.size))
      clear hb2 hp hb
      cases P
      all_goals
        go_wp2
        go_ret
        exact ⟨by rw [hM.out]; rfl, Hb2.out⟩
end Go.Proofs.YtdgladhfibfdlaaGreatDoor
namespace Go.Proofs.YtdgladhfibfdlaaGreatDoor
open Go Go.RowKit
theorem parts_two (w : World) (E : TypeId) (a a2 : Option Addr) (n c n2 c2 : Nat) (l l2 : List Nat) (hn : l.length = n) (hn2 : l2.length = n2) (hs : Src w a l) (hs2 : Src w a2 l2) (hz : a = none → c = 0) (hz2 : a2 = none → c2 = 0) :
    Parts (w.alloc (.cells #[.slice a n c, .slice a2 n2 c2] E)) w.heap.size [l, l2] := fun i hi => by
  have hb : Below w.heap.size w (w.alloc (.cells #[.slice a n c, .slice a2 n2 c2] E)) := (Below.refl _ _).alloc (Nat.le_refl _) _
  rcases i with _ | _ | i
  · exact ⟨a, c, by simp [hn], hs.below hb (Nat.le_refl _), hz⟩
  · exact ⟨a2, c2, by simp [hn2], hs2.below hb (Nat.le_refl _), hz2⟩
  · simp at hi; omega
theorem concat_two (w : World) (E : TypeId) (g : Nat) (arr : Array Value) (a a2 : Option Addr) (n c n2 c2 : Nat) (l l2 : List Nat) (hg : g = w.heap.size) (harr : arr = #[.slice a n c, .slice a2 n2 c2]) (hn : l.length = n) (hn2 : l2.length = n2) (hs : Src w a l) (hs2 : Src w a2 l2) (hz : a = none → c = 0) (hz2 : a2 = none → c2 = 0)
    (hl : n + n2 ≤ 1099511627776) :
    Calls Tryz.prog 175 #[.slice (some ⟨g, 0, none⟩) 2 2] (w.alloc (.cells arr E)) fun e w' => ∃ v, e = .returned v ∧ Sl w' v (l ++ l2) ∧ Below w.heap.size w w' := by
  subst hg harr
  have hb : Below w.heap.size w (w.alloc (.cells #[.slice a n c, .slice a2 n2 c2] E)) := (Below.refl _ _).alloc (Nat.le_refl _) _
  refine (concat_any w.heap.size 2 2 [l, l2] rfl _ (parts_two w E a a2 n c n2 c2 l l2 hn hn2 hs hs2 hz hz2) (by simp; omega) (by omega)).mono ?_
  rintro e w' ⟨v, rfl, hv, hb'⟩
  refine ⟨v, rfl, ?_, hb.trans (hb'.mono hb.size)⟩
  simpa using hv
set_option maxRecDepth 100000 in
theorem packBytes_any (a a2 : Option Addr) (n c n2 c2 : Nat) (l l2 : List Nat) (hn : l.length = n) (hn2 : l2.length = n2) (w : World) (hs : Src w a l) (hs2 : Src w a2 l2) (hz2 : a2 = none → c2 = 0) (hl : n ≤ 65536) (hl2 : n2 ≤ 1000000) :
    Calls Tryz.prog 142 #[.slice a n c, .slice a2 n2 c2] w fun e w' => ∃ v, e = .returned v ∧ Sl w' v (l ++ vb n2 ++ l2) ∧ Below w.heap.size w w' := by
  have h := packNum_any a n c l hn n2 w hs hl (by omega)
  have Hs2 := Lib.hid hs2
  have Hz2 := Lib.hid hz2
  have Hn := Lib.hid (And.intro hn hn2)
  have h10 := vs_le (show n2 < 18446744073709551616 by omega)
  have Hlen : Hid ((l ++ vb n2).length = n + vs n2) := by show _ = _; rw [List.length_append, hn]; rfl
  clear hs hs2 hz2 hn hn2
  go_enter Tryz.func142, Tryz.ntmps142
  go_wp2_with fail
  refine h.mono ?_
  rintro e w1 ⟨v, rfl, hv, hb⟩
  obtain ⟨a1, c1, rfl, hs1, hz1, _⟩ := hv.arg
  have hs2 := Lib.hid (Hs2.out.below hb (Nat.le_refl _))
  have hlen := Hlen.out
  generalize hL : l ++ vb n2 = L at *
  obtain ⟨N, hN⟩ : ∃ N, N = L.length := ⟨_, rfl⟩
  rw [← hN] at hlen ⊢
  have hN2 : N + n2 ≤ 1099511627776 := by omega
  have HN := Lib.hid (And.intro hL hN)
  clear hlen hL hN Hlen
  have Hs1 := Lib.hid hs1
  have Hz1 := Lib.hid hz1
  have Hb := Lib.hid hb
  clear hv hb h hs1 hz1
  go_wp2_with fail
  refine (concat_two _ _ _ _ a1 a2 N c1 n2 c2 L l2 (by rfl) rfl HN.out.2.symm Hn.out.2 Hs1.out hs2.out Hz1.out Hz2.out hN2).mono ?_
  rintro e w' ⟨v, rfl, hv, hb'⟩
  have hbn := Hb.out.trans (hb'.mono Hb.out.size)
  go_wp2
  go_ret
  exact ⟨_, rfl, by rw [HN.out.1]; exact hv, hbn⟩
end Go.Proofs.YtdgladhfibfdlaaGreatDoor
namespace Go.Proofs.YtdgladhfibfdlaaGreatDoor
open Go Go.RowKit
def tpF (es : List En) (key v : ByteArray) : Nat := if okK key = false then 1 else if 2048 < v.size then 5 else if isE es key = false ∧ 4096 ≤ es.length then 7 else 0
def tpL (es : List En) (key v : ByteArray) : List En := if tpF es key v = 0 then rep es key [⟨key, v, []⟩] else []
set_option maxRecDepth 100000 in
theorem refAt_any (a : Option Addr) (n c : Nat) (es : List En) (key : ByteArray) (w : World) (hn : es.length = n) (hs : ES entE w a es) (hl : n ≤ 100000) :
    Calls Tryz.prog 59 #[.slice a n c, .string key] w fun e w' => e = .returned (.tuple #[.int .i64 (fE es key : Nat), .bool (isE es key)]) ∧ Below w.heap.size w w' := by
  have hlt := Lib.hid (fun i h => fE_lt es key i h)
  have hat := Lib.hid (fE_at es key)
  have hle := fE_le es key
  have hF : fE es key ≤ n := by unfold goneE at hle; split at hle <;> omega
  have hie := Lib.hid (isE_eq es key)
  rw [hn] at hie hat
  have Hs := Lib.hid hs
  have Hn := Lib.hid hn
  clear hs hn hle
  generalize isE es key = I at *
  generalize fE es key = F at *
  go_enter Tryz.func59, Tryz.ntmps59
  go_wp2_with fail
  go_loopw [6] (fun i wr => ∃ k : Nat, i = .int .i64 k ∧ k ≤ F ∧ w = wr) (fun i _ => n - (intOf i).toNat)
  case atStart => exact ⟨0, rfl, by omega, by first | trivial | rfl⟩
  case round =>
    obtain ⟨k, rfl, hk, rfl⟩ := hrel
    by_cases hkF : k < F
    · obtain ⟨g, o, rfl, hcell⟩ := Hs.out.ents (by rw [Hn.out]; omega)
      have q0 := (hcell k (by rw [Hn.out]; omega)).1
      have d1 : Op.bytesLess (ea es k).k.toList key.toList = true := hlt.out k hkF
      have hkn : (k : Int) < (n : Int) := by omega
      generalize (ea es k).k = y at *
      clear hcell
      go_wp2
      go_roundw
      case rel => exact ⟨k + 1, by go_num, by omega, by first | trivial | rfl⟩
      case measure => simp [intOf]; omega
    · obtain rfl : k = F := by omega
      obtain ⟨W, hW⟩ : ∃ W, w.drew = W := ⟨_, rfl⟩
      have hbd : Below w.heap.size w W := by rw [← hW]; exact (Below.refl _ _).drew
      have HW := Lib.hid (And.intro hW hbd)
      by_cases hkn : k < n
      · obtain ⟨g, o, rfl, hcell⟩ := Hs.out.ents (by rw [Hn.out]; omega)
        have q0 := (hcell k (by rw [Hn.out]; omega)).1
        have d1 : Op.bytesLess (ea es k).k.toList key.toList = false := hat.out hkn
        have hI : Hid (I = ((ea es k).k.toList == key.toList)) := by show _ = _; rw [hie.out, decide_eq_true hkn, Bool.true_and]
        obtain ⟨D, hD⟩ : ∃ D, ((ea es k).k.toList == key.toList) = D := ⟨_, rfl⟩
        rw [hD] at hI
        have hknI : (k : Int) < (n : Int) := by omega
        have l0 := block_lt_of_cell q0
        have q1 : ∀ w', Ext W w' → w'.cell? ⟨g, o + k * 2, none⟩ = some (.string (ea es k).k) := fun w' hx => by
          rw [(hbd.trans (hx.mono hbd.size)).cell (p := ⟨g, o + k * 2, none⟩) l0]; exact q0
        generalize (ea es k).k = y at *
        have i1 : (0 : Int) ≤ (k : Int) := by omega
        have z0 : IntKind.i64.wrap (k : Int) = (k : Int) := by rw [IntKind.wrap_i64]; omega
        clear hcell hie hat hlt hW hbd l0
        go_wp2_with fail
        refine wp_region_gr [(0, true), (1, true), (2, true), (3, true), (4, true), (5, true), (6, true), (7, true), (8, true), (9, true), (10, true), (11, true), (12, true), (13, true), (14, true), (15, true)] (by kernel_rfl) (by kernel_rfl) (by kernel_rfl) (by kernel_rfl) (fun _ _ _ _ _ h => h) ?_
        rw [HW.out.1]
        iterate 16 (first | (refine wpGr_read (o := ⟨_, _, _, _, _, _⟩) (v := ?_) rfl (by rfl) ?_ ?_; rotate_left; (intro w' hw'; go_simp; with_reducible rfl); simp only [Act.put, List.setIfInBounds_toArray, List.set_cons_zero, List.set_cons_succ]) | (refine wpGr_skip (o := ⟨_, _, _, _, _, _⟩) rfl (by rfl) ?_; simp only [Act.put, List.setIfInBounds_toArray, List.set_cons_zero, List.set_cons_succ]))
        refine wpGr_done ?_
        go_wp2_with fail
        go_ret2
        exact ⟨by rw [hI.out]; rfl, HW.out.2⟩
      · have hI : Hid (I = false) := by show _ = _; rw [hie.out, decide_eq_false hkn, Bool.false_and]
        have hknI : ¬ (k : Int) < (n : Int) := by omega
        clear hie hat hlt hW hbd
        go_wp2_with fail
        refine wp_region_gr [(0, true), (1, true), (2, true), (3, true), (4, true), (5, true), (6, true), (7, true), (8, true), (9, true), (10, true), (11, true), (12, true), (13, true), (14, true), (15, true)] (by kernel_rfl) (by kernel_rfl) (by kernel_rfl) (by kernel_rfl) (fun _ _ _ _ _ h => h) ?_
        rw [HW.out.1]
        iterate 16 (first | (refine wpGr_read (o := ⟨_, _, _, _, _, _⟩) (v := ?_) rfl (by rfl) ?_ ?_; rotate_left; (intro w' hw'; go_simp; with_reducible rfl); simp only [Act.put, List.setIfInBounds_toArray, List.set_cons_zero, List.set_cons_succ]) | (refine wpGr_skip (o := ⟨_, _, _, _, _, _⟩) rfl (by rfl) ?_; simp only [Act.put, List.setIfInBounds_toArray, List.set_cons_zero, List.set_cons_succ]))
        refine wpGr_done ?_
        go_wp2_with fail
        go_ret2
        exact ⟨by rw [hI.out]; rfl, HW.out.2⟩
theorem drop_slice {w : World} {g o c n r : Nat} {es : List En} (hs : ES entE w (some ⟨g, o, none⟩) es) (hn : es.length = n) (hr : r ≤ n) (hnc : n ≤ c) :
    ∃ A3, (if c = r then some (⟨g, o, none⟩ : Addr) else some ⟨g, o + r * 2, none⟩) = A3 ∧ ES entE w A3 (es.drop r) ∧ (A3 = none → c - r = 0) := by
  refine ⟨_, rfl, ?_, fun h => by split at h <;> cases h⟩
  by_cases h : c = r
  · rw [if_pos h, List.drop_of_length_le (by omega)]
    obtain ⟨ht⟩ : ∃ _ : RT w g entE.ty, True := by
      rcases hs with ⟨h, _⟩ | ⟨g', o', h, ht, _⟩
      · cases h
      · cases h; exact ⟨ht, trivial⟩
    exact .inr ⟨g, o, rfl, ht, fun j u hu => by simp [Elt.row] at hu⟩
  · rw [if_neg h]; exact hs.drop r _ (by omega) rfl
set_option maxRecDepth 100000 in
theorem refPut_no (a : Option Addr) (n c : Nat) (es : List En) (key v : ByteArray) (w : World) (h : okK key = false ∨ 2048 < v.size) :
    Calls Tryz.prog 30 #[.slice a n c, .string key, .string v] w fun e w' => e = .returned (.tuple #[nilS, .int .i64 (tpF es key v : Nat)]) ∧ w = w' := by
  by_cases hk : okK key = false
  · have ht : Hid (tpF es key v = 1) := by show _ = _; unfold tpF; rw [if_pos hk]
    have hk2 : key.size < 1 ∨ 40 < key.size := by
      unfold okK at hk
      rw [decide_eq_false_iff_not] at hk
      omega
    generalize tpF es key v = T at *
    by_cases h1 : key.size < 1
    · have d1 : decide ((key.size : Int) < 1) = true := decide_eq_true (by omega)
      clear hk hk2 h
      go_enter Tryz.func30, Tryz.ntmps30
      go_wp2
      go_ret2
      exact ⟨by rw [ht.out]; rfl, rfl⟩
    · have d1 : decide ((key.size : Int) < 1) = false := decide_eq_false (by omega)
      have d2 : decide (40 < (key.size : Int)) = true := decide_eq_true (by omega)
      clear hk hk2 h h1
      go_enter Tryz.func30, Tryz.ntmps30
      go_wp2
      go_ret2
      exact ⟨by rw [ht.out]; rfl, rfl⟩
  · have hk2 : 1 ≤ key.size ∧ key.size ≤ 40 := okK_size (by simpa using hk)
    have hv : 2048 < v.size := by rcases h with h | h; exact absurd h hk; exact h
    have ht : Hid (tpF es key v = 5) := by show _ = _; unfold tpF; rw [if_neg hk, if_pos hv]
    generalize tpF es key v = T at *
    have d1 : decide ((key.size : Int) < 1) = false := decide_eq_false (by omega)
    have d2 : decide (40 < (key.size : Int)) = false := decide_eq_false (by omega)
    have d3 : decide (2048 < (v.size : Int)) = true := decide_eq_true (by omega)
    clear hk hk2 h hv
    go_enter Tryz.func30, Tryz.ntmps30
    go_wp2
    go_ret2
    exact ⟨by rw [ht.out]; rfl, rfl⟩
set_option maxRecDepth 100000 in
theorem refPut_full (a : Option Addr) (n c : Nat) (es : List En) (key v : ByteArray) (w : World) (hn : es.length = n) (hs : ES entE w a es) (hl : n ≤ 100000) (hk : okK key = true) (hv : v.size ≤ 2048) (hI : isE es key = false) (h4 : 4096 ≤ n) :
    Calls Tryz.prog 30 #[.slice a n c, .string key, .string v] w fun e w' => e = .returned (.tuple #[nilS, .int .i64 (tpF es key v : Nat)]) ∧ Below w.heap.size w w' := by
  have hk2 := okK_size hk
  have ht : Hid (tpF es key v = 7) := by show _ = _; unfold tpF; rw [if_neg (by rw [hk]; decide), if_neg (by omega), if_pos ⟨hI, by omega⟩]
  have Hat := Lib.hid (refAt_any a n c es key w hn hs hl)
  rw [hI] at Hat
  generalize tpF es key v = T at *
  have d1 : decide ((key.size : Int) < 1) = false := decide_eq_false (by omega)
  have d2 : decide (40 < (key.size : Int)) = false := decide_eq_false (by omega)
  have d3 : decide (2048 < (v.size : Int)) = false := decide_eq_false (by omega)
  have d4 : decide ((4096 : Int) ≤ (n : Int)) = true := decide_eq_true (by omega)
  clear hk hk2 hv hI h4 hs hn
  go_enter Tryz.func30, Tryz.ntmps30
  go_wp2_with fail
  refine Hat.out.mono ?_
  rintro e w1 ⟨rfl, hb1⟩
  have HB := Lib.hid hb1
  clear hb1 Hat
  go_wp2
  go_ret2
  exact ⟨by rw [ht.out]; rfl, HB.out⟩
set_option maxRecDepth 100000 in
theorem refPut_yes (a : Option Addr) (n c : Nat) (es : List En) (key v : ByteArray) (w : World) (hn : es.length = n) (hs : ES entE w a es) (hl : n ≤ 100000) (hz : a = none → c = 0) (hnc : n ≤ c) (hcm : c ≤ maxLen) (hk : okK key = true) (hv : v.size ≤ 2048) (hno : isE es key = false → n < 4096) :
    Calls Tryz.prog 30 #[.slice a n c, .string key, .string v] w fun e w' => ∃ u, e = .returned (.tuple #[u, .int .i64 0]) ∧ EV entE w' u (rep es key [⟨key, v, []⟩]) ∧ Below w.heap.size w w' := by
  have hk2 := okK_size hk
  have Hat := Lib.hid (refAt_any a n c es key w hn hs hl)
  have d1 : decide ((key.size : Int) < 1) = false := decide_eq_false (by omega)
  have d2 : decide (40 < (key.size : Int)) = false := decide_eq_false (by omega)
  have d3 : decide (2048 < (v.size : Int)) = false := decide_eq_false (by omega)
  have hle := fE_le es key
  have hgo : goneE es key = if isE es key = true then 1 else 0 := rfl
  have hcm' : c ≤ 9223372036854775807 := by unfold maxLen at hcm; omega
  -- what stands behind the appends
  have key1 : ∀ (w1 : World) (A2 A3 : Option Addr) (r : Nat), r = fE es key + goneE es key → Below w.heap.size w w1 → ES entE w A2 (es.take (fE es key)) → (A2 = none → c = 0) → ES entE w A3 (es.drop r) → (A3 = none → c - r = 0) →
      ∃ v2 w2, (Builtin.append_ #[SRET, SRET] SRET #[nilS, .slice A2 (fE es key) c]).run Tryz.prog w1 = .ok v2 w2 ∧ ∃ v3 w3, (Builtin.append_ #[SRET, SRET] SRET #[v2, .slice (some ⟨w2.heap.size, 0, none⟩) 1 1]).run Tryz.prog (w2.alloc (.cells #[.string key, .string v] RET)) = .ok v3 w3 ∧
        ∃ v4 w4, (Builtin.append_ #[SRET, SRET] SRET #[v3, .slice A3 (n - r) (c - r)]).run Tryz.prog w3 = .ok v4 w4 ∧ EV entE w4 v4 (rep es key [⟨key, v, []⟩]) ∧ Below w.heap.size w w4 := fun w1 A2 A3 r hr hb1 h2 hz2 h3 hz3 => by
    have hF : fE es key ≤ n := by omega
    obtain ⟨v2, w2, r2, hb2, ho2⟩ := run_app_own (P := Tryz.prog) (w := w1) (E := entE) w.heap.size SRET SRET RET Tryz.underlying29 infoRE nilS 0 [] (World.ownsRow_nil _ _ _ _) hb1.size A2 (fE es key) c (es.take (fE es key)) (by rw [List.length_take]; omega) hz2 (h2.below hb1 (Nat.le_refl _)) (by unfold maxLen; omega) (by show _ * 32 ≤ _; omega)
    have hbw2 := hb1.trans hb2
    have hba : Below w2.heap.size w2 (w2.alloc (.cells #[.string key, .string v] RET)) := (Below.refl _ _).alloc (Nat.le_refl _) _
    have hbwa := hbw2.trans (hba.mono hbw2.size)
    have hlit : ES entE (w2.alloc (.cells #[.string key, .string v] RET)) (some ⟨w2.heap.size, 0, none⟩) [⟨key, v, []⟩] := ES.lit (E := entE) (l := [⟨key, v, []⟩]) (heap_new w2 _ _)
    obtain ⟨v3, w3, r3, hb3, ho3⟩ := run_app_own (P := Tryz.prog) (w := w2.alloc (.cells #[.string key, .string v] RET)) (E := entE) w.heap.size SRET SRET RET Tryz.underlying29 infoRE v2 (0 + fE es key) ([] ++ es.take (fE es key)) (ho2.alloc _) hbwa.size (some ⟨w2.heap.size, 0, none⟩) 1 1 [⟨key, v, []⟩] rfl (fun h => by cases h) hlit (by unfold maxLen; omega) (by show _ * 32 ≤ _; omega)
    have hbw3 := hbwa.trans hb3
    obtain ⟨v4, w4, r4, hb4, ho4⟩ := run_app_own (P := Tryz.prog) (w := w3) (E := entE) w.heap.size SRET SRET RET Tryz.underlying29 infoRE v3 (0 + fE es key + 1) ([] ++ es.take (fE es key) ++ [⟨key, v, []⟩]) ho3 hbw3.size A3 (n - r) (c - r) (es.drop r) (by rw [List.length_drop, hn]) hz3 (h3.below hbw3 (Nat.le_refl _)) (by unfold maxLen; omega) (by show _ * 32 ≤ _; omega)
    refine ⟨v2, w2, r2, v3, w3, r3, v4, w4, r4, own_ev (B := w.heap.size) (T := RET) ?_, hbw3.trans hb4⟩
    have e1 : rep es key [⟨key, v, []⟩] = [] ++ es.take (fE es key) ++ [⟨key, v, []⟩] ++ es.drop r := by rw [hr]; unfold rep; simp
    have e2 : (rep es key [⟨key, v, []⟩]).length = 0 + fE es key + 1 + (n - r) := by rw [e1]; simp only [List.length_append, List.length_take, List.length_drop, List.length_cons, List.length_nil]; omega
    rw [e2, e1]; exact ho4
  have Key1 := Lib.hid key1
  clear key1 hk hk2 hv
  rcases hs with ⟨rfl, rfl⟩ | ⟨g, o, rfl, hc⟩
  · obtain rfl : n = 0 := hn.symm
    obtain rfl := hz rfl
    have hI : isE ([] : List En) key = false := rfl
    have hF : fE ([] : List En) key = 0 := rfl
    rw [hI, hF] at Hat
    have K1 : Hid (∀ w1, Below w.heap.size w w1 → _) := fun w1 h1 => Key1.out w1 none none 0 rfl h1 (ES.nil _) (fun _ => rfl) (ES.nil _) (fun _ => rfl)
    rw [hF] at K1
    have z00 : IntKind.i64.wrap 0 = 0 := by decide
    clear Key1 hle hgo hnc hcm hcm' hl hz hno hn hI hF
    go_enter Tryz.func30, Tryz.ntmps30
    go_wp2_with fail
    refine Hat.out.mono ?_
    rintro e w1 ⟨rfl, hb1⟩
    obtain ⟨v2, w2, r2, v3, w3, r3, v4, w4, r4, hev, hb⟩ := K1.out w1 hb1
    have Hev := Lib.hid (And.intro hev hb)
    clear hev hb hb1 K1 Hat
    go_wp2_with (at_builtin; first | refine Lib.wpList_append_run _ rfl (.tmp 35) (.tmp 38) _ _ rfl _ _ (by rfl) (by rfl) _ _ r2 ?_ | refine Lib.wpList_append_run _ rfl (.tmp 39) (.tmp 43) _ _ rfl _ _ (by rfl) (by rfl) _ _ r3 ?_ | refine Lib.wpList_append_run _ rfl (.tmp 48) (.tmp 51) _ _ rfl _ _ (by rfl) (by rfl) _ _ r4 ?_)
    go_ret2
    exact ⟨v4, rfl, Hev.out.1, Hev.out.2⟩
  · have hs : ES entE w (some ⟨g, o, none⟩) es := .inr ⟨g, o, rfl, hc⟩
    have hF : fE es key ≤ n := by omega
    have hs2 := hs.take (fE es key)
    have z0 : IntKind.i64.wrap ((fE es key : Nat) : Int) = ((fE es key : Nat) : Int) := by rw [IntKind.wrap_i64]; omega
    cases hI : isE es key with
    | false =>
      rw [hI] at Hat
      have hgo0 : goneE es key = 0 := by rw [hgo, hI]; rfl
      obtain ⟨A3, hA3, hs3, hz3⟩ := drop_slice hs hn hF hnc
      have K1 := Lib.hid (fun w1 h1 => Key1.out w1 _ A3 (fE es key) (by omega) h1 hs2 (fun h => by cases h) hs3 hz3)
      have d4 : decide ((4096 : Int) ≤ (n : Int)) = false := decide_eq_false (by have := hno hI; omega)
      have i1 : (0 : Int) ≤ ((fE es key : Nat) : Int) := by omega
      have i2 : ((fE es key : Nat) : Int) ≤ (c : Int) := by omega
      have i3 : ((fE es key : Nat) : Int) ≤ (n : Int) := by omega
      have i5 : (n : Int) ≤ (c : Int) := by omega
      have j2 : fE es key ≤ c := by omega
      clear Key1 hle hgo hcm hl hz hno hn hI hgo0 hs hs2 hs3 hz3 hc
      generalize fE es key = F at *
      go_enter Tryz.func30, Tryz.ntmps30
      go_wp2_with fail
      refine Hat.out.mono ?_
      rintro e w1 ⟨rfl, hb1⟩
      obtain ⟨v2, w2, r2, v3, w3, r3, v4, w4, r4, hev, hb⟩ := K1.out w1 hb1
      have Hev := Lib.hid (And.intro hev hb)
      clear hev hb hb1 K1 Hat
      go_wp2_with (at_builtin; first | refine Lib.wpList_append_run _ rfl (.tmp 35) (.tmp 38) _ _ rfl _ _ (by rfl) (by rfl) _ _ r2 ?_ | refine Lib.wpList_append_run _ rfl (.tmp 39) (.tmp 43) _ _ rfl _ _ (by rfl) (by rfl) _ _ r3 ?_ | refine Lib.wpList_append_run _ rfl (.tmp 48) (.tmp 51) _ _ rfl _ _ (by rfl) (by rfl) _ _ r4 ?_)
      go_ret2
      exact ⟨v4, rfl, Hev.out.1, Hev.out.2⟩
    | true =>
      rw [hI] at Hat
      have hgo1 : goneE es key = 1 := by rw [hgo, hI]; rfl
      obtain ⟨r, hr⟩ : ∃ r, r = fE es key + 1 := ⟨_, rfl⟩
      have hrn : r ≤ n := by omega
      obtain ⟨A3, hA3, hs3, hz3⟩ := drop_slice hs hn hrn hnc
      have K1 := Lib.hid (fun w1 h1 => Key1.out w1 _ A3 r (by omega) h1 hs2 (fun h => by cases h) hs3 hz3)
      have z1 : IntKind.i64.wrap (((fE es key : Nat) : Int) + 1) = (r : Int) := by rw [IntKind.wrap_i64]; omega
      have z2 : IntKind.i64.wrap (r : Int) = (r : Int) := by rw [IntKind.wrap_i64]; omega
      have z3 : ((fE es key : Nat) : Int) + 1 = (r : Int) := by omega
      have i1 : (0 : Int) ≤ ((fE es key : Nat) : Int) := by omega
      have i2 : ((fE es key : Nat) : Int) ≤ (c : Int) := by omega
      have i3 : ((fE es key : Nat) : Int) ≤ (n : Int) := by omega
      have i5 : (n : Int) ≤ (c : Int) := by omega
      have i6 : (r : Int) ≤ (n : Int) := by omega
      have i7 : (0 : Int) ≤ (r : Int) := by omega
      have j2 : fE es key ≤ c := by omega
      clear Key1 hle hgo hcm hl hz hno hn hI hgo1 hs hs2 hs3 hz3 hc hr
      generalize fE es key = F at *
      go_enter Tryz.func30, Tryz.ntmps30
      go_wp2_with fail
      refine Hat.out.mono ?_
      rintro e w1 ⟨rfl, hb1⟩
      obtain ⟨v2, w2, r2, v3, w3, r3, v4, w4, r4, hev, hb⟩ := K1.out w1 hb1
      have Hev := Lib.hid (And.intro hev hb)
      clear hev hb hb1 K1 Hat
      go_wp2_with (at_builtin; first | refine Lib.wpList_append_run _ rfl (.tmp 35) (.tmp 38) _ _ rfl _ _ (by rfl) (by rfl) _ _ r2 ?_ | refine Lib.wpList_append_run _ rfl (.tmp 39) (.tmp 43) _ _ rfl _ _ (by rfl) (by rfl) _ _ r3 ?_ | refine Lib.wpList_append_run _ rfl (.tmp 48) (.tmp 51) _ _ rfl _ _ (by rfl) (by rfl) _ _ r4 ?_)
      go_ret2
      exact ⟨v4, rfl, Hev.out.1, Hev.out.2⟩
theorem refPut_all (a : Option Addr) (n c : Nat) (es : List En) (key v : ByteArray) (w : World) (hn : es.length = n) (hs : ES entE w a es) (hl : n ≤ 100000) (hz : a = none → c = 0) (hnc : n ≤ c) (hcm : c ≤ maxLen) :
    Calls Tryz.prog 30 #[.slice a n c, .string key, .string v] w fun e w' => ∃ u, e = .returned (.tuple #[u, .int .i64 (tpF es key v : Nat)]) ∧ EV entE w' u (tpL es key v) ∧ Below w.heap.size w w' := by
  by_cases hk : okK key = false ∨ 2048 < v.size
  · refine (refPut_no a n c es key v w hk).mono ?_
    rintro e w' ⟨rfl, rfl⟩
    refine ⟨_, rfl, ?_, Below.refl _ _⟩
    have : tpL es key v = [] := by
      unfold tpL tpF
      rcases hk with hk | hk
      · rw [if_pos hk]; rfl
      · by_cases hk1 : okK key = false
        · rw [if_pos hk1]; rfl
        · rw [if_neg hk1, if_pos hk]; rfl
    rw [this]; exact EV.none _
  · have hk1 : okK key = true := by simpa using fun h => hk (.inl h)
    have hv1 : v.size ≤ 2048 := by
      rcases Nat.lt_or_ge 2048 v.size with h | h
      · exact absurd (.inr h) hk
      · exact h
    by_cases hf : isE es key = false ∧ 4096 ≤ n
    · refine (refPut_full a n c es key v w hn hs hl hk1 hv1 hf.1 hf.2).mono ?_
      rintro e w' ⟨rfl, hb⟩
      refine ⟨_, rfl, ?_, hb⟩
      have h7 : tpF es key v = 7 := by unfold tpF; rw [if_neg (by rw [hk1]; decide), if_neg (by omega), if_pos ⟨hf.1, by omega⟩]
      have : tpL es key v = [] := by unfold tpL; rw [h7]; rfl
      rw [this]; exact EV.none _
    · refine (refPut_yes a n c es key v w hn hs hl hz hnc hcm hk1 hv1 (fun h => by
        rcases Nat.lt_or_ge n 4096 with h2 | h2
        · exact h2
        · exact absurd ⟨h, h2⟩ hf)).mono ?_
      rintro e w' ⟨u, rfl, hev, hb⟩
      have ht : tpF es key v = 0 := by unfold tpF; rw [if_neg (by rw [hk1]; decide), if_neg (by omega), if_neg (by rw [hn]; exact hf)]
      exact ⟨u, by rw [ht]; rfl, by unfold tpL; rw [ht]; exact hev, hb⟩
end Go.Proofs.YtdgladhfibfdlaaGreatDoor
namespace Go.Proofs.YtdgladhfibfdlaaGreatDoor
open Go.ChangeShapes Go.WideShapes Go.RowKit Go.Deep
theorem u16Cells : Tryz.prog.cellsOf 22 = 1 := by kernel_rfl
theorem arr16Cells : Tryz.prog.cellsOf 23 = 2 := by kernel_rfl
theorem two_list (l : List Value) (h : l.length = 2) : ∃ a b, l = [a, b] := by
  match l, h with
  | [a, b], _ => exact ⟨a, b, rfl⟩
set_option maxRecDepth 100000 in
theorem open_arr16 {H : Type} {enc : TypeId × Value → H} {W : World} {base : Nat} {v : Value} {d : DataW H} {p : List MemPlace}
    (hok : Value.okWide Tryz.prog W .any base 23 v) (hj : DataW.Trod enc Tryz.prog W 0 (fun _ => true) true 23 v d p) :
    ∃ x y : Nat, v = .agg #[.int .u16 x, .int .u16 y] ∧ x < 65536 ∧ y < 65536 := by
  simp only [Value.okWide, Tryz.underlying23] at hok
  obtain ⟨cs, rfl, hsz, _⟩ := hok
  rw [arr16Cells] at hsz
  obtain ⟨fuel, hf⟩ := hj
  obtain ⟨u, t, hl⟩ := two_list cs.toList (by simpa using hsz)
  have hcs : (Value.agg cs).cells.toList = [u, t] := hl
  rw [hcs] at hf
  obtain ⟨xs, m, _, _, _, hxl, hx⟩ := DataW.trod_array Tryz.underlying23 hf
  have h0 := hx 0 (by omega)
  have h1 := hx 1 (by omega)
  rw [u16Cells] at h0 h1
  rw [List.getElem?_eq_getElem (by omega)] at h0 h1
  obtain ⟨a, ha, _, wa⟩ := DataW.trod_int Tryz.underlying22 h0
  obtain ⟨b, hb, _, wb⟩ := DataW.trod_int Tryz.underlying22 h1
  simp at ha hb
  subst ha
  subst hb
  have ba := bounds_u16 wa
  have bb := bounds_u16 wb
  refine ⟨a.toNat, b.toNat, ?_, by omega, by omega⟩
  have : cs = #[.int .u16 a, .int .u16 b] := Array.toList_inj.1 hl
  rw [this]
  congr 3
  · congr 1; omega
  · congr 2; omega
end Go.Proofs.YtdgladhfibfdlaaGreatDoor
