/-
  The document's list: At, Get, Put, Delete; what a put and a deletion make of a list.
  What the tree's laws ask of lists: put, deleted, in whatever order. No program.
  Pieces of a tree: what is within a span, from either end; what a closure is handed that tells when to end. No program.
-/
import Derived.Test.YtbgkjniagedcnaaGreatDoorNodeZ
import Derived.Test.YtbgkjniagedcnaaGreatDoorAsZ
import Derived.Test.YtbgkjniagedcnaaGreatDoorTurnZ
import Derived.WalkKit
import Derived.Below
import Derived.Lib.Hide
namespace Go.Proofs.YtbgkjniagedcnaaGreatDoor
open Go Go.RowKit

/-- What Put answers: its error, the list. -/
def tpF (es : List En) (key v : ByteArray) : Nat := if okK key = false then 1 else if 2048 < v.size then 5 else if isE es key = false ∧ 4096 ≤ es.length then 7 else 0
def tpL (es : List En) (key v : ByteArray) : List En := if tpF es key v = 0 then rep es key [⟨key, v, []⟩] else []
def tdL (es : List En) (key : ByteArray) : List En := if isE es key = true then rep es key [] else es
set_option maxRecDepth 100000 in
theorem refAt_any (a : Option Addr) (n c : Nat) (es : List En) (key : ByteArray) (w : World) (hn : es.length = n) (hs : ES entE w a es) (hl : n ≤ 100000) :
    Calls Tryz.prog 42 #[.slice a n c, .string key] w fun e w' => e = .returned (.tuple #[.int .i64 (fE es key : Nat), .bool (isE es key)]) ∧ Below w.heap.size w w' := by
  have hlt := Lib.hid (fun i h => fE_lt es key i h)
  have hat := Lib.hid (fE_at es key)
  have hle := fE_le es key
  have hF : fE es key ≤ n := by unfold goneE at hle; split at hle <;> omega
  have hie := Lib.hid (isE_eq es key)
  rw [hn] at hie hat
  have Hs := Lib.hid hs
  have Hn := Lib.hid hn
  clear hs hn hle
  generalize isE es key = I at *
  generalize fE es key = F at *
  go_enter Tryz.func42, Tryz.ntmps42
  go_wp2_with fail
  go_loopw [6] (fun i wr => ∃ k : Nat, i = .int .i64 k ∧ k ≤ F ∧ w = wr) (fun i _ => n - (intOf i).toNat)
  case atStart => exact ⟨0, rfl, by omega, by first | trivial | rfl⟩
  case round =>
    obtain ⟨k, rfl, hk, rfl⟩ := hrel
    by_cases hkF : k < F
    · obtain ⟨g, o, rfl, hcell⟩ := Hs.out.ents (by rw [Hn.out]; omega)
      have q0 := (hcell k (by rw [Hn.out]; omega)).1
      have d1 : Op.bytesLess (ea es k).k.toList key.toList = true := hlt.out k hkF
      have hkn : (k : Int) < (n : Int) := by omega
      generalize (ea es k).k = y at *
      clear hcell
      go_wp2
      go_roundw
      case rel => exact ⟨k + 1, by go_num, by omega, by first | trivial | rfl⟩
      case measure => simp [intOf]; omega
    · obtain rfl : k = F := by omega
      obtain ⟨W, hW⟩ : ∃ W, w.drew = W := ⟨_, rfl⟩
      have hbd : Below w.heap.size w W := by rw [← hW]; exact (Below.refl _ _).drew
      have HW := Lib.hid (And.intro hW hbd)
      by_cases hkn : k < n
      · obtain ⟨g, o, rfl, hcell⟩ := Hs.out.ents (by rw [Hn.out]; omega)
        have q0 := (hcell k (by rw [Hn.out]; omega)).1
        have d1 : Op.bytesLess (ea es k).k.toList key.toList = false := hat.out hkn
        have hI : Hid (I = ((ea es k).k.toList == key.toList)) := by show _ = _; rw [hie.out, decide_eq_true hkn, Bool.true_and]
        obtain ⟨D, hD⟩ : ∃ D, ((ea es k).k.toList == key.toList) = D := ⟨_, rfl⟩
        rw [hD] at hI
        have hknI : (k : Int) < (n : Int) := by omega
        have l0 := block_lt_of_cell q0
        have q1 : ∀ w', Ext W w' → w'.cell? ⟨g, o + k * 2, none⟩ = some (.string (ea es k).k) := fun w' hx => by
          rw [(hbd.trans (hx.mono hbd.size)).cell (p := ⟨g, o + k * 2, none⟩) l0]; exact q0
        generalize (ea es k).k = y at *
        have i1 : (0 : Int) ≤ (k : Int) := by omega
        have z0 : IntKind.i64.wrap (k : Int) = (k : Int) := by rw [IntKind.wrap_i64]; omega
        clear hcell hie hat hlt hW hbd l0
        go_wp2_with fail
        refine wp_region_gr [(0, true), (1, true), (2, true), (3, true), (4, true), (5, true), (6, true), (7, true), (8, true), (9, true), (10, true), (11, true), (12, true), (13, true), (14, true), (15, true)] (by kernel_rfl) (by kernel_rfl) (by kernel_rfl) (by kernel_rfl) (fun _ _ _ _ _ h => h) ?_
        rw [HW.out.1]
        iterate 16 (first | (refine wpGr_read (o := ⟨_, _, _, _, _, _⟩) (v := ?_) rfl (by rfl) ?_ ?_; rotate_left; (intro w' hw'; go_simp; with_reducible rfl); simp only [Act.put, List.setIfInBounds_toArray, List.set_cons_zero, List.set_cons_succ]) | (refine wpGr_skip (o := ⟨_, _, _, _, _, _⟩) rfl (by rfl) ?_; simp only [Act.put, List.setIfInBounds_toArray, List.set_cons_zero, List.set_cons_succ]))
        refine wpGr_done ?_
        go_wp2_with fail
        go_ret2
        exact ⟨by rw [hI.out]; rfl, HW.out.2⟩
      · have hI : Hid (I = false) := by show _ = _; rw [hie.out, decide_eq_false hkn, Bool.false_and]
        have hknI : ¬ (k : Int) < (n : Int) := by omega
        clear hie hat hlt hW hbd
        go_wp2_with fail
        refine wp_region_gr [(0, true), (1, true), (2, true), (3, true), (4, true), (5, true), (6, true), (7, true), (8, true), (9, true), (10, true), (11, true), (12, true), (13, true), (14, true), (15, true)] (by kernel_rfl) (by kernel_rfl) (by kernel_rfl) (by kernel_rfl) (fun _ _ _ _ _ h => h) ?_
        rw [HW.out.1]
        iterate 16 (first | (refine wpGr_read (o := ⟨_, _, _, _, _, _⟩) (v := ?_) rfl (by rfl) ?_ ?_; rotate_left; (intro w' hw'; go_simp; with_reducible rfl); simp only [Act.put, List.setIfInBounds_toArray, List.set_cons_zero, List.set_cons_succ]) | (refine wpGr_skip (o := ⟨_, _, _, _, _, _⟩) rfl (by rfl) ?_; simp only [Act.put, List.setIfInBounds_toArray, List.set_cons_zero, List.set_cons_succ]))
        refine wpGr_done ?_
        go_wp2_with fail
        go_ret2
        exact ⟨by rw [hI.out]; rfl, HW.out.2⟩
/-- What is left of a slice from a place on. -/
theorem drop_slice {w : World} {g o c n r : Nat} {es : List En} (hs : ES entE w (some ⟨g, o, none⟩) es) (hn : es.length = n) (hr : r ≤ n) (hnc : n ≤ c) :
    ∃ A3, (if c = r then some (⟨g, o, none⟩ : Addr) else some ⟨g, o + r * 2, none⟩) = A3 ∧ ES entE w A3 (es.drop r) ∧ (A3 = none → c - r = 0) := by
  refine ⟨_, rfl, ?_, fun h => by split at h <;> cases h⟩
  by_cases h : c = r
  · rw [if_pos h, List.drop_of_length_le (by omega)]
    obtain ⟨ht⟩ : ∃ _ : RT w g entE.ty, True := by
      rcases hs with ⟨h, _⟩ | ⟨g', o', h, ht, _⟩
      · cases h
      · cases h; exact ⟨ht, trivial⟩
    exact .inr ⟨g, o, rfl, ht, fun j u hu => by simp [Elt.row] at hu⟩
  · rw [if_neg h]; exact hs.drop r _ (by omega) rfl
set_option maxRecDepth 100000 in
theorem refPut_no (a : Option Addr) (n c : Nat) (es : List En) (key v : ByteArray) (w : World) (h : okK key = false ∨ 2048 < v.size) :
    Calls Tryz.prog 22 #[.slice a n c, .string key, .string v] w fun e w' => e = .returned (.tuple #[nilS, .int .i64 (tpF es key v : Nat)]) ∧ w = w' := by
  by_cases hk : okK key = false
  · have ht : Hid (tpF es key v = 1) := by show _ = _; unfold tpF; rw [if_pos hk]
    have hk2 : key.size < 1 ∨ 40 < key.size := by
      unfold okK at hk
      rw [decide_eq_false_iff_not] at hk
      omega
    generalize tpF es key v = T at *
    by_cases h1 : key.size < 1
    · have d1 : decide ((key.size : Int) < 1) = true := decide_eq_true (by omega)
      clear hk hk2 h
      go_enter Tryz.func22, Tryz.ntmps22
      go_wp2
      go_ret2
      exact ⟨by rw [ht.out]; rfl, rfl⟩
    · have d1 : decide ((key.size : Int) < 1) = false := decide_eq_false (by omega)
      have d2 : decide (40 < (key.size : Int)) = true := decide_eq_true (by omega)
      clear hk hk2 h h1
      go_enter Tryz.func22, Tryz.ntmps22
      go_wp2
      go_ret2
      exact ⟨by rw [ht.out]; rfl, rfl⟩
  · have hk2 : 1 ≤ key.size ∧ key.size ≤ 40 := okK_size (by simpa using hk)
    have hv : 2048 < v.size := by rcases h with h | h; exact absurd h hk; exact h
    have ht : Hid (tpF es key v = 5) := by show _ = _; unfold tpF; rw [if_neg hk, if_pos hv]
    generalize tpF es key v = T at *
    have d1 : decide ((key.size : Int) < 1) = false := decide_eq_false (by omega)
    have d2 : decide (40 < (key.size : Int)) = false := decide_eq_false (by omega)
    have d3 : decide (2048 < (v.size : Int)) = true := decide_eq_true (by omega)
    clear hk hk2 h hv
    go_enter Tryz.func22, Tryz.ntmps22
    go_wp2
    go_ret2
    exact ⟨by rw [ht.out]; rfl, rfl⟩
set_option maxRecDepth 100000 in
theorem refPut_full (a : Option Addr) (n c : Nat) (es : List En) (key v : ByteArray) (w : World) (hn : es.length = n) (hs : ES entE w a es) (hl : n ≤ 100000) (hk : okK key = true) (hv : v.size ≤ 2048) (hI : isE es key = false) (h4 : 4096 ≤ n) :
    Calls Tryz.prog 22 #[.slice a n c, .string key, .string v] w fun e w' => e = .returned (.tuple #[nilS, .int .i64 (tpF es key v : Nat)]) ∧ Below w.heap.size w w' := by
  have hk2 := okK_size hk
  have ht : Hid (tpF es key v = 7) := by show _ = _; unfold tpF; rw [if_neg (by rw [hk]; decide), if_neg (by omega), if_pos ⟨hI, by omega⟩]
  have Hat := Lib.hid (refAt_any a n c es key w hn hs hl)
  rw [hI] at Hat
  generalize tpF es key v = T at *
  have d1 : decide ((key.size : Int) < 1) = false := decide_eq_false (by omega)
  have d2 : decide (40 < (key.size : Int)) = false := decide_eq_false (by omega)
  have d3 : decide (2048 < (v.size : Int)) = false := decide_eq_false (by omega)
  have d4 : decide ((4096 : Int) ≤ (n : Int)) = true := decide_eq_true (by omega)
  clear hk hk2 hv hI h4 hs hn
  go_enter Tryz.func22, Tryz.ntmps22
  go_wp2_with fail
  refine Hat.out.mono ?_
  rintro e w1 ⟨rfl, hb1⟩
  have HB := Lib.hid hb1
  clear hb1 Hat
  go_wp2
  go_ret2
  exact ⟨by rw [ht.out]; rfl, HB.out⟩
set_option maxRecDepth 100000 in
set_option maxHeartbeats 1000000 in
theorem refPut_yes (a : Option Addr) (n c : Nat) (es : List En) (key v : ByteArray) (w : World) (hn : es.length = n) (hs : ES entE w a es) (hl : n ≤ 100000) (hz : a = none → c = 0) (hnc : n ≤ c) (hcm : c ≤ maxLen) (hk : okK key = true) (hv : v.size ≤ 2048) (hno : isE es key = false → n < 4096) :
    Calls Tryz.prog 22 #[.slice a n c, .string key, .string v] w fun e w' => ∃ u, e = .returned (.tuple #[u, .int .i64 0]) ∧ EV entE w' u (rep es key [⟨key, v, []⟩]) ∧ Below w.heap.size w w' := by
  have hk2 := okK_size hk
  have Hat := Lib.hid (refAt_any a n c es key w hn hs hl)
  have d1 : decide ((key.size : Int) < 1) = false := decide_eq_false (by omega)
  have d2 : decide (40 < (key.size : Int)) = false := decide_eq_false (by omega)
  have d3 : decide (2048 < (v.size : Int)) = false := decide_eq_false (by omega)
  have hle := fE_le es key
  have hgo : goneE es key = if isE es key = true then 1 else 0 := rfl
  have hcm' : c ≤ 9223372036854775807 := by unfold maxLen at hcm; omega
  -- what stands behind the appends
  have key1 : ∀ (w1 : World) (A2 A3 : Option Addr) (r : Nat), r = fE es key + goneE es key → Below w.heap.size w w1 → ES entE w A2 (es.take (fE es key)) → (A2 = none → c = 0) → ES entE w A3 (es.drop r) → (A3 = none → c - r = 0) →
      ∃ v2 w2, (Builtin.append_ #[SRET, SRET] SRET #[nilS, .slice A2 (fE es key) c]).run Tryz.prog w1 = .ok v2 w2 ∧ ∃ v3 w3, (Builtin.append_ #[SRET, SRET] SRET #[v2, .slice (some ⟨w2.heap.size, 0, none⟩) 1 1]).run Tryz.prog (w2.alloc (.cells #[.string key, .string v] RET)) = .ok v3 w3 ∧
        ∃ v4 w4, (Builtin.append_ #[SRET, SRET] SRET #[v3, .slice A3 (n - r) (c - r)]).run Tryz.prog w3 = .ok v4 w4 ∧ EV entE w4 v4 (rep es key [⟨key, v, []⟩]) ∧ Below w.heap.size w w4 := fun w1 A2 A3 r hr hb1 h2 hz2 h3 hz3 => by
    have hF : fE es key ≤ n := by omega
    obtain ⟨v2, w2, r2, hb2, ho2⟩ := run_app_own (P := Tryz.prog) (w := w1) (E := entE) w.heap.size SRET SRET RET Tryz.underlying24 infoRE nilS 0 [] (World.ownsRow_nil _ _ _ _) hb1.size A2 (fE es key) c (es.take (fE es key)) (by rw [List.length_take]; omega) hz2 (h2.below hb1 (Nat.le_refl _)) (by unfold maxLen; omega) (by show _ * 32 ≤ _; omega)
    have hbw2 := hb1.trans hb2
    have hba : Below w2.heap.size w2 (w2.alloc (.cells #[.string key, .string v] RET)) := (Below.refl _ _).alloc (Nat.le_refl _) _
    have hbwa := hbw2.trans (hba.mono hbw2.size)
    have hlit : ES entE (w2.alloc (.cells #[.string key, .string v] RET)) (some ⟨w2.heap.size, 0, none⟩) [⟨key, v, []⟩] := ES.lit (E := entE) (l := [⟨key, v, []⟩]) (heap_new w2 _ _)
    obtain ⟨v3, w3, r3, hb3, ho3⟩ := run_app_own (P := Tryz.prog) (w := w2.alloc (.cells #[.string key, .string v] RET)) (E := entE) w.heap.size SRET SRET RET Tryz.underlying24 infoRE v2 (0 + fE es key) ([] ++ es.take (fE es key)) (ho2.alloc _) hbwa.size (some ⟨w2.heap.size, 0, none⟩) 1 1 [⟨key, v, []⟩] rfl (fun h => by cases h) hlit (by unfold maxLen; omega) (by show _ * 32 ≤ _; omega)
    have hbw3 := hbwa.trans hb3
    obtain ⟨v4, w4, r4, hb4, ho4⟩ := run_app_own (P := Tryz.prog) (w := w3) (E := entE) w.heap.size SRET SRET RET Tryz.underlying24 infoRE v3 (0 + fE es key + 1) ([] ++ es.take (fE es key) ++ [⟨key, v, []⟩]) ho3 hbw3.size A3 (n - r) (c - r) (es.drop r) (by rw [List.length_drop, hn]) hz3 (h3.below hbw3 (Nat.le_refl _)) (by unfold maxLen; omega) (by show _ * 32 ≤ _; omega)
    refine ⟨v2, w2, r2, v3, w3, r3, v4, w4, r4, own_ev (B := w.heap.size) (T := RET) ?_, hbw3.trans hb4⟩
    have e1 : rep es key [⟨key, v, []⟩] = [] ++ es.take (fE es key) ++ [⟨key, v, []⟩] ++ es.drop r := by rw [hr]; unfold rep; simp
    have e2 : (rep es key [⟨key, v, []⟩]).length = 0 + fE es key + 1 + (n - r) := by rw [e1]; simp only [List.length_append, List.length_take, List.length_drop, List.length_cons, List.length_nil]; omega
    rw [e2, e1]; exact ho4
  have Key1 := Lib.hid key1
  clear key1 hk hk2 hv
  rcases hs with ⟨rfl, rfl⟩ | ⟨g, o, rfl, hc⟩
  · obtain rfl : n = 0 := hn.symm
    obtain rfl := hz rfl
    have hI : isE ([] : List En) key = false := rfl
    have hF : fE ([] : List En) key = 0 := rfl
    rw [hI, hF] at Hat
    have K1 : Hid (∀ w1, Below w.heap.size w w1 → _) := fun w1 h1 => Key1.out w1 none none 0 rfl h1 (ES.nil _) (fun _ => rfl) (ES.nil _) (fun _ => rfl)
    rw [hF] at K1
    have z00 : IntKind.i64.wrap 0 = 0 := by decide
    clear Key1 hle hgo hnc hcm hcm' hl hz hno hn hI hF
    go_enter Tryz.func22, Tryz.ntmps22
    go_wp2_with fail
    refine Hat.out.mono ?_
    rintro e w1 ⟨rfl, hb1⟩
    obtain ⟨v2, w2, r2, v3, w3, r3, v4, w4, r4, hev, hb⟩ := K1.out w1 hb1
    have Hev := Lib.hid (And.intro hev hb)
    clear hev hb hb1 K1 Hat
    go_wp2_with (at_builtin; first | refine Lib.wpList_append_run _ rfl (.tmp 35) (.tmp 38) _ _ rfl _ _ (by rfl) (by rfl) _ _ r2 ?_ | refine Lib.wpList_append_run _ rfl (.tmp 39) (.tmp 43) _ _ rfl _ _ (by rfl) (by rfl) _ _ r3 ?_ | refine Lib.wpList_append_run _ rfl (.tmp 48) (.tmp 51) _ _ rfl _ _ (by rfl) (by rfl) _ _ r4 ?_)
    go_ret2
    exact ⟨v4, rfl, Hev.out.1, Hev.out.2⟩
  · have hs : ES entE w (some ⟨g, o, none⟩) es := .inr ⟨g, o, rfl, hc⟩
    have hF : fE es key ≤ n := by omega
    have hs2 := hs.take (fE es key)
    have z0 : IntKind.i64.wrap ((fE es key : Nat) : Int) = ((fE es key : Nat) : Int) := by rw [IntKind.wrap_i64]; omega
    cases hI : isE es key with
    | false =>
      rw [hI] at Hat
      have hgo0 : goneE es key = 0 := by rw [hgo, hI]; rfl
      obtain ⟨A3, hA3, hs3, hz3⟩ := drop_slice hs hn hF hnc
      have K1 := Lib.hid (fun w1 h1 => Key1.out w1 _ A3 (fE es key) (by omega) h1 hs2 (fun h => by cases h) hs3 hz3)
      have d4 : decide ((4096 : Int) ≤ (n : Int)) = false := decide_eq_false (by have := hno hI; omega)
      have i1 : (0 : Int) ≤ ((fE es key : Nat) : Int) := by omega
      have i2 : ((fE es key : Nat) : Int) ≤ (c : Int) := by omega
      have i3 : ((fE es key : Nat) : Int) ≤ (n : Int) := by omega
      have i5 : (n : Int) ≤ (c : Int) := by omega
      have j2 : fE es key ≤ c := by omega
      clear Key1 hle hgo hcm hl hz hno hn hI hgo0 hs hs2 hs3 hz3 hc
      generalize fE es key = F at *
      go_enter Tryz.func22, Tryz.ntmps22
      go_wp2_with fail
      refine Hat.out.mono ?_
      rintro e w1 ⟨rfl, hb1⟩
      obtain ⟨v2, w2, r2, v3, w3, r3, v4, w4, r4, hev, hb⟩ := K1.out w1 hb1
      have Hev := Lib.hid (And.intro hev hb)
      clear hev hb hb1 K1 Hat
      go_wp2_with (at_builtin; first | refine Lib.wpList_append_run _ rfl (.tmp 35) (.tmp 38) _ _ rfl _ _ (by rfl) (by rfl) _ _ r2 ?_ | refine Lib.wpList_append_run _ rfl (.tmp 39) (.tmp 43) _ _ rfl _ _ (by rfl) (by rfl) _ _ r3 ?_ | refine Lib.wpList_append_run _ rfl (.tmp 48) (.tmp 51) _ _ rfl _ _ (by rfl) (by rfl) _ _ r4 ?_)
      go_ret2
      exact ⟨v4, rfl, Hev.out.1, Hev.out.2⟩
    | true =>
      rw [hI] at Hat
      have hgo1 : goneE es key = 1 := by rw [hgo, hI]; rfl
      obtain ⟨r, hr⟩ : ∃ r, r = fE es key + 1 := ⟨_, rfl⟩
      have hrn : r ≤ n := by omega
      obtain ⟨A3, hA3, hs3, hz3⟩ := drop_slice hs hn hrn hnc
      have K1 := Lib.hid (fun w1 h1 => Key1.out w1 _ A3 r (by omega) h1 hs2 (fun h => by cases h) hs3 hz3)
      have z1 : IntKind.i64.wrap (((fE es key : Nat) : Int) + 1) = (r : Int) := by rw [IntKind.wrap_i64]; omega
      have z2 : IntKind.i64.wrap (r : Int) = (r : Int) := by rw [IntKind.wrap_i64]; omega
      have z3 : ((fE es key : Nat) : Int) + 1 = (r : Int) := by omega
      have i1 : (0 : Int) ≤ ((fE es key : Nat) : Int) := by omega
      have i2 : ((fE es key : Nat) : Int) ≤ (c : Int) := by omega
      have i3 : ((fE es key : Nat) : Int) ≤ (n : Int) := by omega
      have i5 : (n : Int) ≤ (c : Int) := by omega
      have i6 : (r : Int) ≤ (n : Int) := by omega
      have i7 : (0 : Int) ≤ (r : Int) := by omega
      have j2 : fE es key ≤ c := by omega
      clear Key1 hle hgo hcm hl hz hno hn hI hgo1 hs hs2 hs3 hz3 hc hr
      generalize fE es key = F at *
      go_enter Tryz.func22, Tryz.ntmps22
      go_wp2_with fail
      refine Hat.out.mono ?_
      rintro e w1 ⟨rfl, hb1⟩
      obtain ⟨v2, w2, r2, v3, w3, r3, v4, w4, r4, hev, hb⟩ := K1.out w1 hb1
      have Hev := Lib.hid (And.intro hev hb)
      clear hev hb hb1 K1 Hat
      go_wp2_with (at_builtin; first | refine Lib.wpList_append_run _ rfl (.tmp 35) (.tmp 38) _ _ rfl _ _ (by rfl) (by rfl) _ _ r2 ?_ | refine Lib.wpList_append_run _ rfl (.tmp 39) (.tmp 43) _ _ rfl _ _ (by rfl) (by rfl) _ _ r3 ?_ | refine Lib.wpList_append_run _ rfl (.tmp 48) (.tmp 51) _ _ rfl _ _ (by rfl) (by rfl) _ _ r4 ?_)
      go_ret2
      exact ⟨v4, rfl, Hev.out.1, Hev.out.2⟩
/-- The document's Put. -/
theorem refPut_all (a : Option Addr) (n c : Nat) (es : List En) (key v : ByteArray) (w : World) (hn : es.length = n) (hs : ES entE w a es) (hl : n ≤ 100000) (hz : a = none → c = 0) (hnc : n ≤ c) (hcm : c ≤ maxLen) :
    Calls Tryz.prog 22 #[.slice a n c, .string key, .string v] w fun e w' => ∃ u, e = .returned (.tuple #[u, .int .i64 (tpF es key v : Nat)]) ∧ EV entE w' u (tpL es key v) ∧ Below w.heap.size w w' := by
  by_cases hk : okK key = false ∨ 2048 < v.size
  · refine (refPut_no a n c es key v w hk).mono ?_
    rintro e w' ⟨rfl, rfl⟩
    refine ⟨_, rfl, ?_, Below.refl _ _⟩
    have : tpL es key v = [] := by
      unfold tpL tpF
      rcases hk with hk | hk
      · rw [if_pos hk]; rfl
      · by_cases hk1 : okK key = false
        · rw [if_pos hk1]; rfl
        · rw [if_neg hk1, if_pos hk]; rfl
    rw [this]; exact EV.none _
  · have hk1 : okK key = true := by simpa using fun h => hk (.inl h)
    have hv1 : v.size ≤ 2048 := by
      rcases Nat.lt_or_ge 2048 v.size with h | h
      · exact absurd (.inr h) hk
      · exact h
    by_cases hf : isE es key = false ∧ 4096 ≤ n
    · refine (refPut_full a n c es key v w hn hs hl hk1 hv1 hf.1 hf.2).mono ?_
      rintro e w' ⟨rfl, hb⟩
      refine ⟨_, rfl, ?_, hb⟩
      have h7 : tpF es key v = 7 := by unfold tpF; rw [if_neg (by rw [hk1]; decide), if_neg (by omega), if_pos ⟨hf.1, by omega⟩]
      have : tpL es key v = [] := by unfold tpL; rw [h7]; rfl
      rw [this]; exact EV.none _
    · refine (refPut_yes a n c es key v w hn hs hl hz hnc hcm hk1 hv1 (fun h => by
        rcases Nat.lt_or_ge n 4096 with h2 | h2
        · exact h2
        · exact absurd ⟨h, h2⟩ hf)).mono ?_
      rintro e w' ⟨u, rfl, hev, hb⟩
      have ht : tpF es key v = 0 := by unfold tpF; rw [if_neg (by rw [hk1]; decide), if_neg (by omega), if_neg (by rw [hn]; exact hf)]
      exact ⟨u, by rw [ht]; rfl, by unfold tpL; rw [ht]; exact hev, hb⟩
end Go.Proofs.YtbgkjniagedcnaaGreatDoor
namespace Go.Proofs.YtbgkjniagedcnaaGreatDoor
open Go Go.RowKit

theorem isE_iff {es : List En} (hs : srt es) (key : ByteArray) : isE es key = true ↔ ∃ x ∈ es, x.k = key := by
  constructor
  · intro h
    have h1 := (isE_eq es key).symm.trans h
    rw [Bool.and_eq_true, decide_eq_true_iff] at h1
    exact ⟨ea es (fE es key), ea_mem h1.1, beq_bytes h1.2⟩
  · rintro ⟨x, hx, rfl⟩
    cases hI : isE es x.k with
    | true => rfl
    | false =>
      rw [← List.take_append_drop (fE es x.k) es, List.mem_append] at hx
      rcases hx with hx | hx
      · have := fE_take es x.k x hx
        rw [blt_self] at this; cases this
      · have h2 := fE_drop es x.k hs
        have h3 : goneE es x.k = 0 := by unfold goneE; rw [hI]; rfl
        rw [h3, Nat.add_zero] at h2
        have := h2 x hx
        rw [blt_self] at this; cases this
theorem mem_rep_iff {es : List En} (hs : srt es) (key : ByteArray) (o : List En) (x : En) : x ∈ rep es key o ↔ x ∈ o ∨ (x ∈ es ∧ x.k ≠ key) := by
  have h1 := fE_take es key
  have h2 := fE_drop es key hs
  unfold rep
  simp only [List.mem_append]
  constructor
  · rintro (h | h | h)
    · exact .inr ⟨List.mem_of_mem_take h, fun e => by have := h1 x h; rw [e, blt_self] at this; cases this⟩
    · exact .inl h
    · exact .inr ⟨List.mem_of_mem_drop h, fun e => by have := h2 x h; rw [e, blt_self] at this; cases this⟩
  · rintro (h | ⟨h, hne⟩)
    · exact .inr (.inl h)
    · rw [← List.take_append_drop (fE es key) es, List.mem_append] at h
      rcases h with h | h
      · exact .inl h
      · rw [← List.take_append_drop (goneE es key) (es.drop (fE es key)), List.mem_append, List.drop_drop] at h
        rcases h with h | h
        · exfalso
          cases hI : isE es key with
          | false =>
            have h3 : goneE es key = 0 := by unfold goneE; rw [hI]; rfl
            rw [h3] at h; simp at h
          | true =>
            have h3 : goneE es key = 1 := by unfold goneE; rw [hI]; rfl
            have h4 := (isE_eq es key).symm.trans hI
            rw [Bool.and_eq_true, decide_eq_true_iff] at h4
            rw [h3, ea_drop es _ h4.1] at h
            simp at h
            exact hne (by rw [h]; exact beq_bytes h4.2)
        · exact .inr (.inr h)
/-- Two rows in order with the same entries are the same. -/
theorem srt_ext : ∀ {a b : List En}, srt a → srt b → (∀ x, x ∈ a ↔ x ∈ b) → a = b
  | [], [], _, _, _ => rfl
  | [], y :: b, _, _, h => absurd ((h y).2 (by simp)) (by simp)
  | x :: a, [], _, _, h => absurd ((h x).1 (by simp)) (by simp)
  | x :: a, y :: b, ha, hb, h => by
    have ha' := List.pairwise_cons.1 ha
    have hb' := List.pairwise_cons.1 hb
    have e : x = y := by
      have h1 := (h x).1 (by simp)
      have h2 := (h y).2 (by simp)
      rcases List.mem_cons.1 h1 with h1 | h1
      · exact h1
      · rcases List.mem_cons.1 h2 with h2 | h2
        · exact h2.symm
        · have h3 := ha'.1 y h2
          have h4 := hb'.1 x h1
          rw [blt_asym h3] at h4; cases h4
    subst e
    congr 1
    refine srt_ext ha'.2 hb'.2 (fun z => ⟨fun hz => ?_, fun hz => ?_⟩)
    · rcases List.mem_cons.1 ((h z).1 (by simp [hz])) with h1 | h1
      · subst h1
        have := ha'.1 z hz
        rw [blt_self] at this; cases this
      · exact h1
    · rcases List.mem_cons.1 ((h z).2 (by simp [hz])) with h1 | h1
      · subst h1
        have := hb'.1 z hz
        rw [blt_self] at this; cases this
      · exact h1
/-- Entries of a row in order are told by their keys. -/
theorem srt_key {es : List En} (hs : srt es) {x y : En} (hx : x ∈ es) (hy : y ∈ es) (h : x.k = y.k) : x = y := by
  obtain ⟨i, hi, rfl⟩ := List.mem_iff_getElem.1 hx
  obtain ⟨j, hj, rfl⟩ := List.mem_iff_getElem.1 hy
  have e1 : ea es i = es[i] := by unfold ea; simp [List.getD, hi]
  have e2 : ea es j = es[j] := by unfold ea; simp [List.getD, hj]
  rcases Nat.lt_trichotomy i j with h1 | h1 | h1
  · have := srt_at hs h1 hj
    rw [e1, e2, h, blt_self] at this; cases this
  · subst h1; rfl
  · have := srt_at hs h1 hi
    rw [e1, e2, h, blt_self] at this; cases this
theorem srt_ea {es : List En} (hs : srt es) {i j : Nat} (hi : i < es.length) (hj : j < es.length) (h : (ea es i).k = (ea es j).k) : i = j := by
  rcases Nat.lt_trichotomy i j with h1 | h1 | h1
  · have := srt_at hs h1 hj
    rw [h, blt_self] at this; cases this
  · exact h1
  · have := srt_at hs h1 hi
    rw [h, blt_self] at this; cases this
theorem ea_of_mem {es : List En} {x : En} (h : x ∈ es) : ∃ i, i < es.length ∧ ea es i = x := by
  obtain ⟨i, hi, rfl⟩ := List.mem_iff_getElem.1 h
  exact ⟨i, hi, by unfold ea; simp [List.getD, hi]⟩
/-- A key that was put has its value; one that was deleted is not there. -/
theorem get_put {es : List En} (hs : srt es) (key v : ByteArray) : getE (rep es key [⟨key, v, []⟩]) key = v ∧ isE (rep es key [⟨key, v, []⟩]) key = true := by
  have h1 := fE_take es key
  have h2 := fE_drop es key hs
  have h3 := getE_mid h1 h2 [⟨key, v, []⟩]
  have h4 := (fE_mid h1 h2 [⟨key, v, []⟩]).2
  have e1 : isE [⟨key, v, []⟩] key = true := by unfold isE; rw [if_neg (by rw [blt_self]; decide)]; exact beq_self key
  have e2 : getE [⟨key, v, []⟩] key = v := by
    unfold getE
    rw [if_pos e1]
    have : fE [⟨key, v, []⟩] key = 0 := by unfold fE; rw [if_neg (by rw [blt_self]; decide)]
    rw [this]; rfl
  unfold rep
  exact ⟨h3.trans e2, h4.trans e1⟩
theorem del_not {es : List En} (hs : srt es) (key : ByteArray) : isE (tdL es key) key = false := by
  unfold tdL
  by_cases h : isE es key = true
  · rw [if_pos h]
    have h4 := (fE_mid (fE_take es key) (fE_drop es key hs) []).2
    unfold rep
    exact h4.trans rfl
  · rw [if_neg h]; simpa using h
theorem srt_tpL {es : List En} (hs : srt es) (key v : ByteArray) : srt (tpL es key v) := by
  unfold tpL
  split
  · exact srt_rep hs (.inr ⟨v, rfl⟩)
  · exact List.Pairwise.nil
theorem srt_tdL {es : List En} (hs : srt es) (key : ByteArray) : srt (tdL es key) := by
  unfold tdL
  split
  · exact srt_rep hs (.inl rfl)
  · exact hs
theorem tdL_len (es : List En) (key : ByteArray) : (tdL es key).length ≤ es.length := by
  unfold tdL
  split
  · have := rep_len es key []
    simp at this; omega
  · exact Nat.le_refl _
/-! ### In whatever order -/
/-- The place of the i-th put; of the i-th deletion. -/
def putAt (n t i : Nat) : Nat := if n % 7 = 0 then (i + t) % n else (i * 7 + t) % n
def delAt (n t i : Nat) : Nat := (i + t) % n
theorem seven : ∀ a, a < 7 → ∀ r, r < 7 → r ≠ 0 → ∃ t, t < 7 ∧ (a + t * r) % 7 = 0 := by decide
theorem delAt_inj {n t i j : Nat} (hi : i < n) (hj : j < i) : delAt n t i ≠ delAt n t j := fun h => by
  unfold delAt at h
  have h1 := Nat.sub_mod_eq_zero_of_mod_eq h
  rw [show i + t - (j + t) = i - j by omega, Nat.mod_eq_of_lt (by omega)] at h1
  omega
theorem shift_mod (n t m : Nat) (hm : m < n) : ((m + (n - t % n)) % n + t) % n = m := by
  have h0 : t % n < n := Nat.mod_lt _ (by omega)
  rw [Nat.add_mod, Nat.mod_mod, ← Nat.add_mod]
  have : (m + (n - t % n) + t) % n = (m + (n - t % n) + t % n) % n := by rw [Nat.add_mod, Nat.add_mod (m + (n - t % n)) (t % n), Nat.mod_mod]
  rw [this, show m + (n - t % n) + t % n = m + n by omega, Nat.add_mod_right, Nat.mod_eq_of_lt hm]
theorem putAt_all {n t m : Nat} (hm : m < n) : ∃ i, i < n ∧ putAt n t i = m := by
  unfold putAt
  by_cases h7 : n % 7 = 0
  · refine ⟨(m + (n - t % n)) % n, Nat.mod_lt _ (by omega), ?_⟩
    rw [if_pos h7, shift_mod n t m hm]
  · obtain ⟨c, hc⟩ : ∃ c, c = (m + (n - t % n)) % n := ⟨_, rfl⟩
    have hcn : c < n := by rw [hc]; exact Nat.mod_lt _ (by omega)
    have hct : (c + t) % n = m := by rw [hc]; exact shift_mod n t m hm
    obtain ⟨s, hs, h0⟩ := seven (c % 7) (Nat.mod_lt _ (by omega)) (n % 7) (Nat.mod_lt _ (by omega)) h7
    have h1 : (c + s * n) % 7 = 0 := by
      rw [Nat.add_mod, Nat.mul_mod]
      rw [Nat.add_mod, Nat.mul_mod, Nat.mod_mod, Nat.mod_mod] at h0
      exact h0
    have h2 : s * n ≤ 6 * n := Nat.mul_le_mul_right _ (by omega)
    refine ⟨(c + s * n) / 7, by omega, ?_⟩
    rw [if_neg h7]
    have h3 : (c + s * n) / 7 * 7 = c + s * n := by omega
    rw [h3, show c + s * n + t = c + t + s * n by omega, Nat.add_mul_mod_self_right]
    exact hct
end Go.Proofs.YtbgkjniagedcnaaGreatDoor
namespace Go.Proofs.YtbgkjniagedcnaaGreatDoor
open Go Go.RowKit

theorem has_len {e : En} (h : okE e) : e.k.size ≤ 1000000 := by have := okK_size h.1; omega
/-- The entries within a span. -/
def inS (s : Sp) (es : List En) : List En := es.filter fun e => hasS s e.k
/-- Those that are not. -/
def outS (s : Sp) (es : List En) : List En := es.filter fun e => !hasS s e.k
theorem inS_app (s : Sp) (a b : List En) : inS s (a ++ b) = inS s a ++ inS s b := List.filter_append ..
theorem inS_cons (s : Sp) (e : En) (r : List En) : inS s (e :: r) = if hasS s e.k = true then e :: inS s r else inS s r := by
  unfold inS; rw [List.filter_cons]
theorem outS_cons (s : Sp) (e : En) (r : List En) : outS s (e :: r) = if hasS s e.k = true then outS s r else e :: outS s r := by
  unfold outS; rw [List.filter_cons]
  cases hasS s e.k <;> rfl
theorem inS_mem {s : Sp} {es : List En} {x : En} : x ∈ inS s es ↔ x ∈ es ∧ hasS s x.k = true := List.mem_filter
theorem outS_mem {s : Sp} {es : List En} {x : En} : x ∈ outS s es ↔ x ∈ es ∧ hasS s x.k = false := by
  unfold outS; rw [List.mem_filter]; simp
theorem inS_len (s : Sp) (es : List En) : (inS s es).length ≤ es.length := List.length_filter_le ..
theorem inS_sub (s : Sp) (es : List En) : (inS s es).Sublist es := List.filter_sublist ..
theorem in_out (s : Sp) : ∀ es : List En, (inS s es).length + (outS s es).length = es.length
  | [] => rfl
  | e :: r => by
    have := in_out s r
    rw [inS_cons, outS_cons]
    cases hasS s e.k <;> simp <;> omega
theorem srt_sub {a b : List En} (h : a.Sublist b) (hs : srt b) : srt a := List.Pairwise.sublist h hs
theorem srt_in (s : Sp) {es : List En} (hs : srt es) : srt (inS s es) := srt_sub (inS_sub s es) hs
theorem srt_out (s : Sp) {es : List En} (hs : srt es) : srt (outS s es) := srt_sub (List.filter_sublist ..) hs
/-- The document's way: the first so many, and whether there are more. -/
def turnB (back : Bool) (l : List En) : List En := if back = true then l.reverse else l
def rowsL (s : Sp) (es : List En) (most : Int) (back : Bool) : List En := (inS s (turnB back es)).take most.toNat
def rowsM (s : Sp) (es : List En) (most : Int) : Bool := decide (most.toNat < (inS s es).length)
theorem in_turn (s : Sp) (es : List En) (back : Bool) : inS s (turnB back es) = turnB back (inS s es) := by
  unfold turnB inS; cases back <;> simp
theorem turn_len (back : Bool) (l : List En) : (turnB back l).length = l.length := by unfold turnB; cases back <;> simp

/-! ### A closure that tells when to end -/
/-- What is handed on of entries that stand one behind the other: within the span, and as long as it goes on. -/
def wkS (s : Sp) (d : List En → Bool) : List En → List En → List En × Bool
  | acc, [] => (acc, true)
  | acc, e :: r => if hasS s e.k = true then (if d (acc ++ [e]) = true then wkS s d (acc ++ [e]) r else (acc ++ [e], false)) else (acc, false)
theorem wkS_cons (s : Sp) (d : List En → Bool) (acc : List En) (e : En) (r : List En) :
    wkS s d acc (e :: r) = if hasS s e.k = true then (if d (acc ++ [e]) = true then wkS s d (acc ++ [e]) r else (acc ++ [e], false)) else (acc, false) := rfl
theorem wkS_app (s : Sp) (d : List En → Bool) : ∀ (a b acc : List En), wkS s d acc (a ++ b) = if (wkS s d acc a).2 = true then wkS s d (wkS s d acc a).1 b else wkS s d acc a
  | [], b, acc => rfl
  | e :: r, b, acc => by
    rw [List.cons_append, wkS_cons, wkS_cons]
    by_cases h1 : hasS s e.k = true
    · rw [if_pos h1, if_pos h1]
      by_cases h2 : d (acc ++ [e]) = true
      · rw [if_pos h2, if_pos h2]; exact wkS_app s d r b _
      · rw [if_neg h2, if_neg h2]; rfl
    · rw [if_neg h1, if_neg h1]; rfl
theorem wkS_len (s : Sp) (d : List En → Bool) : ∀ (a acc : List En), (wkS s d acc a).1.length ≤ acc.length + a.length
  | [], acc => by simp [wkS]
  | e :: r, acc => by
    have h := wkS_len s d r (acc ++ [e])
    rw [wkS_cons]
    simp only [List.length_append, List.length_cons, List.length_nil] at *
    split
    · split
      · omega
      · simp
    · simp
/-- The same without the span: of those within it. -/
def goS (d : List En → Bool) : List En → List En → List En
  | acc, [] => acc
  | acc, e :: r => if d (acc ++ [e]) = true then goS d (acc ++ [e]) r else acc ++ [e]
theorem has_mono {s : Sp} {a b : ByteArray} (h : blt a b = true) (hlo : blt a s.lo = false) (hn : hasS s a = false) : hasS s b = false := by
  unfold hasS at *
  rw [hlo] at hn
  simp only [Bool.not_false, Bool.true_and] at hn
  rw [Bool.or_eq_false_iff] at hn
  rw [hn.1]
  have : blt b s.hi = false := by
    cases h2 : blt b s.hi with
    | false => rfl
    | true => rw [blt_trans h h2] at hn; cases hn.2
  rw [this]; simp
theorem wk_go (s : Sp) (d : List En → Bool) : ∀ (l acc : List En), srt l → (∀ e ∈ l, blt e.k s.lo = false) → (wkS s d acc l).1 = goS d acc (inS s l)
  | [], acc, _, _ => rfl
  | e :: r, acc, hs, hl => by
    have hs' := List.pairwise_cons.1 hs
    rw [wkS_cons, inS_cons]
    by_cases h1 : hasS s e.k = true
    · rw [if_pos h1, if_pos h1]
      unfold goS
      by_cases h2 : d (acc ++ [e]) = true
      · rw [if_pos h2, if_pos h2]; exact wk_go s d r _ hs'.2 (fun x hx => hl x (by simp [hx]))
      · rw [if_neg h2, if_neg h2]
    · rw [if_neg h1, if_neg h1]
      have : inS s r = [] := by
        unfold inS
        rw [List.filter_eq_nil_iff]
        intro x hx
        rw [has_mono (hs'.1 x hx) (hl e (by simp)) (by simpa using h1)]; decide
      rw [this]; rfl
/-- What a node has that is not below a key. -/
def visS (from_ : ByteArray) (es : List En) : List En := es.drop (fE es from_)
theorem vis_in (s : Sp) (es : List En) : inS s (visS s.lo es) = inS s es := by
  conv => rhs; rw [← List.take_append_drop (fE es s.lo) es, inS_app]
  have : inS s (es.take (fE es s.lo)) = [] := by
    unfold inS
    rw [List.filter_eq_nil_iff]
    intro x hx
    have := fE_take es s.lo x hx
    unfold hasS
    rw [this]; simp
  rw [this]; rfl
theorem vis_ge {es : List En} (hs : srt es) (lo : ByteArray) : ∀ e ∈ visS lo es, blt e.k lo = false := by
  intro e he
  unfold visS at he
  have h2 := fE_drop es lo hs
  by_cases hI : isE es lo = true
  · have h3 : goneE es lo = 1 := by unfold goneE; rw [if_pos hI]
    have h4 := (isE_eq es lo).symm.trans hI
    rw [Bool.and_eq_true, decide_eq_true_iff] at h4
    rw [ea_drop es _ h4.1, List.mem_cons] at he
    rcases he with rfl | he
    · rw [beq_bytes h4.2]; exact blt_self _
    · rw [h3] at h2; exact blt_asym (h2 e he)
  · have h3 : goneE es lo = 0 := by unfold goneE; rw [if_neg hI]
    rw [h3, Nat.add_zero] at h2
    exact blt_asym (h2 e he)
theorem vis_walk (s : Sp) (d : List En → Bool) {es : List En} (hs : srt es) : (wkS s d [] (visS s.lo es)).1 = goS d [] (inS s es) := by
  rw [wk_go s d (visS s.lo es) [] (srt_sub (List.drop_sublist ..) hs) (vis_ge hs s.lo), vis_in]
theorem goS_all (d : List En → Bool) (hd : ∀ l, d l = true) : ∀ (l acc : List En), goS d acc l = acc ++ l
  | [], acc => by simp [goS]
  | e :: r, acc => by rw [goS, if_pos (hd _), goS_all d hd r]; simp
theorem goS_len (d : List En → Bool) : ∀ (l acc : List En), (goS d acc l).length ≤ acc.length + l.length
  | [], acc => by simp [goS]
  | e :: r, acc => by
    have h := goS_len d r (acc ++ [e])
    rw [goS]
    simp only [List.length_append, List.length_cons, List.length_nil] at *
    split
    · omega
    · simp
/-- Those from the front: one beyond at most. -/
def dFront (most : Int) (l : List En) : Bool := decide ((l.length : Int) ≤ most)
theorem goS_front (most : Int) : ∀ (l acc : List En), (acc = [] ∨ (acc.length : Int) ≤ most) → goS (dFront most) acc l = (acc ++ l).take (most.toNat + 1)
  | [], acc, h => by
    rw [goS, List.append_nil, List.take_of_length_le]
    rcases h with rfl | h
    · simp
    · omega
  | e :: r, acc, h => by
    have ha : acc.length ≤ most.toNat := by
      rcases h with rfl | h
      · simp
      · omega
    rw [goS]
    by_cases h2 : dFront most (acc ++ [e]) = true
    · rw [if_pos h2, goS_front most r _ (.inr (by simpa [dFront] using h2))]; simp
    · rw [if_neg h2]
      have : most.toNat = acc.length := by
        simp [dFront] at h2
        omega
      rw [this, List.take_append, List.take_of_length_le (by omega)]
      simp
/-! ### A node's kids -/
theorem kw_parts {G : SB → SB → Nat → List En → Prop} (hG : ∀ lo hi p e, G lo hi p e → ltO lo hi ∧ srt e ∧ ∀ x ∈ e, okE x ∧ ins lo hi x.k) {ks : List ByteArray} {lo hi : SB} {ps : List Nat} {ess : List (List En)} (h : KRow G ks lo hi ps ess) (key : ByteArray) :
    (∀ x ∈ (ess.take (wayS ks key)).flatten, blt x.k key = true) ∧ (∀ x ∈ (ess.drop (wayS ks key + 1)).flatten, blt key x.k = true) := by
  have hw := wayS_le ks key
  refine ⟨?_, ?_⟩
  · intro x hx
    cases h0 : wayS ks key with
    | zero => rw [h0] at hx; simp at hx
    | succ i =>
      rw [h0] at hx
      have h1 := (h.split (i := i) (by omega)).1
      have h2 := (h1.facts hG).2.2.1 x hx
      have h3 : blt key (sa ks i) = false := wayS_lt ks key i (by omega)
      exact ble_lt h2.2.2 h3
  · intro x hx
    rcases Nat.lt_or_ge (wayS ks key) ks.length with h0 | h0
    · have h1 := (h.split h0).2.2
      have h2 := (h1.facts hG).2.2.1 x hx
      exact ble_lt (wayS_at ks key h0) h2.2.1
    · rw [List.drop_of_length_le (by have := h.len; omega)] at hx
      simp at hx
theorem fE_none {B : List En} {key : ByteArray} (hB : ∀ e ∈ B, blt key e.k = true) : fE B key = 0 := by
  have := (fE_right hB []).1
  simpa [fE] using this
theorem vis_none {B : List En} {key : ByteArray} (hB : ∀ e ∈ B, blt key e.k = true) : visS key B = B := by
  unfold visS; rw [fE_none hB]; rfl
/-- What is still to be gone through from a kid on. -/
def restK (from_ : ByteArray) (ess : List (List En)) (i : Nat) : List En := ((ess.drop i).map (visS from_)).flatten
theorem restK_at (from_ : ByteArray) (ess : List (List En)) (i : Nat) (hi : i < ess.length) : restK from_ ess i = visS from_ (ess.getD i []) ++ restK from_ ess (i + 1) := by
  unfold restK
  rw [List.drop_eq_getElem_cons hi, List.map_cons, List.flatten_cons]
  congr 2
  simp [List.getD, hi]
theorem restK_end (from_ : ByteArray) (ess : List (List En)) (i : Nat) (hi : ess.length ≤ i) : restK from_ ess i = [] := by
  unfold restK; rw [List.drop_of_length_le hi]; rfl
theorem map_vis : ∀ {key : ByteArray} {l : List (List En)}, (∀ x ∈ l.flatten, blt key x.k = true) → (l.map (visS key)).flatten = l.flatten
  | _, [], _ => rfl
  | key, a :: r, h => by
    rw [List.map_cons, List.flatten_cons, List.flatten_cons, vis_none (fun e he => h e (by simp [he])), map_vis (fun x hx => h x (by rw [List.flatten_cons]; simp [List.mem_append, hx]))]
theorem vis_kids {G : SB → SB → Nat → List En → Prop} (hG : ∀ lo hi p e, G lo hi p e → ltO lo hi ∧ srt e ∧ ∀ x ∈ e, okE x ∧ ins lo hi x.k) {ks : List ByteArray} {lo hi : SB} {ps : List Nat} {ess : List (List En)} (h : KRow G ks lo hi ps ess) (key : ByteArray) :
    visS key ess.flatten = restK key ess (wayS ks key) := by
  have hp := kw_parts hG h key
  have hw := wayS_le ks key
  have hl := h.len
  have hlt : wayS ks key < ess.length := by omega
  rw [restK_at key ess _ hlt]
  have e1 : ess.flatten = (ess.take (wayS ks key)).flatten ++ (ess.getD (wayS ks key) [] ++ (ess.drop (wayS ks key + 1)).flatten) := by
    conv => lhs; rw [← List.take_append_drop (wayS ks key) ess, List.flatten_append, List.drop_eq_getElem_cons hlt, List.flatten_cons]
    congr 2
    simp [List.getD, hlt]
  have h3 := fE_mid hp.1 hp.2 (ess.getD (wayS ks key) [])
  have h4 := fE_le (ess.getD (wayS ks key) []) key
  unfold visS
  rw [e1, h3.1, List.drop_length_add_append, List.drop_append_of_le_length (by omega)]
  congr 1
  unfold restK
  rw [map_vis hp.2]
/-! ### What is taken out -/
def delS (es : List En) (acc : List En) : List En := acc.foldl (fun l e => tdL l e.k) es
theorem delS_one (es acc : List En) (e : En) : delS es (acc ++ [e]) = tdL (delS es acc) e.k := by unfold delS; rw [List.foldl_append]; rfl
theorem mem_tdL {es : List En} (hs : srt es) (key : ByteArray) (x : En) : x ∈ tdL es key ↔ x ∈ es ∧ x.k ≠ key := by
  unfold tdL
  by_cases h : isE es key = true
  · rw [if_pos h, mem_rep_iff hs]; simp
  · rw [if_neg h]
    refine ⟨fun hx => ⟨hx, fun e => h ((isE_iff hs key).2 ⟨x, hx, e⟩)⟩, fun hx => hx.1⟩
theorem srt_delS : ∀ {acc es : List En}, srt es → srt (delS es acc)
  | [], _, h => h
  | e :: r, _, h => srt_delS (acc := r) (srt_tdL h e.k)
theorem delS_len : ∀ (acc es : List En), (delS es acc).length ≤ es.length
  | [], _ => Nat.le_refl _
  | e :: r, es => Nat.le_trans (delS_len r (tdL es e.k)) (tdL_len es e.k)
theorem mem_delS : ∀ {acc es : List En}, srt es → ∀ x, x ∈ delS es acc ↔ x ∈ es ∧ ∀ e ∈ acc, x.k ≠ e.k
  | [], _, _, x => by simp [delS]
  | e :: r, es, h, x => by
    have := mem_delS (acc := r) (srt_tdL h e.k) x
    rw [show delS es (e :: r) = delS (tdL es e.k) r from rfl, this, mem_tdL h]
    simp only [List.mem_cons, forall_eq_or_imp]
    exact ⟨fun ⟨⟨a, b⟩, c⟩ => ⟨a, b, c⟩, fun ⟨a, b, c⟩ => ⟨⟨a, b⟩, c⟩⟩
theorem del_in (s : Sp) {es : List En} (hs : srt es) : delS es (inS s es) = outS s es := by
  refine srt_ext (srt_delS hs) (srt_out s hs) (fun x => ?_)
  rw [mem_delS hs, outS_mem]
  constructor
  · rintro ⟨h1, h2⟩
    refine ⟨h1, ?_⟩
    cases h : hasS s x.k with
    | false => rfl
    | true => exact absurd rfl (h2 x (inS_mem.2 ⟨h1, h⟩))
  · rintro ⟨h1, h2⟩
    refine ⟨h1, fun e he h3 => ?_⟩
    rw [h3, (inS_mem.1 he).2] at h2; cases h2
/-- A row of one's own stays while blocks are added. -/
theorem own_ext {w w' : World} {B T sz n : Nat} {v : Value} {xs : List Value} (h : w.ownsRow B T sz v n xs) (hb : Below w.heap.size w w') : w'.ownsRow B T sz v n xs := by
  obtain ⟨h1, h2⟩ := h
  refine ⟨h1, ?_⟩
  rcases h2 with h2 | ⟨g, cap, cur, rfl, hB, hg, r⟩
  · exact .inl h2
  · exact .inr ⟨g, cap, cur, rfl, hB, (hb.block g (Array.getElem?_eq_some_iff.1 hg).1).trans hg, r⟩
end Go.Proofs.YtbgkjniagedcnaaGreatDoor
