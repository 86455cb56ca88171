/-
  branch's ascend, apart, Check, Size.
-/
import Derived.Test.YtjlllkdimfkjaaaDoorStrs
import Derived.Test.YtjlllkdimfkjaaaDoorKeysChk
import Derived.WalkKit
import Derived.Lib.Hide
namespace Go.Proofs.YtjlllkdimfkjaaaDoor
open Go Go.RowKit

abbrev FT : TypeId := 29
abbrev RFK : TypeId := 25
/-- Check's answer. -/
def chkF (b : Bool) : Value := if b = true then .nilIface else .iface 47 (.int .i64 1)
set_option maxRecDepth 100000 in
theorem brAscend_any (a : Option Addr) (n c : Nat) (ks : List ByteArray) (w : World) (hn : ks.length = n) (hs : TxS w a ks) (hl : n ≤ 9223372036854775807) :
    Calls Tryd.prog 27 #[.slice a n c] w fun e w' => ∃ D, e = .returned (.bool D) ∧ (D = true ↔ keysF ks) ∧ Below w.heap.size w w' := by
  have Hs := Lib.hid hs
  have Hn := Lib.hid hn
  clear hs hn
  go_enter Tryd.func27, Tryd.ntmps27
  go_wp2_with fail
  go_loopw [3, 5, 8] (fun lv _ i wr => ∃ (k : Nat) (z : ByteArray), lv = .string z ∧ i = .int .i64 k ∧ k ≤ n ∧ Hid (z = lastK ks k) ∧ Hid (keysTo ks k) ∧ Hid (Below w.heap.size w wr)) (fun _ _ i _ => n - (intOf i).toNat)
  case atStart => exact ⟨0, ⟨#[]⟩, rfl, rfl, by omega, rfl, fun i hi => by omega, Below.refl _ _⟩
  case round =>
    obtain ⟨k, z, rfl, rfl, hk, hz, ht, hB⟩ := hrel
    by_cases hlt : k < n
    · obtain ⟨g, o, rfl, hcell⟩ := Hs.out.below hB.out (Nat.le_refl _) (by rw [Hn.out]; omega)
      have q0 := hcell k (by rw [Hn.out]; exact hlt)
      have hyes : Hid (okK (sa ks k) = true → blt z (sa ks k) = true → keysTo ks (k + 1)) := fun h1 h2 => keysTo_succ ht.out h1 (by rw [← hz.out]; exact h2)
      have hno : Hid (okK (sa ks k) = false ∨ blt z (sa ks k) = false → ¬ keysF ks) := fun h => not_keys (k := k) (by rw [Hn.out]; exact hlt) (by rw [← hz.out]; exact h)
      have hle := ble_eq (sa ks k) z
      have hls : Hid (sa ks k = lastK ks (k + 1)) := (lastK_succ ks k).symm
      have hc := check_any (sa ks k) wr
      unfold chkV at hc
      generalize sa ks k = y at *
      generalize okK y = K at *
      generalize blt z y = D at *
      have Hc := Lib.hid hc
      clear hcell ht hz hc
      cases K with
      | false =>
        have hy := Lib.hid (hno.out (.inl rfl))
        clear hyes hno
        simp only [Bool.false_eq_true, if_false] at Hc
        go_wp2_with fail
        refine Hc.out.mono ?_
        rintro e w' ⟨rfl, rfl⟩
        go_wp2
        go_ret
        exact ⟨_, rfl, ⟨(fun h => by cases h), fun h => absurd h hy.out⟩, hB.out⟩
      | true =>
        simp only [if_true] at Hc
        cases D with
        | false =>
          have hy := Lib.hid (hno.out (.inr rfl))
          clear hyes hno
          go_wp2_with fail
          refine Hc.out.mono ?_
          rintro e w' ⟨rfl, rfl⟩
          go_wp2
          go_ret
          exact ⟨_, rfl, ⟨(fun h => by cases h), fun h => absurd h hy.out⟩, hB.out⟩
        | true =>
          have hy := Lib.hid (hyes.out rfl rfl)
          clear hyes hno
          go_wp2_with fail
          refine Hc.out.mono ?_
          rintro e w' ⟨rfl, rfl⟩
          go_wp2
          go_roundw
          case rel => exact ⟨k + 1, y, rfl, by go_num, by omega, hls, hy, hB⟩
          case measure => simp [intOf]; omega
    · obtain rfl : k = n := by omega
      have hall : Hid (keysF ks) := by show keysTo ks ks.length; rw [Hn.out]; exact ht.out
      clear ht
      go_wp2
      go_ret
      exact ⟨_, rfl, ⟨fun _ => hall.out, fun _ => rfl⟩, hB.out⟩
set_option maxRecDepth 100000 in
theorem brSize_any (a : Option Addr) (n c : Nat) (ks : List ByteArray) (w : World) (hn : ks.length = n) (hs : TxS w a ks) (hl : n ≤ 1000000) (hm : keysF ks) :
    Calls Tryd.prog 16 #[.slice a n c] w fun e w' => e = .returned (.int .i64 (sizeTo ks n : Nat)) ∧ Below w.heap.size w w' := by
  have Hs := Lib.hid hs
  have Hn := Lib.hid hn
  have Hm := Lib.hid hm
  clear hs hn hm
  go_enter Tryd.func16, Tryd.ntmps16
  go_wp2_with fail
  go_loopw [3, 5, 8] (fun s _ i wr => ∃ k t : Nat, s = .int .i64 t ∧ i = .int .i64 k ∧ k ≤ n ∧ t ≤ 2 + 43 * k ∧ Hid (t = sizeTo ks k) ∧ Hid (Below w.heap.size w wr)) (fun _ _ i _ => n - (intOf i).toNat)
  case atStart => exact ⟨0, 2, rfl, rfl, by omega, by omega, rfl, Below.refl _ _⟩
  case round =>
    obtain ⟨k, t, rfl, rfl, hk, ht, hts, hB⟩ := hrel
    by_cases hlt : k < n
    · obtain ⟨g, o, rfl, hcell⟩ := Hs.out.below hB.out (Nat.le_refl _) (by rw [Hn.out]; omega)
      have q0 := hcell k (by rw [Hn.out]; exact hlt)
      have h1 := (okK_size (Hm.out k (by rw [Hn.out]; exact hlt)).1).2
      have h5 : Hid (t + (3 + (sa ks k).size) = sizeTo ks (k + 1)) := by show _ = _; rw [sizeTo, ← hts.out]
      generalize sa ks k = y at *
      clear hcell hts
      go_wp2
      go_roundw
      case rel => exact ⟨k + 1, t + (3 + y.size), by go_num, by go_num, by omega, by omega, h5, hB⟩
      case measure => simp [intOf]; omega
    · obtain rfl : k = n := by omega
      go_wp2
      go_ret
      exact ⟨by rw [← hts.out]; rfl, hB.out⟩
/-- Which pages were seen: a row of bools. -/
abbrev ST : TypeId := 93
def Seen (w : World) (b : Nat) (f : Nat → Bool) : Prop := ∃ A : Array Value, w.heap[b]? = some (.cells A ST (0, 0)) ∧ A.size = 1024 ∧ ∀ p, p < 1024 → A[p]? = some (.bool (f p))
theorem zero_list : (Tryd.zeroCells93).toList = List.replicate 1024 (Value.bool false) := by kernel_rfl
theorem seen_new (w : World) : Seen (w.alloc (.cells Tryd.zeroCells93 ST)) w.heap.size (fun _ => false) := by
  refine ⟨Tryd.zeroCells93, ?_, ?_, fun p hp => ?_⟩
  · show (w.heap.push _)[w.heap.size]? = _; rw [Array.getElem?_push_size]
  · rw [← Array.length_toList, zero_list, List.length_replicate]
  · rw [← Array.getElem?_toList, zero_list, List.getElem?_replicate, if_pos hp]
theorem Seen.cell {w : World} {b : Nat} {f : Nat → Bool} (h : Seen w b f) (p : Nat) (hp : p < 1024) : w.cell? ⟨b, p, none⟩ = some (.bool (f p)) := by
  obtain ⟨A, h1, _, h3⟩ := h
  simp [World.cell?, h1, h3 p hp]
theorem Seen.fz {w : World} {b : Nat} {f : Nat → Bool} (h : Seen w b f) (p : Nat) : w.frozen? ⟨b, p, none⟩ = false := by
  obtain ⟨A, h1, _⟩ := h
  simp [World.frozen?, h1]
theorem Seen.set {w : World} {b : Nat} {f : Nat → Bool} (h : Seen w b f) (q : Nat) (hq : q < 1024) : Seen (w.setCell ⟨b, q, none⟩ (.bool true)) b (fun p => if p = q then true else f p) := by
  obtain ⟨A, h1, h2, h3⟩ := h
  refine ⟨A.setIfInBounds q (.bool true), heap_setCell_same w b q _ _ _ h1, by rw [Array.size_setIfInBounds]; exact h2, fun p hp => ?_⟩
  rw [Array.getElem?_setIfInBounds]
  by_cases e : q = p
  · subst e
    rw [if_pos rfl, if_pos (by rw [h2]; exact hq)]; simp
  · rw [if_neg e, h3 p hp]
    simp only
    rw [if_neg (fun x => e x.symm)]
/-- Which pages the first k are. -/
def SeenTo (is : List Int) (k : Nat) (f : Nat → Bool) : Prop := ∀ p, p < 1024 → (f p = true ↔ ∃ j, j < k ∧ ia is j = (p : Int))
theorem seenTo_zero (is : List Int) : SeenTo is 0 (fun _ => false) := fun p _ => ⟨(fun h => by cases h), fun ⟨j, hj, _⟩ => by omega⟩
theorem seenTo_succ {is : List Int} {k : Nat} {f : Nat → Bool} (h : SeenTo is k f) (q : Nat) (hq : ia is k = (q : Int)) : SeenTo is (k + 1) (fun p => if p = q then true else f p) := fun p hp => by
  simp only
  by_cases e : p = q
  · rw [if_pos e]
    exact ⟨fun _ => ⟨k, by omega, by rw [hq, e]⟩, fun _ => rfl⟩
  · rw [if_neg e, h p hp]
    constructor
    · rintro ⟨j, hj, h2⟩; exact ⟨j, by omega, h2⟩
    · rintro ⟨j, hj, h2⟩
      rcases Nat.lt_or_ge j k with h3 | h3
      · exact ⟨j, h3, h2⟩
      · obtain rfl : j = k := by omega
        rw [hq] at h2
        exact absurd (by omega) e
theorem seen_fresh {is : List Int} {k : Nat} {f : Nat → Bool} (h : SeenTo is k f) (q : Nat) (hq : ia is k = (q : Int)) (hlt : q < 1024) : (f q = true → ¬ freshAt is k) ∧ (f q = false → freshAt is k) := by
  refine ⟨fun h1 hf => ?_, fun h1 j hj e => ?_⟩
  · obtain ⟨j, hj, e⟩ := (h q hlt).1 h1
    exact hf j hj (by rw [e, hq])
  · have := (h q hlt).2 ⟨j, hj, by rw [e, hq]⟩
    rw [h1] at this; cases this
set_option maxRecDepth 100000 in
theorem brApart_any (a : Option Addr) (n c : Nat) (is : List Int) (w : World) (hn : is.length = n) (hs : PgS w a is) (hl : n ≤ 9223372036854775807) :
    Calls Tryd.prog 28 #[.slice a n c] w fun e w' => ∃ D, e = .returned (.bool D) ∧ (D = true ↔ pagesF is) ∧ Below w.heap.size w w' := by
  have Hs := Lib.hid hs
  have Hn := Lib.hid hn
  clear hs hn
  obtain ⟨wA, hwA⟩ : ∃ wA, wA = w.alloc (.cells Tryd.zeroCells93 ST) := ⟨_, rfl⟩
  have hbA : Hid (Below w.heap.size w wA) := by rw [hwA]; exact (Below.refl _ _).alloc (Nat.le_refl _) _
  have hsA : Hid (Seen wA w.heap.size (fun _ => false)) := by rw [hwA]; exact seen_new w
  have hwA' := Lib.hid hwA.symm
  clear hwA
  go_enter Tryd.func28, Tryd.ntmps28
  go_wp2_with fail
  rw [hwA'.out]
  go_loopw [5, 8] (fun _ i wr => ∃ (k : Nat) (f : Nat → Bool), i = .int .i64 k ∧ k ≤ n ∧ Hid (pagesTo is k) ∧ Hid (SeenTo is k f) ∧ Hid (Seen wr w.heap.size f) ∧ Hid (Below w.heap.size w wr)) (fun _ i _ => n - (intOf i).toNat)
  case atStart => exact ⟨0, fun _ => false, rfl, by omega, fun i hi => by omega, seenTo_zero is, hsA, hbA⟩
  case round =>
    obtain ⟨k, f, rfl, hk, ht, hsn, hS, hB⟩ := hrel
    by_cases hlt : k < n
    · obtain ⟨g, o, rfl, hcell⟩ := Hs.out.below hB.out (Nat.le_refl _) (by rw [Hn.out]; omega)
      have q0 := hcell k (by rw [Hn.out]; exact hlt)
      have hno : Hid (¬ (2 ≤ ia is k ∧ ia is k ≤ 1023) ∨ ¬ freshAt is k → ¬ pagesF is) := fun h => not_pages (k := k) (by rw [Hn.out]; exact hlt) h
      have hyes : Hid (2 ≤ ia is k ∧ ia is k ≤ 1023 → freshAt is k → pagesTo is (k + 1)) := fun h1 h2 => pagesTo_succ ht.out h1 h2
      have hfr := Lib.hid (fun q h1 h2 => seen_fresh (q := q) hsn.out h1 h2)
      have hnx := Lib.hid (fun q h1 => seenTo_succ (q := q) hsn.out h1)
      generalize ia is k = x at *
      clear hcell ht hsn
      by_cases h1 : x < 2
      · have hy := Lib.hid (hno.out (.inl (by omega)))
        have d1 : decide (x < 2) = true := decide_eq_true h1
        clear hno hyes hfr hnx h1
        go_wp2
        go_ret
        exact ⟨_, rfl, ⟨(fun h => by cases h), fun h => absurd h hy.out⟩, hB.out⟩
      · have d1 : decide (x < 2) = false := decide_eq_false h1
        by_cases h2 : 1024 ≤ x
        · have hy := Lib.hid (hno.out (.inl (by omega)))
          have d2 : decide (1024 ≤ x) = true := decide_eq_true h2
          clear hno hyes hfr hnx h1 h2
          go_wp2
          go_ret
          exact ⟨_, rfl, ⟨(fun h => by cases h), fun h => absurd h hy.out⟩, hB.out⟩
        · have d2 : decide (1024 ≤ x) = false := decide_eq_false h2
          obtain ⟨q, rfl⟩ := Int.eq_ofNat_of_zero_le (show 0 ≤ x by omega)
          have hq : q < 1024 := by omega
          have hq' : (q : Int) < 1024 := by omega
          have c0 := hS.out.cell q hq
          have f0 := hS.out.fz q
          have hfr2 := Lib.hid (hfr.out q rfl hq)
          have hset := Lib.hid (hS.out.set q hq)
          have hnx2 := Lib.hid (hnx.out q rfl)
          have hBs : Hid (Below w.heap.size w (wr.setCell ⟨w.heap.size, q, none⟩ (.bool true))) := hB.out.setCell (Nat.le_refl _) _
          obtain ⟨D, hD⟩ : ∃ D, D = f q := ⟨_, rfl⟩
          rw [← hD] at c0 hfr2
          clear hD hfr hnx hS
          cases D with
          | true =>
            have hy := Lib.hid (hno.out (.inr (hfr2.out.1 rfl)))
            clear hno hyes
            go_wp2
            go_ret
            exact .inl ⟨rfl, hy.out, hB.out⟩
          | false =>
            have hy := Lib.hid (hyes.out ⟨by omega, by omega⟩ (hfr2.out.2 rfl))
            clear hno hyes
            go_wp2
            go_roundw
            case rel => exact ⟨k + 1, _, by go_num, by omega, hy, hnx2, hset, hBs⟩
            case measure => simp [intOf]; omega
    · obtain rfl : k = n := by omega
      have hall : Hid (pagesF is) := by show pagesTo is is.length; rw [Hn.out]; exact ht.out
      clear ht
      go_wp2
      go_ret
      exact ⟨_, rfl, ⟨fun _ => hall.out, fun _ => rfl⟩, hB.out⟩
theorem chk_parts (ks : List ByteArray) (is : List Int) (n m : Nat) (hn : ks.length = n) (hm : is.length = m) : (n < 1 → ¬ mayF ks is) ∧ (m ≠ n + 1 → ¬ mayF ks is) ∧ (¬ keysF ks → ¬ mayF ks is) ∧ (¬ pagesF is → ¬ mayF ks is) ∧ (¬ n < 1 → m = n + 1 → keysF ks → pagesF is → mayF ks is) :=
  ⟨fun h h2 => by have := h2.2.2.1; omega, fun h h2 => by have := h2.2.2.2; omega, fun h h2 => h h2.1, fun h h2 => h h2.2.1, fun h1 h2 h3 h4 => ⟨h3, h4, by omega, by omega⟩⟩
set_option maxRecDepth 100000 in
theorem brCheck_any (a b : Option Addr) (n c m d : Nat) (ks : List ByteArray) (is : List Int) (w : World) (hn : ks.length = n) (hm : is.length = m) (hs : TxS w a ks) (hp : PgS w b is) (hl : n ≤ 1099511627776) (hl2 : m ≤ 1099511627776) :
    Calls Tryd.prog 13 #[.agg #[.slice a n c, .slice b m d]] w fun e w' => ∃ D, e = .returned (chkF D) ∧ (D = true ↔ mayF ks is) ∧ Below w.heap.size w w' := by
  have Hn := Lib.hid (And.intro hn hm)
  have Hs := Lib.hid (And.intro hs hp)
  have hpt := Lib.hid (chk_parts ks is n m hn hm)
  have hb0 : Hid (Below w.heap.size w (w.alloc (.cells #[.slice a n c, .slice b m d] FT))) := (Below.refl _ _).alloc (Nat.le_refl _) _
  clear hs hp hn hm
  have i4 : IntKind.i64.wrap ((n : Int) + 1) = (n : Int) + 1 := by rw [IntKind.wrap_i64]; omega
  by_cases h1 : n < 1
  · have d1 : decide ((n : Int) < 1) = true := decide_eq_true (by omega)
    have hy := Lib.hid (hpt.out.1 h1)
    clear hpt h1
    go_enter Tryd.func13, Tryd.ntmps13
    go_wp2
    go_ret
    exact ⟨false, rfl, ⟨(fun h => by cases h), fun h => absurd h hy.out⟩, hb0.out⟩
  have d1 : decide ((n : Int) < 1) = false := decide_eq_false (by omega)
  by_cases h2 : m = n + 1
  rotate_left
  · have d2 : ((m : Int) != (n : Int) + 1) = true := by simp; omega
    have hy := Lib.hid (hpt.out.2.1 h2)
    clear hpt h1 h2
    go_enter Tryd.func13, Tryd.ntmps13
    go_wp2
    go_ret
    exact ⟨false, rfl, ⟨(fun h => by cases h), fun h => absurd h hy.out⟩, hb0.out⟩
  have d2 : ((m : Int) != (n : Int) + 1) = false := by simp; omega
  have hpt2 := Lib.hid (hpt.out.2.2.2.2 h1 h2)
  have hpt3 := Lib.hid (And.intro hpt.out.2.2.1 hpt.out.2.2.2.1)
  clear hpt h1 h2
  obtain ⟨w0, hw0⟩ : ∃ w0, w0 = w.alloc (.cells #[.slice a n c, .slice b m d] FT) := ⟨_, rfl⟩
  have hb0' : Hid (Below w.heap.size w w0) := by rw [hw0]; exact hb0.out
  have ha := Lib.hid (brAscend_any a n c ks w0 Hn.out.1 (Hs.out.1.below hb0'.out (Nat.le_refl _)) (by omega))
  have hpb : Hid (PB w0 w.heap.size FT (.slice a n c) (.slice b m d)) := by rw [hw0]; exact PB.new _ _ _ _
  have hw0' := Lib.hid hw0.symm
  clear hw0 hb0
  go_enter Tryd.func13, Tryd.ntmps13
  go_wp2_with fail
  rw [hw0'.out]
  refine ha.out.mono ?_
  rintro e w1 ⟨D, rfl, hD, hb1⟩
  have HD := Lib.hid hD
  have Hb1 := Lib.hid (hb0'.out.trans (hb1.mono hb0'.out.size))
  have c1 := (hpb.out.ext hb1).c1
  clear ha hw0' hb0' hD hb1 hpb
  cases D with
  | false =>
    have hy : Hid (¬ mayF ks is) := hpt3.out.1 (fun h => by have := HD.out.2 h; cases this)
    clear hpt2 hpt3 HD
    go_wp2
    go_ret
    exact ⟨false, rfl, ⟨(fun h => by cases h), fun h => absurd h hy.out⟩, Hb1.out⟩
  | true =>
    have hkf := Lib.hid (HD.out.1 rfl)
    have ha := Lib.hid (brApart_any b m d is w1 Hn.out.2 (Hs.out.2.below Hb1.out (Nat.le_refl _)) (by omega))
    clear HD
    go_wp2_with fail
    refine ha.out.mono ?_
    rintro e w2 ⟨D, rfl, hD, hb2⟩
    have HD := Lib.hid hD
    have Hb2 := Lib.hid (Hb1.out.trans (hb2.mono Hb1.out.size))
    clear ha hD hb2 Hb1 c1
    cases D with
    | false =>
      have hy : Hid (¬ mayF ks is) := hpt3.out.2 (fun h => by have := HD.out.2 h; cases this)
      clear hpt2 hpt3 HD
      go_wp2
      go_ret
      exact ⟨false, rfl, ⟨(fun h => by cases h), fun h => absurd h hy.out⟩, Hb2.out⟩
    | true =>
      have hy : Hid (mayF ks is) := hpt2.out hkf.out (HD.out.1 rfl)
      clear hpt2 hpt3 HD
      go_wp2
      go_ret
      exact ⟨true, rfl, ⟨fun _ => hy.out, fun _ => rfl⟩, Hb2.out⟩
end Go.Proofs.YtjlllkdimfkjaaaDoor
