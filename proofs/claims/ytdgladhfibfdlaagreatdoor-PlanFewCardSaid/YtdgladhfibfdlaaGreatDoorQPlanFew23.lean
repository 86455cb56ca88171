/-
  What the law PlanFew stands on.
-/
import Derived.Test.YtdgladhfibfdlaaGreatDoorQPlanFew22
import Derived.Test.YtdgladhfibfdlaaGreatDoorQPlanFew02
import Derived.WalkKit
import Derived.Lib.Hide
import Derived.RangeFuncNested
import Derived.RangeFuncBox
import Derived.RangeFuncBound
import Derived.RangeFuncLeaves
import Derived.Shelf.Abstract
import Derived.OwnWalkIn
import Derived.TacticsInMore
import Derived.LoopNIn
import Derived.LoopIn
import Derived.Maps.AppendAt
import Derived.Test.YtdgladhfibfdlaaGreatDoorQPlanFew10
import Derived.Test.YtdgladhfibfdlaaGreatDoorQPlanFew07
import Derived.Test.YtdgladhfibfdlaaGreatDoorQPlanFew08
import Derived.Test.YtdgladhfibfdlaaGreatDoorQPlanFew01
import Derived.Test.YtdgladhfibfdlaaGreatDoorProg
import Derived.Test.YtdgladhfibfdlaaGreatDoorQPlanFew06
import Derived.Test.YtdgladhfibfdlaaGreatDoorQPlanFew05
import Derived.Test.YtdgladhfibfdlaaGreatDoorQPlanFew19
import Derived.OwnWalk
import Derived.Below
namespace Go.Proofs.YtdgladhfibfdlaaGreatDoor
open Go Go.RowKit
abbrev FT : TypeId := 188
def chkF (b : Bool) : Value := if b = true then .nilIface else .iface 110 (.int .i64 1)
set_option maxRecDepth 100000 in
theorem brAscend_any (a : Option Addr) (n c : Nat) (ks : List ByteArray) (w : World) (hn : ks.length = n) (hs : TxS w a ks) (hl : n ≤ 9223372036854775807) :
    Calls Tryz.prog 178 #[.slice a n c] w fun e w' => ∃ D, e = .returned (.bool D) ∧ (D = true ↔ keysF ks) ∧ Below w.heap.size w w' := by
  have Hs := Lib.hid hs
  have Hn := Lib.hid hn
  clear hs hn
  go_enter Tryz.func178, Tryz.ntmps178
  go_wp2_with fail
  go_loopw [3, 5, 8] (fun lv _ i wr => ∃ (k : Nat) (z : ByteArray), lv = .string z ∧ i = .int .i64 k ∧ k ≤ n ∧ Hid (z = lastK ks k) ∧ Hid (keysTo ks k) ∧ Hid (Below w.heap.size w wr)) (fun _ _ i _ => n - (intOf i).toNat)
  case atStart => exact ⟨0, ⟨#[]⟩, rfl, rfl, by omega, rfl, fun i hi => by omega, Below.refl _ _⟩
  case round =>
    obtain ⟨k, z, rfl, rfl, hk, hz, ht, hB⟩ := hrel
    by_cases hlt : k < n
    · obtain ⟨g, o, rfl, hcell⟩ := Hs.out.below hB.out (Nat.le_refl _) (by rw [Hn.out]; omega)
      have q0 := hcell k (by rw [Hn.out]; exact hlt)
      have hyes : Hid (okK (sa ks k) = true → blt z (sa ks k) = true → keysTo ks (k + 1)) := fun h1 h2 => keysTo_succ ht.out h1 (by rw [← hz.out]; exact h2)
      have hno : Hid (okK (sa ks k) = false ∨ blt z (sa ks k) = false → ¬ keysF ks) := fun h => not_keys (k := k) (by rw [Hn.out]; exact hlt) (by rw [← hz.out]; exact h)
      have hle := ble_eq (sa ks k) z
      have hls : Hid (sa ks k = lastK ks (k + 1)) := (lastK_succ ks k).symm
      have hc := check_any (sa ks k) wr
      unfold chkV at hc
      generalize sa ks k = y at *
      generalize okK y = K at *
      generalize blt z y = D at *
      have Hc := Lib.hid hc
      clear hcell ht hz hc
      cases K with
      | false =>
        have hy := Lib.hid (hno.out (.inl rfl))
        clear hyes hno
        simp only [Bool.false_eq_true, if_false] at Hc
        go_wp2_with fail
        refine Hc.out.mono ?_
        rintro e w' ⟨rfl, rfl⟩
        go_wp2
        go_ret
        exact ⟨_, rfl, ⟨(fun h => by cases h), fun h => absurd h hy.out⟩, hB.out⟩
      | true =>
        simp only [if_true] at Hc
        cases D with
        | false =>
          have hy := Lib.hid (hno.out (.inr rfl))
          clear hyes hno
          go_wp2_with fail
          refine Hc.out.mono ?_
          rintro e w' ⟨rfl, rfl⟩
          go_wp2
          go_ret
          exact ⟨_, rfl, ⟨(fun h => by cases h), fun h => absurd h hy.out⟩, hB.out⟩
        | true =>
          have hy := Lib.hid (hyes.out rfl rfl)
          clear hyes hno
          go_wp2_with fail
          refine Hc.out.mono ?_
          rintro e w' ⟨rfl, rfl⟩
          go_wp2
          go_roundw
          case rel => exact ⟨k + 1, y, rfl, by go_num, by omega, hls, hy, hB⟩
          case measure => simp [intOf]; omega
    · obtain rfl : k = n := by omega
      have hall : Hid (keysF ks) := by show keysTo ks ks.length; rw [Hn.out]; exact ht.out
      clear ht
      go_wp2
      go_ret
      exact ⟨_, rfl, ⟨fun _ => hall.out, fun _ => rfl⟩, hB.out⟩
set_option maxRecDepth 100000 in
theorem brSize_any (a : Option Addr) (n c : Nat) (ks : List ByteArray) (w : World) (hn : ks.length = n) (hs : TxS w a ks) (hl : n ≤ 1000000) (hm : keysF ks) :
    Calls Tryz.prog 140 #[.slice a n c] w fun e w' => e = .returned (.int .i64 (sizeTo ks n : Nat)) ∧ Below w.heap.size w w' := by
  have Hs := Lib.hid hs
  have Hn := Lib.hid hn
  have Hm := Lib.hid hm
  clear hs hn hm
  go_enter Tryz.func140, Tryz.ntmps140
  go_wp2_with fail
  go_loopw [3, 5, 8] (fun s _ i wr => ∃ k t : Nat, s = .int .i64 t ∧ i = .int .i64 k ∧ k ≤ n ∧ t ≤ 2 + 43 * k ∧ Hid (t = sizeTo ks k) ∧ Hid (Below w.heap.size w wr)) (fun _ _ i _ => n - (intOf i).toNat)
  case atStart => exact ⟨0, 2, rfl, rfl, by omega, by omega, rfl, Below.refl _ _⟩
  case round =>
    obtain ⟨k, t, rfl, rfl, hk, ht, hts, hB⟩ := hrel
    by_cases hlt : k < n
    · obtain ⟨g, o, rfl, hcell⟩ := Hs.out.below hB.out (Nat.le_refl _) (by rw [Hn.out]; omega)
      have q0 := hcell k (by rw [Hn.out]; exact hlt)
      have h1 := (okK_size (Hm.out k (by rw [Hn.out]; exact hlt)).1).2
      have h5 : Hid (t + (3 + (sa ks k).size) = sizeTo ks (k + 1)) := by show _ = _; rw [sizeTo, ← hts.out]
      generalize sa ks k = y at *
      clear hcell hts
      go_wp2
      go_roundw
      case rel => exact ⟨k + 1, t + (3 + y.size), by go_num, by go_num, by omega, by omega, h5, hB⟩
      case measure => simp [intOf]; omega
    · obtain rfl : k = n := by omega
      go_wp2
      go_ret
      exact ⟨by rw [← hts.out]; rfl, hB.out⟩
abbrev ST : TypeId := 131
def Seen (w : World) (b : Nat) (f : Nat → Bool) : Prop := ∃ A : Array Value, w.heap[b]? = some (.cells A ST (0, 0)) ∧ A.size = 1024 ∧ ∀ p, p < 1024 → A[p]? = some (.bool (f p))
theorem zero_list : (Tryz.zeroCells131).toList = List.replicate 1024 (Value.bool false) := by kernel_rfl
theorem seen_new (w : World) : Seen (w.alloc (.cells Tryz.zeroCells131 ST)) w.heap.size (fun _ => false) := by
  refine ⟨Tryz.zeroCells131, ?_, ?_, fun p hp => ?_⟩
  · show (w.heap.push _)[w.heap.size]? = _; rw [Array.getElem?_push_size]
  · rw [← Array.length_toList, zero_list, List.length_replicate]
  · rw [← Array.getElem?_toList, zero_list, List.getElem?_replicate, if_pos hp]
theorem Seen.cell {w : World} {b : Nat} {f : Nat → Bool} (h : Seen w b f) (p : Nat) (hp : p < 1024) : w.cell? ⟨b, p, none⟩ = some (.bool (f p)) := by
  obtain ⟨A, h1, _, h3⟩ := h
  simp [World.cell?, h1, h3 p hp]
theorem Seen.fz {w : World} {b : Nat} {f : Nat → Bool} (h : Seen w b f) (p : Nat) : w.frozen? ⟨b, p, none⟩ = false := by
  obtain ⟨A, h1, _⟩ := h
  simp [World.frozen?, h1]
theorem Seen.set {w : World} {b : Nat} {f : Nat → Bool} (h : Seen w b f) (q : Nat) (hq : q < 1024) : Seen (w.setCell ⟨b, q, none⟩ (.bool true)) b (fun p => if p = q then true else f p) := by
  obtain ⟨A, h1, h2, h3⟩ := h
  refine ⟨A.setIfInBounds q (.bool true), heap_setCell_same w b q _ _ _ h1, by rw [Array.size_setIfInBounds]; exact h2, fun p hp => ?_⟩
  rw [Array.getElem?_setIfInBounds]
  by_cases e : q = p
  · subst e
    rw [if_pos rfl, if_pos (by rw [h2]; exact hq)]; simp
  · rw [if_neg e, h3 p hp]
    simp only
    rw [if_neg (fun x => e x.symm)]
def SeenTo (is : List Int) (k : Nat) (f : Nat → Bool) : Prop := ∀ p, p < 1024 → (f p = true ↔ ∃ j, j < k ∧ ia is j = (p : Int))
theorem seenTo_zero (is : List Int) : SeenTo is 0 (fun _ => false) := fun p _ => ⟨(fun h => by cases h), fun ⟨j, hj, _⟩ => by omega⟩
theorem seenTo_succ {is : List Int} {k : Nat} {f : Nat → Bool} (h : SeenTo is k f) (q : Nat) (hq : ia is k = (q : Int)) : SeenTo is (k + 1) (fun p => if p = q then true else f p) := fun p hp => by
  simp only
  by_cases e : p = q
  · rw [if_pos e]
    exact ⟨fun _ => ⟨k, by omega, by rw [hq, e]⟩, fun _ => rfl⟩
  · rw [if_neg e, h p hp]
    constructor
    · rintro ⟨j, hj, h2⟩; exact ⟨j, by omega, h2⟩
    · rintro ⟨j, hj, h2⟩
      rcases Nat.lt_or_ge j k with h3 | h3
      · exact ⟨j, h3, h2⟩
      · obtain rfl : j = k := by omega
        rw [hq] at h2
        exact absurd (by omega) e
theorem seen_fresh {is : List Int} {k : Nat} {f : Nat → Bool} (h : SeenTo is k f) (q : Nat) (hq : ia is k = (q : Int)) (hlt : q < 1024) : (f q = true → ¬ freshAt is k) ∧ (f q = false → freshAt is k) := by
  refine ⟨fun h1 hf => ?_, fun h1 j hj e => ?_⟩
  · obtain ⟨j, hj, e⟩ := (h q hlt).1 h1
    exact hf j hj (by rw [e, hq])
  · have := (h q hlt).2 ⟨j, hj, by rw [e, hq]⟩
    rw [h1] at this; cases this
set_option maxRecDepth 100000 in
theorem brApart_any (a : Option Addr) (n c : Nat) (is : List Int) (w : World) (hn : is.length = n) (hs : PgS w a is) (hl : n ≤ 9223372036854775807) :
    Calls Tryz.prog 179 #[.slice a n c] w fun e w' => ∃ D, e = .returned (.bool D) ∧ (D = true ↔ pagesF is) ∧ Below w.heap.size w w' := by
  have Hs := Lib.hid hs
  have Hn := Lib.hid hn
  clear hs hn
  obtain ⟨wA, hwA⟩ : ∃ wA, wA = w.alloc (.cells Tryz.zeroCells131 ST) := ⟨_, rfl⟩
  have hbA : Hid (Below w.heap.size w wA) := by rw [hwA]; exact (Below.refl _ _).alloc (Nat.le_refl _) _
  have hsA : Hid (Seen wA w.heap.size (fun _ => false)) := by rw [hwA]; exact seen_new w
  have hwA' := Lib.hid hwA.symm
  clear hwA
  go_enter Tryz.func179, Tryz.ntmps179
  go_wp2_with fail
  rw [hwA'.out]
  go_loopw [5, 8] (fun _ i wr => ∃ (k : Nat) (f : Nat → Bool), i = .int .i64 k ∧ k ≤ n ∧ Hid (pagesTo is k) ∧ Hid (SeenTo is k f) ∧ Hid (Seen wr w.heap.size f) ∧ Hid (Below w.heap.size w wr)) (fun _ i _ => n - (intOf i).toNat)
  case atStart => exact ⟨0, fun _ => false, rfl, by omega, fun i hi => by omega, seenTo_zero is, hsA, hbA⟩
  case round =>
    obtain ⟨k, f, rfl, hk, ht, hsn, hS, hB⟩ := hrel
    by_cases hlt : k < n
    · obtain ⟨g, o, rfl, hcell⟩ := Hs.out.below hB.out (Nat.le_refl _) (by rw [Hn.out]; omega)
      have q0 := hcell k (by rw [Hn.out]; exact hlt)
      have hno : Hid (¬ (2 ≤ ia is k ∧ ia is k ≤ 1023) ∨ ¬ freshAt is k → ¬ pagesF is) := fun h => not_pages (k := k) (by rw [Hn.out]; exact hlt) h
      have hyes : Hid (2 ≤ ia is k ∧ ia is k ≤ 1023 → freshAt is k → pagesTo is (k + 1)) := fun h1 h2 => pagesTo_succ ht.out h1 h2
      have hfr := Lib.hid (fun q h1 h2 => seen_fresh (q := q) hsn.out h1 h2)
      have hnx := Lib.hid (fun q h1 => seenTo_succ (q := q) hsn.out h1)
      generalize ia is k = x at *
      clear hcell ht hsn
      by_cases h1 : x < 2
      · have hy := Lib.hid (hno.out (.inl (by omega)))
        have d1 : decide (x < 2) = true := decide_eq_true h1
        clear hno hyes hfr hnx h1
        go_wp2
        go_ret
        exact ⟨_, rfl, ⟨(fun h => by cases h), fun h => absurd h hy.out⟩, hB.out⟩
      · have d1 : decide (x < 2) = false := decide_eq_false h1
        by_cases h2 : 1024 ≤ x
        · have hy := Lib.hid (hno.out (.inl (by omega)))
          have d2 : decide (1024 ≤ x) = true := decide_eq_true h2
          clear hno hyes hfr hnx h1 h2
          go_wp2
          go_ret
          exact ⟨_, rfl, ⟨(fun h => by cases h), fun h => absurd h hy.out⟩, hB.out⟩
        · have d2 : decide (1024 ≤ x) = false := decide_eq_false h2
          obtain ⟨q, rfl⟩ := Int.eq_ofNat_of_zero_le (show 0 ≤ x by omega)
          have hq : q < 1024 := by omega
          have hq' : (q : Int) < 1024 := by omega
          have c0 := hS.out.cell q hq
          have f0 := hS.out.fz q
          have hfr2 := Lib.hid (hfr.out q rfl hq)
          have hset := Lib.hid (hS.out.set q hq)
          have hnx2 := Lib.hid (hnx.out q rfl)
          have hBs : Hid (Below w.heap.size w (wr.setCell ⟨w.heap.size, q, none⟩ (.bool true))) := hB.out.setCell (Nat.le_refl _) _
          obtain ⟨D, hD⟩ : ∃ D, D = f q := ⟨_, rfl⟩
          rw [← hD] at c0 hfr2
          clear hD hfr hnx hS
          cases D with
          | true =>
            have hy := Lib.hid (hno.out (.inr (hfr2.out.1 rfl)))
            clear hno hyes
            go_wp2
            go_ret
            exact .inl ⟨rfl, hy.out, hB.out⟩
          | false =>
            have hy := Lib.hid (hyes.out ⟨by omega, by omega⟩ (hfr2.out.2 rfl))
            clear hno hyes
            go_wp2
            go_roundw
            case rel => exact ⟨k + 1, _, by go_num, by omega, hy, hnx2, hset, hBs⟩
            case measure => simp [intOf]; omega
    · obtain rfl : k = n := by omega
      have hall : Hid (pagesF is) := by show pagesTo is is.length; rw [Hn.out]; exact ht.out
      clear ht
      go_wp2
      go_ret
      exact ⟨_, rfl, ⟨fun _ => hall.out, fun _ => rfl⟩, hB.out⟩
theorem chk_parts (ks : List ByteArray) (is : List Int) (n m : Nat) (hn : ks.length = n) (hm : is.length = m) : (n < 1 → ¬ mayF ks is) ∧ (m ≠ n + 1 → ¬ mayF ks is) ∧ (¬ keysF ks → ¬ mayF ks is) ∧ (¬ pagesF is → ¬ mayF ks is) ∧ (¬ n < 1 → m = n + 1 → keysF ks → pagesF is → mayF ks is) :=
  ⟨fun h h2 => by have := h2.2.2.1; omega, fun h h2 => by have := h2.2.2.2; omega, fun h h2 => h h2.1, fun h h2 => h h2.2.1, fun h1 h2 h3 h4 => ⟨h3, h4, by omega, by omega⟩⟩
set_option maxRecDepth 100000 in
theorem brCheck_any (a b : Option Addr) (n c m d : Nat) (ks : List ByteArray) (is : List Int) (w : World) (hn : ks.length = n) (hm : is.length = m) (hs : TxS w a ks) (hp : PgS w b is) (hl : n ≤ 1099511627776) (hl2 : m ≤ 1099511627776) :
    Calls Tryz.prog 139 #[.agg #[.slice a n c, .slice b m d]] w fun e w' => ∃ D, e = .returned (chkF D) ∧ (D = true ↔ mayF ks is) ∧ Below w.heap.size w w' := by
  have Hn := Lib.hid (And.intro hn hm)
  have Hs := Lib.hid (And.intro hs hp)
  have hpt := Lib.hid (chk_parts ks is n m hn hm)
  have hb0 : Hid (Below w.heap.size w (w.alloc (.cells #[.slice a n c, .slice b m d] FT))) := (Below.refl _ _).alloc (Nat.le_refl _) _
  clear hs hp hn hm
  have i4 : IntKind.i64.wrap ((n : Int) + 1) = (n : Int) + 1 := by rw [IntKind.wrap_i64]; omega
  by_cases h1 : n < 1
  · have d1 : decide ((n : Int) < 1) = true := decide_eq_true (by omega)
    have hy := Lib.hid (hpt.out.1 h1)
    clear hpt h1
    go_enter Tryz.func139, Tryz.ntmps139
    go_wp2
    go_ret
    exact ⟨false, rfl, ⟨(fun h => by cases h), fun h => absurd h hy.out⟩, hb0.out⟩
  have d1 : decide ((n : Int) < 1) = false := decide_eq_false (by omega)
  by_cases h2 : m = n + 1
  rotate_left
  · have d2 : ((m : Int) != (n : Int) + 1) = true := by simp; omega
    have hy := Lib.hid (hpt.out.2.1 h2)
    clear hpt h1 h2
    go_enter Tryz.func139, Tryz.ntmps139
    go_wp2
    go_ret
    exact ⟨false, rfl, ⟨(fun h => by cases h), fun h => absurd h hy.out⟩, hb0.out⟩
  have d2 : ((m : Int) != (n : Int) + 1) = false := by simp; omega
  have hpt2 := Lib.hid (hpt.out.2.2.2.2 h1 h2)
  have hpt3 := Lib.hid (And.intro hpt.out.2.2.1 hpt.out.2.2.2.1)
  clear hpt h1 h2
  obtain ⟨w0, hw0⟩ : ∃ w0, w0 = w.alloc (.cells #[.slice a n c, .slice b m d] FT) := ⟨_, rfl⟩
  have hb0' : Hid (Below w.heap.size w w0) := by rw [hw0]; exact hb0.out
  have ha := Lib.hid (brAscend_any a n c ks w0 Hn.out.1 (Hs.out.1.below hb0'.out (Nat.le_refl _)) (by omega))
  have hpb : Hid (PB w0 w.heap.size FT (.slice a n c) (.slice b m d)) := by rw [hw0]; exact PB.new _ _ _ _
  have hw0' := Lib.hid hw0.symm
  clear hw0 hb0
  go_enter Tryz.func139, Tryz.ntmps139
  go_wp2_with fail
  rw [hw0'.out]
  refine ha.out.mono ?_
  rintro e w1 ⟨D, rfl, hD, hb1⟩
  have HD := Lib.hid hD
  have Hb1 := Lib.hid (hb0'.out.trans (hb1.mono hb0'.out.size))
  have c1 := (hpb.out.ext hb1).c1
  clear ha hw0' hb0' hD hb1 hpb
  cases D with
  | false =>
    have hy : Hid (¬ mayF ks is) := hpt3.out.1 (fun h => by have := HD.out.2 h; cases this)
    clear hpt2 hpt3 HD
    go_wp2
    go_ret
    exact ⟨false, rfl, ⟨(fun h => by cases h), fun h => absurd h hy.out⟩, Hb1.out⟩
  | true =>
    have hkf := Lib.hid (HD.out.1 rfl)
    have ha := Lib.hid (brApart_any b m d is w1 Hn.out.2 (Hs.out.2.below Hb1.out (Nat.le_refl _)) (by omega))
    clear HD
    go_wp2_with fail
    refine ha.out.mono ?_
    rintro e w2 ⟨D, rfl, hD, hb2⟩
    have HD := Lib.hid hD
    have Hb2 := Lib.hid (Hb1.out.trans (hb2.mono Hb1.out.size))
    clear ha hD hb2 Hb1 c1
    cases D with
    | false =>
      have hy : Hid (¬ mayF ks is) := hpt3.out.2 (fun h => by have := HD.out.2 h; cases this)
      clear hpt2 hpt3 HD
      go_wp2
      go_ret
      exact ⟨false, rfl, ⟨(fun h => by cases h), fun h => absurd h hy.out⟩, Hb2.out⟩
    | true =>
      have hy : Hid (mayF ks is) := hpt2.out hkf.out (HD.out.1 rfl)
      clear hpt2 hpt3 HD
      go_wp2
      go_ret
      exact ⟨true, rfl, ⟨fun _ => hy.out, fun _ => rfl⟩, Hb2.out⟩
end Go.Proofs.YtdgladhfibfdlaaGreatDoor
namespace Go.Proofs.YtdgladhfibfdlaaGreatDoor
open Go Go.RowKit Go.Shelf
attribute [local go_sem] Oper.semAt_some
abbrev CST : TypeId := 9
abbrev CSS : TypeId := 92
set_option maxRecDepth 100000 in
set_option maxHeartbeats 2000000 in
/-- The iterator's closure: for every loop body that keeps the value's box. -/
theorem parted1_in (F : Fence) (n : Nat) (h21 : F.fn 194) (hro : F.round = none) (hn : 1 ≤ n) (l Bv : Nat) (V : ByteArray) (hV : V.size ≤ 1000000) (J Jx : List ByteArray → World → Prop)
    (hY : ∀ pre x W, J pre W → pre.length < nP V.size → YieldAt F (n - 1) Tryz.prog l #[.string x] W fun e W' =>
      (e = .returned (.bool true) ∧ J (pre ++ [x]) W' ∧ (Boxed W Bv CST (.string V) → Boxed W' Bv CST (.string V))) ∨ (e = .returned (.bool false) ∧ Jx (pre ++ [x]) W'))
    (W : World) (hb : Boxed W Bv CST (.string V)) (h0 : J [] W) :
    CallsIn F n Tryz.prog 194 #[.func (.yield l) #[] #[], .pointer (some ⟨Bv, 0, none⟩)] W fun e W' => (∃ v, e = .returned v) ∧
      ((∃ ys, ys = chs V ∧ J ys W') ∨ (∃ pre, pre <+: chs V ∧ Jx pre W')) := by
  have HY := Lib.hid hY
  have Hb := Lib.hid hb
  have H0 := Lib.hid h0
  clear hY hb h0
  refine callsIn_of_wp Tryz.func194 rfl h21 ?_ hro
  simp only [Tryz.ntmps194, List.size_toArray, List.length_cons, List.length_nil, Nat.reduceAdd, Nat.reduceSub, Array.replicate_succ, Array.replicate_zero, List.push_toArray, List.append_toArray, List.nil_append, List.cons_append]
  gi_wp2
  gi_loopw [3] (fun i wr => ∃ k A : Nat, i = .int .i64 A ∧ Hid (A = 502 * k ∧ k ≤ nP V.size) ∧ Hid (J (pcT V k) wr) ∧ Hid (Boxed wr Bv CST (.string V)))
    (fun i _ => V.size - (intOf i).toNat)
  case atStart => exact ⟨0, 0, rfl, ⟨rfl, Nat.zero_le _⟩, H0.out, Hb.out⟩
  case round =>
    obtain ⟨k, A, rfl, hk, hJ, hB⟩ := hrel
    have c0 := hB.out.cell
    by_cases hlt : A < V.size
    · obtain ⟨E, hE⟩ : ∃ E, E = min (A + 502) V.size := ⟨_, rfl⟩
      have hkn : Hid (k < nP V.size) := nP_lt.2 (by have := hk.out.1; omega)
      have hcut : Hid (V.extract A E = cutS V k) := by show _ = _; unfold cutS; rw [hE, hk.out.1]
      have e1 : min ((A : Int) + 502) (V.size : Int) = (E : Int) := by omega
      have z1 : A ≤ E := by omega
      have z2 : E ≤ V.size := by omega
      have hm : Hid (V.size - (A + 502) < V.size - A) := by show _ < _; omega
      have HE := Lib.hid hE
      clear hE
      obtain ⟨fn, tmps, assign, body, hy, hR⟩ := HY.out (pcT V k) (V.extract A E) wr hJ.out (by rw [pcT_len]; exact hkn.out)
      gi_wp2
      refine hR.mono ?_
      rintro e W3 (⟨rfl, hJ3, hk3⟩ | ⟨rfl, hJx3⟩)
      · have HJ3 := Lib.hid hJ3
        have HB3 := Lib.hid (hk3 hB.out)
        clear hJ3 hk3
        gi_wp2
        go_roundw
        case rel => exact ⟨k + 1, A + 502, by go_num, ⟨by rw [hk.out.1]; omega, hkn.out⟩, by rw [pcT_succ, ← hcut.out]; exact HJ3.out, HB3.out⟩
        case measure => simp [intOf]; omega
      · have HJx := Lib.hid hJx3
        clear hJx3
        gi_wp2
        refine bodyPost_ret (results_none rfl _ _ _) rfl ?_
        refine ⟨⟨_, rfl⟩, .inr ⟨_, ?_, HJx.out⟩⟩
        rw [hcut.out, ← pcT_succ]
        refine ⟨((List.range (nP V.size)).drop (k + 1)).map (cutS V), ?_⟩
        unfold chs pcT
        have e2 : List.range (k + 1) = (List.range (nP V.size)).take (k + 1) := by rw [List.take_range, Nat.min_eq_left hkn.out]
        rw [e2, ← List.map_append, List.take_append_drop]
    · have hkk : Hid (k = nP V.size) := by
        have h1 := hk.out
        have h2 := @nP_lt V.size k
        show _ = _; omega
      gi_wp2
      go_end0
      exact ⟨⟨_, rfl⟩, .inl ⟨_, rfl, by have := hJ.out; rw [hkk.out] at this; exact this⟩⟩
set_option maxHeartbeats 1000000 in
/-- parted: the value is boxed; the function value captures the box. -/
theorem parted_in (F : Fence) (n : Nat) (h15 : F.fn 164) (hro : F.round = none) (V : ByteArray) (w : World) :
    CallsIn F n Tryz.prog 164 #[.string V] w fun e w' => e = .returned (.func (.func 194) #[] #[.pointer (some ⟨w.heap.size, 0, none⟩)]) ∧ w' = w.alloc (.cells #[.string V] CST) := by
  refine callsIn_of_wp Tryz.func164 rfl h15 ?_ hro
  simp only [Tryz.ntmps164, List.size_toArray, List.length_cons, List.length_nil, Nat.reduceAdd, Nat.reduceSub, Array.replicate_succ, Array.replicate_zero, List.push_toArray, List.append_toArray, List.nil_append, List.cons_append]
  gi_wp2
  go_ret
  exact ⟨rfl, rfl⟩
theorem parted_stops (F : Fence) (n : Nat) (h21 : F.fn 194) (hro : F.round = none) (hn : 1 ≤ n) (Bv : Nat) (V : ByteArray) (hV : V.size ≤ 1000000) (w : World) (hb : Boxed w Bv CST (.string V)) :
    SeqStopsK F n Tryz.prog 194 #[.pointer (some ⟨Bv, 0, none⟩)] (fun x : ByteArray => #[Value.string x]) (fun A B => Boxed A Bv CST (.string V) → Boxed B Bv CST (.string V)) (fun ys => ys = chs V) (fun pre => pre <+: chs V) (nP V.size) w := fun l J Jx W hW _ _ hY h0 =>
  parted1_in F n h21 hro hn l Bv V hV J Jx hY W ((hW.block Bv hb.lt).trans hb) h0
theorem own_low {w : World} {B B' E sz n : Nat} {v : Value} {xs : List Value} (h : w.ownsRow B E sz v n xs) (hb : B' ≤ B) : w.ownsRow B' E sz v n xs := by
  obtain ⟨h1, h2⟩ := h
  refine ⟨h1, ?_⟩
  rcases h2 with h3 | ⟨g, cap, cur, e1, e2, h3⟩
  · exact .inl h3
  · exact .inr ⟨g, cap, cur, e1, Nat.le_trans hb e2, h3⟩
set_option maxRecDepth 100000 in
set_option maxHeartbeats 2000000 in
theorem Pieces_in (F : Fence) (n : Nat) (h7 : F.fn 128) (h15 : F.fn 164) (h21 : F.fn 194) (hro : F.round = none) (hn : 3 ≤ n) (V : ByteArray) (hV : V.size ≤ 1000000) (w : World) :
    CallsIn F n Tryz.prog 128 #[.string V] w fun e W' => ∃ v, e = .returned v ∧ W'.ownsRow w.heap.size CST 1 v (chs V).length (sv (chs V)) ∧ Below w.heap.size w W' := by
  have h1 : 1 ≤ n := by omega
  have hN : Hid (nP V.size ≤ 2000) := by show _ ≤ _; unfold nP; omega
  obtain ⟨i0, hi, hz0, hz1, hz2⟩ := info_parts infoStr
  refine callsIn_of_wp_marks Tryz.func128 rfl h7 ?_ hro
  simp only [Tryz.ntmps128, List.size_toArray, List.length_cons, List.length_nil, Nat.reduceAdd, Nat.reduceSub, Array.replicate_succ, Array.replicate_zero, List.push_toArray, List.append_toArray, List.nil_append, List.cons_append]
  gi_wp2_with (gi_at_call 164; refine (parted_in F (n - 1) h15 hro _ _).mono ?_; rintro e w' ⟨rfl, rfl⟩)
  have bO := Boxed.new w CSS (.slice none 0 0)
  have bN := Boxed.new (w.alloc (.cells #[.slice none 0 0] CSS)) CST (.string V)
  rw [World.size_alloc] at bN
  have hB0 : Below w.heap.size w ((w.alloc (.cells #[.slice none 0 0] CSS)).alloc (.cells #[.string V] CST)) := ((Below.refl _ w).alloc (Nat.le_refl _) _).alloc (by simp) _
  refine wpIn_rangeFunc_ownG hro h1 (gf := 194) (lb := #[.pointer (some ⟨w.heap.size + 1, 0, none⟩)]) rfl h21 (enters_of Tryz.func194 (by kernel_rfl) rfl)
    (parted_stops F (n - 1) h21 hro (by omega) (w.heap.size + 1) V hV _ bN) (fun h k a => k (h a)) (fun W l o o' _ hl ho _ hbx => Boxed.kept hbx (grownBy_putObj' W l o') (fun e => by
      cases e
      rw [show W.heap[w.heap.size + 1]? = _ from hbx] at hl
      cases hl; cases ho)) (Below.refl _ _) (fun _ => rfl)
    (fun pre W => (∃ v, Boxed W w.heap.size CSS v ∧ W.ownsRow (w.heap.size + 2) CST 1 v pre.length (sv pre) ∧ True) ∧ Below w.heap.size w W ∧ w.heap.size + 2 ≤ W.heap.size)
    (fun _ _ _ => False)
    (OwnFrom.and (Own.from (holdsRow_own (w.heap.size + 2) w.heap.size CSS CST 1 (fun pre => pre.length) (fun pre => sv pre) (fun _ _ => True)) _) (OwnFrom.and (ownFrom_below (Nat.le_refl _) (by simp; omega)) (fun _ _ _ _ hs hg _ => Nat.le_trans hs hg.size)))
    (fun _ _ _ _ _ hs _ _ => hs)
    ⟨⟨_, bO.alloc _, World.ownsRow_nil _ _ _ _, trivial⟩, hB0, by simp⟩
    (fun x => { tmps := #[.string V, undef, .slice none 0 0, .pointer (some ⟨w.heap.size, 0, none⟩), .string x, .string V, .func (.func 194) #[] #[.pointer (some ⟨w.heap.size + 1, 0, none⟩)], .string x, undef, undef, undef, undef, undef], defers := [] }) ?assign ?body ?done ?stop
  case assign =>
    intro l x W K hK
    gi_wp2
    exact hK
  case body =>
    rintro l pre x W ⟨⟨v, hv, hrow, _⟩, hB, hsz⟩ hlt
    have hc := hv.cell
    have hlt2 := Nat.lt_of_lt_of_le hlt hN.out
    gi_wp2_with (gi_at_builtin; refine wpListIn_append_own _ rfl _ _ CSS rfl (w.heap.size + 2) CST i0 (.string ⟨#[]⟩) 1 16 Tryz.underlying92 hi hz0 hz1 hz2 rfl (by decide) _ _ _ rfl (hrow.alloc _) ⟨W.heap.size, 0, none⟩ 1 1 [.string x] rfl rfl (cell_one_new _ _ _) (by simp [Value.oneCell']) (by unfold maxLen; omega) (by omega) (by simp; omega) ?_; intro v' w1 hown' hgrow _; obtain ⟨g', cap', rfl⟩ := ownsRow_succ hown'; obtain ⟨hv1, hv2, _, hk2, hb2⟩ := hv.appended (by decide) (own_low hrow (by omega)) hB.size (Nat.le_refl _) (own_low hown' (by omega)) hgrow; have hc1 := hv1.cell; have hf1 := hv1.frozen)
    refine ⟨hk2.from _, fun hbx => ?_, ⟨_, hv2, ?_, trivial⟩, hB.trans hb2, Nat.le_trans hsz hb2.size⟩
    · have h3 : Boxed w1 (w.heap.size + 1) CST (.string V) := (hbx.alloc _).kept hgrow (fun e => by
        have := (hrow.lt _ e.symm).1
        omega)
      exact h3.other (by omega) _
    · have := hown'.kept (grownBy_setCell' w1 w.heap.size (.slice (some ⟨g', 0, none⟩) (pre.length + 1) cap')) (.inr (hv1.not_row (by decide) hown').symm)
      rw [List.length_append, show sv (pre ++ [x]) = sv pre ++ [.string x] from List.map_append]
      exact this
  case done =>
    rintro D ys W hD rfl ⟨⟨v, hv, hrow, _⟩, hB, _⟩ hK
    have hc := hv.cell
    gi_wp2
    refine ⟨by simp, .inl ⟨_, _, rfl, run_takeDeferred hK, ?_⟩⟩
    exact ⟨_, results_tmp rfl _ _ _, v, rfl, own_low (ownsRow_putObj hrow _ hK rfl) (by omega), hB.trans (belowK_b (w := w) (Nat.le_refl _) W D _ _ (by simp at hD; omega) hK rfl rfl)⟩
  case stop =>
    rintro D c pre W _ _ h _
    exact h.elim
end Go.Proofs.YtdgladhfibfdlaaGreatDoor
namespace Go.Proofs.YtdgladhfibfdlaaGreatDoor
open Go Go.RowKit
theorem one_parts (c : Ce) (l : List Nat) : l ++ oneS c = ((l ++ vb c.k.size ++ bn c.k) ++ vb c.n.toNat) ++ tailS c := by
  unfold oneS; simp only [List.append_assoc]
set_option maxRecDepth 100000 in
set_option maxHeartbeats 1000000 in
theorem leafPut_any (a : Option Addr) (m cap : Nat) (l : List Nat) (k v : ByteArray) (n p : Int) (w : World) (hm : l.length = m) (hs : Src w a l) (hl : m ≤ 32768) (h : mayB ⟨k, v, n, p⟩ = true) :
    Calls Tryz.prog 137 #[.slice a m cap, .agg #[.string k, .string v, .int .i64 n, .int .i64 p]] w fun e w' => ∃ r, e = .returned r ∧ Sl w' r (l ++ oneS ⟨k, v, n, p⟩) ∧ Below w.heap.size w w' := by
  have hk := may_k h
  obtain ⟨N, rfl⟩ := Int.eq_ofNat_of_zero_le (may_n0 h)
  have hn := may_n h
  have hin := may_in h
  have hout := may_out h
  dsimp only at hk hn hin hout
  have hN : N ≤ 2048 := by omega
  have hk40 : k.size ≤ 40 := hk.2
  have hparts := one_parts ⟨k, v, (N : Int), p⟩ l
  dsimp only at hparts
  rw [show ((N : Int)).toNat = N from rfl] at hparts
  have v1 := vs_le (show k.size < 18446744073709551616 by omega)
  have v2 := vs_le (show N < 18446744073709551616 by omega)
  obtain ⟨w0, hw0⟩ : ∃ w0, w0 = w.alloc (.cells #[.string k, .string v, .int .i64 (N : Int), .int .i64 p] CT) := ⟨_, rfl⟩
  have hb0 : Below w.heap.size w w0 := by rw [hw0]; exact (Below.refl _ _).alloc (Nat.le_refl _) _
  have c0 : w0.cell? ⟨w.heap.size, 0, none⟩ = some (.string k) := by rw [hw0]; simp
  have c1 : w0.cell? ⟨w.heap.size, 1, none⟩ = some (.string v) := by rw [hw0]; simp
  have c2 : w0.cell? ⟨w.heap.size, 2, none⟩ = some (.int .i64 (N : Int)) := by rw [hw0]; simp
  have c3 : w0.cell? ⟨w.heap.size, 3, none⟩ = some (.int .i64 p) := by rw [hw0]; simp
  have hlt : w.heap.size < w0.heap.size := by rw [hw0]; simp
  obtain ⟨g, c, w1, hcv, hsrc, hc1, hc2, hb1⟩ := conv_str w0 k (by omega)
  have hcs : ∀ w' : World, Below w0.heap.size w0 w' → w'.cell? ⟨w.heap.size, 1, none⟩ = some (.string v) ∧ w'.cell? ⟨w.heap.size, 2, none⟩ = some (.int .i64 (N : Int)) ∧ w'.cell? ⟨w.heap.size, 3, none⟩ = some (.int .i64 p) := fun w' hb =>
    ⟨by rw [hb.cell (p := ⟨w.heap.size, 1, none⟩) hlt]; exact c1, by rw [hb.cell (p := ⟨w.heap.size, 2, none⟩) hlt]; exact c2, by rw [hb.cell (p := ⟨w.heap.size, 3, none⟩) hlt]; exact c3⟩
  have Hsrc := Lib.hid hsrc
  have Hb1 := Lib.hid hb1
  have Hb0 := Lib.hid hb0
  have Hcs := Lib.hid hcs
  have Hm := Lib.hid hm
  have hl1 : Hid ((l ++ vb k.size ++ bn k).length = m + vs k.size + k.size) := by show _ = _; rw [List.length_append, bn_len, List.length_append, hm]; rfl
  have hl2 : Hid ((l ++ vb k.size ++ bn k ++ vb N).length = m + vs k.size + k.size + vs N) := by show _ = _; rw [List.length_append, hl1.out]; rfl
  have hp := Lib.hid (packBytes_any a (some ⟨g, 0, none⟩) m cap k.size c l (bn k) hm (bn_len k) w1 ((hs.below hb0 (Nat.le_refl _)).below hb1 (Nat.le_refl _)) Hsrc.out (fun h => by cases h) (by omega) (by omega))
  have Hparts := Lib.hid hparts
  have hi := fun w => isIn_any (N : Int) w
  have htail : Hid (tailS ⟨k, v, (N : Int), p⟩ = if (N : Int) ≤ 64 then bn v else [p.toNat / 256 % 256, p.toNat % 256]) := rfl
  clear hparts hs hm hcs hb0 hb1 hsrc hc2 hk h hn
  generalize oneS ⟨k, v, (N : Int), p⟩ = ONE at *
  generalize tailS ⟨k, v, (N : Int), p⟩ = TL at *
  generalize vs k.size = A at *
  generalize l ++ vb k.size ++ bn k = L at *
  generalize hLN : L ++ vb N = LN at *
  have HLN := Lib.hid hLN
  clear hLN
  generalize vs N = B at *
  clear c0 c1 c2 c3 hlt
  subst hw0
  go_enter Tryz.func137, Tryz.ntmps137
  go_wp2_with fail
  refine hp.out.mono ?_
  rintro e w2 ⟨r, rfl, hv, hb2⟩
  obtain ⟨a2, cp2, rfl, hs2, hz2, _⟩ := hv.arg
  have hb02 := Hb1.out.trans (hb2.mono Hb1.out.size)
  obtain ⟨d1, d2, d3⟩ := Hcs.out w2 hb02
  have Hb02 := Lib.hid hb02
  have Hs2 := Lib.hid hs2
  clear hv hs2 hz2 hb2 hp Hb1 Hsrc hcv hb02
  rw [hl1.out]
  go_wp2_with fail
  refine (packNum_any a2 _ cp2 L hl1.out N w2 Hs2.out (by omega) (by omega)).mono ?_
  rintro e w3 ⟨r, rfl, hv, hb3⟩
  rw [HLN.out] at hv
  obtain ⟨a3, cp3, rfl, hs3, hz3, _⟩ := hv.arg
  have hb03 := Hb02.out.trans (hb3.mono Hb02.out.size)
  obtain ⟨d1', d2', d3'⟩ := Hcs.out w3 hb03
  have Hb03 := Lib.hid hb03
  have Hs3 := Lib.hid hs3
  have Hz3 := Lib.hid hz3
  clear hv hs3 hz3 hb3 Hb02 Hs2 hb03 d1 d2 d3
  rw [hl2.out]
  by_cases h64 : (N : Int) ≤ 64
  · have e1 : decide ((N : Int) ≤ 64) = true := by simpa using h64
    rw [e1] at hi
    have hT : Hid (TL = bn v) := by show _ = _; rw [htail.out, if_pos h64]
    have hvs := (hin h64).1
    have hvn : v.size ≤ 64 := by omega
    clear htail h64 hin hout e1
    obtain ⟨g4, c4, w4, hcv4, hsrc4, _, hc4, hb4⟩ := conv_str w3 v (by omega)
    have Hs4 := Lib.hid (And.intro (Hs3.out.below hb4 (Nat.le_refl _)) hsrc4)
    have Hb4 := Lib.hid (Hb03.out.trans (hb4.mono Hb03.out.size))
    clear hsrc4 hb4 hc4 Hs3
    go_wp2_with fail
    refine (hi _).mono ?_
    rintro e w' ⟨rfl, rfl⟩
    go_wp2_with fail
    refine (concat_two w4 _ _ _ a3 (some ⟨g4, 0, none⟩) _ cp3 v.size c4 LN (bn v) (by rfl) rfl hl2.out (bn_len v) Hs4.out.1 Hs4.out.2 Hz3.out (fun h => by cases h) (by omega)).mono ?_
    rintro e w5 ⟨r, rfl, hv, hb5⟩
    have hbn := Hb0.out.trans ((Hb4.out.trans (hb5.mono Hb4.out.size)).mono Hb0.out.size)
    rw [← hT.out, ← Hparts.out] at hv
    go_wp2
    go_ret
    exact ⟨_, rfl, hv, hbn⟩
  · have e1 : decide ((N : Int) ≤ 64) = false := by simpa using h64
    rw [e1] at hi
    have hT : Hid (TL = [p.toNat / 256 % 256, p.toNat % 256]) := by show _ = _; rw [htail.out, if_neg h64]
    obtain ⟨h1, h2, h3⟩ := hout (by omega)
    obtain ⟨P, rfl⟩ := Int.eq_ofNat_of_zero_le (show 0 ≤ p by omega)
    have hP : P ≤ 1023 := by omega
    rw [show ((P : Int)).toNat = P from rfl] at hT
    clear htail h64 hin hout e1 h1 h2 h3
    have hput := Lib.hid (intPut_in a3 cp3 LN P 2 w3 (by rw [hl2.out]; omega) (by omega) (by omega) (by omega) Hs3.out)
    rw [hl2.out] at hput
    go_wp2_with fail
    refine (hi _).mono ?_
    rintro e w' ⟨rfl, rfl⟩
    go_wp2_with fail
    refine hput.out.mono ?_
    rintro e w5 ⟨rfl, hr, hb5⟩
    have hbn := Hb0.out.trans ((Hb03.out.trans (hb5.mono Hb03.out.size)).mono Hb0.out.size)
    have e5 : (LN ++ beL P 2).length = m + A + k.size + B + 2 := by rw [List.length_append, hl2.out]; rfl
    have hsl := Sl.row hr (by rw [e5]; unfold maxLen; omega)
    rw [e5, beL_two, ← hT.out, ← Hparts.out] at hsl
    go_wp2
    go_ret
    exact ⟨_, rfl, hsl, hbn⟩
end Go.Proofs.YtdgladhfibfdlaaGreatDoor
