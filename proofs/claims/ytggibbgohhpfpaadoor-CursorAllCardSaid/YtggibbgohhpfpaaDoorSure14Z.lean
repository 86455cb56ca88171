/-
  The law's sure.
  What the laws on cursors have: two numbers in a block, a tree, a span; both cursors.
-/
import Derived.Test.YtggibbgohhpfpaaDoorCursorZ
import Derived.Test.YtggibbgohhpfpaaDoorGrownZ
import Derived.Test.YtggibbgohhpfpaaDoorAbcZ
import Derived.Test.YtggibbgohhpfpaaDoorAsZ
import Derived.Test.YtggibbgohhpfpaaDoorRefCurZ
import Derived.Test.YtggibbgohhpfpaaDoorLawTreeZ
namespace Go.Proofs.YtggibbgohhpfpaaDoor
open Go Go.RowKit Go.Shelf

abbrev L2 : List En := [⟨xa, xn, []⟩, ⟨xb, xn, []⟩]
theorem sf_of : ofT [] L2 = (L2, 0) := by
  have h1 := tp_ok13 (es := []) (key := xa) (v := xn) rfl (by decide) (by decide)
  have h2 := tp_ok13 (es := [⟨xa, xn, []⟩]) (key := xb) (v := xn) rfl (by decide) (by decide)
  have e1 : rep [] xa [⟨xa, xn, []⟩] = [⟨xa, xn, []⟩] := rfl
  have e2 : rep [⟨xa, xn, []⟩] xb [⟨xb, xn, []⟩] = [⟨xa, xn, []⟩, ⟨xb, xn, []⟩] := by
    have f : fE [⟨xa, xn, []⟩] xb = 1 := by simp [fE, b_ab]
    have g : isE [⟨xa, xn, []⟩] xb = false := by simp [isE, b_ab]
    unfold rep goneE; rw [f, g]; rfl
  rw [e1] at h1
  rw [e2] at h2
  simp only [ofT]
  rw [if_pos h1.1, h1.2, if_pos h2.1, h2.2]
theorem sf_in : inS spA L2 = L2 := by simp [inS, hasS, b_an, b_bn]
set_option maxRecDepth 100000 in
theorem sure_any (w : World) (hg : Hg w) : Calls Tryd.prog 12 #[] w fun e w' => e = .returned (.bool true) ∧ Below w.heap.size w w' := by
  have Hg0 : Hid (∀ {w'}, Below w.heap.size w w' → Hg w') := fun h => hg.below h
  obtain ⟨W1, hW1, hn1, hb1⟩ := alloc_own w ET #[.string xa, .string xn, .string xb, .string xn]
  have hlit : ES entE W1 (some ⟨w.heap.size, 0, none⟩) L2 := ES.lit (E := entE) (l := L2) hn1
  have hof := of_any (some ⟨w.heap.size, 0, none⟩) 2 2 L2 W1 rfl (fun _ => hlit.loose) (by decide)
  rw [sf_of] at hof
  have Hof := Lib.hid hof
  have HW1 := Lib.hid hW1
  have HB1 := Lib.hid hb1
  clear hW1 hn1 hb1 hlit hof hg
  go_enter Tryd.func12, Tryd.ntmps12
  go_wp2_with fail
  rw [HW1.out]
  refine Hof.out.mono ?_
  rintro e w2 ⟨p, H, rfl, ht, hb2⟩
  rw [show errC ((0 : Nat) : Int) = .nilIface from rfl, show ((L2.length : Nat) : Int) = 2 from rfl]
  obtain ⟨W2, hW2, hT2, hbW2⟩ := alloc_own w2 TT #[.pointer p, .int .i64 2]
  obtain ⟨bt, hbt⟩ : ∃ bt, w2.heap.size = bt := ⟨_, rfl⟩
  rw [hbt] at hT2
  have t0 := (show TB W2 bt p 2 from hT2).c0
  have t1 := (show TB W2 bt p 2 from hT2).c1
  have hb12 := HB1.out.trans (hb2.mono HB1.out.size)
  have HB2 := Lib.hid (hb12.trans (hbW2.mono hb12.size))
  have hnew := cnew_any p L2 H spA W2 (ht.ext hbW2) 2 rfl (by decide)
  rw [sf_in] at hnew
  have Hnew := Lib.hid hnew
  have HW2 := Lib.hid hW2
  have Hbt := Lib.hid hbt
  rw [← hW2, ← hbt] at t0 t1
  clear hW2 hT2 hbW2 hb12 hb2 ht hnew Hof HB1 hbt
  go_wp2_with fail
  rw [HW2.out]
  refine Hnew.out.mono ?_
  rintro e w3 ⟨b, a, m, c, rfl, hlb, hq, hb3⟩
  obtain rfl : m = 2 := hq.hn.symm
  have HB3 := Lib.hid (HB2.out.trans (hb3.mono HB2.out.size))
  have hwb : w.heap.size ≤ b := Nat.le_trans HB2.out.size hlb
  have Hn := Lib.hid (next_any w3 b a 2 c L2 0 hq)
  clear hb3 hlb hq Hnew HB2 HW2 t0 t1 Hbt
  go_wp2_with fail
  refine Hn.out.mono ?_
  rintro e w4 ⟨rfl, hq4, ht4⟩
  rw [show ea L2 0 = ⟨xa, xn, []⟩ from rfl, show decide (0 < 2) = true from rfl]
  rw [show nextK 2 0 = 1 from rfl] at hq4
  dsimp only
  have hB4 := HB3.out.trans (ht4.below HB3.out.size (fun i hi => by omega))
  obtain ⟨W4, hW4, hx4, hbW4⟩ := alloc_own w4 ET #[.string xa, .string xn]
  obtain ⟨bx, hbx⟩ : ∃ bx, w4.heap.size = bx := ⟨_, rfl⟩
  have hxb : bx ≠ b := by have := hq4.at_.lt; omega
  rw [hbx] at hx4
  have X4 : Hid (EB W4 bx ⟨xa, xn, []⟩) := hx4
  have Q4 := Lib.hid (hq4.ext hbW4)
  have HB4 := Lib.hid (hB4.trans (hbW4.mono hB4.size))
  have Hn := Lib.hid (next_any W4 b a 2 c L2 1 Q4.out)
  have HW4 := Lib.hid hW4
  have Hbx := Lib.hid hbx
  have Hxb := Lib.hid hxb
  clear hq4 ht4 hB4 hW4 hx4 hbW4 hbx HB3 Q4 hxb
  go_wp2_with fail
  rw [HW4.out, Hbx.out]
  refine Hn.out.mono ?_
  rintro e w5 ⟨rfl, hq5, ht5⟩
  rw [show ea L2 1 = ⟨xb, xn, []⟩ from rfl, show decide (1 < 2) = true from rfl]
  rw [show nextK 2 1 = 2 from rfl] at hq5
  dsimp only
  have hB5 := HB4.out.trans (ht5.below HB4.out.size (fun i hi => by omega))
  obtain ⟨W5, hW5, hx5, hbW5⟩ := alloc_own w5 ET #[.string xb, .string xn]
  obtain ⟨bw, hbw⟩ : ∃ bw, w5.heap.size = bw := ⟨_, rfl⟩
  have hyb : bw ≠ b := by have := hq5.at_.lt; omega
  rw [hbw] at hx5
  have X5 : Hid (EB W5 bx ⟨xa, xn, []⟩) := (show EB w5 bx ⟨xa, xn, []⟩ from ht5.hg X4.out Hxb.out).ext hbW5
  have Y5 : Hid (EB W5 bw ⟨xb, xn, []⟩) := hx5
  have Q5 := Lib.hid (hq5.ext hbW5)
  have HB5 := Lib.hid (hB5.trans (hbW5.mono hB5.size))
  have Hn := Lib.hid (next_any W5 b a 2 c L2 2 Q5.out)
  have HW5 := Lib.hid hW5
  have Hbw := Lib.hid hbw
  have Hyb := Lib.hid hyb
  clear hq5 ht5 hB5 hW5 hx5 hbW5 hbw HB4 Q5 X4 HW4 Hbx hyb
  go_wp2_with fail
  rw [HW5.out, Hbw.out]
  refine Hn.out.mono ?_
  rintro e w6 ⟨rfl, hq6, ht6⟩
  rw [show ea L2 2 = E0 from rfl, show decide (2 < 2) = false from rfl]
  rw [show nextK 2 2 = 2 from rfl] at hq6
  dsimp only [E0]
  have hB6 := HB5.out.trans (ht6.below HB5.out.size (fun i hi => by omega))
  obtain ⟨W6, hW6, hx6, hbW6⟩ := alloc_own w6 ET #[.string ⟨#[]⟩, .string ⟨#[]⟩]
  have X6 : Hid (EB W6 bx ⟨xa, xn, []⟩) := (show EB w6 bx ⟨xa, xn, []⟩ from ht6.hg X5.out Hxb.out).ext hbW6
  have Y6 : Hid (EB W6 bw ⟨xb, xn, []⟩) := (show EB w6 bw ⟨xb, xn, []⟩ from ht6.hg Y5.out Hyb.out).ext hbW6
  have Q6 := Lib.hid (hq6.ext hbW6)
  have HB6 := Lib.hid (hB6.trans (hbW6.mono hB6.size))
  have Hn := Lib.hid (prev_any W6 b a 2 c L2 2 Q6.out)
  have HW6 := Lib.hid hW6
  clear hq6 ht6 hB6 hW6 hx6 hbW6 HB5 Q6 X5 Y5 HW5 Hbw
  go_wp2_with fail
  rw [HW6.out]
  refine Hn.out.mono ?_
  rintro e w7 ⟨rfl, hq7, ht7⟩
  rw [show prevE L2 2 = ⟨xb, xn, []⟩ from rfl, show decide (0 < 2) = true from rfl]
  dsimp only
  have hB7 := HB6.out.trans (ht7.below HB6.out.size (fun i hi => by omega))
  obtain ⟨W7, hW7, hx7, hbW7⟩ := alloc_own w7 ET #[.string xb, .string xn]
  obtain ⟨bz, hbz⟩ : ∃ bz, w7.heap.size = bz := ⟨_, rfl⟩
  rw [hbz] at hx7
  have X7 : Hid (EB W7 bx ⟨xa, xn, []⟩) := (show EB w7 bx ⟨xa, xn, []⟩ from ht7.hg X6.out Hxb.out).ext hbW7
  have Y7 : Hid (EB W7 bw ⟨xb, xn, []⟩) := (show EB w7 bw ⟨xb, xn, []⟩ from ht7.hg Y6.out Hyb.out).ext hbW7
  have Z7 : Hid (EB W7 bz ⟨xb, xn, []⟩) := hx7
  have HB7 := Lib.hid (hB7.trans (hbW7.mono hB7.size))
  have Hnum := Lib.hid (num_any .nilIface 0 W7 (.inl ⟨rfl, rfl⟩) (Hg0.out HB7.out))
  have HW7 := Lib.hid hW7
  have Hbz := Lib.hid hbz
  clear hq7 ht7 hB7 hW7 hx7 hbW7 hbz HB6 X6 Y6 HW6 Hn
  go_wp2_with fail
  rw [HW7.out, Hbz.out]
  refine Hnum.out.mono ?_
  rintro e w8 ⟨rfl, hb8⟩
  have x0 := (X7.out.ext hb8).c0
  have y0 := (Y7.out.ext hb8).c0
  have z0 := (Z7.out.ext hb8).c0
  have HB8 := Lib.hid (HB7.out.trans (hb8.mono HB7.out.size))
  clear hb8 Hnum X7 Y7 Z7 HB7 HW7 Hbz
  go_wp2_with fail
  go_ret
  exact ⟨rfl, HB8.out⟩
end Go.Proofs.YtggibbgohhpfpaaDoor
namespace Go.Proofs.YtggibbgohhpfpaaDoor
open Go Go.RowKit

/-- A block that holds two numbers. -/
def AR2 (w : World) (b n m : Nat) : Prop := w.heap[b]? = some (.cells #[.int .u16 n, .int .u16 m] ARR (0, 0))
section
variable {w w' : World} {b n m : Nat}
theorem AR2.c0 (h : AR2 w b n m) : w.cell? ⟨b, 0, none⟩ = some (.int .u16 n) := by
  have h' : w.heap[b]? = _ := h
  simp [World.cell?, h']
theorem AR2.c1 (h : AR2 w b n m) : w.cell? ⟨b, 1, none⟩ = some (.int .u16 m) := by
  have h' : w.heap[b]? = _ := h
  simp [World.cell?, h']
theorem AR2.lt (h : AR2 w b n m) : b < w.heap.size := (Array.getElem?_eq_some_iff.1 h).1
theorem AR2.ext (h : AR2 w b n m) (hb : Below w.heap.size w w') : AR2 w' b n m := (hb.block b h.lt).trans h
end
theorem two_owns (w : World) (c1 c2 : Array Value) (T1 T2 : TypeId) : ∃ W, (w.alloc (.cells c1 T1)).alloc (.cells c2 T2) = W ∧
    W.heap[w.heap.size]? = some (.cells c1 T1 (0, 0)) ∧ W.heap[w.heap.size + 1]? = some (.cells c2 T2 (0, 0)) ∧ Below w.heap.size w W := by
  obtain ⟨W1, hW1, h1, b1⟩ := alloc_own w T1 c1
  obtain ⟨W2, hW2, h2, b2⟩ := alloc_own W1 T2 c2
  have z1 : W1.heap.size = w.heap.size + 1 := by rw [← hW1]; exact alloc_size _ _
  rw [z1] at h2
  refine ⟨W2, by rw [hW1, hW2], ?_, h2, b1.trans (b2.mono (by omega))⟩
  rw [b2.block _ (by omega)]; exact h1
/-- A new variable for the document's cursor. -/
theorem alloc_rcur (w : World) : ∃ b W, w.heap.size = b ∧ w.alloc (.cells #[.slice none 0 0, .int .i64 0] RCT) = W ∧ RCur W b none 0 0 0 ∧ Below w.heap.size w W := by
  obtain ⟨W, hW, h, hb⟩ := alloc_own w RCT #[.slice none 0 0, .int .i64 0]
  exact ⟨_, W, rfl, hW, h, hb⟩
/-- Both cursors at the same place, and the entries that keys are taken from. -/
structure CR (w0 w : World) (bc : Nat) (a : Option Addr) (c : Nat) (by_ : Nat) (a2 : Option Addr) (c2 n k : Nat) (L : List En) (al : Option Addr) (es : List En) : Prop where
  q : CurQ w bc a n c L k
  y : RCur w by_ a2 n c2 k
  rs : ES entE w a2 L
  l : ES entE w al es
  b : Below w0.heap.size w0 w
  lo : w0.heap.size ≤ bc
  lo2 : w0.heap.size ≤ by_
  ne : bc ≠ by_
section
variable {w0 w w' : World} {bc c by_ c2 n k : Nat} {a a2 al : Option Addr} {L es : List En}
theorem CR.ext (h : CR w0 w bc a c by_ a2 c2 n k L al es) (hb : Below w.heap.size w w') : CR w0 w' bc a c by_ a2 c2 n k L al es :=
  ⟨h.q.ext hb, h.y.ext hb, h.rs.below hb (Nat.le_refl _), h.l.below hb (Nat.le_refl _), h.b.trans (hb.mono h.b.size), h.lo, h.lo2, h.ne⟩
theorem CR.tf (h : CR w0 w bc a c by_ a2 c2 n k L al es) : TF w (fun i => i = bc ∨ i = by_) := fun b hb => by
  rcases hb with rfl | rfl
  · exact h.q.at_.tf b rfl
  · exact h.y.tf b rfl
/-- Both have gone on. -/
theorem CR.next {b2 m : Nat} (h : CR w0 w bc a c by_ a2 c2 n k L al es) (t : Turn (fun i => i = bc ∨ i = by_) w w') (hm : m ≤ n) (hq : Cur w' b2 a n c m) (hy : RCur w' by_ a2 n c2 m) (hlo : w0.heap.size ≤ b2) (hne : b2 ≠ by_) :
    CR w0 w' b2 a c by_ a2 c2 n m L al es :=
  ⟨⟨hq, h.q.s.turn entE_str t h.tf, h.q.hn, hm, h.q.hl, h.q.hc⟩, hy, h.rs.turn entE_str t h.tf, h.l.turn entE_str t h.tf,
    h.b.trans (t.below h.b.size (fun i hi => by have := h.lo; have := h.lo2; omega)), hlo, h.lo2, hne⟩
end
/-- The key that is sought: of an entry, or the move's own. -/
def keyS (es : List En) (y : ByteArray) (t : Nat) : ByteArray := if 0 < es.length ∧ 0 < t % 3 then (ea es (t % es.length)).k else y
end Go.Proofs.YtggibbgohhpfpaaDoor
