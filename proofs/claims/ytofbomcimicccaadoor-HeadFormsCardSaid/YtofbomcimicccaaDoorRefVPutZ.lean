/-
  The document's Put of a number behind bytes.
  A slice value that reads as these bytes, with its reach.
-/
import Derived.Test.YtofbomcimicccaaDoorByteInfo
import Derived.Test.YtofbomcimicccaaDoorProg
import Derived.Test.YtofbomcimicccaaDoorMath1Z
import Derived.Test.YtofbomcimicccaaDoorMemZ
import Derived.WalkKit
import Derived.OwnWalk
import Derived.Below
import Derived.Lib.Hide
import Derived.Test.YtofbomcimicccaaDoorByZ
namespace Go.Proofs.YtofbomcimicccaaDoor
open Go.RowKit

set_option maxRecDepth 100000 in
theorem refPut_any (a : Option Addr) (c : Nat) (l : List Nat) (v : Nat) (w : World) (hl : l.length ≤ 65536) (hv : v < 18446744073709551616) (hz : a = none → c = 0) (hsrc : Src w a l) :
    Calls Tryd.prog 20 #[.slice a l.length c, .int .u64 v] w fun e w' => ∃ r, e = .returned r ∧ w'.ownsRow w.heap.size 5 1 r (l ++ vb v).length (bv (l ++ vb v)) ∧ Below w.heap.size w w' := by
  have hown0 := Lib.hid (World.ownsRow_nil w w.heap.size 5 1)
  have hs10 := vs_le hv
  go_enter Tryd.func20, Tryd.ntmps20
  go_wp2_with (at_builtin; refine wpList_append_bytes rfl (.tmp 6) (.tmp 7) 25 rfl w.heap.size 5 Tryd.underlying25 infoByte _ [] rfl hown0 a c l (by rfl) hz hsrc (by simp; omega) (Nat.le_refl _) ?_; intro r w1 hown1 hgrow1 hnear1)
  have hb1 : Below w.heap.size w w1 := (Below.refl w.heap.size w).grown hgrow1.out (Nat.le_refl _) (by intro k hk; cases hk)
  have Ho : Hid (w1.ownsRow w.heap.size 5 1 r (l ++ []).length (bv (l ++ []))) := by have := hown1.out; rw [List.nil_append] at this; rw [List.append_nil]; exact this
  clear hown1 hgrow1 hnear1 hown0
  go_loopw [1, 5] (fun Vv O wr => ∃ (P : List Nat) (V : Nat), P.length + vs V = vs v ∧ V < 18446744073709551616 ∧ Hid (P ++ vb V = vb v) ∧ Vv = .int .u64 (V : Nat) ∧ Hid (wr.ownsRow w.heap.size 5 1 O (l ++ P).length (bv (l ++ P))) ∧ Hid (Below w.heap.size w wr)) (fun Vv _ _ => (intOf Vv).toNat)
  case atStart => exact ⟨[], v, by simp, hv, by simp [Lib.hid], rfl, Ho, hb1⟩
  case round =>
    obtain ⟨P, V, hps, hV, hPv, rfl, hown, hbel⟩ := hrel
    have hpos := vs_pos V
    have hsz := hbel.out.size
    have hlen : (l ++ P).length + 1 ≤ 140737488355328 := by rw [List.length_append]; omega
    by_cases h128 : 128 ≤ V
    · obtain ⟨D, hD⟩ : ∃ D, D = V / 128 := ⟨_, rfl⟩
      have eD : (V : Int) / 128 = (D : Int) := by omega
      obtain ⟨M, hM⟩ : ∃ M, M = V % 128 := ⟨_, rfl⟩
      have eM : (V : Int) % 128 = (M : Int) := by omega
      have hM128 : M < 128 := by omega
      have hDV : D < V := by omega
      have Hnext : Hid ((P ++ [128 + M]) ++ vb D = vb v) := by
        show _ = _
        rw [List.append_assoc, ← hPv.out, vb_big h128, hM, hD, Nat.add_comm 128]; rfl
      have Hps : Hid ((P ++ [128 + M]).length + vs D = vs v) := by
        show _ = _
        rw [← hps, vs_big h128, List.length_append, hD]
        simp only [List.length_singleton]; omega
      clear hD hM hPv hps hpos
      have hX : (128 : Int) + (M : Int) = ((128 + M : Nat) : Int) := by omega
      have hXl : 128 + M < 256 := by omega
      generalize 128 + M = X at *
      go_wp2_with (at_builtin; refine wpList_append_bytes rfl (.tmp 11) (.tmp 16) 25 rfl w.heap.size 5 Tryd.underlying25 infoByte _ (l ++ P) (by rfl) (hown.out.alloc _) (some ⟨wr.heap.size, 0, none⟩) 1 [X] (by rfl) (by intro h; cases h) (by exact src_one wr _ X) hlen (by simp; omega) ?_; intro O' w2 hown2 hgrow2 hnear2)
      have hb2 : Hid (Below w.heap.size w w2) := (hbel.out.alloc hsz _).grown hgrow2.out (by simp; omega) (fun j hj => (hown.out.lt j hj).1)
      have Ho2 : Hid (w2.ownsRow w.heap.size 5 1 O' (l ++ (P ++ [X])).length (bv (l ++ (P ++ [X])))) := by have := hown2.out; rw [List.append_assoc] at this; exact this
      clear hown2 hgrow2 hnear2 hown hbel
      go_wp2
      go_roundw
      case rel => exact ⟨P ++ [X], D, Hps.out, by omega, Hnext, rfl, Ho2, hb2⟩
      case measure => simp [intOf]; omega
    · have hlast : P ++ [V] = vb v := by rw [← hPv.out, vb_small (by omega)]
      have hV256 : V < 256 := by omega
      clear hPv hps hpos
      go_wp2_with (at_builtin; refine wpList_append_bytes rfl (.tmp 20) (.tmp 23) 25 rfl w.heap.size 5 Tryd.underlying25 infoByte _ (l ++ P) (by rfl) (hown.out.alloc _) (some ⟨wr.heap.size, 0, none⟩) 1 [V] (by rfl) (by intro h; cases h) (by exact src_one wr _ V) hlen (by simp; omega) ?_; intro O' w2 hown2 hgrow2 hnear2)
      have hb2 := (hbel.out.alloc hsz _).grown hgrow2.out (by simp; omega) (fun j hj => (hown.out.lt j hj).1)
      have ho2 := hown2.out
      rw [List.append_assoc, hlast] at ho2
      go_ret
      exact ⟨_, rfl, ho2, hb2⟩

end Go.Proofs.YtofbomcimicccaaDoor
namespace Go.Proofs.YtofbomcimicccaaDoor
open Go Go.RowKit

theorem infoB : (Tryd.prog.info? 5).map (fun i => (i.zero, i.size, i.bytes)) = some (some (.int .u8 0), 1, 1) := by kernel_rfl

/-- A slice that reads as these bytes, nil or at a place of a row, with its reach. -/
def Sl (w : World) (v : Value) (l : List Nat) : Prop := (v = .slice none 0 0 ∧ l = []) ∨ ∃ g o c, v = .slice (some ⟨g, o, none⟩) l.length c ∧ Cs w g o l ∧ l.length ≤ c ∧ c ≤ maxLen
theorem Sl.none (w : World) : Sl w (.slice none 0 0) [] := .inl ⟨rfl, rfl⟩
theorem Sl.below {w w' : World} {v : Value} {l : List Nat} {B : Nat} (h : Sl w v l) (hb : Below B w w') (hB : w.heap.size ≤ B) : Sl w' v l := by
  rcases h with h | ⟨g, o, c, rfl, hc, h1, h2⟩
  · exact .inl h
  · refine .inr ⟨g, o, c, rfl, ?_, h1, h2⟩
    rcases Nat.eq_zero_or_pos l.length with h0 | h0
    · intro i hi; omega
    · exact hc.below hb (Nat.lt_of_lt_of_le (hc.lt h0) hB)
/-- As an argument of a call. -/
theorem Sl.arg {w : World} {v : Value} {l : List Nat} (h : Sl w v l) : ∃ a c, v = .slice a l.length c ∧ Src w a l ∧ (a = Option.none → c = 0) ∧ l.length ≤ c ∧ c ≤ maxLen := by
  rcases h with ⟨rfl, rfl⟩ | ⟨g, o, c, rfl, hc, h1, h2⟩
  · exact ⟨Option.none, 0, rfl, Src.nil _ _, fun _ => rfl, Nat.le_refl _, by unfold maxLen; omega⟩
  · exact ⟨_, c, rfl, hc.src, (fun h => by cases h), h1, h2⟩
theorem Sl.own {w : World} {B E : Nat} {v : Value} {l : List Nat} (h : w.ownsRow B E 1 v l.length (bv l)) : Sl w v l := by
  rcases h.2 with ⟨rfl, h0⟩ | ⟨g, cap, cur, rfl, hb, hg, hnc, hcm, _⟩
  · have : l = [] := List.eq_nil_of_length_eq_zero h0
    subst this
    exact .inl ⟨rfl, rfl⟩
  · refine .inr ⟨g, 0, cap, rfl, fun i hi => ?_, hnc, hcm⟩
    have := h.cellAt i (by omega)
    rw [bv_get l i hi] at this
    simpa using this
theorem Sl.row {w : World} {g : Nat} {l : List Nat} (h : Row w g 5 l) (hm : l.length ≤ maxLen) : Sl w (.slice (some ⟨g, 0, Option.none⟩) l.length l.length) l :=
  .inr ⟨g, 0, l.length, rfl, h.cs, Nat.le_refl _, hm⟩
theorem Sl.conv {w : World} {v : Value} {l : List Nat} (h : Sl w v l) : (convert 25 9 v).run Tryd.prog w = .ok (.string (bstr l)) w := by
  obtain ⟨a, c, rfl, hs, _⟩ := h.arg
  exact conv_src 25 5 9 Tryd.underlying25 Tryd.underlying5 Tryd.underlying9 a l.length c l rfl w hs

end Go.Proofs.YtofbomcimicccaaDoor
