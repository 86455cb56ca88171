/-
  A string's bytes: '[]byte(s)', as a new row.
  The document's Put of a number behind bytes.
  A slice value that reads as these bytes, with its reach.
  The document's Put of bytes behind bytes.
  The document's Size of a cell.
-/
import Derived.Test.YtbgkjniagedcnaaGreatDoorProg
import Derived.Test.YtbgkjniagedcnaaGreatDoorKeysMathZ
import Derived.Test.YtbgkjniagedcnaaGreatDoorByZ
import Derived.WalkKit
import Derived.Lib.ConvBytes
import Derived.Test.YtbgkjniagedcnaaGreatDoorByteInfo
import Derived.Test.YtbgkjniagedcnaaGreatDoorMath1Z
import Derived.Test.YtbgkjniagedcnaaGreatDoorMemZ
import Derived.OwnWalk
import Derived.Below
import Derived.Lib.Hide
import Derived.Test.YtbgkjniagedcnaaGreatDoorGr
namespace Go.Proofs.YtbgkjniagedcnaaGreatDoor
open Go Go.RowKit

theorem conv_str (w : World) (s : ByteArray) (hs : s.size ≤ 1099511627776) : ∃ g c w1, (convert 9 64 (.string s)).run Tryz.prog w = .ok (.slice (some ⟨g, 0, none⟩) s.size c) w1 ∧ Src w1 (some ⟨g, 0, none⟩) (bn s) ∧ s.size ≤ c ∧ c ≤ maxLen ∧ Below w.heap.size w w1 := by
  refine ⟨w.heap.size, grownCap w s.size 0 5, Lib.bytesWorld w 5 s, ?_, ?_, ?_, ?_, ⟨rfl, rfl, rfl, by rw [Lib.bytesWorld_size]; omega, fun j hj => Lib.bytesWorld_at_old w _ _ j hj⟩⟩
  · exact Lib.run_convert_string_bytes w _ _ _ s Tryz.underlying9 Tryz.underlying64 Tryz.underlying5
  · have hcs : Cs (Lib.bytesWorld w 5 s) w.heap.size 0 (bn s) := fun i hi => by
      rw [bn_len] at hi
      rw [Nat.zero_add, Lib.bytesWorld_cell w 5 s i hi]
      unfold bn
      have hi2 : i < s.data.toList.length := by simpa using hi
      congr 2
      rw [List.getD_eq_getElem?_getD, List.getD_eq_getElem?_getD, List.getElem?_map, show (bl s) = s.data.toList from rfl, List.getElem?_eq_getElem hi2]
      rfl
    exact hcs.src
  · have := grownCap_ge w s.size 0 5; omega
  · exact grownCap_le_maxLen w s.size 0 5 (by unfold maxLen; omega)
end Go.Proofs.YtbgkjniagedcnaaGreatDoor
namespace Go.Proofs.YtbgkjniagedcnaaGreatDoor
open Go.RowKit

set_option maxRecDepth 100000 in
theorem refPut_any (a : Option Addr) (c : Nat) (l : List Nat) (v : Nat) (w : World) (hl : l.length ≤ 65536) (hv : v < 18446744073709551616) (hz : a = none → c = 0) (hsrc : Src w a l) :
    Calls Tryz.prog 46 #[.slice a l.length c, .int .u64 v] w fun e w' => ∃ r, e = .returned r ∧ w'.ownsRow w.heap.size 5 1 r (l ++ vb v).length (bv (l ++ vb v)) ∧ Below w.heap.size w w' := by
  have hown0 := Lib.hid (World.ownsRow_nil w w.heap.size 5 1)
  have hs10 := vs_le hv
  go_enter Tryz.func46, Tryz.ntmps46
  go_wp2_with (at_builtin; refine wpList_append_bytes rfl (.tmp 6) (.tmp 7) 64 rfl w.heap.size 5 Tryz.underlying64 infoByte _ [] rfl hown0 a c l (by rfl) hz hsrc (by simp; omega) (Nat.le_refl _) ?_; intro r w1 hown1 hgrow1 hnear1)
  have hb1 : Below w.heap.size w w1 := (Below.refl w.heap.size w).grown hgrow1.out (Nat.le_refl _) (by intro k hk; cases hk)
  have Ho : Hid (w1.ownsRow w.heap.size 5 1 r (l ++ []).length (bv (l ++ []))) := by have := hown1.out; rw [List.nil_append] at this; rw [List.append_nil]; exact this
  clear hown1 hgrow1 hnear1 hown0
  go_loopw [1, 5] (fun Vv O wr => ∃ (P : List Nat) (V : Nat), P.length + vs V = vs v ∧ V < 18446744073709551616 ∧ Hid (P ++ vb V = vb v) ∧ Vv = .int .u64 (V : Nat) ∧ Hid (wr.ownsRow w.heap.size 5 1 O (l ++ P).length (bv (l ++ P))) ∧ Hid (Below w.heap.size w wr)) (fun Vv _ _ => (intOf Vv).toNat)
  case atStart => exact ⟨[], v, by simp, hv, by simp [Lib.hid], rfl, Ho, hb1⟩
  case round =>
    obtain ⟨P, V, hps, hV, hPv, rfl, hown, hbel⟩ := hrel
    have hpos := vs_pos V
    have hsz := hbel.out.size
    have hlen : (l ++ P).length + 1 ≤ 140737488355328 := by rw [List.length_append]; omega
    by_cases h128 : 128 ≤ V
    · obtain ⟨D, hD⟩ : ∃ D, D = V / 128 := ⟨_, rfl⟩
      have eD : (V : Int) / 128 = (D : Int) := by omega
      obtain ⟨M, hM⟩ : ∃ M, M = V % 128 := ⟨_, rfl⟩
      have eM : (V : Int) % 128 = (M : Int) := by omega
      have hM128 : M < 128 := by omega
      have hDV : D < V := by omega
      have Hnext : Hid ((P ++ [128 + M]) ++ vb D = vb v) := by
        show _ = _
        rw [List.append_assoc, ← hPv.out, vb_big h128, hM, hD, Nat.add_comm 128]; rfl
      have Hps : Hid ((P ++ [128 + M]).length + vs D = vs v) := by
        show _ = _
        rw [← hps, vs_big h128, List.length_append, hD]
        simp only [List.length_singleton]; omega
      clear hD hM hPv hps hpos
      have hX : (128 : Int) + (M : Int) = ((128 + M : Nat) : Int) := by omega
      have hXl : 128 + M < 256 := by omega
      generalize 128 + M = X at *
      go_wp2_with (at_builtin; refine wpList_append_bytes rfl (.tmp 11) (.tmp 16) 64 rfl w.heap.size 5 Tryz.underlying64 infoByte _ (l ++ P) (by rfl) (hown.out.alloc _) (some ⟨wr.heap.size, 0, none⟩) 1 [X] (by rfl) (by intro h; cases h) (by exact src_one wr _ X) hlen (by simp; omega) ?_; intro O' w2 hown2 hgrow2 hnear2)
      have hb2 : Hid (Below w.heap.size w w2) := (hbel.out.alloc hsz _).grown hgrow2.out (by simp; omega) (fun j hj => (hown.out.lt j hj).1)
      have Ho2 : Hid (w2.ownsRow w.heap.size 5 1 O' (l ++ (P ++ [X])).length (bv (l ++ (P ++ [X])))) := by have := hown2.out; rw [List.append_assoc] at this; exact this
      clear hown2 hgrow2 hnear2 hown hbel
      go_wp2
      go_roundw
      case rel => exact ⟨P ++ [X], D, Hps.out, by omega, Hnext, rfl, Ho2, hb2⟩
      case measure => simp [intOf]; omega
    · have hlast : P ++ [V] = vb v := by rw [← hPv.out, vb_small (by omega)]
      have hV256 : V < 256 := by omega
      clear hPv hps hpos
      go_wp2_with (at_builtin; refine wpList_append_bytes rfl (.tmp 20) (.tmp 23) 64 rfl w.heap.size 5 Tryz.underlying64 infoByte _ (l ++ P) (by rfl) (hown.out.alloc _) (some ⟨wr.heap.size, 0, none⟩) 1 [V] (by rfl) (by intro h; cases h) (by exact src_one wr _ V) hlen (by simp; omega) ?_; intro O' w2 hown2 hgrow2 hnear2)
      have hb2 := (hbel.out.alloc hsz _).grown hgrow2.out (by simp; omega) (fun j hj => (hown.out.lt j hj).1)
      have ho2 := hown2.out
      rw [List.append_assoc, hlast] at ho2
      go_ret
      exact ⟨_, rfl, ho2, hb2⟩

end Go.Proofs.YtbgkjniagedcnaaGreatDoor
namespace Go.Proofs.YtbgkjniagedcnaaGreatDoor
open Go Go.RowKit

theorem infoB : (Tryz.prog.info? 5).map (fun i => (i.zero, i.size, i.bytes)) = some (some (.int .u8 0), 1, 1) := by kernel_rfl

/-- A slice that reads as these bytes, nil or at a place of a row, with its reach. -/
def Sl (w : World) (v : Value) (l : List Nat) : Prop := (v = .slice none 0 0 ∧ l = []) ∨ ∃ g o c, v = .slice (some ⟨g, o, none⟩) l.length c ∧ Cs w g o l ∧ l.length ≤ c ∧ c ≤ maxLen
theorem Sl.none (w : World) : Sl w (.slice none 0 0) [] := .inl ⟨rfl, rfl⟩
theorem Sl.below {w w' : World} {v : Value} {l : List Nat} {B : Nat} (h : Sl w v l) (hb : Below B w w') (hB : w.heap.size ≤ B) : Sl w' v l := by
  rcases h with h | ⟨g, o, c, rfl, hc, h1, h2⟩
  · exact .inl h
  · refine .inr ⟨g, o, c, rfl, ?_, h1, h2⟩
    rcases Nat.eq_zero_or_pos l.length with h0 | h0
    · intro i hi; omega
    · exact hc.below hb (Nat.lt_of_lt_of_le (hc.lt h0) hB)
/-- As an argument of a call. -/
theorem Sl.arg {w : World} {v : Value} {l : List Nat} (h : Sl w v l) : ∃ a c, v = .slice a l.length c ∧ Src w a l ∧ (a = Option.none → c = 0) ∧ l.length ≤ c ∧ c ≤ maxLen := by
  rcases h with ⟨rfl, rfl⟩ | ⟨g, o, c, rfl, hc, h1, h2⟩
  · exact ⟨Option.none, 0, rfl, Src.nil _ _, fun _ => rfl, Nat.le_refl _, by unfold maxLen; omega⟩
  · exact ⟨_, c, rfl, hc.src, (fun h => by cases h), h1, h2⟩
theorem Sl.own {w : World} {B E : Nat} {v : Value} {l : List Nat} (h : w.ownsRow B E 1 v l.length (bv l)) : Sl w v l := by
  rcases h.2 with ⟨rfl, h0⟩ | ⟨g, cap, cur, rfl, hb, hg, hnc, hcm, _⟩
  · have : l = [] := List.eq_nil_of_length_eq_zero h0
    subst this
    exact .inl ⟨rfl, rfl⟩
  · refine .inr ⟨g, 0, cap, rfl, fun i hi => ?_, hnc, hcm⟩
    have := h.cellAt i (by omega)
    rw [bv_get l i hi] at this
    simpa using this
theorem Sl.row {w : World} {g : Nat} {l : List Nat} (h : Row w g 5 l) (hm : l.length ≤ maxLen) : Sl w (.slice (some ⟨g, 0, Option.none⟩) l.length l.length) l :=
  .inr ⟨g, 0, l.length, rfl, h.cs, Nat.le_refl _, hm⟩
theorem Sl.conv {w : World} {v : Value} {l : List Nat} (h : Sl w v l) : (convert 64 9 v).run Tryz.prog w = .ok (.string (bstr l)) w := by
  obtain ⟨a, c, rfl, hs, _⟩ := h.arg
  exact conv_src 64 5 9 Tryz.underlying64 Tryz.underlying5 Tryz.underlying9 a l.length c l rfl w hs

end Go.Proofs.YtbgkjniagedcnaaGreatDoor
namespace Go.Proofs.YtbgkjniagedcnaaGreatDoor
open Go Go.RowKit

set_option maxRecDepth 100000 in
theorem refPutBytes_any (a a2 : Option Addr) (n c n2 c2 : Nat) (l l2 : List Nat) (hn : l.length = n) (hn2 : l2.length = n2) (w : World) (hs : Src w a l) (hz : a = none → c = 0) (hs2 : Src w a2 l2) (hz2 : a2 = none → c2 = 0) (hl : n ≤ 65536) (hl2 : n2 ≤ 1000000) :
    Calls Tryz.prog 47 #[.slice a n c, .slice a2 n2 c2] w fun e w' => ∃ v, e = .returned v ∧ Sl w' v (l ++ vb n2 ++ l2) ∧ Below w.heap.size w w' := by
  subst hn
  have h := refPut_any a c l n2 w hl (by omega) hz hs
  have Hs2 := Lib.hid hs2
  have Hz2 := Lib.hid hz2
  have h10 := vs_le (show n2 < 18446744073709551616 by omega)
  have Hlen : Hid ((l ++ vb n2).length = l.length + vs n2) := by show _ = _; rw [List.length_append]; rfl
  have Hn := Lib.hid hn2
  clear hs hs2 hz2 hz hn2
  go_enter Tryz.func47, Tryz.ntmps47
  go_wp2_with fail
  refine h.mono ?_
  rintro e w1 ⟨v, rfl, hown, hb⟩
  have hs2 := Lib.hid (Hs2.out.below hb (Nat.le_refl _))
  have Ho := Lib.hid hown
  have Hb := Lib.hid hb
  clear hown hb h
  have hsz := Hb.out.size
  go_wp2_with (at_builtin; refine wpList_append_bytes rfl (.tmp 9) (.tmp 10) 64 rfl w.heap.size 5 Tryz.underlying64 infoB _ (l ++ vb n2) (by rfl) Ho a2 c2 l2 (by rw [Hn.out]; rfl) Hz2.out hs2.out (by rw [Hlen.out, Hn.out]; omega) hsz ?_; intro v' w2 hown2 hgrow2 hnear2)
  have hbn := Hb.out.grown hgrow2.out hsz (fun j hj => (Ho.out.lt j hj).1)
  have ho := Sl.own hown2.out
  go_ret
  exact ⟨_, rfl, ho, hbn⟩

end Go.Proofs.YtbgkjniagedcnaaGreatDoor
namespace Go.Proofs.YtbgkjniagedcnaaGreatDoor
open Go Go.RowKit

set_option maxRecDepth 100000 in
theorem refSize_any (k : ByteArray) (n : Nat) (w : World) (hk : k.size ≤ 32768) (hn : n ≤ 65536) : Calls Tryz.prog 27 #[.string k, .int .i64 n] w fun e w' => e = .returned (.int .i64 (sizeS k n : Nat)) ∧ Below w.heap.size w w' := by
  have v1 := vs_le (show k.size < 18446744073709551616 by omega)
  have v2 := vs_le (show n < 18446744073709551616 by omega)
  have hS : Hid (sizeS k n = vs k.size + k.size + vs n + (if (n : Int) ≤ 64 then n else 2)) := by show _ = _; unfold sizeS; rw [show ((n : Int)).toNat = n from rfl]
  obtain ⟨g, c, w1, hcv, hsrc, hc1, hc2, hb1⟩ := conv_str w k (by omega)
  have Hsrc := Lib.hid hsrc
  have Hb1 := Lib.hid hb1
  clear hsrc hb1 hc2
  have hl1 : Hid (([] ++ vb k.size ++ bn k).length = vs k.size + k.size) := by show _ = _; rw [List.nil_append, List.length_append, bn_len]; rfl
  have hl2 : Hid (([] ++ vb k.size ++ bn k ++ vb n).length = vs k.size + k.size + vs n) := by show _ = _; rw [List.length_append, hl1.out]; rfl
  have hp := Lib.hid (refPutBytes_any none (some ⟨g, 0, none⟩) 0 0 k.size c [] (bn k) rfl (bn_len k) w1 (Src.nil _ _) (fun _ => rfl) Hsrc.out (fun h => by cases h) (by omega) (by omega))
  generalize sizeS k n = S at *
  generalize vs k.size = A at *
  generalize vs n = B at *
  generalize [] ++ vb k.size ++ bn k = L at *
  have hd : decide ((n : Int) < 0) = false := by simp
  go_enter Tryz.func27, Tryz.ntmps27
  go_wp2_with fail
  refine hp.out.mono ?_
  rintro e w2 ⟨v, rfl, hv, hb2⟩
  obtain ⟨a2, c2, rfl, hs2, hz2, _⟩ := hv.arg
  have Hs2 := Lib.hid hs2
  have Hz2 := Lib.hid hz2
  have Hb2 := Lib.hid (Hb1.out.trans (hb2.mono Hb1.out.size))
  clear hv hs2 hz2 hb2 hp Hb1 Hsrc hcv
  rw [hl1.out]
  have hput := Lib.hid (refPut_any a2 c2 L n w2 (by rw [hl1.out]; omega) (by omega) Hz2.out Hs2.out)
  rw [hl1.out] at hput
  go_wp2_with fail
  refine hput.out.mono ?_
  rintro e w3 ⟨v, rfl, hown, hb3⟩
  obtain ⟨a3, c3, rfl, _⟩ := own_src hown
  have Hb3 := Lib.hid (Hb2.out.trans (hb3.mono Hb2.out.size))
  clear hown hb3 hput Hb2 Hs2 Hz2
  rw [hl2.out]
  by_cases h64 : (n : Int) ≤ 64
  · have d1 : decide (64 < (n : Int)) = false := by simp; omega
    have hS2 : Hid (S = A + k.size + B + n) := by show _ = _; rw [hS.out, if_pos h64]
    clear hS
    go_wp2
    go_ret
    exact ⟨by rw [hS2.out]; simp, Hb3.out⟩
  · have d1 : decide (64 < (n : Int)) = true := by simp; omega
    have hS2 : Hid (S = A + k.size + B + 2) := by show _ = _; rw [hS.out, if_neg h64]
    clear hS
    go_wp2
    go_ret
    exact ⟨by rw [hS2.out]; simp, Hb3.out⟩

end Go.Proofs.YtbgkjniagedcnaaGreatDoor
