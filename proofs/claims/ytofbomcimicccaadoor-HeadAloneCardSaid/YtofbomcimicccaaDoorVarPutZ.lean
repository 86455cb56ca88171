/-
  varint.Put, and the document's: a number's bytes behind bytes.
-/
import Derived.Test.YtofbomcimicccaaDoorByteInfo
import Derived.Test.YtofbomcimicccaaDoorRefVPutZ
import Derived.Test.YtofbomcimicccaaDoorVar1Z
namespace Go.Proofs.YtofbomcimicccaaDoor
open Go.RowKit

/-- What stands in Put's row: what was there, the bytes done, room for the others. -/
def vrow (l P : List Nat) (n : Nat) : List Nat := l ++ (P ++ List.replicate n 0)
theorem vrow_length (l P : List Nat) (n : Nat) : (vrow l P n).length = l.length + (P.length + n) := by simp [vrow]
theorem vrow_set (l P : List Nat) (n x : Nat) : (vrow l P (n + 1)).set (l.length + P.length) x = vrow l (P ++ [x]) n := by
  unfold vrow
  rw [List.set_append_right _ _ (by omega), List.set_append_right _ _ (by omega), show l.length + P.length - l.length - P.length = 0 by omega, List.replicate_succ, List.set_cons_zero, List.append_assoc]; rfl
theorem or128 (V : Nat) : bits .or .u8 ((V % 256 : Nat) : Int) 128 = ((V % 128 + 128 : Nat) : Int) := by
  rw [Lib.u8_or128_any _ (by omega) (by omega)]; omega
set_option maxRecDepth 100000 in
theorem put_any (a : Option Addr) (c : Nat) (l : List Nat) (v : Nat) (w : World) (hl : l.length ≤ 65536) (hv : v < 18446744073709551616) (hsrc : Src w a l) :
    Calls Tryd.prog 32 #[.slice a l.length c, .int .u64 v] w fun e w' => e = .returned (.slice (some ⟨w.heap.size, 0, none⟩) (l.length + vs v : Nat) (l.length + vs v : Nat)) ∧ Row w' w.heap.size 5 (l ++ vb v) ∧ Below w.heap.size w w' := by
  have Hsrc := Lib.hid hsrc
  clear hsrc
  have hsz := size_any v w hv
  have hs10 := vs_le hv
  obtain ⟨s, hs⟩ : ∃ s, s = vs v := ⟨_, rfl⟩
  rw [← hs] at hsz hs10 ⊢
  have HS := Lib.hid hs
  have HC := Lib.hid hsz
  clear hs hsz
  go_enter Tryd.func32, Tryd.ntmps32
  go_wp2_with fail
  refine HC.out.mono ?_; rintro e w' ⟨rfl, rfl⟩
  go_wp2_with (first | (at_make; refine wpList_make_bytes rfl _ _ 25 rfl 5 Tryd.underlying25 infoByte _ _ _ _ (l.length + s) rfl rfl (by omega) (by omega) (by omega) ?_; intro w1 hr1 hb1; have hs1' := Lib.hid (Hsrc.out.below hb1 (Nat.le_refl _))) | (show wpList _ _ _ (⟨some 15, _, _, _, _, _⟩ :: _) _ _; refine wpList_copy_bytes rfl (.tmp 13) (.tmp 14) 25 25 rfl 5 Tryd.underlying25 sizeByte w.heap.size 0 (l.length + s) (l.length + s) a c (List.replicate (l.length + s) 0) l (by rfl) (by rfl) hr1 hs1'.out (by simp) (by omega) w.heap.size w hb1 (Nat.le_refl _) ?_; intro w2 hr2 hb2; clear hr1 hs1' hb1))
  have Hr2 : Hid (Row w2 w.heap.size 5 (vrow l [] s)) := by
    have := hr2.out
    rw [splice_start] at this
    have e : l ++ List.drop l.length (List.replicate (l.length + s) 0) = vrow l [] s := by
      unfold vrow; rw [List.drop_replicate, Nat.add_sub_cancel_left]; rfl
    rw [e] at this
    exact this
  clear hr2
  go_loopw [1, 6] (fun Vv I wr => ∃ (P : List Nat) (V p : Nat), p = P.length ∧ p + vs V = s ∧ V < 18446744073709551616 ∧ Hid (P ++ vb V = vb v) ∧ I = .int .i64 ((l.length : Int) + p) ∧ Vv = .int .u64 (V : Nat) ∧ Hid (Row wr w.heap.size 5 (vrow l P (vs V))) ∧ Hid (Below w.heap.size w wr)) (fun Vv _ _ => (intOf Vv).toNat)
  case atStart => exact ⟨[], v, 0, rfl, by rw [HS.out]; omega, hv, rfl, by simp, rfl, by rw [← HS.out]; exact Hr2, hb2⟩
  case round =>
    obtain ⟨P, V, p, hp, hps, hV, hPv, rfl, rfl, hrow, hbel⟩ := hrel
    have hpos := vs_pos V
    have hcell := hrow.out.cell (l.length + p) (by rw [vrow_length]; omega)
    have hfr := hrow.out.frozen (l.length + p)
    generalize (vrow l P (vs V)).getD (l.length + p) 0 = C at *
    obtain ⟨M, hM⟩ : ∃ M, M = V % 256 := ⟨_, rfl⟩
    have eM : (V : Int) % 256 = (M : Int) := by omega
    obtain ⟨q, hq⟩ : ∃ q, q = l.length + p := ⟨_, rfl⟩
    have eq' : (l.length : Int) + (p : Int) = (q : Int) := by omega
    rw [← hq] at hcell hfr
    have hq1 : q < l.length + s := by omega
    by_cases h128 : 128 ≤ V
    · have hor := or128 V
      rw [← hM] at hor
      have hset := hrow.out.set q (V % 128 + 128)
      rw [vs_big h128, hq, hp, vrow_set] at hset
      obtain ⟨X, hX⟩ : ∃ X, X = V % 128 + 128 := ⟨_, rfl⟩
      obtain ⟨D, hD⟩ : ∃ D, D = V / 128 := ⟨_, rfl⟩
      have eD : (V : Int) / 128 = (D : Int) := by omega
      have hDV : D < V := by omega
      have Hnext : Hid ((P ++ [X]) ++ vb D = vb v) := by
        show _ = _
        rw [List.append_assoc, ← hPv.out, vb_big h128, hX, hD]; rfl
      have hvs : Hid (vs V = vs D + 1) := by show _ = _; rw [vs_big h128, hD]
      rw [← hX] at hor hset
      rw [← hD, ← hp, ← hq] at hset
      have Hset := Lib.hid hset
      have HX := Lib.hid (And.intro hX (And.intro hD (And.intro hM (And.intro hq hp))))
      have hps' : Hid (p + vs V = s) := hps
      clear hset hX hD hM hrow hPv hps hp hq hpos
      have hX8 : X < 256 := by have := HX.out.1; omega
      go_wp2
      go_roundw
      case rel => exact ⟨P ++ [X], D, p + 1, by rw [List.length_append, ← HX.out.2.2.2.2]; rfl, by have := hps'.out; have := hvs.out; omega, by omega, Hnext, by rw [← eq']; exact congrArg (Value.int IntKind.i64) (by omega), rfl, Hset, hbel.out.setCell (Nat.le_refl _) _⟩
      case measure => simp [intOf]; omega
    · have hset := hrow.out.set q V
      rw [vs_small (by omega), hq, hp, show (1 : Nat) = 0 + 1 from rfl, vrow_set] at hset
      have hlast : vrow l (P ++ [V]) 0 = l ++ vb v := by
        unfold vrow; rw [← hPv.out, vb_small (by omega)]; simp
      rw [hlast, ← hp, ← hq] at hset
      have Hset := Lib.hid hset
      have hMV : M = V := by omega
      subst hMV
      clear hset hM hrow hPv hps hp hq hpos hlast
      go_wp2
      go_ret
      exact ⟨rfl, Hset.out, hbel.out.setCell (Nat.le_refl _) _⟩

/-! ### The document's -/
end Go.Proofs.YtofbomcimicccaaDoor
