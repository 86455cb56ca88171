/-
  The law's near: a span between the keys in two places.
-/
import Derived.Test.YtggibbgohhpfpaaDoorLessZ
import Derived.Test.YtggibbgohhpfpaaDoorBlocksZ
import Derived.Test.YtggibbgohhpfpaaDoorTurnZ
namespace Go.Proofs.YtggibbgohhpfpaaDoor
open Go Go.RowKit

abbrev ARR : TypeId := 23
def pickK (es : List En) (x : Nat) (d : ByteArray) : ByteArray := if 0 < es.length ∧ 0 < x % 4 then (ea es (x % es.length)).k else d
def nearS (s : Sp) (es : List En) (x y : Nat) : Sp := ⟨pickK es x s.lo, pickK es y s.hi, s.op⟩
theorem pick_no {es : List En} {x : Nat} {d : ByteArray} (h : ¬ (0 < es.length ∧ 0 < x % 4)) : pickK es x d = d := if_neg h
theorem pick_yes {es : List En} {x : Nat} {d : ByteArray} (h : 0 < es.length) (h2 : 0 < x % 4) : pickK es x d = (ea es (x % es.length)).k := if_pos ⟨h, h2⟩
theorem three_blocks (w : World) (o1 o2 o3 : Obj) : Below w.heap.size w (((w.alloc o1).alloc o2).alloc o3) := (((Below.refl w.heap.size w).alloc (Nat.le_refl _) o1).alloc (by simp) o2).alloc (by simp; omega) o3
theorem past_three {w : World} {p : Addr} {v : Value} (h : w.cell? p = some v) (o1 o2 o3 : Obj) : (((w.alloc o1).alloc o2).alloc o3).cell? p = some v := by
  rw [(three_blocks w o1 o2 o3).cell (block_lt_of_cell h)]; exact h
set_option maxRecDepth 100000 in
theorem near_any (s : Sp) (a : Option Addr) (n c : Nat) (es : List En) (x y : Nat) (w : World) (hn : es.length = n) (hs : ES entE w a es) (hl : n ≤ 60000) (hx : x < 65536) (hy : y < 65536) :
    Calls Tryd.prog 13 #[s.v, .slice a n c, .agg #[.int .u16 x, .int .u16 y]] w fun e w' => e = .returned (nearS s es x y).v ∧ Below w.heap.size w w' := by
  obtain ⟨lo, hi, op⟩ := s
  have hb : Hid (∀ o1 o2 o3, Below w.heap.size w (((w.alloc o1).alloc o2).alloc o3)) := fun o1 o2 o3 => three_blocks w o1 o2 o3
  obtain ⟨X4, hX4⟩ : ∃ X4, x % 4 = X4 := ⟨_, rfl⟩
  obtain ⟨Y4, hY4⟩ : ∃ Y4, y % 4 = Y4 := ⟨_, rfl⟩
  have eX : (x : Int).tmod 4 = (X4 : Int) := by rw [Int.tmod_eq_emod_of_nonneg (by omega)]; omega
  have eY : (y : Int).tmod 4 = (Y4 : Int) := by rw [Int.tmod_eq_emod_of_nonneg (by omega)]; omega
  have wX : IntKind.i64.wrap (x : Int) = (x : Int) := by rw [IntKind.wrap_i64]; omega
  have wY : IntKind.i64.wrap (y : Int) = (y : Int) := by rw [IntKind.wrap_i64]; omega
  unfold Sp.v nearS
  dsimp only
  by_cases h0 : n = 0
  · subst h0
    rw [pick_no (by omega), pick_no (by omega)]
    clear hs hn eX eY hX4 hY4
    go_enter Tryd.func13, Tryd.ntmps13
    go_wp2_with fail
    refine bodyPost_ret (v := _) (by rw [results_cell_one rfl]; go_simp) rfl ⟨rfl, hb.out _ _ _⟩
  · have h0' : 0 < n := by omega
    obtain ⟨g, o, rfl, hc⟩ := hs.ents (by omega)
    obtain ⟨QX, hQX⟩ : ∃ Q, x % n = Q := ⟨_, rfl⟩
    obtain ⟨QY, hQY⟩ : ∃ Q, y % n = Q := ⟨_, rfl⟩
    have lX : QX < n := by rw [← hQX]; exact Nat.mod_lt _ h0'
    have lY : QY < n := by rw [← hQY]; exact Nat.mod_lt _ h0'
    have rX : (x : Int).tmod (n : Int) = (QX : Int) := by rw [Int.tmod_eq_emod_of_nonneg (by omega), ← hQX]; rfl
    have rY : (y : Int).tmod (n : Int) = (QY : Int) := by rw [Int.tmod_eq_emod_of_nonneg (by omega), ← hQY]; rfl
    have pX : ∀ o1 o2 o3, (((w.alloc o1).alloc o2).alloc o3).cell? ⟨g, o + QX * 2, none⟩ = some (.string (ea es QX).k) := past_three (hc QX (by omega)).1
    have pY : ∀ o1 o2 o3, (((w.alloc o1).alloc o2).alloc o3).cell? ⟨g, o + QY * 2, none⟩ = some (.string (ea es QY).k) := past_three (hc QY (by omega)).1
    have iX : (QX : Int) < (n : Int) := by omega
    have iY : (QY : Int) < (n : Int) := by omega
    have jX : (0 : Int) ≤ (QX : Int) := by omega
    have jY : (0 : Int) ≤ (QY : Int) := by omega
    have vX : IntKind.i64.wrap (QX : Int) = (QX : Int) := by rw [IntKind.wrap_i64]; omega
    have vY : IntKind.i64.wrap (QY : Int) = (QY : Int) := by rw [IntKind.wrap_i64]; omega
    have n0 : ((n : Int) == 0) = false := by rw [beq_eq_false_iff_ne]; omega
    have n0' : ¬ (n : Int) = 0 := by omega
    have n1 : (0 : Int) < (n : Int) := by omega
    have eX2 : pickK es x lo = if 0 < X4 then (ea es QX).k else lo := by unfold pickK; rw [hX4, hn, hQX]; simp [h0']
    have eY2 : pickK es y hi = if 0 < Y4 then (ea es QY).k else hi := by unfold pickK; rw [hY4, hn, hQY]; simp [h0']
    rw [eX2, eY2]
    generalize (ea es QX).k = kx at *
    generalize (ea es QY).k = ky at *
    clear hs hn hc hQX hQY hX4 hY4 eX2 eY2
    by_cases hX : 0 < X4
    · have dX : (0 : Int) < (X4 : Int) := by omega
      rw [if_pos hX]
      by_cases hY : 0 < Y4
      · have dY : (0 : Int) < (Y4 : Int) := by omega
        rw [if_pos hY]
        go_enter Tryd.func13, Tryd.ntmps13
        go_wp2_with fail
        refine bodyPost_ret (v := _) (by rw [results_cell_one rfl]; go_simp) rfl ⟨rfl, hb.out _ _ _⟩
      · obtain rfl : Y4 = 0 := by omega
        rw [if_neg hY]
        go_enter Tryd.func13, Tryd.ntmps13
        go_wp2_with fail
        refine bodyPost_ret (v := _) (by rw [results_cell_one rfl]; go_simp) rfl ⟨rfl, hb.out _ _ _⟩
    · obtain rfl : X4 = 0 := by omega
      rw [if_neg hX]
      by_cases hY : 0 < Y4
      · have dY : (0 : Int) < (Y4 : Int) := by omega
        rw [if_pos hY]
        go_enter Tryd.func13, Tryd.ntmps13
        go_wp2_with fail
        refine bodyPost_ret (v := _) (by rw [results_cell_one rfl]; go_simp) rfl ⟨rfl, hb.out _ _ _⟩
      · obtain rfl : Y4 = 0 := by omega
        rw [if_neg hY]
        go_enter Tryd.func13, Tryd.ntmps13
        go_wp2_with fail
        refine bodyPost_ret (v := _) (by rw [results_cell_one rfl]; go_simp) rfl ⟨rfl, hb.out _ _ _⟩
end Go.Proofs.YtggibbgohhpfpaaDoor
