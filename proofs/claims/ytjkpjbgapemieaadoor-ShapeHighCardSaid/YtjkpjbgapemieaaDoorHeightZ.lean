/-
  tree's Height.
-/
import Derived.Test.YtjkpjbgapemieaaDoorTreeZ
namespace Go.Proofs.YtjkpjbgapemieaaDoor
open Go Go.RowKit

set_option maxRecDepth 100000 in
theorem height_any (p : Option Addr) (n : Int) (es : List En) (H : Nat) (w : World) (ht : TreeP w p es H) (hH : H ≤ 1000000) :
    Calls Tryd.prog 15 #[.agg #[.pointer p, .int .i64 n]] w fun e w' => e = .returned (.int .i64 (H : Nat)) ∧ Below w.heap.size w w' := by
  obtain ⟨w0, hw0, hc0, hb0⟩ := alloc_own w TT #[.pointer p, .int .i64 n]
  have HG := Lib.hid hw0
  have HB := Lib.hid hb0
  rcases ht with ⟨rfl, rfl, rfl⟩ | ⟨b, h, s, rfl, hn, hs, hs3, _, hHh⟩
  · clear hc0 hw0 hb0
    go_enter Tryd.func15, Tryd.ntmps15
    go_wp2
    go_ret
    exact ⟨rfl, by rw [HG.out]; exact HB.out⟩
  · have hn0 := Lib.hid (Nd.ext hb0 h hn)
    have Hs := Lib.hid (And.intro hs hs3)
    have HHh := Lib.hid hHh
    clear hc0 hw0 hb0 hn hs hs3 hHh
    go_enter Tryd.func15, Tryd.ntmps15
    go_wp2_with fail
    rw [HG.out]
    go_loopg [3, 4] h (fun k t u wr => ∃ (x b : Nat) (lo hi : SB) (es' : List En) (s' : Nat), t = .int .i64 x ∧ u = pt b ∧ Hid (Nd w0 k lo hi b es' s') ∧ x + k = H ∧ Hid (s' ≤ 504 ∧ (0 < k → 3 ≤ s')) ∧ w0 = wr)
    case atStart => exact ⟨1, b, none, none, es, s, rfl, rfl, hn0, by have := HHh.out; omega, Hs, by first | trivial | rfl⟩
    case round =>
      obtain ⟨x, b, lo, hi, es', s', rfl, rfl, hn, hx, hss, rfl⟩ := hrel
      cases gk with
      | zero =>
        obtain ⟨⟨vc, nb, a0, c0, rfl, _⟩, _⟩ := hn.out
        have hil := Lib.hid (isLeaf_yes b _ _ w0 nb)
        obtain rfl : x = H := by omega
        clear nb hn hss
        go_wp2_with fail
        refine hil.out.mono ?_
        rintro e w' ⟨rfl, rfl⟩
        go_wp2
        go_ret
        exact ⟨rfl, HB.out⟩
      | succ h =>
        obtain ⟨ks, ps, ess, ⟨vk, vp, nb, ⟨a0, c0, rfl, s0, _⟩, ⟨a1, c1, rfl, s1, _⟩⟩, hr, hfl, hsz⟩ := hn.out
        have hle := hr.len
        obtain ⟨sk, hk1, hk2, hk3⟩ := hr.kid (m := 0) (by omega)
        obtain ⟨g2, o2, rfl, hc2⟩ := s1.ptrs (by omega)
        have hil := Lib.hid (isLeaf_no b _ _ _ _ _ w0 nb (by omega))
        have q2 := nb.c2
        have r2 := hc2 0 (by omega)
        simp only [Nat.add_zero] at r2
        have Hn2 := Lib.hid hk1
        have Hs2 : Hid (sk ≤ 504 ∧ (0 < h → 3 ≤ sk)) := ⟨hk3, fun _ => by omega⟩
        have hm0 : (0 : Int) < (ps.length : Int) := by omega
        have hm0' : 0 < ps.length := by omega
        clear nb s0 s1 hc2 hr hle hfl hsz hn hss hk1 hk2 hk3
        generalize na ps 0 = pk at *
        generalize ps.length = m at *
        go_wp2_with fail
        refine hil.out.mono ?_
        rintro e w' ⟨rfl, rfl⟩
        clear hil
        go_wp2_with fail
        go_roundg h
        case measure => omega
        case rel => exact ⟨x + 1, pk, _, _, _, sk, by go_num, rfl, Hn2, by omega, Hs2, by first | trivial | rfl⟩
end Go.Proofs.YtjkpjbgapemieaaDoor
