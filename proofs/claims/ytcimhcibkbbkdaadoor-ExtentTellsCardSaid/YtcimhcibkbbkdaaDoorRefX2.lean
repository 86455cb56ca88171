/-
  The document's May, Pages, Page, Number.
-/
import Derived.Test.YtcimhcibkbbkdaaDoorRefX1
import Derived.Test.YtcimhcibkbbkdaaDoorExtMath2
import Derived.Test.YtcimhcibkbbkdaaDoorAppX
namespace Go.Proofs.YtcimhcibkbbkdaaDoor
open Go Go.RowKit

set_option maxRecDepth 100000 in
theorem xmayR_any (a : Option Addr) (n c : Nat) (l : List Xt) (p : Int) (w : World) (hn : l.length = n) (hs : XS w a l) (hl : n ≤ 9223372036854775807) (hr : ∀ x ∈ l, XOK x) :
    Calls Tryd.prog 17 #[.slice a n c, .int .i64 p] w fun e w' => e = .returned (.bool (xmayB l p)) ∧ Below w.heap.size w w' := by
  have H1 := Lib.hid (xmarks_any a n c l p w hn hs hl hr)
  clear hn hs hl hr
  obtain ⟨D, hD⟩ : ∃ D, xmayB l p = D := ⟨_, rfl⟩
  have HD := Lib.hid hD
  rw [hD]
  clear hD
  go_enter Tryd.func17, Tryd.ntmps17
  go_wp2_with fail
  refine H1.out.mono ?_
  rintro e w1 ⟨hb1, h⟩
  have Hb1 := Lib.hid hb1
  clear hb1 H1
  rcases h with ⟨h1, v, rfl, _⟩ | ⟨h1, rfl⟩
  · obtain rfl : D = true := by rw [← HD.out, h1]
    clear HD h1
    go_wp2
    go_ret
    exact ⟨rfl, Hb1.out⟩
  · obtain rfl : D = false := by rw [← HD.out, h1]
    clear HD h1
    go_wp2
    go_ret
    exact ⟨rfl, Hb1.out⟩
/-- All pages, of stretches that may be. -/
def xpgs (l : List Xt) : List Int := if xmayB l 1024 = true then xflat l else []
theorem xpgs_len (l : List Xt) : ((xpgs l).length : Int) = xmanS l := by
  unfold xpgs xmanS
  by_cases h : xmayB l 1024 = true
  · rw [if_pos h, if_pos h]
    exact xflat_len l (fun x hx => by have := (((xmayB_iff _ _).1 h).ins x hx).2.1; omega)
  · rw [if_neg h, if_neg h]; rfl
theorem xflat_le {l : List Xt} {p : Int} (h : XMay l p) : (xflat l).length ≤ 1024 := by
  have h1 := xflat_len l (fun x hx => by have := (h.ins x hx).2.1; omega)
  have h2 := h.sum
  have h3 := h.hi
  omega
theorem zcell_new (w : World) (T : TypeId) (y : Int) : (w.alloc (.cells #[.int .i64 y] T)).cell? ⟨w.heap.size, 0, none⟩ = some (.int .i64 y) := by simp
set_option maxRecDepth 100000 in
theorem xpages_any (a : Option Addr) (n c : Nat) (l : List Xt) (w : World) (hn : l.length = n) (hs : XS w a l) (hl : n ≤ 9223372036854775807) (hr : ∀ x ∈ l, XOK x) :
    Calls Tryd.prog 20 #[.slice a n c] w fun e w' => ∃ v, e = .returned v ∧ w'.ownsRow w.heap.size ZT 1 v (xpgs l).length (iv (xpgs l)) ∧ Below w.heap.size w w' := by
  have Hs := Lib.hid hs
  have Hn := Lib.hid hn
  have Hr := Lib.hid hr
  clear hs hn hr
  have Hmay : Hid (∀ wr, Below w.heap.size w wr → Calls Tryd.prog 17 #[.slice a n c, .int .i64 1024] wr fun e w' => e = .returned (.bool (xmayB l 1024)) ∧ Below wr.heap.size wr w') := fun wr hB => xmayR_any a n c l 1024 wr Hn.out (Hs.out.below hB (Nat.le_refl _)) hl Hr.out
  by_cases hb : xmayB l 1024 = true
  · have e1 : xpgs l = xflat l := by unfold xpgs; rw [if_pos hb]
    rw [e1]
    rw [hb] at Hmay
    have hM := Lib.hid ((xmayB_iff _ _).1 hb)
    have hMk : Hid (∀ k, (xflat (l.take k)).length ≤ 1024) := fun k => xflat_le (xmay_take hb k)
    clear e1 hb
    go_enter Tryd.func20, Tryd.ntmps20
    go_wp2_with fail
    go_loopw [3, 4] (fun ov i wr => ∃ (k : Nat) (v : Value), v = ov ∧ i = .int .i64 k ∧ k ≤ n ∧ Hid (wr.ownsRow w.heap.size ZT 1 v (xflat (l.take k)).length (iv (xflat (l.take k)))) ∧ Hid (Below w.heap.size w wr)) (fun _ i _ => n - (intOf i).toNat)
    case atStart => exact ⟨0, xnil, rfl, rfl, by omega, World.ownsRow_nil _ _ _ _, Below.refl _ _⟩
    case round =>
      obtain ⟨W0, hW0⟩ : ∃ W0, W0 = wr := ⟨_, rfl⟩
      subst hW0
      obtain ⟨k, v, rfl, rfl, hk, hown, hB⟩ := hrel
      by_cases hlt : k < n
      · have H1 := Lib.hid (Hmay.out W0 hB.out)
        have i1 : (k : Int) < (n : Int) := by omega
        go_wp2_with fail
        refine H1.out.mono ?_
        rintro e w1 ⟨rfl, hb1⟩
        have hB1 : Hid (Below w.heap.size w w1) := hB.out.trans (hb1.mono hB.out.size)
        have ho1 : Hid (w1.ownsRow w.heap.size ZT 1 v (xflat (l.take k)).length (iv (xflat (l.take k)))) := own_below hown.out hb1 (Nat.le_refl _)
        have hkl : Hid (k < l.length) := by show _ < _; rw [Hn.out]; exact hlt
        have hx := hM.out.ins (xt l k) (xt_mem l k hkl.out)
        have htk := Lib.hid (xt_take l k hkl.out)
        obtain ⟨y, hy⟩ : ∃ y, xt l k = y := ⟨_, rfl⟩
        have HY := Lib.hid hy
        rw [hy] at hx htk
        obtain ⟨F, M⟩ := y
        obtain ⟨f1, f2, f3⟩ := hx
        dsimp only at f1 f2 f3
        obtain ⟨f, rfl⟩ := Int.eq_ofNat_of_zero_le f1
        obtain ⟨m, rfl⟩ := Int.eq_ofNat_of_zero_le (show 0 ≤ M by omega)
        have hm9 : m ≤ 1024 := by omega
        have hf9 : f ≤ 1024 := by omega
        clear hb1 hB hown H1 hy f1 f2 f3
        go_wp2_with fail
        go_loopw [3, 5] (fun ov j wx => ∃ (q : Nat) (v : Value), v = ov ∧ j = .int .i64 q ∧ q ≤ m ∧ Hid (wx.ownsRow w.heap.size ZT 1 v (xflat (l.take k) ++ xcel q (f : Int)).length (iv (xflat (l.take k) ++ xcel q (f : Int)))) ∧ Hid (Below w.heap.size w wx)) (fun _ j _ => m - (intOf j).toNat)
        case atStart => exact ⟨0, v, rfl, rfl, by omega, by show World.ownsRow _ _ _ _ _ _ _; rw [xcel, List.append_nil]; exact ho1.out, hB1.out⟩
        case round =>
          obtain ⟨q, v2, rfl, rfl, hq, hown, hB⟩ := hrel
          obtain ⟨g, o, ea, hcell⟩ := (Hs.out.below hB.out (Nat.le_refl _)).xts (by have := hkl.out; omega)
          obtain ⟨q0, q1⟩ := hcell k hkl.out
          rw [HY.out] at q0 q1
          dsimp only at q0 q1
          subst ea
          clear hcell
          by_cases hqm : q < m
          · have hfl : Hid ((xflat (l.take k) ++ xcel q (f : Int)).length ≤ 2048) := by
              show _ ≤ _
              rw [List.length_append, xcel_len]; have := hMk.out k; omega
            have eZ : (f : Int) + (q : Int) = ((f + q : Nat) : Int) := by omega
            have hstep : Hid ((xflat (l.take k) ++ xcel q (f : Int)) ++ [((f + q : Nat) : Int)] = xflat (l.take k) ++ xcel (q + 1) (f : Int)) := by
              show _ = _
              rw [List.append_assoc, xcel_succ, eZ]
            obtain ⟨Z, hZd⟩ : ∃ Z, f + q = Z := ⟨_, rfl⟩
            rw [hZd] at eZ hstep
            have hsz := hB.out.size
            have hnew := Lib.hid (zcell_new wr ZT (Z : Int))
            have i2 : (q : Int) < (m : Int) := by omega
            have hZ9 : Z ≤ 2048 := by omega
            clear hZd
            go_wp2_with (at_builtin; refine wpList_append_page rfl (.tmp 25) (.tmp 33) SZT rfl w.heap.size ZT Tryd.underlying44 infoInt _ (xflat (l.take k) ++ xcel q (f : Int)) (by rfl) (hown.out.alloc _) wr.heap.size 1 (Z : Int) (by rfl) hnew.out (by have := hfl.out; omega) (by simp; omega) ?_; intro v' w2 hown2 hgrow2)
            have hb2 : Hid (Below w.heap.size w w2) := (hB.out.alloc hsz _).grown hgrow2.out (by simp; omega) (fun j hj => (hown.out.lt j hj).1)
            have ho2 : Hid (w2.ownsRow w.heap.size ZT 1 v' (xflat (l.take k) ++ xcel (q + 1) (f : Int)).length (iv (xflat (l.take k) ++ xcel (q + 1) (f : Int)))) := by rw [← hstep.out]; exact hown2
            clear hown2 hgrow2 hown hB hstep
            go_wp2
            go_roundw
            case rel => exact ⟨q + 1, v', rfl, by go_num, by omega, ho2, hb2⟩
            case measure => simp [intOf]; omega
          · obtain rfl : q = m := by omega
            have ho2 : Hid (wr.ownsRow w.heap.size ZT 1 v2 (xflat (l.take (k + 1))).length (iv (xflat (l.take (k + 1))))) := by
              show World.ownsRow _ _ _ _ _ _ _
              rw [htk.out, xflat_app]
              have : xflat [(⟨(f : Int), (q : Int)⟩ : Xt)] = xcel q (f : Int) := by simp [xflat]
              rw [this]; exact hown.out
            have i2 : ¬ (q : Int) < (q : Int) := by omega
            clear hown
            go_wp2
            go_roundw
            case rel => exact ⟨k + 1, v2, rfl, by go_num, by omega, ho2, hB⟩
            case measure => simp [intOf]; omega
      · obtain rfl : k = n := by omega
        have ho2 := hown.out
        rw [List.take_of_length_le (by rw [Hn.out]; exact Nat.le_refl _)] at ho2
        have Ho2 := Lib.hid ho2
        clear ho2 hown
        go_wp2
        go_ret
        exact ⟨_, rfl, Ho2.out, hB.out⟩
  · have e1 : xpgs l = [] := by unfold xpgs; rw [if_neg hb]
    rw [e1]
    rw [Bool.eq_false_iff.2 hb] at Hmay
    have hn0 : 0 < n := by
      rcases Nat.eq_zero_or_pos n with h | h
      · exfalso
        obtain rfl : l = [] := List.eq_nil_of_length_eq_zero (by rw [Hn.out]; exact h)
        exact hb (by decide)
      · exact h
    have H1 := Lib.hid (Hmay.out w (Below.refl _ _))
    have i1 : (0 : Int) < (n : Int) := by omega
    clear e1 hb Hmay
    go_enter Tryd.func20, Tryd.ntmps20
    go_wp2_with fail
    go_loopw [3, 4] (fun ov i wr => ov = xnil ∧ i = .int .i64 0 ∧ w = wr) (fun _ i _ => 0)
    case atStart => exact ⟨rfl, rfl, rfl⟩
    case round =>
      obtain ⟨rfl, rfl, rfl⟩ := hrel
      go_wp2_with fail
      refine H1.out.mono ?_
      rintro e w1 ⟨rfl, hb1⟩
      have Hb1 := Lib.hid hb1
      clear hb1 H1
      go_wp2
      go_ret
      exact ⟨_, rfl, World.ownsRow_nil _ _ _ _, Hb1.out⟩
end Go.Proofs.YtcimhcibkbbkdaaDoor
