/-
  The document's Free.
-/
import Derived.Test.YtcimhcibkbbkdaaDoorRefX5
namespace Go.Proofs.YtcimhcibkbbkdaaDoor
open Go Go.RowKit

/-- Those of no stretch, of the first ones. -/
def xunc (l : List Xt) (k : Nat) : List Int := (xcel k 0).filter fun i => !xcovB l i
theorem xunc_yes (l : List Xt) (k : Nat) (h : xcovB l (k : Int) = false) : xunc l (k + 1) = xunc l k ++ [(k : Int)] := by
  unfold xunc
  rw [xcel_succ, List.filter_append, show (0 : Int) + (k : Int) = (k : Int) by omega]
  simp [h]
theorem xunc_no (l : List Xt) (k : Nat) (h : xcovB l (k : Int) = true) : xunc l (k + 1) = xunc l k := by
  unfold xunc
  rw [xcel_succ, List.filter_append, show (0 : Int) + (k : Int) = (k : Int) by omega]
  simp [h]
theorem xunc_len (l : List Xt) (k : Nat) : (xunc l k).length ≤ k := by
  have := List.length_filter_le (fun i => !xcovB l i) (xcel k 0)
  rw [xcel_len] at this; exact this
theorem xunc_in (l : List Xt) (k : Nat) (hk : k ≤ 1024) : ∀ x ∈ xunc l k, 0 ≤ x ∧ x ≤ 1024 := fun x hx => by
  have := (xcel_mem k 0 x).1 (List.mem_filter.1 hx).1; omega
set_option maxRecDepth 100000 in
theorem xfreeR_any (a : Option Addr) (n c : Nat) (l : List Xt) (p : Int) (w : World) (hn : l.length = n) (hs : XS w a l) (hl : n ≤ 9223372036854775807) (hr : ∀ x ∈ l, XOK x) :
    Calls Tryd.prog 13 #[.slice a n c, .int .i64 p] w fun e w' => ∃ u E, e = .returned (.tuple #[u, E]) ∧ E = .int .i64 (xfreE l p) ∧ EV xtE w' u (xfreV l p) ∧ Below w.heap.size w w' := by
  have H1 := Lib.hid (xmarks_any a n c l p w hn hs hl hr)
  clear hn hs hl hr
  by_cases hb : xmayB l p = true
  · have hM := (xmayB_iff _ _).1 hb
    have e1 : xfreE l p = 0 := by unfold xfreE; rw [if_pos hb]
    have e2 : xfreV l p = xofL (xunc l p.toNat) := by unfold xfreV; rw [if_pos hb]; rfl
    rw [e1, e2]
    have hP1 := hM.lo
    have hP2 := hM.hi
    obtain ⟨P, rfl⟩ := Int.eq_ofNat_of_zero_le (show 0 ≤ p by omega)
    rw [Int.toNat_natCast] at H1 ⊢
    have hP : P ≤ 1024 := by omega
    have Hb := Lib.hid hb
    clear e1 e2 hb hM hP1 hP2
    go_enter Tryd.func13, Tryd.ntmps13
    go_wp2_with fail
    refine H1.out.mono ?_
    rintro e w1 ⟨hb1, h⟩
    have Hb1 := Lib.hid hb1
    rcases h with ⟨_, v, rfl, ho⟩ | ⟨h1, _⟩
    · obtain ⟨a2, c2, rfl, hs2, z2, y2, x2⟩ := own_pages ho
      have Hs2 := Lib.hid hs2
      rw [xmrow_len] at y2 ⊢
      clear ho hs2 z2 hb1 H1 Hb
      go_wp2_with fail
      go_loopw [8, 9] (fun ov i wr => ∃ (k : Nat) (v : Value), v = ov ∧ i = .int .i64 k ∧ k ≤ P ∧ Hid (wr.ownsRow w1.heap.size ZT 1 v (xunc l k).length (iv (xunc l k))) ∧ Hid (Below w1.heap.size w1 wr)) (fun _ i _ => P - (intOf i).toNat)
      case atStart => exact ⟨0, xnil, rfl, rfl, by omega, World.ownsRow_nil _ _ _ _, Below.refl _ _⟩
      case round =>
        obtain ⟨k, v, rfl, rfl, hk, hown, hB⟩ := hrel
        by_cases hlt : k < P
        · have i1 : (k : Int) < (P : Int) := by omega
          obtain ⟨g, o, rfl, hcell⟩ := (Hs2.out.below hB.out (Nat.le_refl _)) (by rw [xmrow_len]; omega)
          have q0 := hcell k (by rw [xmrow_len]; exact hlt)
          have hia : ia (xmrow P (xcovB l)) k = if xcovB l (k : Int) = true then 1 else 0 := by
            unfold ia; rw [List.getD_eq_getElem?_getD, xmrow_get _ _ _ hlt]; rfl
          rw [hia] at q0
          clear hcell hia
          cases hc : xcovB l (k : Int) with
          | true =>
            rw [hc, if_pos rfl] at q0
            have hst := Lib.hid (xunc_no l k hc)
            have ho2 : Hid (wr.ownsRow w1.heap.size ZT 1 v (xunc l (k + 1)).length (iv (xunc l (k + 1)))) := by show World.ownsRow _ _ _ _ _ _ _; rw [hst.out]; exact hown.out
            clear hc hown hst
            go_wp2
            go_roundw
            case rel => exact ⟨k + 1, v, rfl, by go_num, by omega, ho2, hB⟩
            case measure => simp [intOf]; omega
          | false =>
            rw [hc, if_neg (by decide)] at q0
            have hst := Lib.hid (xunc_yes l k hc)
            have hfl := Lib.hid (xunc_len l k)
            have hsz := hB.out.size
            have hnew := Lib.hid (zcell_new wr ZT (k : Int))
            clear hc
            go_wp2_with (at_builtin; refine wpList_append_page rfl (.tmp 29) (.tmp 31) SZT rfl w1.heap.size ZT Tryd.underlying44 infoInt _ (xunc l k) (by rfl) (hown.out.alloc _) wr.heap.size 1 (k : Int) (by rfl) hnew.out (by have := hfl.out; omega) (by simp; omega) ?_; intro v' w2 hown2 hgrow2)
            have hb2 : Hid (Below w1.heap.size w1 w2) := (hB.out.alloc hsz _).grown hgrow2.out (by simp; omega) (fun j hj => (hown.out.lt j hj).1)
            have ho2 : Hid (w2.ownsRow w1.heap.size ZT 1 v' (xunc l (k + 1)).length (iv (xunc l (k + 1)))) := by rw [hst.out]; exact hown2
            clear hown2 hgrow2 hown hB hst
            go_wp2
            go_roundw
            case rel => exact ⟨k + 1, v', rfl, by go_num, by omega, ho2, hb2⟩
            case measure => simp [intOf]; omega
        · obtain rfl : k = P := by omega
          have hfl := xunc_len l k
          have hBf : Hid (Below w.heap.size w wr) := Hb1.out.trans (hB.out.mono Hb1.out.size)
          obtain ⟨a3, c3, rfl, hs3, _, _, _⟩ := own_pages hown.out
          have H4 := Lib.hid (xof_any a3 (xunc l k).length c3 (xunc l k) wr rfl hs3 (by omega) (xunc_in l k hP))
          obtain ⟨m, hm⟩ : ∃ m, (xunc l k).length = m := ⟨_, rfl⟩
          rw [hm] at H4 ⊢
          clear hown hB hs3 hm hfl
          go_wp2_with fail
          refine H4.out.mono ?_
          rintro e w3 ⟨u, rfl, ho3, hb3⟩
          have hev := Lib.hid (own_xev ho3)
          have hB3 : Hid (Below w.heap.size w w3) := hBf.out.trans (hb3.mono hBf.out.size)
          clear ho3 hb3 H4 hBf
          go_wp2
          go_ret2
          exact ⟨_, _, rfl, rfl, hev.out, hB3.out⟩
    · rw [Hb.out] at h1; cases h1
  · have e1 : xfreE l p = 1 := by unfold xfreE; rw [if_neg hb]
    have e2 : xfreV l p = [] := by unfold xfreV; rw [if_neg hb]
    rw [e1, e2]
    have Hb := Lib.hid hb
    clear e1 e2 hb
    go_enter Tryd.func13, Tryd.ntmps13
    go_wp2_with fail
    refine H1.out.mono ?_
    rintro e w1 ⟨hb1, h⟩
    have Hb1 := Lib.hid hb1
    rcases h with ⟨h1, _⟩ | ⟨_, rfl⟩
    · exact absurd h1 Hb.out
    · clear hb1 H1 Hb
      go_wp2
      go_ret2
      exact ⟨_, _, rfl, rfl, EV.none _, Hb1.out⟩
end Go.Proofs.YtcimhcibkbbkdaaDoor
