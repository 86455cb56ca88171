/-
  shape's nodes: how many leaves and branches there are from a node on downwards.
  shape's Of. Written by mkshof.py.
-/
import Derived.Test.YtbgkjniagedcnaaGreatDoorCloneZ
import Derived.Test.YtbgkjniagedcnaaGreatDoorChainMathZ
import Derived.Test.YtbgkjniagedcnaaGreatDoorChCountZ
import Derived.Test.YtbgkjniagedcnaaGreatDoorGathZ
import Derived.Test.YtbgkjniagedcnaaGreatDoorRootZ
import Derived.Test.YtbgkjniagedcnaaGreatDoorGsZ
import Derived.Test.YtbgkjniagedcnaaGreatDoorTurnZ
namespace Go.Proofs.YtbgkjniagedcnaaGreatDoor
open Go Go.RowKit

def NodesP (w : World) (h : Nat) (es : List En) (s : Nat) (e : Ending) (w' : World) : Prop :=
  ∃ L B : Nat, e = .returned (.tuple #[.int .i64 L, .int .i64 B]) ∧ CG h es s L B ∧ Below w.heap.size w w'
set_option maxRecDepth 100000 in
theorem nodes_leaf {lo hi : SB} (v : NoV) (es : List En) (s : Nat) (w : World) (hn : NdV w 0 lo hi v es s) : Calls Tryz.prog 30 #[v.v] w fun e w' => NodesP w 0 es s e w' := by
  obtain ⟨W, hW, hV, hb⟩ := NV.of w v
  have Hl := Lib.hid (nleaf_yes W (hn.ext hb))
  have q0 := hV.c0
  have q1 := hV.c1
  have q2 := hV.c2
  have q3 := hV.c3
  have Hs := Lib.hid hn.2.2.2.2
  rw [← hW] at q0 q1 q2 q3
  have HW := Lib.hid hW
  have HB := Lib.hid hb
  clear hW hV hb hn
  obtain ⟨pg, ca, cn, cc, ka, kn, kc, pa, pn, pc⟩ := v
  dsimp only [NoV.c, NoV.k, NoV.p, NoV.v] at *
  go_enter Tryz.func30, Tryz.ntmps30
  go_wp2_with fail
  rw [HW.out]
  refine Hl.out.mono ?_
  rintro e w1 ⟨rfl, hb1⟩
  have HB1 := Lib.hid (HB.out.trans (hb1.mono HB.out.size))
  clear hb1 q0 q1 q2 q3
  go_wp2
  go_ret2
  exact ⟨1, 0, rfl, ⟨fun _ => ⟨rfl, rfl, Hs.out⟩, fun h => by omega⟩, HB1.out⟩
set_option maxRecDepth 100000 in
theorem nodes_bran {h : Nat} {lo hi : SB} (v : NoV) (es : List En) (s : Nat) (w : World) (hn : NdV w (h + 1) lo hi v es s) (hl : es.length ≤ 100000) (hs : s ≤ 100000)
    (ih : ∀ (lo hi : SB) (v : NoV) (es : List En) (s : Nat) (w : World), NdV w h lo hi v es s → es.length ≤ 100000 → s ≤ 100000 → Calls Tryz.prog 30 #[v.v] w fun e w' => NodesP w h es s e w') :
    Calls Tryz.prog 30 #[v.v] w fun e w' => NodesP w (h + 1) es s e w' := by
  obtain ⟨W, hW, hV, hb⟩ := NV.of w v
  have Hlf := Lib.hid (nleaf_no W (hn.ext hb))
  obtain ⟨ks, ps, ess, ⟨h1, h2, h3⟩, hr, rfl, rfl⟩ := hn
  have hok := (hr.facts Good.facts).2.2.2
  have hgk := kss_range hok
  have hkl : ks.length ≤ 100000 := by unfold brSz at hs; omega
  have q0 := hV.c0
  have q1 := hV.c1
  have q2 := hV.c2
  have q3 := hV.c3
  rw [← hW] at q0 q1 q2 q3
  have Hkd : Hid (∀ w', Below W.heap.size W w' → Calls Tryz.prog 49 #[v.v] w' fun e w'' => ∃ u vs, e = .returned u ∧ EV nodE w'' u vs ∧ KidsV w'' h ks lo hi vs ess ∧ Below w'.heap.size w' w'') := fun w' hb' =>
    nkids_any v ks ps ess w' ((h3.ext hb).ext hb') ((hr.mono (fun _ _ _ _ h5 => h5.ext hb)).mono (fun _ _ _ _ h5 => h5.ext hb')) hkl
  have Hsz : Hid (brSz ks ≤ 2 + 43 * ks.length ∧ (ks.length = 0 → brSz ks = 2)) := by
    refine ⟨by unfold brSz; omega, fun h0 => ?_⟩
    unfold brSz; omega
  have HV := Lib.hid hV
  have HW := Lib.hid hW
  have HB := Lib.hid hb
  have Hih := Lib.hid ih
  have Hl := Lib.hid hl
  have Hkl := Lib.hid hkl
  clear hW hV hb h1 h2 h3 hr hok hgk hkl ih hl hs
  obtain ⟨pg, ca, cn, cc, ka, kn, kc, pa, pn, pc⟩ := v
  dsimp only [NoV.c, NoV.k, NoV.p, NoV.v] at *
  go_enter Tryz.func30, Tryz.ntmps30
  go_wp2_with fail
  rw [HW.out]
  refine Hlf.out.mono ?_
  rintro e w1 ⟨rfl, hb1⟩
  have HB1 := Lib.hid (HB.out.trans (hb1.mono HB.out.size))
  have hV1 := HV.out.ext hb1
  have Hkd1 := Lib.hid (Hkd.out w1 hb1)
  clear q0 q1 q2 q3 Hlf Hkd hb1
  have q0 := hV1.c0
  have q1 := hV1.c1
  have q2 := hV1.c2
  have q3 := hV1.c3
  clear hV1
  go_wp2_with fail
  refine Hkd1.out.mono ?_
  rintro e w2 ⟨u, vs, rfl, hu, hk, hb2⟩
  have HB2 := Lib.hid (HB1.out.trans (hb2.mono HB1.out.size))
  obtain ⟨a, c, rfl, hus, _⟩ := hu
  have Hus := Lib.hid hus
  have HK := Lib.hid hk
  have Hn : Hid (vs.length = ks.length + 1) := hk.1
  obtain ⟨n, hn⟩ : ∃ n, vs.length = n := ⟨_, rfl⟩
  have HN := Lib.hid hn
  have hn9 : n ≤ 100001 := by rw [← hn, Hn.out]; have := Hkl.out; omega
  rw [hn]
  clear Hkd1 hus hk hb2 hn q0 q1 q2 q3
  go_wp2_with fail
  go_loopw [4, 5, 7, 8, 9, 15] (fun L B _ _ _ i wr => ∃ k Lk Bk : Nat, L = .int .i64 Lk ∧ B = .int .i64 ((Bk + 1 : Nat) : Int) ∧ i = .int .i64 k ∧ k ≤ n ∧ Bk ≤ Lk ∧ Lk ≤ 100000 ∧ Hid (3 * Bk + k ≤ Lk ∧ (1 ≤ k → h ≤ Bk) ∧ Lk ≤ (ess.take k).flatten.length ∧ 125 * Lk ≤ szs (ess.take k).flatten) ∧ Hid (Below w2.heap.size w2 wr)) (fun _ _ _ _ _ i _ => n - (intOf i).toNat)
  case atStart => exact ⟨0, 0, 0, rfl, rfl, rfl, by omega, by omega, by omega, ⟨by omega, fun h => by omega, by omega, by omega⟩, Below.refl _ _⟩
  case round =>
    obtain ⟨k, Lk, Bk, rfl, rfl, rfl, hk, hBL, hL9, hI, hB⟩ := hrel
    by_cases hlt : k < n
    · obtain ⟨g, o, rfl, hcell⟩ := (Hus.out.below hB.out (Nat.le_refl _)).nods (by rw [HN.out]; omega)
      obtain ⟨p0, p1, p2, p3⟩ := hcell k (by rw [HN.out]; exact hlt)
      obtain ⟨sk, hk1, hk2, hk3⟩ := (HK.out.2.2 k (by rw [HN.out]; exact hlt)).ext hB.out
      have het := ess_take (ess := ess) (i := k) (by rw [HK.out.2.1, ← Hn.out, HN.out]; exact hlt)
      have hsum : (ess.take (k + 1)).flatten.length ≤ ess.flatten.length := by
        conv => rhs; rw [← List.take_append_drop (k + 1) ess, List.flatten_append, List.length_append]
        omega
      have hlk : (ess.getD k []).length ≤ 100000 := by rw [het, List.length_append] at hsum; have := Hl.out; omega
      have hmo := hk1.facts.2.2
      have hok : ∀ x ∈ ess.getD k [], okE x := fun x hx => (hmo x hx).1
      have Hok := Lib.hid hok
      have hsz := hB.out.size
      have hal : Below wr.heap.size wr (wr.alloc (.cells #[.int .i64 ((va vs k).pg : Nat), (va vs k).c, (va vs k).k, (va vs k).p] VT)) := (Below.refl _ _).alloc (Nat.le_refl _) _
      have Hcall := Lib.hid (Hih.out _ _ (va vs k) (ess.getD k []) sk _ (hk1.ext hal) hlk (by omega))
      have HBa : Hid (Below w2.heap.size w2 (wr.alloc (.cells #[.int .i64 ((va vs k).pg : Nat), (va vs k).c, (va vs k).k, (va vs k).p] VT))) := hB.out.trans (hal.mono hsz)
      have Hsk : Hid (126 ≤ sk) := hk2
      have Het : Hid ((ess.take (k + 1)).flatten.length = (ess.take k).flatten.length + (ess.getD k []).length ∧ szs (ess.take (k + 1)).flatten = szs (ess.take k).flatten + szs (ess.getD k []) ∧ (ess.take (k + 1)).flatten.length ≤ 100000) := ⟨by rw [het, List.length_append], by rw [het, szs_app], by have := Hl.out; omega⟩
      generalize va vs k = x at *
      obtain ⟨xg, xa, xn, xc, ya, yn, yc, za, zn, zc⟩ := x
      dsimp only [NoV.c, NoV.k, NoV.p, NoV.v] at *
      clear hcell hk1 hk2 hk3 het hsum hlk hmo hok hsz hal hB
      go_wp2_with fail
      refine Hcall.out.mono ?_
      rintro e w3 ⟨L1, B1, rfl, hcg, hb3⟩
      have hck := hcg.kid Hok.out Hsk.out
      have HB3 := Lib.hid (HBa.out.trans (hb3.mono HBa.out.size))
      have e1 : Hid (3 * (Bk + B1) + (k + 1) ≤ Lk + L1 ∧ (1 ≤ k + 1 → h ≤ Bk + B1) ∧ Lk + L1 ≤ (ess.take (k + 1)).flatten.length ∧ 125 * (Lk + L1) ≤ szs (ess.take (k + 1)).flatten) := by
        obtain ⟨i1, i2, i3, i4⟩ := hI.out
        obtain ⟨j1, j2, j3, j4⟩ := hck
        obtain ⟨t1, t2, _⟩ := Het.out
        exact ⟨by omega, fun _ => by omega, by omega, by omega⟩
      have hb9 : Bk + B1 ≤ Lk + L1 := by have := hck.1; omega
      have hl9 : Lk + L1 ≤ 100000 := by have := e1.out.2.2.1; have := Het.out.2.2; omega
      clear hb3 hcg hck Hcall HBa p0 p1 p2 p3 hI Het
      go_wp2_with fail
      go_roundw
      case rel => exact ⟨k + 1, Lk + L1, Bk + B1, by go_num, by go_num, by go_num, by omega, hb9, hl9, e1, HB3⟩
      case measure => simp [intOf]; omega
    · obtain rfl : k = n := by omega
      have HBf := Lib.hid (HB2.out.trans (hB.out.mono HB2.out.size))
      have e1 : Hid (CG (h + 1) ess.flatten (brSz ks) Lk (Bk + 1)) := by
        obtain ⟨i1, i2, i3, i4⟩ := hI.out
        have hnk : k = ks.length + 1 := by rw [← HN.out, Hn.out]
        rw [List.take_of_length_le (by rw [HK.out.2.1]; omega)] at i3 i4
        exact ⟨fun h0 => by omega, fun _ => ⟨ks.length, Hsz.out.1, Hsz.out.2, by omega, by have := i2 (by omega); omega, i3, i4⟩⟩
      clear hB hI
      go_wp2
      go_ret2
      exact ⟨Lk, Bk + 1, by go_num, e1.out, HBf.out⟩
theorem nodes_any : ∀ (h : Nat) (lo hi : SB) (v : NoV) (es : List En) (s : Nat) (w : World), NdV w h lo hi v es s → es.length ≤ 100000 → s ≤ 100000 → Calls Tryz.prog 30 #[v.v] w fun e w' => NodesP w h es s e w'
  | 0, _, _, v, es, s, w, hn, _, _ => nodes_leaf v es s w hn
  | h + 1, _, _, v, es, s, w, hn, hl, hs => nodes_bran v es s w hn hl hs (nodes_any h)
end Go.Proofs.YtbgkjniagedcnaaGreatDoor
namespace Go.Proofs.YtbgkjniagedcnaaGreatDoor
open Go Go.RowKit

abbrev FAT : TypeId := 42
/-- A block that holds facts. -/
def FB (w : World) (b : Nat) (x0 x1 x2 x3 x4 x5 : Int) : Prop := w.heap[b]? = some (.cells #[.int .i64 x0, .int .i64 x1, .int .i64 x2, .int .i64 x3, .int .i64 x4, .int .i64 x5] FAT (0, 0))
section
variable {w : World} {b : Nat} {x0 x1 x2 x3 x4 x5 : Int}
theorem FB.c0 (h : FB w b x0 x1 x2 x3 x4 x5) : w.cell? ⟨b, 0, none⟩ = some (.int .i64 x0) := by
  have h' : w.heap[b]? = _ := h
  simp [World.cell?, h']
theorem FB.c1 (h : FB w b x0 x1 x2 x3 x4 x5) : w.cell? ⟨b, 1, none⟩ = some (.int .i64 x1) := by
  have h' : w.heap[b]? = _ := h
  simp [World.cell?, h']
theorem FB.c2 (h : FB w b x0 x1 x2 x3 x4 x5) : w.cell? ⟨b, 2, none⟩ = some (.int .i64 x2) := by
  have h' : w.heap[b]? = _ := h
  simp [World.cell?, h']
theorem FB.c3 (h : FB w b x0 x1 x2 x3 x4 x5) : w.cell? ⟨b, 3, none⟩ = some (.int .i64 x3) := by
  have h' : w.heap[b]? = _ := h
  simp [World.cell?, h']
theorem FB.c4 (h : FB w b x0 x1 x2 x3 x4 x5) : w.cell? ⟨b, 4, none⟩ = some (.int .i64 x4) := by
  have h' : w.heap[b]? = _ := h
  simp [World.cell?, h']
theorem FB.c5 (h : FB w b x0 x1 x2 x3 x4 x5) : w.cell? ⟨b, 5, none⟩ = some (.int .i64 x5) := by
  have h' : w.heap[b]? = _ := h
  simp [World.cell?, h']
theorem FB.fz (h : FB w b x0 x1 x2 x3 x4 x5) (j : Nat) : w.frozen? ⟨b, j, none⟩ = false := by
  have h' : w.heap[b]? = _ := h
  simp [World.frozen?, h']
theorem FB.lt (h : FB w b x0 x1 x2 x3 x4 x5) : b < w.heap.size := (Array.getElem?_eq_some_iff.1 h).1
theorem FB.ext {w' : World} (h : FB w b x0 x1 x2 x3 x4 x5) (hb : Below w.heap.size w w') : FB w' b x0 x1 x2 x3 x4 x5 := (hb.block b h.lt).trans h
theorem FB.new (w : World) (x0 x1 x2 x3 x4 x5 : Int) : FB (w.alloc (.cells #[.int .i64 x0, .int .i64 x1, .int .i64 x2, .int .i64 x3, .int .i64 x4, .int .i64 x5] FAT)) w.heap.size x0 x1 x2 x3 x4 x5 := heap_new w FAT _
theorem FB.all (h : FB w b x0 x1 x2 x3 x4 x5) (y0 y1 y2 y3 y4 y5 : Int) : FB ((((((w.setCell ⟨b, 0, none⟩ (.int .i64 y0)).setCell ⟨b, 1, none⟩ (.int .i64 y1)).setCell ⟨b, 2, none⟩ (.int .i64 y2)).setCell ⟨b, 3, none⟩ (.int .i64 y3)).setCell ⟨b, 4, none⟩ (.int .i64 y4)).setCell ⟨b, 5, none⟩ (.int .i64 y5)) b y0 y1 y2 y3 y4 y5 :=
  heap_setCell_same _ b 5 _ _ _ (heap_setCell_same _ b 4 _ _ _ (heap_setCell_same _ b 3 _ _ _ (heap_setCell_same _ b 2 _ _ _ (heap_setCell_same _ b 1 _ _ _ (heap_setCell_same w b 0 _ _ _ h)))))
theorem FB.put54 (h : FB w b x0 x1 x2 x3 x4 x5) (y5 y4 : Int) : FB ((w.setCell ⟨b, 5, none⟩ (.int .i64 y5)).setCell ⟨b, 4, none⟩ (.int .i64 y4)) b x0 x1 x2 x3 y4 y5 :=
  heap_setCell_same _ b 4 _ _ _ (heap_setCell_same w b 5 _ _ _ h)
theorem FB.put23 (h : FB w b x0 x1 x2 x3 x4 x5) (y2 y3 : Int) : FB ((w.setCell ⟨b, 2, none⟩ (.int .i64 y2)).setCell ⟨b, 3, none⟩ (.int .i64 y3)) b x0 x1 y2 y3 x4 x5 :=
  heap_setCell_same _ b 3 _ _ _ (heap_setCell_same w b 2 _ _ _ h)
theorem FB.other {g j : Nat} {v : Value} (h : FB w b x0 x1 x2 x3 x4 x5) (hne : g ≠ b) : FB (w.setCell ⟨g, j, none⟩ v) b x0 x1 x2 x3 x4 x5 := by
  unfold FB; rw [heap_setCell_other _ _ _ _ (fun e => hne e.symm)]; exact h
end
theorem TB.other {w : World} {b g j : Nat} {p : Option Addr} {n : Int} {v : Value} (h : TB w b p n) (hne : g ≠ b) : TB (w.setCell ⟨g, j, none⟩ v) b p n := by
  unfold TB; rw [heap_setCell_other _ _ _ _ (fun e => hne e.symm)]; exact h
theorem below_set {B b j : Nat} {w w' : World} {v : Value} (h : Below B w w') (hb : B ≤ b) : Below B w (w'.setCell ⟨b, j, none⟩ v) := h.setCell hb _
theorem below_all {B b : Nat} {w w' : World} {y0 y1 y2 y3 y4 y5 : Value} (h : Below B w w') (hb : B ≤ b) : Below B w ((((((w'.setCell ⟨b, 0, none⟩ y0).setCell ⟨b, 1, none⟩ y1).setCell ⟨b, 2, none⟩ y2).setCell ⟨b, 3, none⟩ y3).setCell ⟨b, 4, none⟩ y4).setCell ⟨b, 5, none⟩ y5) :=
  below_set (below_set (below_set (below_set (below_set (below_set h hb) hb) hb) hb) hb) hb
theorem TreeP.high {w : World} {p : Option Addr} {es : List En} {H : Nat} (h : TreeP w p es H) : H ≤ es.length + 1 := by
  obtain ⟨es, rfl, h⟩ := h
  rw [bare_len]
  rcases h with ⟨_, rfl, rfl⟩ | ⟨b, h, s, h1, hn, h3, h4, h5, rfl⟩
  · simp
  · cases h with
    | zero => omega
    | succ h =>
      obtain ⟨ks, ps, ess, _, h2, h6, _⟩ := hn
      have h7 := KRow.count (m := 2 * 4 ^ h) (fun lo hi p e hg => Good.count h lo hi p e hg) h2
      have h8 : h < 4 ^ h := Nat.lt_pow_self (by omega)
      have h9 : 2 * 4 ^ h * 1 ≤ 2 * 4 ^ h * (ks.length + 1) := Nat.mul_le_mul_left _ (by omega)
      rw [h6]; omega
theorem szs_bare15 : ∀ (es : List En), szs (bare es) = szs es
  | [] => rfl
  | e :: r => by
    have h := szs_bare15 r
    show szs (e.bare :: bare r) = szs (e :: r)
    unfold szs at h ⊢
    simp only [List.map_cons, List.sum_cons, h]; rfl
theorem CG.bare {h : Nat} {es : List En} {s L B : Nat} (hc : CG h es s L B) : CG h (Go.Proofs.YtbgkjniagedcnaaGreatDoor.bare es) s L B := by
  unfold CG at hc ⊢
  rw [szs_bare15, bare_len, show leafSz (Go.Proofs.YtbgkjniagedcnaaGreatDoor.bare es) = leafSz es by unfold leafSz; rw [szs_bare15, bare_len]]
  exact hc
/-- What Of answers. -/
def OfP (w : World) (es : List En) (H : Nat) (e : Ending) (w' : World) : Prop :=
  ∃ L B : Nat, e = .returned (.agg #[.int .i64 (es.length : Nat), .int .i64 (H : Nat), .int .i64 (L : Nat), .int .i64 (B : Nat), .int .i64 (pgs es : Nat), .int .i64 (szs es : Nat)]) ∧ CT0 H es L B ∧ Below w.heap.size w w'
set_option maxHeartbeats 4000000 in
set_option maxRecDepth 100000 in
theorem shOf_any (p : Option Addr) (es : List En) (H : Nat) (w : World) (ht : TreeP w p es H) (hl : es.length ≤ 4096) :
    Calls Tryz.prog 11 #[.agg #[.pointer p, .int .i64 es.length]] w fun e w' => OfP w es H e w' := by
  have hHi := ht.high
  have hok := ht.facts.2
  obtain ⟨W, hW, hT, hR, hbW, hsW⟩ : ∃ W, ((w.alloc (.cells #[.pointer p, .int .i64 es.length] TT)).alloc (.cells #[.int .i64 0, .int .i64 0, .int .i64 0, .int .i64 0, .int .i64 0, .int .i64 0] FAT)).drew = W ∧ TB W w.heap.size p es.length ∧ FB W (w.heap.size + 1) 0 0 0 0 0 0 ∧ Below w.heap.size w W ∧ W.heap.size = w.heap.size + 2 := by
    refine ⟨_, rfl, ?_, ?_, ?_, by simp⟩
    · have h1 : TB (w.alloc (.cells #[.pointer p, .int .i64 es.length] TT)) w.heap.size p es.length := heap_new w TT _
      exact (h1.ext ((Below.refl _ _).alloc (Nat.le_refl _) _)).ext (Below.refl _ _).drew
    · have h1 := FB.new (w.alloc (.cells #[.pointer p, .int .i64 es.length] TT)) 0 0 0 0 0 0
      rw [show (w.alloc (.cells #[.pointer p, .int .i64 es.length] TT)).heap.size = w.heap.size + 1 by simp] at h1
      exact h1.ext (Below.refl _ _).drew
    · exact (((Below.refl w.heap.size w).alloc (Nat.le_refl _) _).alloc (by simp) _).drew
  obtain ⟨G, hG⟩ : ∃ G, W.heap.size = G := ⟨_, rfl⟩
  have HGs : Hid (G = w.heap.size + 2) := by show _ = _; rw [← hG, hsW]
  have HG := Lib.hid hG
  have ta : ∀ w', Turn (fun i => G ≤ i) W w' → TB w' w.heap.size p es.length := fun w' t => t.hg hT (by omega)
  have tr : ∀ w', Turn (fun i => G ≤ i) W w' → FB w' (w.heap.size + 1) 0 0 0 0 0 0 := fun w' t => t.hg hR (by omega)
  have Hta := Lib.hid ta
  have Htr := Lib.hid tr
  have a0 := fun w' t => (ta w' t).c0
  have a1 := fun w' t => (ta w' t).c1
  have HW := Lib.hid hW
  have Hbw := Lib.hid hbW
  have Htree : Hid (∀ w', Turn (fun i => G ≤ i) W w' → TreeP w' p es H) := fun w' t => ht.ext (hbW.trans (t.below (by omega) (fun i hi => by omega)))
  have Hok := Lib.hid hok
  have Hsz : Hid (szs es ≤ 434176 ∧ pgs es ≤ 20480) := by
    have h1 := (szs_range hok).2
    have h2 := pgs_le hok
    exact ⟨by omega, by omega⟩
  obtain ⟨n, hn⟩ : ∃ n, es.length = n := ⟨_, rfl⟩
  have HN := Lib.hid hn
  have Hlen := Lib.hid (fun x => len_any p (n : Int) x)
  have Hhei : Hid (∀ x, Turn (fun i => G ≤ i) W x → Calls Tryz.prog 13 #[.agg #[.pointer p, .int .i64 (n : Int)]] x fun e w' => e = .returned (.int .i64 (H : Nat)) ∧ Below x.heap.size x w') := fun x t => height_any p n es H x (Htree.out x t) (by omega)
  have hH9 : H ≤ 5000 := by omega
  rw [hn] at HW a1 ⊢
  rw [hn] at hl
  clear hW hT hR hbW hsW hG ta tr ht hok hHi hn
  go_enter Tryz.func11, Tryz.ntmps11
  go_wp2_with fail
  refine wp_region_gs (F := fun i => G ≤ i) (.rd 0 (.rd 2 (.two 1 (.two 3 (.rd 4 (.call 5 (.call 6 .done))) 5 (.call 3 (.rd 4 (.call 6 .done)))) 5 (.call 1 (.call 3 (.rd 4 (.call 6 .done))))))) (by kernel_rfl) (by kernel_rfl) (by kernel_rfl) (by kernel_rfl) (fun _ _ _ _ _ h => h) ?_
  rw [HW.out]
  iterate 2 (refine wpGs_read (o := ⟨_, _, _, _, _, _⟩) (v := ?_) rfl (by rfl) ?_ ?_; rotate_left; (intro w' hw'; go_simp; with_reducible rfl); simp only [Act.put, List.setIfInBounds_toArray, List.set_cons_zero, List.set_cons_succ])
  clear a0 a1
  have T0 : Hid (Turn (fun i => G ≤ i) W W) := Turn.refl _ _
  refine ⟨?_, ?_⟩
  · refine stepS_call (o := ⟨_, _, _, _, _, _⟩) rfl (by rfl) (fun K hK => ?_)
    go_simp
    refine (Hlen.out W).mono ?_
    rintro e w1 ⟨rfl, hb⟩
    refine hK _ _ (Turn.ofBelow hb) ?_
    clear hK K
    have T1 : Hid (Turn (fun i => G ≤ i) W w1) := T0.out.trans (Turn.ofBelow hb)
    clear hb
    refine ⟨?_, ?_⟩
    · refine stepS_call (o := ⟨_, _, _, _, _, _⟩) rfl (by rfl) (fun K hK => ?_)
      go_simp
      refine (Hhei.out w1 T1.out).mono ?_
      rintro e w2 ⟨rfl, hb⟩
      refine hK _ _ (Turn.ofBelow hb) ?_
      clear hK K
      have T2 : Hid (Turn (fun i => G ≤ i) W w2) := T1.out.trans (Turn.ofBelow hb)
      clear hb
      (refine wpGs_read (o := ⟨_, _, _, _, _, _⟩) (v := ?_) rfl (by rfl) ?_ ?_; rotate_left; (intro w' hw'; go_simp; with_reducible rfl); simp only [Act.put, List.setIfInBounds_toArray, List.set_cons_zero, List.set_cons_succ])
      refine stepS_call (o := ⟨_, _, _, _, _, _⟩) rfl (by rfl) (fun K hK => ?_)
      go_simp
      refine hK _ _ ((Turn.refl _ _).alloc _) ?_
      clear hK K
      obtain ⟨w3, hy⟩ : ∃ y, y = w2.alloc (.cells #[.int .i64 0, .int .i64 0, .int .i64 0, .int .i64 0, .int .i64 0, .int .i64 0] FAT) := ⟨_, rfl⟩
      have Nf : Hid (FB w3 w2.heap.size 0 0 0 0 0 0) := by rw [hy]; exact FB.new _ 0 0 0 0 0 0
      have T3 : Hid (Turn (fun i => G ≤ i) W w3) := by rw [hy]; exact T2.out.alloc _
      have Gb : Hid (G ≤ w2.heap.size) := Nat.le_trans (Nat.le_of_eq HG.out.symm) T2.out.size
      rw [← hy]
      clear hy
      obtain ⟨bf, hbf⟩ : ∃ b, b = w2.heap.size := ⟨_, rfl⟩
      rw [← hbf] at Nf Gb ⊢
      clear hbf
      have f0 := Nf.out.fz 0
      have f1 := Nf.out.fz 1
      have f2 := Nf.out.fz 2
      have f3 := Nf.out.fz 3
      have f4 := Nf.out.fz 4
      have f5 := Nf.out.fz 5
      have g0 := Nf.out.c0
      have g1 := Nf.out.c1
      have g2 := Nf.out.c2
      have g3 := Nf.out.c3
      have g4 := Nf.out.c4
      have g5 := Nf.out.c5
      refine stepS_call (o := ⟨_, _, _, _, _, _⟩) rfl (by rfl) (fun K hK => ?_)
      go_simp
      have hst := below_all (B := G) (b := bf) (y0 := .int .i64 (n : Int)) (y1 := .int .i64 (H : Int)) (y2 := .int .i64 0) (y3 := .int .i64 0) (y4 := .int .i64 0) (y5 := .int .i64 0) (Below.refl G w3) Gb.out
      have hst2 : Turn (fun i => G ≤ i) w3 (((((((w3).setCell ⟨bf, 0, none⟩ (.int .i64 (n : Int))).setCell ⟨bf, 1, none⟩ (.int .i64 (H : Int))).setCell ⟨bf, 2, none⟩ (.int .i64 0)).setCell ⟨bf, 3, none⟩ (.int .i64 0)).setCell ⟨bf, 4, none⟩ (.int .i64 0)).setCell ⟨bf, 5, none⟩ (.int .i64 0)) := ⟨hst.os, hst.tape, hst.output, hst.size, fun i hi hG => hst.block i (by omega)⟩
      refine hK _ _ hst2 ?_
      clear hK K
      have Nf2 := Nf.out.all (n : Int) (H : Int) 0 0 0 0
      have T9 := T3.out.trans hst2
      clear f0 f1 f2 f3 f4 f5 g0 g1 g2 g3 g4 g5 hst hst2
      generalize (((((((w3).setCell ⟨bf, 0, none⟩ (.int .i64 (n : Int))).setCell ⟨bf, 1, none⟩ (.int .i64 (H : Int))).setCell ⟨bf, 2, none⟩ (.int .i64 0)).setCell ⟨bf, 3, none⟩ (.int .i64 0)).setCell ⟨bf, 4, none⟩ (.int .i64 0)).setCell ⟨bf, 5, none⟩ (.int .i64 0)) = Y at *
      replace Nf := Lib.hid Nf2
      have TY := Lib.hid T9
      clear Nf2 T9
      refine wpGs_done ?_
      have t0 := (Hta.out Y TY.out)
      have a0 := t0.c0
      have a1 := t0.c1
      rw [HN.out] at a1
      have Hall := Lib.hid (all_any p es H Y (Htree.out Y TY.out) (by rw [HN.out]; omega))
      rw [HN.out] at Hall
      clear t0
      go_wp2_with fail
      refine Hall.out.mono ?_
      rintro e w4 ⟨v4, rfl, hv4, hb4⟩
      obtain ⟨a4, c4, rfl, hs4, _⟩ := hv4
      have Htk := Lib.hid (taken_any a4 n c4 es w4 HN.out hs4 Hok.out (by omega))
      have T4 : Hid (Turn (fun i => G ≤ i) W w4) := TY.out.trans (Turn.ofBelow hb4)
      replace Nf : Hid (FB w4 bf (n : Int) (H : Int) 0 0 0 0) := Nf.out.ext hb4
      rw [HN.out]
      clear hb4 hs4 Hall TY a0 a1
      go_wp2_with fail
      refine Htk.out.mono ?_
      rintro e w5 ⟨rfl, hb5⟩
      have T5 : Hid (Turn (fun i => G ≤ i) W w5) := T4.out.trans (Turn.ofBelow hb5)
      replace Nf : Hid (FB w5 bf (n : Int) (H : Int) 0 0 0 0) := Nf.out.ext hb5
      clear hb5 Htk T4
      have hS9 := Hsz.out.1
      have hP9 := Hsz.out.2
      obtain ⟨S, hS⟩ : ∃ S, szs es = S := ⟨_, rfl⟩
      obtain ⟨P, hP⟩ : ∃ P, pgs es = P := ⟨_, rfl⟩
      rw [hS] at hS9 ⊢
      rw [hP] at hP9 ⊢
      have HSP := Lib.hid (And.intro hS hP)
      clear hS hP
      have f5 := Nf.out.fz 5
      have f4 := Nf.out.fz 4
      have g5 := Nf.out.c5
      have g4 := Nf.out.c4
      have hst := below_set (B := G) (b := bf) (j := 4) (v := .int .i64 (P : Int)) (below_set (B := G) (b := bf) (j := 5) (v := .int .i64 (S : Int)) (Below.refl G w5) Gb.out) Gb.out
      have T6 : Hid (Turn (fun i => G ≤ i) W ((w5.setCell ⟨bf, 5, none⟩ (.int .i64 (S : Int))).setCell ⟨bf, 4, none⟩ (.int .i64 (P : Int)))) := T5.out.trans ⟨hst.os, hst.tape, hst.output, hst.size, fun i hi hG => hst.block i (by omega)⟩
      have Nf6 := Lib.hid (Nf.out.put54 (S : Int) (P : Int))
      have t0 := Hta.out _ T6.out
      have a0 := t0.c0
      have a1 := t0.c1
      have t5 := Hta.out _ T5.out
      have b0 := t5.c0
      have b1 := t5.c1
      rw [HN.out] at a1 b1
      have hne1 : ¬ w.heap.size = bf := by have := Gb.out; have := HGs.out; omega
      have hne2 : ¬ bf = w.heap.size := by have := Gb.out; have := HGs.out; omega
      have Htr6 := Lib.hid (Htree.out _ T6.out)
      have HW6 : Hid (∃ Z, (w5.setCell ⟨bf, 5, none⟩ (.int .i64 (S : Int))).setCell ⟨bf, 4, none⟩ (.int .i64 (P : Int)) = Z) := ⟨_, rfl⟩
      clear hst t0 T5 t5
      obtain ⟨Z, hZ⟩ := HW6.out
      rw [hZ] at T6 Nf6 Htr6
      have HZ := Lib.hid hZ
      clear hZ HW6
      obtain ⟨es', hbare, ht6⟩ := Htr6.out
      have Hbare := Lib.hid hbare
      rcases ht6 with ⟨hp, he0, hH⟩ | ⟨b, h, s, hp, hnd, hs5, hs3, hne0, hH⟩
      · have he : es = [] := by rw [Hbare.out, he0]; rfl
        clear hbare he0
        have Hc := Lib.hid (root_nil (n : Int) Z)
        rw [hp] at a0 b0
        have HC := Lib.hid (And.intro hp (And.intro he hH))
        clear hp he hH Htr6
        go_wp2_with fail
        rw [HZ.out, HC.out.1]
        refine Hc.out.mono ?_
        rintro e w7 ⟨rfl, hb7⟩
        have T7 : Hid (Turn (fun i => G ≤ i) W w7) := T6.out.trans (Turn.ofBelow hb7)
        have Nf7 := Nf6.out.ext hb7
        have hal : Below w7.heap.size w7 (w7.alloc (.cells #[.int .i64 0, nilS, nilS, nilS] VT)) := (Below.refl _ _).alloc (Nat.le_refl _) _
        have Nf8 := Nf7.ext hal
        have R8 := Htr.out _ (T7.out.trans (Turn.ofBelow hal))
        have c0 := Nf8.c0
        have c1 := Nf8.c1
        have c2 := Nf8.c2
        have c3 := Nf8.c3
        have c4 := Nf8.c4
        have c5 := Nf8.c5
        have f0 := R8.fz 0
        have f1 := R8.fz 1
        have f2 := R8.fz 2
        have f3 := R8.fz 3
        have f4 := R8.fz 4
        have f5 := R8.fz 5
        have r0 := R8.c0
        have r1 := R8.c1
        have r2 := R8.c2
        have r3 := R8.c3
        have r4 := R8.c4
        have r5 := R8.c5
        have R9 := Lib.hid (R8.all (n : Int) (H : Int) 0 0 (P : Int) (S : Int))
        have HB : Hid (∀ x, Below (w.heap.size) w x → Below w.heap.size w x) := fun _ h => h
        have hbz : Below w.heap.size w (w7.alloc (.cells #[.int .i64 0, nilS, nilS, nilS] VT)) := (Hbw.out.trans ((T7.out.trans (Turn.ofBelow hal)).below (by have := HGs.out; have := HG.out; omega) (fun i hi => by have := HGs.out; omega)))
        have Hfin := Lib.hid (below_all (b := w.heap.size + 1) (y0 := .int .i64 (n : Int)) (y1 := .int .i64 (H : Int)) (y2 := .int .i64 0) (y3 := .int .i64 0) (y4 := .int .i64 (P : Int)) (y5 := .int .i64 (S : Int)) hbz (Nat.le_succ _))
        clear g5 g4 hb7 Nf7 hal Nf8 R8 hbz T6 Nf6 Hc a0 a1 b0 b1 hne1 hne2 T7
        go_wp2_with fail
        clear c0 c1 c2 c3 c4 c5 f0 f1 f2 f3 f4 f5 r0 r1 r2 r3 r4 r5
        have d0 := R9.out.c0
        have d1 := R9.out.c1
        have d2 := R9.out.c2
        have d3 := R9.out.c3
        have d4 := R9.out.c4
        have d5 := R9.out.c5
        refine bodyPost_ret (v := .agg #[.int .i64 (n : Int), .int .i64 (H : Int), .int .i64 0, .int .i64 0, .int .i64 (P : Int), .int .i64 (S : Int)]) (by rw [results_cell_one rfl]; go_simp) rfl ⟨0, 0, by rw [HN.out, HSP.out.1, HSP.out.2]; rfl, ?_, Hfin.out⟩
        rw [HC.out.2.1, HC.out.2.2]; exact CT0.nil
      · obtain ⟨v, hnb, hndv⟩ := hnd.val
        have hne : es ≠ [] := by rw [Hbare.out]; exact fun h => hne0 (bare_nil.1 h)
        clear hne0 hbare
        have Hc := Lib.hid (root_some b (n : Int) v Z hnb)
        rw [hp] at a0 b0
        have HC := Lib.hid (And.intro hp (And.intro (And.intro hs5 hs3) (And.intro hne hH)))
        have Hv := Lib.hid hndv
        clear hp hs5 hs3 hne hH Htr6 hnb hndv hnd
        go_wp2_with fail
        rw [HZ.out, HC.out.1]
        refine Hc.out.mono ?_
        rintro e w7 ⟨rfl, hb7⟩
        have T7 : Hid (Turn (fun i => G ≤ i) W w7) := T6.out.trans (Turn.ofBelow hb7)
        have Nf7 := Nf6.out.ext hb7
        have hal : Below w7.heap.size w7 (w7.alloc (.cells #[.int .i64 (v.pg : Nat), v.c, v.k, v.p] VT)) := (Below.refl _ _).alloc (Nat.le_refl _) _
        have Nf8 := Lib.hid (Nf7.ext hal)
        have T8 : Hid (Turn (fun i => G ≤ i) W (w7.alloc (.cells #[.int .i64 (v.pg : Nat), v.c, v.k, v.p] VT))) := T7.out.trans (Turn.ofBelow hal)
        have Hnd := Lib.hid (nodes_any h none none v es' s (w7.alloc (.cells #[.int .i64 (v.pg : Nat), v.c, v.k, v.p] VT)) ((Hv.out.ext hb7).ext hal) (by rw [← bare_len, ← Hbare.out, HN.out]; omega) (by have := HC.out.2.1.1; omega))
        clear g5 g4 hb7 Nf7 hal T6 Nf6 Hc a0 a1 b0 b1 hne1 hne2 T7 f5 f4
        obtain ⟨pg, ca, cn, cc, ka, kn, kc, pa, pn, pc⟩ := v
        dsimp only [NoV.c, NoV.k, NoV.p, NoV.v] at *
        go_wp2_with fail
        refine Hnd.out.mono ?_
        rintro e w9 ⟨L, B, rfl, hcg, hb9⟩
        replace hcg := hcg.bare
        rw [← Hbare.out] at hcg
        have Hcg := Lib.hid (hcg.root HC.out.2.1.2 HC.out.2.2.1)
        have T9 : Hid (Turn (fun i => G ≤ i) W w9) := T8.out.trans (Turn.ofBelow hb9)
        have Nf9 := Lib.hid (Nf8.out.ext hb9)
        clear hcg hb9 Hnd Nf8 T8
        have hst := below_set (B := G) (b := bf) (j := 3) (v := .int .i64 (B : Int)) (below_set (B := G) (b := bf) (j := 2) (v := .int .i64 (L : Int)) (Below.refl G w9) Gb.out) Gb.out
        have T10 : Hid (Turn (fun i => G ≤ i) W ((w9.setCell ⟨bf, 2, none⟩ (.int .i64 (L : Int))).setCell ⟨bf, 3, none⟩ (.int .i64 (B : Int)))) := T9.out.trans ⟨hst.os, hst.tape, hst.output, hst.size, fun i hi hG => hst.block i (by omega)⟩
        have e2 := Nf9.out.fz 2
        have e3 := Nf9.out.fz 3
        have k2 := Nf9.out.c2
        have k3 := Nf9.out.c3
        have Nf10 := Nf9.out.put23 (L : Int) (B : Int)
        have R8 := Htr.out _ T10.out
        have c0 := Nf10.c0
        have c1 := Nf10.c1
        have c2 := Nf10.c2
        have c3 := Nf10.c3
        have c4 := Nf10.c4
        have c5 := Nf10.c5
        have f0 := R8.fz 0
        have f1 := R8.fz 1
        have f2 := R8.fz 2
        have f3 := R8.fz 3
        have f4 := R8.fz 4
        have f5 := R8.fz 5
        have r0 := R8.c0
        have r1 := R8.c1
        have r2 := R8.c2
        have r3 := R8.c3
        have r4 := R8.c4
        have r5 := R8.c5
        have R9 := Lib.hid (R8.all (n : Int) (H : Int) (L : Int) (B : Int) (P : Int) (S : Int))
        have hbz : Below w.heap.size w ((w9.setCell ⟨bf, 2, none⟩ (.int .i64 (L : Int))).setCell ⟨bf, 3, none⟩ (.int .i64 (B : Int))) := Hbw.out.trans (T10.out.below (by have := HGs.out; have := HG.out; omega) (fun i hi => by have := HGs.out; omega))
        have Hfin := Lib.hid (below_all (b := w.heap.size + 1) (y0 := .int .i64 (n : Int)) (y1 := .int .i64 (H : Int)) (y2 := .int .i64 (L : Int)) (y3 := .int .i64 (B : Int)) (y4 := .int .i64 (P : Int)) (y5 := .int .i64 (S : Int)) hbz (Nat.le_succ _))
        clear hst Nf10 R8 hbz T9 Nf9 T10
        go_wp2_with fail
        clear c0 c1 c2 c3 c4 c5 f0 f1 f2 f3 f4 f5 r0 r1 r2 r3 r4 r5
        have d0 := R9.out.c0
        have d1 := R9.out.c1
        have d2 := R9.out.c2
        have d3 := R9.out.c3
        have d4 := R9.out.c4
        have d5 := R9.out.c5
        refine bodyPost_ret (v := .agg #[.int .i64 (n : Int), .int .i64 (H : Int), .int .i64 (L : Int), .int .i64 (B : Int), .int .i64 (P : Int), .int .i64 (S : Int)]) (by rw [results_cell_one rfl]; go_simp) rfl ⟨L, B, by rw [HN.out, HSP.out.1, HSP.out.2], ?_, Hfin.out⟩
        rw [HC.out.2.2.2]; exact Hcg.out
    · refine stepS_call (o := ⟨_, _, _, _, _, _⟩) rfl (by rfl) (fun K hK => ?_)
      go_simp
      refine hK _ _ ((Turn.refl _ _).alloc _) ?_
      clear hK K
      obtain ⟨w2, hy⟩ : ∃ y, y = w1.alloc (.cells #[.int .i64 0, .int .i64 0, .int .i64 0, .int .i64 0, .int .i64 0, .int .i64 0] FAT) := ⟨_, rfl⟩
      have Nf : Hid (FB w2 w1.heap.size 0 0 0 0 0 0) := by rw [hy]; exact FB.new _ 0 0 0 0 0 0
      have T2 : Hid (Turn (fun i => G ≤ i) W w2) := by rw [hy]; exact T1.out.alloc _
      have Gb : Hid (G ≤ w1.heap.size) := Nat.le_trans (Nat.le_of_eq HG.out.symm) T1.out.size
      rw [← hy]
      clear hy
      obtain ⟨bf, hbf⟩ : ∃ b, b = w1.heap.size := ⟨_, rfl⟩
      rw [← hbf] at Nf Gb ⊢
      clear hbf
      refine stepS_call (o := ⟨_, _, _, _, _, _⟩) rfl (by rfl) (fun K hK => ?_)
      go_simp
      refine (Hhei.out w2 T2.out).mono ?_
      rintro e w3 ⟨rfl, hb⟩
      refine hK _ _ (Turn.ofBelow hb) ?_
      clear hK K
      have T3 : Hid (Turn (fun i => G ≤ i) W w3) := T2.out.trans (Turn.ofBelow hb)
      replace Nf : Hid (FB w3 bf 0 0 0 0 0 0) := Nf.out.ext hb
      clear hb
      (refine wpGs_read (o := ⟨_, _, _, _, _, _⟩) (v := ?_) rfl (by rfl) ?_ ?_; rotate_left; (intro w' hw'; go_simp; with_reducible rfl); simp only [Act.put, List.setIfInBounds_toArray, List.set_cons_zero, List.set_cons_succ])
      have f0 := Nf.out.fz 0
      have f1 := Nf.out.fz 1
      have f2 := Nf.out.fz 2
      have f3 := Nf.out.fz 3
      have f4 := Nf.out.fz 4
      have f5 := Nf.out.fz 5
      have g0 := Nf.out.c0
      have g1 := Nf.out.c1
      have g2 := Nf.out.c2
      have g3 := Nf.out.c3
      have g4 := Nf.out.c4
      have g5 := Nf.out.c5
      refine stepS_call (o := ⟨_, _, _, _, _, _⟩) rfl (by rfl) (fun K hK => ?_)
      go_simp
      have hst := below_all (B := G) (b := bf) (y0 := .int .i64 (n : Int)) (y1 := .int .i64 (H : Int)) (y2 := .int .i64 0) (y3 := .int .i64 0) (y4 := .int .i64 0) (y5 := .int .i64 0) (Below.refl G w3) Gb.out
      have hst2 : Turn (fun i => G ≤ i) w3 (((((((w3).setCell ⟨bf, 0, none⟩ (.int .i64 (n : Int))).setCell ⟨bf, 1, none⟩ (.int .i64 (H : Int))).setCell ⟨bf, 2, none⟩ (.int .i64 0)).setCell ⟨bf, 3, none⟩ (.int .i64 0)).setCell ⟨bf, 4, none⟩ (.int .i64 0)).setCell ⟨bf, 5, none⟩ (.int .i64 0)) := ⟨hst.os, hst.tape, hst.output, hst.size, fun i hi hG => hst.block i (by omega)⟩
      refine hK _ _ hst2 ?_
      clear hK K
      have Nf2 := Nf.out.all (n : Int) (H : Int) 0 0 0 0
      have T9 := T3.out.trans hst2
      clear f0 f1 f2 f3 f4 f5 g0 g1 g2 g3 g4 g5 hst hst2
      generalize (((((((w3).setCell ⟨bf, 0, none⟩ (.int .i64 (n : Int))).setCell ⟨bf, 1, none⟩ (.int .i64 (H : Int))).setCell ⟨bf, 2, none⟩ (.int .i64 0)).setCell ⟨bf, 3, none⟩ (.int .i64 0)).setCell ⟨bf, 4, none⟩ (.int .i64 0)).setCell ⟨bf, 5, none⟩ (.int .i64 0)) = Y at *
      replace Nf := Lib.hid Nf2
      have TY := Lib.hid T9
      clear Nf2 T9
      refine wpGs_done ?_
      have t0 := (Hta.out Y TY.out)
      have a0 := t0.c0
      have a1 := t0.c1
      rw [HN.out] at a1
      have Hall := Lib.hid (all_any p es H Y (Htree.out Y TY.out) (by rw [HN.out]; omega))
      rw [HN.out] at Hall
      clear t0
      go_wp2_with fail
      refine Hall.out.mono ?_
      rintro e w4 ⟨v4, rfl, hv4, hb4⟩
      obtain ⟨a4, c4, rfl, hs4, _⟩ := hv4
      have Htk := Lib.hid (taken_any a4 n c4 es w4 HN.out hs4 Hok.out (by omega))
      have T4 : Hid (Turn (fun i => G ≤ i) W w4) := TY.out.trans (Turn.ofBelow hb4)
      replace Nf : Hid (FB w4 bf (n : Int) (H : Int) 0 0 0 0) := Nf.out.ext hb4
      rw [HN.out]
      clear hb4 hs4 Hall TY a0 a1
      go_wp2_with fail
      refine Htk.out.mono ?_
      rintro e w5 ⟨rfl, hb5⟩
      have T5 : Hid (Turn (fun i => G ≤ i) W w5) := T4.out.trans (Turn.ofBelow hb5)
      replace Nf : Hid (FB w5 bf (n : Int) (H : Int) 0 0 0 0) := Nf.out.ext hb5
      clear hb5 Htk T4
      have hS9 := Hsz.out.1
      have hP9 := Hsz.out.2
      obtain ⟨S, hS⟩ : ∃ S, szs es = S := ⟨_, rfl⟩
      obtain ⟨P, hP⟩ : ∃ P, pgs es = P := ⟨_, rfl⟩
      rw [hS] at hS9 ⊢
      rw [hP] at hP9 ⊢
      have HSP := Lib.hid (And.intro hS hP)
      clear hS hP
      have f5 := Nf.out.fz 5
      have f4 := Nf.out.fz 4
      have g5 := Nf.out.c5
      have g4 := Nf.out.c4
      have hst := below_set (B := G) (b := bf) (j := 4) (v := .int .i64 (P : Int)) (below_set (B := G) (b := bf) (j := 5) (v := .int .i64 (S : Int)) (Below.refl G w5) Gb.out) Gb.out
      have T6 : Hid (Turn (fun i => G ≤ i) W ((w5.setCell ⟨bf, 5, none⟩ (.int .i64 (S : Int))).setCell ⟨bf, 4, none⟩ (.int .i64 (P : Int)))) := T5.out.trans ⟨hst.os, hst.tape, hst.output, hst.size, fun i hi hG => hst.block i (by omega)⟩
      have Nf6 := Lib.hid (Nf.out.put54 (S : Int) (P : Int))
      have t0 := Hta.out _ T6.out
      have a0 := t0.c0
      have a1 := t0.c1
      have t5 := Hta.out _ T5.out
      have b0 := t5.c0
      have b1 := t5.c1
      rw [HN.out] at a1 b1
      have hne1 : ¬ w.heap.size = bf := by have := Gb.out; have := HGs.out; omega
      have hne2 : ¬ bf = w.heap.size := by have := Gb.out; have := HGs.out; omega
      have Htr6 := Lib.hid (Htree.out _ T6.out)
      have HW6 : Hid (∃ Z, (w5.setCell ⟨bf, 5, none⟩ (.int .i64 (S : Int))).setCell ⟨bf, 4, none⟩ (.int .i64 (P : Int)) = Z) := ⟨_, rfl⟩
      clear hst t0 T5 t5
      obtain ⟨Z, hZ⟩ := HW6.out
      rw [hZ] at T6 Nf6 Htr6
      have HZ := Lib.hid hZ
      clear hZ HW6
      obtain ⟨es', hbare, ht6⟩ := Htr6.out
      have Hbare := Lib.hid hbare
      rcases ht6 with ⟨hp, he0, hH⟩ | ⟨b, h, s, hp, hnd, hs5, hs3, hne0, hH⟩
      · have he : es = [] := by rw [Hbare.out, he0]; rfl
        clear hbare he0
        have Hc := Lib.hid (root_nil (n : Int) Z)
        rw [hp] at a0 b0
        have HC := Lib.hid (And.intro hp (And.intro he hH))
        clear hp he hH Htr6
        go_wp2_with fail
        rw [HZ.out, HC.out.1]
        refine Hc.out.mono ?_
        rintro e w7 ⟨rfl, hb7⟩
        have T7 : Hid (Turn (fun i => G ≤ i) W w7) := T6.out.trans (Turn.ofBelow hb7)
        have Nf7 := Nf6.out.ext hb7
        have hal : Below w7.heap.size w7 (w7.alloc (.cells #[.int .i64 0, nilS, nilS, nilS] VT)) := (Below.refl _ _).alloc (Nat.le_refl _) _
        have Nf8 := Nf7.ext hal
        have R8 := Htr.out _ (T7.out.trans (Turn.ofBelow hal))
        have c0 := Nf8.c0
        have c1 := Nf8.c1
        have c2 := Nf8.c2
        have c3 := Nf8.c3
        have c4 := Nf8.c4
        have c5 := Nf8.c5
        have f0 := R8.fz 0
        have f1 := R8.fz 1
        have f2 := R8.fz 2
        have f3 := R8.fz 3
        have f4 := R8.fz 4
        have f5 := R8.fz 5
        have r0 := R8.c0
        have r1 := R8.c1
        have r2 := R8.c2
        have r3 := R8.c3
        have r4 := R8.c4
        have r5 := R8.c5
        have R9 := Lib.hid (R8.all (n : Int) (H : Int) 0 0 (P : Int) (S : Int))
        have HB : Hid (∀ x, Below (w.heap.size) w x → Below w.heap.size w x) := fun _ h => h
        have hbz : Below w.heap.size w (w7.alloc (.cells #[.int .i64 0, nilS, nilS, nilS] VT)) := (Hbw.out.trans ((T7.out.trans (Turn.ofBelow hal)).below (by have := HGs.out; have := HG.out; omega) (fun i hi => by have := HGs.out; omega)))
        have Hfin := Lib.hid (below_all (b := w.heap.size + 1) (y0 := .int .i64 (n : Int)) (y1 := .int .i64 (H : Int)) (y2 := .int .i64 0) (y3 := .int .i64 0) (y4 := .int .i64 (P : Int)) (y5 := .int .i64 (S : Int)) hbz (Nat.le_succ _))
        clear g5 g4 hb7 Nf7 hal Nf8 R8 hbz T6 Nf6 Hc a0 a1 b0 b1 hne1 hne2 T7
        go_wp2_with fail
        clear c0 c1 c2 c3 c4 c5 f0 f1 f2 f3 f4 f5 r0 r1 r2 r3 r4 r5
        have d0 := R9.out.c0
        have d1 := R9.out.c1
        have d2 := R9.out.c2
        have d3 := R9.out.c3
        have d4 := R9.out.c4
        have d5 := R9.out.c5
        refine bodyPost_ret (v := .agg #[.int .i64 (n : Int), .int .i64 (H : Int), .int .i64 0, .int .i64 0, .int .i64 (P : Int), .int .i64 (S : Int)]) (by rw [results_cell_one rfl]; go_simp) rfl ⟨0, 0, by rw [HN.out, HSP.out.1, HSP.out.2]; rfl, ?_, Hfin.out⟩
        rw [HC.out.2.1, HC.out.2.2]; exact CT0.nil
      · obtain ⟨v, hnb, hndv⟩ := hnd.val
        have hne : es ≠ [] := by rw [Hbare.out]; exact fun h => hne0 (bare_nil.1 h)
        clear hne0 hbare
        have Hc := Lib.hid (root_some b (n : Int) v Z hnb)
        rw [hp] at a0 b0
        have HC := Lib.hid (And.intro hp (And.intro (And.intro hs5 hs3) (And.intro hne hH)))
        have Hv := Lib.hid hndv
        clear hp hs5 hs3 hne hH Htr6 hnb hndv hnd
        go_wp2_with fail
        rw [HZ.out, HC.out.1]
        refine Hc.out.mono ?_
        rintro e w7 ⟨rfl, hb7⟩
        have T7 : Hid (Turn (fun i => G ≤ i) W w7) := T6.out.trans (Turn.ofBelow hb7)
        have Nf7 := Nf6.out.ext hb7
        have hal : Below w7.heap.size w7 (w7.alloc (.cells #[.int .i64 (v.pg : Nat), v.c, v.k, v.p] VT)) := (Below.refl _ _).alloc (Nat.le_refl _) _
        have Nf8 := Lib.hid (Nf7.ext hal)
        have T8 : Hid (Turn (fun i => G ≤ i) W (w7.alloc (.cells #[.int .i64 (v.pg : Nat), v.c, v.k, v.p] VT))) := T7.out.trans (Turn.ofBelow hal)
        have Hnd := Lib.hid (nodes_any h none none v es' s (w7.alloc (.cells #[.int .i64 (v.pg : Nat), v.c, v.k, v.p] VT)) ((Hv.out.ext hb7).ext hal) (by rw [← bare_len, ← Hbare.out, HN.out]; omega) (by have := HC.out.2.1.1; omega))
        clear g5 g4 hb7 Nf7 hal T6 Nf6 Hc a0 a1 b0 b1 hne1 hne2 T7 f5 f4
        obtain ⟨pg, ca, cn, cc, ka, kn, kc, pa, pn, pc⟩ := v
        dsimp only [NoV.c, NoV.k, NoV.p, NoV.v] at *
        go_wp2_with fail
        refine Hnd.out.mono ?_
        rintro e w9 ⟨L, B, rfl, hcg, hb9⟩
        replace hcg := hcg.bare
        rw [← Hbare.out] at hcg
        have Hcg := Lib.hid (hcg.root HC.out.2.1.2 HC.out.2.2.1)
        have T9 : Hid (Turn (fun i => G ≤ i) W w9) := T8.out.trans (Turn.ofBelow hb9)
        have Nf9 := Lib.hid (Nf8.out.ext hb9)
        clear hcg hb9 Hnd Nf8 T8
        have hst := below_set (B := G) (b := bf) (j := 3) (v := .int .i64 (B : Int)) (below_set (B := G) (b := bf) (j := 2) (v := .int .i64 (L : Int)) (Below.refl G w9) Gb.out) Gb.out
        have T10 : Hid (Turn (fun i => G ≤ i) W ((w9.setCell ⟨bf, 2, none⟩ (.int .i64 (L : Int))).setCell ⟨bf, 3, none⟩ (.int .i64 (B : Int)))) := T9.out.trans ⟨hst.os, hst.tape, hst.output, hst.size, fun i hi hG => hst.block i (by omega)⟩
        have e2 := Nf9.out.fz 2
        have e3 := Nf9.out.fz 3
        have k2 := Nf9.out.c2
        have k3 := Nf9.out.c3
        have Nf10 := Nf9.out.put23 (L : Int) (B : Int)
        have R8 := Htr.out _ T10.out
        have c0 := Nf10.c0
        have c1 := Nf10.c1
        have c2 := Nf10.c2
        have c3 := Nf10.c3
        have c4 := Nf10.c4
        have c5 := Nf10.c5
        have f0 := R8.fz 0
        have f1 := R8.fz 1
        have f2 := R8.fz 2
        have f3 := R8.fz 3
        have f4 := R8.fz 4
        have f5 := R8.fz 5
        have r0 := R8.c0
        have r1 := R8.c1
        have r2 := R8.c2
        have r3 := R8.c3
        have r4 := R8.c4
        have r5 := R8.c5
        have R9 := Lib.hid (R8.all (n : Int) (H : Int) (L : Int) (B : Int) (P : Int) (S : Int))
        have hbz : Below w.heap.size w ((w9.setCell ⟨bf, 2, none⟩ (.int .i64 (L : Int))).setCell ⟨bf, 3, none⟩ (.int .i64 (B : Int))) := Hbw.out.trans (T10.out.below (by have := HGs.out; have := HG.out; omega) (fun i hi => by have := HGs.out; omega))
        have Hfin := Lib.hid (below_all (b := w.heap.size + 1) (y0 := .int .i64 (n : Int)) (y1 := .int .i64 (H : Int)) (y2 := .int .i64 (L : Int)) (y3 := .int .i64 (B : Int)) (y4 := .int .i64 (P : Int)) (y5 := .int .i64 (S : Int)) hbz (Nat.le_succ _))
        clear hst Nf10 R8 hbz T9 Nf9 T10
        go_wp2_with fail
        clear c0 c1 c2 c3 c4 c5 f0 f1 f2 f3 f4 f5 r0 r1 r2 r3 r4 r5
        have d0 := R9.out.c0
        have d1 := R9.out.c1
        have d2 := R9.out.c2
        have d3 := R9.out.c3
        have d4 := R9.out.c4
        have d5 := R9.out.c5
        refine bodyPost_ret (v := .agg #[.int .i64 (n : Int), .int .i64 (H : Int), .int .i64 (L : Int), .int .i64 (B : Int), .int .i64 (P : Int), .int .i64 (S : Int)]) (by rw [results_cell_one rfl]; go_simp) rfl ⟨L, B, by rw [HN.out, HSP.out.1, HSP.out.2], ?_, Hfin.out⟩
        rw [HC.out.2.2.2]; exact Hcg.out
  · refine stepS_call (o := ⟨_, _, _, _, _, _⟩) rfl (by rfl) (fun K hK => ?_)
    go_simp
    refine hK _ _ ((Turn.refl _ _).alloc _) ?_
    clear hK K
    obtain ⟨w1, hy⟩ : ∃ y, y = W.alloc (.cells #[.int .i64 0, .int .i64 0, .int .i64 0, .int .i64 0, .int .i64 0, .int .i64 0] FAT) := ⟨_, rfl⟩
    have Nf : Hid (FB w1 W.heap.size 0 0 0 0 0 0) := by rw [hy]; exact FB.new _ 0 0 0 0 0 0
    have T1 : Hid (Turn (fun i => G ≤ i) W w1) := by rw [hy]; exact T0.out.alloc _
    have Gb : Hid (G ≤ W.heap.size) := Nat.le_trans (Nat.le_of_eq HG.out.symm) T0.out.size
    rw [← hy]
    clear hy
    obtain ⟨bf, hbf⟩ : ∃ b, b = W.heap.size := ⟨_, rfl⟩
    rw [← hbf] at Nf Gb ⊢
    clear hbf
    refine stepS_call (o := ⟨_, _, _, _, _, _⟩) rfl (by rfl) (fun K hK => ?_)
    go_simp
    refine (Hlen.out w1).mono ?_
    rintro e w2 ⟨rfl, hb⟩
    refine hK _ _ (Turn.ofBelow hb) ?_
    clear hK K
    have T2 : Hid (Turn (fun i => G ≤ i) W w2) := T1.out.trans (Turn.ofBelow hb)
    replace Nf : Hid (FB w2 bf 0 0 0 0 0 0) := Nf.out.ext hb
    clear hb
    refine stepS_call (o := ⟨_, _, _, _, _, _⟩) rfl (by rfl) (fun K hK => ?_)
    go_simp
    refine (Hhei.out w2 T2.out).mono ?_
    rintro e w3 ⟨rfl, hb⟩
    refine hK _ _ (Turn.ofBelow hb) ?_
    clear hK K
    have T3 : Hid (Turn (fun i => G ≤ i) W w3) := T2.out.trans (Turn.ofBelow hb)
    replace Nf : Hid (FB w3 bf 0 0 0 0 0 0) := Nf.out.ext hb
    clear hb
    (refine wpGs_read (o := ⟨_, _, _, _, _, _⟩) (v := ?_) rfl (by rfl) ?_ ?_; rotate_left; (intro w' hw'; go_simp; with_reducible rfl); simp only [Act.put, List.setIfInBounds_toArray, List.set_cons_zero, List.set_cons_succ])
    have f0 := Nf.out.fz 0
    have f1 := Nf.out.fz 1
    have f2 := Nf.out.fz 2
    have f3 := Nf.out.fz 3
    have f4 := Nf.out.fz 4
    have f5 := Nf.out.fz 5
    have g0 := Nf.out.c0
    have g1 := Nf.out.c1
    have g2 := Nf.out.c2
    have g3 := Nf.out.c3
    have g4 := Nf.out.c4
    have g5 := Nf.out.c5
    refine stepS_call (o := ⟨_, _, _, _, _, _⟩) rfl (by rfl) (fun K hK => ?_)
    go_simp
    have hst := below_all (B := G) (b := bf) (y0 := .int .i64 (n : Int)) (y1 := .int .i64 (H : Int)) (y2 := .int .i64 0) (y3 := .int .i64 0) (y4 := .int .i64 0) (y5 := .int .i64 0) (Below.refl G w3) Gb.out
    have hst2 : Turn (fun i => G ≤ i) w3 (((((((w3).setCell ⟨bf, 0, none⟩ (.int .i64 (n : Int))).setCell ⟨bf, 1, none⟩ (.int .i64 (H : Int))).setCell ⟨bf, 2, none⟩ (.int .i64 0)).setCell ⟨bf, 3, none⟩ (.int .i64 0)).setCell ⟨bf, 4, none⟩ (.int .i64 0)).setCell ⟨bf, 5, none⟩ (.int .i64 0)) := ⟨hst.os, hst.tape, hst.output, hst.size, fun i hi hG => hst.block i (by omega)⟩
    refine hK _ _ hst2 ?_
    clear hK K
    have Nf2 := Nf.out.all (n : Int) (H : Int) 0 0 0 0
    have T9 := T3.out.trans hst2
    clear f0 f1 f2 f3 f4 f5 g0 g1 g2 g3 g4 g5 hst hst2
    generalize (((((((w3).setCell ⟨bf, 0, none⟩ (.int .i64 (n : Int))).setCell ⟨bf, 1, none⟩ (.int .i64 (H : Int))).setCell ⟨bf, 2, none⟩ (.int .i64 0)).setCell ⟨bf, 3, none⟩ (.int .i64 0)).setCell ⟨bf, 4, none⟩ (.int .i64 0)).setCell ⟨bf, 5, none⟩ (.int .i64 0)) = Y at *
    replace Nf := Lib.hid Nf2
    have TY := Lib.hid T9
    clear Nf2 T9
    refine wpGs_done ?_
    have t0 := (Hta.out Y TY.out)
    have a0 := t0.c0
    have a1 := t0.c1
    rw [HN.out] at a1
    have Hall := Lib.hid (all_any p es H Y (Htree.out Y TY.out) (by rw [HN.out]; omega))
    rw [HN.out] at Hall
    clear t0
    go_wp2_with fail
    refine Hall.out.mono ?_
    rintro e w4 ⟨v4, rfl, hv4, hb4⟩
    obtain ⟨a4, c4, rfl, hs4, _⟩ := hv4
    have Htk := Lib.hid (taken_any a4 n c4 es w4 HN.out hs4 Hok.out (by omega))
    have T4 : Hid (Turn (fun i => G ≤ i) W w4) := TY.out.trans (Turn.ofBelow hb4)
    replace Nf : Hid (FB w4 bf (n : Int) (H : Int) 0 0 0 0) := Nf.out.ext hb4
    rw [HN.out]
    clear hb4 hs4 Hall TY a0 a1
    go_wp2_with fail
    refine Htk.out.mono ?_
    rintro e w5 ⟨rfl, hb5⟩
    have T5 : Hid (Turn (fun i => G ≤ i) W w5) := T4.out.trans (Turn.ofBelow hb5)
    replace Nf : Hid (FB w5 bf (n : Int) (H : Int) 0 0 0 0) := Nf.out.ext hb5
    clear hb5 Htk T4
    have hS9 := Hsz.out.1
    have hP9 := Hsz.out.2
    obtain ⟨S, hS⟩ : ∃ S, szs es = S := ⟨_, rfl⟩
    obtain ⟨P, hP⟩ : ∃ P, pgs es = P := ⟨_, rfl⟩
    rw [hS] at hS9 ⊢
    rw [hP] at hP9 ⊢
    have HSP := Lib.hid (And.intro hS hP)
    clear hS hP
    have f5 := Nf.out.fz 5
    have f4 := Nf.out.fz 4
    have g5 := Nf.out.c5
    have g4 := Nf.out.c4
    have hst := below_set (B := G) (b := bf) (j := 4) (v := .int .i64 (P : Int)) (below_set (B := G) (b := bf) (j := 5) (v := .int .i64 (S : Int)) (Below.refl G w5) Gb.out) Gb.out
    have T6 : Hid (Turn (fun i => G ≤ i) W ((w5.setCell ⟨bf, 5, none⟩ (.int .i64 (S : Int))).setCell ⟨bf, 4, none⟩ (.int .i64 (P : Int)))) := T5.out.trans ⟨hst.os, hst.tape, hst.output, hst.size, fun i hi hG => hst.block i (by omega)⟩
    have Nf6 := Lib.hid (Nf.out.put54 (S : Int) (P : Int))
    have t0 := Hta.out _ T6.out
    have a0 := t0.c0
    have a1 := t0.c1
    have t5 := Hta.out _ T5.out
    have b0 := t5.c0
    have b1 := t5.c1
    rw [HN.out] at a1 b1
    have hne1 : ¬ w.heap.size = bf := by have := Gb.out; have := HGs.out; omega
    have hne2 : ¬ bf = w.heap.size := by have := Gb.out; have := HGs.out; omega
    have Htr6 := Lib.hid (Htree.out _ T6.out)
    have HW6 : Hid (∃ Z, (w5.setCell ⟨bf, 5, none⟩ (.int .i64 (S : Int))).setCell ⟨bf, 4, none⟩ (.int .i64 (P : Int)) = Z) := ⟨_, rfl⟩
    clear hst t0 T5 t5
    obtain ⟨Z, hZ⟩ := HW6.out
    rw [hZ] at T6 Nf6 Htr6
    have HZ := Lib.hid hZ
    clear hZ HW6
    obtain ⟨es', hbare, ht6⟩ := Htr6.out
    have Hbare := Lib.hid hbare
    rcases ht6 with ⟨hp, he0, hH⟩ | ⟨b, h, s, hp, hnd, hs5, hs3, hne0, hH⟩
    · have he : es = [] := by rw [Hbare.out, he0]; rfl
      clear hbare he0
      have Hc := Lib.hid (root_nil (n : Int) Z)
      rw [hp] at a0 b0
      have HC := Lib.hid (And.intro hp (And.intro he hH))
      clear hp he hH Htr6
      go_wp2_with fail
      rw [HZ.out, HC.out.1]
      refine Hc.out.mono ?_
      rintro e w7 ⟨rfl, hb7⟩
      have T7 : Hid (Turn (fun i => G ≤ i) W w7) := T6.out.trans (Turn.ofBelow hb7)
      have Nf7 := Nf6.out.ext hb7
      have hal : Below w7.heap.size w7 (w7.alloc (.cells #[.int .i64 0, nilS, nilS, nilS] VT)) := (Below.refl _ _).alloc (Nat.le_refl _) _
      have Nf8 := Nf7.ext hal
      have R8 := Htr.out _ (T7.out.trans (Turn.ofBelow hal))
      have c0 := Nf8.c0
      have c1 := Nf8.c1
      have c2 := Nf8.c2
      have c3 := Nf8.c3
      have c4 := Nf8.c4
      have c5 := Nf8.c5
      have f0 := R8.fz 0
      have f1 := R8.fz 1
      have f2 := R8.fz 2
      have f3 := R8.fz 3
      have f4 := R8.fz 4
      have f5 := R8.fz 5
      have r0 := R8.c0
      have r1 := R8.c1
      have r2 := R8.c2
      have r3 := R8.c3
      have r4 := R8.c4
      have r5 := R8.c5
      have R9 := Lib.hid (R8.all (n : Int) (H : Int) 0 0 (P : Int) (S : Int))
      have HB : Hid (∀ x, Below (w.heap.size) w x → Below w.heap.size w x) := fun _ h => h
      have hbz : Below w.heap.size w (w7.alloc (.cells #[.int .i64 0, nilS, nilS, nilS] VT)) := (Hbw.out.trans ((T7.out.trans (Turn.ofBelow hal)).below (by have := HGs.out; have := HG.out; omega) (fun i hi => by have := HGs.out; omega)))
      have Hfin := Lib.hid (below_all (b := w.heap.size + 1) (y0 := .int .i64 (n : Int)) (y1 := .int .i64 (H : Int)) (y2 := .int .i64 0) (y3 := .int .i64 0) (y4 := .int .i64 (P : Int)) (y5 := .int .i64 (S : Int)) hbz (Nat.le_succ _))
      clear g5 g4 hb7 Nf7 hal Nf8 R8 hbz T6 Nf6 Hc a0 a1 b0 b1 hne1 hne2 T7
      go_wp2_with fail
      clear c0 c1 c2 c3 c4 c5 f0 f1 f2 f3 f4 f5 r0 r1 r2 r3 r4 r5
      have d0 := R9.out.c0
      have d1 := R9.out.c1
      have d2 := R9.out.c2
      have d3 := R9.out.c3
      have d4 := R9.out.c4
      have d5 := R9.out.c5
      refine bodyPost_ret (v := .agg #[.int .i64 (n : Int), .int .i64 (H : Int), .int .i64 0, .int .i64 0, .int .i64 (P : Int), .int .i64 (S : Int)]) (by rw [results_cell_one rfl]; go_simp) rfl ⟨0, 0, by rw [HN.out, HSP.out.1, HSP.out.2]; rfl, ?_, Hfin.out⟩
      rw [HC.out.2.1, HC.out.2.2]; exact CT0.nil
    · obtain ⟨v, hnb, hndv⟩ := hnd.val
      have hne : es ≠ [] := by rw [Hbare.out]; exact fun h => hne0 (bare_nil.1 h)
      clear hne0 hbare
      have Hc := Lib.hid (root_some b (n : Int) v Z hnb)
      rw [hp] at a0 b0
      have HC := Lib.hid (And.intro hp (And.intro (And.intro hs5 hs3) (And.intro hne hH)))
      have Hv := Lib.hid hndv
      clear hp hs5 hs3 hne hH Htr6 hnb hndv hnd
      go_wp2_with fail
      rw [HZ.out, HC.out.1]
      refine Hc.out.mono ?_
      rintro e w7 ⟨rfl, hb7⟩
      have T7 : Hid (Turn (fun i => G ≤ i) W w7) := T6.out.trans (Turn.ofBelow hb7)
      have Nf7 := Nf6.out.ext hb7
      have hal : Below w7.heap.size w7 (w7.alloc (.cells #[.int .i64 (v.pg : Nat), v.c, v.k, v.p] VT)) := (Below.refl _ _).alloc (Nat.le_refl _) _
      have Nf8 := Lib.hid (Nf7.ext hal)
      have T8 : Hid (Turn (fun i => G ≤ i) W (w7.alloc (.cells #[.int .i64 (v.pg : Nat), v.c, v.k, v.p] VT))) := T7.out.trans (Turn.ofBelow hal)
      have Hnd := Lib.hid (nodes_any h none none v es' s (w7.alloc (.cells #[.int .i64 (v.pg : Nat), v.c, v.k, v.p] VT)) ((Hv.out.ext hb7).ext hal) (by rw [← bare_len, ← Hbare.out, HN.out]; omega) (by have := HC.out.2.1.1; omega))
      clear g5 g4 hb7 Nf7 hal T6 Nf6 Hc a0 a1 b0 b1 hne1 hne2 T7 f5 f4
      obtain ⟨pg, ca, cn, cc, ka, kn, kc, pa, pn, pc⟩ := v
      dsimp only [NoV.c, NoV.k, NoV.p, NoV.v] at *
      go_wp2_with fail
      refine Hnd.out.mono ?_
      rintro e w9 ⟨L, B, rfl, hcg, hb9⟩
      replace hcg := hcg.bare
      rw [← Hbare.out] at hcg
      have Hcg := Lib.hid (hcg.root HC.out.2.1.2 HC.out.2.2.1)
      have T9 : Hid (Turn (fun i => G ≤ i) W w9) := T8.out.trans (Turn.ofBelow hb9)
      have Nf9 := Lib.hid (Nf8.out.ext hb9)
      clear hcg hb9 Hnd Nf8 T8
      have hst := below_set (B := G) (b := bf) (j := 3) (v := .int .i64 (B : Int)) (below_set (B := G) (b := bf) (j := 2) (v := .int .i64 (L : Int)) (Below.refl G w9) Gb.out) Gb.out
      have T10 : Hid (Turn (fun i => G ≤ i) W ((w9.setCell ⟨bf, 2, none⟩ (.int .i64 (L : Int))).setCell ⟨bf, 3, none⟩ (.int .i64 (B : Int)))) := T9.out.trans ⟨hst.os, hst.tape, hst.output, hst.size, fun i hi hG => hst.block i (by omega)⟩
      have e2 := Nf9.out.fz 2
      have e3 := Nf9.out.fz 3
      have k2 := Nf9.out.c2
      have k3 := Nf9.out.c3
      have Nf10 := Nf9.out.put23 (L : Int) (B : Int)
      have R8 := Htr.out _ T10.out
      have c0 := Nf10.c0
      have c1 := Nf10.c1
      have c2 := Nf10.c2
      have c3 := Nf10.c3
      have c4 := Nf10.c4
      have c5 := Nf10.c5
      have f0 := R8.fz 0
      have f1 := R8.fz 1
      have f2 := R8.fz 2
      have f3 := R8.fz 3
      have f4 := R8.fz 4
      have f5 := R8.fz 5
      have r0 := R8.c0
      have r1 := R8.c1
      have r2 := R8.c2
      have r3 := R8.c3
      have r4 := R8.c4
      have r5 := R8.c5
      have R9 := Lib.hid (R8.all (n : Int) (H : Int) (L : Int) (B : Int) (P : Int) (S : Int))
      have hbz : Below w.heap.size w ((w9.setCell ⟨bf, 2, none⟩ (.int .i64 (L : Int))).setCell ⟨bf, 3, none⟩ (.int .i64 (B : Int))) := Hbw.out.trans (T10.out.below (by have := HGs.out; have := HG.out; omega) (fun i hi => by have := HGs.out; omega))
      have Hfin := Lib.hid (below_all (b := w.heap.size + 1) (y0 := .int .i64 (n : Int)) (y1 := .int .i64 (H : Int)) (y2 := .int .i64 (L : Int)) (y3 := .int .i64 (B : Int)) (y4 := .int .i64 (P : Int)) (y5 := .int .i64 (S : Int)) hbz (Nat.le_succ _))
      clear hst Nf10 R8 hbz T9 Nf9 T10
      go_wp2_with fail
      clear c0 c1 c2 c3 c4 c5 f0 f1 f2 f3 f4 f5 r0 r1 r2 r3 r4 r5
      have d0 := R9.out.c0
      have d1 := R9.out.c1
      have d2 := R9.out.c2
      have d3 := R9.out.c3
      have d4 := R9.out.c4
      have d5 := R9.out.c5
      refine bodyPost_ret (v := .agg #[.int .i64 (n : Int), .int .i64 (H : Int), .int .i64 (L : Int), .int .i64 (B : Int), .int .i64 (P : Int), .int .i64 (S : Int)]) (by rw [results_cell_one rfl]; go_simp) rfl ⟨L, B, by rw [HN.out, HSP.out.1, HSP.out.2], ?_, Hfin.out⟩
      rw [HC.out.2.2.2]; exact Hcg.out
end Go.Proofs.YtbgkjniagedcnaaGreatDoor
