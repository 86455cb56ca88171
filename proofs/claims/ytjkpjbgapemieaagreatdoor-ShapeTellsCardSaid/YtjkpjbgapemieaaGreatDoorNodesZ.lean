/-
  shape's nodes: how many leaves and branches there are from a node on downwards.
-/
import Derived.Test.YtjkpjbgapemieaaGreatDoorNodeVZ
import Derived.Test.YtjkpjbgapemieaaGreatDoorChainMathZ
namespace Go.Proofs.YtjkpjbgapemieaaGreatDoor
open Go Go.RowKit

def NodesP (w : World) (h : Nat) (es : List En) (s : Nat) (e : Ending) (w' : World) : Prop :=
  ∃ L B : Nat, e = .returned (.tuple #[.int .i64 L, .int .i64 B]) ∧ CG h es s L B ∧ Below w.heap.size w w'
set_option maxRecDepth 100000 in
theorem nodes_leaf {lo hi : SB} (v : NoV) (es : List En) (s : Nat) (w : World) (hn : NdV w 0 lo hi v es s) : Calls Tryz.prog 29 #[v.v] w fun e w' => NodesP w 0 es s e w' := by
  obtain ⟨W, hW, hV, hb⟩ := NV.of w v
  have Hl := Lib.hid (nleaf_yes W (hn.ext hb))
  have q0 := hV.c0
  have q1 := hV.c1
  have q2 := hV.c2
  have Hs := Lib.hid hn.2.2.2.2
  rw [← hW] at q0 q1 q2
  have HW := Lib.hid hW
  have HB := Lib.hid hb
  clear hW hV hb hn
  obtain ⟨ca, cn, cc, ka, kn, kc, pa, pn, pc⟩ := v
  dsimp only [NoV.c, NoV.k, NoV.p, NoV.v] at *
  go_enter Tryz.func29, Tryz.ntmps29
  go_wp2_with fail
  rw [HW.out]
  refine Hl.out.mono ?_
  rintro e w1 ⟨rfl, hb1⟩
  have HB1 := Lib.hid (HB.out.trans (hb1.mono HB.out.size))
  clear hb1 q0 q1 q2
  go_wp2
  go_ret2
  exact ⟨1, 0, rfl, ⟨fun _ => ⟨rfl, rfl, Hs.out⟩, fun h => by omega⟩, HB1.out⟩
set_option maxRecDepth 100000 in
theorem nodes_bran {h : Nat} {lo hi : SB} (v : NoV) (es : List En) (s : Nat) (w : World) (hn : NdV w (h + 1) lo hi v es s) (hl : es.length ≤ 100000) (hs : s ≤ 100000)
    (ih : ∀ (lo hi : SB) (v : NoV) (es : List En) (s : Nat) (w : World), NdV w h lo hi v es s → es.length ≤ 100000 → s ≤ 100000 → Calls Tryz.prog 29 #[v.v] w fun e w' => NodesP w h es s e w') :
    Calls Tryz.prog 29 #[v.v] w fun e w' => NodesP w (h + 1) es s e w' := by
  obtain ⟨W, hW, hV, hb⟩ := NV.of w v
  have Hlf := Lib.hid (nleaf_no W (hn.ext hb))
  obtain ⟨ks, ps, ess, ⟨h1, h2, h3⟩, hr, rfl, rfl⟩ := hn
  have hok := (hr.facts Good.facts).2.2.2
  have hgk := kss_range hok
  have hkl : ks.length ≤ 100000 := by unfold brSz at hs; omega
  have q0 := hV.c0
  have q1 := hV.c1
  have q2 := hV.c2
  rw [← hW] at q0 q1 q2
  have Hkd : Hid (∀ w', Below W.heap.size W w' → Calls Tryz.prog 47 #[v.v] w' fun e w'' => ∃ u vs, e = .returned u ∧ EV nodE w'' u vs ∧ KidsV w'' h ks lo hi vs ess ∧ Below w'.heap.size w' w'') := fun w' hb' =>
    nkids_any v ks ps ess w' ((h3.ext hb).ext hb') ((hr.mono (fun _ _ _ _ h5 => h5.ext hb)).mono (fun _ _ _ _ h5 => h5.ext hb')) hkl
  have Hsz : Hid (brSz ks ≤ 2 + 43 * ks.length ∧ (ks.length = 0 → brSz ks = 2)) := by
    refine ⟨by unfold brSz; omega, fun h0 => ?_⟩
    unfold brSz; omega
  have HV := Lib.hid hV
  have HW := Lib.hid hW
  have HB := Lib.hid hb
  have Hih := Lib.hid ih
  have Hl := Lib.hid hl
  have Hkl := Lib.hid hkl
  clear hW hV hb h1 h2 h3 hr hok hgk hkl ih hl hs
  obtain ⟨ca, cn, cc, ka, kn, kc, pa, pn, pc⟩ := v
  dsimp only [NoV.c, NoV.k, NoV.p, NoV.v] at *
  go_enter Tryz.func29, Tryz.ntmps29
  go_wp2_with fail
  rw [HW.out]
  refine Hlf.out.mono ?_
  rintro e w1 ⟨rfl, hb1⟩
  have HB1 := Lib.hid (HB.out.trans (hb1.mono HB.out.size))
  have hV1 := HV.out.ext hb1
  have Hkd1 := Lib.hid (Hkd.out w1 hb1)
  clear q0 q1 q2 Hlf Hkd hb1
  have q0 := hV1.c0
  have q1 := hV1.c1
  have q2 := hV1.c2
  clear hV1
  go_wp2_with fail
  refine Hkd1.out.mono ?_
  rintro e w2 ⟨u, vs, rfl, hu, hk, hb2⟩
  have HB2 := Lib.hid (HB1.out.trans (hb2.mono HB1.out.size))
  obtain ⟨a, c, rfl, hus, _⟩ := hu
  have Hus := Lib.hid hus
  have HK := Lib.hid hk
  have Hn : Hid (vs.length = ks.length + 1) := hk.1
  obtain ⟨n, hn⟩ : ∃ n, vs.length = n := ⟨_, rfl⟩
  have HN := Lib.hid hn
  have hn9 : n ≤ 100001 := by rw [← hn, Hn.out]; have := Hkl.out; omega
  rw [hn]
  clear Hkd1 hus hk hb2 hn q0 q1 q2
  go_wp2_with fail
  go_loopw [4, 5, 7, 8, 9, 15] (fun L B _ _ _ i wr => ∃ k Lk Bk : Nat, L = .int .i64 Lk ∧ B = .int .i64 ((Bk + 1 : Nat) : Int) ∧ i = .int .i64 k ∧ k ≤ n ∧ Bk ≤ Lk ∧ Lk ≤ 100000 ∧ Hid (3 * Bk + k ≤ Lk ∧ (1 ≤ k → h ≤ Bk) ∧ Lk ≤ (ess.take k).flatten.length ∧ 125 * Lk ≤ szs (ess.take k).flatten) ∧ Hid (Below w2.heap.size w2 wr)) (fun _ _ _ _ _ i _ => n - (intOf i).toNat)
  case atStart => exact ⟨0, 0, 0, rfl, rfl, rfl, by omega, by omega, by omega, ⟨by omega, fun h => by omega, by omega, by omega⟩, Below.refl _ _⟩
  case round =>
    obtain ⟨k, Lk, Bk, rfl, rfl, rfl, hk, hBL, hL9, hI, hB⟩ := hrel
    by_cases hlt : k < n
    · obtain ⟨g, o, rfl, hcell⟩ := (Hus.out.below hB.out (Nat.le_refl _)).nods (by rw [HN.out]; omega)
      obtain ⟨p0, p1, p2⟩ := hcell k (by rw [HN.out]; exact hlt)
      obtain ⟨sk, hk1, hk2, hk3⟩ := (HK.out.2.2 k (by rw [HN.out]; exact hlt)).ext hB.out
      have het := ess_take (ess := ess) (i := k) (by rw [HK.out.2.1, ← Hn.out, HN.out]; exact hlt)
      have hsum : (ess.take (k + 1)).flatten.length ≤ ess.flatten.length := by
        conv => rhs; rw [← List.take_append_drop (k + 1) ess, List.flatten_append, List.length_append]
        omega
      have hlk : (ess.getD k []).length ≤ 100000 := by rw [het, List.length_append] at hsum; have := Hl.out; omega
      have hmo := hk1.facts.2.2
      have hok : ∀ x ∈ ess.getD k [], okE x := fun x hx => (hmo x hx).1
      have Hok := Lib.hid hok
      have hsz := hB.out.size
      have hal : Below wr.heap.size wr (wr.alloc (.cells #[(va vs k).c, (va vs k).k, (va vs k).p] VT)) := (Below.refl _ _).alloc (Nat.le_refl _) _
      have Hcall := Lib.hid (Hih.out _ _ (va vs k) (ess.getD k []) sk _ (hk1.ext hal) hlk (by omega))
      have HBa : Hid (Below w2.heap.size w2 (wr.alloc (.cells #[(va vs k).c, (va vs k).k, (va vs k).p] VT))) := hB.out.trans (hal.mono hsz)
      have Hsk : Hid (126 ≤ sk) := hk2
      have Het : Hid ((ess.take (k + 1)).flatten.length = (ess.take k).flatten.length + (ess.getD k []).length ∧ szs (ess.take (k + 1)).flatten = szs (ess.take k).flatten + szs (ess.getD k []) ∧ (ess.take (k + 1)).flatten.length ≤ 100000) := ⟨by rw [het, List.length_append], by rw [het, szs_app], by have := Hl.out; omega⟩
      generalize va vs k = x at *
      obtain ⟨xa, xn, xc, ya, yn, yc, za, zn, zc⟩ := x
      dsimp only [NoV.c, NoV.k, NoV.p, NoV.v] at *
      clear hcell hk1 hk2 hk3 het hsum hlk hmo hok hsz hal hB
      go_wp2_with fail
      refine Hcall.out.mono ?_
      rintro e w3 ⟨L1, B1, rfl, hcg, hb3⟩
      have hck := hcg.kid Hok.out Hsk.out
      have HB3 := Lib.hid (HBa.out.trans (hb3.mono HBa.out.size))
      have e1 : Hid (3 * (Bk + B1) + (k + 1) ≤ Lk + L1 ∧ (1 ≤ k + 1 → h ≤ Bk + B1) ∧ Lk + L1 ≤ (ess.take (k + 1)).flatten.length ∧ 125 * (Lk + L1) ≤ szs (ess.take (k + 1)).flatten) := by
        obtain ⟨i1, i2, i3, i4⟩ := hI.out
        obtain ⟨j1, j2, j3, j4⟩ := hck
        obtain ⟨t1, t2, _⟩ := Het.out
        exact ⟨by omega, fun _ => by omega, by omega, by omega⟩
      have hb9 : Bk + B1 ≤ Lk + L1 := by have := hck.1; omega
      have hl9 : Lk + L1 ≤ 100000 := by have := e1.out.2.2.1; have := Het.out.2.2; omega
      clear hb3 hcg hck Hcall HBa p0 p1 p2 hI Het
      go_wp2_with fail
      go_roundw
      case rel => exact ⟨k + 1, Lk + L1, Bk + B1, by go_num, by go_num, by go_num, by omega, hb9, hl9, e1, HB3⟩
      case measure => simp [intOf]; omega
    · obtain rfl : k = n := by omega
      have HBf := Lib.hid (HB2.out.trans (hB.out.mono HB2.out.size))
      have e1 : Hid (CG (h + 1) ess.flatten (brSz ks) Lk (Bk + 1)) := by
        obtain ⟨i1, i2, i3, i4⟩ := hI.out
        have hnk : k = ks.length + 1 := by rw [← HN.out, Hn.out]
        rw [List.take_of_length_le (by rw [HK.out.2.1]; omega)] at i3 i4
        exact ⟨fun h0 => by omega, fun _ => ⟨ks.length, Hsz.out.1, Hsz.out.2, by omega, by have := i2 (by omega); omega, i3, i4⟩⟩
      clear hB hI
      go_wp2
      go_ret2
      exact ⟨Lk, Bk + 1, by go_num, e1.out, HBf.out⟩
theorem nodes_any : ∀ (h : Nat) (lo hi : SB) (v : NoV) (es : List En) (s : Nat) (w : World), NdV w h lo hi v es s → es.length ≤ 100000 → s ≤ 100000 → Calls Tryz.prog 29 #[v.v] w fun e w' => NodesP w h es s e w'
  | 0, _, _, v, es, s, w, hn, _, _ => nodes_leaf v es s w hn
  | h + 1, _, _, v, es, s, w, hn, hl, hs => nodes_bran v es s w hn hl hs (nodes_any h)
end Go.Proofs.YtjkpjbgapemieaaGreatDoor
