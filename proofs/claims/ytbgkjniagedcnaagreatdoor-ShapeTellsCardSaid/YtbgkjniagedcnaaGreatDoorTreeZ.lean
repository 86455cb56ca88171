/-
  A tree in memory; tree's Get, Height, Len.
-/
import Derived.Test.YtbgkjniagedcnaaGreatDoorNode2Z
import Derived.Test.YtbgkjniagedcnaaGreatDoorTFindZ
import Derived.Test.YtbgkjniagedcnaaGreatDoorWayZ
import Derived.Test.YtbgkjniagedcnaaGreatDoorMendMathZ
import Derived.Deep.LoopGhost
namespace Go.Proofs.YtbgkjniagedcnaaGreatDoor
open Go Go.RowKit

abbrev TT : TypeId := 27
/-- A tree's root, its entries (with where their values lie), its height. -/
def TreeQ (w : World) (p : Option Addr) (es : List En) (H : Nat) : Prop :=
  (p = none ∧ es = [] ∧ H = 0) ∨ ∃ b h s, p = some ⟨b, 0, none⟩ ∧ Nd w h none none b es s ∧ s ≤ 504 ∧ (0 < h → 3 ≤ s) ∧ es ≠ [] ∧ H = h + 1
theorem TreeQ.ext {w w' : World} {p : Option Addr} {es : List En} {H : Nat} (h : TreeQ w p es H) (hb : Below w.heap.size w w') : TreeQ w' p es H := by
  rcases h with h | ⟨b, h, s, h1, h2, h3⟩
  · exact .inl h
  · exact .inr ⟨b, h, s, h1, Nd.ext hb h h2, h3⟩
/-- The same with its pages: no tree, or one. -/
def TreeT (w : World) (p : Option Addr) (ts : List Tr) (H : Nat) : Prop :=
  (p = none ∧ ts = [] ∧ H = 0) ∨ ∃ b h t, p = some ⟨b, 0, none⟩ ∧ ts = [t] ∧ NdT w h none none b t ∧ t.sz ≤ 504 ∧ (0 < h → 3 ≤ t.sz) ∧ t.es ≠ [] ∧ H = h + 1
theorem TreeT.none (w : World) : TreeT w none [] 0 := .inl ⟨rfl, rfl, rfl⟩
theorem TreeT.tq {w : World} {p : Option Addr} {ts : List Tr} {H : Nat} (h : TreeT w p ts H) : TreeQ w p (esL ts) H := by
  rcases h with ⟨h1, rfl, h2⟩ | ⟨b, h, t, h1, rfl, h2, h3, h4, h5, h6⟩
  · exact .inl ⟨h1, rfl, h2⟩
  · exact .inr ⟨b, h, t.sz, h1, by rw [esL_one]; exact NdT.nd h h2, h3, h4, by rw [esL_one]; exact h5, h6⟩
theorem TreeT.ext {w w' : World} {p : Option Addr} {ts : List Tr} {H : Nat} (h : TreeT w p ts H) (hb : Below w.heap.size w w') : TreeT w' p ts H := by
  rcases h with h | ⟨b, h, t, h1, h0, h2, h3⟩
  · exact .inl h
  · exact .inr ⟨b, h, t, h1, h0, NdT.ext hb h h2, h3⟩
/-- A tree's root, its entries (wherever they lie), its height. -/
def TreeP (w : World) (p : Option Addr) (es : List En) (H : Nat) : Prop := ∃ es', es = bare es' ∧ TreeQ w p es' H
theorem TreeQ.tp {w : World} {p : Option Addr} {es : List En} {H : Nat} (h : TreeQ w p es H) : TreeP w p (bare es) H := ⟨es, rfl, h⟩
theorem TreeT.tp {w : World} {p : Option Addr} {ts : List Tr} {H : Nat} (h : TreeT w p ts H) : TreeP w p (bare (esL ts)) H := h.tq.tp
theorem TreeP.none (w : World) : TreeP w none [] 0 := ⟨[], rfl, .inl ⟨rfl, rfl, rfl⟩⟩
theorem TreeP.ext {w w' : World} {p : Option Addr} {es : List En} {H : Nat} (h : TreeP w p es H) (hb : Below w.heap.size w w') : TreeP w' p es H := by
  obtain ⟨es', h0, h⟩ := h
  exact ⟨es', h0, h.ext hb⟩
theorem TreeQ.facts {w : World} {p : Option Addr} {es : List En} {H : Nat} (h : TreeQ w p es H) : srt es ∧ ∀ x ∈ es, okE x := by
  rcases h with ⟨_, rfl, _⟩ | ⟨b, h, s, h1, h2, h3⟩
  · exact ⟨List.Pairwise.nil, fun x hx => by cases hx⟩
  · have := Nd.facts h h2
    exact ⟨this.2.1, fun x hx => (this.2.2 x hx).1⟩
theorem TreeP.facts {w : World} {p : Option Addr} {es : List En} {H : Nat} (h : TreeP w p es H) : srt es ∧ ∀ x ∈ es, okE x := by
  obtain ⟨es', rfl, h⟩ := h
  exact ⟨srt_bare h.facts.1, okE_bare h.facts.2⟩
theorem TreeQ.low {w : World} {p : Option Addr} {es : List En} {H : Nat} (h : TreeQ w p es H) (hl : es.length < 200) : H ≤ 4 ∧ (H = 0 ↔ es = []) := by
  rcases h with ⟨_, rfl, rfl⟩ | ⟨b, h, s, h1, h2, h3, h4, h5, rfl⟩
  · exact ⟨by omega, by simp⟩
  · have := h2.low h4 hl
    exact ⟨by omega, fun h => by omega, fun h => absurd h h5⟩
theorem TreeP.low {w : World} {p : Option Addr} {es : List En} {H : Nat} (h : TreeP w p es H) (hl : es.length < 200) : H ≤ 4 ∧ (H = 0 ↔ es = []) := by
  obtain ⟨es', rfl, h⟩ := h
  rw [bare_nil]
  exact h.low (by rw [bare_len] at hl; exact hl)
/-- Any row of nodes has its pages. -/
theorem KRow.pgs {w : World} {h : Nat} (ih : ∀ lo hi p e, Good w h lo hi p e → ∃ t, GoodT w h lo hi p t ∧ t.es = e) : ∀ {ks : List ByteArray} {lo hi : SB} {ps : List Nat} {ess : List (List En)}, KRow (Good w h) ks lo hi ps ess → ∃ ts, KRow (GoodT w h) ks lo hi ps ts ∧ ts.map Tr.es = ess
  | [], _, _, _, _, hr => by
    obtain ⟨p, e, rfl, rfl, h1⟩ := hr
    obtain ⟨t, h2, h3⟩ := ih _ _ _ _ h1
    exact ⟨[t], ⟨p, t, rfl, rfl, h2⟩, by simp [h3]⟩
  | k :: ks, _, _, _, _, hr => by
    obtain ⟨p, ps', e, ess', rfl, rfl, h1, hk, hr⟩ := hr
    obtain ⟨t, h2, h3⟩ := ih _ _ _ _ h1
    obtain ⟨ts, h4, h5⟩ := KRow.pgs ih hr
    exact ⟨t :: ts, ⟨p, ps', t, ts, rfl, rfl, h2, hk, h4⟩, by simp [h3, h5]⟩
theorem Nd.t {w : World} : ∀ (h : Nat) {lo hi : SB} {b : Nat} {es : List En} {s : Nat}, Nd w h lo hi b es s → ∃ t, NdT w h lo hi b t ∧ t.es = es ∧ t.sz = s
  | 0, _, _, _, es, _, ⟨h1, h2, h3, h4, h5⟩ => by
    obtain ⟨pg, h1⟩ := h1.pg
    exact ⟨.leaf pg es, ⟨pg, es, rfl, h1, h2, h3, h4⟩, by simp only [Tr.es], h5.symm⟩
  | h + 1, _, _, _, _, _, ⟨ks, ps, ess, h1, h2, h3, h4⟩ => by
    obtain ⟨pg, h1⟩ := h1.pg
    obtain ⟨ts, h5, h6⟩ := KRow.pgs (h := h) (fun _ _ _ e ⟨s, h7, h8⟩ => by
      obtain ⟨t, h9, h10, h11⟩ := Nd.t h h7
      exact ⟨t, ⟨h9, by rw [h11]; exact h8⟩, h10⟩) h2
    exact ⟨.bran pg ks ts, ndT_succ.2 ⟨pg, ks, ps, ts, rfl, h1, h5⟩, by simp only [Tr.es]; rw [esL_flat, h6, h3], h4.symm⟩
theorem TreeQ.t {w : World} {p : Option Addr} {es : List En} {H : Nat} (h : TreeQ w p es H) : ∃ ts, TreeT w p ts H ∧ esL ts = es := by
  rcases h with ⟨h1, rfl, h3⟩ | ⟨b, h, s, h1, h2, h3, h4, h5, h6⟩
  · exact ⟨[], .inl ⟨h1, rfl, h3⟩, rfl⟩
  · obtain ⟨t, h7, h8, h9⟩ := Nd.t h h2
    exact ⟨[t], .inr ⟨b, h, t, h1, rfl, h7, by omega, by rw [h9]; exact h4, by rw [h8]; exact h5, h6⟩, by rw [esL_one, h8]⟩
theorem TreeP.t {w : World} {p : Option Addr} {es : List En} {H : Nat} (h : TreeP w p es H) : ∃ ts, TreeT w p ts H ∧ bare (esL ts) = es := by
  obtain ⟨es', rfl, h⟩ := h
  obtain ⟨ts, h1, h2⟩ := h.t
  exact ⟨ts, h1, by rw [h2]⟩
theorem alloc_own (W : World) (T : TypeId) (vs : Array Value) : ∃ W', W.alloc (.cells vs T) = W' ∧ W'.heap[W.heap.size]? = some (.cells vs T (0, 0)) ∧ Below W.heap.size W W' :=
  ⟨_, rfl, by show (W.heap.push _)[W.heap.size]? = _; rw [Array.getElem?_push_size], (Below.refl _ _).alloc (Nat.le_refl _) _⟩
theorem getE_nil (key : ByteArray) : getE [] key = ByteArray.empty ∧ isE [] key = false := ⟨rfl, rfl⟩
theorem ins_none (k : ByteArray) : ins none none k := ⟨trivial, trivial⟩
set_option maxRecDepth 100000 in
theorem getQ_any (p : Option Addr) (n : Int) (es : List En) (H : Nat) (key : ByteArray) (w : World) (ht : TreeQ w p es H) :
    Calls Tryz.prog 33 #[.agg #[.pointer p, .int .i64 n], .string key] w fun e w' => e = .returned (.tuple #[.string (getE es key), .bool (isE es key)]) ∧ Below w.heap.size w w' := by
  obtain ⟨w0, hw0, hc0, hb0⟩ := alloc_own w TT #[.pointer p, .int .i64 n]
  have HG := Lib.hid hw0
  have HB := Lib.hid hb0
  rcases ht with ⟨rfl, rfl, _⟩ | ⟨b, h, s, rfl, hn, hs, hs3, _⟩
  · clear hc0 hw0 hb0
    go_enter Tryz.func33, Tryz.ntmps33
    go_wp2
    go_ret2
    exact ⟨rfl, by rw [HG.out]; exact HB.out⟩
  · have hn0 := Lib.hid (Nd.ext hb0 h hn)
    have Hs := Lib.hid (And.intro hs hs3)
    clear hc0 hw0 hb0 hn hs hs3
    go_enter Tryz.func33, Tryz.ntmps33
    go_wp2_with fail
    rw [HG.out]
    go_loopg [6] h (fun k u wr => ∃ (b : Nat) (lo hi : SB) (es' : List En) (s' : Nat), u = pt b ∧ Hid (Nd wr k lo hi b es' s') ∧ Hid (ins lo hi key) ∧ Hid (getE es' key = getE es key ∧ isE es' key = isE es key) ∧ Hid (s' ≤ 504 ∧ (0 < k → 3 ≤ s')) ∧ Hid (Below w.heap.size w wr))
    case atStart => exact ⟨b, none, none, es, s, rfl, hn0, ins_none key, ⟨rfl, rfl⟩, Hs, HB⟩
    case round =>
      obtain ⟨b, lo, hi, es', s', rfl, hn, hin, heq, hss, hB⟩ := hrel
      cases gk with
      | zero =>
        obtain ⟨⟨vc, nb, a0, c0, rfl, s0, z0, hnc, hcm⟩, _, hsr, hok, hsz⟩ := hn.out
        have g1 := szs_range (fun x hx => (hok x hx).1)
        have hel : es'.length ≤ 200 := by have := hss.out.1; unfold leafSz at hsz; omega
        have q0 := nb.c1
        have Hnb := Lib.hid nb
        have hil := Lib.hid (isLeaf_yes b _ _ wr nb)
        have Hfd := Lib.hid (tfind_any a0 es'.length c0 es' key wr rfl s0 hsr (by omega))
        have HS := Lib.hid s0
        have Hie := Lib.hid (isE_eq es' key)
        have hget : Hid (getE es' key = if isE es' key = true then (ea es' (fE es' key)).v else ByteArray.empty) := rfl
        obtain ⟨N, hN⟩ : ∃ N, es'.length = N := ⟨_, rfl⟩
        have HN := Lib.hid hN
        rw [hN] at q0 Hfd Hnb hel
        rw [hN] at Hie
        have Heq := Lib.hid (And.intro heq.out.1.symm heq.out.2.symm)
        clear nb s0 z0 hnc hcm hsr hok hsz g1 hN hn hin hss heq
        generalize fE es' key = F at *
        cases hI : isE es' key with
        | true =>
          rw [hI] at Hfd Hie Heq
          have hFN : F < N := by
            have := Hie.out.symm
            rw [Bool.and_eq_true, decide_eq_true_iff] at this
            exact this.1
          obtain ⟨g, o, rfl, hcell⟩ := HS.out.ents (by rw [HN.out]; omega)
          have r1 := (hcell F (by rw [HN.out]; exact hFN)).2.1
          have Hg2 : Hid (getE es' key = (ea es' F).v) := by rw [hget.out, if_pos hI]; rfl
          have hg3 : Hid (getE es key = (ea es' F).v) := by rw [Heq.out.1]; exact Hg2.out
          have i1 : (F : Int) < (N : Int) := by omega
          generalize (ea es' F).v = y at *
          have lr := block_lt_of_cell r1
          have Hr1 := Lib.hid r1
          clear hcell hget Hie hI r1 HS Hg2
          go_wp2_with fail
          refine hil.out.mono ?_
          rintro e w' ⟨rfl, rfl⟩
          go_wp2_with fail
          refine Hfd.out.mono ?_
          rintro e w2 ⟨rfl, hb2⟩
          have q1 := (Hnb.out.ext hb2).c1
          have r2 : w2.cell? ⟨g, o + F * 3 + 1, none⟩ = some (.string y) := by
            rw [hb2.cell (p := ⟨g, o + F * 3 + 1, none⟩) lr]; exact Hr1.out
          have HB2 := Lib.hid (hB.out.trans (hb2.mono hB.out.size))
          clear hb2 Hfd hil q0 lr
          go_wp2
          go_ret2
          exact ⟨by rw [hg3.out, Heq.out.2]; rfl, HB2.out⟩
        | false =>
          rw [hI] at Hfd Hie Heq
          have Hg2 : Hid (getE es' key = ByteArray.empty) := by rw [hget.out, if_neg (by rw [hI]; decide)]; rfl
          have hg3 : Hid (getE es key = ByteArray.empty) := by rw [Heq.out.1]; exact Hg2.out
          clear hget Hie hI HS Hg2
          go_wp2_with fail
          refine hil.out.mono ?_
          rintro e w' ⟨rfl, rfl⟩
          go_wp2_with fail
          refine Hfd.out.mono ?_
          rintro e w2 ⟨rfl, hb2⟩
          have HB2 := Lib.hid (hB.out.trans (hb2.mono hB.out.size))
          clear hb2 Hfd hil q0
          go_wp2
          go_ret2
          exact ⟨by rw [hg3.out, Heq.out.2]; rfl, HB2.out⟩
      | succ h =>
        obtain ⟨ks, ps, ess, ⟨vk, vp, nb, ⟨a0, c0, rfl, s0, _⟩, ⟨a1, c1, rfl, s1, _⟩⟩, hr, hfl, hsz⟩ := hn.out
        have hle := hr.len
        have hkf := hr.keys Good.facts
        have hgr := kss_range (hr.facts Good.facts).2.2.2
        have hkl : ks.length ≤ 126 := by have := hss.out.1; unfold brSz at hsz; omega
        have hway := hr.way Good.facts hin.out
        have hwl := wayS_le ks key
        have hsplit : es' = (ess.take (wayS ks key)).flatten ++ (ess.getD (wayS ks key) [] ++ (ess.drop (wayS ks key + 1)).flatten) := by
          rw [hfl, ← ess_drop (by omega), ← List.flatten_append, List.take_append_drop]
        have hg1 := getE_mid hway.2.1 hway.2.2 (ess.getD (wayS ks key) [])
        have hg2 := (fE_mid hway.2.1 hway.2.2 (ess.getD (wayS ks key) [])).2
        rw [← hsplit] at hg1 hg2
        have Heq : Hid (getE (ess.getD (wayS ks key) []) key = getE es key ∧ isE (ess.getD (wayS ks key) []) key = isE es key) := ⟨hg1.symm.trans heq.out.1, hg2.symm.trans heq.out.2⟩
        obtain ⟨sk, hk1, hk2, hk3⟩ := hr.kid (d := []) hwl
        obtain ⟨g2, o2, rfl, hc2⟩ := s1.ptrs (by omega)
        have hil := Lib.hid (isLeaf_no b _ _ _ _ _ wr nb (by omega))
        obtain ⟨W, hW⟩ : ∃ W, wr.drew = W := ⟨_, rfl⟩
        have hbd : Below wr.heap.size wr W := by rw [← hW]; exact (Below.refl _ _).drew
        have q1 : ∀ w', Ext W w' → w'.cell? ⟨b, 2, none⟩ = some (.slice a0 ks.length c0) := fun w' hx => ((nb.ext hbd).ext hx).c2
        have q2 : ∀ w', Ext W w' → w'.cell? ⟨b, 3, none⟩ = some (.slice (some ⟨g2, o2, none⟩) ps.length c1) := fun w' hx => ((nb.ext hbd).ext hx).c3
        have Hway := Lib.hid (brWay_any a0 ks.length c0 ks key W rfl (s0.below hbd (Nat.le_refl _)).texts hkf (by omega))
        have hpt := hc2 (wayS ks key) (by omega)
        have lpt := block_lt_of_cell hpt
        have Hk := Lib.hid (And.intro hk1 (And.intro hk2 hk3))
        have Hin := Lib.hid hway.1
        have HW := Lib.hid (And.intro hW hbd)
        have hwm : wayS ks key < ps.length := by omega
        have hm1 : ps.length ≤ 127 := by omega
        have Hpt := Lib.hid hpt
        clear nb s0 s1 hc2 hway hwl hsplit hkf hr hgr hle hkl hg1 hg2 hfl hsz hW hbd hpt hn hin heq hss hk1 hk2 hk3
        generalize wayS ks key = A at *
        generalize na ps A = pk at *
        generalize ps.length = m at *
        generalize ks.length = n0 at *
        have i1 : (0 : Int) ≤ (A : Int) := by omega
        have i2 : (A : Int) < (m : Int) := by omega
        have z0 : IntKind.i64.wrap (A : Int) = (A : Int) := by rw [IntKind.wrap_i64]; omega
        go_wp2_with fail
        refine hil.out.mono ?_
        rintro e w' ⟨rfl, rfl⟩
        clear hil
        go_wp2_with fail
        refine wp_region_gr [(0, true), (1, true), (2, true), (3, true), (4, true), (5, true), (6, true), (7, true), (8, true), (9, false), (10, true), (11, true), (12, true)] (by kernel_rfl) (by kernel_rfl) (by kernel_rfl) (by kernel_rfl) (fun _ _ _ _ _ h => h) ?_
        rw [HW.out.1]
        iterate 9 (refine wpGr_read (o := ⟨_, _, _, _, _, _⟩) (v := ?_) rfl (by rfl) ?_ ?_; rotate_left; (intro w' hw'; go_simp; with_reducible rfl); simp only [Act.put, List.setIfInBounds_toArray, List.set_cons_zero, List.set_cons_succ])
        clear q1 q2
        refine wpGr_call (o := ⟨_, _, _, _, _, _⟩) rfl (by rfl) (fun K hK => ?_)
        go_simp
        refine Hway.out.mono ?_
        rintro e w2 ⟨rfl, hb2⟩
        refine hK _ _ hb2 ?_
        clear hK K Hway
        have hbx := HW.out.2.trans (hb2.mono HW.out.2.size)
        have r2 : ∀ w', Ext w2 w' → w'.cell? ⟨g2, o2 + A, none⟩ = some (pt pk) := fun w' hx => by
          rw [(hbx.trans (hx.mono hbx.size)).cell (p := ⟨g2, o2 + A, none⟩) lpt]; exact Hpt.out
        have HB2 := Lib.hid (hB.out.trans (hbx.mono hB.out.size))
        have Hn2 : Hid (Nd w2 h (lob lo ks A) (hib hi ks A) pk (ess.getD A []) sk) := Nd.ext hbx h Hk.out.1
        have Hs2 : Hid (sk ≤ 504 ∧ (0 < h → 3 ≤ sk)) := ⟨Hk.out.2.2, fun _ => by have := Hk.out.2.1; omega⟩
        clear hb2 hbx lpt Hpt HW Hk hB
        iterate 3 (refine wpGr_read (o := ⟨_, _, _, _, _, _⟩) (v := ?_) rfl (by rfl) ?_ ?_; rotate_left; (intro w' hw'; go_simp; with_reducible rfl); simp only [Act.put, List.setIfInBounds_toArray, List.set_cons_zero, List.set_cons_succ])
        refine wpGr_done ?_
        clear r2
        go_wp2_with fail
        go_roundg h
        case measure => omega
        case rel => exact ⟨pk, _, _, _, sk, rfl, Hn2, Hin, Heq, Hs2, HB2⟩
theorem get_any (p : Option Addr) (n : Int) (es : List En) (H : Nat) (key : ByteArray) (w : World) (ht : TreeP w p es H) :
    Calls Tryz.prog 33 #[.agg #[.pointer p, .int .i64 n], .string key] w fun e w' => e = .returned (.tuple #[.string (getE es key), .bool (isE es key)]) ∧ Below w.heap.size w w' := by
  obtain ⟨es', rfl, h⟩ := ht
  rw [getE_bare, (fE_bare es' key).2]
  exact getQ_any p n es' H key w h
theorem len_any (p : Option Addr) (n : Int) (w : World) : Calls Tryz.prog 21 #[.agg #[.pointer p, .int .i64 n]] w fun e w' => e = .returned (.int .i64 n) ∧ Below w.heap.size w w' := by
  go_enter Tryz.func21, Tryz.ntmps21
  go_wp2
  go_ret
  exact ⟨rfl, (Below.refl _ _).alloc (Nat.le_refl _) _⟩
end Go.Proofs.YtbgkjniagedcnaaGreatDoor
