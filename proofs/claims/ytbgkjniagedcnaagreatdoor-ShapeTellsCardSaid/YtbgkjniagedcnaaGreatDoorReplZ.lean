/-
  tree's replaced.
-/
import Derived.Test.YtbgkjniagedcnaaGreatDoorMendZ
import Derived.Test.YtbgkjniagedcnaaGreatDoorTFindZ
import Derived.Test.YtbgkjniagedcnaaGreatDoorWayZ
namespace Go.Proofs.YtbgkjniagedcnaaGreatDoor
open Go Go.RowKit

def ReplPost (w : World) (h : Nat) (lo hi : SB) (t : Tr) (key : ByteArray) (o : List En) (e : Ending) (w' : World) : Prop :=
  ∃ b2 t2, e = .returned (pt b2) ∧ NdT w' h lo hi b2 t2 ∧ (t2.es = rep t.es key o ∧ t2.pg = 0 ∧ Fr t.kids t2.kids (2 * h)) ∧ t2.sz ≤ t.sz + 107 ∧ (0 < h → t2.sz ≤ t.sz + 43 ∧ t.sz ≤ t2.sz + 43) ∧ Below w.heap.size w w'
set_option maxRecDepth 100000 in
theorem replaced_leaf {lo hi : SB} (b : Nat) (t : Tr) (key : ByteArray) (a : Option Addr) (n c : Nat) (o : List En) (w : World) (hn : NdT w 0 lo hi b t) (hs : t.sz ≤ 504) (hi' : ins lo hi key) (ho : oneO key o) (hoE : ∀ x ∈ o, okE x)
    (hno : o.length = n) (hes : CS w a o) (hz : a = none → c = 0) :
    Calls Tryz.prog 57 #[pt b, .string key, .slice a n c] w fun e w' => ReplPost w 0 lo hi t key o e w' := by
  obtain ⟨pg, es, rfl, ⟨vc, np, a0, c0, rfl, s0, z0, hnc, hcm⟩, hlt, hsr, hok⟩ := hn
  have nb := np.nb
  simp only [Tr.sz] at hs
  obtain ⟨s, hsz⟩ : ∃ s, s = leafSz es := ⟨_, rfl⟩
  rw [← hsz] at hs
  have g1 := szs_range (fun x hx => (hok x hx).1)
  have hvp := vs_pos es.length
  have hel : es.length ≤ 200 := by unfold leafSz at hsz; omega
  have hn1 : n ≤ 1 := by rcases ho with rfl | ⟨v, rfl⟩ <;> simp at hno <;> omega
  have q0 := nb.c1
  have hil := Lib.hid (isLeaf_yes b _ _ w nb)
  have Hfd := Lib.hid (tfind_any a0 es.length c0 es key w rfl s0 hsr (by omega))
  have Hnb := Lib.hid nb
  have HS := Lib.hid (And.intro s0 (And.intro z0 (And.intro hnc hcm)))
  have HO := Lib.hid (And.intro hes (And.intro hz hno))
  have hfl := fE_le es key
  -- what is there in the end
  have hfin : Hid (∀ (w' : World) (b2 : Nat), LeafP w' b2 0 (rep es key o) → Below w.heap.size w w' → ReplPost w 0 lo hi (.leaf pg es) key o (.returned (pt b2)) w') := fun w' b2 hl hb => by
    have hr : ∀ x ∈ rep es key o, okE x ∧ ins lo hi x.k := fun x hx => by
      rcases mem_rep hx with h1 | h1
      · exact hok x h1
      · refine ⟨hoE x h1, ?_⟩
        rcases ho with rfl | ⟨v, rfl⟩
        · cases h1
        · simp only [List.mem_singleton] at h1; subst h1; exact hi'
    refine ⟨b2, .leaf 0 (rep es key o), rfl, ⟨0, _, rfl, hl, hlt, srt_rep hsr ho, hr⟩, ⟨by simp only [Tr.es], rfl, Fr.refl _⟩, ?_, fun h => by omega, hb⟩
    have hsum : szs es = szs (es.take (fE es key)) + szs (es.drop (fE es key)) := by rw [← szs_app, List.take_append_drop]
    have hsum2 : szs (es.drop (fE es key)) = szs ((es.drop (fE es key)).take (goneE es key)) + szs (es.drop (fE es key + goneE es key)) := by
      rw [← szs_app, ← List.drop_drop, List.take_append_drop]
    have hso : szs o ≤ 106 := by
      have := (szs_range hoE).2
      rw [hno] at this; omega
    have e1 : szs (rep es key o) = szs (es.take (fE es key)) + (szs o + szs (es.drop (fE es key + goneE es key))) := by unfold rep; rw [szs_app, szs_app]
    have hv : vs (rep es key o).length ≤ 2 := vs_pow 2 _ (by have := rep_len es key o; omega) (by omega)
    have e2 : leafSz (rep es key o) = vs (rep es key o).length + szs (rep es key o) := rfl
    simp only [Tr.sz]
    rw [← hsz]
    unfold leafSz at hsz
    omega
  have hrep : Hid (rep es key o = es.take (fE es key) ++ (o ++ es.drop (fE es key + goneE es key))) := rfl
  have hgo : Hid (goneE es key = if isE es key = true then 1 else 0) := rfl
  obtain ⟨N, hN⟩ : ∃ N, es.length = N := ⟨_, rfl⟩
  have HN := Lib.hid hN
  rw [hN] at q0 Hfd hfl hel HS Hnb
  clear np nb s0 z0 hnc hcm hes hz hno hsr hok hsz hoE ho g1 hN hlt hvp hs
  generalize fE es key = F at *
  generalize goneE es key = Gn at *
  go_enter Tryz.func57, Tryz.ntmps57
  go_wp2_with fail
  refine hil.out.mono ?_
  rintro e w' ⟨rfl, rfl⟩
  clear hil
  go_wp2_with fail
  refine Hfd.out.mono ?_
  rintro e w1 ⟨rfl, hb1⟩
  have HB := Lib.hid hb1
  have q1 := (Hnb.out.ext hb1).c1
  clear Hfd hb1 q0
  have Hcall : ∀ G : Nat, G = Gn → Hid (Calls Tryz.prog 79 #[.slice a0 N c0, .int .i64 F, .int .i64 G, .slice a n c] w1 fun e w' => ∃ v, e = .returned v ∧ CV w' v (rep es key o) ∧ Below w1.heap.size w1 w') := fun G hG => by
    rw [hrep.out, ← hG]
    exact splC_any a0 N c0 es F G a n c o w1 HN.out (HS.out.1.below HB.out (Nat.le_refl _)) HS.out.2.2.1 HS.out.2.2.2 HS.out.2.1 (by omega) HO.out.2.2 HO.out.2.1 (HO.out.1.below HB.out (Nat.le_refl _)) (by omega) (by omega)
  have hend : Hid (∀ (w2 : World) (a4 : Option Addr) (c4 N4 : Nat), (rep es key o).length = N4 → CS w2 a4 (rep es key o) ∧ (a4 = none → c4 = 0) ∧ (rep es key o).length ≤ c4 ∧ c4 ≤ maxLen → Below w1.heap.size w1 w2 → ReplPost w 0 lo hi (.leaf pg es) key o (.returned (pt w2.heap.size)) (w2.alloc (.cells #[.int .i64 0, .slice a4 N4 c4, nilS, nilS] NT))) := fun w2 a4 c4 N4 h1 h2 h3 => by
    have h4 : Below w2.heap.size w2 (w2.alloc (.cells #[.int .i64 0, .slice a4 N4 c4, nilS, nilS] NT)) := (Below.refl _ _).alloc (Nat.le_refl _) _
    have h5 := HB.out.trans (h3.mono HB.out.size)
    exact hfin.out _ _ ⟨_, NP.new _ 0 _ _ _, a4, c4, by rw [h1], h2.1.below h4 (Nat.le_refl _), h2.2⟩ (h5.trans (h4.mono h5.size))
  have Hcall := Lib.hid Hcall
  clear hfin hrep HS HO HB Hnb HN
  cases hI : isE es key with
  | true =>
    have h1 := Lib.hid (Hcall.out 1 (by rw [hgo.out, if_pos hI]))
    clear Hcall hgo hI hfl
    go_wp2_with fail
    refine h1.out.mono ?_
    rintro e w2 ⟨v, rfl, ⟨a4, c4, rfl, s4⟩, hb2⟩
    obtain ⟨N4, hN4⟩ : ∃ N, (rep es key o).length = N := ⟨_, rfl⟩
    have hf := Lib.hid (hend.out w2 a4 c4 N4 hN4 s4 hb2)
    rw [hN4]
    clear hend s4 hb2 hN4 h1
    go_wp2
    go_ret
    exact hf.out
  | false =>
    have h1 := Lib.hid (Hcall.out 0 (by rw [hgo.out, if_neg (by rw [hI]; decide)]))
    clear Hcall hgo hI hfl
    go_wp2_with fail
    refine h1.out.mono ?_
    rintro e w2 ⟨v, rfl, ⟨a4, c4, rfl, s4⟩, hb2⟩
    obtain ⟨N4, hN4⟩ : ∃ N, (rep es key o).length = N := ⟨_, rfl⟩
    have hf := Lib.hid (hend.out w2 a4 c4 N4 hN4 s4 hb2)
    rw [hN4]
    clear hend s4 hb2 hN4 h1
    go_wp2
    go_ret
    exact hf.out
set_option maxRecDepth 100000 in
theorem replaced_bran {h : Nat} {lo hi : SB} (b : Nat) (t : Tr) (key : ByteArray) (a : Option Addr) (n c : Nat) (o : List En) (w : World) (hn : NdT w (h + 1) lo hi b t) (hs : t.sz ≤ 504) (hs3 : 3 ≤ t.sz) (hi' : ins lo hi key)
    (hes : CS w a o)
    (ih : ∀ (lo hi : SB) (b : Nat) (t : Tr) (w : World), NdT w h lo hi b t → t.sz ≤ 504 → (0 < h → 3 ≤ t.sz) → ins lo hi key → CS w a o → Calls Tryz.prog 57 #[pt b, .string key, .slice a n c] w fun e w' => ReplPost w h lo hi t key o e w') :
    Calls Tryz.prog 57 #[pt b, .string key, .slice a n c] w fun e w' => ReplPost w (h + 1) lo hi t key o e w' := by
  obtain ⟨pg, ks, ps, ts, rfl, hbp, hr⟩ := hn
  have hbr := hbp.bran
  simp only [Tr.sz] at hs hs3
  have hle := hr.len
  have hfa := hr.factsT
  have hg := kss_range hfa.2.2.2
  have hkl : ks.length ≤ 126 := by unfold brSz at hs; omega
  have hk1 : 1 ≤ ks.length := by
    cases ks with
    | nil => unfold brSz kss at hs3; simp at hs3
    | cons x r => simp
  have hway := hr.good.way Good.facts hi'
  have hwl := wayS_le ks key
  have hrep : rep (esL ts) key o = esL (ts.take (wayS ks key)) ++ (rep (ta ts (wayS ks key)).es key o ++ esL (ts.drop (wayS ks key + 1))) := by
    have hsplit := ts_split (ts := ts) (i := wayS ks key) (by omega)
    conv => lhs; rw [hsplit, esL_app, esL_app, esL_one]
    exact rep_mid (by rw [esL_flat, List.map_take]; exact hway.2.1) (by rw [esL_flat, List.map_drop]; exact hway.2.2) _ o
  have hkid : GoodT w h (lob lo ks (wayS ks key)) (hib hi ks (wayS ks key)) (na ps (wayS ks key)) (ta ts (wayS ks key)) := hr.kid hwl
  have hkf := hr.good.keys Good.facts
  have Hrep := Lib.hid hrep
  have Hkid := Lib.hid hkid
  have Hin := Lib.hid hway.1
  have Hbr := Lib.hid hbr
  have Hr := Lib.hid hr
  have He := Lib.hid hes
  have Hs := Lib.hid hs
  have Hih := Lib.hid ih
  obtain ⟨vk, vp, nb, ⟨a0, c0, rfl, s0, _⟩, ⟨a1, c1, rfl, s1, _⟩⟩ := hbr
  obtain ⟨g2, o2, rfl, hc2⟩ := s1.ptrs (by omega)
  have hil := Lib.hid (isLeaf_no b _ _ _ _ _ w nb (by omega))
  have q1 := nb.c2
  have Hnb := Lib.hid nb
  have Hway := Lib.hid (brWay_any a0 ks.length c0 ks key w rfl s0.texts hkf (by omega))
  have Hpt := Lib.hid (hc2 (wayS ks key) (by omega))
  have hwm : wayS ks key < ps.length := by omega
  have hm1 : ps.length ≤ 127 := by omega
  have Hk1 := Lib.hid (And.intro hk1 hwl)
  have Hlt : Hid (wayS ks key < ts.length) := by show _ < _; omega
  clear hbp nb s0 s1 hc2 hkid hway hwl hrep hkf hr hes hs ih hg hfa hle hs3 hkl hk1
  generalize wayS ks key = A at *
  generalize ps.length = m at *
  obtain ⟨n0, hn0⟩ : ∃ n0, ks.length = n0 := ⟨_, rfl⟩
  rw [hn0] at q1 Hway
  clear hn0
  go_enter Tryz.func57, Tryz.ntmps57
  go_wp2_with fail
  refine hil.out.mono ?_
  rintro e w' ⟨rfl, rfl⟩
  clear hil
  go_wp2_with fail
  refine Hway.out.mono ?_
  rintro e w1 ⟨rfl, hb1⟩
  have HB := Lib.hid hb1
  have q2 := (Hnb.out.ext hb1).c3
  have q3 : w1.cell? ⟨g2, o2 + A, none⟩ = some (pt (na ps A)) := by
    rw [hb1.cell (p := ⟨g2, o2 + A, none⟩) (block_lt_of_cell Hpt.out)]; exact Hpt.out
  obtain ⟨hk1, hk2, hk3⟩ := Hkid.out
  have Hcall := Lib.hid (Hih.out _ _ (na ps A) (ta ts A) w1 (NdT.ext hb1 h hk1) hk3 (fun _ => by omega) Hin.out (He.out.below hb1 (Nat.le_refl _)))
  clear hb1 hk1 q1 Hway
  have i1 : (0 : Int) ≤ (A : Int) := by omega
  have i2 : (A : Int) < (m : Int) := by omega
  generalize na ps A = pk at *
  go_wp2_with fail
  refine Hcall.out.mono ?_
  rintro e w2 ⟨b2, t2, rfl, hn2, ⟨he2, hp2, hf2⟩, hsz2, _, hb2⟩
  have Hf2 := Lib.hid (And.intro he2 (And.intro hp2 hf2))
  replace HB := Lib.hid (HB.out.trans (hb2.mono HB.out.size))
  have Hm := Lib.hid (mended_any b ks ps ts A b2 t2 t2.sz w2 (Hbr.out.ext HB.out) (Hr.out.mono (fun _ _ _ _ hg => GoodT.ext HB.out hg)) Hk1.out.1 Hs.out Hk1.out.2 hn2 rfl (by omega))
  clear he2 hp2 hf2 Hcall hn2 hb2 hsz2 q2 q3
  go_wp2_with fail
  refine Hm.out.mono ?_
  rintro e w3 ⟨b3, ks2, ps2, ts2, rfl, hbr3, hr3, ⟨hfl3, hfr3⟩, hz1, hz2, hb3⟩
  have Hfin : Hid (ReplPost w (h + 1) lo hi (.bran pg ks ts) key o (.returned (pt b3)) w3) := by
    refine ⟨b3, .bran 0 ks2 ts2, rfl, ndT_succ.2 ⟨0, ks2, ps2, ts2, rfl, hbr3, hr3⟩, ⟨by simp only [Tr.es]; rw [Hrep.out, hfl3, Hf2.out.1], rfl, ?_⟩, by simp only [Tr.sz]; omega, fun _ => ⟨hz1, hz2⟩, HB.out.trans (hb3.mono HB.out.size)⟩
    have f1 : Fr [ta ts A] [t2] (0 + 2 * h + 1) := ((Fr.kids (ta ts A)).trans Hf2.out.2.2).new Hf2.out.2.1
    have f2 := ((Fr.refl (ts.take A)).app (f1.app (Fr.refl (ts.drop (A + 1))))).trans (hfr3 Hf2.out.2.1)
    rw [← ts_split Hlt.out] at f2
    exact f2.mono (by omega)
  clear hfr3 hbr3 hr3 hfl3 hz1 hz2 hb3 Hm
  go_wp2
  go_ret
  exact Hfin.out
theorem replaced_any : ∀ (h : Nat) {lo hi : SB} (b : Nat) (t : Tr) (key : ByteArray) (a : Option Addr) (n c : Nat) (o : List En) (w : World), NdT w h lo hi b t → t.sz ≤ 504 → (0 < h → 3 ≤ t.sz) → ins lo hi key → oneO key o → (∀ x ∈ o, okE x) →
    o.length = n → (a = none → c = 0) → CS w a o → Calls Tryz.prog 57 #[pt b, .string key, .slice a n c] w fun e w' => ReplPost w h lo hi t key o e w'
  | 0, _, _, b, t, key, a, n, c, o, w, hn, hs, _, hi', ho, hoE, hno, hz, hes => replaced_leaf b t key a n c o w hn hs hi' ho hoE hno hes hz
  | h + 1, _, _, b, t, key, a, n, c, o, w, hn, hs, hs3, hi', ho, hoE, hno, hz, hes => replaced_bran b t key a n c o w hn hs (hs3 (by omega)) hi' hes (fun _ _ b t w h1 h2 h3 h4 h5 => replaced_any h b t key a n c o w h1 h2 h3 h4 ho hoE hno hz h5)
end Go.Proofs.YtbgkjniagedcnaaGreatDoor
