/-
  tree's replaced.
-/
import Derived.Test.YtjkpjbgapemieaaGreatDoorMendZ
import Derived.Test.YtjkpjbgapemieaaGreatDoorTFindZ
import Derived.Test.YtjkpjbgapemieaaGreatDoorWayZ
namespace Go.Proofs.YtjkpjbgapemieaaGreatDoor
open Go Go.RowKit

def ReplPost (w : World) (h : Nat) (lo hi : SB) (es : List En) (s : Nat) (key : ByteArray) (o : List En) (e : Ending) (w' : World) : Prop :=
  ∃ b2 s2, e = .returned (pt b2) ∧ Nd w' h lo hi b2 (rep es key o) s2 ∧ s2 ≤ s + 107 ∧ (0 < h → s2 ≤ s + 43 ∧ s ≤ s2 + 43) ∧ Below w.heap.size w w'
set_option maxRecDepth 100000 in
theorem replaced_leaf {lo hi : SB} (b : Nat) (es : List En) (s : Nat) (key : ByteArray) (a : Option Addr) (n c : Nat) (o : List En) (w : World) (hn : Nd w 0 lo hi b es s) (hs : s ≤ 504) (hi' : ins lo hi key) (ho : oneO key o) (hoE : ∀ x ∈ o, okE x)
    (hno : o.length = n) (hes : ES entE w a o) (hz : a = none → c = 0) :
    Calls Tryz.prog 55 #[pt b, .string key, .slice a n c] w fun e w' => ReplPost w 0 lo hi es s key o e w' := by
  obtain ⟨⟨vc, nb, a0, c0, rfl, s0, z0, hnc, hcm⟩, hlt, hsr, hok, hsz⟩ := hn
  have g1 := szs_range (fun x hx => (hok x hx).1)
  have hvp := vs_pos es.length
  have hel : es.length ≤ 200 := by unfold leafSz at hsz; omega
  have hn1 : n ≤ 1 := by rcases ho with rfl | ⟨v, rfl⟩ <;> simp at hno <;> omega
  have q0 := nb.c0
  have hil := Lib.hid (isLeaf_yes b _ _ w nb)
  have Hfd := Lib.hid (tfind_any a0 es.length c0 es key w rfl s0 hsr (by omega))
  have Hnb := Lib.hid nb
  have HS := Lib.hid (And.intro s0 (And.intro z0 (And.intro hnc hcm)))
  have HO := Lib.hid (And.intro hes (And.intro hz hno))
  have hfl := fE_le es key
  -- what is there in the end
  have hfin : Hid (∀ (w' : World) (b2 : Nat), Leaf w' b2 (rep es key o) → Below w.heap.size w w' → ReplPost w 0 lo hi es s key o (.returned (pt b2)) w') := fun w' b2 hl hb => by
    have hr : ∀ x ∈ rep es key o, okE x ∧ ins lo hi x.k := fun x hx => by
      rcases mem_rep hx with h1 | h1
      · exact hok x h1
      · refine ⟨hoE x h1, ?_⟩
        rcases ho with rfl | ⟨v, rfl⟩
        · cases h1
        · simp only [List.mem_singleton] at h1; subst h1; exact hi'
    refine ⟨b2, leafSz (rep es key o), rfl, ⟨hl, hlt, srt_rep hsr ho, hr, rfl⟩, ?_, fun h => by omega, hb⟩
    have hsum : szs es = szs (es.take (fE es key)) + szs (es.drop (fE es key)) := by rw [← szs_app, List.take_append_drop]
    have hsum2 : szs (es.drop (fE es key)) = szs ((es.drop (fE es key)).take (goneE es key)) + szs (es.drop (fE es key + goneE es key)) := by
      rw [← szs_app, ← List.drop_drop, List.take_append_drop]
    have hso : szs o ≤ 106 := by
      have := (szs_range hoE).2
      rw [hno] at this; omega
    have e1 : szs (rep es key o) = szs (es.take (fE es key)) + (szs o + szs (es.drop (fE es key + goneE es key))) := by unfold rep; rw [szs_app, szs_app]
    have hv : vs (rep es key o).length ≤ 2 := vs_pow 2 _ (by have := rep_len es key o; omega) (by omega)
    have e2 : leafSz (rep es key o) = vs (rep es key o).length + szs (rep es key o) := rfl
    unfold leafSz at hsz
    omega
  have hrep : Hid (rep es key o = es.take (fE es key) ++ (o ++ es.drop (fE es key + goneE es key))) := rfl
  have hgo : Hid (goneE es key = if isE es key = true then 1 else 0) := rfl
  obtain ⟨N, hN⟩ : ∃ N, es.length = N := ⟨_, rfl⟩
  have HN := Lib.hid hN
  rw [hN] at q0 Hfd hfl hel HS Hnb
  clear nb s0 z0 hnc hcm hes hz hno hsr hok hsz hoE ho g1 hN hlt hvp hs
  generalize fE es key = F at *
  generalize goneE es key = Gn at *
  go_enter Tryz.func55, Tryz.ntmps55
  go_wp2_with fail
  refine hil.out.mono ?_
  rintro e w' ⟨rfl, rfl⟩
  clear hil
  go_wp2_with fail
  refine Hfd.out.mono ?_
  rintro e w1 ⟨rfl, hb1⟩
  have HB := Lib.hid hb1
  have q1 := (Hnb.out.ext hb1).c0
  clear Hfd hb1 q0
  have Hcall : ∀ G : Nat, G = Gn → Hid (Calls Tryz.prog 76 #[.slice a0 N c0, .int .i64 F, .int .i64 G, .slice a n c] w1 fun e w' => ∃ v, e = .returned v ∧ EV entE w' v (rep es key o) ∧ Below w1.heap.size w1 w') := fun G hG => by
    rw [hrep.out, ← hG]
    exact splE_any a0 N c0 es F G a n c o w1 HN.out (HS.out.1.below HB.out (Nat.le_refl _)) HS.out.2.2.1 HS.out.2.2.2 HS.out.2.1 (by omega) HO.out.2.2 HO.out.2.1 (HO.out.1.below HB.out (Nat.le_refl _)) (by omega) (by omega)
  have hend : Hid (∀ (w2 : World) (a4 : Option Addr) (c4 N4 : Nat), (rep es key o).length = N4 → ES entE w2 a4 (rep es key o) ∧ (a4 = none → c4 = 0) ∧ (rep es key o).length ≤ c4 ∧ c4 ≤ maxLen → Below w1.heap.size w1 w2 → ReplPost w 0 lo hi es s key o (.returned (pt w2.heap.size)) (w2.alloc (.cells #[.slice a4 N4 c4, nilS, nilS] NT))) := fun w2 a4 c4 N4 h1 h2 h3 => by
    have h4 : Below w2.heap.size w2 (w2.alloc (.cells #[.slice a4 N4 c4, nilS, nilS] NT)) := (Below.refl _ _).alloc (Nat.le_refl _) _
    have h5 := HB.out.trans (h3.mono HB.out.size)
    exact hfin.out _ _ ⟨_, NB.new _ _ _ _, a4, c4, by rw [h1], h2.1.below h4 (Nat.le_refl _), h2.2⟩ (h5.trans (h4.mono h5.size))
  have Hcall := Lib.hid Hcall
  clear hfin hrep HS HO HB Hnb HN
  cases hI : isE es key with
  | true =>
    have h1 := Lib.hid (Hcall.out 1 (by rw [hgo.out, if_pos hI]))
    clear Hcall hgo hI hfl
    go_wp2_with fail
    refine h1.out.mono ?_
    rintro e w2 ⟨v, rfl, ⟨a4, c4, rfl, s4⟩, hb2⟩
    obtain ⟨N4, hN4⟩ : ∃ N, (rep es key o).length = N := ⟨_, rfl⟩
    have hf := Lib.hid (hend.out w2 a4 c4 N4 hN4 s4 hb2)
    rw [hN4]
    clear hend s4 hb2 hN4 h1
    go_wp2
    go_ret
    exact hf.out
  | false =>
    have h1 := Lib.hid (Hcall.out 0 (by rw [hgo.out, if_neg (by rw [hI]; decide)]))
    clear Hcall hgo hI hfl
    go_wp2_with fail
    refine h1.out.mono ?_
    rintro e w2 ⟨v, rfl, ⟨a4, c4, rfl, s4⟩, hb2⟩
    obtain ⟨N4, hN4⟩ : ∃ N, (rep es key o).length = N := ⟨_, rfl⟩
    have hf := Lib.hid (hend.out w2 a4 c4 N4 hN4 s4 hb2)
    rw [hN4]
    clear hend s4 hb2 hN4 h1
    go_wp2
    go_ret
    exact hf.out
set_option maxRecDepth 100000 in
theorem replaced_bran {h : Nat} {lo hi : SB} (b : Nat) (es : List En) (s : Nat) (key : ByteArray) (a : Option Addr) (n c : Nat) (o : List En) (w : World) (hn : Nd w (h + 1) lo hi b es s) (hs : s ≤ 504) (hs3 : 3 ≤ s) (hi' : ins lo hi key)
    (hes : ES entE w a o)
    (ih : ∀ (lo hi : SB) (b : Nat) (es : List En) (s : Nat) (w : World), Nd w h lo hi b es s → s ≤ 504 → (0 < h → 3 ≤ s) → ins lo hi key → ES entE w a o → Calls Tryz.prog 55 #[pt b, .string key, .slice a n c] w fun e w' => ReplPost w h lo hi es s key o e w') :
    Calls Tryz.prog 55 #[pt b, .string key, .slice a n c] w fun e w' => ReplPost w (h + 1) lo hi es s key o e w' := by
  obtain ⟨ks, ps, ess, hbr, hr, rfl, rfl⟩ := hn
  have hle := hr.len
  have hfa := hr.facts Good.facts
  have hg := kss_range hfa.2.2.2
  have hkl : ks.length ≤ 126 := by unfold brSz at hs; omega
  have hk1 : 1 ≤ ks.length := by
    cases ks with
    | nil => unfold brSz kss at hs3; simp at hs3
    | cons x r => simp
  have hway := hr.way Good.facts hi'
  have hwl := wayS_le ks key
  have hsplit : ess.flatten = (ess.take (wayS ks key)).flatten ++ (ess.getD (wayS ks key) [] ++ (ess.drop (wayS ks key + 1)).flatten) := by
    rw [← ess_drop (by omega), ← List.flatten_append, List.take_append_drop]
  have hrep : rep ess.flatten key o = (ess.take (wayS ks key)).flatten ++ (rep (ess.getD (wayS ks key) []) key o ++ (ess.drop (wayS ks key + 1)).flatten) := by
    rw [hsplit]; exact rep_mid hway.2.1 hway.2.2 _ o
  have hkid := hr.kid hwl
  have hkf := hr.keys Good.facts
  have Hrep := Lib.hid hrep
  have Hkid := Lib.hid hkid
  have Hin := Lib.hid hway.1
  have Hbr := Lib.hid hbr
  have Hr := Lib.hid hr
  have He := Lib.hid hes
  have Hs := Lib.hid hs
  have Hih := Lib.hid ih
  obtain ⟨vk, vp, nb, ⟨a0, c0, rfl, s0, _⟩, ⟨a1, c1, rfl, s1, _⟩⟩ := hbr
  obtain ⟨g2, o2, rfl, hc2⟩ := s1.ptrs (by omega)
  have hil := Lib.hid (isLeaf_no b _ _ _ _ _ w nb (by omega))
  have q1 := nb.c1
  have Hnb := Lib.hid nb
  have Hway := Lib.hid (brWay_any a0 ks.length c0 ks key w rfl s0.texts hkf (by omega))
  have Hpt := Lib.hid (hc2 (wayS ks key) (by omega))
  have hwm : wayS ks key < ps.length := by omega
  have hm1 : ps.length ≤ 127 := by omega
  have Hk1 := Lib.hid (And.intro hk1 hwl)
  clear nb s0 s1 hc2 hkid hway hwl hsplit hrep hkf hr hes hs ih hg hfa hle hs3 hkl hk1
  generalize wayS ks key = A at *
  generalize ps.length = m at *
  obtain ⟨n0, hn0⟩ : ∃ n0, ks.length = n0 := ⟨_, rfl⟩
  rw [hn0] at q1 Hway
  clear hn0
  go_enter Tryz.func55, Tryz.ntmps55
  go_wp2_with fail
  refine hil.out.mono ?_
  rintro e w' ⟨rfl, rfl⟩
  clear hil
  go_wp2_with fail
  refine Hway.out.mono ?_
  rintro e w1 ⟨rfl, hb1⟩
  have HB := Lib.hid hb1
  have q2 := (Hnb.out.ext hb1).c2
  have q3 : w1.cell? ⟨g2, o2 + A, none⟩ = some (pt (na ps A)) := by
    rw [hb1.cell (p := ⟨g2, o2 + A, none⟩) (block_lt_of_cell Hpt.out)]; exact Hpt.out
  obtain ⟨sk, hk1, hk2, hk3⟩ := Hkid.out
  have Hcall := Lib.hid (Hih.out _ _ (na ps A) (ess.getD A []) sk w1 (Nd.ext hb1 h hk1) hk3 (fun _ => by omega) Hin.out (He.out.below hb1 (Nat.le_refl _)))
  clear hb1 hk1 q1 Hway
  have i1 : (0 : Int) ≤ (A : Int) := by omega
  have i2 : (A : Int) < (m : Int) := by omega
  generalize na ps A = pk at *
  go_wp2_with fail
  refine Hcall.out.mono ?_
  rintro e w2 ⟨b2, s2, rfl, hn2, hsz2, _, hb2⟩
  replace HB := Lib.hid (HB.out.trans (hb2.mono HB.out.size))
  have Hm := Lib.hid (mended_any b ks ps ess A b2 _ s2 w2 (Hbr.out.ext HB.out) (Hr.out.mono (fun _ _ _ _ hg => Good.ext HB.out hg)) Hk1.out.1 Hs.out Hk1.out.2 hn2 (by omega))
  clear Hcall hn2 hb2 hsz2 q2 q3
  go_wp2_with fail
  refine Hm.out.mono ?_
  rintro e w3 ⟨b3, ks2, ps2, ess2, rfl, hbr3, hr3, hfl3, hz1, hz2, hb3⟩
  have Hfin : Hid (ReplPost w (h + 1) lo hi ess.flatten (brSz ks) key o (.returned (pt b3)) w3) := by
    refine ⟨b3, brSz ks2, rfl, nd_succ.2 ⟨ks2, ps2, ess2, hbr3, hr3, by rw [Hrep.out, hfl3], rfl⟩, by omega, fun _ => ⟨hz1, hz2⟩, HB.out.trans (hb3.mono HB.out.size)⟩
  clear hbr3 hr3 hfl3 hz1 hz2 hb3 Hm
  go_wp2
  go_ret
  exact Hfin.out
theorem replaced_any : ∀ (h : Nat) {lo hi : SB} (b : Nat) (es : List En) (s : Nat) (key : ByteArray) (a : Option Addr) (n c : Nat) (o : List En) (w : World), Nd w h lo hi b es s → s ≤ 504 → (0 < h → 3 ≤ s) → ins lo hi key → oneO key o → (∀ x ∈ o, okE x) →
    o.length = n → (a = none → c = 0) → ES entE w a o → Calls Tryz.prog 55 #[pt b, .string key, .slice a n c] w fun e w' => ReplPost w h lo hi es s key o e w'
  | 0, _, _, b, es, s, key, a, n, c, o, w, hn, hs, _, hi', ho, hoE, hno, hz, hes => replaced_leaf b es s key a n c o w hn hs hi' ho hoE hno hes hz
  | h + 1, _, _, b, es, s, key, a, n, c, o, w, hn, hs, hs3, hi', ho, hoE, hno, hz, hes => replaced_bran b es s key a n c o w hn hs (hs3 (by omega)) hi' hes (fun _ _ b es s w h1 h2 h3 h4 h5 => replaced_any h b es s key a n c o w h1 h2 h3 h4 ho hoE hno hz h5)
end Go.Proofs.YtjkpjbgapemieaaGreatDoor
