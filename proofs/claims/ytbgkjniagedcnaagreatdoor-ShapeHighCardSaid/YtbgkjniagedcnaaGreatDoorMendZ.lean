/-
  tree's mended.
-/
import Derived.Test.YtbgkjniagedcnaaGreatDoorMendMathZ
import Derived.Test.YtbgkjniagedcnaaGreatDoorSplZ
namespace Go.Proofs.YtbgkjniagedcnaaGreatDoor
open Go Go.RowKit

def MendPost (w : World) (h : Nat) (lo hi : SB) (ks : List ByteArray) (ts : List Tr) (A : Nat) (t' : Tr) (e : Ending) (w' : World) : Prop :=
  ∃ b2 ks2 ps2 ts2, e = .returned (pt b2) ∧ BranP w' b2 0 ks2 ps2 ∧ KRow (GoodT w' h) ks2 lo hi ps2 ts2 ∧ (esL ts2 = esL (ts.take A) ++ (t'.es ++ esL (ts.drop (A + 1))) ∧ (t'.pg = 0 → Fr (ts.take A ++ ([t'] ++ ts.drop (A + 1))) ts2 1)) ∧ brSz ks2 ≤ brSz ks + 43 ∧ brSz ks ≤ brSz ks2 + 43 ∧ Below w.heap.size w w'
set_option maxHeartbeats 4000000 in
set_option maxRecDepth 100000 in
theorem mended_enough {h : Nat} {lo hi : SB} (b : Nat) (ks : List ByteArray) (ps : List Nat) (ts : List Tr) (A : Nat) (p : Nat) (t' : Tr) (s' : Nat) (w : World) (hb : Bran w b ks ps) (hr : KRow (GoodT w h) ks lo hi ps ts) (hl1 : 1 ≤ ks.length) (hbr : brSz ks ≤ 504) (hA : A ≤ ks.length) (hn : NdT w h (lob lo ks A) (hib hi ks A) p t') (hsz : t'.sz = s') (h126 : 126 ≤ s') (hs : s' ≤ 660) :
    Calls Tryz.prog 78 #[pt b, .int .i64 A, pt p] w fun e w' => MendPost w h lo hi ks ts A t' e w' := by
  have hok := hr.factsT.2.2.2
  have Hsz := Lib.hid hsz
  have Hsn : Hid (∀ w1, Below w.heap.size w w1 → Calls Tryz.prog 81 #[pt p] w1 fun e w' => e = .returned (.int .i64 (s' : Nat)) ∧ Below w1.heap.size w1 w') := fun w1 hb1 => by
    have h1 := size_node w1 (NdT.nd h (NdT.ext hb1 h hn)) (by omega)
    rwa [hsz] at h1
  have hle := hr.len
  have hkl : ks.length ≤ 126 := by have := kss_range hok; unfold brSz at hbr; omega
  obtain ⟨vk, vp, nb, ⟨a0, c, rfl, s0, _, hnc, hcm⟩, ⟨a1, d, rfl, s1, _, hmd, hdm⟩⟩ := hb
  obtain ⟨g, o, rfl, hcell⟩ := s0.texts (by omega)
  obtain ⟨g2, o2, rfl, _⟩ := s1.ptrs (by omega)
  obtain ⟨gp, w0, hgp, hw0, hc0, hb0⟩ := alloc_lit w PNT #[pt p]
  have q2 : w.cell? ⟨b, 3, none⟩ = some (.slice (some ⟨g2, o2, none⟩) ps.length d) := nb.c3
  have hs0 : ES ptrE w0 (some ⟨gp, 0, none⟩) [p] := ES.lit (E := ptrE) (l := [p]) hc0
  have Hspl := Lib.hid (splP_any (some ⟨g2, o2, none⟩) ps.length d ps A 1 (some ⟨gp, 0, none⟩) 1 1 [p] w0 rfl (s1.below hb0 (Nat.le_refl _)) hmd hdm (fun h => by cases h) (by omega) rfl (fun h => by cases h) hs0 (by omega) (by omega))
  have HG := Lib.hid (And.intro hgp hw0)
  have HB := Lib.hid hb0
  have Hlen := Lib.hid (ps1_len ps p A (by omega))
  have Hn := Lib.hid hn
  have Hnb := Lib.hid nb
  have Hr := Lib.hid hr
  have HS := Lib.hid (And.intro s0 (And.intro hnc hcm))
  have HC := Lib.hid hcell
  have Hle := Lib.hid hle
  have Hen := Lib.hid (fun w => enough_any ((s' : Nat) : Int) w)
  rw [decide_eq_true (show (126 : Int) ≤ (s' : Int) by omega)] at Hen
  have hcm' : c ≤ 9223372036854775807 := by unfold maxLen at hcm; omega
  obtain ⟨n, hkn⟩ : ∃ n, ks.length = n := ⟨_, rfl⟩
  obtain ⟨m, hpm⟩ : ∃ m, ps.length = m := ⟨_, rfl⟩
  have HL := Lib.hid (And.intro hkn hpm)
  rw [hpm] at q2 Hspl
  rw [hkn, hpm] at Hnb hle
  rw [hkn] at HS HC hnc hl1 hkl
  rw [hkn] at hA
  have hmn1 : m ≤ n + 1 := by omega
  have hmn2 : n + 1 ≤ m := by omega
  clear hsz hle hok hr hn nb s0 s1 hcell hmd hdm hcm hgp hw0 hc0 hb0 hs0 hkn hpm hbr
  go_enter Tryz.func78, Tryz.ntmps78
  go_wp2_with fail
  rw [HG.out.1, HG.out.2]
  refine Hspl.out.mono ?_
  rintro e w1 ⟨v, rfl, ⟨a3, c3, rfl, s3, z3, hn3, hm3⟩, hb1⟩
  replace HB := Lib.hid (HB.out.trans (hb1.mono HB.out.size))
  rw [Hlen.out, HL.out.2] at hn3 ⊢
  have HS3 := Lib.hid (And.intro s3 (And.intro z3 (And.intro hn3 hm3)))
  clear Hspl HG q2 s3 z3 hn3 hm3 hb1
  go_wp2_with fail
  refine (Hsn.out w1 HB.out).mono ?_
  rintro e w2 ⟨rfl, hb2⟩
  replace HS3 := Lib.hid (And.intro (HS3.out.1.below hb2 (Nat.le_refl _)) HS3.out.2)
  replace HB := Lib.hid (HB.out.trans (hb2.mono HB.out.size))
  clear hb2
  go_wp2_with fail
  refine (Hen.out w2).mono ?_
  rintro e w' ⟨rfl, rfl⟩
  clear Hen
  have Hk := Lib.hid (And.intro (NdT.ext HB.out h Hn.out) (And.intro (show 126 ≤ t'.sz by have := Hsz.out; omega) (show t'.sz ≤ 700 by have := Hsz.out; omega)))
  have q1 : ∀ w', Below w.heap.size w w' → w'.cell? ⟨b, 2, none⟩ = some (.slice (some ⟨g, o, none⟩) n c) := fun w' hx => (Hnb.out.ext hx).c2
  have Hq1 := Lib.hid q1
  clear q1
  go_wp2_with fail
  refine (parted_good w2 Hk.out.1 Hk.out.2.1 Hk.out.2.2).mono ?_
  rintro e w4 ⟨vp, vk, ks', ps', ts', rfl, ⟨ap, cp, rfl, sp, zp, _⟩, ⟨ak, ck, rfl, sk, zk, _⟩, hr', hfl, hk1, hb4⟩
  replace HS3 := Lib.hid (And.intro (HS3.out.1.below hb4 (Nat.le_refl _)) HS3.out.2)
  replace HB := Lib.hid (HB.out.trans (hb4.mono HB.out.size))
  have hle' := hr'.len
  have q1 := Hq1.out w4 HB.out
  have HsS := Lib.hid (splS_any (some ⟨g, o, none⟩) n c ks A 0 ak ks'.length ck ks' w4 HL.out.1 (HS.out.1.below HB.out (Nat.le_refl _)) hnc HS.out.2.2 (fun h => by cases h) (by omega) rfl zk sk (by omega) (by omega))
  have HsP := Lib.hid (And.intro sp zp)
  have Hr' := Lib.hid hr'
  have Hfl := Lib.hid hfl
  obtain ⟨nk, hnk⟩ : ∃ n, ks'.length = n := ⟨_, rfl⟩
  obtain ⟨np, hnp⟩ : ∃ n, ps'.length = n := ⟨_, rfl⟩
  have HLn := Lib.hid (And.intro hnk hnp)
  rw [hnk] at HsS hk1 ⊢
  rw [hnp] at ⊢
  have hnp2 : np ≤ 2 := by omega
  clear hb4 hle' sp zp sk zk hr' hfl hnk hnp Hk Hn
  go_wp2_with fail
  refine HsS.out.mono ?_
  rintro e w5 ⟨vS, rfl, ⟨aS, cS, rfl, eS, rS⟩, hb5⟩
  replace HS3 := Lib.hid (And.intro (HS3.out.1.below hb5 (Nat.le_refl _)) HS3.out.2)
  replace HsP := Lib.hid (And.intro (HsP.out.1.below hb5 (Nat.le_refl _)) HsP.out.2)
  replace HB := Lib.hid (HB.out.trans (hb5.mono HB.out.size))
  replace Hr' : Hid (KRow (GoodT w5 h) ks' (lob lo ks A) (hib hi ks A) ps' ts') := Hr'.out.mono (fun _ _ _ _ hg => GoodT.ext hb5 hg)
  have HeS := Lib.hid (And.intro eS rS)
  have HPp := Lib.hid (splP_any a3 m c3 (ps.take A ++ ([p] ++ ps.drop (A + 1))) A 1 ap np cp ps' w5 (by rw [Hlen.out, HL.out.2]) HS3.out.1 HS3.out.2.2.1 HS3.out.2.2.2 HS3.out.2.1 (by omega) HLn.out.2 HsP.out.2 HsP.out.1 (by omega) (by omega))
  obtain ⟨NS, hNS⟩ : ∃ N, (ks.take A ++ (ks' ++ ks.drop (A + 0))).length = N := ⟨_, rfl⟩
  have HNS := Lib.hid hNS
  rw [hNS]
  clear hb5 eS rS HsS hNS q1
  go_wp2_with fail
  refine HPp.out.mono ?_
  rintro e w6 ⟨vP, rfl, ⟨aP, cP, rfl, eP, rP⟩, hb6⟩
  replace HeS := Lib.hid (And.intro (HeS.out.1.below hb6 (Nat.le_refl _)) HeS.out.2)
  replace HB := Lib.hid (HB.out.trans (hb6.mono HB.out.size))
  replace Hr' : Hid (KRow (GoodT w6 h) ks' (lob lo ks A) (hib hi ks A) ps' ts') := Hr'.out.mono (fun _ _ _ _ hg => GoodT.ext hb6 hg)
  have HeP := Lib.hid (And.intro eP rP)
  obtain ⟨NP, hNP⟩ : ∃ N, ((ps.take A ++ ([p] ++ ps.drop (A + 1))).take A ++ (ps' ++ (ps.take A ++ ([p] ++ ps.drop (A + 1))).drop (A + 1))).length = N := ⟨_, rfl⟩
  have HNP := Lib.hid hNP
  rw [hNP]
  clear hb6 eP rP HPp hNP HsP HS3
  obtain ⟨gN, wN, hgN, hwN, hnbN, hbN⟩ := alloc_node w6 nilS (.slice aS NS cS) (.slice aP NP cP)
  have HGN := Lib.hid (And.intro hgN hwN)
  have HbN := Lib.hid hbN
  have HnbN := Lib.hid hnbN
  replace HB := Lib.hid (HB.out.trans (hbN.mono HB.out.size))
  clear hgN hwN hnbN hbN
  go_wp2
  rw [HGN.out.1, HGN.out.2]
  go_ret
  have hfin := mend_row Hr.out HB.out (i := A) (j := A) (by omega) (by have := HL.out.1; omega) (by omega) (Hr'.out.mono (fun _ _ _ _ hg => GoodT.ext HbN.out hg)) (by rw [HLn.out.1]; exact hk1)
  have hbran : BranP wN gN 0 (ks.take A ++ (ks' ++ ks.drop A)) (ps.take A ++ (ps' ++ ps.drop (A + 1))) := by
    rw [Nat.add_zero] at HNS HeS
    refine ⟨_, _, HnbN.out, ⟨aS, cS, by rw [HNS.out], HeS.out.1.below HbN.out (Nat.le_refl _), by rw [HNS.out]; rw [HNS.out] at HeS; exact HeS.out.2⟩, ?_⟩
    have e3 := HeP.out
    have hN2 := HNP.out
    rw [ps1_take ps p A A (by have := HL.out.2; have := Hle.out; omega) (by omega), ps1_drop ps p _ A (by have := HL.out.2; have := Hle.out; omega) (by omega)] at e3 hN2
    exact ⟨aP, cP, by rw [hN2], e3.1.below HbN.out (Nat.le_refl _), e3.2⟩
  refine ⟨gN, _, _, _, rfl, hbran, hfin.1, ⟨?_, fun h0 => ?_⟩, hfin.2.1, hfin.2.2, HB.out⟩
  · rw [esL_app, esL_app, Hfl.out.1]
  · exact ((Fr.refl _).app ((Hfl.out.2.fr h0).app (Fr.refl _))).mono (by omega)
set_option maxHeartbeats 4000000 in
set_option maxRecDepth 100000 in
theorem mended_first {h : Nat} {lo hi : SB} (b : Nat) (ks : List ByteArray) (ps : List Nat) (ts : List Tr) (p : Nat) (t' : Tr) (s' : Nat) (w : World) (hb : Bran w b ks ps) (hr : KRow (GoodT w h) ks lo hi ps ts) (hl1 : 1 ≤ ks.length) (hbr : brSz ks ≤ 504) (hn : NdT w h (lob lo ks 0) (hib hi ks 0) p t') (hsz : t'.sz = s') (h126 : s' < 126)  :
    Calls Tryz.prog 78 #[pt b, .int .i64 0, pt p] w fun e w' => MendPost w h lo hi ks ts 0 t' e w' := by
  have hok := hr.factsT.2.2.2
  have Hsz := Lib.hid hsz
  have Hsn : Hid (∀ w1, Below w.heap.size w w1 → Calls Tryz.prog 81 #[pt p] w1 fun e w' => e = .returned (.int .i64 (s' : Nat)) ∧ Below w1.heap.size w1 w') := fun w1 hb1 => by
    have h1 := size_node w1 (NdT.nd h (NdT.ext hb1 h hn)) (by omega)
    rwa [hsz] at h1
  have hle := hr.len
  have hkl : ks.length ≤ 126 := by have := kss_range hok; unfold brSz at hbr; omega
  obtain ⟨vk, vp, nb, ⟨a0, c, rfl, s0, _, hnc, hcm⟩, ⟨a1, d, rfl, s1, _, hmd, hdm⟩⟩ := hb
  obtain ⟨g, o, rfl, hcell⟩ := s0.texts (by omega)
  obtain ⟨g2, o2, rfl, _⟩ := s1.ptrs (by omega)
  obtain ⟨gp, w0, hgp, hw0, hc0, hb0⟩ := alloc_lit w PNT #[pt p]
  have q2 : w.cell? ⟨b, 3, none⟩ = some (.slice (some ⟨g2, o2, none⟩) ps.length d) := nb.c3
  have hs0 : ES ptrE w0 (some ⟨gp, 0, none⟩) [p] := ES.lit (E := ptrE) (l := [p]) hc0
  have Hspl := Lib.hid (splP_any (some ⟨g2, o2, none⟩) ps.length d ps 0 1 (some ⟨gp, 0, none⟩) 1 1 [p] w0 rfl (s1.below hb0 (Nat.le_refl _)) hmd hdm (fun h => by cases h) (by omega) rfl (fun h => by cases h) hs0 (by omega) (by omega))
  have HG := Lib.hid (And.intro hgp hw0)
  have HB := Lib.hid hb0
  have Hlen := Lib.hid (ps1_len ps p 0 (by omega))
  have Hn := Lib.hid hn
  have Hnb := Lib.hid nb
  have Hr := Lib.hid hr
  have HS := Lib.hid (And.intro s0 (And.intro hnc hcm))
  have HC := Lib.hid hcell
  have Hle := Lib.hid hle
  have Hen := Lib.hid (fun w => enough_any ((s' : Nat) : Int) w)
  rw [decide_eq_false (show ¬ (126 : Int) ≤ (s' : Int) by omega)] at Hen
  have hcm' : c ≤ 9223372036854775807 := by unfold maxLen at hcm; omega
  obtain ⟨n, hkn⟩ : ∃ n, ks.length = n := ⟨_, rfl⟩
  obtain ⟨m, hpm⟩ : ∃ m, ps.length = m := ⟨_, rfl⟩
  have HL := Lib.hid (And.intro hkn hpm)
  rw [hpm] at q2 Hspl
  rw [hkn, hpm] at Hnb hle
  rw [hkn] at HS HC hnc hl1 hkl
  have hkid : GoodT w h (lob lo ks 1) (hib hi ks 1) (na ps 1) (ta ts 1) := hr.kid (m := 1) (by omega)
  have e0 : hib hi ks 0 = some (sa ks 0) := by unfold hib; rw [if_pos (by omega)]
  have e1 : lob lo ks 1 = some (sa ks 0) := rfl
  rw [e0] at Hn
  rw [e1] at hkid
  have HE1 := Lib.hid hkid
  have Hk0 := Lib.hid (hok _ (sa_mem (show 0 < ks.length by omega)))
  have HQ := Lib.hid (And.intro (ps1_at ps p 0 (by omega)) (ps1_gt ps p 0 (by omega)))
  clear hkid e0 e1
  have hmn1 : m ≤ n + 1 := by omega
  have hmn2 : n + 1 ≤ m := by omega
  clear hsz hle hok hr hn nb s0 s1 hcell hmd hdm hcm hgp hw0 hc0 hb0 hs0 hkn hpm hbr
  go_enter Tryz.func78, Tryz.ntmps78
  go_wp2_with fail
  rw [HG.out.1, HG.out.2]
  refine Hspl.out.mono ?_
  rintro e w1 ⟨v, rfl, ⟨a3, c3, rfl, s3, z3, hn3, hm3⟩, hb1⟩
  replace HB := Lib.hid (HB.out.trans (hb1.mono HB.out.size))
  rw [Hlen.out, HL.out.2] at hn3 ⊢
  have HS3 := Lib.hid (And.intro s3 (And.intro z3 (And.intro hn3 hm3)))
  clear Hspl HG q2 s3 z3 hn3 hm3 hb1
  go_wp2_with fail
  refine (Hsn.out w1 HB.out).mono ?_
  rintro e w2 ⟨rfl, hb2⟩
  replace HS3 := Lib.hid (And.intro (HS3.out.1.below hb2 (Nat.le_refl _)) HS3.out.2)
  replace HB := Lib.hid (HB.out.trans (hb2.mono HB.out.size))
  clear hb2
  go_wp2_with fail
  refine (Hen.out w2).mono ?_
  rintro e w' ⟨rfl, rfl⟩
  clear Hen
  obtain ⟨g3, o3, rfl, hc3⟩ := HS3.out.1.ptrs (by rw [Hlen.out, HL.out.2]; omega)
  obtain ⟨W, hW⟩ : ∃ W, w2.drew = W := ⟨_, rfl⟩
  have hbd : Below w2.heap.size w2 W := by rw [← hW]; exact (Below.refl _ _).drew
  have f0 := hc3 0 (by rw [Hlen.out, HL.out.2]; omega)
  have f1 := hc3 (0 + 1) (by rw [Hlen.out, HL.out.2]; omega)
  have f2 := HC.out 0 (by omega)
  rw [HQ.out.1] at f0
  rw [HQ.out.2] at f1
  replace HS3 := Lib.hid (And.intro (HS3.out.1.below hbd (Nat.le_refl _)) HS3.out.2)
  obtain ⟨hq1, hq2⟩ := HE1.out
  have l0 := block_lt_of_cell f0
  have l1 := block_lt_of_cell f1
  have l2 := block_lt_of_cell f2
  replace HB := Lib.hid (HB.out.trans (hbd.mono HB.out.size))
  have q0 : ∀ w', Ext W w' → w'.cell? ⟨g3, o3, none⟩ = some (pt p) := fun w' hx => by
    rw [(hbd.trans (hx.mono hbd.size)).cell (p := ⟨g3, o3, none⟩) l0]; exact f0
  have q3 : ∀ w', Ext W w' → w'.cell? ⟨g3, o3 + 1, none⟩ = some (pt (na ps (0 + 1))) := fun w' hx => by
    rw [(hbd.trans (hx.mono hbd.size)).cell (p := ⟨g3, o3 + 1, none⟩) l1]; exact f1
  have q4 : ∀ w', Ext W w' → w'.cell? ⟨g, o, none⟩ = some (.string (sa ks 0)) := fun w' hx => by
    rw [(HB.out.trans (hx.mono HB.out.size)).cell (p := ⟨g, o, none⟩) l2]; exact f2
  have q5 : ∀ w', Ext W w' → w'.cell? ⟨b, 2, none⟩ = some (.slice (some ⟨g, o, none⟩) n c) := fun w' hx => ((Hnb.out.ext HB.out).ext hx).c2
  have Hj := Lib.hid (joined_node W (NdT.ext HB.out h Hn.out) (NdT.ext HB.out h hq1) Hk0.out (by have := Hsz.out; omega))
  have HW := Lib.hid hW
  have h0m : (0 : Int) < (m : Int) := by omega
  have h1m : (1 : Int) < (m : Int) := by omega
  have h0n : (0 : Int) < (n : Int) := by omega
  have h0m' : 0 < m := by omega
  have h1m' : 1 < m := by omega
  have h0n' : 0 < n := by omega
  have z00 : IntKind.i64.wrap 0 = 0 := by decide
  have z01 : IntKind.i64.wrap 1 = 1 := by decide
  have mx : max (-1 : Int) 0 = 0 := by decide
  generalize na ps (0 + 1) = pn at *
  generalize sa ks 0 = kk at *
  clear f0 f1 f2 l0 l1 l2 hbd hc3 HQ hW HE1 hq1 HC
  go_wp2_with fail
  refine wp_region_gr [(0, true), (1, true), (2, true), (3, true), (4, true), (5, true), (6, true), (7, true), (8, true), (9, true), (10, true), (11, true), (12, true), (13, true), (14, true), (15, true), (16, false), (17, true)] (by kernel_rfl) (by kernel_rfl) (by kernel_rfl) (by kernel_rfl) (fun _ _ _ _ _ h => h) ?_
  rw [HW.out]
  iterate 16 (refine wpGr_read (o := ⟨_, _, _, _, _, _⟩) (v := ?_) rfl (by rfl) ?_ ?_; rotate_left; (intro w' hw'; go_simp; with_reducible rfl); simp only [Act.put, List.setIfInBounds_toArray, List.set_cons_zero, List.set_cons_succ])
  clear q0 q3 q4 q5
  refine wpGr_call (o := ⟨_, _, _, _, _, _⟩) rfl (by rfl) (fun K hK => ?_)
  go_simp
  refine Hj.out.mono ?_
  rintro e w3 ⟨bj, tj, rfl, hj1, hj0, hj2, hj3, hj4, hb3⟩
  have Hj0 := Lib.hid hj0
  refine hK _ _ hb3 ?_
  clear hK K Hj
  have Hk : Hid (NdT w3 h (lob lo ks 0) (hib hi ks 1) bj tj ∧ 126 ≤ tj.sz ∧ tj.sz ≤ 700) := ⟨hj1, by omega, by have := Hsz.out; omega⟩
  replace HS3 := Lib.hid (And.intro (HS3.out.1.below hb3 (Nat.le_refl _)) HS3.out.2)
  replace HB := Lib.hid (HB.out.trans (hb3.mono HB.out.size))
  clear hj0 hj1 hj2 hj3 hj4 hb3
  (refine wpGr_read (o := ⟨_, _, _, _, _, _⟩) (v := ?_) rfl (by rfl) ?_ ?_; rotate_left; (intro w' hw'; go_simp; with_reducible rfl); simp only [Act.put, List.setIfInBounds_toArray, List.set_cons_zero, List.set_cons_succ])
  refine wpGr_done ?_
  have q1 : ∀ w', Below w.heap.size w w' → w'.cell? ⟨b, 2, none⟩ = some (.slice (some ⟨g, o, none⟩) n c) := fun w' hx => (Hnb.out.ext hx).c2
  have Hq1 := Lib.hid q1
  clear q1
  go_wp2_with fail
  refine (parted_good w3 Hk.out.1 Hk.out.2.1 Hk.out.2.2).mono ?_
  rintro e w4 ⟨vp, vk, ks', ps', ts', rfl, ⟨ap, cp, rfl, sp, zp, _⟩, ⟨ak, ck, rfl, sk, zk, _⟩, hr', hfl, hk1, hb4⟩
  replace HS3 := Lib.hid (And.intro (HS3.out.1.below hb4 (Nat.le_refl _)) HS3.out.2)
  replace HB := Lib.hid (HB.out.trans (hb4.mono HB.out.size))
  have hle' := hr'.len
  have q1 := Hq1.out w4 HB.out
  have HsS := Lib.hid (splS_any (some ⟨g, o, none⟩) n c ks 0 1 ak ks'.length ck ks' w4 HL.out.1 (HS.out.1.below HB.out (Nat.le_refl _)) hnc HS.out.2.2 (fun h => by cases h) (by omega) rfl zk sk (by omega) (by omega))
  have HsP := Lib.hid (And.intro sp zp)
  have Hr' := Lib.hid hr'
  have Hfl := Lib.hid hfl
  obtain ⟨nk, hnk⟩ : ∃ n, ks'.length = n := ⟨_, rfl⟩
  obtain ⟨np, hnp⟩ : ∃ n, ps'.length = n := ⟨_, rfl⟩
  have HLn := Lib.hid (And.intro hnk hnp)
  rw [hnk] at HsS hk1 ⊢
  rw [hnp] at ⊢
  have hnp2 : np ≤ 2 := by omega
  clear hb4 hle' sp zp sk zk hr' hfl hnk hnp Hk Hn
  go_wp2_with fail
  refine HsS.out.mono ?_
  rintro e w5 ⟨vS, rfl, ⟨aS, cS, rfl, eS, rS⟩, hb5⟩
  replace HS3 := Lib.hid (And.intro (HS3.out.1.below hb5 (Nat.le_refl _)) HS3.out.2)
  replace HsP := Lib.hid (And.intro (HsP.out.1.below hb5 (Nat.le_refl _)) HsP.out.2)
  replace HB := Lib.hid (HB.out.trans (hb5.mono HB.out.size))
  replace Hr' : Hid (KRow (GoodT w5 h) ks' (lob lo ks 0) (hib hi ks 1) ps' ts') := Hr'.out.mono (fun _ _ _ _ hg => GoodT.ext hb5 hg)
  have HeS := Lib.hid (And.intro eS rS)
  have HPp := Lib.hid (splP_any (some ⟨g3, o3, none⟩) m c3 (ps.take 0 ++ ([p] ++ ps.drop (0 + 1))) 0 2 ap np cp ps' w5 (by rw [Hlen.out, HL.out.2]) HS3.out.1 HS3.out.2.2.1 HS3.out.2.2.2 HS3.out.2.1 (by omega) HLn.out.2 HsP.out.2 HsP.out.1 (by omega) (by omega))
  obtain ⟨NS, hNS⟩ : ∃ N, (ks.take 0 ++ (ks' ++ ks.drop (0 + 1))).length = N := ⟨_, rfl⟩
  have HNS := Lib.hid hNS
  rw [hNS]
  clear hb5 eS rS HsS hNS q1
  go_wp2_with fail
  refine HPp.out.mono ?_
  rintro e w6 ⟨vP, rfl, ⟨aP, cP, rfl, eP, rP⟩, hb6⟩
  replace HeS := Lib.hid (And.intro (HeS.out.1.below hb6 (Nat.le_refl _)) HeS.out.2)
  replace HB := Lib.hid (HB.out.trans (hb6.mono HB.out.size))
  replace Hr' : Hid (KRow (GoodT w6 h) ks' (lob lo ks 0) (hib hi ks 1) ps' ts') := Hr'.out.mono (fun _ _ _ _ hg => GoodT.ext hb6 hg)
  have HeP := Lib.hid (And.intro eP rP)
  obtain ⟨NP, hNP⟩ : ∃ N, ((ps.take 0 ++ ([p] ++ ps.drop (0 + 1))).take 0 ++ (ps' ++ (ps.take 0 ++ ([p] ++ ps.drop (0 + 1))).drop (0 + 2))).length = N := ⟨_, rfl⟩
  have HNP := Lib.hid hNP
  rw [hNP]
  clear hb6 eP rP HPp hNP HsP HS3
  obtain ⟨gN, wN, hgN, hwN, hnbN, hbN⟩ := alloc_node w6 nilS (.slice aS NS cS) (.slice aP NP cP)
  have HGN := Lib.hid (And.intro hgN hwN)
  have HbN := Lib.hid hbN
  have HnbN := Lib.hid hnbN
  replace HB := Lib.hid (HB.out.trans (hbN.mono HB.out.size))
  clear hgN hwN hnbN hbN
  go_wp2
  rw [HGN.out.1, HGN.out.2]
  go_ret
  have hfin := mend_row Hr.out HB.out (i := 0) (j := 1) (by omega) (by have := HL.out.1; omega) (by omega) (Hr'.out.mono (fun _ _ _ _ hg => GoodT.ext HbN.out hg)) (by rw [HLn.out.1]; exact hk1)
  have hbran : BranP wN gN 0 (ks.take 0 ++ (ks' ++ ks.drop 1)) (ps.take 0 ++ (ps' ++ ps.drop (1 + 1))) := by
    rw [Nat.zero_add] at HNS HeS
    refine ⟨_, _, HnbN.out, ⟨aS, cS, by rw [HNS.out], HeS.out.1.below HbN.out (Nat.le_refl _), by rw [HNS.out]; rw [HNS.out] at HeS; exact HeS.out.2⟩, ?_⟩
    have e3 := HeP.out
    have hN2 := HNP.out
    rw [ps1_take ps p 0 0 (by have := HL.out.2; have := Hle.out; omega) (by omega), ps1_drop ps p _ 0 (by have := HL.out.2; have := Hle.out; omega) (by omega)] at e3 hN2
    rw [show 0 + 2 = 1 + 1 from rfl] at e3 hN2
    exact ⟨aP, cP, by rw [hN2], e3.1.below HbN.out (Nat.le_refl _), e3.2⟩
  refine ⟨gN, _, _, _, rfl, hbran, hfin.1, ⟨?_, fun h0 => ?_⟩, hfin.2.1, hfin.2.2, HB.out⟩
  · rw [esL_app, esL_app, Hfl.out.1, Hj0.out.1, ts_drop (ts := ts) (i := 0 + 1) (by have := Hle.out; have := HL.out.1; omega)]
    simp only [esL, List.append_assoc, Nat.zero_add]
  · rw [ts_drop (ts := ts) (i := 0 + 1) (by have := Hle.out; have := HL.out.1; omega)]
    have f := (fr_join Hj0.out.2.1 Hj0.out.2.2 (.inl h0)).trans (Hfl.out.2.fr Hj0.out.2.1)
    exact ((Fr.refl (ts.take 0)).app (f.app (Fr.refl (ts.drop 2)))).mono (by omega)
set_option maxHeartbeats 4000000 in
set_option maxRecDepth 100000 in
theorem mended_next {h : Nat} {lo hi : SB} (b : Nat) (ks : List ByteArray) (ps : List Nat) (ts : List Tr) (A J : Nat) (p : Nat) (t' : Tr) (s' : Nat) (w : World) (hb : Bran w b ks ps) (hr : KRow (GoodT w h) ks lo hi ps ts) (hl1 : 1 ≤ ks.length) (hbr : brSz ks ≤ 504) (hAJ : A = J + 1) (hA : A ≤ ks.length) (hn : NdT w h (lob lo ks A) (hib hi ks A) p t') (hsz : t'.sz = s') (h126 : s' < 126)  :
    Calls Tryz.prog 78 #[pt b, .int .i64 A, pt p] w fun e w' => MendPost w h lo hi ks ts A t' e w' := by
  have hok := hr.factsT.2.2.2
  have Hsz := Lib.hid hsz
  have Hsn : Hid (∀ w1, Below w.heap.size w w1 → Calls Tryz.prog 81 #[pt p] w1 fun e w' => e = .returned (.int .i64 (s' : Nat)) ∧ Below w1.heap.size w1 w') := fun w1 hb1 => by
    have h1 := size_node w1 (NdT.nd h (NdT.ext hb1 h hn)) (by omega)
    rwa [hsz] at h1
  have hle := hr.len
  have hkl : ks.length ≤ 126 := by have := kss_range hok; unfold brSz at hbr; omega
  obtain ⟨vk, vp, nb, ⟨a0, c, rfl, s0, _, hnc, hcm⟩, ⟨a1, d, rfl, s1, _, hmd, hdm⟩⟩ := hb
  obtain ⟨g, o, rfl, hcell⟩ := s0.texts (by omega)
  obtain ⟨g2, o2, rfl, _⟩ := s1.ptrs (by omega)
  obtain ⟨gp, w0, hgp, hw0, hc0, hb0⟩ := alloc_lit w PNT #[pt p]
  have q2 : w.cell? ⟨b, 3, none⟩ = some (.slice (some ⟨g2, o2, none⟩) ps.length d) := nb.c3
  have hs0 : ES ptrE w0 (some ⟨gp, 0, none⟩) [p] := ES.lit (E := ptrE) (l := [p]) hc0
  have Hspl := Lib.hid (splP_any (some ⟨g2, o2, none⟩) ps.length d ps A 1 (some ⟨gp, 0, none⟩) 1 1 [p] w0 rfl (s1.below hb0 (Nat.le_refl _)) hmd hdm (fun h => by cases h) (by omega) rfl (fun h => by cases h) hs0 (by omega) (by omega))
  have HG := Lib.hid (And.intro hgp hw0)
  have HB := Lib.hid hb0
  have Hlen := Lib.hid (ps1_len ps p A (by omega))
  have Hn := Lib.hid hn
  have Hnb := Lib.hid nb
  have Hr := Lib.hid hr
  have HS := Lib.hid (And.intro s0 (And.intro hnc hcm))
  have HC := Lib.hid hcell
  have Hle := Lib.hid hle
  have Hen := Lib.hid (fun w => enough_any ((s' : Nat) : Int) w)
  rw [decide_eq_false (show ¬ (126 : Int) ≤ (s' : Int) by omega)] at Hen
  have hcm' : c ≤ 9223372036854775807 := by unfold maxLen at hcm; omega
  obtain ⟨n, hkn⟩ : ∃ n, ks.length = n := ⟨_, rfl⟩
  obtain ⟨m, hpm⟩ : ∃ m, ps.length = m := ⟨_, rfl⟩
  have HL := Lib.hid (And.intro hkn hpm)
  rw [hpm] at q2 Hspl
  rw [hkn, hpm] at Hnb hle
  rw [hkn] at HS HC hnc hl1 hkl
  have hkid : GoodT w h (lob lo ks J) (hib hi ks J) (na ps J) (ta ts J) := hr.kid (m := J) (by omega)
  have e0 : hib hi ks J = some (sa ks J) := by unfold hib; rw [if_pos (by omega)]
  have e1 : lob lo ks A = some (sa ks J) := by rw [hAJ]; rfl
  rw [e1] at Hn
  rw [e0] at hkid
  have HE1 := Lib.hid hkid
  have Hk0 := Lib.hid (hok _ (sa_mem (show J < ks.length by omega)))
  have HQ := Lib.hid (And.intro (ps1_lt ps p A J (by omega) (by omega)) (ps1_at ps p A (by omega)))
  rw [hkn] at hA
  have hJn : J < n := by omega
  have zJ : IntKind.i64.wrap ((A : Int) - 1) = (J : Int) := by rw [IntKind.wrap_i64]; omega
  have zA : IntKind.i64.wrap ((J : Int) + 1) = (A : Int) := by rw [IntKind.wrap_i64]; omega
  have mJ : max (J : Int) 0 = (J : Int) := by omega
  have HAJ := Lib.hid hAJ
  have hJA : J < A := by omega
  clear hkid e0 e1 hAJ
  have hmn1 : m ≤ n + 1 := by omega
  have hmn2 : n + 1 ≤ m := by omega
  clear hsz hle hok hr hn nb s0 s1 hcell hmd hdm hcm hgp hw0 hc0 hb0 hs0 hkn hpm hbr
  go_enter Tryz.func78, Tryz.ntmps78
  go_wp2_with fail
  rw [HG.out.1, HG.out.2]
  refine Hspl.out.mono ?_
  rintro e w1 ⟨v, rfl, ⟨a3, c3, rfl, s3, z3, hn3, hm3⟩, hb1⟩
  replace HB := Lib.hid (HB.out.trans (hb1.mono HB.out.size))
  rw [Hlen.out, HL.out.2] at hn3 ⊢
  have HS3 := Lib.hid (And.intro s3 (And.intro z3 (And.intro hn3 hm3)))
  clear Hspl HG q2 s3 z3 hn3 hm3 hb1
  go_wp2_with fail
  refine (Hsn.out w1 HB.out).mono ?_
  rintro e w2 ⟨rfl, hb2⟩
  replace HS3 := Lib.hid (And.intro (HS3.out.1.below hb2 (Nat.le_refl _)) HS3.out.2)
  replace HB := Lib.hid (HB.out.trans (hb2.mono HB.out.size))
  clear hb2
  go_wp2_with fail
  refine (Hen.out w2).mono ?_
  rintro e w' ⟨rfl, rfl⟩
  clear Hen
  obtain ⟨g3, o3, rfl, hc3⟩ := HS3.out.1.ptrs (by rw [Hlen.out, HL.out.2]; omega)
  obtain ⟨W, hW⟩ : ∃ W, w2.drew = W := ⟨_, rfl⟩
  have hbd : Below w2.heap.size w2 W := by rw [← hW]; exact (Below.refl _ _).drew
  have f0 := hc3 J (by rw [Hlen.out, HL.out.2]; omega)
  have f1 := hc3 A (by rw [Hlen.out, HL.out.2]; omega)
  have f2 := HC.out J (by omega)
  rw [HQ.out.1] at f0
  rw [HQ.out.2] at f1
  replace HS3 := Lib.hid (And.intro (HS3.out.1.below hbd (Nat.le_refl _)) HS3.out.2)
  obtain ⟨hq1, hq2⟩ := HE1.out
  have l0 := block_lt_of_cell f0
  have l1 := block_lt_of_cell f1
  have l2 := block_lt_of_cell f2
  replace HB := Lib.hid (HB.out.trans (hbd.mono HB.out.size))
  have q0 : ∀ w', Ext W w' → w'.cell? ⟨g3, o3 + J, none⟩ = some (pt (na ps J)) := fun w' hx => by
    rw [(hbd.trans (hx.mono hbd.size)).cell (p := ⟨g3, o3 + J, none⟩) l0]; exact f0
  have q3 : ∀ w', Ext W w' → w'.cell? ⟨g3, o3 + A, none⟩ = some (pt p) := fun w' hx => by
    rw [(hbd.trans (hx.mono hbd.size)).cell (p := ⟨g3, o3 + A, none⟩) l1]; exact f1
  have q4 : ∀ w', Ext W w' → w'.cell? ⟨g, o + J, none⟩ = some (.string (sa ks J)) := fun w' hx => by
    rw [(HB.out.trans (hx.mono HB.out.size)).cell (p := ⟨g, o + J, none⟩) l2]; exact f2
  have q5 : ∀ w', Ext W w' → w'.cell? ⟨b, 2, none⟩ = some (.slice (some ⟨g, o, none⟩) n c) := fun w' hx => ((Hnb.out.ext HB.out).ext hx).c2
  have Hj := Lib.hid (joined_node W (NdT.ext HB.out h hq1) (NdT.ext HB.out h Hn.out) Hk0.out (by have := Hsz.out; omega))
  have HW := Lib.hid hW
  have h0m : (J : Int) < (m : Int) := by omega
  have h1m : (A : Int) < (m : Int) := by omega
  have h0n : (J : Int) < (n : Int) := by omega
  have h0m' : J < m := by omega
  have h1m' : A < m := by omega
  have h00 : (0 : Int) ≤ (J : Int) := by omega
  have h01 : (0 : Int) ≤ (A : Int) := by omega
  have z00 : IntKind.i64.wrap (J : Int) = (J : Int) := by rw [IntKind.wrap_i64]; omega
  have z01 : IntKind.i64.wrap (A : Int) = (A : Int) := by rw [IntKind.wrap_i64]; omega
  generalize na ps J = pn at *
  generalize sa ks J = kk at *
  clear f0 f1 f2 l0 l1 l2 hbd hc3 HQ hW HE1 hq1 HC
  go_wp2_with fail
  refine wp_region_gr [(0, true), (1, true), (2, true), (3, true), (4, true), (5, true), (6, true), (7, true), (8, true), (9, true), (10, true), (11, true), (12, true), (13, true), (14, true), (15, true), (16, false), (17, true)] (by kernel_rfl) (by kernel_rfl) (by kernel_rfl) (by kernel_rfl) (fun _ _ _ _ _ h => h) ?_
  rw [HW.out]
  iterate 16 (refine wpGr_read (o := ⟨_, _, _, _, _, _⟩) (v := ?_) rfl (by rfl) ?_ ?_; rotate_left; (intro w' hw'; go_simp; with_reducible rfl); simp only [Act.put, List.setIfInBounds_toArray, List.set_cons_zero, List.set_cons_succ])
  clear q0 q3 q4 q5
  refine wpGr_call (o := ⟨_, _, _, _, _, _⟩) rfl (by rfl) (fun K hK => ?_)
  go_simp
  refine Hj.out.mono ?_
  rintro e w3 ⟨bj, tj, rfl, hj1, hj0, hj2, hj3, hj4, hb3⟩
  have Hj0 := Lib.hid hj0
  refine hK _ _ hb3 ?_
  clear hK K Hj
  have Hk : Hid (NdT w3 h (lob lo ks J) (hib hi ks A) bj tj ∧ 126 ≤ tj.sz ∧ tj.sz ≤ 700) := ⟨hj1, by omega, by have := Hsz.out; omega⟩
  replace HS3 := Lib.hid (And.intro (HS3.out.1.below hb3 (Nat.le_refl _)) HS3.out.2)
  replace HB := Lib.hid (HB.out.trans (hb3.mono HB.out.size))
  clear hj0 hj1 hj2 hj3 hj4 hb3
  (refine wpGr_read (o := ⟨_, _, _, _, _, _⟩) (v := ?_) rfl (by rfl) ?_ ?_; rotate_left; (intro w' hw'; go_simp; with_reducible rfl); simp only [Act.put, List.setIfInBounds_toArray, List.set_cons_zero, List.set_cons_succ])
  refine wpGr_done ?_
  have q1 : ∀ w', Below w.heap.size w w' → w'.cell? ⟨b, 2, none⟩ = some (.slice (some ⟨g, o, none⟩) n c) := fun w' hx => (Hnb.out.ext hx).c2
  have Hq1 := Lib.hid q1
  clear q1
  go_wp2_with fail
  refine (parted_good w3 Hk.out.1 Hk.out.2.1 Hk.out.2.2).mono ?_
  rintro e w4 ⟨vp, vk, ks', ps', ts', rfl, ⟨ap, cp, rfl, sp, zp, _⟩, ⟨ak, ck, rfl, sk, zk, _⟩, hr', hfl, hk1, hb4⟩
  replace HS3 := Lib.hid (And.intro (HS3.out.1.below hb4 (Nat.le_refl _)) HS3.out.2)
  replace HB := Lib.hid (HB.out.trans (hb4.mono HB.out.size))
  have hle' := hr'.len
  have q1 := Hq1.out w4 HB.out
  have HsS := Lib.hid (splS_any (some ⟨g, o, none⟩) n c ks J 1 ak ks'.length ck ks' w4 HL.out.1 (HS.out.1.below HB.out (Nat.le_refl _)) hnc HS.out.2.2 (fun h => by cases h) (by omega) rfl zk sk (by omega) (by omega))
  have HsP := Lib.hid (And.intro sp zp)
  have Hr' := Lib.hid hr'
  have Hfl := Lib.hid hfl
  obtain ⟨nk, hnk⟩ : ∃ n, ks'.length = n := ⟨_, rfl⟩
  obtain ⟨np, hnp⟩ : ∃ n, ps'.length = n := ⟨_, rfl⟩
  have HLn := Lib.hid (And.intro hnk hnp)
  rw [hnk] at HsS hk1 ⊢
  rw [hnp] at ⊢
  have hnp2 : np ≤ 2 := by omega
  clear hb4 hle' sp zp sk zk hr' hfl hnk hnp Hk Hn
  go_wp2_with fail
  refine HsS.out.mono ?_
  rintro e w5 ⟨vS, rfl, ⟨aS, cS, rfl, eS, rS⟩, hb5⟩
  replace HS3 := Lib.hid (And.intro (HS3.out.1.below hb5 (Nat.le_refl _)) HS3.out.2)
  replace HsP := Lib.hid (And.intro (HsP.out.1.below hb5 (Nat.le_refl _)) HsP.out.2)
  replace HB := Lib.hid (HB.out.trans (hb5.mono HB.out.size))
  replace Hr' : Hid (KRow (GoodT w5 h) ks' (lob lo ks J) (hib hi ks A) ps' ts') := Hr'.out.mono (fun _ _ _ _ hg => GoodT.ext hb5 hg)
  have HeS := Lib.hid (And.intro eS rS)
  have HPp := Lib.hid (splP_any (some ⟨g3, o3, none⟩) m c3 (ps.take A ++ ([p] ++ ps.drop (A + 1))) J 2 ap np cp ps' w5 (by rw [Hlen.out, HL.out.2]) HS3.out.1 HS3.out.2.2.1 HS3.out.2.2.2 HS3.out.2.1 (by omega) HLn.out.2 HsP.out.2 HsP.out.1 (by omega) (by omega))
  obtain ⟨NS, hNS⟩ : ∃ N, (ks.take J ++ (ks' ++ ks.drop (J + 1))).length = N := ⟨_, rfl⟩
  have HNS := Lib.hid hNS
  rw [hNS]
  clear hb5 eS rS HsS hNS q1
  go_wp2_with fail
  refine HPp.out.mono ?_
  rintro e w6 ⟨vP, rfl, ⟨aP, cP, rfl, eP, rP⟩, hb6⟩
  replace HeS := Lib.hid (And.intro (HeS.out.1.below hb6 (Nat.le_refl _)) HeS.out.2)
  replace HB := Lib.hid (HB.out.trans (hb6.mono HB.out.size))
  replace Hr' : Hid (KRow (GoodT w6 h) ks' (lob lo ks J) (hib hi ks A) ps' ts') := Hr'.out.mono (fun _ _ _ _ hg => GoodT.ext hb6 hg)
  have HeP := Lib.hid (And.intro eP rP)
  obtain ⟨NP, hNP⟩ : ∃ N, ((ps.take A ++ ([p] ++ ps.drop (A + 1))).take J ++ (ps' ++ (ps.take A ++ ([p] ++ ps.drop (A + 1))).drop (J + 2))).length = N := ⟨_, rfl⟩
  have HNP := Lib.hid hNP
  rw [hNP]
  clear hb6 eP rP HPp hNP HsP HS3
  obtain ⟨gN, wN, hgN, hwN, hnbN, hbN⟩ := alloc_node w6 nilS (.slice aS NS cS) (.slice aP NP cP)
  have HGN := Lib.hid (And.intro hgN hwN)
  have HbN := Lib.hid hbN
  have HnbN := Lib.hid hnbN
  replace HB := Lib.hid (HB.out.trans (hbN.mono HB.out.size))
  clear hgN hwN hnbN hbN
  go_wp2
  rw [HGN.out.1, HGN.out.2]
  go_ret
  have hfin := mend_row Hr.out HB.out (i := J) (j := A) (by omega) (by have := HL.out.1; omega) (by have := HAJ.out; omega) (Hr'.out.mono (fun _ _ _ _ hg => GoodT.ext HbN.out hg)) (by rw [HLn.out.1]; exact hk1)
  have hbran : BranP wN gN 0 (ks.take J ++ (ks' ++ ks.drop A)) (ps.take J ++ (ps' ++ ps.drop (A + 1))) := by
    rw [← HAJ.out] at HNS HeS
    refine ⟨_, _, HnbN.out, ⟨aS, cS, by rw [HNS.out], HeS.out.1.below HbN.out (Nat.le_refl _), by rw [HNS.out]; rw [HNS.out] at HeS; exact HeS.out.2⟩, ?_⟩
    have e3 := HeP.out
    have hN2 := HNP.out
    rw [ps1_take ps p J A (by have := HL.out.2; have := Hle.out; omega) (by omega), ps1_drop ps p _ A (by have := HL.out.2; have := Hle.out; omega) (by have := HAJ.out; omega)] at e3 hN2
    rw [show J + 2 = A + 1 by have := HAJ.out; omega] at e3 hN2
    exact ⟨aP, cP, by rw [hN2], e3.1.below HbN.out (Nat.le_refl _), e3.2⟩
  refine ⟨gN, _, _, _, rfl, hbran, hfin.1, ⟨?_, fun h0 => ?_⟩, hfin.2.1, hfin.2.2, HB.out⟩
  · rw [esL_app, esL_app, Hfl.out.1, Hj0.out.1, HAJ.out, ts_take (ts := ts) (i := J) (by have := Hle.out; have := HL.out.1; omega), esL_app, esL_one]
    simp only [List.append_assoc]
  · rw [HAJ.out, ts_take (ts := ts) (i := J) (by have := Hle.out; have := HL.out.1; omega), ← HAJ.out]
    have f := (fr_join Hj0.out.2.1 Hj0.out.2.2 (.inr h0)).trans (Hfl.out.2.fr Hj0.out.2.1)
    have f2 := ((Fr.refl (ts.take J)).app (f.app (Fr.refl (ts.drop (A + 1))))).mono (m := 1) (by omega)
    rw [List.append_assoc]
    exact f2
/-- mended, at whatever place. -/
theorem mended_any {h : Nat} {lo hi : SB} (b : Nat) (ks : List ByteArray) (ps : List Nat) (ts : List Tr) (A p : Nat) (t' : Tr) (s' : Nat) (w : World) (hb : Bran w b ks ps) (hr : KRow (GoodT w h) ks lo hi ps ts) (hl1 : 1 ≤ ks.length) (hbr : brSz ks ≤ 504) (hA : A ≤ ks.length) (hn : NdT w h (lob lo ks A) (hib hi ks A) p t') (hsz : t'.sz = s') (hs : s' ≤ 660) :
    Calls Tryz.prog 78 #[pt b, .int .i64 A, pt p] w fun e w' => MendPost w h lo hi ks ts A t' e w' := by
  rcases Nat.lt_or_ge s' 126 with h1 | h1
  · rcases Nat.eq_zero_or_pos A with h0 | h0
    · subst h0
      exact mended_first b ks ps ts p t' s' w hb hr hl1 hbr hn hsz h1
    · exact mended_next b ks ps ts A (A - 1) p t' s' w hb hr hl1 hbr (by omega) hA hn hsz h1
  · exact mended_enough b ks ps ts A p t' s' w hb hr hl1 hbr hA hn hsz h1 hs
end Go.Proofs.YtbgkjniagedcnaaGreatDoor
