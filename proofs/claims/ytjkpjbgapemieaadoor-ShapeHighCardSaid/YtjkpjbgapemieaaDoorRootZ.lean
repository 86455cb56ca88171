/-
  tree's rooted, change.
-/
import Derived.Test.YtjkpjbgapemieaaDoorReplZ
import Derived.Test.YtjkpjbgapemieaaDoorTreeZ
import Derived.Test.YtjkpjbgapemieaaDoorTurnZ
namespace Go.Proofs.YtjkpjbgapemieaaDoor
open Go Go.RowKit

theorem isLeaf_zero (b : Nat) (vc vk : Value) (a : Option Addr) (c : Nat) (w : World) (hb : NB w b vc vk (.slice a 0 c)) : Calls Tryd.prog 30 #[pt b] w fun e w' => e = .returned (.bool true) ∧ w = w' := by
  have q2 := hb.c2
  clear hb
  go_enter Tryd.func30, Tryd.ntmps30
  go_wp2
  go_ret
  exact ⟨rfl, rfl⟩
/-- So many nodes of one kid stand above a node. -/
def Steps (w : World) (f : Nat) : Nat → Nat → Prop
  | 0, r => r = f
  | k + 1, r => ∃ vc vk g o c r', NB w r vc vk (.slice (some ⟨g, o, none⟩) 1 c) ∧ w.cell? ⟨g, o, none⟩ = some (pt r') ∧ Steps w f k r'
set_option maxRecDepth 100000 in
theorem rooted_walk (b : Nat) (w : World) (R : World → Nat → Nat → Nat → Prop)
    (H : Calls Tryd.prog 62 #[pt b] w fun e w1 => ∃ a1 n1 c1 a2 n2 c2, e = .returned (.tuple #[.slice a1 n1 c1, .slice a2 n2 c2]) ∧ Below w.heap.size w w1 ∧
      ∀ g W, NB W g nilS (.slice a2 n2 c2) (.slice a1 n1 c1) → Below w1.heap.size w1 W → ∃ k f ac nc cc vk a nk c, Steps W f k g ∧ NB W f (.slice ac nc cc) vk (.slice a nk c) ∧ nk ≠ 1 ∧ R W f nk nc) :
    Calls Tryd.prog 45 #[pt b] w fun e w' => Below w.heap.size w w' ∧ ∃ f nk nc, R w' f nk nc ∧ e = .returned (if nk = 0 ∧ nc = 0 then .pointer none else pt f) := by
  have H1 := Lib.hid H
  clear H
  go_enter Tryd.func45, Tryd.ntmps45
  go_wp2_with fail
  refine H1.out.mono ?_
  rintro e w1 ⟨a1, n1, c1, a2, n2, c2, rfl, hb1, hR⟩
  obtain ⟨gR, W, hgR, hW, hnb, hb2⟩ := alloc_node w1 nilS (.slice a2 n2 c2) (.slice a1 n1 c1)
  obtain ⟨k, f, ac, nc, cc, vk, a, nk, c, hst, hf, hne, hr⟩ := hR gR W hnb hb2
  have HG := Lib.hid (And.intro hgR hW)
  have HB := Lib.hid (hb1.trans (hb2.mono hb1.size))
  have Hst := Lib.hid hst
  have Hf := Lib.hid hf
  have Hr := Lib.hid hr
  have d1 : ((nk : Int) == 1) = false := by rw [beq_eq_false_iff_ne]; omega
  clear hb1 hb2 hR hgR hW hnb hst hf hr H1 hne
  go_wp2_with fail
  rw [HG.out.1, HG.out.2]
  go_loopg [5] k (fun j u wr => ∃ r, u = pt r ∧ Hid (Steps W f j r) ∧ W = wr)
  case atStart => exact ⟨gR, rfl, Hst, by first | trivial | rfl⟩
  case round =>
    obtain ⟨r, rfl, hs, rfl⟩ := hrel
    cases gk with
    | zero =>
      obtain rfl : r = f := hs.out
      have q2 := Hf.out.c2
      have q0 := Hf.out.c0
      rcases Nat.eq_zero_or_pos nk with h0 | h0
      · subst h0
        have hil := Lib.hid (isLeaf_zero r _ _ _ _ W Hf.out)
        by_cases hn0 : nc = 0
        · subst hn0
          go_wp2_with fail
          refine hil.out.mono ?_
          rintro e w' ⟨rfl, rfl⟩
          go_wp2
          go_ret
          exact ⟨HB.out, r, 0, 0, Hr.out, by rw [if_pos ⟨rfl, rfl⟩]; rfl⟩
        · have d2 : ((nc : Int) == 0) = false := by rw [beq_eq_false_iff_ne]; omega
          go_wp2_with fail
          refine hil.out.mono ?_
          rintro e w' ⟨rfl, rfl⟩
          go_wp2
          go_ret
          exact ⟨HB.out, r, 0, nc, Hr.out, by rw [if_neg (fun h => hn0 h.2)]; rfl⟩
      · have hil := Lib.hid (isLeaf_no r _ _ _ _ _ W Hf.out h0)
        go_wp2_with fail
        refine hil.out.mono ?_
        rintro e w' ⟨rfl, rfl⟩
        go_wp2
        go_ret
        exact ⟨HB.out, r, nk, nc, Hr.out, by rw [if_neg (fun h => by omega)]; rfl⟩
    | succ j =>
      obtain ⟨vc, vk2, g, o, c9, r', hn, hc, hs'⟩ := hs.out
      have q2 := hn.c2
      have Hs := Lib.hid hs'
      clear hn hs hs'
      go_wp2_with fail
      go_roundg j
      case measure => omega
      case rel => exact ⟨r', rfl, Hs, by first | trivial | rfl⟩
/-- What a root is in the end. -/
def RootOk (es : List En) (W : World) (f nk nc : Nat) : Prop := (nk = 0 ∧ nc = 0 → es = []) ∧ (¬ (nk = 0 ∧ nc = 0) → ∃ h s, Nd W h none none f es s ∧ s ≤ 504 ∧ (0 < h → 3 ≤ s) ∧ es ≠ [])
def Fin (es : List En) (W : World) (f : Nat) : Prop := ∃ ac nc cc vk a nk c, NB W f (.slice ac nc cc) vk (.slice a nk c) ∧ nk ≠ 1 ∧ RootOk es W f nk nc
theorem fin_bran {W : World} {h f : Nat} {ks : List ByteArray} {ps : List Nat} {ess : List (List En)} (hb : Bran W f ks ps) (hr : KRow (Good W h) ks none none ps ess) (h1 : 1 ≤ ks.length) (hs : brSz ks ≤ 504) : Fin ess.flatten W f := by
  have hle := hr.len
  have hc := KRow.count (m := 1) (fun lo hi p e hg => Nat.le_trans (by have := Nat.one_le_two_pow (n := 0); have : 1 ≤ 4 ^ h := Nat.one_le_pow _ _ (by omega); omega) (Good.count h lo hi p e hg)) hr
  have hk := kss_range (hr.facts Good.facts).2.2.2
  have hb' := hb
  obtain ⟨vk, vp, nb, ⟨a0, c0, rfl, _⟩, ⟨a1, c1, rfl, _⟩⟩ := hb
  refine ⟨_, _, _, _, _, _, _, nb, by omega, fun h => by omega, fun _ => ⟨h + 1, brSz ks, nd_succ.2 ⟨ks, ps, ess, hb', hr, rfl, rfl⟩, hs, fun _ => by unfold brSz; omega, fun h => ?_⟩⟩
  rw [h] at hc; simp at hc
theorem fin_good {W : World} {h f : Nat} {es : List En} (hg : Good W h none none f es) : Fin es W f := by
  have hc := Good.count h _ _ _ _ hg
  have h1 : 1 ≤ 4 ^ h := Nat.one_le_pow _ _ (by omega)
  obtain ⟨s, hn, h126, h504⟩ := hg
  cases h with
  | zero =>
    have hn' := hn
    obtain ⟨⟨vc, nb, a0, c0, rfl, _⟩, _⟩ := hn
    exact ⟨_, _, _, _, _, _, _, nb, by omega, fun h => by omega, fun _ => ⟨0, s, hn', h504, fun _ => by omega, fun h => by rw [h] at hc; simp at hc⟩⟩
  | succ h =>
    obtain ⟨ks, ps, ess, hb, hr, rfl, rfl⟩ := hn
    have hk := kss_range (hr.facts Good.facts).2.2.2
    exact fin_bran hb hr (by unfold brSz at h126; omega) h504
theorem rooted_any {h b : Nat} {es : List En} {s : Nat} (w : World) (hn : Nd w h none none b es s) (hs : s ≤ 660) :
    Calls Tryd.prog 45 #[pt b] w fun e w' => ∃ p H, e = .returned (.pointer p) ∧ TreeP w' p es H ∧ Below w.heap.size w w' := by
  refine (rooted_walk b w (RootOk es) ?_).mono ?_
  · rcases Nat.lt_or_ge 504 s with h3 | h3
    · refine (parted_good w hn (by omega) (by omega)).mono ?_
      rintro e w1 ⟨vp, vk, ks', ps', ess', rfl, ⟨ap, cp, rfl, sp, zp, rp⟩, ⟨ak, ck, rfl, sk, zk, rk⟩, hr, hfl, hk1, hb1⟩
      refine ⟨_, _, _, _, _, _, rfl, hb1, fun g W hg hW => ?_⟩
      have hr' : KRow (Good W h) ks' none none ps' ess' := hr.mono (fun _ _ _ _ hx => Good.ext hW hx)
      have hbr : Bran W g ks' ps' := ⟨_, _, hg, ⟨ak, ck, rfl, sk.below hW (Nat.le_refl _), zk, rk⟩, ⟨ap, cp, rfl, sp.below hW (Nat.le_refl _), zp, rp⟩⟩
      cases ks' with
      | nil =>
        obtain ⟨p, e, rfl, rfl, hgd⟩ := hr'
        have e1 : e = es := by simpa using hfl
        subst e1
        obtain ⟨ac, nc, cc, vk, a, nk, c, h1, h2, h4⟩ := fin_good hgd
        obtain ⟨g2, o2, rfl, hc2⟩ := (sp.below hW (Nat.le_refl _)).ptrs (by simp)
        exact ⟨1, p, ac, nc, cc, vk, a, nk, c, ⟨_, _, g2, o2, _, p, hg, hc2 0 (by simp), rfl⟩, h1, h2, h4⟩
      | cons k r =>
        have hko := kss_range (hr'.facts Good.facts).2.2.2
        obtain ⟨ac, nc, cc, vk, a, nk, c, h1, h2, h4⟩ := fin_bran hbr hr' (by simp) (by unfold brSz; omega)
        rw [hfl] at h4
        exact ⟨0, g, ac, nc, cc, vk, a, nk, c, rfl, h1, h2, h4⟩
    · refine (parted_fits b s w h3 (size_node w hn (by omega))).mono ?_
      rintro e w1 ⟨vp, rfl, ⟨ap, cp, rfl, sp, zp, rp⟩, hb1⟩
      refine ⟨_, _, _, _, _, _, rfl, hb1, fun g W hg hW => ?_⟩
      obtain ⟨g2, o2, rfl, hc2⟩ := (sp.below hW (Nat.le_refl _)).ptrs (by simp)
      have hst : ∀ k f, Steps W f k b → Steps W f (k + 1) g := fun k f hx => ⟨_, _, g2, o2, _, b, hg, hc2 0 (by simp), hx⟩
      have hbW := hb1.trans (hW.mono hb1.size)
      have hnW := Nd.ext hbW h hn
      cases h with
      | zero =>
        have hn' := hnW
        obtain ⟨⟨vc, nb, a0, c0, rfl, _⟩, _⟩ := hnW
        refine ⟨1, b, _, _, _, _, _, _, _, hst 0 b rfl, nb, by omega, fun h => List.eq_nil_of_length_eq_zero h.2, fun h => ⟨0, s, hn', h3, fun h => by omega, fun h5 => h ⟨rfl, by rw [h5]; rfl⟩⟩⟩
      | succ h =>
        obtain ⟨ks, ps, ess, hbr, hr, rfl, rfl⟩ := hnW
        cases ks with
        | nil =>
          obtain ⟨p, e, rfl, rfl, hgd⟩ := hr
          obtain ⟨vk, vp, nb, _, ⟨a1, c1, rfl, s1, _⟩⟩ := hbr
          obtain ⟨g3, o3, rfl, hc3⟩ := s1.ptrs (by simp)
          obtain ⟨ac, nc, cc, vk, a, nk, c, h1, h2, h4⟩ := fin_good hgd
          exact ⟨2, p, ac, nc, cc, vk, a, nk, c, hst 1 p ⟨_, _, g3, o3, _, p, nb, hc3 0 (by simp), rfl⟩, h1, h2, by simpa using h4⟩
        | cons k r =>
          obtain ⟨ac, nc, cc, vk, a, nk, c, h1, h2, h4⟩ := fin_bran hbr hr (by simp) h3
          exact ⟨1, b, ac, nc, cc, vk, a, nk, c, hst 0 b rfl, h1, h2, h4⟩
  · rintro e w' ⟨hb, f, nk, nc, hr, rfl⟩
    by_cases h0 : nk = 0 ∧ nc = 0
    · rw [if_pos h0]
      exact ⟨none, 0, rfl, .inl ⟨rfl, hr.1 h0, rfl⟩, hb⟩
    · rw [if_neg h0]
      obtain ⟨h2, s2, h4, h5, h6, h7⟩ := hr.2 h0
      exact ⟨some ⟨f, 0, none⟩, h2 + 1, rfl, .inr ⟨f, h2, s2, rfl, h4, h5, h6, h7, rfl⟩, hb⟩
end Go.Proofs.YtjkpjbgapemieaaDoor
