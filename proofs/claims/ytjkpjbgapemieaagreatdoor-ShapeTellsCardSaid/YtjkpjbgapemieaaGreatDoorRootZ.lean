/-
  tree's rooted, change.
  tree's change.
-/
import Derived.Test.YtjkpjbgapemieaaGreatDoorReplZ
import Derived.Test.YtjkpjbgapemieaaGreatDoorTreeZ
import Derived.Test.YtjkpjbgapemieaaGreatDoorTurnZ
import Derived.Laws.ResultCell
namespace Go.Proofs.YtjkpjbgapemieaaGreatDoor
open Go Go.RowKit

theorem isLeaf_zero (b : Nat) (vc vk : Value) (a : Option Addr) (c : Nat) (w : World) (hb : NB w b vc vk (.slice a 0 c)) : Calls Tryz.prog 31 #[pt b] w fun e w' => e = .returned (.bool true) ∧ w = w' := by
  have q2 := hb.c2
  clear hb
  go_enter Tryz.func31, Tryz.ntmps31
  go_wp2
  go_ret
  exact ⟨rfl, rfl⟩
/-- So many nodes of one kid stand above a node. -/
def Steps (w : World) (f : Nat) : Nat → Nat → Prop
  | 0, r => r = f
  | k + 1, r => ∃ vc vk g o c r', NB w r vc vk (.slice (some ⟨g, o, none⟩) 1 c) ∧ w.cell? ⟨g, o, none⟩ = some (pt r') ∧ Steps w f k r'
set_option maxRecDepth 100000 in
theorem rooted_walk (b : Nat) (w : World) (R : World → Nat → Nat → Nat → Prop)
    (H : Calls Tryz.prog 74 #[pt b] w fun e w1 => ∃ a1 n1 c1 a2 n2 c2, e = .returned (.tuple #[.slice a1 n1 c1, .slice a2 n2 c2]) ∧ Below w.heap.size w w1 ∧
      ∀ g W, NB W g nilS (.slice a2 n2 c2) (.slice a1 n1 c1) → Below w1.heap.size w1 W → ∃ k f ac nc cc vk a nk c, Steps W f k g ∧ NB W f (.slice ac nc cc) vk (.slice a nk c) ∧ nk ≠ 1 ∧ R W f nk nc) :
    Calls Tryz.prog 54 #[pt b] w fun e w' => Below w.heap.size w w' ∧ ∃ f nk nc, R w' f nk nc ∧ e = .returned (if nk = 0 ∧ nc = 0 then .pointer none else pt f) := by
  have H1 := Lib.hid H
  clear H
  go_enter Tryz.func54, Tryz.ntmps54
  go_wp2_with fail
  refine H1.out.mono ?_
  rintro e w1 ⟨a1, n1, c1, a2, n2, c2, rfl, hb1, hR⟩
  obtain ⟨gR, W, hgR, hW, hnb, hb2⟩ := alloc_node w1 nilS (.slice a2 n2 c2) (.slice a1 n1 c1)
  obtain ⟨k, f, ac, nc, cc, vk, a, nk, c, hst, hf, hne, hr⟩ := hR gR W hnb hb2
  have HG := Lib.hid (And.intro hgR hW)
  have HB := Lib.hid (hb1.trans (hb2.mono hb1.size))
  have Hst := Lib.hid hst
  have Hf := Lib.hid hf
  have Hr := Lib.hid hr
  have d1 : ((nk : Int) == 1) = false := by rw [beq_eq_false_iff_ne]; omega
  clear hb1 hb2 hR hgR hW hnb hst hf hr H1 hne
  go_wp2_with fail
  rw [HG.out.1, HG.out.2]
  go_loopg [5] k (fun j u wr => ∃ r, u = pt r ∧ Hid (Steps W f j r) ∧ W = wr)
  case atStart => exact ⟨gR, rfl, Hst, by first | trivial | rfl⟩
  case round =>
    obtain ⟨r, rfl, hs, rfl⟩ := hrel
    cases gk with
    | zero =>
      obtain rfl : r = f := hs.out
      have q2 := Hf.out.c2
      have q0 := Hf.out.c0
      rcases Nat.eq_zero_or_pos nk with h0 | h0
      · subst h0
        have hil := Lib.hid (isLeaf_zero r _ _ _ _ W Hf.out)
        by_cases hn0 : nc = 0
        · subst hn0
          go_wp2_with fail
          refine hil.out.mono ?_
          rintro e w' ⟨rfl, rfl⟩
          go_wp2
          go_ret
          exact ⟨HB.out, r, 0, 0, Hr.out, by rw [if_pos ⟨rfl, rfl⟩]; rfl⟩
        · have d2 : ((nc : Int) == 0) = false := by rw [beq_eq_false_iff_ne]; omega
          go_wp2_with fail
          refine hil.out.mono ?_
          rintro e w' ⟨rfl, rfl⟩
          go_wp2
          go_ret
          exact ⟨HB.out, r, 0, nc, Hr.out, by rw [if_neg (fun h => hn0 h.2)]; rfl⟩
      · have hil := Lib.hid (isLeaf_no r _ _ _ _ _ W Hf.out h0)
        go_wp2_with fail
        refine hil.out.mono ?_
        rintro e w' ⟨rfl, rfl⟩
        go_wp2
        go_ret
        exact ⟨HB.out, r, nk, nc, Hr.out, by rw [if_neg (fun h => by omega)]; rfl⟩
    | succ j =>
      obtain ⟨vc, vk2, g, o, c9, r', hn, hc, hs'⟩ := hs.out
      have q2 := hn.c2
      have Hs := Lib.hid hs'
      clear hn hs hs'
      go_wp2_with fail
      go_roundg j
      case measure => omega
      case rel => exact ⟨r', rfl, Hs, by first | trivial | rfl⟩
/-- What a root is in the end. -/
def RootOk (es : List En) (W : World) (f nk nc : Nat) : Prop := (nk = 0 ∧ nc = 0 → es = []) ∧ (¬ (nk = 0 ∧ nc = 0) → ∃ h s, Nd W h none none f es s ∧ s ≤ 504 ∧ (0 < h → 3 ≤ s) ∧ es ≠ [])
def Fin (es : List En) (W : World) (f : Nat) : Prop := ∃ ac nc cc vk a nk c, NB W f (.slice ac nc cc) vk (.slice a nk c) ∧ nk ≠ 1 ∧ RootOk es W f nk nc
theorem fin_bran {W : World} {h f : Nat} {ks : List ByteArray} {ps : List Nat} {ess : List (List En)} (hb : Bran W f ks ps) (hr : KRow (Good W h) ks none none ps ess) (h1 : 1 ≤ ks.length) (hs : brSz ks ≤ 504) : Fin ess.flatten W f := by
  have hle := hr.len
  have hc := KRow.count (m := 1) (fun lo hi p e hg => Nat.le_trans (by have := Nat.one_le_two_pow (n := 0); have : 1 ≤ 4 ^ h := Nat.one_le_pow _ _ (by omega); omega) (Good.count h lo hi p e hg)) hr
  have hk := kss_range (hr.facts Good.facts).2.2.2
  have hb' := hb
  obtain ⟨vk, vp, nb, ⟨a0, c0, rfl, _⟩, ⟨a1, c1, rfl, _⟩⟩ := hb
  refine ⟨_, _, _, _, _, _, _, nb, by omega, fun h => by omega, fun _ => ⟨h + 1, brSz ks, nd_succ.2 ⟨ks, ps, ess, hb', hr, rfl, rfl⟩, hs, fun _ => by unfold brSz; omega, fun h => ?_⟩⟩
  rw [h] at hc; simp at hc
theorem fin_good {W : World} {h f : Nat} {es : List En} (hg : Good W h none none f es) : Fin es W f := by
  have hc := Good.count h _ _ _ _ hg
  have h1 : 1 ≤ 4 ^ h := Nat.one_le_pow _ _ (by omega)
  obtain ⟨s, hn, h126, h504⟩ := hg
  cases h with
  | zero =>
    have hn' := hn
    obtain ⟨⟨vc, nb, a0, c0, rfl, _⟩, _⟩ := hn
    exact ⟨_, _, _, _, _, _, _, nb, by omega, fun h => by omega, fun _ => ⟨0, s, hn', h504, fun _ => by omega, fun h => by rw [h] at hc; simp at hc⟩⟩
  | succ h =>
    obtain ⟨ks, ps, ess, hb, hr, rfl, rfl⟩ := hn
    have hk := kss_range (hr.facts Good.facts).2.2.2
    exact fin_bran hb hr (by unfold brSz at h126; omega) h504
theorem rooted_any {h b : Nat} {es : List En} {s : Nat} (w : World) (hn : Nd w h none none b es s) (hs : s ≤ 660) :
    Calls Tryz.prog 54 #[pt b] w fun e w' => ∃ p H, e = .returned (.pointer p) ∧ TreeP w' p es H ∧ Below w.heap.size w w' := by
  refine (rooted_walk b w (RootOk es) ?_).mono ?_
  · rcases Nat.lt_or_ge 504 s with h3 | h3
    · refine (parted_good w hn (by omega) (by omega)).mono ?_
      rintro e w1 ⟨vp, vk, ks', ps', ess', rfl, ⟨ap, cp, rfl, sp, zp, rp⟩, ⟨ak, ck, rfl, sk, zk, rk⟩, hr, hfl, hk1, hb1⟩
      refine ⟨_, _, _, _, _, _, rfl, hb1, fun g W hg hW => ?_⟩
      have hr' : KRow (Good W h) ks' none none ps' ess' := hr.mono (fun _ _ _ _ hx => Good.ext hW hx)
      have hbr : Bran W g ks' ps' := ⟨_, _, hg, ⟨ak, ck, rfl, sk.below hW (Nat.le_refl _), zk, rk⟩, ⟨ap, cp, rfl, sp.below hW (Nat.le_refl _), zp, rp⟩⟩
      cases ks' with
      | nil =>
        obtain ⟨p, e, rfl, rfl, hgd⟩ := hr'
        have e1 : e = es := by simpa using hfl
        subst e1
        obtain ⟨ac, nc, cc, vk, a, nk, c, h1, h2, h4⟩ := fin_good hgd
        obtain ⟨g2, o2, rfl, hc2⟩ := (sp.below hW (Nat.le_refl _)).ptrs (by simp)
        exact ⟨1, p, ac, nc, cc, vk, a, nk, c, ⟨_, _, g2, o2, _, p, hg, hc2 0 (by simp), rfl⟩, h1, h2, h4⟩
      | cons k r =>
        have hko := kss_range (hr'.facts Good.facts).2.2.2
        obtain ⟨ac, nc, cc, vk, a, nk, c, h1, h2, h4⟩ := fin_bran hbr hr' (by simp) (by unfold brSz; omega)
        rw [hfl] at h4
        exact ⟨0, g, ac, nc, cc, vk, a, nk, c, rfl, h1, h2, h4⟩
    · refine (parted_fits b s w h3 (size_node w hn (by omega))).mono ?_
      rintro e w1 ⟨vp, rfl, ⟨ap, cp, rfl, sp, zp, rp⟩, hb1⟩
      refine ⟨_, _, _, _, _, _, rfl, hb1, fun g W hg hW => ?_⟩
      obtain ⟨g2, o2, rfl, hc2⟩ := (sp.below hW (Nat.le_refl _)).ptrs (by simp)
      have hst : ∀ k f, Steps W f k b → Steps W f (k + 1) g := fun k f hx => ⟨_, _, g2, o2, _, b, hg, hc2 0 (by simp), hx⟩
      have hbW := hb1.trans (hW.mono hb1.size)
      have hnW := Nd.ext hbW h hn
      cases h with
      | zero =>
        have hn' := hnW
        obtain ⟨⟨vc, nb, a0, c0, rfl, _⟩, _⟩ := hnW
        refine ⟨1, b, _, _, _, _, _, _, _, hst 0 b rfl, nb, by omega, fun h => List.eq_nil_of_length_eq_zero h.2, fun h => ⟨0, s, hn', h3, fun h => by omega, fun h5 => h ⟨rfl, by rw [h5]; rfl⟩⟩⟩
      | succ h =>
        obtain ⟨ks, ps, ess, hbr, hr, rfl, rfl⟩ := hnW
        cases ks with
        | nil =>
          obtain ⟨p, e, rfl, rfl, hgd⟩ := hr
          obtain ⟨vk, vp, nb, _, ⟨a1, c1, rfl, s1, _⟩⟩ := hbr
          obtain ⟨g3, o3, rfl, hc3⟩ := s1.ptrs (by simp)
          obtain ⟨ac, nc, cc, vk, a, nk, c, h1, h2, h4⟩ := fin_good hgd
          exact ⟨2, p, ac, nc, cc, vk, a, nk, c, hst 1 p ⟨_, _, g3, o3, _, p, nb, hc3 0 (by simp), rfl⟩, h1, h2, by simpa using h4⟩
        | cons k r =>
          obtain ⟨ac, nc, cc, vk, a, nk, c, h1, h2, h4⟩ := fin_bran hbr hr (by simp) h3
          exact ⟨1, b, ac, nc, cc, vk, a, nk, c, hst 0 b rfl, h1, h2, h4⟩
  · rintro e w' ⟨hb, f, nk, nc, hr, rfl⟩
    by_cases h0 : nk = 0 ∧ nc = 0
    · rw [if_pos h0]
      exact ⟨none, 0, rfl, .inl ⟨rfl, hr.1 h0, rfl⟩, hb⟩
    · rw [if_neg h0]
      obtain ⟨h2, s2, h4, h5, h6, h7⟩ := hr.2 h0
      exact ⟨some ⟨f, 0, none⟩, h2 + 1, rfl, .inr ⟨f, h2, s2, rfl, h4, h5, h6, h7, rfl⟩, hb⟩
end Go.Proofs.YtjkpjbgapemieaaGreatDoor
namespace Go.Proofs.YtjkpjbgapemieaaGreatDoor
open Go Go.RowKit

/-- A block that holds a tree. -/
def TB (w : World) (b : Nat) (p : Option Addr) (n : Int) : Prop := w.heap[b]? = some (.cells #[.pointer p, .int .i64 n] TT (0, 0))
section
variable {w : World} {b : Nat} {p : Option Addr} {n : Int}
theorem TB.c0 (h : TB w b p n) : w.cell? ⟨b, 0, none⟩ = some (.pointer p) := by
  have h' : w.heap[b]? = _ := h
  simp [World.cell?, h']
theorem TB.c1 (h : TB w b p n) : w.cell? ⟨b, 1, none⟩ = some (.int .i64 n) := by
  have h' : w.heap[b]? = _ := h
  simp [World.cell?, h']
theorem TB.fz (h : TB w b p n) (j : Nat) : w.frozen? ⟨b, j, none⟩ = false := by
  have h' : w.heap[b]? = _ := h
  simp [World.frozen?, h']
theorem TB.lt (h : TB w b p n) : b < w.heap.size := (Array.getElem?_eq_some_iff.1 h).1
theorem TB.ext {w' : World} (h : TB w b p n) (hb : Below w.heap.size w w') : TB w' b p n := (hb.block b h.lt).trans h
theorem TB.below {w' : World} {B : Nat} (h : TB w b p n) (hb : Below B w w') (hB : b < B) : TB w' b p n := (hb.block b hB).trans h
theorem TB.turn {w' : World} {F : Nat → Prop} (h : TB w b p n) (t : Turn F w w') (hF : ¬ F b) : TB w' b p n := t.hg h hF
theorem TB.put (h : TB w b p n) (q : Option Addr) (m : Int) : TB ((w.setCell ⟨b, 0, none⟩ (.pointer q)).setCell ⟨b, 1, none⟩ (.int .i64 m)) b q m :=
  heap_setCell_same _ b 1 _ _ _ (heap_setCell_same w b 0 _ _ _ h)
end
/-! ### What stays where variables turn -/
/-- The type of a variable that is no row's and no node's. -/
def vty (T : TypeId) : Bool := !(T == ET || T == RET || T == 9 || T == PNT || T == NT)
/-- Blocks that turn are variables. -/
def TF (w : World) (F : Nat → Prop) : Prop := ∀ b, F b → ∃ A T fz, w.heap[b]? = some (.cells A T fz) ∧ vty T = true
section
variable {w w' : World} {F : Nat → Prop}
theorem TF.var {b : Nat} {A : Array Value} {T : TypeId} {fz : Nat × Nat} (h : w.heap[b]? = some (.cells A T fz)) (hT : vty T = true := by decide) : TF w (fun i => i = b) := fun _ e => ⟨A, T, fz, e ▸ h, hT⟩
theorem TF.one {b : Nat} {q : Option Addr} {n : Int} (h : TB w b q n) : TF w (fun i => i = b) := TF.var (h : w.heap[b]? = _)
theorem TF.not {b : Nat} {A : Array Value} {T : TypeId} {fz : Nat × Nat} (hF : TF w F) (h : w.heap[b]? = some (.cells A T fz)) (hT : vty T = false) : ¬ F b := fun hb => by
  obtain ⟨A', T', fz', h2, h3⟩ := hF b hb
  rw [h] at h2
  injection h2 with h2
  injection h2 with _ h2 _
  rw [← h2, hT] at h3
  cases h3
theorem NB.turn {b : Nat} {vc vk vp : Value} (h : NB w b vc vk vp) (t : Turn F w w') (hF : TF w F) : NB w' b vc vk vp := t.hg h (hF.not h (by decide))
theorem ES.turn {α : Type} {E : Elt α} {a : Option Addr} {l : List α} (hE : ∀ T, E.ty T = true → vty T = false) (h : ES E w a l) (t : Turn F w w') (hF : TF w F) : ES E w' a l := by
  rcases h with h | ⟨g, o, rfl, ⟨A, T, fz, ht, hT⟩, hc⟩
  · exact .inl h
  · have hg : ¬ F g := hF.not ht (hE T hT)
    refine .inr ⟨g, o, rfl, ⟨A, T, fz, t.hg ht hg, hT⟩, fun j u hu => ?_⟩
    have h1 := hc j u hu
    rw [t.cell (p := ⟨g, o + j, none⟩) (block_lt_of_cell h1) hg]
    exact h1
theorem entE_str : ∀ T, entE.ty T = true → vty T = false := fun T h => by
  have h' : (T == ET || T == RET) = true := h
  unfold vty; rw [h']; rfl
theorem strE_str : ∀ T, strE.ty T = true → vty T = false := fun T h => by
  have h' : (T == 9) = true := h
  unfold vty; rw [h']; simp
theorem ptrE_str : ∀ T, ptrE.ty T = true → vty T = false := fun T h => by
  have h' : (T == PNT) = true := h
  unfold vty; rw [h']; simp
theorem EV.turn {α : Type} {E : Elt α} {v : Value} {l : List α} (hE : ∀ T, E.ty T = true → vty T = false) (h : EV E w v l) (t : Turn F w w') (hF : TF w F) : EV E w' v l := by
  obtain ⟨a, c, rfl, hs, h1⟩ := h
  exact ⟨a, c, rfl, hs.turn hE t hF, h1⟩
theorem Nd.turn (t : Turn F w w') (hF : TF w F) : ∀ (h : Nat) {lo hi : SB} {b : Nat} {es : List En} {s : Nat}, Nd w h lo hi b es s → Nd w' h lo hi b es s
  | 0, _, _, _, _, _, ⟨⟨vc, h1, h2⟩, h3⟩ => ⟨⟨vc, h1.turn t hF, h2.turn entE_str t hF⟩, h3⟩
  | h + 1, _, _, _, _, _, ⟨ks, ps, ess, ⟨vk, vp, h1, h2, h3⟩, h4, h5, h6⟩ =>
    ⟨ks, ps, ess, ⟨vk, vp, h1.turn t hF, h2.turn strE_str t hF, h3.turn ptrE_str t hF⟩, h4.mono (fun _ _ _ _ ⟨s, h7, h8⟩ => ⟨s, Nd.turn t hF h h7, h8⟩), h5, h6⟩
theorem TreeP.turn {p : Option Addr} {es : List En} {H : Nat} (h : TreeP w p es H) (t : Turn F w w') (hF : TF w F) : TreeP w' p es H := by
  rcases h with h | ⟨b, h, s, h1, h2, h3, h4, h5⟩
  · exact .inl h
  · exact .inr ⟨b, h, s, h1, Nd.turn t hF h h2, h3, h4, h5⟩
end
theorem turn_put (W : World) (b : Nat) (u v : Value) : Turn (fun i => i = b) W ((W.setCell ⟨b, 0, none⟩ u).setCell ⟨b, 1, none⟩ v) :=
  ((Turn.refl (fun i => i = b) W).setCell (p := ⟨b, 0, none⟩) u (fun _ => rfl)).setCell (p := ⟨b, 1, none⟩) v (fun _ => rfl)
/-- What stands in the end of a walk that made two blocks of its own. -/
theorem below_put {w0 W : World} {b : Nat} {u v : Value} (h : Below w0.heap.size w0 W) (hb : w0.heap.size ≤ b) : Below w0.heap.size w0 ((W.setCell ⟨b, 0, none⟩ u).setCell ⟨b, 1, none⟩ v) :=
  (h.setCell (p := ⟨b, 0, none⟩) hb u).setCell (p := ⟨b, 1, none⟩) hb v
set_option maxRecDepth 100000 in
theorem change_core (p : Option Addr) (es : List En) (n0 m n1 : Int) (key : ByteArray) (a : Option Addr) (n c : Nat) (o : List En) (w : World) (hkey : oneO key o) (hoE : ∀ x ∈ o, okE x)
    (hno : o.length = n) (hz : a = none → c = 0) (hes : ES entE w a o) (H : Nat) (ht : TreeP w p es H) (hm : IntKind.i64.wrap (n0 + m) = n1) :
    Calls Tryz.prog 33 #[.agg #[.pointer p, .int .i64 n0], .int .i64 m, .string key, .slice a n c] w fun e w' => ∃ p' H', e = .returned (.agg #[.pointer p', .int .i64 n1]) ∧ TreeP w' p' (rep es key o) H' ∧ Below w.heap.size w w' := by
  -- the node at which it begins
  obtain ⟨W1, hW1, hT1, hb1⟩ := alloc_own w TT #[.pointer p, .int .i64 n0]
  obtain ⟨W2, hW2, hT2, hb2⟩ := alloc_own W1 TT #[.pointer none, .int .i64 0]
  have hs1 : W1.heap.size = w.heap.size + 1 := by rw [← hW1]; simp
  have hb12 := hb1.trans (hb2.mono hb1.size)
  have hT1' : TB W2 w.heap.size p n0 := TB.ext (w := W1) hT1 hb2
  have hT2' : TB W2 (w.heap.size + 1) none 0 := by rw [← hs1]; exact hT2
  have main : ∀ (W3 : World) (bn h s : Nat), Below W2.heap.size W2 W3 → Nd W3 h none none bn es s → s ≤ 504 → (0 < h → 3 ≤ s) →
      ∃ W, W3.drew = W ∧ Below W2.heap.size W2 W ∧ Calls Tryz.prog 55 #[pt bn, .string key, .slice a n c] W (fun e w' => ∃ b2, e = .returned (pt b2) ∧ Below W.heap.size W w' ∧
        Calls Tryz.prog 54 #[pt b2] w' fun e w'' => ∃ p H, e = .returned (.pointer p) ∧ TreeP w'' p (rep es key o) H ∧ Below w'.heap.size w' w'') := fun W3 bn h s hb3 hn hs hs3 => by
    have hbd : Below W3.heap.size W3 W3.drew := (Below.refl _ _).drew
    have hbx := hb3.trans (hbd.mono hb3.size)
    refine ⟨_, rfl, hbx, ?_⟩
    have hby := hb12.trans (hbx.mono hb12.size)
    refine (replaced_any h bn es s key a n c o W3.drew (Nd.ext hbd h hn) hs hs3 (ins_none key) hkey hoE hno hz (hes.below hby (Nat.le_refl _))).mono ?_
    rintro e w' ⟨b2, s2, rfl, hn2, hs2, _, hb⟩
    exact ⟨b2, rfl, hb, rooted_any w' hn2 (by omega)⟩
  have Main := Lib.hid main
  have HW := Lib.hid (And.intro hW1 hW2)
  have HT := Lib.hid (And.intro hT1' hT2')
  have HB := Lib.hid hb12
  have Hs1 := Lib.hid hs1
  have tail : ∀ (W3 W : World) (bn : Nat), W3.drew = W → Below W2.heap.size W2 W →
      Hid (∀ w' w'', Below W.heap.size W w' → Below w'.heap.size w' w'' → Below w.heap.size w w'' ∧ TB w'' (w.heap.size + 1) none 0) := fun W3 W bn _ hbW w' w'' h1 h2 => by
    have h3 := h1.trans (h2.mono h1.size)
    have h4 := hbW.trans (h3.mono hbW.size)
    exact ⟨hb12.trans (h4.mono hb12.size), hT2'.ext h4⟩
  have Tail := Lib.hid tail
  clear main tail hW1 hW2 hT1 hT2 hb1 hb2 hb12 hT1' hT2' hs1 hkey hoE hno hz hes
  rcases ht with ⟨rfl, rfl, _⟩ | ⟨bn, h, s, rfl, hn, hs, hs3, _⟩
  · obtain ⟨W3, hW3, hT3, hb3⟩ := alloc_own W2 NT #[nilS, nilS, nilS]
    have hnd : Nd W3 0 none none W2.heap.size [] 1 := ⟨⟨nilS, hT3, EV.none _⟩, trivial, List.Pairwise.nil, fun x hx => (by cases hx), rfl⟩
    obtain ⟨W, hW, hbW, hcall⟩ := Main.out W3 W2.heap.size 0 1 hb3 hnd (by omega) (fun h => by omega)
    have Ht := Lib.hid (Tail.out W3 W W2.heap.size hW hbW).out
    have hs2 : W2.heap.size = w.heap.size + 1 + 1 := by rw [← HW.out.2]; simp [Hs1.out]
    have q : ∀ w', Turn (fun i => i = w.heap.size + 1) W w' → w'.cell? ⟨w.heap.size, 1, none⟩ = some (.int .i64 n0) := fun w' t => ((HT.out.1.ext hbW).turn t (by omega)).c1
    have Hcall := Lib.hid hcall
    have HW3 : Hid ((((w.alloc (.cells #[.pointer none, .int .i64 n0] TT)).alloc (.cells #[.pointer none, .int .i64 0] TT)).alloc (.cells #[nilS, nilS, nilS] NT)).drew = W) := by
      show _ = _
      rw [HW.out.1, HW.out.2, hW3, hW]
    rw [hs2] at Hcall
    clear hW3 hT3 hb3 hnd hW hbW hcall Main Tail HT hs2 HW HB Hs1
    go_enter Tryz.func33, Tryz.ntmps33
    go_wp2_with fail
    refine wp_region_gt (F := fun i => i = w.heap.size + 1) [(0, true), (1, true), (2, true), (5, true), (6, true), (7, true), (8, true), (3, false), (4, false), (9, true), (10, false)] (by kernel_rfl) (by kernel_rfl) (by kernel_rfl) (by kernel_rfl) (fun _ _ _ _ _ h => h) ?_
    rw [HW3.out]
    iterate 7 (refine wpGt_read (o := ⟨_, _, _, _, _, _⟩) (v := ?_) rfl (by rfl) ?_ ?_; rotate_left; (intro w' hw'; go_simp; with_reducible rfl); simp only [Act.put, List.setIfInBounds_toArray, List.set_cons_zero, List.set_cons_succ])
    clear q
    refine wpGt_call (o := ⟨_, _, _, _, _, _⟩) rfl (by rfl) (fun K hK => ?_)
    go_simp
    refine Hcall.out.mono ?_
    rintro e w4 ⟨b2, rfl, hb4, hc4⟩
    refine hK _ _ (Turn.ofBelow hb4) ?_
    clear hK K Hcall
    have Hc4 := Lib.hid hc4
    have Hb4 := Lib.hid hb4
    clear hc4 hb4
    refine wpGt_call (o := ⟨_, _, _, _, _, _⟩) rfl (by rfl) (fun K hK => ?_)
    go_simp
    refine Hc4.out.mono ?_
    rintro e w5 ⟨p5, H5, rfl, ht5, hb5⟩
    refine hK _ _ (Turn.ofBelow hb5) ?_
    clear hK K Hc4
    have hfin := Ht.out w4 w5 Hb4.out hb5
    have HT5 := Lib.hid (ht5.turn (turn_put w5 (w.heap.size + 1) (.pointer p5) (.int .i64 n1)) (TF.one hfin.2))
    have HF := Lib.hid hfin.1
    have c0 := hfin.2.c0
    have c1 := hfin.2.c1
    have f0 := hfin.2.fz 0
    have f1 := hfin.2.fz 1
    have HP := Lib.hid (hfin.2.put p5 n1)
    clear hfin ht5 hb5 Hb4 Ht
    (refine wpGt_read (o := ⟨_, _, _, _, _, _⟩) (v := ?_) rfl (by rfl) ?_ ?_; rotate_left; (intro w' hw'; go_simp; with_reducible rfl); simp only [Act.put, List.setIfInBounds_toArray, List.set_cons_zero, List.set_cons_succ])
    refine wpGt_call (o := ⟨_, _, _, _, _, _⟩) rfl (by rfl) (fun K hK => ?_)
    go_simp
    refine hK _ _ (turn_put _ _ _ _) ?_
    clear hK K
    refine wpGt_done ?_
    have d0 := HP.out.c0
    have d1 := HP.out.c1
    go_wp2_with fail
    refine bodyPost_ret (v := .agg #[.pointer p5, .int .i64 n1]) (by rw [results_cell_one rfl]; go_simp) rfl ⟨p5, H5, rfl, HT5.out, below_put HF.out (by omega)⟩
  · have hn2 := Nd.ext HB.out h hn
    obtain ⟨W, hW, hbW, hcall⟩ := Main.out W2 bn h s (Below.refl _ _) hn2 hs hs3
    have Ht := Lib.hid (Tail.out W2 W bn hW hbW).out
    have q : ∀ w', Turn (fun i => i = w.heap.size + 1) W w' → w'.cell? ⟨w.heap.size, 1, none⟩ = some (.int .i64 n0) := fun w' t => ((HT.out.1.ext hbW).turn t (by omega)).c1
    have Hcall := Lib.hid hcall
    have HW3 : Hid (((w.alloc (.cells #[.pointer (some ⟨bn, 0, none⟩), .int .i64 n0] TT)).alloc (.cells #[.pointer none, .int .i64 0] TT)).drew = W) := by
      show _ = _
      rw [HW.out.1, HW.out.2, hW]
    clear hW hbW hcall Main Tail HT HW HB Hs1 hn hn2 hs hs3
    go_enter Tryz.func33, Tryz.ntmps33
    go_wp2_with fail
    refine wp_region_gt (F := fun i => i = w.heap.size + 1) [(0, true), (1, true), (2, true), (5, true), (6, true), (7, true), (8, true), (3, false), (4, false), (9, true), (10, false)] (by kernel_rfl) (by kernel_rfl) (by kernel_rfl) (by kernel_rfl) (fun _ _ _ _ _ h => h) ?_
    rw [HW3.out]
    iterate 7 (refine wpGt_read (o := ⟨_, _, _, _, _, _⟩) (v := ?_) rfl (by rfl) ?_ ?_; rotate_left; (intro w' hw'; go_simp; with_reducible rfl); simp only [Act.put, List.setIfInBounds_toArray, List.set_cons_zero, List.set_cons_succ])
    clear q
    refine wpGt_call (o := ⟨_, _, _, _, _, _⟩) rfl (by rfl) (fun K hK => ?_)
    go_simp
    refine Hcall.out.mono ?_
    rintro e w4 ⟨b2, rfl, hb4, hc4⟩
    refine hK _ _ (Turn.ofBelow hb4) ?_
    clear hK K Hcall
    have Hc4 := Lib.hid hc4
    have Hb4 := Lib.hid hb4
    clear hc4 hb4
    refine wpGt_call (o := ⟨_, _, _, _, _, _⟩) rfl (by rfl) (fun K hK => ?_)
    go_simp
    refine Hc4.out.mono ?_
    rintro e w5 ⟨p5, H5, rfl, ht5, hb5⟩
    refine hK _ _ (Turn.ofBelow hb5) ?_
    clear hK K Hc4
    have hfin := Ht.out w4 w5 Hb4.out hb5
    have HT5 := Lib.hid (ht5.turn (turn_put w5 (w.heap.size + 1) (.pointer p5) (.int .i64 n1)) (TF.one hfin.2))
    have HF := Lib.hid hfin.1
    have c0 := hfin.2.c0
    have c1 := hfin.2.c1
    have f0 := hfin.2.fz 0
    have f1 := hfin.2.fz 1
    have HP := Lib.hid (hfin.2.put p5 n1)
    clear hfin ht5 hb5 Hb4 Ht
    (refine wpGt_read (o := ⟨_, _, _, _, _, _⟩) (v := ?_) rfl (by rfl) ?_ ?_; rotate_left; (intro w' hw'; go_simp; with_reducible rfl); simp only [Act.put, List.setIfInBounds_toArray, List.set_cons_zero, List.set_cons_succ])
    refine wpGt_call (o := ⟨_, _, _, _, _, _⟩) rfl (by rfl) (fun K hK => ?_)
    go_simp
    refine hK _ _ (turn_put _ _ _ _) ?_
    clear hK K
    refine wpGt_done ?_
    have d0 := HP.out.c0
    have d1 := HP.out.c1
    go_wp2_with fail
    refine bodyPost_ret (v := .agg #[.pointer p5, .int .i64 n1]) (by rw [results_cell_one rfl]; go_simp) rfl ⟨p5, H5, rfl, HT5.out, below_put HF.out (by omega)⟩
end Go.Proofs.YtjkpjbgapemieaaGreatDoor
