/-
  tree's rooted, change.
  tree's change.
-/
import Derived.Test.YtbgkjniagedcnaaGreatDoorReplZ
import Derived.Test.YtbgkjniagedcnaaGreatDoorTreeZ
import Derived.Test.YtbgkjniagedcnaaGreatDoorTurnZ
import Derived.Laws.ResultCell
namespace Go.Proofs.YtbgkjniagedcnaaGreatDoor
open Go Go.RowKit

theorem isLeaf_zero (b : Nat) (vc vk : Value) (a : Option Addr) (c : Nat) (w : World) (hb : NB w b vc vk (.slice a 0 c)) : Calls Tryz.prog 32 #[pt b] w fun e w' => e = .returned (.bool true) ∧ w = w' := by
  have q2 := hb.c3
  clear hb
  go_enter Tryz.func32, Tryz.ntmps32
  go_wp2
  go_ret
  exact ⟨rfl, rfl⟩
/-- So many nodes of one kid stand above a node. -/
def Steps (w : World) (f : Nat) : Nat → Nat → Prop
  | 0, r => r = f
  | k + 1, r => ∃ vc vk g o c r', NB w r vc vk (.slice (some ⟨g, o, none⟩) 1 c) ∧ w.cell? ⟨g, o, none⟩ = some (pt r') ∧ Steps w f k r'
set_option maxRecDepth 100000 in
theorem rooted_walk (b : Nat) (w : World) (R : World → Nat → Nat → Nat → Prop)
    (H : Calls Tryz.prog 77 #[pt b] w fun e w1 => ∃ a1 n1 c1 a2 n2 c2, e = .returned (.tuple #[.slice a1 n1 c1, .slice a2 n2 c2]) ∧ Below w.heap.size w w1 ∧
      ∀ g W, NP W g 0 nilS (.slice a2 n2 c2) (.slice a1 n1 c1) → Below w1.heap.size w1 W → ∃ k f ac nc cc vk a nk c, Steps W f k g ∧ NB W f (.slice ac nc cc) vk (.slice a nk c) ∧ nk ≠ 1 ∧ R W f nk nc) :
    Calls Tryz.prog 56 #[pt b] w fun e w' => Below w.heap.size w w' ∧ ∃ f nk nc, R w' f nk nc ∧ e = .returned (if nk = 0 ∧ nc = 0 then .pointer none else pt f) := by
  have H1 := Lib.hid H
  clear H
  go_enter Tryz.func56, Tryz.ntmps56
  go_wp2_with fail
  refine H1.out.mono ?_
  rintro e w1 ⟨a1, n1, c1, a2, n2, c2, rfl, hb1, hR⟩
  obtain ⟨gR, W, hgR, hW, hnb, hb2⟩ := alloc_node w1 nilS (.slice a2 n2 c2) (.slice a1 n1 c1)
  obtain ⟨k, f, ac, nc, cc, vk, a, nk, c, hst, hf, hne, hr⟩ := hR gR W hnb hb2
  have HG := Lib.hid (And.intro hgR hW)
  have HB := Lib.hid (hb1.trans (hb2.mono hb1.size))
  have Hst := Lib.hid hst
  have Hf := Lib.hid hf
  have Hr := Lib.hid hr
  have d1 : ((nk : Int) == 1) = false := by rw [beq_eq_false_iff_ne]; omega
  clear hb1 hb2 hR hgR hW hnb hst hf hr H1 hne
  go_wp2_with fail
  rw [HG.out.1, HG.out.2]
  go_loopg [5] k (fun j u wr => ∃ r, u = pt r ∧ Hid (Steps W f j r) ∧ W = wr)
  case atStart => exact ⟨gR, rfl, Hst, by first | trivial | rfl⟩
  case round =>
    obtain ⟨r, rfl, hs, rfl⟩ := hrel
    cases gk with
    | zero =>
      obtain rfl : r = f := hs.out
      have q2 := Hf.out.c3
      have q0 := Hf.out.c1
      rcases Nat.eq_zero_or_pos nk with h0 | h0
      · subst h0
        have hil := Lib.hid (isLeaf_zero r _ _ _ _ W Hf.out)
        by_cases hn0 : nc = 0
        · subst hn0
          go_wp2_with fail
          refine hil.out.mono ?_
          rintro e w' ⟨rfl, rfl⟩
          go_wp2
          go_ret
          exact ⟨HB.out, r, 0, 0, Hr.out, by rw [if_pos ⟨rfl, rfl⟩]; rfl⟩
        · have d2 : ((nc : Int) == 0) = false := by rw [beq_eq_false_iff_ne]; omega
          go_wp2_with fail
          refine hil.out.mono ?_
          rintro e w' ⟨rfl, rfl⟩
          go_wp2
          go_ret
          exact ⟨HB.out, r, 0, nc, Hr.out, by rw [if_neg (fun h => hn0 h.2)]; rfl⟩
      · have hil := Lib.hid (isLeaf_no r _ _ _ _ _ W Hf.out h0)
        go_wp2_with fail
        refine hil.out.mono ?_
        rintro e w' ⟨rfl, rfl⟩
        go_wp2
        go_ret
        exact ⟨HB.out, r, nk, nc, Hr.out, by rw [if_neg (fun h => by omega)]; rfl⟩
    | succ j =>
      obtain ⟨vc, vk2, g, o, c9, r', hn, hc, hs'⟩ := hs.out
      have q2 := hn.c3
      have Hs := Lib.hid hs'
      clear hn hs hs'
      go_wp2_with fail
      go_roundg j
      case measure => omega
      case rel => exact ⟨r', rfl, Hs, by first | trivial | rfl⟩
/-- What a root is in the end: where the tree itself lies nowhere, what it has comes from there. -/
def RootFr (h : Nat) (t : Tr) (ts : List Tr) (H : Nat) : Prop := t.pg = 0 → Fr [t] ts 2 ∧ nwL ts + 2 * h ≤ nwL t.kids + 2 * H
def RootOk (h : Nat) (t : Tr) (W : World) (f nk nc : Nat) : Prop := (nk = 0 ∧ nc = 0 → t.es = [] ∧ h = 0) ∧
  (¬ (nk = 0 ∧ nc = 0) → ∃ h2 t2, NdT W h2 none none f t2 ∧ t2.sz ≤ 504 ∧ (0 < h2 → 3 ≤ t2.sz) ∧ t2.es ≠ [] ∧ t2.es = t.es ∧ RootFr h t [t2] (h2 + 1))
def Fin (h : Nat) (t : Tr) (W : World) (f : Nat) : Prop := ∃ ac nc cc vk a nk c, NB W f (.slice ac nc cc) vk (.slice a nk c) ∧ nk ≠ 1 ∧ RootOk h t W f nk nc
theorem fin_bran {W : World} {h0 h f : Nat} {t : Tr} {pg : Nat} {ks : List ByteArray} {ps : List Nat} {ts : List Tr} (hb : BranP W f pg ks ps) (hr : KRow (GoodT W h) ks none none ps ts) (h1 : 1 ≤ ks.length) (hs : brSz ks ≤ 504) (he : esL ts = t.es) (hf : RootFr h0 t [.bran pg ks ts] (h + 1 + 1)) : Fin h0 t W f := by
  have hle := hr.len
  have hc := KRow.count (m := 1) (fun lo hi p e hg => Nat.le_trans (by have := Nat.one_le_two_pow (n := 0); have : 1 ≤ 4 ^ h := Nat.one_le_pow _ _ (by omega); omega) (Good.count h lo hi p e hg)) hr.good
  have hk := kss_range hr.factsT.2.2.2
  have hb' := hb
  obtain ⟨vk, vp, nb, ⟨a0, c0, rfl, _⟩, ⟨a1, c1, rfl, _⟩⟩ := hb
  refine ⟨_, _, _, _, _, _, _, nb.nb, by omega, fun h => by omega, fun _ => ⟨h + 1, .bran pg ks ts, ndT_succ.2 ⟨pg, ks, ps, ts, rfl, hb', hr⟩, hs, fun _ => by simp only [Tr.sz]; unfold brSz; omega, fun h => ?_, by simp only [Tr.es]; exact he, hf⟩⟩
  simp only [Tr.es] at h
  rw [esL_flat] at h
  rw [h] at hc; simp at hc
theorem fin_good {W : World} {h0 h f : Nat} {t t2 : Tr} (hg : GoodT W h none none f t2) (he : t2.es = t.es) (hf : RootFr h0 t [t2] (h + 1)) : Fin h0 t W f := by
  have hc := Good.count h _ _ _ _ hg.good
  have h1 : 1 ≤ 4 ^ h := Nat.one_le_pow _ _ (by omega)
  obtain ⟨hn, h126, h504⟩ := hg
  cases h with
  | zero =>
    have hn' := hn
    obtain ⟨pg, es, rfl, ⟨vc, nb, a0, c0, rfl, _⟩, _⟩ := hn
    simp only [Tr.es] at hc
    exact ⟨_, _, _, _, _, _, _, nb.nb, by omega, fun h => by omega, fun _ => ⟨0, _, hn', h504, fun _ => by omega, fun h => by simp only [Tr.es] at h; rw [h] at hc; simp at hc, he, hf⟩⟩
  | succ h =>
    obtain ⟨pg, ks, ps, ts, rfl, hb, hr⟩ := hn
    have hk := kss_range hr.factsT.2.2.2
    simp only [Tr.sz] at h126 h504
    exact fin_bran hb hr (by unfold brSz at h126; omega) h504 (by simp only [Tr.es] at he; exact he) hf
theorem rooted_any {h b : Nat} {t : Tr} (w : World) (hn : NdT w h none none b t) (hs : t.sz ≤ 660) :
    Calls Tryz.prog 56 #[pt b] w fun e w' => ∃ p ts H, e = .returned (.pointer p) ∧ TreeT w' p ts H ∧ esL ts = t.es ∧ RootFr h t ts H ∧ Below w.heap.size w w' := by
  refine (rooted_walk b w (RootOk h t) ?_).mono ?_
  · rcases Nat.lt_or_ge 504 t.sz with h3 | h3
    · refine (parted_good w hn (by omega) (by omega)).mono ?_
      rintro e w1 ⟨vp, vk, ks', ps', ts', rfl, ⟨ap, cp, rfl, sp, zp, rp⟩, ⟨ak, ck, rfl, sk, zk, rk⟩, hr, ⟨hfl, hhv⟩, hk1, hb1⟩
      refine ⟨_, _, _, _, _, _, rfl, hb1, fun g W hg hW => ?_⟩
      have hr' : KRow (GoodT W h) ks' none none ps' ts' := hr.mono (fun _ _ _ _ hx => GoodT.ext hW hx)
      have hbr : BranP W g 0 ks' ps' := ⟨_, _, hg, ⟨ak, ck, rfl, sk.below hW (Nat.le_refl _), zk, rk⟩, ⟨ap, cp, rfl, sp.below hW (Nat.le_refl _), zp, rp⟩⟩
      have hle := hr.len
      cases ks' with
      | nil =>
        exfalso
        rcases hhv with ⟨h4, _⟩ | ⟨_, ⟨_, _, _, _, rfl⟩ | ⟨_, _, _, _, _, rfl⟩⟩
        · omega
        · simp at hle
        · simp at hle
      | cons k r =>
        have hko := kss_range hr'.factsT.2.2.2
        have hfr : RootFr h t [.bran 0 (k :: r) ts'] (h + 1 + 1) := fun h0 => by
          have f1 := hhv.fr h0
          have f2 : Fr [t] [.bran 0 (k :: r) ts'] (1 + 1) := f1.new rfl
          have f3 := f2.nw
          have f4 := nw_new h0
          simp only [nwL] at f3
          simp only [nwL]
          exact ⟨f2, by omega⟩
        obtain ⟨ac, nc, cc, vk, a, nk, c, h1, h2, h4⟩ := fin_bran hbr hr' (by simp) (by unfold brSz; omega) hfl hfr
        exact ⟨0, g, ac, nc, cc, vk, a, nk, c, rfl, h1, h2, h4⟩
    · refine (parted_fits b t.sz w h3 (size_node w (NdT.nd h hn) (by omega))).mono ?_
      rintro e w1 ⟨vp, rfl, ⟨ap, cp, rfl, sp, zp, rp⟩, hb1⟩
      refine ⟨_, _, _, _, _, _, rfl, hb1, fun g W hg hW => ?_⟩
      obtain ⟨g2, o2, rfl, hc2⟩ := (sp.below hW (Nat.le_refl _)).ptrs (by simp)
      have hst : ∀ k f, Steps W f k b → Steps W f (k + 1) g := fun k f hx => ⟨_, _, g2, o2, _, b, hg.nb, hc2 0 (by simp), hx⟩
      have hbW := hb1.trans (hW.mono hb1.size)
      have hnW := NdT.ext hbW h hn
      have hself : RootFr h t [t] (h + 1) := fun h0 => by
        have f4 := nw_new h0
        simp only [nwL]
        exact ⟨(Fr.refl _).mono (by omega), by omega⟩
      cases h with
      | zero =>
        have hn' := hnW
        obtain ⟨pg, es, rfl, ⟨vc, nb, a0, c0, rfl, _⟩, _⟩ := hnW
        refine ⟨1, b, _, _, _, _, _, _, _, hst 0 b rfl, nb.nb, by omega, fun h => ⟨by simp only [Tr.es]; exact List.eq_nil_of_length_eq_zero h.2, rfl⟩, fun h => ⟨0, _, hn', h3, fun h => by omega, fun h5 => h ⟨rfl, by simp only [Tr.es] at h5; rw [h5]; rfl⟩, rfl, hself⟩⟩
      | succ h =>
        obtain ⟨pg, ks, ps, ts, rfl, hbr, hr⟩ := hnW
        cases ks with
        | nil =>
          obtain ⟨p, t2, rfl, rfl, hgd⟩ := hr
          obtain ⟨vk, vp, nb, _, ⟨a1, c1, rfl, s1, _⟩⟩ := hbr
          obtain ⟨g3, o3, rfl, hc3⟩ := s1.ptrs (by simp)
          have hfr : RootFr (h + 1) (.bran pg [] [t2]) [t2] (h + 1) := fun h0 => by
            simp only [Tr.kids]
            exact ⟨(fr_kids rfl).mono (by omega), by omega⟩
          obtain ⟨ac, nc, cc, vk, a, nk, c, h1, h2, h4⟩ := fin_good (t := .bran pg [] [t2]) hgd (by simp only [Tr.es]; rw [esL_one]) hfr
          exact ⟨2, p, ac, nc, cc, vk, a, nk, c, hst 1 p ⟨_, _, g3, o3, _, p, nb.nb, hc3 0 (by simp), rfl⟩, h1, h2, h4⟩
        | cons k r =>
          obtain ⟨ac, nc, cc, vk, a, nk, c, h1, h2, h4⟩ := fin_bran (t := .bran pg (k :: r) ts) hbr hr (by simp) h3 (by simp only [Tr.es]) hself
          exact ⟨1, b, ac, nc, cc, vk, a, nk, c, hst 0 b rfl, h1, h2, h4⟩
  · rintro e w' ⟨hb, f, nk, nc, hr, rfl⟩
    by_cases h0 : nk = 0 ∧ nc = 0
    · rw [if_pos h0]
      obtain ⟨h5, h6⟩ := hr.1 h0
      refine ⟨none, [], 0, rfl, .inl ⟨rfl, rfl, rfl⟩, by rw [h5]; rfl, fun h7 => ⟨⟨fun p => by simp [pgsL], by simp [nwL], fun _ _ => trivial⟩, ?_⟩, hb⟩
      simp only [nwL]; omega
    · rw [if_neg h0]
      obtain ⟨h2, t2, h4, h5, h6, h7, h8, h9⟩ := hr.2 h0
      exact ⟨some ⟨f, 0, none⟩, [t2], h2 + 1, rfl, .inr ⟨f, h2, t2, rfl, rfl, h4, h5, h6, h7, rfl⟩, by rw [esL_one]; exact h8, h9, hb⟩
end Go.Proofs.YtbgkjniagedcnaaGreatDoor
namespace Go.Proofs.YtbgkjniagedcnaaGreatDoor
open Go Go.RowKit

/-- A block that holds a tree. -/
def TB (w : World) (b : Nat) (p : Option Addr) (n : Int) : Prop := w.heap[b]? = some (.cells #[.pointer p, .int .i64 n] TT (0, 0))
section
variable {w : World} {b : Nat} {p : Option Addr} {n : Int}
theorem TB.c0 (h : TB w b p n) : w.cell? ⟨b, 0, none⟩ = some (.pointer p) := by
  have h' : w.heap[b]? = _ := h
  simp [World.cell?, h']
theorem TB.c1 (h : TB w b p n) : w.cell? ⟨b, 1, none⟩ = some (.int .i64 n) := by
  have h' : w.heap[b]? = _ := h
  simp [World.cell?, h']
theorem TB.fz (h : TB w b p n) (j : Nat) : w.frozen? ⟨b, j, none⟩ = false := by
  have h' : w.heap[b]? = _ := h
  simp [World.frozen?, h']
theorem TB.lt (h : TB w b p n) : b < w.heap.size := (Array.getElem?_eq_some_iff.1 h).1
theorem TB.ext {w' : World} (h : TB w b p n) (hb : Below w.heap.size w w') : TB w' b p n := (hb.block b h.lt).trans h
theorem TB.below {w' : World} {B : Nat} (h : TB w b p n) (hb : Below B w w') (hB : b < B) : TB w' b p n := (hb.block b hB).trans h
theorem TB.turn {w' : World} {F : Nat → Prop} (h : TB w b p n) (t : Turn F w w') (hF : ¬ F b) : TB w' b p n := t.hg h hF
theorem TB.put (h : TB w b p n) (q : Option Addr) (m : Int) : TB ((w.setCell ⟨b, 0, none⟩ (.pointer q)).setCell ⟨b, 1, none⟩ (.int .i64 m)) b q m :=
  heap_setCell_same _ b 1 _ _ _ (heap_setCell_same w b 0 _ _ _ h)
end
/-! ### What stays where variables turn -/
/-- The type of a variable that is no row's and no node's. -/
def vty (T : TypeId) : Bool := !(T == ET || T == RET || T == 9 || T == PNT || T == NT || T == VT || T == TCT || T == 3)
/-- Blocks that turn are variables. -/
def TF (w : World) (F : Nat → Prop) : Prop := ∀ b, F b → ∃ A T fz, w.heap[b]? = some (.cells A T fz) ∧ vty T = true
section
variable {w w' : World} {F : Nat → Prop}
theorem TF.var {b : Nat} {A : Array Value} {T : TypeId} {fz : Nat × Nat} (h : w.heap[b]? = some (.cells A T fz)) (hT : vty T = true := by decide) : TF w (fun i => i = b) := fun _ e => ⟨A, T, fz, e ▸ h, hT⟩
theorem TF.one {b : Nat} {q : Option Addr} {n : Int} (h : TB w b q n) : TF w (fun i => i = b) := TF.var (h : w.heap[b]? = _)
theorem TF.not {b : Nat} {A : Array Value} {T : TypeId} {fz : Nat × Nat} (hF : TF w F) (h : w.heap[b]? = some (.cells A T fz)) (hT : vty T = false) : ¬ F b := fun hb => by
  obtain ⟨A', T', fz', h2, h3⟩ := hF b hb
  rw [h] at h2
  injection h2 with h2
  injection h2 with _ h2 _
  rw [← h2, hT] at h3
  cases h3
theorem NP.turn {b pg : Nat} {vc vk vp : Value} (h : NP w b pg vc vk vp) (t : Turn F w w') (hF : TF w F) : NP w' b pg vc vk vp := h.elim fun T h' => ⟨T, h'.1, t.hg h'.2 (hF.not h'.2 (by
  have h1 : (T == NT || T == VT) = true := h'.1
  simp only [Bool.or_eq_true, beq_iff_eq] at h1
  rcases h1 with rfl | rfl <;> decide))⟩
theorem NB.turn {b : Nat} {vc vk vp : Value} (h : NB w b vc vk vp) (t : Turn F w w') (hF : TF w F) : NB w' b vc vk vp := h.elim fun pg h => ⟨pg, h.turn t hF⟩
theorem ES.turn {α : Type} {E : Elt α} {a : Option Addr} {l : List α} (hE : ∀ T, E.ty T = true → vty T = false) (h : ES E w a l) (t : Turn F w w') (hF : TF w F) : ES E w' a l := by
  rcases h with h | ⟨g, o, rfl, ⟨A, T, fz, ht, hT⟩, hc⟩
  · exact .inl h
  · have hg : ¬ F g := hF.not ht (hE T hT)
    refine .inr ⟨g, o, rfl, ⟨A, T, fz, t.hg ht hg, hT⟩, fun j u hu => ?_⟩
    have h1 := hc j u hu
    rw [t.cell (p := ⟨g, o + j, none⟩) (block_lt_of_cell h1) hg]
    exact h1
theorem entE_str : ∀ T, entE.ty T = true → vty T = false := fun T h => by
  have h' : (T == ET || T == RET) = true := h
  unfold vty; rw [h']; rfl
theorem strE_str : ∀ T, strE.ty T = true → vty T = false := fun T h => by
  have h' : (T == 9) = true := h
  unfold vty; rw [h']; simp
theorem ptrE_str : ∀ T, ptrE.ty T = true → vty T = false := fun T h => by
  have h' : (T == PNT) = true := h
  unfold vty; rw [h']; simp
theorem celE_str : ∀ T, celE.ty T = true → vty T = false := fun T h => by
  have h' : (T == TCT) = true := h
  unfold vty; rw [h']; simp
theorem pgE_str : ∀ T, pgE.ty T = true → vty T = false := fun T h => by
  have h' : (T == 3) = true := h
  unfold vty; rw [h']; simp
theorem EV.turn {α : Type} {E : Elt α} {v : Value} {l : List α} (hE : ∀ T, E.ty T = true → vty T = false) (h : EV E w v l) (t : Turn F w w') (hF : TF w F) : EV E w' v l := by
  obtain ⟨a, c, rfl, hs, h1⟩ := h
  exact ⟨a, c, rfl, hs.turn hE t hF, h1⟩
theorem RW.turn (t : Turn F w w') (hF : TF w F) : ∀ {xs : List Rw} {es : List En}, RW w xs es → RW w' xs es
  | [], [], _ => trivial
  | _ :: _, _ :: _, h => ⟨⟨h.1.1, h.1.2.1, h.1.2.2.turn pgE_str t hF⟩, RW.turn t hF h.2⟩
  | [], _ :: _, h => h.elim
  | _ :: _, [], h => h.elim
theorem CS.turn {a : Option Addr} {es : List En} (h : CS w a es) (t : Turn F w w') (hF : TF w F) : CS w' a es := by
  obtain ⟨xs, h1, h2⟩ := h
  exact ⟨xs, h1.turn celE_str t hF, h2.turn t hF⟩
theorem CV.turn {v : Value} {es : List En} (h : CV w v es) (t : Turn F w w') (hF : TF w F) : CV w' v es := by
  obtain ⟨a, c, rfl, hs, h1⟩ := h
  exact ⟨a, c, rfl, hs.turn t hF, h1⟩
theorem Nd.turn (t : Turn F w w') (hF : TF w F) : ∀ (h : Nat) {lo hi : SB} {b : Nat} {es : List En} {s : Nat}, Nd w h lo hi b es s → Nd w' h lo hi b es s
  | 0, _, _, _, _, _, ⟨⟨vc, h1, h2⟩, h3⟩ => ⟨⟨vc, h1.turn t hF, h2.turn t hF⟩, h3⟩
  | h + 1, _, _, _, _, _, ⟨ks, ps, ess, ⟨vk, vp, h1, h2, h3⟩, h4, h5, h6⟩ =>
    ⟨ks, ps, ess, ⟨vk, vp, h1.turn t hF, h2.turn strE_str t hF, h3.turn ptrE_str t hF⟩, h4.mono (fun _ _ _ _ ⟨s, h7, h8⟩ => ⟨s, Nd.turn t hF h h7, h8⟩), h5, h6⟩
theorem NdT.turn (t : Turn F w w') (hF : TF w F) : ∀ (h : Nat) {lo hi : SB} {b : Nat} {u : Tr}, NdT w h lo hi b u → NdT w' h lo hi b u
  | 0, _, _, _, _, ⟨pg, es, h0, ⟨vc, h1, h2⟩, h3⟩ => ⟨pg, es, h0, ⟨vc, h1.turn t hF, h2.turn t hF⟩, h3⟩
  | h + 1, _, _, _, _, ⟨pg, ks, ps, ts, h0, ⟨vk, vp, h1, h2, h3⟩, h4⟩ =>
    ⟨pg, ks, ps, ts, h0, ⟨vk, vp, h1.turn t hF, h2.turn strE_str t hF, h3.turn ptrE_str t hF⟩, h4.mono (fun _ _ _ _ ⟨h7, h8⟩ => ⟨NdT.turn t hF h h7, h8⟩)⟩
theorem TreeT.turn {p : Option Addr} {ts : List Tr} {H : Nat} (h : TreeT w p ts H) (t : Turn F w w') (hF : TF w F) : TreeT w' p ts H := by
  rcases h with h | ⟨b, h, u, h1, h0, h2, h3⟩
  · exact .inl h
  · exact .inr ⟨b, h, u, h1, h0, NdT.turn t hF h h2, h3⟩
theorem TreeP.turn {p : Option Addr} {es : List En} {H : Nat} (h : TreeP w p es H) (t : Turn F w w') (hF : TF w F) : TreeP w' p es H := by
  obtain ⟨es', h0, h⟩ := h
  refine ⟨es', h0, ?_⟩
  rcases h with h | ⟨b, h, s, h1, h2, h3, h4, h5⟩
  · exact .inl h
  · exact .inr ⟨b, h, s, h1, Nd.turn t hF h h2, h3, h4, h5⟩
end
theorem turn_put (W : World) (b : Nat) (u v : Value) : Turn (fun i => i = b) W ((W.setCell ⟨b, 0, none⟩ u).setCell ⟨b, 1, none⟩ v) :=
  ((Turn.refl (fun i => i = b) W).setCell (p := ⟨b, 0, none⟩) u (fun _ => rfl)).setCell (p := ⟨b, 1, none⟩) v (fun _ => rfl)
/-- What stands in the end of a walk that made two blocks of its own. -/
theorem below_put {w0 W : World} {b : Nat} {u v : Value} (h : Below w0.heap.size w0 W) (hb : w0.heap.size ≤ b) : Below w0.heap.size w0 ((W.setCell ⟨b, 0, none⟩ u).setCell ⟨b, 1, none⟩ v) :=
  (h.setCell (p := ⟨b, 0, none⟩) hb u).setCell (p := ⟨b, 1, none⟩) hb v
/-- What a change leaves of the pages, and how many nodes it makes. -/
theorem chg_fr {a ts' : List Tr} {t2 : Tr} {h H : Nat} (h1 : Fr a t2.kids (2 * h)) (h2 : t2.pg = 0) (h3 : RootFr h t2 ts' H) : Fr a ts' (2 * H) := by
  obtain ⟨h4, h5⟩ := h3 h2
  have h6 := (h1.new h2).trans h4
  have h7 := h1.nw
  exact ⟨h6.pg, by omega, h6.on⟩
set_option maxRecDepth 100000 in
theorem change_core (p : Option Addr) (ts : List Tr) (n0 m n1 : Int) (key : ByteArray) (a : Option Addr) (n c : Nat) (o : List En) (w : World) (hkey : oneO key o) (hoE : ∀ x ∈ o, okE x)
    (hno : o.length = n) (hz : a = none → c = 0) (hes : CS w a o) (H : Nat) (ht : TreeT w p ts H) (hm : IntKind.i64.wrap (n0 + m) = n1) :
    Calls Tryz.prog 34 #[.agg #[.pointer p, .int .i64 n0], .int .i64 m, .string key, .slice a n c] w fun e w' => ∃ p' ts' H', e = .returned (.agg #[.pointer p', .int .i64 n1]) ∧ TreeT w' p' ts' H' ∧ (esL ts' = rep (esL ts) key o ∧ Fr ts ts' (2 * H')) ∧ Below w.heap.size w w' := by
  -- the node at which it begins
  obtain ⟨W1, hW1, hT1, hb1⟩ := alloc_own w TT #[.pointer p, .int .i64 n0]
  obtain ⟨W2, hW2, hT2, hb2⟩ := alloc_own W1 TT #[.pointer none, .int .i64 0]
  have hs1 : W1.heap.size = w.heap.size + 1 := by rw [← hW1]; simp
  have hb12 := hb1.trans (hb2.mono hb1.size)
  have hT1' : TB W2 w.heap.size p n0 := TB.ext (w := W1) hT1 hb2
  have hT2' : TB W2 (w.heap.size + 1) none 0 := by rw [← hs1]; exact hT2
  have main : ∀ (W3 : World) (bn h : Nat) (t : Tr), Below W2.heap.size W2 W3 → NdT W3 h none none bn t → t.sz ≤ 504 → (0 < h → 3 ≤ t.sz) → t.es = esL ts → (∀ u, Fr t.kids u (2 * h) → Fr ts u (2 * h)) →
      ∃ W, W3.drew = W ∧ Below W2.heap.size W2 W ∧ Calls Tryz.prog 57 #[pt bn, .string key, .slice a n c] W (fun e w' => ∃ b2, e = .returned (pt b2) ∧ Below W.heap.size W w' ∧
        Calls Tryz.prog 56 #[pt b2] w' fun e w'' => ∃ p ts' H, e = .returned (.pointer p) ∧ TreeT w'' p ts' H ∧ (esL ts' = rep (esL ts) key o ∧ Fr ts ts' (2 * H)) ∧ Below w'.heap.size w' w'') := fun W3 bn h t hb3 hn hs hs3 hte htk => by
    have hbd : Below W3.heap.size W3 W3.drew := (Below.refl _ _).drew
    have hbx := hb3.trans (hbd.mono hb3.size)
    refine ⟨_, rfl, hbx, ?_⟩
    have hby := hb12.trans (hbx.mono hb12.size)
    refine (replaced_any h bn t key a n c o W3.drew (NdT.ext hbd h hn) hs hs3 (ins_none key) hkey hoE hno hz (hes.below hby (Nat.le_refl _))).mono ?_
    rintro e w' ⟨b2, t2, rfl, hn2, ⟨he2, hp2, hf2⟩, hs2, _, hb⟩
    refine ⟨b2, rfl, hb, (rooted_any w' hn2 (by omega)).mono ?_⟩
    rintro e w'' ⟨p, ts', H, rfl, ht, he, hf, hb2⟩
    exact ⟨p, ts', H, rfl, ht, ⟨by rw [he, he2, hte], chg_fr (htk _ hf2) hp2 hf⟩, hb2⟩
  have Main := Lib.hid main
  have HW := Lib.hid (And.intro hW1 hW2)
  have HT := Lib.hid (And.intro hT1' hT2')
  have HB := Lib.hid hb12
  have Hs1 := Lib.hid hs1
  have tail : ∀ (W3 W : World) (bn : Nat), W3.drew = W → Below W2.heap.size W2 W →
      Hid (∀ w' w'', Below W.heap.size W w' → Below w'.heap.size w' w'' → Below w.heap.size w w'' ∧ TB w'' (w.heap.size + 1) none 0) := fun W3 W bn _ hbW w' w'' h1 h2 => by
    have h3 := h1.trans (h2.mono h1.size)
    have h4 := hbW.trans (h3.mono hbW.size)
    exact ⟨hb12.trans (h4.mono hb12.size), hT2'.ext h4⟩
  have Tail := Lib.hid tail
  clear main tail hW1 hW2 hT1 hT2 hb1 hb2 hb12 hT1' hT2' hs1 hkey hoE hno hz hes
  rcases ht with ⟨rfl, rfl, _⟩ | ⟨bn, h, t, rfl, rfl, hn, hs, hs3, _⟩
  · obtain ⟨W3, hW3, hT3, hb3⟩ := alloc_own W2 NT #[.int .i64 0, nilS, nilS, nilS]
    have hnd : NdT W3 0 none none W2.heap.size (.leaf 0 []) := ⟨0, [], rfl, ⟨nilS, ⟨NT, rfl, hT3⟩, CV.none _⟩, trivial, List.Pairwise.nil, fun x hx => (by cases hx)⟩
    obtain ⟨W, hW, hbW, hcall⟩ := Main.out W3 W2.heap.size 0 (.leaf 0 []) hb3 hnd (by decide) (fun h => by omega) rfl (fun _ h => h)
    have Ht := Lib.hid (Tail.out W3 W W2.heap.size hW hbW).out
    have hs2 : W2.heap.size = w.heap.size + 1 + 1 := by rw [← HW.out.2]; simp [Hs1.out]
    have q : ∀ w', Turn (fun i => i = w.heap.size + 1) W w' → w'.cell? ⟨w.heap.size, 1, none⟩ = some (.int .i64 n0) := fun w' t => ((HT.out.1.ext hbW).turn t (by omega)).c1
    have Hcall := Lib.hid hcall
    have HW3 : Hid ((((w.alloc (.cells #[.pointer none, .int .i64 n0] TT)).alloc (.cells #[.pointer none, .int .i64 0] TT)).alloc (.cells #[.int .i64 0, nilS, nilS, nilS] NT)).drew = W) := by
      show _ = _
      rw [HW.out.1, HW.out.2, hW3, hW]
    rw [hs2] at Hcall
    clear hW3 hT3 hb3 hnd hW hbW hcall Main Tail HT hs2 HW HB Hs1
    go_enter Tryz.func34, Tryz.ntmps34
    go_wp2_with fail
    refine wp_region_gt (F := fun i => i = w.heap.size + 1) [(0, true), (1, true), (2, true), (5, true), (6, true), (7, true), (8, true), (3, false), (4, false), (9, true), (10, false)] (by kernel_rfl) (by kernel_rfl) (by kernel_rfl) (by kernel_rfl) (fun _ _ _ _ _ h => h) ?_
    rw [HW3.out]
    iterate 7 (refine wpGt_read (o := ⟨_, _, _, _, _, _⟩) (v := ?_) rfl (by rfl) ?_ ?_; rotate_left; (intro w' hw'; go_simp; with_reducible rfl); simp only [Act.put, List.setIfInBounds_toArray, List.set_cons_zero, List.set_cons_succ])
    clear q
    refine wpGt_call (o := ⟨_, _, _, _, _, _⟩) rfl (by rfl) (fun K hK => ?_)
    go_simp
    refine Hcall.out.mono ?_
    rintro e w4 ⟨b2, rfl, hb4, hc4⟩
    refine hK _ _ (Turn.ofBelow hb4) ?_
    clear hK K Hcall
    have Hc4 := Lib.hid hc4
    have Hb4 := Lib.hid hb4
    clear hc4 hb4
    refine wpGt_call (o := ⟨_, _, _, _, _, _⟩) rfl (by rfl) (fun K hK => ?_)
    go_simp
    refine Hc4.out.mono ?_
    rintro e w5 ⟨p5, ts5, H5, rfl, ht5, hf5, hb5⟩
    have HF5 := Lib.hid hf5
    refine hK _ _ (Turn.ofBelow hb5) ?_
    clear hK K Hc4
    have hfin := Ht.out w4 w5 Hb4.out hb5
    have HT5 := Lib.hid (ht5.turn (turn_put w5 (w.heap.size + 1) (.pointer p5) (.int .i64 n1)) (TF.one hfin.2))
    have HF := Lib.hid hfin.1
    have c0 := hfin.2.c0
    have c1 := hfin.2.c1
    have f0 := hfin.2.fz 0
    have f1 := hfin.2.fz 1
    have HP := Lib.hid (hfin.2.put p5 n1)
    clear hfin ht5 hf5 hb5 Hb4 Ht
    (refine wpGt_read (o := ⟨_, _, _, _, _, _⟩) (v := ?_) rfl (by rfl) ?_ ?_; rotate_left; (intro w' hw'; go_simp; with_reducible rfl); simp only [Act.put, List.setIfInBounds_toArray, List.set_cons_zero, List.set_cons_succ])
    refine wpGt_call (o := ⟨_, _, _, _, _, _⟩) rfl (by rfl) (fun K hK => ?_)
    go_simp
    refine hK _ _ (turn_put _ _ _ _) ?_
    clear hK K
    refine wpGt_done ?_
    have d0 := HP.out.c0
    have d1 := HP.out.c1
    go_wp2_with fail
    refine bodyPost_ret (v := .agg #[.pointer p5, .int .i64 n1]) (by rw [results_cell_one rfl]; go_simp) rfl ⟨p5, ts5, H5, rfl, HT5.out, HF5.out, below_put HF.out (by omega)⟩
  · have hn2 := NdT.ext HB.out h hn
    obtain ⟨W, hW, hbW, hcall⟩ := Main.out W2 bn h t (Below.refl _ _) hn2 hs hs3 (esL_one t).symm (fun u hu => by have := (Fr.kids t).trans hu; rwa [Nat.zero_add] at this)
    have Ht := Lib.hid (Tail.out W2 W bn hW hbW).out
    have q : ∀ w', Turn (fun i => i = w.heap.size + 1) W w' → w'.cell? ⟨w.heap.size, 1, none⟩ = some (.int .i64 n0) := fun w' t => ((HT.out.1.ext hbW).turn t (by omega)).c1
    have Hcall := Lib.hid hcall
    have HW3 : Hid (((w.alloc (.cells #[.pointer (some ⟨bn, 0, none⟩), .int .i64 n0] TT)).alloc (.cells #[.pointer none, .int .i64 0] TT)).drew = W) := by
      show _ = _
      rw [HW.out.1, HW.out.2, hW]
    clear hW hbW hcall Main Tail HT HW HB Hs1 hn hn2 hs hs3
    go_enter Tryz.func34, Tryz.ntmps34
    go_wp2_with fail
    refine wp_region_gt (F := fun i => i = w.heap.size + 1) [(0, true), (1, true), (2, true), (5, true), (6, true), (7, true), (8, true), (3, false), (4, false), (9, true), (10, false)] (by kernel_rfl) (by kernel_rfl) (by kernel_rfl) (by kernel_rfl) (fun _ _ _ _ _ h => h) ?_
    rw [HW3.out]
    iterate 7 (refine wpGt_read (o := ⟨_, _, _, _, _, _⟩) (v := ?_) rfl (by rfl) ?_ ?_; rotate_left; (intro w' hw'; go_simp; with_reducible rfl); simp only [Act.put, List.setIfInBounds_toArray, List.set_cons_zero, List.set_cons_succ])
    clear q
    refine wpGt_call (o := ⟨_, _, _, _, _, _⟩) rfl (by rfl) (fun K hK => ?_)
    go_simp
    refine Hcall.out.mono ?_
    rintro e w4 ⟨b2, rfl, hb4, hc4⟩
    refine hK _ _ (Turn.ofBelow hb4) ?_
    clear hK K Hcall
    have Hc4 := Lib.hid hc4
    have Hb4 := Lib.hid hb4
    clear hc4 hb4
    refine wpGt_call (o := ⟨_, _, _, _, _, _⟩) rfl (by rfl) (fun K hK => ?_)
    go_simp
    refine Hc4.out.mono ?_
    rintro e w5 ⟨p5, ts5, H5, rfl, ht5, hf5, hb5⟩
    have HF5 := Lib.hid hf5
    refine hK _ _ (Turn.ofBelow hb5) ?_
    clear hK K Hc4
    have hfin := Ht.out w4 w5 Hb4.out hb5
    have HT5 := Lib.hid (ht5.turn (turn_put w5 (w.heap.size + 1) (.pointer p5) (.int .i64 n1)) (TF.one hfin.2))
    have HF := Lib.hid hfin.1
    have c0 := hfin.2.c0
    have c1 := hfin.2.c1
    have f0 := hfin.2.fz 0
    have f1 := hfin.2.fz 1
    have HP := Lib.hid (hfin.2.put p5 n1)
    clear hfin ht5 hf5 hb5 Hb4 Ht
    (refine wpGt_read (o := ⟨_, _, _, _, _, _⟩) (v := ?_) rfl (by rfl) ?_ ?_; rotate_left; (intro w' hw'; go_simp; with_reducible rfl); simp only [Act.put, List.setIfInBounds_toArray, List.set_cons_zero, List.set_cons_succ])
    refine wpGt_call (o := ⟨_, _, _, _, _, _⟩) rfl (by rfl) (fun K hK => ?_)
    go_simp
    refine hK _ _ (turn_put _ _ _ _) ?_
    clear hK K
    refine wpGt_done ?_
    have d0 := HP.out.c0
    have d1 := HP.out.c1
    go_wp2_with fail
    refine bodyPost_ret (v := .agg #[.pointer p5, .int .i64 n1]) (by rw [results_cell_one rfl]; go_simp) rfl ⟨p5, ts5, H5, rfl, HT5.out, HF5.out, below_put HF.out (by omega)⟩
end Go.Proofs.YtbgkjniagedcnaaGreatDoor
