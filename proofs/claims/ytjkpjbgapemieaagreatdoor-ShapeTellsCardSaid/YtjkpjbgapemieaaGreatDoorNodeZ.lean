/-
  Nodes in memory: entries, texts, pointers as elements; a leaf, a branch, a whole tree below a pointer.
-/
import Derived.Test.YtjkpjbgapemieaaGreatDoorProg
import Derived.Test.YtjkpjbgapemieaaGreatDoorElsZ
import Derived.Test.YtjkpjbgapemieaaGreatDoorBranchMathZ
namespace Go.Proofs.YtjkpjbgapemieaaGreatDoor
open Go Go.RowKit

abbrev ET : TypeId := 34
abbrev RET : TypeId := 33
abbrev NT : TypeId := 76
abbrev SET : TypeId := 31
abbrev SRET : TypeId := 24
abbrev SST : TypeId := 72
abbrev SNT : TypeId := 74
abbrev PNT : TypeId := 25
abbrev nilS : Value := .slice none 0 0
/-- A pointer to a block. -/
abbrev pt (b : Nat) : Value := .pointer (some ⟨b, 0, none⟩)
def entE : Elt En := ⟨2, 32, .agg #[.string ⟨#[]⟩, .string ⟨#[]⟩], fun e => [.string e.k, .string e.v], fun _ => rfl, fun e u hu => by
  simp only [List.mem_cons, List.not_mem_nil, or_false] at hu; rcases hu with rfl | rfl <;> rfl, by decide, rfl, fun T => T == ET || T == RET⟩
def strE : Elt ByteArray := ⟨1, 16, .string ⟨#[]⟩, fun s => [.string s], fun _ => rfl, fun e u hu => by
  simp only [List.mem_cons, List.not_mem_nil, or_false] at hu; subst hu; rfl, by decide, rfl, fun T => T == 9⟩
def ptrE : Elt Nat := ⟨1, 8, .pointer none, fun b => [pt b], fun _ => rfl, fun e u hu => by
  simp only [List.mem_cons, List.not_mem_nil, or_false] at hu; subst hu; rfl, by decide, rfl, fun T => T == PNT⟩
theorem infoE : (Tryz.prog.info? ET).map (fun i => (i.zero, i.size, i.bytes)) = some (some entE.zero, entE.sz, entE.by_) := by kernel_rfl
theorem infoRE : (Tryz.prog.info? RET).map (fun i => (i.zero, i.size, i.bytes)) = some (some entE.zero, entE.sz, entE.by_) := by kernel_rfl
theorem infoSt : (Tryz.prog.info? 9).map (fun i => (i.zero, i.size, i.bytes)) = some (some strE.zero, strE.sz, strE.by_) := by kernel_rfl
theorem infoP : (Tryz.prog.info? PNT).map (fun i => (i.zero, i.size, i.bytes)) = some (some ptrE.zero, ptrE.sz, ptrE.by_) := by kernel_rfl
section
variable {w : World}
/-- The entries' cells. -/
theorem ES.ents {a : Option Addr} {es : List En} (h : ES entE w a es) (h0 : 0 < es.length) : ∃ g o, a = some ⟨g, o, none⟩ ∧ ∀ i, i < es.length → w.cell? ⟨g, o + i * 2, none⟩ = some (.string (ea es i).k) ∧ w.cell? ⟨g, o + i * 2 + 1, none⟩ = some (.string (ea es i).v) := by
  obtain ⟨g, o, rfl, hc⟩ := h.at h0
  refine ⟨g, o, rfl, fun i hi => ?_⟩
  have e : es[i]? = some (ea es i) := by unfold ea; simp [List.getD, hi]
  have h1 := hc (i * 2 + 0) _ (entE.row_at es i 0 _ e (by decide))
  have h2 := hc (i * 2 + 1) _ (entE.row_at es i 1 _ e (by decide))
  exact ⟨h1, h2⟩
theorem ES.of_ents {g o : Nat} {es : List En} (ht : RT w g entE.ty) (h : ∀ i, i < es.length → w.cell? ⟨g, o + i * 2, none⟩ = some (.string (ea es i).k) ∧ w.cell? ⟨g, o + i * 2 + 1, none⟩ = some (.string (ea es i).v)) : ES entE w (some ⟨g, o, none⟩) es := by
  refine .inr ⟨g, o, rfl, ht, fun j u hu => ?_⟩
  have hj : j < es.length * 2 := by have := (List.getElem?_eq_some_iff.1 hu).1; rwa [Elt.row_len] at this
  have hi : j / 2 < es.length := by omega
  have e : es[j / 2]? = some (ea es (j / 2)) := by unfold ea; simp [List.getD, hi]
  have h1 := h (j / 2) hi
  have e0 := entE.row_at es (j / 2) 0 _ e (by decide)
  have e1 := entE.row_at es (j / 2) 1 _ e (by decide)
  have hsz : entE.sz = 2 := rfl
  rw [hsz] at e0 e1
  rcases Nat.mod_two_eq_zero_or_one j with h2 | h2
  · have e4 : j = j / 2 * 2 + 0 := by omega
    rw [e4] at hu ⊢
    rw [e0] at hu
    exact h1.1.trans hu
  · have e4 : j = j / 2 * 2 + 1 := by omega
    rw [e4] at hu ⊢
    rw [e1] at hu
    exact h1.2.trans hu
/-- Entries in a block of whatever type: an argument's. -/
def entA : Elt En := { entE with ty := fun _ => true }
theorem entA_row : ∀ l, entA.row l = entE.row l
  | [] => rfl
  | x :: r => by
    rw [Elt.row, Elt.row, entA_row r]; rfl
theorem ES.loose {a : Option Addr} {es : List En} (h : ES entE w a es) : ES entA w a es := by
  rcases h with h | ⟨g, o, e, ⟨A, T, fz, h1, _⟩, hc⟩
  · exact .inl h
  · exact .inr ⟨g, o, e, ⟨A, T, fz, h1, rfl⟩, fun j u hu => hc j u (by rw [← entA_row]; exact hu)⟩
theorem ES.entsA {a : Option Addr} {es : List En} (h : ES entA w a es) (h0 : 0 < es.length) : ∃ g o, a = some ⟨g, o, none⟩ ∧ ∀ i, i < es.length → w.cell? ⟨g, o + i * 2, none⟩ = some (.string (ea es i).k) ∧ w.cell? ⟨g, o + i * 2 + 1, none⟩ = some (.string (ea es i).v) := by
  obtain ⟨g, o, rfl, hc⟩ := h.at h0
  refine ⟨g, o, rfl, fun i hi => ?_⟩
  have e : es[i]? = some (ea es i) := by unfold ea; simp [List.getD, hi]
  have h1 := hc (i * 2 + 0) _ (entA.row_at es i 0 _ e (by decide))
  have h2 := hc (i * 2 + 1) _ (entA.row_at es i 1 _ e (by decide))
  exact ⟨h1, h2⟩
theorem ES.of_entsA {g o : Nat} {es : List En} (h0 : 0 < es.length) (h : ∀ i, i < es.length → w.cell? ⟨g, o + i * 2, none⟩ = some (.string (ea es i).k) ∧ w.cell? ⟨g, o + i * 2 + 1, none⟩ = some (.string (ea es i).v)) : ES entA w (some ⟨g, o, none⟩) es := by
  have hb : RT w g entA.ty := by
    have h1 := (h 0 h0).1
    unfold World.cell? at h1
    cases hg : w.heap[g]? with
    | none => rw [hg] at h1; cases h1
    | some x =>
      rw [hg] at h1
      cases x with
      | cells A T fz => exact ⟨A, T, fz, hg, rfl⟩
      | _ => cases h1
  refine .inr ⟨g, o, rfl, hb, fun j u hu => ?_⟩
  rw [entA_row] at hu
  have hj : j < es.length * 2 := by have := (List.getElem?_eq_some_iff.1 hu).1; rwa [Elt.row_len] at this
  have hi : j / 2 < es.length := by omega
  have e : es[j / 2]? = some (ea es (j / 2)) := by unfold ea; simp [List.getD, hi]
  have h1 := h (j / 2) hi
  have e0 := entE.row_at es (j / 2) 0 _ e (by decide)
  have e1 := entE.row_at es (j / 2) 1 _ e (by decide)
  have hsz : entE.sz = 2 := rfl
  rw [hsz] at e0 e1
  rcases Nat.mod_two_eq_zero_or_one j with h2 | h2
  · have e4 : j = j / 2 * 2 + 0 := by omega
    rw [e4] at hu ⊢
    rw [e0] at hu
    exact h1.1.trans hu
  · have e4 : j = j / 2 * 2 + 1 := by omega
    rw [e4] at hu ⊢
    rw [e1] at hu
    exact h1.2.trans hu
theorem ES.texts {a : Option Addr} {ks : List ByteArray} (h : ES strE w a ks) : TxS w a ks := fun h0 => by
  obtain ⟨g, o, rfl, hc⟩ := h.at h0
  refine ⟨g, o, rfl, fun i hi => ?_⟩
  have e : ks[i]? = some (sa ks i) := by unfold sa; simp [List.getD, hi]
  have h1 := hc (i * 1 + 0) _ (strE.row_at ks i 0 _ e (by decide))
  rw [show i * 1 + 0 = i by omega] at h1
  exact h1
def na (ps : List Nat) (i : Nat) : Nat := ps.getD i 0
theorem ES.ptrs {a : Option Addr} {ps : List Nat} (h : ES ptrE w a ps) (h0 : 0 < ps.length) : ∃ g o, a = some ⟨g, o, none⟩ ∧ ∀ i, i < ps.length → w.cell? ⟨g, o + i, none⟩ = some (pt (na ps i)) := by
  obtain ⟨g, o, rfl, hc⟩ := h.at h0
  refine ⟨g, o, rfl, fun i hi => ?_⟩
  have e : ps[i]? = some (na ps i) := by unfold na; simp [List.getD, hi]
  have h1 := hc (i * 1 + 0) _ (ptrE.row_at ps i 0 _ e (by decide))
  rw [show i * 1 + 0 = i by omega] at h1
  exact h1
/-- A node's block. -/
def NB (w : World) (b : Nat) (vc vk vp : Value) : Prop := w.heap[b]? = some (.cells #[vc, vk, vp] NT (0, 0))
theorem NB.c0 {b : Nat} {vc vk vp : Value} (h : NB w b vc vk vp) : w.cell? ⟨b, 0, none⟩ = some vc := by
  have h' : w.heap[b]? = _ := h
  simp [World.cell?, h']
theorem NB.c1 {b : Nat} {vc vk vp : Value} (h : NB w b vc vk vp) : w.cell? ⟨b, 1, none⟩ = some vk := by
  have h' : w.heap[b]? = _ := h
  simp [World.cell?, h']
theorem NB.c2 {b : Nat} {vc vk vp : Value} (h : NB w b vc vk vp) : w.cell? ⟨b, 2, none⟩ = some vp := by
  have h' : w.heap[b]? = _ := h
  simp [World.cell?, h']
theorem NB.lt {b : Nat} {vc vk vp : Value} (h : NB w b vc vk vp) : b < w.heap.size := (Array.getElem?_eq_some_iff.1 h).1
theorem NB.new (w : World) (vc vk vp : Value) : NB (w.alloc (.cells #[vc, vk, vp] NT)) w.heap.size vc vk vp := by
  show (w.heap.push _)[w.heap.size]? = _; rw [Array.getElem?_push_size]
theorem NB.ext {w' : World} {b : Nat} {vc vk vp : Value} (h : NB w b vc vk vp) (hb : Below w.heap.size w w') : NB w' b vc vk vp := (hb.block b h.lt).trans h
end
/-- A leaf with these entries; a branch with these keys over these nodes. -/
def Leaf (w : World) (b : Nat) (es : List En) : Prop := ∃ vc, NB w b vc nilS nilS ∧ EV entE w vc es
def Bran (w : World) (b : Nat) (ks : List ByteArray) (ps : List Nat) : Prop := ∃ vk vp, NB w b nilS vk vp ∧ EV strE w vk ks ∧ EV ptrE w vp ps
theorem Leaf.ext {w w' : World} {b : Nat} {es : List En} (h : Leaf w b es) (hb : Below w.heap.size w w') : Leaf w' b es := by
  obtain ⟨vc, h1, h2⟩ := h
  exact ⟨vc, h1.ext hb, h2.ext hb⟩
theorem Bran.ext {w w' : World} {b : Nat} {ks : List ByteArray} {ps : List Nat} (h : Bran w b ks ps) (hb : Below w.heap.size w w') : Bran w' b ks ps := by
  obtain ⟨vk, vp, h1, h2, h3⟩ := h
  exact ⟨vk, vp, h1.ext hb, h2.ext hb, h3.ext hb⟩
/-- A tree of so many nodes above one another below a pointer, between two bounds: its entries, its root's size. -/
def Nd (w : World) : Nat → SB → SB → Nat → List En → Nat → Prop
  | 0, lo, hi, b, es, s => Leaf w b es ∧ ltO lo hi ∧ srt es ∧ (∀ x ∈ es, okE x ∧ ins lo hi x.k) ∧ s = leafSz es
  | h + 1, lo, hi, b, es, s => ∃ ks ps ess, Bran w b ks ps ∧ KRow (fun lo hi p e => ∃ s, Nd w h lo hi p e s ∧ 126 ≤ s ∧ s ≤ 504) ks lo hi ps ess ∧ es = ess.flatten ∧ s = brSz ks
/-- A node that has enough, and fits. -/
def Good (w : World) (h : Nat) (lo hi : SB) (p : Nat) (e : List En) : Prop := ∃ s, Nd w h lo hi p e s ∧ 126 ≤ s ∧ s ≤ 504
theorem nd_succ {w : World} {h : Nat} {lo hi : SB} {b : Nat} {es : List En} {s : Nat} : Nd w (h + 1) lo hi b es s ↔ ∃ ks ps ess, Bran w b ks ps ∧ KRow (Good w h) ks lo hi ps ess ∧ es = ess.flatten ∧ s = brSz ks := Iff.rfl
theorem Nd.ext {w w' : World} (hb : Below w.heap.size w w') : ∀ (h : Nat) {lo hi : SB} {b : Nat} {es : List En} {s : Nat}, Nd w h lo hi b es s → Nd w' h lo hi b es s
  | 0, _, _, _, _, _, ⟨h1, h2⟩ => ⟨h1.ext hb, h2⟩
  | h + 1, _, _, _, _, _, ⟨ks, ps, ess, h1, h2, h3⟩ => ⟨ks, ps, ess, h1.ext hb, h2.mono (fun _ _ _ _ ⟨s, h4, h5⟩ => ⟨s, Nd.ext hb h h4, h5⟩), h3⟩
theorem Good.ext {w w' : World} (hb : Below w.heap.size w w') {h : Nat} {lo hi : SB} {p : Nat} {e : List En} (hg : Good w h lo hi p e) : Good w' h lo hi p e := by
  obtain ⟨s, h4, h5⟩ := hg
  exact ⟨s, Nd.ext hb h h4, h5⟩
theorem Nd.facts {w : World} : ∀ (h : Nat) {lo hi : SB} {b : Nat} {es : List En} {s : Nat}, Nd w h lo hi b es s → ltO lo hi ∧ srt es ∧ ∀ x ∈ es, okE x ∧ ins lo hi x.k
  | 0, _, _, _, _, _, ⟨_, h2, h3, h4, _⟩ => ⟨h2, h3, h4⟩
  | h + 1, _, _, _, _, _, ⟨ks, ps, ess, _, h2, h3, _⟩ => by
    have := h2.facts (fun lo hi p e hg => by
      obtain ⟨s, h4, _⟩ := hg
      exact Nd.facts h h4)
    rw [h3]
    exact ⟨this.1, this.2.1, this.2.2.1⟩
theorem Good.facts {w : World} {h : Nat} : ∀ lo hi p e, Good w h lo hi p e → ltO lo hi ∧ srt e ∧ ∀ x ∈ e, okE x ∧ ins lo hi x.k := fun _ _ _ _ ⟨_, h4, _⟩ => Nd.facts h h4
theorem Good.count {w : World} : ∀ (h : Nat) lo hi p e, Good w h lo hi p e → 2 * 4 ^ h ≤ e.length
  | 0, lo, hi, p, e, ⟨s, ⟨_, _, _, h4, h5⟩, h6, _⟩ => by
    have h7 := szs_range (fun x hx => (h4 x hx).1)
    unfold leafSz at h5
    rcases Nat.lt_or_ge e.length 2 with h8 | h8
    · have : vs e.length = 1 := vs_small (by omega)
      omega
    · exact h8
  | h + 1, lo, hi, p, e, ⟨s, ⟨ks, ps, ess, _, h2, h3, h4⟩, h6, _⟩ => by
    have h7 := h2.count (m := 2 * 4 ^ h) (fun lo hi p e hg => Good.count h lo hi p e hg)
    have h8 := kss_range (h2.facts Good.facts).2.2.2
    unfold brSz at h4
    have h9 : 3 ≤ ks.length := by omega
    rw [h3]
    have h10 : 2 * 4 ^ h * 4 ≤ 2 * 4 ^ h * (ks.length + 1) := Nat.mul_le_mul_left _ (by omega)
    rw [Nat.pow_succ]; omega
/-- A tree of fewer than 200 entries has at most four nodes above one another. -/
theorem Nd.low {w : World} {h : Nat} {lo hi : SB} {b : Nat} {es : List En} {s : Nat} (hn : Nd w h lo hi b es s) (hs : 0 < h → 3 ≤ s) (hl : es.length < 200) : h ≤ 3 := by
  cases h with
  | zero => omega
  | succ h =>
    obtain ⟨ks, ps, ess, _, h2, h3, h4⟩ := hn
    have h7 := KRow.count (m := 2 * 4 ^ h) (fun lo hi p e hg => Good.count h lo hi p e hg) h2
    have h5 : 1 ≤ ks.length := by
      have := hs (by omega)
      cases ks with
      | nil => unfold brSz kss at h4; simp at h4; omega
      | cons a r => simp
    have h6 : 2 * 4 ^ h * 2 ≤ 2 * 4 ^ h * (ks.length + 1) := Nat.mul_le_mul_left _ (by omega)
    rw [h3] at hl
    rcases Nat.lt_or_ge h 3 with h8 | h8
    · omega
    · have : 4 ^ 3 ≤ 4 ^ h := Nat.pow_le_pow_right (by omega) h8
      omega
end Go.Proofs.YtjkpjbgapemieaaGreatDoor
