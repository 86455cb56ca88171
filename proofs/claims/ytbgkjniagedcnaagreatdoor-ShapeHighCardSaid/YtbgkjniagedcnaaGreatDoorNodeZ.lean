/-
  Nodes in memory: entries, texts, pointers as elements; a leaf, a branch, a whole tree below a pointer.
-/
import Derived.Test.YtbgkjniagedcnaaGreatDoorProg
import Derived.Test.YtbgkjniagedcnaaGreatDoorElsZ
import Derived.Test.YtbgkjniagedcnaaGreatDoorBranchMathZ
namespace Go.Proofs.YtbgkjniagedcnaaGreatDoor
open Go Go.RowKit

abbrev ET : TypeId := 34
abbrev RET : TypeId := 33
abbrev NT : TypeId := 78
/-- A node as those above see it (where the seat has that type). -/
abbrev VT : TypeId := 80
abbrev TCT : TypeId := 94
abbrev SCT : TypeId := 75
abbrev SET : TypeId := 31
abbrev SRET : TypeId := 24
abbrev SST : TypeId := 73
abbrev SNT : TypeId := 76
abbrev PNT : TypeId := 25
abbrev nilS : Value := .slice none 0 0
/-- A pointer to a block. -/
abbrev pt (b : Nat) : Value := .pointer (some ⟨b, 0, none⟩)
def entE : Elt En := ⟨2, 32, .agg #[.string ⟨#[]⟩, .string ⟨#[]⟩], fun e => [.string e.k, .string e.v], fun _ => rfl, fun e u hu => by
  simp only [List.mem_cons, List.not_mem_nil, or_false] at hu; rcases hu with rfl | rfl <;> rfl, by decide, rfl, fun T => T == ET || T == RET⟩
def strE : Elt ByteArray := ⟨1, 16, .string ⟨#[]⟩, fun s => [.string s], fun _ => rfl, fun e u hu => by
  simp only [List.mem_cons, List.not_mem_nil, or_false] at hu; subst hu; rfl, by decide, rfl, fun T => T == 9⟩
def ptrE : Elt Nat := ⟨1, 8, .pointer none, fun b => [pt b], fun _ => rfl, fun e u hu => by
  simp only [List.mem_cons, List.not_mem_nil, or_false] at hu; subst hu; rfl, by decide, rfl, fun T => T == PNT⟩
/-- A row of ints that are no negative ones: pages. -/
def pgE : Elt Nat := ⟨1, 8, .int .i64 0, fun p => [.int .i64 p], fun _ => rfl, fun e u hu => by
  simp only [List.mem_cons, List.not_mem_nil, or_false] at hu; subst hu; rfl, by decide, rfl, fun T => T == 3⟩
/-- A cell as it lies in memory. -/
structure Rw where
  k : ByteArray
  v : ByteArray
  a : Option Addr
  n : Nat
  c : Nat
def Rw.sl (x : Rw) : Value := .slice x.a x.n x.c
instance : Inhabited Rw := ⟨⟨ByteArray.empty, ByteArray.empty, none, 0, 0⟩⟩
def celE : Elt Rw := ⟨3, 56, .agg #[.string ⟨#[]⟩, .string ⟨#[]⟩, .slice none 0 0], fun e => [.string e.k, .string e.v, .slice e.a e.n e.c], fun _ => rfl, fun e u hu => by
  simp only [List.mem_cons, List.not_mem_nil, or_false] at hu; rcases hu with rfl | rfl | rfl <;> rfl, by decide, rfl, fun T => T == TCT⟩
theorem infoTC : (Tryz.prog.info? TCT).map (fun i => (i.zero, i.size, i.bytes)) = some (some celE.zero, celE.sz, celE.by_) := by kernel_rfl
theorem infoPg : (Tryz.prog.info? 3).map (fun i => (i.zero, i.size, i.bytes)) = some (some pgE.zero, pgE.sz, pgE.by_) := by kernel_rfl
theorem infoE : (Tryz.prog.info? ET).map (fun i => (i.zero, i.size, i.bytes)) = some (some entE.zero, entE.sz, entE.by_) := by kernel_rfl
theorem infoRE : (Tryz.prog.info? RET).map (fun i => (i.zero, i.size, i.bytes)) = some (some entE.zero, entE.sz, entE.by_) := by kernel_rfl
theorem infoSt : (Tryz.prog.info? 9).map (fun i => (i.zero, i.size, i.bytes)) = some (some strE.zero, strE.sz, strE.by_) := by kernel_rfl
theorem infoP : (Tryz.prog.info? PNT).map (fun i => (i.zero, i.size, i.bytes)) = some (some ptrE.zero, ptrE.sz, ptrE.by_) := by kernel_rfl
section
variable {w : World}
/-- The entries' cells. -/
theorem ES.ents {a : Option Addr} {es : List En} (h : ES entE w a es) (h0 : 0 < es.length) : ∃ g o, a = some ⟨g, o, none⟩ ∧ ∀ i, i < es.length → w.cell? ⟨g, o + i * 2, none⟩ = some (.string (ea es i).k) ∧ w.cell? ⟨g, o + i * 2 + 1, none⟩ = some (.string (ea es i).v) := by
  obtain ⟨g, o, rfl, hc⟩ := h.at h0
  refine ⟨g, o, rfl, fun i hi => ?_⟩
  have e : es[i]? = some (ea es i) := by unfold ea; simp [List.getD, hi]
  have h1 := hc (i * 2 + 0) _ (entE.row_at es i 0 _ e (by decide))
  have h2 := hc (i * 2 + 1) _ (entE.row_at es i 1 _ e (by decide))
  exact ⟨h1, h2⟩
theorem ES.of_ents {g o : Nat} {es : List En} (ht : RT w g entE.ty) (h : ∀ i, i < es.length → w.cell? ⟨g, o + i * 2, none⟩ = some (.string (ea es i).k) ∧ w.cell? ⟨g, o + i * 2 + 1, none⟩ = some (.string (ea es i).v)) : ES entE w (some ⟨g, o, none⟩) es := by
  refine .inr ⟨g, o, rfl, ht, fun j u hu => ?_⟩
  have hj : j < es.length * 2 := by have := (List.getElem?_eq_some_iff.1 hu).1; rwa [Elt.row_len] at this
  have hi : j / 2 < es.length := by omega
  have e : es[j / 2]? = some (ea es (j / 2)) := by unfold ea; simp [List.getD, hi]
  have h1 := h (j / 2) hi
  have e0 := entE.row_at es (j / 2) 0 _ e (by decide)
  have e1 := entE.row_at es (j / 2) 1 _ e (by decide)
  have hsz : entE.sz = 2 := rfl
  rw [hsz] at e0 e1
  rcases Nat.mod_two_eq_zero_or_one j with h2 | h2
  · have e4 : j = j / 2 * 2 + 0 := by omega
    rw [e4] at hu ⊢
    rw [e0] at hu
    exact h1.1.trans hu
  · have e4 : j = j / 2 * 2 + 1 := by omega
    rw [e4] at hu ⊢
    rw [e1] at hu
    exact h1.2.trans hu
/-- Entries in a block of whatever type: an argument's. -/
def entA : Elt En := { entE with ty := fun _ => true }
theorem entA_row : ∀ l, entA.row l = entE.row l
  | [] => rfl
  | x :: r => by
    rw [Elt.row, Elt.row, entA_row r]; rfl
theorem ES.loose {a : Option Addr} {es : List En} (h : ES entE w a es) : ES entA w a es := by
  rcases h with h | ⟨g, o, e, ⟨A, T, fz, h1, _⟩, hc⟩
  · exact .inl h
  · exact .inr ⟨g, o, e, ⟨A, T, fz, h1, rfl⟩, fun j u hu => hc j u (by rw [← entA_row]; exact hu)⟩
theorem ES.entsA {a : Option Addr} {es : List En} (h : ES entA w a es) (h0 : 0 < es.length) : ∃ g o, a = some ⟨g, o, none⟩ ∧ ∀ i, i < es.length → w.cell? ⟨g, o + i * 2, none⟩ = some (.string (ea es i).k) ∧ w.cell? ⟨g, o + i * 2 + 1, none⟩ = some (.string (ea es i).v) := by
  obtain ⟨g, o, rfl, hc⟩ := h.at h0
  refine ⟨g, o, rfl, fun i hi => ?_⟩
  have e : es[i]? = some (ea es i) := by unfold ea; simp [List.getD, hi]
  have h1 := hc (i * 2 + 0) _ (entA.row_at es i 0 _ e (by decide))
  have h2 := hc (i * 2 + 1) _ (entA.row_at es i 1 _ e (by decide))
  exact ⟨h1, h2⟩
theorem ES.of_entsA {g o : Nat} {es : List En} (h0 : 0 < es.length) (h : ∀ i, i < es.length → w.cell? ⟨g, o + i * 2, none⟩ = some (.string (ea es i).k) ∧ w.cell? ⟨g, o + i * 2 + 1, none⟩ = some (.string (ea es i).v)) : ES entA w (some ⟨g, o, none⟩) es := by
  have hb : RT w g entA.ty := by
    have h1 := (h 0 h0).1
    unfold World.cell? at h1
    cases hg : w.heap[g]? with
    | none => rw [hg] at h1; cases h1
    | some x =>
      rw [hg] at h1
      cases x with
      | cells A T fz => exact ⟨A, T, fz, hg, rfl⟩
      | _ => cases h1
  refine .inr ⟨g, o, rfl, hb, fun j u hu => ?_⟩
  rw [entA_row] at hu
  have hj : j < es.length * 2 := by have := (List.getElem?_eq_some_iff.1 hu).1; rwa [Elt.row_len] at this
  have hi : j / 2 < es.length := by omega
  have e : es[j / 2]? = some (ea es (j / 2)) := by unfold ea; simp [List.getD, hi]
  have h1 := h (j / 2) hi
  have e0 := entE.row_at es (j / 2) 0 _ e (by decide)
  have e1 := entE.row_at es (j / 2) 1 _ e (by decide)
  have hsz : entE.sz = 2 := rfl
  rw [hsz] at e0 e1
  rcases Nat.mod_two_eq_zero_or_one j with h2 | h2
  · have e4 : j = j / 2 * 2 + 0 := by omega
    rw [e4] at hu ⊢
    rw [e0] at hu
    exact h1.1.trans hu
  · have e4 : j = j / 2 * 2 + 1 := by omega
    rw [e4] at hu ⊢
    rw [e1] at hu
    exact h1.2.trans hu
theorem ES.texts {a : Option Addr} {ks : List ByteArray} (h : ES strE w a ks) : TxS w a ks := fun h0 => by
  obtain ⟨g, o, rfl, hc⟩ := h.at h0
  refine ⟨g, o, rfl, fun i hi => ?_⟩
  have e : ks[i]? = some (sa ks i) := by unfold sa; simp [List.getD, hi]
  have h1 := hc (i * 1 + 0) _ (strE.row_at ks i 0 _ e (by decide))
  rw [show i * 1 + 0 = i by omega] at h1
  exact h1
def na (ps : List Nat) (i : Nat) : Nat := ps.getD i 0
theorem ES.ptrs {a : Option Addr} {ps : List Nat} (h : ES ptrE w a ps) (h0 : 0 < ps.length) : ∃ g o, a = some ⟨g, o, none⟩ ∧ ∀ i, i < ps.length → w.cell? ⟨g, o + i, none⟩ = some (pt (na ps i)) := by
  obtain ⟨g, o, rfl, hc⟩ := h.at h0
  refine ⟨g, o, rfl, fun i hi => ?_⟩
  have e : ps[i]? = some (na ps i) := by unfold na; simp [List.getD, hi]
  have h1 := hc (i * 1 + 0) _ (ptrE.row_at ps i 0 _ e (by decide))
  rw [show i * 1 + 0 = i by omega] at h1
  exact h1
/-! ### Cells -/
/-- The pages of a row. -/
theorem ES.pages {a : Option Addr} {ps : List Nat} (h : ES pgE w a ps) (h0 : 0 < ps.length) : ∃ g o, a = some ⟨g, o, none⟩ ∧ ∀ i, i < ps.length → w.cell? ⟨g, o + i, none⟩ = some (.int .i64 (na ps i : Nat)) := by
  obtain ⟨g, o, rfl, hc⟩ := h.at h0
  refine ⟨g, o, rfl, fun i hi => ?_⟩
  have e : ps[i]? = some (na ps i) := by unfold na; simp [List.getD, hi]
  have h1 := hc (i * 1 + 0) _ (pgE.row_at ps i 0 _ e (by decide))
  rw [show i * 1 + 0 = i by omega] at h1
  exact h1
/-- What a cell in memory says. -/
def ROk (w : World) (x : Rw) (e : En) : Prop := x.k = e.k ∧ x.v = e.v ∧ EV pgE w x.sl e.ch
theorem ROk.below {w' : World} {x : Rw} {e : En} {B : Nat} (h : ROk w x e) (hb : Below B w w') (hB : w.heap.size ≤ B) : ROk w' x e := ⟨h.1, h.2.1, h.2.2.below hb hB⟩
/-- Cells in memory and what they say. -/
def RW (w : World) : List Rw → List En → Prop
  | [], [] => True
  | x :: xs, e :: es => ROk w x e ∧ RW w xs es
  | _, _ => False
theorem RW.len : ∀ {xs : List Rw} {es : List En}, RW w xs es → xs.length = es.length
  | [], [], _ => rfl
  | _ :: _, _ :: _, h => by rw [List.length_cons, List.length_cons, RW.len h.2]
  | [], _ :: _, h => h.elim
  | _ :: _, [], h => h.elim
theorem RW.below {w' : World} {B : Nat} (hb : Below B w w') (hB : w.heap.size ≤ B) : ∀ {xs : List Rw} {es : List En}, RW w xs es → RW w' xs es
  | [], [], _ => trivial
  | _ :: _, _ :: _, h => ⟨h.1.below hb hB, RW.below hb hB h.2⟩
  | [], _ :: _, h => h.elim
  | _ :: _, [], h => h.elim
theorem RW.take : ∀ {xs : List Rw} {es : List En} (k : Nat), RW w xs es → RW w (xs.take k) (es.take k)
  | [], [], k, _ => by simp [RW]
  | _ :: _, _ :: _, 0, _ => trivial
  | _ :: _, _ :: _, k + 1, h => ⟨h.1, RW.take k h.2⟩
  | [], _ :: _, _, h => h.elim
  | _ :: _, [], _, h => h.elim
theorem RW.drop : ∀ {xs : List Rw} {es : List En} (k : Nat), RW w xs es → RW w (xs.drop k) (es.drop k)
  | [], [], k, _ => by simp [RW]
  | _ :: _, _ :: _, 0, h => h
  | _ :: _, _ :: _, k + 1, h => RW.drop k h.2
  | [], _ :: _, _, h => h.elim
  | _ :: _, [], _, h => h.elim
theorem RW.app : ∀ {xs : List Rw} {es : List En} {xs2 : List Rw} {es2 : List En}, RW w xs es → RW w xs2 es2 → RW w (xs ++ xs2) (es ++ es2)
  | [], [], _, _, _, h2 => h2
  | _ :: _, _ :: _, _, _, h, h2 => ⟨h.1, RW.app h.2 h2⟩
  | [], _ :: _, _, _, h, _ => h.elim
  | _ :: _, [], _, _, h, _ => h.elim
theorem RW.at : ∀ {xs : List Rw} {es : List En} {i : Nat}, RW w xs es → i < es.length → ROk w (xs.getD i default) (ea es i)
  | [], [], i, _, hi => by simp at hi
  | _ :: _, _ :: _, 0, h, _ => h.1
  | _ :: _, _ :: _, i + 1, h, hi => by
    have := RW.at (i := i) h.2 (by simpa using hi)
    exact this
  | [], _ :: _, _, h, _ => h.elim
  | _ :: _, [], _, h, _ => h.elim
/-- A slice's address reads as these cells. -/
def CS (w : World) (a : Option Addr) (es : List En) : Prop := ∃ xs, ES celE w a xs ∧ RW w xs es
theorem CS.nil (w : World) : CS w none [] := ⟨[], ES.nil w, trivial⟩
theorem CS.below {w' : World} {a : Option Addr} {es : List En} {B : Nat} (h : CS w a es) (hb : Below B w w') (hB : w.heap.size ≤ B) : CS w' a es := by
  obtain ⟨xs, h1, h2⟩ := h
  exact ⟨xs, h1.below hb hB, h2.below hb hB⟩
theorem CS.take {a : Option Addr} {es : List En} (h : CS w a es) (k : Nat) : CS w a (es.take k) := by
  obtain ⟨xs, h1, h2⟩ := h
  exact ⟨xs.take k, h1.take k, h2.take k⟩
theorem CS.drop {g o : Nat} {es : List En} (h : CS w (some ⟨g, o, none⟩) es) (k q : Nat) (hk : k ≤ es.length) (hq : q = o + k * 3) : CS w (some ⟨g, q, none⟩) (es.drop k) := by
  obtain ⟨xs, h1, h2⟩ := h
  exact ⟨xs.drop k, h1.drop k q (by rw [h2.len]; exact hk) hq, h2.drop k⟩
/-- The cells of cells. -/
theorem CS.ents {a : Option Addr} {es : List En} (h : CS w a es) (h0 : 0 < es.length) : ∃ g o, a = some ⟨g, o, none⟩ ∧ ∀ i, i < es.length → w.cell? ⟨g, o + i * 3, none⟩ = some (.string (ea es i).k) ∧ w.cell? ⟨g, o + i * 3 + 1, none⟩ = some (.string (ea es i).v) ∧
    ∃ v, w.cell? ⟨g, o + i * 3 + 2, none⟩ = some v ∧ EV pgE w v (ea es i).ch := by
  obtain ⟨xs, h1, h2⟩ := h
  have hl := h2.len
  obtain ⟨g, o, rfl, hc⟩ := h1.at (by omega)
  refine ⟨g, o, rfl, fun i hi => ?_⟩
  obtain ⟨e1, e2, e3⟩ := h2.at hi
  have e : xs[i]? = some (xs.getD i default) := by simp [List.getD, show i < xs.length by omega]
  have c0 := hc (i * 3 + 0) _ (celE.row_at xs i 0 _ e (by decide))
  have c1 := hc (i * 3 + 1) _ (celE.row_at xs i 1 _ e (by decide))
  have c2 := hc (i * 3 + 2) _ (celE.row_at xs i 2 _ e (by decide))
  refine ⟨by rw [← e1]; exact c0, by rw [← e2]; exact c1, _, c2, e3⟩
/-- A slice value that reads as these cells, with its reach. -/
def CV (w : World) (v : Value) (es : List En) : Prop := ∃ a c, v = .slice a es.length c ∧ CS w a es ∧ (a = none → c = 0) ∧ es.length ≤ c ∧ c ≤ maxLen
theorem CV.below {w' : World} {v : Value} {es : List En} {B : Nat} (h : CV w v es) (hb : Below B w w') (hB : w.heap.size ≤ B) : CV w' v es := by
  obtain ⟨a, c, rfl, hs, h1⟩ := h
  exact ⟨a, c, rfl, hs.below hb hB, h1⟩
theorem CV.ext {w' : World} {v : Value} {es : List En} (h : CV w v es) (hb : Below w.heap.size w w') : CV w' v es := h.below hb (Nat.le_refl _)
theorem CV.none (w : World) : CV w (.slice none 0 0) [] := ⟨Option.none, 0, rfl, CS.nil w, fun _ => rfl, Nat.le_refl _, by unfold maxLen; omega⟩
theorem CV.of {v : Value} {xs : List Rw} {es : List En} (h : EV celE w v xs) (h2 : RW w xs es) : CV w v es := by
  obtain ⟨a, c, rfl, hs, hz, h3, h4⟩ := h
  have hl := h2.len
  exact ⟨a, c, by rw [hl], ⟨xs, hs, h2⟩, hz, by omega, h4⟩
theorem CV.raw {v : Value} {es : List En} (h : CV w v es) : ∃ xs, EV celE w v xs ∧ RW w xs es := by
  obtain ⟨a, c, rfl, ⟨xs, hs, h2⟩, hz, h3, h4⟩ := h
  have hl := h2.len
  exact ⟨xs, ⟨a, c, by rw [hl], hs, hz, by omega, h4⟩, h2⟩
/-- Blocks that hold nodes. -/
def nty (T : TypeId) : Bool := T == NT || T == VT
/-- A node's block. -/
def NP (w : World) (b pg : Nat) (vc vk vp : Value) : Prop := ∃ T, nty T = true ∧ w.heap[b]? = some (.cells #[.int .i64 (pg : Nat), vc, vk, vp] T (0, 0))
theorem NP.c0 {b pg : Nat} {vc vk vp : Value} (h : NP w b pg vc vk vp) : w.cell? ⟨b, 0, none⟩ = some (.int .i64 (pg : Nat)) := by
  obtain ⟨T, _, h'⟩ := h
  simp [World.cell?, h']
theorem NP.c1 {b pg : Nat} {vc vk vp : Value} (h : NP w b pg vc vk vp) : w.cell? ⟨b, 1, none⟩ = some vc := by
  obtain ⟨T, _, h'⟩ := h
  simp [World.cell?, h']
theorem NP.c2 {b pg : Nat} {vc vk vp : Value} (h : NP w b pg vc vk vp) : w.cell? ⟨b, 2, none⟩ = some vk := by
  obtain ⟨T, _, h'⟩ := h
  simp [World.cell?, h']
theorem NP.c3 {b pg : Nat} {vc vk vp : Value} (h : NP w b pg vc vk vp) : w.cell? ⟨b, 3, none⟩ = some vp := by
  obtain ⟨T, _, h'⟩ := h
  simp [World.cell?, h']
theorem NP.lt {b pg : Nat} {vc vk vp : Value} (h : NP w b pg vc vk vp) : b < w.heap.size := h.elim fun _ h => (Array.getElem?_eq_some_iff.1 h.2).1
theorem NP.new (w : World) (pg : Nat) (vc vk vp : Value) : NP (w.alloc (.cells #[.int .i64 (pg : Nat), vc, vk, vp] NT)) w.heap.size pg vc vk vp :=
  ⟨NT, rfl, by show (w.heap.push _)[w.heap.size]? = _; rw [Array.getElem?_push_size]⟩
theorem NP.newV (w : World) (pg : Nat) (vc vk vp : Value) : NP (w.alloc (.cells #[.int .i64 (pg : Nat), vc, vk, vp] VT)) w.heap.size pg vc vk vp :=
  ⟨VT, by simp [nty], by show (w.heap.push _)[w.heap.size]? = _; rw [Array.getElem?_push_size]⟩
theorem NP.ext {w' : World} {b pg : Nat} {vc vk vp : Value} (h : NP w b pg vc vk vp) (hb : Below w.heap.size w w') : NP w' b pg vc vk vp := h.elim fun T h' => ⟨T, h'.1, (hb.block b (Array.getElem?_eq_some_iff.1 h'.2).1).trans h'.2⟩
/-- A node's block, wherever the node lies. -/
def NB (w : World) (b : Nat) (vc vk vp : Value) : Prop := ∃ pg, NP w b pg vc vk vp
theorem NP.nb {b pg : Nat} {vc vk vp : Value} (h : NP w b pg vc vk vp) : NB w b vc vk vp := ⟨pg, h⟩
theorem NB.c1 {b : Nat} {vc vk vp : Value} (h : NB w b vc vk vp) : w.cell? ⟨b, 1, none⟩ = some vc := h.elim fun _ h => h.c1
theorem NB.c2 {b : Nat} {vc vk vp : Value} (h : NB w b vc vk vp) : w.cell? ⟨b, 2, none⟩ = some vk := h.elim fun _ h => h.c2
theorem NB.c3 {b : Nat} {vc vk vp : Value} (h : NB w b vc vk vp) : w.cell? ⟨b, 3, none⟩ = some vp := h.elim fun _ h => h.c3
theorem NB.lt {b : Nat} {vc vk vp : Value} (h : NB w b vc vk vp) : b < w.heap.size := h.elim fun _ h => h.lt
theorem NB.ext {w' : World} {b : Nat} {vc vk vp : Value} (h : NB w b vc vk vp) (hb : Below w.heap.size w w') : NB w' b vc vk vp := h.elim fun pg h => ⟨pg, h.ext hb⟩
end
/-- A leaf with these entries; a branch with these keys over these nodes; that lies on a page. -/
def LeafP (w : World) (b pg : Nat) (es : List En) : Prop := ∃ vc, NP w b pg vc nilS nilS ∧ CV w vc es
def BranP (w : World) (b pg : Nat) (ks : List ByteArray) (ps : List Nat) : Prop := ∃ vk vp, NP w b pg nilS vk vp ∧ EV strE w vk ks ∧ EV ptrE w vp ps
theorem LeafP.ext {w w' : World} {b pg : Nat} {es : List En} (h : LeafP w b pg es) (hb : Below w.heap.size w w') : LeafP w' b pg es := by
  obtain ⟨vc, h1, h2⟩ := h
  exact ⟨vc, h1.ext hb, h2.ext hb⟩
theorem BranP.ext {w w' : World} {b pg : Nat} {ks : List ByteArray} {ps : List Nat} (h : BranP w b pg ks ps) (hb : Below w.heap.size w w') : BranP w' b pg ks ps := by
  obtain ⟨vk, vp, h1, h2, h3⟩ := h
  exact ⟨vk, vp, h1.ext hb, h2.ext hb, h3.ext hb⟩
/-- Wherever they lie. -/
def Leaf (w : World) (b : Nat) (es : List En) : Prop := ∃ vc, NB w b vc nilS nilS ∧ CV w vc es
def Bran (w : World) (b : Nat) (ks : List ByteArray) (ps : List Nat) : Prop := ∃ vk vp, NB w b nilS vk vp ∧ EV strE w vk ks ∧ EV ptrE w vp ps
theorem LeafP.leaf {w : World} {b pg : Nat} {es : List En} (h : LeafP w b pg es) : Leaf w b es := by
  obtain ⟨vc, h1, h2⟩ := h
  exact ⟨vc, h1.nb, h2⟩
theorem BranP.bran {w : World} {b pg : Nat} {ks : List ByteArray} {ps : List Nat} (h : BranP w b pg ks ps) : Bran w b ks ps := by
  obtain ⟨vk, vp, h1, h2, h3⟩ := h
  exact ⟨vk, vp, h1.nb, h2, h3⟩
theorem Leaf.pg {w : World} {b : Nat} {es : List En} (h : Leaf w b es) : ∃ pg, LeafP w b pg es := by
  obtain ⟨vc, ⟨pg, h1⟩, h2⟩ := h
  exact ⟨pg, vc, h1, h2⟩
theorem Bran.pg {w : World} {b : Nat} {ks : List ByteArray} {ps : List Nat} (h : Bran w b ks ps) : ∃ pg, BranP w b pg ks ps := by
  obtain ⟨vk, vp, ⟨pg, h1⟩, h2, h3⟩ := h
  exact ⟨pg, vk, vp, h1, h2, h3⟩
theorem Leaf.ext {w w' : World} {b : Nat} {es : List En} (h : Leaf w b es) (hb : Below w.heap.size w w') : Leaf w' b es := by
  obtain ⟨vc, h1, h2⟩ := h
  exact ⟨vc, h1.ext hb, h2.ext hb⟩
theorem Bran.ext {w w' : World} {b : Nat} {ks : List ByteArray} {ps : List Nat} (h : Bran w b ks ps) (hb : Below w.heap.size w w') : Bran w' b ks ps := by
  obtain ⟨vk, vp, h1, h2, h3⟩ := h
  exact ⟨vk, vp, h1.ext hb, h2.ext hb, h3.ext hb⟩
/-- A tree of so many nodes above one another below a pointer, between two bounds: its entries, its root's size. -/
def Nd (w : World) : Nat → SB → SB → Nat → List En → Nat → Prop
  | 0, lo, hi, b, es, s => Leaf w b es ∧ ltO lo hi ∧ srt es ∧ (∀ x ∈ es, okE x ∧ ins lo hi x.k) ∧ s = leafSz es
  | h + 1, lo, hi, b, es, s => ∃ ks ps ess, Bran w b ks ps ∧ KRow (fun lo hi p e => ∃ s, Nd w h lo hi p e s ∧ 126 ≤ s ∧ s ≤ 504) ks lo hi ps ess ∧ es = ess.flatten ∧ s = brSz ks
/-- A node that has enough, and fits. -/
def Good (w : World) (h : Nat) (lo hi : SB) (p : Nat) (e : List En) : Prop := ∃ s, Nd w h lo hi p e s ∧ 126 ≤ s ∧ s ≤ 504
theorem nd_succ {w : World} {h : Nat} {lo hi : SB} {b : Nat} {es : List En} {s : Nat} : Nd w (h + 1) lo hi b es s ↔ ∃ ks ps ess, Bran w b ks ps ∧ KRow (Good w h) ks lo hi ps ess ∧ es = ess.flatten ∧ s = brSz ks := Iff.rfl
theorem Nd.ext {w w' : World} (hb : Below w.heap.size w w') : ∀ (h : Nat) {lo hi : SB} {b : Nat} {es : List En} {s : Nat}, Nd w h lo hi b es s → Nd w' h lo hi b es s
  | 0, _, _, _, _, _, ⟨h1, h2⟩ => ⟨h1.ext hb, h2⟩
  | h + 1, _, _, _, _, _, ⟨ks, ps, ess, h1, h2, h3⟩ => ⟨ks, ps, ess, h1.ext hb, h2.mono (fun _ _ _ _ ⟨s, h4, h5⟩ => ⟨s, Nd.ext hb h h4, h5⟩), h3⟩
theorem Good.ext {w w' : World} (hb : Below w.heap.size w w') {h : Nat} {lo hi : SB} {p : Nat} {e : List En} (hg : Good w h lo hi p e) : Good w' h lo hi p e := by
  obtain ⟨s, h4, h5⟩ := hg
  exact ⟨s, Nd.ext hb h h4, h5⟩
theorem Nd.facts {w : World} : ∀ (h : Nat) {lo hi : SB} {b : Nat} {es : List En} {s : Nat}, Nd w h lo hi b es s → ltO lo hi ∧ srt es ∧ ∀ x ∈ es, okE x ∧ ins lo hi x.k
  | 0, _, _, _, _, _, ⟨_, h2, h3, h4, _⟩ => ⟨h2, h3, h4⟩
  | h + 1, _, _, _, _, _, ⟨ks, ps, ess, _, h2, h3, _⟩ => by
    have := h2.facts (fun lo hi p e hg => by
      obtain ⟨s, h4, _⟩ := hg
      exact Nd.facts h h4)
    rw [h3]
    exact ⟨this.1, this.2.1, this.2.2.1⟩
theorem Good.facts {w : World} {h : Nat} : ∀ lo hi p e, Good w h lo hi p e → ltO lo hi ∧ srt e ∧ ∀ x ∈ e, okE x ∧ ins lo hi x.k := fun _ _ _ _ ⟨_, h4, _⟩ => Nd.facts h h4
theorem Good.count {w : World} : ∀ (h : Nat) lo hi p e, Good w h lo hi p e → 2 * 4 ^ h ≤ e.length
  | 0, lo, hi, p, e, ⟨s, ⟨_, _, _, h4, h5⟩, h6, _⟩ => by
    have h7 := szs_range (fun x hx => (h4 x hx).1)
    unfold leafSz at h5
    rcases Nat.lt_or_ge e.length 2 with h8 | h8
    · have : vs e.length = 1 := vs_small (by omega)
      omega
    · exact h8
  | h + 1, lo, hi, p, e, ⟨s, ⟨ks, ps, ess, _, h2, h3, h4⟩, h6, _⟩ => by
    have h7 := h2.count (m := 2 * 4 ^ h) (fun lo hi p e hg => Good.count h lo hi p e hg)
    have h8 := kss_range (h2.facts Good.facts).2.2.2
    unfold brSz at h4
    have h9 : 3 ≤ ks.length := by omega
    rw [h3]
    have h10 : 2 * 4 ^ h * 4 ≤ 2 * 4 ^ h * (ks.length + 1) := Nat.mul_le_mul_left _ (by omega)
    rw [Nat.pow_succ]; omega
/-- A tree of fewer than 200 entries has at most four nodes above one another. -/
theorem Nd.low {w : World} {h : Nat} {lo hi : SB} {b : Nat} {es : List En} {s : Nat} (hn : Nd w h lo hi b es s) (hs : 0 < h → 3 ≤ s) (hl : es.length < 200) : h ≤ 3 := by
  cases h with
  | zero => omega
  | succ h =>
    obtain ⟨ks, ps, ess, _, h2, h3, h4⟩ := hn
    have h7 := KRow.count (m := 2 * 4 ^ h) (fun lo hi p e hg => Good.count h lo hi p e hg) h2
    have h5 : 1 ≤ ks.length := by
      have := hs (by omega)
      cases ks with
      | nil => unfold brSz kss at h4; simp at h4; omega
      | cons a r => simp
    have h6 : 2 * 4 ^ h * 2 ≤ 2 * 4 ^ h * (ks.length + 1) := Nat.mul_le_mul_left _ (by omega)
    rw [h3] at hl
    rcases Nat.lt_or_ge h 3 with h8 | h8
    · omega
    · have : 4 ^ 3 ≤ 4 ^ h := Nat.pow_le_pow_right (by omega) h8
      omega
/-! ### With pages -/
/-- A tree of so many nodes above one another below a pointer, between two bounds. -/
def NdT (w : World) : Nat → SB → SB → Nat → Tr → Prop
  | 0, lo, hi, b, t => ∃ pg es, t = .leaf pg es ∧ LeafP w b pg es ∧ ltO lo hi ∧ srt es ∧ ∀ x ∈ es, okE x ∧ ins lo hi x.k
  | h + 1, lo, hi, b, t => ∃ pg ks ps ts, t = .bran pg ks ts ∧ BranP w b pg ks ps ∧ KRow (fun lo hi p t => NdT w h lo hi p t ∧ 126 ≤ t.sz ∧ t.sz ≤ 504) ks lo hi ps ts
def GoodT (w : World) (h : Nat) (lo hi : SB) (p : Nat) (t : Tr) : Prop := NdT w h lo hi p t ∧ 126 ≤ t.sz ∧ t.sz ≤ 504
theorem ndT_succ {w : World} {h : Nat} {lo hi : SB} {b : Nat} {t : Tr} : NdT w (h + 1) lo hi b t ↔ ∃ pg ks ps ts, t = .bran pg ks ts ∧ BranP w b pg ks ps ∧ KRow (GoodT w h) ks lo hi ps ts := Iff.rfl
theorem NdT.ext {w w' : World} (hb : Below w.heap.size w w') : ∀ (h : Nat) {lo hi : SB} {b : Nat} {t : Tr}, NdT w h lo hi b t → NdT w' h lo hi b t
  | 0, _, _, _, _, ⟨pg, es, h0, h1, h2⟩ => ⟨pg, es, h0, h1.ext hb, h2⟩
  | h + 1, _, _, _, _, ⟨pg, ks, ps, ts, h0, h1, h2⟩ => ⟨pg, ks, ps, ts, h0, h1.ext hb, h2.mono (fun _ _ _ _ ⟨h4, h5⟩ => ⟨NdT.ext hb h h4, h5⟩)⟩
theorem GoodT.ext {w w' : World} (hb : Below w.heap.size w w') {h : Nat} {lo hi : SB} {p : Nat} {t : Tr} (hg : GoodT w h lo hi p t) : GoodT w' h lo hi p t := ⟨NdT.ext hb h hg.1, hg.2⟩
theorem NdT.nd {w : World} : ∀ (h : Nat) {lo hi : SB} {b : Nat} {t : Tr}, NdT w h lo hi b t → Nd w h lo hi b t.es t.sz
  | 0, _, _, _, _, ⟨pg, es, h0, h1, h2, h3, h4⟩ => by
    subst h0
    rw [Tr.es]
    exact ⟨h1.leaf, h2, h3, h4, rfl⟩
  | h + 1, _, _, _, _, ⟨pg, ks, ps, ts, h0, h1, h2⟩ => by
    subst h0
    rw [Tr.es]
    exact ⟨ks, ps, ts.map Tr.es, h1.bran, h2.map Tr.es (fun _ _ _ t ⟨h4, h5⟩ => ⟨t.sz, NdT.nd h h4, h5⟩), esL_flat ts, rfl⟩
theorem GoodT.good {w : World} {h : Nat} {lo hi : SB} {p : Nat} {t : Tr} (hg : GoodT w h lo hi p t) : Good w h lo hi p t.es := ⟨t.sz, NdT.nd h hg.1, hg.2⟩
/-- A row of kids with pages is one. -/
theorem KRow.good {w : World} {h : Nat} {ks : List ByteArray} {lo hi : SB} {ps : List Nat} {ts : List Tr} (hr : KRow (GoodT w h) ks lo hi ps ts) : KRow (Good w h) ks lo hi ps (ts.map Tr.es) := hr.map Tr.es (fun _ _ _ _ hg => hg.good)
theorem KRow.factsT {w : World} {h : Nat} {ks : List ByteArray} {lo hi : SB} {ps : List Nat} {ts : List Tr} (hr : KRow (GoodT w h) ks lo hi ps ts) : ltO lo hi ∧ srt (esL ts) ∧ (∀ x ∈ esL ts, okE x ∧ ins lo hi x.k) ∧ ∀ k ∈ ks, okK k = true := by
  rw [esL_flat]; exact hr.good.facts Good.facts
end Go.Proofs.YtbgkjniagedcnaaGreatDoor
