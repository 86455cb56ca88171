/-
  Slices of elements of any kind in memory (an element is so many cells), and what an append makes of them. No program.
-/
import Derived.Test.YtbgkjniagedcnaaGreatDoorMemZ
import Derived.Test.YtbgkjniagedcnaaGreatDoorGr
import Derived.Lib.AppendZerosOnto
import Derived.Deep.Upon
import Derived.Laws.Cover1
namespace Go.Proofs.YtbgkjniagedcnaaGreatDoor
open Go Go.RowKit

/-- A kind of element: how many cells and bytes it has, its zero value, its cells. -/
structure Elt (α : Type) where
  sz : Nat
  by_ : Nat
  zero : Value
  enc : α → List Value
  len : ∀ a, (enc a).length = sz
  one : ∀ a, ∀ u ∈ enc a, u.oneCell' = true
  pos : 0 < sz
  zc : zero.cells.size = sz
  ty : TypeId → Bool
/-- A block of cells of such a type. -/
def RT (w : World) (g : Nat) (ty : TypeId → Bool) : Prop := ∃ A T fz, w.heap[g]? = some (.cells A T fz) ∧ ty T = true
theorem RT.ext {w w' : World} {g B : Nat} {ty : TypeId → Bool} (h : RT w g ty) (hb : Below B w w') (hB : w.heap.size ≤ B) : RT w' g ty := by
  obtain ⟨A, T, fz, h1, h2⟩ := h
  exact ⟨A, T, fz, (hb.block g (Nat.lt_of_lt_of_le (Array.getElem?_eq_some_iff.1 h1).1 hB)).trans h1, h2⟩
section
variable {α : Type} (E : Elt α)
/-- The cells of a list. -/
def Elt.row : List α → List Value
  | [] => []
  | x :: r => E.enc x ++ Elt.row r
theorem Elt.row_app : ∀ (a b : List α), E.row (a ++ b) = E.row a ++ E.row b
  | [], _ => rfl
  | x :: r, b => by rw [List.cons_append, Elt.row, Elt.row, Elt.row_app r b, List.append_assoc]
theorem Elt.row_len : ∀ (l : List α), (E.row l).length = l.length * E.sz
  | [] => by simp [Elt.row]
  | x :: r => by rw [Elt.row, List.length_append, E.len, Elt.row_len r, List.length_cons, Nat.add_mul, Nat.one_mul, Nat.add_comm]
theorem Elt.row_one : ∀ (l : List α), ∀ u ∈ E.row l, u.oneCell' = true
  | [], u, h => by cases h
  | x :: r, u, h => by
    rw [Elt.row, List.mem_append] at h
    rcases h with h | h
    · exact E.one x u h
    · exact Elt.row_one r u h
theorem Elt.row_take (l : List α) (k j : Nat) (u : Value) (h : (E.row (l.take k))[j]? = some u) : (E.row l)[j]? = some u := by
  have e : E.row l = E.row (l.take k) ++ E.row (l.drop k) := by rw [← Elt.row_app, List.take_append_drop]
  rw [e, List.getElem?_append_left (List.getElem?_eq_some_iff.1 h).1]; exact h
theorem Elt.row_drop (l : List α) (k j : Nat) (hk : k ≤ l.length) (u : Value) (h : (E.row (l.drop k))[j]? = some u) : (E.row l)[k * E.sz + j]? = some u := by
  have e : E.row l = E.row (l.take k) ++ E.row (l.drop k) := by rw [← Elt.row_app, List.take_append_drop]
  have e2 : (E.row (l.take k)).length = k * E.sz := by rw [Elt.row_len, List.length_take, Nat.min_eq_left hk]
  rw [e, List.getElem?_append_right (by omega), e2, Nat.add_sub_cancel_left]; exact h
/-- The cells of one element of a list. -/
theorem Elt.row_at (l : List α) (i j : Nat) (x : α) (hi : l[i]? = some x) (hj : j < E.sz) : (E.row l)[i * E.sz + j]? = (E.enc x)[j]? := by
  have hl : i < l.length := (List.getElem?_eq_some_iff.1 hi).1
  have e : E.row l = E.row (l.take i) ++ (E.enc x ++ E.row (l.drop (i + 1))) := by
    have h1 : l = l.take i ++ x :: l.drop (i + 1) := by
      have h2 := List.getElem?_eq_some_iff.1 hi
      obtain ⟨_, rfl⟩ := h2
      rw [← List.drop_eq_getElem_cons hl, List.take_append_drop]
    conv => lhs; rw [h1]
    rw [Elt.row_app, Elt.row]
  have e2 : (E.row (l.take i)).length = i * E.sz := by rw [Elt.row_len, List.length_take, Nat.min_eq_left (by omega)]
  rw [e, List.getElem?_append_right (by omega), e2, Nat.add_sub_cancel_left, List.getElem?_append_left (by rw [E.len]; exact hj)]
/-- A slice's address reads as these elements. -/
def ES (w : World) (a : Option Addr) (l : List α) : Prop := (a = none ∧ l = []) ∨ ∃ g o, a = some ⟨g, o, none⟩ ∧ RT w g E.ty ∧ ∀ j u, (E.row l)[j]? = some u → w.cell? ⟨g, o + j, none⟩ = some u
variable {E}
theorem ES.nil (w : World) : ES E w none [] := .inl ⟨rfl, rfl⟩
theorem ES.at {w : World} {a : Option Addr} {l : List α} (h : ES E w a l) (h0 : 0 < l.length) : ∃ g o, a = some ⟨g, o, none⟩ ∧ ∀ j u, (E.row l)[j]? = some u → w.cell? ⟨g, o + j, none⟩ = some u := by
  rcases h with ⟨_, rfl⟩ | ⟨g, o, h, _, hc⟩
  · simp at h0
  · exact ⟨g, o, h, hc⟩
theorem ES.below {w w' : World} {a : Option Addr} {l : List α} {B : Nat} (h : ES E w a l) (hb : Below B w w') (hB : w.heap.size ≤ B) : ES E w' a l := by
  rcases h with h | ⟨g, o, rfl, ht, hc⟩
  · exact .inl h
  · exact .inr ⟨g, o, rfl, ht.ext hb hB, fun j u hu => by have := hc j u hu; rw [hb.cell (p := ⟨g, o + j, none⟩) (Nat.lt_of_lt_of_le (block_lt_of_cell this) hB)]; exact this⟩
theorem ES.take {w : World} {a : Option Addr} {l : List α} (h : ES E w a l) (k : Nat) : ES E w a (l.take k) := by
  rcases h with ⟨h, rfl⟩ | ⟨g, o, rfl, ht, hc⟩
  · exact .inl ⟨h, by simp⟩
  · exact .inr ⟨g, o, rfl, ht, fun j u hu => hc j u (E.row_take l k j u hu)⟩
theorem ES.drop {w : World} {g o : Nat} {l : List α} (h : ES E w (some ⟨g, o, none⟩) l) (k q : Nat) (hk : k ≤ l.length) (hq : q = o + k * E.sz) : ES E w (some ⟨g, q, none⟩) (l.drop k) := by
  rcases h with ⟨h, _⟩ | ⟨g', o', h, ht, hc⟩
  · cases h
  · cases h
    subst hq
    exact .inr ⟨g, _, rfl, ht, fun j u hu => by rw [Nat.add_assoc]; exact hc _ u (E.row_drop l k j hk u hu)⟩
/-- A slice value that reads as these elements, with its reach. -/
def EV (E : Elt α) (w : World) (v : Value) (l : List α) : Prop := ∃ a c, v = .slice a l.length c ∧ ES E w a l ∧ (a = none → c = 0) ∧ l.length ≤ c ∧ c ≤ maxLen
theorem EV.below {w w' : World} {v : Value} {l : List α} {B : Nat} (h : EV E w v l) (hb : Below B w w') (hB : w.heap.size ≤ B) : EV E w' v l := by
  obtain ⟨a, c, rfl, hs, h1⟩ := h
  exact ⟨a, c, rfl, hs.below hb hB, h1⟩
theorem EV.ext {w w' : World} {v : Value} {l : List α} (h : EV E w v l) (hb : Below w.heap.size w w') : EV E w' v l := h.below hb (Nat.le_refl _)
theorem EV.drew {w : World} {v : Value} {l : List α} (h : EV E w v l) : EV E w.drew v l := h.below (Below.refl _ _).drew (Nat.le_refl _)
theorem EV.none (w : World) : EV E w (.slice none 0 0) [] := ⟨Option.none, 0, rfl, ES.nil _, fun _ => rfl, Nat.le_refl _, by unfold maxLen; omega⟩
theorem own_ev {w : World} {B T : Nat} {v : Value} {l : List α} (h : w.ownsRow B T E.sz v l.length (E.row l)) (hT : E.ty T = true := by decide) : EV E w v l := by
  have h' := h
  obtain ⟨_, h2⟩ := h
  rcases h2 with ⟨rfl, h0⟩ | ⟨g, cap, cur, rfl, hb, hg, hnc, hcm, _⟩
  · have : l = [] := List.eq_nil_of_length_eq_zero h0
    subst this
    exact EV.none w
  · refine ⟨_, cap, rfl, .inr ⟨g, 0, rfl, ⟨_, _, _, hg, hT⟩, fun j u hu => ?_⟩, (fun h => by cases h), hnc, hcm⟩
    have hj : j < l.length * E.sz := by have := (List.getElem?_eq_some_iff.1 hu).1; rwa [E.row_len] at this
    have := h'.cellAt j hj
    rw [Nat.zero_add, this]; exact hu
/-- A new row whose block is known. -/
theorem ES.lit {w : World} {g T : Nat} {l : List α} {m : Nat × Nat} (h : w.heap[g]? = some (.cells (E.row l).toArray T m)) (hT : E.ty T = true := by decide) : ES E w (some ⟨g, 0, Option.none⟩) l :=
  .inr ⟨g, 0, rfl, ⟨_, _, _, h, hT⟩, fun j u hu => by simp [World.cell?, h, hu]⟩
/-- A literal's new row. -/
theorem lit_ev {w : World} {g T : Nat} {l : List α} {m : Nat × Nat} (h : w.heap[g]? = some (.cells (E.row l).toArray T m)) (hm : l.length ≤ maxLen) (hT : E.ty T = true := by decide) : EV E w (.slice (some ⟨g, 0, Option.none⟩) l.length l.length) l :=
  ⟨_, _, rfl, .inr ⟨g, 0, rfl, ⟨_, _, _, h, hT⟩, fun j u hu => by simp [World.cell?, h, hu]⟩, (fun h => by cases h), Nat.le_refl _, hm⟩
section
variable {P : Program} {w : World}
theorem ev_src {t e : TypeId} (ht : P.underlying t = some (.slice e)) {a : Option Addr} {n c : Nat} {l : List α} (hn : l.length = n) (hz : a = none → c = 0 ∧ n = 0) (h : ES E w a l) : Go.Src P E.sz t (.slice a n c) n (E.row l) w := by
  rcases Nat.eq_zero_or_pos n with h0 | h0
  · obtain rfl : l = [] := List.eq_nil_of_length_eq_zero (by omega)
    subst h0
    cases a with
    | none => exact Go.Src.ofNil w ht c
    | some ad => exact Go.Src.ofSlice w ht ad 0 c [] (by simp) (fun j u hu => by simp at hu) (fun u hu => by cases hu)
  · obtain ⟨g, o, rfl, hc⟩ := h.at (by omega)
    exact Go.Src.ofSlice w ht ⟨g, o, none⟩ n c (E.row l) (by rw [E.row_len, hn]) (fun j u hu => by rw [addr_add]; exact hc j u hu) (E.row_one l)
/-- append behind a slice that has no room. -/
theorem run_app_full (t ty e : TypeId) (ht : P.underlying t = some (.slice e)) (h2 : (P.info? e).map (fun i => (i.zero, i.size, i.bytes)) = some (some E.zero, E.sz, E.by_))
    (a : Option Addr) (n : Nat) (l : List α) (hn : l.length = n) (hs : ES E w a l) (a2 : Option Addr) (n2 c2 : Nat) (m : List α) (hn2 : m.length = n2) (hz2 : a2 = none → c2 = 0) (hm : ES E w a2 m)
    (h63 : n + n2 ≤ maxLen) (hby : (n + n2) * E.by_ ≤ 140737488355328) :
    ∃ v' w', (Builtin.append_ #[t, t] ty #[.slice a n n, .slice a2 n2 c2]).run P w = .ok v' w' ∧ Below w.heap.size w w' ∧
      ((m = [] ∧ v' = .slice a n n ∧ w' = w) ∨ w'.ownsRow w.heap.size e E.sz v' (n + n2) (E.row (l ++ m))) := by
  obtain ⟨i0, hi, hz, hs0, hb0⟩ := info_parts h2
  have hzz : a2 = none → c2 = 0 ∧ n2 = 0 := fun h => ⟨hz2 h, by
    rcases Nat.eq_zero_or_pos n2 with h0 | h0
    · exact h0
    · obtain ⟨g, o, h3, _⟩ := hm.at (by omega)
      rw [h] at h3; cases h3⟩
  have hsrc := ev_src (P := P) (w := w) ht hn2 hzz hm
  have hsmall : n + n2 ≤ 9223372036854775807 := by simp only [maxLen] at h63; omega
  rcases Nat.eq_zero_or_pos n2 with h0 | h0
  · obtain rfl : m = [] := List.eq_nil_of_length_eq_zero (by omega)
    subst h0
    exact ⟨_, _, run_append_nothing w t t ty e i0 ht hi a n n (Nat.le_refl _) _ (by rw [hs0]; exact hsrc), Below.refl _ _, .inl ⟨rfl, rfl, rfl⟩⟩
  · have hold : (Builtin.firstCells i0.size n (.slice a n n)).run P w.drew = .ok (E.row l).toArray w.drew := by
      rcases Nat.eq_zero_or_pos n with h3 | h3
      · obtain rfl : l = [] := List.eq_nil_of_length_eq_zero (by omega)
        subst h3
        cases a with
        | none => exact run_firstCells_none w.drew i0.size 0 0 0
        | some ad => exact run_firstCells_some w.drew i0.size 0 ad 0 0 [] (by simp) (fun j u hu => by simp at hu)
      · obtain ⟨g, o, rfl, hc⟩ := hs.at (by omega)
        exact run_firstCells_some w.drew i0.size n ⟨g, o, none⟩ n n (E.row l) (by rw [E.row_len, hn, hs0]) (fun j u hu => by rw [addr_add]; exact hc j u hu)
    have hrun := run_append_grow_src (P := P) w t t ty e i0 E.zero ht hi hz a n n (E.row l) hold _ n2 (E.row m) (by rw [hs0]; exact hsrc) (by omega) (by omega) (growslice_fits (by omega) (by rw [hb0]; exact hby))
    have hG1 : n + n2 ≤ grownCap w (n + n2) n e := grownCap_ge w (n + n2) n e
    have hG2 := grownCap_le_maxLen w (n + n2) n e h63
    refine ⟨_, _, hrun, (Below.refl _ _).drew.alloc (Nat.le_refl _) _, .inr ?_⟩
    have hL : (E.row l ++ E.row m).length = (n + n2) * E.sz := by rw [← Elt.row_app, Elt.row_len, List.length_append, hn, hn2]
    rw [Elt.row_app]
    refine ⟨hL, .inr ⟨w.heap.size, grownCap w (n + n2) n e, (E.row l ++ E.row m).toArray ++ Builtin.zeroCells E.zero.cells (grownCap w (n + n2) n e - (n + n2)), rfl, Nat.le_refl _, ?_, hG1, hG2, ?_, ?_⟩⟩
    · show (w.drew.heap.push _)[w.heap.size]? = _
      rw [show w.heap.size = w.drew.heap.size from rfl, Array.getElem?_push_size]
    · rw [Array.size_append, List.size_toArray, hL, size_zeroCells, E.zc, ← Nat.add_mul]
      congr 1
      omega
    · rw [Array.toList_append, List.take_append_of_le_length (by rw [List.toList_toArray]; omega), List.toList_toArray, List.take_of_length_le (by omega)]
/-- append behind a row of one's own. -/
theorem run_app_own (B : Nat) (t ty e : TypeId) (ht : P.underlying t = some (.slice e)) (h2 : (P.info? e).map (fun i => (i.zero, i.size, i.bytes)) = some (some E.zero, E.sz, E.by_))
    (v : Value) (n : Nat) (l : List α) (hs : w.ownsRow B e E.sz v n (E.row l)) (hB : B ≤ w.heap.size) (a2 : Option Addr) (n2 c2 : Nat) (m : List α) (hn2 : m.length = n2) (hz2 : a2 = none → c2 = 0) (hm : ES E w a2 m)
    (h63 : n + n2 ≤ maxLen) (hby : (n + n2) * E.by_ ≤ 140737488355328) :
    ∃ v' w', (Builtin.append_ #[t, t] ty #[v, .slice a2 n2 c2]).run P w = .ok v' w' ∧ Below B w w' ∧ w'.ownsRow B e E.sz v' (n + n2) (E.row (l ++ m)) := by
  obtain ⟨i0, hi, hz, hs0, hb0⟩ := info_parts h2
  rcases Nat.eq_zero_or_pos n2 with h0 | h0
  · obtain rfl : m = [] := List.eq_nil_of_length_eq_zero (by omega)
    subst h0
    have hzz : a2 = none → c2 = 0 ∧ (0 : Nat) = 0 := fun h => ⟨hz2 h, rfl⟩
    have hsrc := ev_src (P := P) (w := w) ht (show ([] : List α).length = 0 from rfl) hzz hm
    rw [List.append_nil, Nat.add_zero]
    refine ⟨v, w, ?_, Below.refl _ _, hs⟩
    rcases hs.2 with ⟨rfl, h3⟩ | ⟨g, cap, cur, rfl, _, _, hnc, _⟩
    · exact run_append_nothing w t t ty e i0 ht hi none 0 0 (Nat.le_refl _) _ (by rw [hs0]; exact hsrc)
    · exact run_append_nothing w t t ty e i0 ht hi _ n cap hnc _ (by rw [hs0]; exact hsrc)
  · obtain ⟨g, o, rfl, hc⟩ := hm.at (by omega)
    obtain ⟨v', w', hr, h3, h4, _⟩ := run_append_own (P := P) w B t ty e i0 E.zero E.sz E.by_ ht hi hz hs0 hb0 E.zc E.pos v n (E.row l) hs ⟨g, o, none⟩ n2 c2 (E.row m) (by rw [E.row_len, hn2]) (fun j u hu => by rw [addr_add]; exact hc j u hu) (E.row_one m) h63 hby hB
    refine ⟨v', w', hr, (Below.refl B w).grown h4 hB (fun k hk => (hs.lt k hk).1), ?_⟩
    rw [Elt.row_app]; exact h3
/-- An append whose run is known. -/
theorem wp_app_run {o : Oper} {ac : Act} {K : Act → World → Prop} {Q : Exit → Act → World → Prop} (s x : Operand) (t : TypeId) (ho : o.op = .call { callee := .builtin .append, args := #[s, x], argTypes := #[t, t] })
    {v xv v' : Value} {w' : World} (hs : ac.eval s = v) (hx : ac.eval x = xv) (hr : (Builtin.append_ #[t, t] o.type #[v, xv]).run P w = .ok v' w') (h : K (ac.put o.dst v') w') : Oper.wp P o ac w K Q := by
  unfold Oper.wp
  simp [execOp, ho, resolve, invoke, builtin, hs, hx, hr, Result.andThen]
  exact h
/-- Two appends, one behind the other: the first behind a slice without room. -/
theorem run_app_two (t ty ty2 e : TypeId) (ht : P.underlying t = some (.slice e)) (h2 : (P.info? e).map (fun i => (i.zero, i.size, i.bytes)) = some (some E.zero, E.sz, E.by_))
    (a : Option Addr) (n : Nat) (l : List α) (hn : l.length = n) (hs : ES E w a l) (a2 : Option Addr) (n2 c2 : Nat) (m : List α) (hn2 : m.length = n2) (hz2 : a2 = none → c2 = 0) (hm : ES E w a2 m)
    (a3 : Option Addr) (n3 c3 : Nat) (r : List α) (hn3 : r.length = n3) (hz3 : a3 = none → c3 = 0) (hr : ES E w a3 r)
    (h63 : n + n2 + n3 ≤ maxLen) (hby : (n + n2 + n3) * E.by_ ≤ 140737488355328) (he : E.ty e = true := by decide) :
    ∃ v1 w1 v2 w2, (Builtin.append_ #[t, t] ty #[.slice a n n, .slice a2 n2 c2]).run P w = .ok v1 w1 ∧ Below w.heap.size w w1 ∧
      (Builtin.append_ #[t, t] ty2 #[v1, .slice a3 n3 c3]).run P w1 = .ok v2 w2 ∧ Below w.heap.size w1 w2 ∧ Below w.heap.size w w2 ∧ EV E w2 v2 (l ++ (m ++ r)) := by
  have hmul : (n + n2) * E.by_ ≤ (n + n2 + n3) * E.by_ := Nat.mul_le_mul_right _ (by omega)
  obtain ⟨v1, w1, h1, hb1, h4⟩ := run_app_full (P := P) (w := w) t ty e ht h2 a n l hn hs a2 n2 c2 m hn2 hz2 hm (by omega) (by omega)
  rcases h4 with ⟨rfl, rfl, rfl⟩ | hown
  · obtain rfl : n2 = 0 := hn2.symm
    obtain ⟨v2, w2, h5, hb2, h6⟩ := run_app_full (P := P) (w := w1) t ty2 e ht h2 a n l hn hs a3 n3 c3 r hn3 hz3 hr (by omega) (by simpa using hby)
    refine ⟨_, _, v2, w2, h1, hb1, h5, hb2, hb2, ?_⟩
    rw [List.nil_append]
    rcases h6 with ⟨rfl, rfl, rfl⟩ | h6
    · refine ⟨a, n, by rw [List.append_nil, hn], by rw [List.append_nil]; exact hs, fun h => ?_, by rw [List.append_nil]; omega, by omega⟩
      rcases Nat.eq_zero_or_pos n with h0 | h0
      · exact h0
      · obtain ⟨g, o, h3, _⟩ := hs.at (by omega)
        rw [h] at h3; cases h3
    · refine own_ev (B := w1.heap.size) (T := e) ?_ he
      rw [List.length_append, hn, hn3]; exact h6
  · obtain ⟨v2, w2, h5, hb2, h6⟩ := run_app_own (P := P) (w := w1) w.heap.size t ty2 e ht h2 v1 (n + n2) (l ++ m) hown hb1.size a3 n3 c3 r hn3 hz3 (hr.below hb1 (Nat.le_refl _)) (by omega) hby
    refine ⟨v1, w1, v2, w2, h1, hb1, h5, hb2, hb1.trans hb2, ?_⟩
    refine own_ev (B := w.heap.size) (T := e) ?_ he
    rw [← List.append_assoc, List.length_append, List.length_append, hn, hn2, hn3]; exact h6
end
end
/-- A new block of cells, the world ahead of it a letter. -/
theorem alloc_lit (W : World) (T : TypeId) (vs : Array Value) : ∃ g W', W.heap.size = g ∧ W.alloc (.cells vs T) = W' ∧ W'.heap[g]? = some (.cells vs T (0, 0)) ∧ Below W.heap.size W W' :=
  ⟨_, _, rfl, rfl, by show (W.heap.push _)[W.heap.size]? = _; rw [Array.getElem?_push_size], (Below.refl _ _).alloc (Nat.le_refl _) _⟩
theorem heap_new (W : World) (T : TypeId) (vs : Array Value) : (W.alloc (.cells vs T)).heap[W.heap.size]? = some (.cells vs T (0, 0)) := by
  show (W.heap.push _)[W.heap.size]? = _; rw [Array.getElem?_push_size]
end Go.Proofs.YtbgkjniagedcnaaGreatDoor
