/-
  Stretches of pages: what is left, what is reserved, and the laws of all of them. No program.
-/
import Derived.Test.YtcimhcibkbbkdaaDoorExtMath
namespace Go.Proofs.YtcimhcibkbbkdaaDoor

/-- One page more behind stretches. -/
def xaddR (o : List Xt) (v : Int) : List Xt :=
  if 0 < o.length ∧ (xt o (o.length - 1)).f + (xt o (o.length - 1)).m = v then o.set (o.length - 1) ⟨(xt o (o.length - 1)).f, (xt o (o.length - 1)).m + 1⟩ else o ++ [⟨v, 1⟩]
theorem xt_snoc (o : List Xt) (s : Xt) : xt (o ++ [s]) o.length = s := by simp [xt, List.getD]
theorem xaddR_snoc (o : List Xt) (s : Xt) (v : Int) : xaddR (o ++ [s]) v = if s.f + s.m = v then o ++ [⟨s.f, s.m + 1⟩] else o ++ [s] ++ [⟨v, 1⟩] := by
  unfold xaddR
  rw [show (o ++ [s]).length - 1 = o.length by simp, xt_snoc]
  by_cases h : s.f + s.m = v
  · rw [if_pos ⟨by simp, h⟩, if_pos h, List.set_append_right _ _ (Nat.le_refl _)]; simp
  · rw [if_neg (fun h2 => h h2.2), if_neg h]
/-- Pages as stretches. -/
def xofL (p : List Int) : List Xt := p.foldl xaddR []
theorem xofL_snoc (p : List Int) (v : Int) : xofL (p ++ [v]) = xaddR (xofL p) v := by simp [xofL]
theorem xrun_on : ∀ (k : Nat) (o : List Xt) (a v : Int), (xcel k v).foldl xaddR (o ++ [⟨a, v - a⟩]) = o ++ [⟨a, v + k - a⟩]
  | 0, o, a, v => by simp [xcel]
  | k + 1, o, a, v => by
    rw [xcel, List.foldl_cons, xaddR_snoc, if_pos (by simp; omega)]
    have := xrun_on k o a (v + 1)
    rw [show v + 1 - a = v - a + 1 by omega] at this
    rw [this]
    congr 3; omega
/-- All stretches end ahead of a page. -/
def XEnds (o : List Xt) (a : Int) : Prop := ∀ o' s, o = o' ++ [s] → s.f + s.m < a
theorem xends_nil (a : Int) : XEnds [] a := fun o' s h => by simp at h
theorem xends_snoc (o : List Xt) (s : Xt) (a : Int) (h : s.f + s.m < a) : XEnds (o ++ [s]) a := fun o' s' e => by
  have := (List.append_inj' e rfl).2
  cases this; exact h
theorem XEnds.mono {o : List Xt} {a b : Int} (h : XEnds o a) (hb : a ≤ b) : XEnds o b := fun o' s e => by have := h o' s e; omega
theorem xrun_new (k : Nat) (o : List Xt) (v : Int) (h : XEnds o v) : (xcel (k + 1) v).foldl xaddR o = o ++ [⟨v, (k : Int) + 1⟩] := by
  have h1 : xaddR o v = o ++ [⟨v, 1⟩] := by
    rcases List.eq_nil_or_concat o with rfl | ⟨o', s, rfl⟩
    · rfl
    · rw [List.concat_eq_append] at h ⊢
      rw [xaddR_snoc, if_neg (by have := h o' s rfl; omega)]
  rw [xcel, List.foldl_cons, h1]
  have := xrun_on k o v (v + 1)
  rw [show v + 1 - v = (1 : Int) by omega] at this
  rw [this]
  congr 3; omega
/-- What lies between stretches that are in order. -/
def xfrF : Int → List Xt → List Xt
  | _, [] => []
  | a, x :: r => (if a < x.f then [⟨a, x.f - a⟩] else []) ++ xfrF (x.f + x.m) r
theorem xrun_gap (o : List Xt) (a b : Int) (h : XEnds o a) (hab : a ≤ b) : (xcel (b - a).toNat a).foldl xaddR o = o ++ (if a < b then [⟨a, b - a⟩] else []) := by
  by_cases h1 : a < b
  · rw [if_pos h1]
    obtain ⟨k, hk⟩ : ∃ k, (b - a).toNat = k + 1 := ⟨(b - a).toNat - 1, by omega⟩
    rw [hk, xrun_new k o a h]
    congr 3; omega
  · rw [if_neg h1, show (b - a).toNat = 0 by omega, List.append_nil]; rfl
theorem xcel_filter_none (l : List Xt) (k : Nat) (f : Int) (h : ∀ i, f ≤ i → i < f + k → xcovB l i = false) : (xcel k f).filter (fun i => !xcovB l i) = xcel k f := by
  rw [List.filter_eq_self]
  intro i hi
  obtain ⟨h1, h2⟩ := (xcel_mem k f i).1 hi
  rw [h i h1 h2]; rfl
theorem xcel_filter_all (l : List Xt) (k : Nat) (f : Int) (h : ∀ i, f ≤ i → i < f + k → xcovB l i = true) : (xcel k f).filter (fun i => !xcovB l i) = [] := by
  rw [List.filter_eq_nil_iff]
  intro i hi
  obtain ⟨h1, h2⟩ := (xcel_mem k f i).1 hi
  rw [h i h1 h2]; simp
theorem xcov_no {l : List Xt} {i : Int} (h : ∀ x ∈ l, x.f ≤ i → i < x.f + x.m → False) : xcovB l i = false := by
  cases h2 : xcovB l i
  · rfl
  · obtain ⟨x, hx, h3, h4⟩ := (xcovB_iff l i).1 h2
    exact (h x hx h3 h4).elim
theorem xfree_of : ∀ (l : List Xt) (a p : Int) (o : List Xt), XRow l → (∀ x ∈ l, a ≤ x.f ∧ 1 ≤ x.m ∧ x.f + x.m ≤ p) → a ≤ p → XEnds o a →
    ((xcel (p - a).toNat a).filter (fun i => !xcovB l i)).foldl xaddR o = o ++ xfrF a (l ++ [⟨p, 0⟩])
  | [], a, p, o, _, _, hap, he => by
    rw [xcel_filter_none [] _ _ (fun i _ _ => rfl), xrun_gap o a p he hap]
    simp [xfrF]
  | x :: r, a, p, o, hr, hin, hap, he => by
    obtain ⟨h1, h2⟩ := List.pairwise_cons.1 hr
    obtain ⟨x1, x2, x3⟩ := hin x (by simp)
    have hrr := fun y (hy : y ∈ r) => hin y (by simp [hy])
    have e : (p - a).toNat = (x.f - a).toNat + (x.m.toNat + (p - (x.f + x.m)).toNat) := by omega
    rw [e, xcel_app, List.filter_append, xcel_app, List.filter_append]
    rw [show a + ((x.f - a).toNat : Int) = x.f by omega, show x.f + (x.m.toNat : Int) = x.f + x.m by omega]
    rw [xcel_filter_none (x :: r) (x.f - a).toNat a (fun i hi1 hi2 => xcov_no (fun y hy h3 h4 => by
      rcases List.mem_cons.1 hy with rfl | hy
      · omega
      · have := h1 y hy; omega))]
    rw [xcel_filter_all (x :: r) x.m.toNat x.f (fun i hi1 hi2 => (xcovB_iff _ _).2 ⟨x, by simp, hi1, by omega⟩)]
    have e3 : (xcel (p - (x.f + x.m)).toNat (x.f + x.m)).filter (fun i => !xcovB (x :: r) i) = (xcel (p - (x.f + x.m)).toNat (x.f + x.m)).filter (fun i => !xcovB r i) := by
      refine List.filter_congr fun i hi => ?_
      obtain ⟨h3, h4⟩ := (xcel_mem _ _ i).1 hi
      have : xcovB (x :: r) i = xcovB r i := by
        rw [show x :: r = [x] ++ r from rfl, xcovB_app, xcov_no (l := [x]) (i := i) (fun y hy h5 h6 => by
          rw [List.mem_singleton.1 hy] at h6; omega), Bool.false_or]
      rw [this]
    rw [e3, List.nil_append, List.foldl_append, xrun_gap o a x.f he x1]
    rw [xfree_of r (x.f + x.m) p _ h2 (fun y hy => by have := hrr y hy; have := h1 y hy; omega) x3 (by
      by_cases h3 : a < x.f
      · rw [if_pos h3]; exact xends_snoc _ _ _ (by simp; omega)
      · rw [if_neg h3, List.append_nil]; exact he.mono (by omega))]
    rw [List.cons_append, xfrF, List.append_assoc]
/-- What the document tells of what is left. -/
def xfreD (l : List Xt) (p : Int) : List Xt := xofL ((xcel p.toNat 0).filter fun i => !xcovB l i)
theorem xfre_eq {l l' : List Xt} {p : Int} (h : XMay l p) (hp : l'.Perm l) (hs : XAsc l') : xfrF 0 (l' ++ [⟨p, 0⟩]) = xfreD l p := by
  obtain ⟨h1, h2⟩ := h.row hp hs
  have h3 := xfree_of l' 0 p [] h1 (fun x hx => by obtain ⟨a, b, c⟩ := h2 x hx; omega) (by have := h.lo; omega) (xends_nil 0)
  rw [List.nil_append] at h3
  rw [← h3, show p - 0 = p by omega]
  unfold xfreD xofL
  congr 1
  refine List.filter_congr fun i _ => ?_
  rw [xcovB_perm hp]
def xfreV (l : List Xt) (p : Int) : List Xt := if xmayB l p = true then xfreD l p else []
def xfreE (l : List Xt) (p : Int) : Int := if xmayB l p = true then 0 else 1
/-- What lies between them is what they leave. -/
structure XGaps (F l : List Xt) (a p : Int) : Prop where
  ins : ∀ z ∈ F, a ≤ z.f ∧ 1 ≤ z.m ∧ z.f + z.m ≤ p
  row : XRow F
  far : ∀ z ∈ F, ∀ x ∈ l, XFar z x
  sum : xsumM F + xsumM l = p - a
theorem xgaps : ∀ (l : List Xt) (a p : Int), XRow l → (∀ x ∈ l, a ≤ x.f ∧ 1 ≤ x.m ∧ x.f + x.m ≤ p) → a ≤ p → XGaps (xfrF a (l ++ [⟨p, 0⟩])) l a p
  | [], a, p, _, _, hap => by
    have e : xfrF a ([] ++ [⟨p, 0⟩]) = if a < p then [⟨a, p - a⟩] else [] := by simp [xfrF]
    rw [e]
    by_cases h : a < p
    · rw [if_pos h]
      exact ⟨fun z hz => by rw [List.mem_singleton.1 hz]; simp; omega, List.pairwise_singleton _ _, fun _ _ x hx => by simp at hx, by simp [xsumM]⟩
    · rw [if_neg h]
      exact ⟨fun z hz => by simp at hz, List.Pairwise.nil, fun _ hz => by simp at hz, by simp [xsumM]; omega⟩
  | x :: r, a, p, hr, hin, hap => by
    obtain ⟨h1, h2⟩ := List.pairwise_cons.1 hr
    obtain ⟨x1, x2, x3⟩ := hin x (by simp)
    have ih := xgaps r (x.f + x.m) p h2 (fun y hy => by have := hin y (by simp [hy]); have := h1 y hy; omega) x3
    rw [List.cons_append, xfrF]
    generalize xfrF (x.f + x.m) (r ++ [⟨p, 0⟩]) = F at ih
    by_cases h : a < x.f
    · rw [if_pos h]
      refine ⟨fun z hz => ?_, ?_, fun z hz y hy => ?_, ?_⟩
      · rcases List.mem_append.1 hz with hz | hz
        · rw [List.mem_singleton.1 hz]; simp; omega
        · have := ih.ins z hz; omega
      · refine List.pairwise_cons.2 ⟨fun z hz => ?_, ih.row⟩
        have := ih.ins z hz; simp; omega
      · rcases List.mem_append.1 hz with hz | hz
        · rw [List.mem_singleton.1 hz]
          refine .inl ?_
          show a + (x.f - a) ≤ y.f
          rcases List.mem_cons.1 hy with e | hy
          · rw [e]; omega
          · have := h1 y hy; omega
        · rcases List.mem_cons.1 hy with e | hy
          · rw [e]; exact .inr (ih.ins z hz).1
          · exact ih.far z hz y hy
      · rw [xsumM_app]; have := ih.sum; simp only [xsumM]; omega
    · rw [if_neg h, List.nil_append]
      refine ⟨fun z hz => by have := ih.ins z hz; omega, ih.row, fun z hz y hy => ?_, ?_⟩
      · rcases List.mem_cons.1 hy with e | hy
        · rw [e]; exact .inr (ih.ins z hz).1
        · exact ih.far z hz y hy
      · have := ih.sum; simp only [xsumM]; omega
/-- All of what is left, and what is not. -/
structure XLeft (F l : List Xt) (p : Int) : Prop where
  may : XMay (F ++ l) p
  mayF : XMay F p
  row : XRow F
  sum : xsumM F + xsumM l = p
theorem xleft_of {l : List Xt} {p : Int} (h : XMay l p) : XLeft (xfreD l p) l p := by
  obtain ⟨l', hp, hs⟩ := xasc_ex l
  obtain ⟨h1, h2⟩ := h.row hp hs
  have hlo := h.lo
  have g := xgaps l' 0 p h1 (fun x hx => by obtain ⟨a, b, c⟩ := h2 x hx; omega) (by omega)
  rw [xfre_eq h hp hs] at g
  have hin : ∀ z ∈ xfreD l p, XInP p z := fun z hz => by have := g.ins z hz; exact ⟨this.1, this.2.1, by omega⟩
  have hF : XMay (xfreD l p) p := ⟨h.lo, h.hi, hin, g.row.far⟩
  refine ⟨⟨h.lo, h.hi, fun z hz => ?_, List.pairwise_append.2 ⟨g.row.far, h.par, fun z hz x hx => g.far z hz x (hp.mem_iff.2 hx)⟩⟩, hF, g.row, by have := g.sum; rw [xsumM_perm hp] at this; omega⟩
  rcases List.mem_append.1 hz with hz | hz
  · exact hin z hz
  · exact h.ins z hz
/-- What is reserved, what is left, and how many lack. -/
def xrsT : Int → List Xt → List Xt
  | _, [] => []
  | m, x :: r => (if 0 < min m x.m then [⟨x.f, min m x.m⟩] else []) ++ xrsT (m - min m x.m) r
def xrsL : Int → List Xt → List Xt
  | _, [] => []
  | m, x :: r => (if min m x.m < x.m then [⟨x.f + min m x.m, x.m - min m x.m⟩] else []) ++ xrsL (m - min m x.m) r
def xrsM : Int → List Xt → Int
  | m, [] => m
  | m, x :: r => xrsM (m - min m x.m) r
theorem xrsT_len : ∀ (m : Int) (l : List Xt), (xrsT m l).length ≤ l.length
  | _, [] => Nat.le_refl _
  | m, x :: r => by
    have := xrsT_len (m - min m x.m) r
    rw [xrsT, List.length_append, List.length_cons]
    split <;> simp <;> omega
theorem xrsL_len : ∀ (m : Int) (l : List Xt), (xrsL m l).length ≤ l.length
  | _, [] => Nat.le_refl _
  | m, x :: r => by
    have := xrsL_len (m - min m x.m) r
    rw [xrsL, List.length_append, List.length_cons]
    split <;> simp <;> omega
/-- They ascend. -/
def xascB : List Xt → Bool
  | [] => true
  | x :: r => r.all (fun y => decide (x.f ≤ y.f)) && xascB r
theorem xascB_iff : ∀ l : List Xt, xascB l = true ↔ XAsc l
  | [] => by simp [xascB]
  | x :: r => by
    rw [xascB, Bool.and_eq_true, xascB_iff r, List.all_eq_true, XAsc, XAsc, List.pairwise_cons]
    simp
def xrsOk (l : List Xt) (n : Int) : Bool := xmayB l 1024 && xascB l && decide (1 ≤ n)
def xrsFull (l : List Xt) (n : Int) : Bool := decide (0 < xrsM n l) || decide (8 < (xrsT n l).length)
def xrsE (l : List Xt) (n : Int) : Int := if xrsOk l n = true then (if xrsFull l n = true then 7 else 0) else 1
def xrsA (l : List Xt) (n : Int) : List Xt := if xrsOk l n = true then (if xrsFull l n = true then [] else xrsT n l) else []
def xrsB (l : List Xt) (n : Int) : List Xt := if xrsOk l n = true then (if xrsFull l n = true then [] else xrsL n l) else []
theorem xrow_ext : ∀ {l m : List Xt}, XRow l → XRow m → (∀ x ∈ l, 1 ≤ x.m) → (∀ x ∈ m, 1 ≤ x.m) → (∀ x, x ∈ l ↔ x ∈ m) → l = m
  | [], [], _, _, _, _, _ => rfl
  | [], y :: m, _, _, _, _, h => by have := (h y).2 (by simp); simp at this
  | x :: l, [], _, _, _, _, h => by have := (h x).1 (by simp); simp at this
  | x :: l, y :: m, h1, h2, p1, p2, h => by
    obtain ⟨a1, a2⟩ := List.pairwise_cons.1 h1
    obtain ⟨b1, b2⟩ := List.pairwise_cons.1 h2
    have px := p1 x (by simp)
    have py := p2 y (by simp)
    have hxy : x = y := by
      rcases List.mem_cons.1 ((h x).1 (by simp)) with e | ha
      · exact e
      · rcases List.mem_cons.1 ((h y).2 (by simp)) with e | hb
        · exact e.symm
        · have := a1 y hb; have := b1 x ha; omega
    subst hxy
    rw [xrow_ext a2 b2 (fun z hz => p1 z (by simp [hz])) (fun z hz => p2 z (by simp [hz])) (fun z => ⟨fun hz => by
      rcases List.mem_cons.1 ((h z).1 (by simp [hz])) with rfl | h'
      · have := a1 z hz; omega
      · exact h', fun hz => by
      rcases List.mem_cons.1 ((h z).2 (by simp [hz])) with rfl | h'
      · have := b1 z hz; omega
      · exact h'⟩)]
theorem xasc_same {l l' : List Xt} {p : Int} (h : XMay l p) (hp : l'.Perm l) (hs : XAsc l') : l = l' ↔ xascB l = true := by
  rw [xascB_iff]
  constructor
  · rintro rfl; exact hs
  · intro hl
    obtain ⟨a1, a2⟩ := h.row hp hs
    obtain ⟨b1, b2⟩ := h.row (List.Perm.refl l) hl
    exact xrow_ext b1 a1 (fun x hx => (b2 x hx).2.1) (fun x hx => (a2 x hx).2.1) (fun x => hp.symm.mem_iff)
/-- A xpart of a stretch of a list. -/
def XSub (l : List Xt) (z : Xt) : Prop := 1 ≤ z.m ∧ ∃ x ∈ l, x.f ≤ z.f ∧ z.f + z.m ≤ x.f + x.m
structure XParts (m : Int) (l : List Xt) : Prop where
  subT : ∀ z ∈ xrsT m l, XSub l z
  subL : ∀ z ∈ xrsL m l, XSub l z
  parT : (xrsT m l).Pairwise XFar
  parL : (xrsL m l).Pairwise XFar
  cross : ∀ y ∈ xrsT m l, ∀ z ∈ xrsL m l, XFar y z
  sum : xsumM (xrsT m l) = m - xrsM m l
  all : xsumM (xrsT m l) + xsumM (xrsL m l) = xsumM l
  rest : 0 ≤ xrsM m l ∧ (0 < xrsM m l → xsumM l < m)
theorem XSub.cons {l : List Xt} {x z : Xt} (h : XSub l z) : XSub (x :: l) z := by
  obtain ⟨h1, y, hy, h2⟩ := h
  exact ⟨h1, y, by simp [hy], h2⟩
theorem XSub.far {l : List Xt} {x z y : Xt} (h : XSub l z) (hl : ∀ w ∈ l, x.f + x.m ≤ w.f) (hy : y.f + y.m ≤ x.f + x.m) : XFar y z := by
  obtain ⟨h1, w, hw, h2, h3⟩ := h
  have := hl w hw
  exact .inl (by omega)
theorem xparts : ∀ (l : List Xt) (m : Int), 0 ≤ m → XRow l → (∀ x ∈ l, 1 ≤ x.m) → XParts m l
  | [], m, hm, _, _ => ⟨fun z h => by simp [xrsT] at h, fun z h => by simp [xrsL] at h, List.Pairwise.nil, List.Pairwise.nil, fun z h => by simp [xrsT] at h, by simp [xrsT, xrsM, xsumM], by simp [xrsT, xrsL, xsumM], by simp [xrsM, xsumM]; omega⟩
  | x :: r, m, hm, hr, hp => by
    obtain ⟨h1, h2⟩ := List.pairwise_cons.1 hr
    have px := hp x (by simp)
    obtain ⟨n, hn⟩ : ∃ n, n = min m x.m := ⟨_, rfl⟩
    have hn0 : 0 ≤ n ∧ n ≤ m ∧ n ≤ x.m ∧ (n = m ∨ n = x.m) := by omega
    have ih := xparts r (m - n) (by omega) h2 (fun y hy => hp y (by simp [hy]))
    obtain ⟨T, hT⟩ : ∃ T, T = xrsT (m - n) r := ⟨_, rfl⟩
    obtain ⟨L, hL⟩ : ∃ L, L = xrsL (m - n) r := ⟨_, rfl⟩
    obtain ⟨M, hM⟩ : ∃ M, M = xrsM (m - n) r := ⟨_, rfl⟩
    obtain ⟨i1, i2, i3, i4, i5, i6, i7, i8⟩ := ih
    rw [← hT] at i1 i3 i5 i6 i7
    rw [← hL] at i2 i4 i5 i7
    rw [← hM] at i6 i8
    have eT : xrsT m (x :: r) = (if 0 < n then [⟨x.f, n⟩] else []) ++ T := by rw [xrsT, ← hn, ← hT]
    have eL : xrsL m (x :: r) = (if n < x.m then [⟨x.f + n, x.m - n⟩] else []) ++ L := by rw [xrsL, ← hn, ← hL]
    have eM : xrsM m (x :: r) = M := by rw [xrsM, ← hn, ← hM]
    have sT : ∀ z ∈ (if 0 < n then [(⟨x.f, n⟩ : Xt)] else []), z = ⟨x.f, n⟩ ∧ 0 < n := fun z hz => by
      by_cases h : 0 < n
      · rw [if_pos h] at hz; exact ⟨List.mem_singleton.1 hz, h⟩
      · rw [if_neg h] at hz; simp at hz
    have sL : ∀ z ∈ (if n < x.m then [(⟨x.f + n, x.m - n⟩ : Xt)] else []), z = ⟨x.f + n, x.m - n⟩ ∧ n < x.m := fun z hz => by
      by_cases h : n < x.m
      · rw [if_pos h] at hz; exact ⟨List.mem_singleton.1 hz, h⟩
      · rw [if_neg h] at hz; simp at hz
    have eS : xsumM (if 0 < n then [(⟨x.f, n⟩ : Xt)] else []) = n := by
      by_cases h : 0 < n
      · rw [if_pos h]; simp [xsumM]
      · rw [if_neg h]; simp [xsumM]; omega
    have eR : xsumM (if n < x.m then [(⟨x.f + n, x.m - n⟩ : Xt)] else []) = x.m - n := by
      by_cases h : n < x.m
      · rw [if_pos h]; simp [xsumM]
      · rw [if_neg h]; simp [xsumM]; omega
    refine ⟨?_, ?_, ?_, ?_, ?_, ?_, ?_, ?_⟩
    · rw [eT]
      intro z hz
      rcases List.mem_append.1 hz with hz | hz
      · obtain ⟨rfl, h⟩ := sT z hz
        exact ⟨by simp; omega, x, by simp, by simp, by simp; omega⟩
      · exact (i1 z hz).cons
    · rw [eL]
      intro z hz
      rcases List.mem_append.1 hz with hz | hz
      · obtain ⟨rfl, h⟩ := sL z hz
        exact ⟨by simp; omega, x, by simp, by simp; omega, by simp; omega⟩
      · exact (i2 z hz).cons
    · rw [eT]
      refine List.pairwise_append.2 ⟨?_, i3, fun y hy z hz => ?_⟩
      · split
        · exact List.pairwise_singleton _ _
        · exact List.Pairwise.nil
      · obtain ⟨rfl, h⟩ := sT y hy
        exact (i1 z hz).far h1 (by simp; omega)
    · rw [eL]
      refine List.pairwise_append.2 ⟨?_, i4, fun y hy z hz => ?_⟩
      · split
        · exact List.pairwise_singleton _ _
        · exact List.Pairwise.nil
      · obtain ⟨rfl, h⟩ := sL y hy
        exact (i2 z hz).far h1 (by simp; omega)
    · rw [eT, eL]
      intro y hy z hz
      rcases List.mem_append.1 hy with hy | hy <;> rcases List.mem_append.1 hz with hz | hz
      · obtain ⟨rfl, h⟩ := sT y hy
        obtain ⟨rfl, h⟩ := sL z hz
        exact .inl (by simp)
      · obtain ⟨rfl, h⟩ := sT y hy
        exact (i2 z hz).far h1 (by simp; omega)
      · obtain ⟨rfl, h⟩ := sL z hz
        exact ((i1 y hy).far h1 (by simp; omega)).symm
      · exact i5 y hy z hz
    · rw [eT, eM, xsumM_app, eS, i6]; omega
    · rw [eT, eL, xsumM_app, xsumM_app, eS, eR, xsumM]; omega
    · rw [eM, xsumM]
      refine ⟨i8.1, fun h => ?_⟩
      have := i8.2 h
      have h9 := xsumM_pos r (fun y hy => by have := hp y (by simp [hy]); omega)
      omega
theorem xsub_in {l : List Xt} {p : Int} {z : Xt} (h : XSub l z) (hin : ∀ x ∈ l, XInP p x) : XInP p z := by
  obtain ⟨h1, x, hx, h2, h3⟩ := h
  obtain ⟨a, b, c⟩ := hin x hx
  exact ⟨by omega, h1, by omega⟩
/-- What a law wants of what is reserved. -/
theorem xparts_may {l : List Xt} {p n : Int} (h : XMay l p) (hr : XRow l) (hn : 0 ≤ n) : XMay (xrsT n l) p ∧ XMay (xrsL n l) p ∧ XMay (xrsT n l ++ xrsL n l) p := by
  have q := xparts l n hn hr (fun x hx => (h.ins x hx).2.1)
  refine ⟨⟨h.lo, h.hi, fun z hz => xsub_in (q.subT z hz) h.ins, q.parT⟩, ⟨h.lo, h.hi, fun z hz => xsub_in (q.subL z hz) h.ins, q.parL⟩, ⟨h.lo, h.hi, fun z hz => ?_, List.pairwise_append.2 ⟨q.parT, q.parL, q.cross⟩⟩⟩
  rcases List.mem_append.1 hz with hz | hz
  · exact xsub_in (q.subT z hz) h.ins
  · exact xsub_in (q.subL z hz) h.ins
/-- A page that has a number, and the number of a page. -/
theorem xpg_some : ∀ (l : List Xt) (n : Int), (∀ x ∈ l, 1 ≤ x.m) → 0 ≤ n → n < xsumM l → ∃ v, xpgF l n = some v ∧ ∃ x ∈ l, x.f ≤ v ∧ v < x.f + x.m
  | [], n, _, h0, h => by simp only [xsumM] at h; omega
  | x :: r, n, hp, h0, h => by
    rw [xsumM] at h
    rw [xpgF]
    by_cases h1 : n < x.m
    · rw [if_pos h1]; exact ⟨_, rfl, x, by simp, by omega, by omega⟩
    · rw [if_neg h1]
      obtain ⟨v, h2, y, hy, h3⟩ := xpg_some r (n - x.m) (fun y hy => hp y (by simp [hy])) (by omega) (by omega)
      exact ⟨v, h2, y, by simp [hy], h3⟩
theorem xpg_none : ∀ (l : List Xt) (n : Int), xsumM l ≤ n → (∀ x ∈ l, 1 ≤ x.m) → xpgF l n = none
  | [], _, _, _ => rfl
  | x :: r, n, h, hp => by
    rw [xsumM] at h
    have := xsumM_pos r (fun y hy => by have := hp y (by simp [hy]); omega)
    rw [xpgF, if_neg (by omega), xpg_none r (n - x.m) (by omega) (fun y hy => hp y (by simp [hy]))]
theorem xnu_pg : ∀ (l : List Xt) (n a v : Int), l.Pairwise XFar → (∀ x ∈ l, 1 ≤ x.m) → 0 ≤ n → n < xsumM l → xpgF l n = some v → xnuF l a v = some (a + n)
  | [], n, a, v, _, _, h0, h, _ => by simp only [xsumM] at h; omega
  | x :: r, n, a, v, hf, hp, h0, h, hv => by
    obtain ⟨f1, f2⟩ := List.pairwise_cons.1 hf
    rw [xsumM] at h
    rw [xpgF] at hv
    rw [xnuF]
    by_cases h1 : n < x.m
    · rw [if_pos h1] at hv
      cases hv
      rw [if_pos (by omega)]; congr 1; omega
    · rw [if_neg h1] at hv
      obtain ⟨v', h2, y, hy, h3, h4⟩ := xpg_some r (n - x.m) (fun y hy => hp y (by simp [hy])) (by omega) (by omega)
      rw [hv] at h2; cases h2
      have hfy := f1 y hy
      rw [if_neg (by rcases hfy with h | h <;> omega), xnu_pg r (n - x.m) (a + x.m) v f2 (fun y hy => hp y (by simp [hy])) (by omega) (by omega) hv]
      congr 1; omega
theorem xnu_cov : ∀ (l : List Xt) (a p : Int), (xnuF l a p).isSome = xcovB l p
  | [], _, _ => rfl
  | x :: r, a, p => by
    rw [xnuF, show x :: r = [x] ++ r from rfl, xcovB_app]
    by_cases h : x.f ≤ p ∧ p < x.f + x.m
    · rw [if_pos h]; simp [xcovB, h]
    · rw [if_neg h, xnu_cov r]
      rw [xcov_no (l := [x]) (fun y hy h5 h6 => by rw [List.mem_singleton.1 hy] at h5 h6; exact h ⟨h5, h6⟩), Bool.false_or]
end Go.Proofs.YtcimhcibkbbkdaaDoor
