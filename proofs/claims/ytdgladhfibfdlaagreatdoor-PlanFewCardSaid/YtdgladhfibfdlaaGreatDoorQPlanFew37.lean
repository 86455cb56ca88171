/-
  What the law PlanFew stands on.
-/
import Derived.Test.YtdgladhfibfdlaaGreatDoorQPlanFew36
import Derived.Test.YtdgladhfibfdlaaGreatDoorQPlanFew27
namespace Go.Proofs.YtdgladhfibfdlaaGreatDoor
open Go Go.RowKit
theorem layC_app : ∀ (a b : List En) (ps : List Nat), layC (a ++ b) ps = layC a ps ++ layC b (ps.drop (cNs a))
  | [], b, ps => by simp [layC, cNs]
  | e :: r, b, ps => by rw [List.cons_append, layC, layC, layC_app r b, List.drop_drop, cNs]; rfl
theorem wrC_app : ∀ (a b : List En) (ps : List Nat), wrC (a ++ b) ps = wrC a ps ++ wrC b (ps.drop (cNs a))
  | [], b, ps => by simp [wrC, cNs]
  | e :: r, b, ps => by rw [List.cons_append, wrC, wrC, wrC_app r b, List.drop_drop, cNs, List.append_assoc]
theorem cNs_step (cs : List En) (k : Nat) (h : k < cs.length) : cNs (cs.take (k + 1)) = cNs (cs.take k) + cN (ea cs k) := by
  rw [ea_take cs k h, cNs_app]; simp [cNs]
theorem layC_step (cs : List En) (ps : List Nat) (k : Nat) (h : k < cs.length) : layC (cs.take (k + 1)) ps = layC (cs.take k) ps ++ [layE (ea cs k) (ps.drop (cNs (cs.take k)))] := by
  rw [ea_take cs k h, layC_app]; simp [layC]
theorem wrC_step (cs : List En) (ps : List Nat) (k : Nat) (h : k < cs.length) : wrC (cs.take (k + 1)) ps = wrC (cs.take k) ps ++ wrE (ea cs k) (ps.drop (cNs (cs.take k))) := by
  rw [ea_take cs k h, wrC_app]; simp [wrC]
theorem cNs_take_le (cs : List En) (k : Nat) : cNs (cs.take k) ≤ cNs cs := by
  have := cNs_app (cs.take k) (cs.drop k)
  rw [List.take_append_drop] at this; omega
theorem wrE_len (e : En) (ps : List Nat) : (wrE e ps).length = cN e := by
  unfold wrE cN; split <;> simp
theorem wrC_len : ∀ (cs : List En) (ps : List Nat), (wrC cs ps).length = cNs cs
  | [], _ => rfl
  | e :: r, ps => by rw [wrC, List.length_append, wrE_len, wrC_len r, cNs]
def CeV (e : En) : Prop := (e.ch = [] ∨ 64 < e.v.size) ∧ ∀ p ∈ e.ch, 2 ≤ p ∧ p < 1024
def CeW (e : En) : Prop := ((e.v.size ≤ 64 ∧ e.ch = []) ∨ (64 < e.v.size ∧ 0 < e.ch.length)) ∧ ∀ p ∈ e.ch, 2 ≤ p ∧ p < 1024
theorem layE_w {e : En} {ps : List Nat} (h : CeV e) (hl : cN e ≤ ps.length) (hp : ∀ p ∈ ps, 2 ≤ p ∧ p < 1024) : CeW (layE e ps) := by
  unfold layE
  by_cases h1 : waitE e = true
  · have h2 := h1
    unfold waitE at h2
    simp only [Bool.and_eq_true, decide_eq_true_iff] at h2
    unfold cN at hl
    rw [if_pos h1] at hl ⊢
    have h3 : 0 < nP e.v.size := nP_lt.2 (by omega)
    exact ⟨.inr ⟨h2.1, by simp only [List.length_reverse, List.length_take]; omega⟩, fun p hq => hp p (List.mem_of_mem_take (List.mem_reverse.1 hq))⟩
  · rw [if_neg h1]
    refine ⟨?_, h.2⟩
    rcases Nat.lt_or_ge 64 e.v.size with h2 | h2
    · refine .inr ⟨h2, ?_⟩
      unfold waitE at h1
      simp only [Bool.and_eq_true, decide_eq_true_iff, not_and] at h1
      have := h1 h2
      omega
    · refine .inl ⟨h2, ?_⟩
      rcases h.1 with h3 | h3
      · exact h3
      · omega
theorem layC_w : ∀ (cs : List En) (ps : List Nat), (∀ e ∈ cs, CeV e) → cNs cs ≤ ps.length → (∀ p ∈ ps, 2 ≤ p ∧ p < 1024) → ∀ e ∈ layC cs ps, CeW e
  | [], _, _, _, _, e, he => by cases he
  | c :: r, ps, h, hl, hp, e, he => by
    rw [cNs] at hl
    rw [layC] at he
    rcases List.mem_cons.1 he with rfl | he
    · exact layE_w (h c (by simp)) (by omega) hp
    · exact layC_w r _ (fun e he => h e (by simp [he])) (by rw [List.length_drop]; omega) (fun p hq => hp p (List.mem_of_mem_drop hq)) e he
theorem cE_mayW {e : En} (h : okE e) (hl : CeW e) : mayB (cE e) = true := by
  obtain ⟨hl, hr⟩ := hl
  unfold cE mayB
  rcases hl with ⟨h1, _⟩ | ⟨h1, h4⟩
  · rw [if_neg (by omega)]
    simp only
    rw [h.1, decide_eq_true (show (e.v.size : Int) ≤ 2048 by have := h.2; omega)]
    unfold plB
    rw [if_pos (show ((e.v.size : Int)) ≤ 64 by omega)]
    simp
  · rw [if_pos h1]
    simp only
    have h3 := h.2
    rw [h.1, decide_eq_true (show (e.v.size : Int) ≤ 2048 by omega)]
    unfold plB
    rw [if_neg (show ¬ ((e.v.size : Int)) ≤ 64 by omega)]
    have h5 := hr _ (na_mem h4)
    have h6 : (ByteArray.empty).size = 0 := rfl
    simp only [Bool.true_and]
    exact decide_eq_true ⟨h6, by omega, by omega⟩
theorem body_map_lenW : ∀ (es : List En), (∀ e ∈ es, okE e ∧ CeW e) → (body (es.map cE)).length = szs es
  | [], _ => rfl
  | e :: r, h => by
    have h1 := h e (by simp)
    rw [List.map_cons, body, List.length_append, one_len (cE_mayW h1.1 h1.2), body_map_lenW r (fun x hx => h x (by simp [hx])), szs_cons, cE_k, cE_n]
    rfl
theorem load_map_lenW (es : List En) (h : ∀ e ∈ es, okE e ∧ CeW e) : (loadS (es.map cE)).length = leafSz es := by
  rw [load_len, body_map_lenW es h, List.length_map]; rfl
theorem leaf_mayW {es : List En} (h : ∀ e ∈ es, okE e ∧ CeW e) : allMay (es.map cE) := fun i hi => by
  rw [List.length_map] at hi
  rw [ca_map es i hi]
  have h1 := h _ (ea_mem hi)
  exact cE_mayW h1.1 h1.2
theorem layE_kv (e : En) (ps : List Nat) : (layE e ps).k = e.k ∧ (layE e ps).v = e.v := by unfold layE; split <;> exact ⟨rfl, rfl⟩
theorem layC_ok : ∀ (cs : List En) (ps : List Nat), (∀ e ∈ cs, okE e) → ∀ e ∈ layC cs ps, okE e
  | [], _, _, e, he => by cases he
  | c :: r, ps, h, e, he => by
    rw [layC] at he
    rcases List.mem_cons.1 he with rfl | he
    · have := layE_kv c ps
      have h1 := h c (by simp)
      unfold okE at *
      rw [this.1, this.2]; exact h1
    · exact layC_ok r _ (fun e he => h e (by simp [he])) e he
theorem layC_srt {cs : List En} {ps : List Nat} (h : srt cs) : srt (layC cs ps) := by
  have h1 := srt_bare h
  rw [← layC_bare cs ps] at h1
  unfold srt bare at h1
  rw [List.pairwise_map] at h1
  exact h1
theorem layC_leafSz (cs : List En) (ps : List Nat) : leafSz (layC cs ps) = leafSz cs := by
  rw [← leafSz_bare, layC_bare, leafSz_bare]
theorem layC_chl : ∀ (cs : List En) (ps : List Nat), (∀ e ∈ cs, okE e) → (∀ e ∈ cs, e.ch.length ≤ 100000) → ∀ e ∈ layC cs ps, e.ch.length ≤ 100000
  | [], _, _, _, e, he => by cases he
  | c :: r, ps, h, hl, e, he => by
    rw [layC] at he
    rcases List.mem_cons.1 he with rfl | he
    · have h1 := (h c (by simp)).2
      have h2 := hl c (by simp)
      unfold layE
      split
      · simp only [List.length_reverse, List.length_take]
        unfold nP; omega
      · exact h2
    · exact layC_chl r _ (fun e he => h e (by simp [he])) (fun e he => hl e (by simp [he])) e he
def put3 (w : World) (g i : Nat) (x0 x1 x2 : Value) : World := ((w.setCell ⟨g, i, none⟩ x0).setCell ⟨g, i + 1, none⟩ x1).setCell ⟨g, i + 2, none⟩ x2
theorem cel_put : ∀ (xs : List Rw) (j : Nat) (y : Rw), j < xs.length → celE.row (xs.set j y) = (((celE.row xs).set (j * 3) (.string y.k)).set (j * 3 + 1) (.string y.v)).set (j * 3 + 2) (.slice y.a y.n y.c)
  | [], j, _, h => by simp at h
  | x :: r, 0, y, _ => rfl
  | x :: r, j + 1, y, h => by
    have e1 : (x :: r).set (j + 1) y = x :: r.set j y := rfl
    rw [e1, Elt.row, Elt.row, cel_put r j y (by simpa using h)]
    have e2 : celE.enc x = [.string x.k, .string x.v, .slice x.a x.n x.c] := rfl
    rw [e2, show (j + 1) * 3 + 2 = (j * 3 + 2) + 3 by omega, show (j + 1) * 3 + 1 = (j * 3 + 1) + 3 by omega, show (j + 1) * 3 = (j * 3) + 3 by omega]
    rfl
theorem turn_put3 (w : World) (g i : Nat) (x0 x1 x2 : Value) : Turn (fun b => b = g) w (put3 w g i x0 x1 x2) :=
  (((Turn.refl (fun b => b = g) w).setCell (p := ⟨g, i, none⟩) _ (fun _ => rfl)).setCell (p := ⟨g, i + 1, none⟩) _ (fun _ => rfl)).setCell (p := ⟨g, i + 2, none⟩) _ (fun _ => rfl)
theorem cown_put {w : World} {B g c : Nat} {xs : List Rw} (j : Nat) (y : Rw) (hj : j < xs.length) (h : w.ownsRow B TCT celE.sz (.slice (some ⟨g, 0, none⟩) xs.length c) xs.length (celE.row xs)) :
    (put3 w g (j * 3) (.string y.k) (.string y.v) (.slice y.a y.n y.c)).ownsRow B TCT celE.sz (.slice (some ⟨g, 0, none⟩) (xs.set j y).length c) (xs.set j y).length (celE.row (xs.set j y)) := by
  rw [List.length_set]
  refine ⟨by rw [Elt.row_len, List.length_set], ?_⟩
  rcases h.2 with ⟨h1, _⟩ | ⟨g', cap, cur, hv, hbg, hg, hnc, hcm, hcs, ht⟩
  · cases h1
  · simp only [Value.slice.injEq, Option.some.injEq, Addr.mk.injEq, and_true, true_and] at hv
    obtain ⟨rfl, rfl⟩ := hv
    have h1 := heap_setCell_same w g (j * 3) cur TCT (.string y.k) hg
    have h2 := heap_setCell_same _ g (j * 3 + 1) _ TCT (.string y.v) h1
    have h3 := heap_setCell_same _ g (j * 3 + 2) _ TCT (.slice y.a y.n y.c) h2
    refine .inr ⟨g, c, _, rfl, hbg, h3, hnc, hcm, by simpa using hcs, ?_⟩
    rw [cel_put xs j y hj, ← ht]
    simp [List.take_set]
def LFu (w : World) (gl B : Nat) (u : Value) (i : Nat) : Prop := LF w gl B i ∨ u.ownBlock = some i
theorem LFu.trans {w w1 w2 : World} {gl B : Nat} {u : Value} (h : Turn (LFu w gl B u) w w1) (k : Turn (LF w1 gl B) w1 w2) : Turn (LFu w gl B u) w w2 := h.step k (fun i hi hl => by
  rcases hi with rfl | ⟨hB, A, fz, h2⟩
  · exact .inl (.inl rfl)
  · by_cases hF : LFu w gl B u i
    · exact hF
    · exact .inl (.inr ⟨hB, A, fz, (h.block i hl hF).symm.trans h2⟩))
structure LvI (w W : World) (gl B B' : Nat) (u vn : Value) (cs : List En) (ps : List Nat) (ws : List PgW) (j k : Nat) : Prop where
  ly : LyI W gl B (ps.drop (cNs (cs.take j))) (ws ++ wrC (cs.take j) ps)
  oc : OC W B' u (layC (cs.take j) ps ++ cs.drop j)
  nm : W.ownsRow w.heap.size CT 4 vn k (cvs ((layC (cs.take k) ps).map cE))
  lt : Turn (LFu w gl B u) w W
  rs : W.heap[w.heap.size]? = some (.cells #[.int .i64 0, nilS, nilS, nilS] VT (0, 0))
theorem LvI.ext {w W W' : World} {gl B B' : Nat} {u vn : Value} {cs : List En} {ps : List Nat} {ws : List PgW} {j k : Nat} (h : LvI w W gl B B' u vn cs ps ws j k) (hb : Below W.heap.size W W') : LvI w W' gl B B' u vn cs ps ws j k :=
  ⟨h.ly.ext hb, h.oc.below hb (Nat.le_refl _), own_below h.nm hb (Nat.le_refl _), h.lt.trans (Turn.ofBelow hb), (hb.block _ (Array.getElem?_eq_some_iff.1 h.rs).1).trans h.rs⟩
section
variable {w W W' : World} {gl B B' : Nat} {u vn : Value} {cs : List En} {ps : List Nat} {ws : List PgW} {j k : Nat}
theorem lay_mid (cs : List En) (ps : List Nat) (j : Nat) (h : j < cs.length) : ea (layC (cs.take j) ps ++ cs.drop j) j = ea cs j ∧ (layC (cs.take j) ps ++ cs.drop j).length = cs.length := by
  have h1 : (layC (cs.take j) ps).length = j := by rw [layC_len, List.length_take]; omega
  constructor
  · have := ea_app_at (layC (cs.take j) ps) (cs.drop j) 0
    rw [h1] at this
    rw [show j + 0 = j from rfl] at this
    rw [this, ea_drop cs j h]; rfl
  · rw [List.length_append, h1, List.length_drop]; omega
theorem lay_set (cs : List En) (ps : List Nat) (j : Nat) (h : j < cs.length) : (layC (cs.take j) ps ++ cs.drop j).set j (layE (ea cs j) (ps.drop (cNs (cs.take j)))) = layC (cs.take (j + 1)) ps ++ cs.drop (j + 1) := by
  have h1 : (layC (cs.take j) ps).length = j := by rw [layC_len, List.length_take]; omega
  rw [layC_step cs ps j h, List.set_append_right _ _ (by omega), h1, Nat.sub_self, ea_drop cs j h]
  simp
theorem LvI.stay (h : LvI w W gl B B' u vn cs ps ws j k) (hj : j < cs.length) (hw : waitE (ea cs j) = false) : LvI w W gl B B' u vn cs ps ws (j + 1) k := by
  have e1 : cN (ea cs j) = 0 := by unfold cN; rw [hw]; rfl
  have e2 : wrE (ea cs j) (ps.drop (cNs (cs.take j))) = [] := by unfold wrE; rw [hw]; rfl
  have e3 : layE (ea cs j) (ps.drop (cNs (cs.take j))) = ea cs j := by unfold layE; rw [hw]; rfl
  refine ⟨?_, ?_, h.nm, h.lt, h.rs⟩
  · rw [cNs_step cs j hj, e1, wrC_step cs ps j hj, e2, List.append_nil]; exact h.ly
  · have h3 := lay_set cs ps j hj
    rw [e3] at h3
    have h4 := (lay_mid cs ps j hj)
    rw [← h3]
    have h5 := es_put (layC (cs.take j) ps ++ cs.drop j) j (by rw [h4.2]; exact hj)
    rw [h4.1] at h5
    rw [h5]; exact h.oc
theorem LvI.named (h : LvI w W gl B B' u vn cs ps ws j k) (hBw : B ≤ w.heap.size) {v' : Value} (hg : W.grownBy W' vn.ownBlock) (ho : W'.ownsRow w.heap.size CT 4 v' (k + 1) (cvs ((layC (cs.take (k + 1)) ps).map cE))) : LvI w W' gl B B' u v' cs ps ws j (k + 1) := by
  have t : Turn (fun i => vn.ownBlock = some i) W W' := ⟨hg.os, hg.tape, hg.output, hg.size, fun i hi hne => hg.block i hi (fun e => hne e.symm)⟩
  have hT := TyF.own h.nm
  refine ⟨h.ly.tz t (fun i hi => ⟨by have := (h.nm.lt i hi).1; omega, by
    obtain ⟨A, fz, h1⟩ := hT i hi
    exact ⟨A, CT, fz, h1, by decide, by decide⟩⟩), h.oc.tur t hT rfl (by decide), ho, h.lt.step t (fun i hi hl => by have := (h.nm.lt i hi).1; omega), t.hg h.rs (hT.not h.rs (by decide))⟩
set_option maxHeartbeats 400000 in
/-- A cell's value was laid. -/
theorem LvI.laid {gb n c0 t7 : Nat} {a' : Option Addr} {m' c' : Nat} {W3 : World} {x2 : Value} (h : LvI w W gl B B' (.slice (some ⟨gb, 0, none⟩) n c0) vn cs ps ws j k) (hBw : B ≤ w.heap.size) (hBB : B ≤ B') (hn : cs.length = n) (hj : j < n) (hw : waitE (ea cs j) = true)
    (h3 : LyI W3 gl B ((ps.drop (cNs (cs.take j))).drop (nP (ea cs j).v.size)) ((ws ++ wrC (cs.take j) ps) ++ (List.range (nP (ea cs j).v.size)).map (pcW (ea cs j).v (ps.drop (cNs (cs.take j))) (nP (ea cs j).v.size)))) (t : Turn (LF W gl B) W W3)
    (hev : EV pgE W3 (.slice a' m' c') ((ps.drop (cNs (cs.take j))).take (nP (ea cs j).v.size)).reverse)
    (h7 : W.heap[t7]? = some (.cells #[.string (ea cs j).k, .string (ea cs j).v, x2] TCT (0, 0))) (hw7 : w.heap.size ≤ t7) (hne : gb ≠ t7) :
    (W3.heap[t7]? = some (.cells #[.string (ea cs j).k, .string (ea cs j).v, x2] TCT (0, 0))) ∧
    ((W3.setCell ⟨t7, 2, none⟩ (.slice a' m' c')).heap[t7]? = some (.cells #[.string (ea cs j).k, .string (ea cs j).v, .slice a' m' c'] TCT (0, 0))) ∧
    ((W3.setCell ⟨t7, 2, none⟩ (.slice a' m' c')).cell? ⟨gb, j * 3, none⟩ = some (.string (ea cs j).k) ∧ (W3.setCell ⟨t7, 2, none⟩ (.slice a' m' c')).cell? ⟨gb, j * 3 + 1, none⟩ = some (.string (ea cs j).v) ∧ (∃ v, (W3.setCell ⟨t7, 2, none⟩ (.slice a' m' c')).cell? ⟨gb, j * 3 + 2, none⟩ = some v) ∧ ∀ i, (W3.setCell ⟨t7, 2, none⟩ (.slice a' m' c')).frozen? ⟨gb, i, none⟩ = false) ∧
    ((put3 (W3.setCell ⟨t7, 2, none⟩ (.slice a' m' c')) gb (j * 3) (.string (ea cs j).k) (.string (ea cs j).v) (.slice a' m' c')).heap[t7]? = some (.cells #[.string (ea cs j).k, .string (ea cs j).v, .slice a' m' c'] TCT (0, 0))) ∧
    EV pgE (put3 (W3.setCell ⟨t7, 2, none⟩ (.slice a' m' c')) gb (j * 3) (.string (ea cs j).k) (.string (ea cs j).v) (.slice a' m' c')) (.slice a' m' c') (layE (ea cs j) (ps.drop (cNs (cs.take j)))).ch ∧
    LvI w (put3 (W3.setCell ⟨t7, 2, none⟩ (.slice a' m' c')) gb (j * 3) (.string (ea cs j).k) (.string (ea cs j).v) (.slice a' m' c')) gl B B' (.slice (some ⟨gb, 0, none⟩) n c0) vn cs ps ws (j + 1) k := by
  have hjl : j < cs.length := by omega
  have e1 : cN (ea cs j) = nP (ea cs j).v.size := by unfold cN; rw [if_pos hw]
  have e2 : wrE (ea cs j) (ps.drop (cNs (cs.take j))) = (List.range (nP (ea cs j).v.size)).map (pcW (ea cs j).v (ps.drop (cNs (cs.take j))) (nP (ea cs j).v.size)) := by unfold wrE; rw [if_pos hw]
  have e3 : layE (ea cs j) (ps.drop (cNs (cs.take j))) = ⟨(ea cs j).k, (ea cs j).v, ((ps.drop (cNs (cs.take j))).take (nP (ea cs j).v.size)).reverse⟩ := by unfold layE; rw [if_pos hw]
  have e4 : cNs (cs.take (j + 1)) = cNs (cs.take j) + nP (ea cs j).v.size := by rw [cNs_step cs j hjl, e1]
  have e5 : wrC (cs.take (j + 1)) ps = wrC (cs.take j) ps ++ (List.range (nP (ea cs j).v.size)).map (pcW (ea cs j).v (ps.drop (cNs (cs.take j))) (nP (ea cs j).v.size)) := by rw [wrC_step cs ps j hjl, e2]
  have e6 := lay_set cs ps j hjl
  have e7 := lay_mid cs ps j hjl
  rw [e3] at e6 ⊢
  rw [List.drop_drop, ← e4, List.append_assoc, ← e5] at h3
  generalize ((ps.drop (cNs (cs.take j))).take (nP (ea cs j).v.size)).reverse = CH at *
  generalize ea cs j = e at *
  have g7 := h.ly.hg t h7
  have hoc3 := h.oc.lay h.ly t
  have hnm3 := h.ly.own t h.nm
  have hrs3 := h.ly.hg t h.rs
  have hlt3 := LFu.trans h.lt t
  have ht4 : Turn (fun i => i = t7) W3 (W3.setCell ⟨t7, 2, none⟩ (.slice a' m' c')) := (Turn.refl _ W3).setCell (p := ⟨t7, 2, none⟩) _ (fun _ => rfl)
  have hT4 : TyF W3 (fun i => i = t7) TCT := TyF.one g7
  have g74 : (W3.setCell ⟨t7, 2, none⟩ (.slice a' m' c')).heap[t7]? = some (.cells #[.string e.k, .string e.v, .slice a' m' c'] TCT (0, 0)) := by
    have := heap_setCell_same W3 t7 2 _ TCT (.slice a' m' c') g7
    simpa using this
  obtain ⟨ys, hown3, hrw3⟩ := hoc3
  have hyl := hrw3.len
  rw [e7.2, hn] at hyl
  have hown4 : (W3.setCell ⟨t7, 2, none⟩ (.slice a' m' c')).ownsRow B' TCT celE.sz (.slice (some ⟨gb, 0, none⟩) ys.length c0) ys.length (celE.row ys) := by
    have h1 : W3.ownsRow B' TCT celE.sz (.slice (some ⟨gb, 0, none⟩) ys.length c0) ys.length (celE.row ys) := by rw [hyl] at hown3 ⊢; exact hown3
    refine ⟨h1.1, ?_⟩
    rcases h1.2 with h2 | ⟨b, cap, cur, hv, hb, hgb, h2⟩
    · exact .inl h2
    · refine .inr ⟨b, cap, cur, hv, hb, ht4.hg hgb (fun e => ?_), h2⟩
      injection hv with hv _ _
      injection hv with hv
      injection hv with hv _ _
      exact hne (hv.trans e)
  have hrw4 : RW (W3.setCell ⟨t7, 2, none⟩ (.slice a' m' c')) ys _ := hrw3.tur ht4 hT4 rfl
  have hly4 := h3.tz ht4 (fun i hi => by
    obtain rfl : i = t7 := hi
    exact ⟨by omega, _, _, _, g7, by decide, by decide⟩)
  have hnm4 := own_tur hnm3 ht4 hT4 (by decide)
  have hrs4 := ht4.hg hrs3 (hT4.not hrs3 (by decide))
  have hlt4 := hlt3.step ht4 (fun i hi hl => by
    obtain rfl : i = t7 := hi
    omega)
  have hev4 := hev.tur ht4 hT4 rfl
  obtain ⟨⟨r0, r1, r2⟩, hfz, hBg, A, hgA⟩ := cown_at j (by omega) hown4
  obtain ⟨y1, y2, y3⟩ := hrw4.at (i := j) (by omega)
  rw [e7.1] at y1 y2
  have y1' : (xa ys j).k = e.k := y1
  have y2' : (xa ys j).v = e.v := y2
  rw [y1'] at r0
  rw [y2'] at r1
  refine ⟨g7, g74, ⟨r0, r1, ⟨_, r2⟩, hfz⟩, ?_⟩
  have hown5 := cown_put j ⟨e.k, e.v, a', m', c'⟩ (by omega) hown4
  have ht5 := turn_put3 (W3.setCell ⟨t7, 2, none⟩ (.slice a' m' c')) gb (j * 3) (.string e.k) (.string e.v) (.slice a' m' c')
  have hT5 : TyF (W3.setCell ⟨t7, 2, none⟩ (.slice a' m' c')) (fun i => i = gb) TCT := TyF.one hgA
  dsimp only at hown5
  generalize put3 (W3.setCell ⟨t7, 2, none⟩ (.slice a' m' c')) gb (j * 3) (.string e.k) (.string e.v) (.slice a' m' c') = W5 at *
  generalize W3.setCell ⟨t7, 2, none⟩ (.slice a' m' c') = W4 at *
  have hev5 := hev4.tur ht5 hT5 rfl
  refine ⟨ht5.hg g74 (fun e => hne e.symm), hev5, ⟨?_, ?_, own_tur hnm4 ht5 hT5 (by decide), ?_, ht5.hg hrs4 (hT5.not hrs4 (by decide))⟩⟩
  · refine hly4.tz ht5 (fun i hi => ?_)
    obtain rfl : i = gb := hi
    exact ⟨by omega, _, _, _, hgA, by decide, by decide⟩
  · rw [← e6]
    refine ⟨_, ?_, (hrw4.tur ht5 hT5 rfl).put (i := j) (y := ⟨e.k, e.v, a', m', c'⟩) ⟨rfl, rfl, hev5⟩ (by omega)⟩
    rw [List.length_set, hyl] at hown5 ⊢
    exact hown5
  · exact hlt4.step ht5 (fun i hi hl => by
      obtain rfl : i = gb := hi
      exact .inr rfl)
end
end Go.Proofs.YtdgladhfibfdlaaGreatDoor
