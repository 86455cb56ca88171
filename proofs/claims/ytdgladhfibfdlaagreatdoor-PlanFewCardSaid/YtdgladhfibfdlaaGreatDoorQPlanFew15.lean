/-
  What the law PlanFew stands on.
-/
import Derived.Test.YtdgladhfibfdlaaGreatDoorQPlanFew14
import Derived.Test.YtdgladhfibfdlaaGreatDoorQPlanFew10
import Derived.Test.YtdgladhfibfdlaaGreatDoorQPlanFew08
import Derived.Test.YtdgladhfibfdlaaGreatDoorQPlanFew06
import Derived.WalkKit
import Derived.Below
import Derived.Lib.Hide
import Derived.Shelf.GgClosure.Gives
import Derived.Test.YtdgladhfibfdlaaGreatDoorProg
import Derived.Deep.LoopGhost
import Derived.Test.YtdgladhfibfdlaaGreatDoorQPlanFew03
import Derived.OwnWalk
import Derived.Laws.CopyOwn
import Derived.Outline
import Derived.Lib.Zigzag
import Derived.Test.YtdgladhfibfdlaaGreatDoorQPlanFew01
import Derived.Test.YtdgladhfibfdlaaGreatDoorQPlanFew05
import Derived.Lib.SliceRun
namespace Go.Proofs.YtdgladhfibfdlaaGreatDoor
open Go Go.RowKit
def chL : List En → List Nat
  | [] => []
  | e :: r => e.ch ++ chL r
theorem chL_app : ∀ (a b : List En), chL (a ++ b) = chL a ++ chL b
  | [], _ => rfl
  | e :: r, b => by rw [List.cons_append, chL, chL, chL_app r b, List.append_assoc]
def cU (p : Nat) (t : Tr) : Nat := t.pgs.count p + (chL t.es).count p
def cUL (p : Nat) (ts : List Tr) : Nat := (pgsL ts).count p + (chL (esL ts)).count p
theorem cUL_cons (p : Nat) (t : Tr) (r : List Tr) : cUL p (t :: r) = cU p t + cUL p r := by
  unfold cUL cU
  rw [pgsL, esL, chL_app, List.count_append, List.count_append]; omega
theorem cUL_nil (p : Nat) : cUL p [] = 0 := by unfold cUL; simp [pgsL, esL, chL]
theorem cU_bran (p pg : Nat) (ks : List ByteArray) (ts : List Tr) : cU p (.bran pg ks ts) = (if pg = 0 then 0 else [pg].count p) + cUL p ts := by
  unfold cU cUL
  simp only [Tr.pgs, Tr.es]
  rw [List.count_append]
  by_cases h : pg = 0
  · simp [h]
  · simp only [if_neg h]; omega
theorem cU_leaf (p pg : Nat) (cs : List En) : cU p (.leaf pg cs) = (if pg = 0 then 0 else [pg].count p) + (chL cs).count p := by
  unfold cU
  simp only [Tr.pgs, Tr.es]
  by_cases h : pg = 0
  · simp [h]
  · simp only [if_neg h]
def waitE (e : En) : Bool := decide (64 < e.v.size) && decide (e.ch.length = 0)
def cN (e : En) : Nat := if waitE e = true then nP e.v.size else 0
def cNs : List En → Nat
  | [] => 0
  | e :: r => cN e + cNs r
mutual
def Tr.need : Tr → Nat
  | .leaf pg cs => if pg = 0 then cNs cs + 1 else 0
  | .bran pg _ ts => if pg = 0 then needL ts + 1 else 0
def needL : List Tr → Nat
  | [] => 0
  | t :: r => t.need + needL r
end
def cE (e : En) : Ce := if 64 < e.v.size then ⟨e.k, ByteArray.empty, (e.v.size : Int), ((na e.ch 0 : Nat) : Int)⟩ else ⟨e.k, e.v, (e.v.size : Int), 0⟩
def pgI (t : Tr) : Int := ((t.pg : Nat) : Int)
def layE (e : En) (ps : List Nat) : En := if waitE e = true then ⟨e.k, e.v, (ps.take (nP e.v.size)).reverse⟩ else e
def layC : List En → List Nat → List En
  | [], _ => []
  | e :: r, ps => layE e ps :: layC r (ps.drop (cN e))
mutual
def layT : Tr → List Nat → Tr
  | .leaf pg cs, ps => if pg = 0 then .leaf (na ps (cNs cs)) (layC cs ps) else .leaf pg cs
  | .bran pg ks ts, ps => if pg = 0 then .bran (na ps (needL ts)) ks (layL ts ps) else .bran pg ks ts
def layL : List Tr → List Nat → List Tr
  | [], _ => []
  | t :: r, ps => layT t ps :: layL r (ps.drop t.need)
end
abbrev PgW := Nat × List Nat
def pcW (v : ByteArray) (ps : List Nat) (n j : Nat) : PgW := (na ps j, pageL 3 (beL (if j = 0 then 0 else na ps (j - 1)) 2 ++ bn (cutS v (n - 1 - j))))
def wrE (e : En) (ps : List Nat) : List PgW := if waitE e = true then (List.range (nP e.v.size)).map (pcW e.v ps (nP e.v.size)) else []
def wrC : List En → List Nat → List PgW
  | [], _ => []
  | e :: r, ps => wrE e ps ++ wrC r (ps.drop (cN e))
mutual
def wrT : Tr → List Nat → List PgW
  | .leaf pg cs, ps => if pg = 0 then wrC cs ps ++ [(na ps (cNs cs), pageL 1 (loadS ((layC cs ps).map cE)))] else []
  | .bran pg ks ts, ps => if pg = 0 then wrL ts ps ++ [(na ps (needL ts), pageL 2 (forkS ks ((layL ts ps).map pgI)))] else []
def wrL : List Tr → List Nat → List PgW
  | [], _ => []
  | t :: r, ps => wrT t ps ++ wrL r (ps.drop t.need)
end
theorem na_drop (ps : List Nat) (a i : Nat) : na (ps.drop a) i = na ps (a + i) := by
  unfold na; simp [List.getD]
theorem na_mem {ps : List Nat} {i : Nat} (h : i < ps.length) : na ps i ∈ ps := by
  unfold na; simp [List.getD, h]
theorem take_na (ps : List Nat) (k : Nat) (h : k < ps.length) : ps.take (k + 1) = ps.take k ++ [na ps k] := by
  rw [List.take_succ_eq_append_getElem h]; simp [na, List.getD, h]
theorem take_map_na (ps : List Nat) : ∀ n, n ≤ ps.length → (List.range n).map (na ps) = ps.take n
  | 0, _ => by simp
  | n + 1, h => by rw [List.range_succ, List.map_append, take_map_na ps n (by omega), take_na ps n (by omega)]; rfl
theorem wrE_fst (e : En) (ps : List Nat) (h : cN e ≤ ps.length) : (wrE e ps).map Prod.fst = ps.take (cN e) := by
  unfold wrE
  unfold cN at h ⊢
  by_cases h1 : waitE e = true
  · rw [if_pos h1] at h
    rw [if_pos h1, if_pos h1, List.map_map, ← take_map_na ps _ h]; rfl
  · rw [if_neg h1, if_neg h1]; simp
theorem wrC_fst : ∀ (cs : List En) (ps : List Nat), cNs cs ≤ ps.length → (wrC cs ps).map Prod.fst = ps.take (cNs cs)
  | [], ps, _ => by simp [wrC, cNs]
  | e :: r, ps, h => by
    rw [cNs] at h ⊢
    rw [wrC, List.map_append, wrE_fst e ps (by omega), wrC_fst r _ (by rw [List.length_drop]; omega), List.take_add]
mutual
theorem wrT_fst : ∀ (t : Tr) (ps : List Nat), t.need ≤ ps.length → (wrT t ps).map Prod.fst = ps.take t.need
  | .leaf pg cs, ps, h => by
    rw [Tr.need] at h ⊢
    rw [wrT]
    by_cases h1 : pg = 0
    · rw [if_pos h1] at h ⊢
      rw [if_pos h1, List.map_append, wrC_fst cs ps (by omega), take_na ps _ (by omega)]; rfl
    · rw [if_neg h1, if_neg h1]; simp
  | .bran pg ks ts, ps, h => by
    rw [Tr.need] at h ⊢
    rw [wrT]
    by_cases h1 : pg = 0
    · rw [if_pos h1] at h ⊢
      rw [if_pos h1, List.map_append, wrL_fst ts ps (by omega), take_na ps _ (by omega)]; rfl
    · rw [if_neg h1, if_neg h1]; simp
theorem wrL_fst : ∀ (ts : List Tr) (ps : List Nat), needL ts ≤ ps.length → (wrL ts ps).map Prod.fst = ps.take (needL ts)
  | [], ps, _ => by simp [wrL, needL]
  | t :: r, ps, h => by
    rw [needL] at h ⊢
    rw [wrL, List.map_append, wrT_fst t ps (by omega), wrL_fst r _ (by rw [List.length_drop]; omega), List.take_add]
end
theorem layE_bare (e : En) (ps : List Nat) : (layE e ps).bare = e.bare := by
  unfold layE; split <;> rfl
theorem layC_bare : ∀ (cs : List En) (ps : List Nat), bare (layC cs ps) = bare cs
  | [], _ => rfl
  | e :: r, ps => by
    have e1 : bare (layC (e :: r) ps) = (layE e ps).bare :: bare (layC r (ps.drop (cN e))) := rfl
    have e2 : bare (e :: r) = e.bare :: bare r := rfl
    rw [e1, e2, layE_bare, layC_bare r]
mutual
theorem layT_bare : ∀ (t : Tr) (ps : List Nat), bare (layT t ps).es = bare t.es
  | .leaf pg cs, ps => by
    rw [layT]
    by_cases h1 : pg = 0
    · rw [if_pos h1, Tr.es, Tr.es, layC_bare]
    · rw [if_neg h1]
  | .bran pg ks ts, ps => by
    rw [layT]
    by_cases h1 : pg = 0
    · rw [if_pos h1, Tr.es, Tr.es, layL_bare]
    · rw [if_neg h1]
theorem layL_bare : ∀ (ts : List Tr) (ps : List Nat), bare (esL (layL ts ps)) = bare (esL ts)
  | [], _ => by rw [layL]
  | t :: r, ps => by rw [layL, esL, esL, bare_app, bare_app, layT_bare t, layL_bare r]
end
theorem leafSz_bare (es : List En) : leafSz (bare es) = leafSz es := by
  unfold leafSz szs
  rw [bare_len]
  unfold bare
  rw [List.map_map]; rfl
theorem layT_sz (t : Tr) (ps : List Nat) : (layT t ps).sz = t.sz := by
  cases t with
  | leaf pg cs =>
    rw [layT]
    by_cases h1 : pg = 0
    · rw [if_pos h1, Tr.sz, Tr.sz, ← leafSz_bare, layC_bare, leafSz_bare]
    · rw [if_neg h1]
  | bran pg ks ts =>
    rw [layT]
    by_cases h1 : pg = 0
    · rw [if_pos h1]; rfl
    · rw [if_neg h1]
theorem layL_len : ∀ (ts : List Tr) (ps : List Nat), (layL ts ps).length = ts.length
  | [], _ => by rw [layL]
  | t :: r, ps => by rw [layL, List.length_cons, List.length_cons, layL_len r]
theorem layC_len : ∀ (cs : List En) (ps : List Nat), (layC cs ps).length = cs.length
  | [], _ => rfl
  | e :: r, ps => by rw [layC, List.length_cons, List.length_cons, layC_len r]
theorem layC_cnt (p : Nat) : ∀ (cs : List En) (ps : List Nat), cNs cs ≤ ps.length → (chL (layC cs ps)).count p = (chL cs).count p + (ps.take (cNs cs)).count p
  | [], ps, _ => by simp [layC, chL, cNs]
  | e :: r, ps, h => by
    rw [cNs] at h ⊢
    rw [layC, chL, chL, List.count_append, List.count_append, layC_cnt p r _ (by rw [List.length_drop]; omega), List.take_add, List.count_append]
    have : (layE e ps).ch.count p = e.ch.count p + (ps.take (cN e)).count p := by
      unfold layE cN
      by_cases h1 : waitE e = true
      · rw [if_pos h1, if_pos h1]
        have h2 : e.ch = [] := by
          unfold waitE at h1
          simp only [Bool.and_eq_true, decide_eq_true_iff] at h1
          exact List.eq_nil_of_length_eq_zero h1.2
        simp [h2]
      · rw [if_neg h1, if_neg h1]; simp
    omega
mutual
theorem layT_cnt (p : Nat) : ∀ (t : Tr) (ps : List Nat), t.need ≤ ps.length → (∀ x ∈ ps, x ≠ 0) → cU p (layT t ps) = cU p t + (ps.take t.need).count p
  | .leaf pg cs, ps, h, hz => by
    rw [Tr.need] at h ⊢
    rw [layT]
    by_cases h1 : pg = 0
    · rw [if_pos h1] at h ⊢
      have h2 : na ps (cNs cs) ≠ 0 := hz _ (na_mem (by omega))
      rw [if_pos h1, cU_leaf, cU_leaf, if_neg h2, if_pos h1, layC_cnt p cs ps (by omega), take_na ps _ (by omega), List.count_append]; omega
    · rw [if_neg h1, if_neg h1]; simp
  | .bran pg ks ts, ps, h, hz => by
    rw [Tr.need] at h ⊢
    rw [layT]
    by_cases h1 : pg = 0
    · rw [if_pos h1] at h ⊢
      have h2 : na ps (needL ts) ≠ 0 := hz _ (na_mem (by omega))
      rw [if_pos h1, cU_bran, cU_bran, if_neg h2, if_pos h1, layL_cnt p ts ps (by omega) hz, take_na ps _ (by omega), List.count_append]; omega
    · rw [if_neg h1, if_neg h1]; simp
theorem layL_cnt (p : Nat) : ∀ (ts : List Tr) (ps : List Nat), needL ts ≤ ps.length → (∀ x ∈ ps, x ≠ 0) → cUL p (layL ts ps) = cUL p ts + (ps.take (needL ts)).count p
  | [], ps, _, _ => by simp [layL, needL, cUL_nil]
  | t :: r, ps, h, hz => by
    rw [needL] at h ⊢
    rw [layL, cUL_cons, cUL_cons, layT_cnt p t ps (by omega) hz, layL_cnt p r _ (by rw [List.length_drop]; omega) (fun x hx => hz x (List.mem_of_mem_drop hx)), List.take_add, List.count_append]; omega
end
section
variable (P : Nat → List Nat)
def ChH (v : ByteArray) (ch : List Nat) : Prop := ch.length = nP v.size ∧ ∀ i, i < ch.length → P (na ch i) = pageL 3 (beL (na ch (i + 1)) 2 ++ bn (cutS v i))
def CeO (e : En) : Prop := e.ch = [] ∨ (64 < e.v.size ∧ ChH P e.v e.ch)
def CeL (e : En) : Prop := (e.v.size ≤ 64 ∧ e.ch = []) ∨ (64 < e.v.size ∧ ChH P e.v e.ch)
def QH : Tr → Prop
  | .leaf pg es => P pg = pageL 1 (loadS (es.map cE)) ∧ ∀ e ∈ es, 64 < e.v.size → e.ch ≠ []
  | .bran pg ks ts => P pg = pageL 2 (forkS ks (ts.map pgI)) ∧ ∀ t ∈ ts, t.pg ≠ 0
theorem CeO.lies {e : En} (h : CeO P e) (h1 : 64 < e.v.size → e.ch ≠ []) : CeL P e := by
  rcases h with h | h
  · refine .inl ⟨?_, h⟩
    rcases Nat.lt_or_ge 64 e.v.size with h2 | h2
    · exact absurd h (h1 h2)
    · exact h2
  · exact .inr h
theorem CeL.o {e : En} (h : CeL P e) : CeO P e := by
  rcases h with h | h
  · exact .inl h.2
  · exact .inr h
mutual
/-- Of a tree that lies all long values lie. -/
theorem on_cells : ∀ (t : Tr), t.on (QH P) → t.pg ≠ 0 → ∀ e ∈ t.es, 64 < e.v.size → e.ch ≠ []
  | .leaf pg cs, h, h0 => by
    rw [Tr.on] at h
    rw [Tr.es]
    exact (h h0).2
  | .bran pg ks ts, h, h0 => by
    rw [Tr.on] at h
    rw [Tr.es]
    exact on_cellsL ts h.2 (h.1 h0).2
theorem on_cellsL : ∀ (ts : List Tr), onL (QH P) ts → (∀ t ∈ ts, t.pg ≠ 0) → ∀ e ∈ esL ts, 64 < e.v.size → e.ch ≠ []
  | [], _, _ => by rw [esL]; intro e he; cases he
  | t :: r, h, h0 => by
    rw [onL] at h
    rw [esL]
    intro e he
    rcases List.mem_append.1 he with he | he
    · exact on_cells t h.1 (h0 t (by simp)) e he
    · exact on_cellsL r h.2 (fun u hu => h0 u (by simp [hu])) e he
end
theorem na_rev {ps : List Nat} {n i : Nat} (hn : n ≤ ps.length) (hi : i < n) : na (ps.take n).reverse i = na ps (n - 1 - i) := by
  have hl : (ps.take n).length = n := by rw [List.length_take]; omega
  have h2 : i < (ps.take n).reverse.length := by rw [List.length_reverse, hl]; exact hi
  unfold na
  rw [List.getD_eq_getElem?_getD, List.getElem?_eq_getElem h2, List.getElem_reverse, List.getElem_take, List.getD_eq_getElem?_getD, List.getElem?_eq_getElem (by omega)]
  simp only [hl]
theorem na_over {ps : List Nat} {i : Nat} (h : ps.length ≤ i) : na ps i = 0 := by
  unfold na
  rw [List.getD_eq_getElem?_getD, List.getElem?_eq_none h]; rfl
theorem layE_lies (e : En) (ps : List Nat) (hl : cN e ≤ ps.length) (hw : ∀ x ∈ wrE e ps, P x.1 = x.2) (ho : CeO P e) : CeL P (layE e ps) := by
  unfold layE
  by_cases h1 : waitE e = true
  · have h2 := h1
    unfold waitE at h2
    simp only [Bool.and_eq_true, decide_eq_true_iff] at h2
    unfold cN at hl
    unfold wrE at hw
    rw [if_pos h1] at hl hw
    rw [if_pos h1]
    obtain ⟨n, hn⟩ : ∃ n, nP e.v.size = n := ⟨_, rfl⟩
    rw [hn] at hl hw ⊢
    have hlen : (ps.take n).reverse.length = n := by rw [List.length_reverse, List.length_take]; omega
    refine .inr ⟨h2.1, ?_, fun i hi => ?_⟩
    · simp only; rw [hlen, hn]
    · simp only at hi ⊢
      rw [hlen] at hi
      have h3 := hw (pcW e.v ps n (n - 1 - i)) (List.mem_map.2 ⟨n - 1 - i, List.mem_range.2 (by omega), rfl⟩)
      simp only [pcW] at h3
      rw [na_rev hl hi, h3]
      have e1 : n - 1 - (n - 1 - i) = i := by omega
      rw [e1]
      by_cases h4 : i + 1 < n
      · rw [na_rev hl h4, if_neg (by omega)]
        have e2 : n - 1 - i - 1 = n - 1 - (i + 1) := by omega
        rw [e2]
      · rw [if_pos (by omega), na_over (ps := (ps.take n).reverse) (i := i + 1) (by rw [hlen]; omega)]
  · rw [if_neg h1]
    refine ho.lies P (fun h2 h3 => h1 ?_)
    unfold waitE
    simp [h2, h3]
theorem layC_lies : ∀ (cs : List En) (ps : List Nat), cNs cs ≤ ps.length → (∀ x ∈ wrC cs ps, P x.1 = x.2) → (∀ e ∈ cs, CeO P e) → ∀ e ∈ layC cs ps, CeL P e
  | [], _, _, _, _, e, he => by cases he
  | c :: r, ps, hl, hw, ho, e, he => by
    rw [cNs] at hl
    rw [wrC] at hw
    rw [layC] at he
    rcases List.mem_cons.1 he with rfl | he
    · exact layE_lies P c ps (by omega) (fun x hx => hw x (List.mem_append_left _ hx)) (ho c (by simp))
    · exact layC_lies r _ (by rw [List.length_drop]; omega) (fun x hx => hw x (List.mem_append_right _ hx)) (fun e he => ho e (by simp [he])) e he
mutual
/-- What was laid lies. -/
theorem layT_lies : ∀ (t : Tr) (ps : List Nat), t.need ≤ ps.length → (∀ x ∈ ps, x ≠ 0) → (∀ x ∈ wrT t ps, P x.1 = x.2) → t.on (QH P) → (∀ e ∈ t.es, CeO P e) → (layT t ps).on (QH P) ∧ (layT t ps).pg ≠ 0 ∧ ∀ e ∈ (layT t ps).es, CeL P e
  | .leaf pg cs, ps, hl, hz, hw, hq, ho => by
    rw [Tr.need] at hl
    rw [wrT] at hw
    rw [layT]
    rw [Tr.es] at ho
    by_cases h1 : pg = 0
    · rw [if_pos h1] at hl hw ⊢
      have h3 := layC_lies P cs ps (by omega) (fun x hx => hw x (List.mem_append_left _ hx)) ho
      refine ⟨?_, hz _ (na_mem (by omega)), by rw [Tr.es]; exact h3⟩
      rw [Tr.on]
      intro _
      refine ⟨hw _ (List.mem_append_right _ (List.mem_singleton.2 rfl)), fun e he h4 h5 => ?_⟩
      rcases h3 e he with ⟨h6, _⟩ | ⟨_, h6, _⟩
      · omega
      · rw [h5] at h6
        have : 0 < nP e.v.size := nP_lt.2 (by omega)
        simp at h6; omega
    · rw [if_neg h1]
      refine ⟨hq, h1, fun e he => ?_⟩
      have h2 := on_cells P (.leaf pg cs) hq h1 e he
      rw [Tr.es] at he
      exact (ho e he).lies P h2
  | .bran pg ks ts, ps, hl, hz, hw, hq, ho => by
    rw [Tr.need] at hl
    rw [wrT] at hw
    rw [layT]
    by_cases h1 : pg = 0
    · rw [if_pos h1] at hl hw ⊢
      rw [Tr.es] at ho
      have hq2 := hq
      rw [Tr.on] at hq2
      obtain ⟨h3, h4, h5⟩ := layL_lies ts ps (by omega) hz (fun x hx => hw x (List.mem_append_left _ hx)) hq2.2 ho
      refine ⟨?_, hz _ (na_mem (by omega)), by rw [Tr.es]; exact h5⟩
      rw [Tr.on]
      exact ⟨fun _ => ⟨hw _ (List.mem_append_right _ (List.mem_singleton.2 rfl)), h4⟩, h3⟩
    · rw [if_neg h1]
      exact ⟨hq, h1, fun e he => (ho e he).lies P (on_cells P _ hq h1 e he)⟩
theorem layL_lies : ∀ (ts : List Tr) (ps : List Nat), needL ts ≤ ps.length → (∀ x ∈ ps, x ≠ 0) → (∀ x ∈ wrL ts ps, P x.1 = x.2) → onL (QH P) ts → (∀ e ∈ esL ts, CeO P e) → onL (QH P) (layL ts ps) ∧ (∀ t ∈ layL ts ps, t.pg ≠ 0) ∧ ∀ e ∈ esL (layL ts ps), CeL P e
  | [], _, _, _, _, _, _ => by
    rw [layL, onL, esL]
    exact ⟨trivial, fun t ht => (by cases ht), fun e he => (by cases he)⟩
  | t :: r, ps, hl, hz, hw, hq, ho => by
    rw [needL] at hl
    rw [wrL] at hw
    rw [onL] at hq
    rw [esL] at ho
    rw [layL, onL, esL]
    obtain ⟨a1, a2, a3⟩ := layT_lies t ps (by omega) hz (fun x hx => hw x (List.mem_append_left _ hx)) hq.1 (fun e he => ho e (List.mem_append_left _ he))
    obtain ⟨b1, b2, b3⟩ := layL_lies r (ps.drop t.need) (by rw [List.length_drop]; omega) (fun x hx => hz x (List.mem_of_mem_drop hx)) (fun x hx => hw x (List.mem_append_right _ hx)) hq.2 (fun e he => ho e (List.mem_append_right _ he))
    refine ⟨⟨a1, b1⟩, fun u hu => ?_, fun e he => ?_⟩
    · rcases List.mem_cons.1 hu with rfl | hu
      · exact a2
      · exact b2 u hu
    · rcases List.mem_append.1 he with he | he
      · exact a3 e he
      · exact b3 e he
end
end
theorem need_lies (t : Tr) (h : t.pg ≠ 0) : t.need = 0 := by
  cases t with
  | leaf pg cs =>
    have h' : ¬ pg = 0 := h
    rw [Tr.need, if_neg h']
  | bran pg ks ts =>
    have h' : ¬ pg = 0 := h
    rw [Tr.need, if_neg h']
theorem lay_lies (t : Tr) (ps : List Nat) (h : t.pg ≠ 0) : layT t ps = t ∧ wrT t ps = [] := by
  cases t with
  | leaf pg cs =>
    have h' : ¬ pg = 0 := h
    rw [layT, wrT, if_neg h', if_neg h']; exact ⟨rfl, rfl⟩
  | bran pg ks ts =>
    have h' : ¬ pg = 0 := h
    rw [layT, wrT, if_neg h', if_neg h']; exact ⟨rfl, rfl⟩
end Go.Proofs.YtdgladhfibfdlaaGreatDoor
namespace Go.Proofs.YtdgladhfibfdlaaGreatDoor
open Go Go.RowKit Go.Shelf
theorem bgt_eq (a b : ByteArray) : (!Op.bytesLess a.toList b.toList && !a.toList == b.toList) = blt b a := by
  rw [← Bool.not_or, ble_eq, Bool.not_not]
abbrev STS : TypeId := 92
set_option maxRecDepth 100000 in
theorem way1_any (w : World) (b1 b2 h : Nat) (a : Option Addr) (n c : Nat) (ks : List ByteArray) (key : ByteArray) (h1 : w.cell? ⟨b1, 0, none⟩ = some (.slice a n c)) (h2 : w.cell? ⟨b2, 0, none⟩ = some (.string key)) (hn : ks.length = n) (hs : TxS w a ks) (hh : h < n) :
    Calls Tryz.prog 116 #[.int .i64 h, .pointer (some ⟨b1, 0, none⟩), .pointer (some ⟨b2, 0, none⟩)] w fun e w' => e = .returned (.bool (blt key (sa ks h))) ∧ Below w.heap.size w w' := by
  obtain ⟨g, o, rfl, hcell⟩ := hs (by omega)
  have hA := hcell h (by omega)
  have q0 : ∀ w', Ext w.drew w' → w'.cell? ⟨g, o + h, none⟩ = some (.string (sa ks h)) := fun w' hw => by
    rw [((Below.refl w.heap.size w).drew.trans hw).cell (p := ⟨g, o + h, none⟩) (block_lt_of_cell hA)]; exact hA
  have l1 := block_lt_of_cell h1
  have l2 := block_lt_of_cell h2
  have q1 : ∀ w', Ext w.drew w' → w'.cell? ⟨b1, 0, none⟩ = some (.slice (some ⟨g, o, none⟩) n c) := fun w' hw => by
    rw [((Below.refl w.heap.size w).drew.trans hw).cell (p := ⟨b1, 0, none⟩) l1]; exact h1
  have q2 : ∀ w', Ext w.drew w' → w'.cell? ⟨b2, 0, none⟩ = some (.string key) := fun w' hw => by
    rw [((Below.refl w.heap.size w).drew.trans hw).cell (p := ⟨b2, 0, none⟩) l2]; exact h2
  have hle := bgt_eq (sa ks h) key
  generalize blt key (sa ks h) = D at *
  clear hcell hA hs h1 h2 hn
  go_enter Tryz.func116, Tryz.ntmps116
  go_wp2_with fail
  refine wp_region_gr [(0, true), (1, true), (2, true), (3, true), (4, true), (5, true), (6, true)] (by kernel_rfl) (by kernel_rfl) (by kernel_rfl) (by kernel_rfl) (fun _ _ _ _ _ h => h) ?_
  iterate 7 (refine wpGr_read (o := ⟨_, _, _, _, _, _⟩) (v := ?_) rfl (by rfl) ?_ ?_; rotate_left; (intro w' hw'; go_simp; with_reducible rfl); simp only [Act.put, List.setIfInBounds_toArray, List.set_cons_zero, List.set_cons_succ])
  refine wpGr_done ?_
  go_wp2_with fail
  go_ret
  exact ⟨rfl, (Below.refl _ _).drew⟩
set_option maxRecDepth 100000 in
theorem waySearch_any (w : World) (b1 b2 : Nat) (a : Option Addr) (n c : Nat) (ks : List ByteArray) (key : ByteArray) (h1 : w.cell? ⟨b1, 0, none⟩ = some (.slice a n c)) (h2 : w.cell? ⟨b2, 0, none⟩ = some (.string key)) (hn : ks.length = n) (hs : TxS w a ks) (ha : keysF ks) (hl : n ≤ 65536) :
    Calls Tryz.prog 115 #[.int .i64 n, .func (.func 116) #[] #[.pointer (some ⟨b1, 0, none⟩), .pointer (some ⟨b2, 0, none⟩)]] w fun e w' => e = .returned (.int .i64 (wayS ks key : Nat)) ∧ Below w.heap.size w w' := by
  have eg : ∀ args w, (callFunc 116 args).run Tryz.prog w = .ok (.enter 116 args) w := enters_of Tryz.func116 (by kernel_rfl) rfl
  have hcall : ∀ (w' : World) (h : Nat), h < n → Below w.heap.size w w' → Calls Tryz.prog 116 #[.int .i64 h, .pointer (some ⟨b1, 0, none⟩), .pointer (some ⟨b2, 0, none⟩)] w' fun e w'' => e = .returned (.bool (blt key (sa ks h))) ∧ Below w'.heap.size w' w'' := fun w' h hh hb =>
    way1_any w' b1 b2 h a n c ks key (by rw [hb.cell (p := ⟨b1, 0, none⟩) (block_lt_of_cell h1)]; exact h1) (by rw [hb.cell (p := ⟨b2, 0, none⟩) (block_lt_of_cell h2)]; exact h2) hn (hs.below hb (Nat.le_refl _)) hh
  have Hcall := Lib.hid hcall
  have hyes : ∀ h, h < n → blt key (sa ks h) = false → h < wayS ks key := fun h hh hb => by
    rcases Nat.lt_or_ge h (wayS ks key) with h3 | h3
    · exact h3
    · rw [wayS_ge ha key h h3 (by omega)] at hb; cases hb
  have hno : ∀ h, h < n → blt key (sa ks h) = true → wayS ks key ≤ h := fun h hh hb => by
    rcases Nat.lt_or_ge h (wayS ks key) with h3 | h3
    · rw [wayS_lt ks key h h3] at hb; cases hb
    · exact h3
  have Hyes := Lib.hid (And.intro hyes hno)
  have hF : wayS ks key ≤ n := by have := wayS_le ks key; omega
  clear hcall hyes hno h1 h2 hn hs ha
  generalize wayS ks key = F at *
  go_enter Tryz.func115, Tryz.ntmps115
  go_wp2_with fail
  go_loopw [5, 6] (fun i j wr => ∃ x y : Nat, i = .int .i64 x ∧ j = .int .i64 y ∧ x ≤ y ∧ y ≤ n ∧ x ≤ F ∧ F ≤ y ∧ Hid (Below w.heap.size w wr)) (fun i j _ => (intOf j - intOf i).toNat)
  case atStart => exact ⟨0, n, rfl, rfl, by omega, by omega, by omega, by omega, Below.refl _ _⟩
  case round =>
    obtain ⟨x, y, rfl, rfl, hxy, hyn, hx, hy, hB⟩ := hrel
    by_cases hlt : x < y
    · obtain ⟨H, hH⟩ : ∃ H, H = (x + y) / 2 := ⟨_, rfl⟩
      have e1 : ((x : Int) + (y : Int)) / 2 = (H : Int) := by omega
      have z1 : x ≤ H := by omega
      have z2 : H < y := by omega
      have hc := Lib.hid (Hcall.out wr H (by omega) hB.out)
      have hs := Hyes.out.1 H (by omega)
      have hs2 := Hyes.out.2 H (by omega)
      clear hH
      generalize blt key (sa ks H) = D at *
      cases D with
      | false =>
        have hs' := hs rfl
        clear hs hs2
        go_wp2_with (go_at_fn 116; refine hc.out.mono ?_; rintro e w' ⟨rfl, hb⟩)
        have hB2 := Lib.hid (hB.out.trans (hb.mono hB.out.size))
        clear hb
        go_roundw
        case rel => exact ⟨H + 1, y, by go_num, rfl, by omega, by omega, by omega, by omega, hB2⟩
        case measure => simp [intOf]; omega
      | true =>
        have hs' := hs2 rfl
        clear hs hs2
        go_wp2_with (go_at_fn 116; refine hc.out.mono ?_; rintro e w' ⟨rfl, hb⟩)
        have hB2 := Lib.hid (hB.out.trans (hb.mono hB.out.size))
        clear hb
        go_roundw
        case rel => exact ⟨x, H, rfl, by go_num, by omega, by omega, by omega, by omega, hB2⟩
        case measure => simp [intOf]; omega
    · obtain rfl : x = F := by omega
      go_wp2
      go_ret
      exact ⟨rfl, hB.out⟩
set_option maxRecDepth 100000 in
theorem brWay_any (a : Option Addr) (n c : Nat) (ks : List ByteArray) (key : ByteArray) (w : World) (hn : ks.length = n) (hs : TxS w a ks) (ha : keysF ks) (hl : n ≤ 65536) :
    Calls Tryz.prog 88 #[.slice a n c, .string key] w fun e w' => e = .returned (.int .i64 (wayS ks key : Nat)) ∧ Below w.heap.size w w' := by
  obtain ⟨w2, hw2⟩ : ∃ w2, w2 = (w.alloc (.cells #[.slice a n c] STS)).alloc (.cells #[.string key] 9) := ⟨_, rfl⟩
  have hb2 : Below w.heap.size w w2 := by rw [hw2]; exact ((Below.refl _ _).alloc (Nat.le_refl _) _).alloc (by simp) _
  have c1 : w2.cell? ⟨w.heap.size, 0, none⟩ = some (.slice a n c) := by rw [hw2]; simp
  have c2 : w2.cell? ⟨w.heap.size + 1, 0, none⟩ = some (.string key) := by rw [hw2]; simp
  have hsr := Lib.hid (waySearch_any w2 w.heap.size (w.heap.size + 1) a n c ks key c1 c2 hn (hs.below hb2 (Nat.le_refl _)) ha hl)
  have hmf : ∀ (fn : Fn) (first cap : Array Value) (w : World), (Instr.makeFunc fn first cap).run Tryz.prog w = .ok (.func fn first cap) w := fun _ _ _ _ => rfl
  have Hb2 := Lib.hid hb2
  clear c1 c2 hs hn hb2 ha
  generalize wayS ks key = F at *
  subst hw2
  go_enter Tryz.func88, Tryz.ntmps88
  go_wp2_with fail
  refine hsr.out.mono ?_
  rintro e w3 ⟨rfl, hb3⟩
  have HB := Lib.hid (Hb2.out.trans (hb3.mono Hb2.out.size))
  clear hb3 hsr Hb2 hmf
  go_wp2
  go_ret
  exact ⟨rfl, HB.out⟩
end Go.Proofs.YtdgladhfibfdlaaGreatDoor
namespace Go.Proofs.YtdgladhfibfdlaaGreatDoor
open Go Go.RowKit
abbrev CST2 : TypeId := 9
end Go.Proofs.YtdgladhfibfdlaaGreatDoor
namespace Go.Proofs.YtdgladhfibfdlaaGreatDoor
open Go.RowKit
theorem highest_pos (x : Nat) (w : World) (h0 : 0 < x) (hx : x < 18446744073709551616) : Calls Tryz.prog 195 #[.int .u64 x] w fun e w' => e = .returned (.int .i64 (Lib.bitLen x - 1 : Nat)) ∧ w = w' := by
  have hb := bitLen_top x h0 hx
  have b1 := hb.1
  have b2 := hb.2.1
  clear hb
  have e : (x : Int).toNat = x := rfl
  have hl := libLen x w (by omega) (by omega)
  rw [e] at hl
  have ec : ((Lib.bitLen x - 1 : Nat) : Int) = (Lib.bitLen x : Int) - 1 := by omega
  rw [ec]
  clear ec e
  generalize Lib.bitLen x = L at *
  go_enter Tryz.func195, Tryz.ntmps195
  go_wp2_with (go_at_call 209; refine hl.mono ?_; rintro e w' ⟨rfl, rfl⟩)
  go_ret
  exact ⟨rfl, rfl⟩
theorem or_one (v : Nat) (h : v < 18446744073709551616) : bits .or .u64 (v : Int) 1 = ((v / 2 * 2 + 1 : Nat) : Int) := by
  refine (bits_or_u64_nat v 1 h (by omega)).trans ?_
  congr 1
  apply Nat.eq_of_testBit_eq
  intro i
  rw [Nat.testBit_or, show v / 2 * 2 + 1 = 2 ^ 1 * (v / 2) + 1 by omega, Nat.testBit_two_pow_mul_add _ (by decide)]
  cases i with
  | zero => simp
  | succ i => simp [Nat.testBit_succ]
theorem size_any (v : Nat) (w : World) (h : v < 18446744073709551616) :
    Calls Tryz.prog 171 #[.int .u64 v] w fun e w' => e = .returned (.int .i64 (vs v : Nat)) ∧ w = w' := by
  have ho := or_one v h
  have hb := bitLen_top (v / 2 * 2 + 1) (by omega) (by omega)
  have hh := highest_pos (v / 2 * 2 + 1) w (by omega) (by omega)
  have hv := Lib.hid ((vs_odd v).symm.trans (vs_top _ _ hb.2.2))
  have b3 : Lib.bitLen (v / 2 * 2 + 1) - 1 ≤ 63 := by have := hb.2.1; omega
  clear hb
  generalize Lib.bitLen (v / 2 * 2 + 1) - 1 = L at *
  generalize v / 2 * 2 + 1 = O at *
  obtain ⟨Q, hQ⟩ : ∃ Q, Q = L / 7 := ⟨_, rfl⟩
  have eQ : (L : Int) / 7 = (Q : Int) := by omega
  have HQ := Lib.hid hQ
  have hq9 : Q ≤ 9 := by have := Nat.div_le_div_right (c := 7) b3; omega
  clear hQ
  go_enter Tryz.func171, Tryz.ntmps171
  go_wp2_with (go_at_call 195; refine hh.mono ?_; rintro e w' ⟨rfl, rfl⟩)
  go_ret
  exact ⟨by rw [hv.out, ← HQ.out]; rfl, rfl⟩
end Go.Proofs.YtdgladhfibfdlaaGreatDoor
namespace Go.Proofs.YtdgladhfibfdlaaGreatDoor
open Go.RowKit
def errV (f : Nat) : Value := if f = 0 then .nilIface else .iface 110 (.int .i64 f)
end Go.Proofs.YtdgladhfibfdlaaGreatDoor
namespace Go.Proofs.YtdgladhfibfdlaaGreatDoor
open Go.RowKit
def vrow (l P : List Nat) (n : Nat) : List Nat := l ++ (P ++ List.replicate n 0)
theorem vrow_length (l P : List Nat) (n : Nat) : (vrow l P n).length = l.length + (P.length + n) := by simp [vrow]
theorem vrow_set (l P : List Nat) (n x : Nat) : (vrow l P (n + 1)).set (l.length + P.length) x = vrow l (P ++ [x]) n := by
  unfold vrow
  rw [List.set_append_right _ _ (by omega), List.set_append_right _ _ (by omega), show l.length + P.length - l.length - P.length = 0 by omega, List.replicate_succ, List.set_cons_zero, List.append_assoc]; rfl
theorem or128 (V : Nat) : bits .or .u8 ((V % 256 : Nat) : Int) 128 = ((V % 128 + 128 : Nat) : Int) := by
  rw [Lib.u8_or128_any _ (by omega) (by omega)]; omega
set_option maxRecDepth 100000 in
theorem put_any (a : Option Addr) (c : Nat) (l : List Nat) (v : Nat) (w : World) (hl : l.length ≤ 65536) (hv : v < 18446744073709551616) (hsrc : Src w a l) :
    Calls Tryz.prog 173 #[.slice a l.length c, .int .u64 v] w fun e w' => e = .returned (.slice (some ⟨w.heap.size, 0, none⟩) (l.length + vs v : Nat) (l.length + vs v : Nat)) ∧ Row w' w.heap.size 5 (l ++ vb v) ∧ Below w.heap.size w w' := by
  have Hsrc := Lib.hid hsrc
  clear hsrc
  have hsz := size_any v w hv
  have hs10 := vs_le hv
  obtain ⟨s, hs⟩ : ∃ s, s = vs v := ⟨_, rfl⟩
  rw [← hs] at hsz hs10 ⊢
  have HS := Lib.hid hs
  have HC := Lib.hid hsz
  clear hs hsz
  go_enter Tryz.func173, Tryz.ntmps173
  go_wp2_with fail
  refine HC.out.mono ?_; rintro e w' ⟨rfl, rfl⟩
  go_wp2_with (first | (at_make; refine wpList_make_bytes rfl _ _ 48 rfl 5 Tryz.underlying48 infoByte _ _ _ _ (l.length + s) rfl rfl (by omega) (by omega) (by omega) ?_; intro w1 hr1 hb1; have hs1' := Lib.hid (Hsrc.out.below hb1 (Nat.le_refl _))) | (show wpList _ _ _ (⟨some 15, _, _, _, _, _⟩ :: _) _ _; refine wpList_copy_bytes rfl (.tmp 13) (.tmp 14) 48 48 rfl 5 Tryz.underlying48 sizeByte w.heap.size 0 (l.length + s) (l.length + s) a c (List.replicate (l.length + s) 0) l (by rfl) (by rfl) hr1 hs1'.out (by simp) (by omega) w.heap.size w hb1 (Nat.le_refl _) ?_; intro w2 hr2 hb2; clear hr1 hs1' hb1))
  have Hr2 : Hid (Row w2 w.heap.size 5 (vrow l [] s)) := by
    have := hr2.out
    rw [splice_start] at this
    have e : l ++ List.drop l.length (List.replicate (l.length + s) 0) = vrow l [] s := by
      unfold vrow; rw [List.drop_replicate, Nat.add_sub_cancel_left]; rfl
    rw [e] at this
    exact this
  clear hr2
  go_loopw [1, 6] (fun Vv I wr => ∃ (P : List Nat) (V p : Nat), p = P.length ∧ p + vs V = s ∧ V < 18446744073709551616 ∧ Hid (P ++ vb V = vb v) ∧ I = .int .i64 ((l.length : Int) + p) ∧ Vv = .int .u64 (V : Nat) ∧ Hid (Row wr w.heap.size 5 (vrow l P (vs V))) ∧ Hid (Below w.heap.size w wr)) (fun Vv _ _ => (intOf Vv).toNat)
  case atStart => exact ⟨[], v, 0, rfl, by rw [HS.out]; omega, hv, rfl, by simp, rfl, by rw [← HS.out]; exact Hr2, hb2⟩
  case round =>
    obtain ⟨P, V, p, hp, hps, hV, hPv, rfl, rfl, hrow, hbel⟩ := hrel
    have hpos := vs_pos V
    have hcell := hrow.out.cell (l.length + p) (by rw [vrow_length]; omega)
    have hfr := hrow.out.frozen (l.length + p)
    generalize (vrow l P (vs V)).getD (l.length + p) 0 = C at *
    obtain ⟨M, hM⟩ : ∃ M, M = V % 256 := ⟨_, rfl⟩
    have eM : (V : Int) % 256 = (M : Int) := by omega
    obtain ⟨q, hq⟩ : ∃ q, q = l.length + p := ⟨_, rfl⟩
    have eq' : (l.length : Int) + (p : Int) = (q : Int) := by omega
    rw [← hq] at hcell hfr
    have hq1 : q < l.length + s := by omega
    by_cases h128 : 128 ≤ V
    · have hor := or128 V
      rw [← hM] at hor
      have hset := hrow.out.set q (V % 128 + 128)
      rw [vs_big h128, hq, hp, vrow_set] at hset
      obtain ⟨X, hX⟩ : ∃ X, X = V % 128 + 128 := ⟨_, rfl⟩
      obtain ⟨D, hD⟩ : ∃ D, D = V / 128 := ⟨_, rfl⟩
      have eD : (V : Int) / 128 = (D : Int) := by omega
      have hDV : D < V := by omega
      have Hnext : Hid ((P ++ [X]) ++ vb D = vb v) := by
        show _ = _
        rw [List.append_assoc, ← hPv.out, vb_big h128, hX, hD]; rfl
      have hvs : Hid (vs V = vs D + 1) := by show _ = _; rw [vs_big h128, hD]
      rw [← hX] at hor hset
      rw [← hD, ← hp, ← hq] at hset
      have Hset := Lib.hid hset
      have HX := Lib.hid (And.intro hX (And.intro hD (And.intro hM (And.intro hq hp))))
      have hps' : Hid (p + vs V = s) := hps
      clear hset hX hD hM hrow hPv hps hp hq hpos
      have hX8 : X < 256 := by have := HX.out.1; omega
      go_wp2
      go_roundw
      case rel => exact ⟨P ++ [X], D, p + 1, by rw [List.length_append, ← HX.out.2.2.2.2]; rfl, by have := hps'.out; have := hvs.out; omega, by omega, Hnext, by rw [← eq']; exact congrArg (Value.int IntKind.i64) (by omega), rfl, Hset, hbel.out.setCell (Nat.le_refl _) _⟩
      case measure => simp [intOf]; omega
    · have hset := hrow.out.set q V
      rw [vs_small (by omega), hq, hp, show (1 : Nat) = 0 + 1 from rfl, vrow_set] at hset
      have hlast : vrow l (P ++ [V]) 0 = l ++ vb v := by
        unfold vrow; rw [← hPv.out, vb_small (by omega)]; simp
      rw [hlast, ← hp, ← hq] at hset
      have Hset := Lib.hid hset
      have hMV : M = V := by omega
      subst hMV
      clear hset hM hrow hPv hps hp hq hpos hlast
      go_wp2
      go_ret
      exact ⟨rfl, Hset.out, hbel.out.setCell (Nat.le_refl _) _⟩
end Go.Proofs.YtdgladhfibfdlaaGreatDoor
namespace Go.Proofs.YtdgladhfibfdlaaGreatDoor
open Go Go.RowKit
theorem packNum_any (a : Option Addr) (n c : Nat) (l : List Nat) (hn : l.length = n) (v : Nat) (w : World) (hs : Src w a l) (hl : n ≤ 65536) (hv : v < 18446744073709551616) :
    Calls Tryz.prog 136 #[.slice a n c, .int .u64 v] w fun e w' => ∃ v', e = .returned v' ∧ Sl w' v' (l ++ vb v) ∧ Below w.heap.size w w' := by
  subst hn
  have h := put_any a c l v w hl hv hs
  have h10 := vs_le hv
  have hlen : (l ++ vb v).length = l.length + vs v := by rw [List.length_append]; rfl
  have Hl := Lib.hid hlen
  clear hlen
  go_enter Tryz.func136, Tryz.ntmps136
  go_wp2_with fail
  refine h.mono ?_
  rintro e w' ⟨rfl, hr, hb⟩
  have hs := Sl.row hr (by rw [Hl.out]; unfold maxLen; omega)
  rw [Hl.out] at hs
  go_wp2
  go_ret
  exact ⟨_, rfl, hs, hb⟩
end Go.Proofs.YtdgladhfibfdlaaGreatDoor
namespace Go.Proofs.YtdgladhfibfdlaaGreatDoor
open Go Go.RowKit
def NoByte (w : World) (b : Nat) : Prop := ∀ j x, w.cell? ⟨b, j, none⟩ ≠ some (.int .u8 x)
end Go.Proofs.YtdgladhfibfdlaaGreatDoor
