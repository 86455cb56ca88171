/-
  What the law PlanFew stands on.
-/
import Derived.Test.YtdgladhfibfdlaaGreatDoorQPlanFew34
import Derived.Test.YtdgladhfibfdlaaGreatDoorQPlanFew35
import Derived.Test.YtdgladhfibfdlaaGreatDoorQPlanFew37
import Derived.Test.YtdgladhfibfdlaaGreatDoorQPlanFew20
import Derived.Test.YtdgladhfibfdlaaGreatDoorQPlanFew33
namespace Go.Proofs.YtdgladhfibfdlaaGreatDoor
open Go Go.RowKit
theorem cNs_none : ∀ (es : List En), (∀ e ∈ es, 64 < e.v.size → e.ch ≠ []) → cNs es = 0
  | [], _ => rfl
  | e :: r, h => by
    have h1 : waitE e = false := by
      unfold waitE
      rcases Nat.lt_or_ge 64 e.v.size with h2 | h2
      · have h3 := h e (by simp) h2
        have h4 : decide (e.ch.length = 0) = false := decide_eq_false (fun h4 => h3 (List.eq_nil_of_length_eq_zero h4))
        rw [h4, Bool.and_false]
      · have h4 : decide (64 < e.v.size) = false := decide_eq_false (by omega)
        rw [h4, Bool.false_and]
    have h2 : cN e = 0 := by unfold cN; rw [h1]; rfl
    rw [cNs, h2, cNs_none r (fun x hx => h x (by simp [hx]))]
theorem cNsB_le : ∀ (es : List En), (∀ e ∈ es, e.v.size ≤ 502) → cNs es ≤ es.length
  | [], _ => by simp [cNs]
  | e :: r, h => by
    have h1 := h e (by simp)
    have h2 := cNsB_le r (fun x hx => h x (by simp [hx]))
    have h3 : cN e ≤ 1 := by
      unfold cN nP
      split <;> omega
    rw [cNs, List.length_cons]; omega
mutual
theorem need1_le : ∀ (t : Tr), t.need ≤ t.nw + cNs t.es
  | .leaf pg cs => by
    rw [Tr.need, Tr.nw, Tr.es]
    by_cases h : pg = 0
    · rw [if_pos h, if_pos h]; omega
    · rw [if_neg h]; omega
  | .bran pg ks ts => by
    have := needB_le ts
    rw [Tr.need, Tr.nw, Tr.es]
    by_cases h : pg = 0
    · rw [if_pos h, if_pos h]; omega
    · rw [if_neg h]; omega
theorem needB_le : ∀ (ts : List Tr), needL ts ≤ nwL ts + cNs (esL ts)
  | [] => by simp [needL]
  | t :: r => by
    have h1 := need1_le t
    have h2 := needB_le r
    rw [needL, nwL, esL, cNs_app]; omega
end
theorem nwL_row : ∀ (ts : List Tr), (∀ t ∈ ts, t.nw + 1 ≤ 2 * t.es.length) → nwL ts + ts.length ≤ 2 * (esL ts).length
  | [], _ => by simp [nwL, esL]
  | t :: r, h => by
    have h1 := h t (by simp)
    have h2 := nwL_row r (fun x hx => h x (by simp [hx]))
    rw [nwL, esL, List.length_cons, List.length_append]; omega
theorem tok_nw : ∀ (h : Nat) {lo hi : SB} {t : Tr}, TOk h lo hi t → (0 < h → 3 ≤ t.sz) → (h = 0 → t.es ≠ []) → t.nw + 1 ≤ 2 * t.es.length
  | 0, _, _, _, ⟨pg, es, h0, _⟩, _, hne => by
    subst h0
    have h1 := hne rfl
    rw [Tr.es] at h1 ⊢
    have : 0 < es.length := List.length_pos_iff.2 h1
    rw [Tr.nw]
    split <;> omega
  | h + 1, lo, hi, _, ⟨pg, ks, ps, ts, h0, hr⟩, hz, _ => by
    subst h0
    have hz := hz (by omega)
    have hlen := hr.len
    have hk : 1 ≤ ks.length := by
      simp only [Tr.sz] at hz
      cases ks with
      | nil => unfold brSz kss at hz; simp at hz
      | cons x r => simp
    have h1 := nwL_row ts (hr.all (P := fun t => t.nw + 1 ≤ 2 * t.es.length) (fun lo hi p t ⟨g1, g2, g3⟩ => tok_nw h g1 (fun _ => by omega) (fun e hn => by
      subst e
      obtain ⟨pg, es, rfl, _⟩ := g1
      rw [Tr.es] at hn
      subst hn
      revert g2
      simp only [Tr.sz]
      decide)))
    rw [Tr.nw, Tr.es]
    split <;> omega
theorem layP_not (p : Nat) : ∀ (ws : List PgW) (P : List (List Nat)), p ∉ ws.map Prod.fst → (layP P ws).getD p [] = P.getD p []
  | [], _, _ => rfl
  | x :: r, P, h => by
    rw [List.map_cons, List.mem_cons, not_or] at h
    rw [layP, layP_not p r _ h.2, List.getD_eq_getElem?_getD, List.getElem?_set_ne (Ne.symm h.1), ← List.getD_eq_getElem?_getD]
theorem layP_at : ∀ (ws : List PgW) (P : List (List Nat)), (ws.map Prod.fst).Nodup → (∀ x ∈ ws, x.1 < P.length) → ∀ x ∈ ws, (layP P ws).getD x.1 [] = x.2
  | y :: r, P, hn, hl, x, hx => by
    rw [List.map_cons, List.nodup_cons] at hn
    rw [layP]
    rcases List.mem_cons.1 hx with rfl | hx
    · rw [layP_not _ r _ hn.1, List.getD_eq_getElem?_getD, List.getElem?_set_self (hl _ (by simp))]; rfl
    · exact layP_at r _ hn.2 (fun z hz => by rw [List.length_set]; exact hl z (by simp [hz])) x hx
theorem mem_els (f : Nat → Bool) (x : Nat) : ∀ k, x ∈ els f k ↔ x < k ∧ f x = true
  | 0 => by simp [els]
  | k + 1 => by
    rw [els, List.mem_append, mem_els f x k]
    constructor
    · rintro (h | h)
      · exact ⟨by omega, h.2⟩
      · split at h
        · rename_i hf
          rw [List.mem_singleton] at h
          subst h; exact ⟨by omega, hf⟩
        · cases h
    · rintro ⟨h1, h2⟩
      by_cases h3 : x = k
      · subst h3; exact .inr (by rw [if_pos h2]; simp)
      · exact .inl ⟨by omega, h2⟩
theorem els_nodup (f : Nat → Bool) : ∀ k, (els f k).Nodup
  | 0 => by simp [els]
  | k + 1 => by
    rw [els, List.nodup_append]
    refine ⟨els_nodup f k, by split <;> simp, fun x hx y hy => ?_⟩
    have := ((mem_els f x k).1 hx).1
    split at hy
    · rw [List.mem_singleton] at hy; omega
    · cases hy
def freeP (f : Nat → Bool) (ts : List Tr) (m : Nat) : Bool := f m && !(decide (m < 2) || addR (fun _ => false) (uL ts) m)
def takP (f : Nat → Bool) (ts : List Tr) : List Nat := (els (freeP f ts) 1024).take (needL ts)
section
variable {f : Nat → Bool} {ts : List Tr} (hc : needL ts ≤ cnt (freeP f ts) 1024)
theorem takP_len (hc : needL ts ≤ cnt (freeP f ts) 1024) : (takP f ts).length = needL ts := by
  unfold takP
  rw [List.length_take, els_len]; omega
theorem takP_mem {x : Nat} (h : x ∈ takP f ts) : f x = true ∧ 2 ≤ x ∧ x < 1024 ∧ x ∉ uL ts := by
  obtain ⟨h1, h2⟩ := (mem_els _ _ _).1 (List.mem_of_mem_take h)
  unfold freeP addR at h2
  simp only [Bool.and_eq_true, Bool.not_eq_true', Bool.or_eq_false_iff, decide_eq_false_iff_not, Bool.false_or] at h2
  exact ⟨h2.1, by omega, h1, h2.2.2⟩
theorem takP_nodup : (takP f ts).Nodup := (els_nodup _ _).sublist (List.take_sublist _ _)
end
section
variable (P : Nat → List Nat)
structure MixI (ts : List Tr) : Prop where
  on : onL (QH P) ts
  ce : ∀ e ∈ esL ts, CeO P e
  rg : ∀ p ∈ uL ts, 2 ≤ p ∧ p < 1024
  one : ∀ p, cUL p ts ≤ 1
structure LieI (ts : List Tr) : Prop where
  on : onL (QH P) ts
  pg : ∀ t ∈ ts, t.pg ≠ 0
  ce : ∀ e ∈ esL ts, CeL P e
  rg : ∀ p ∈ uL ts, 2 ≤ p ∧ p < 1024
  one : ∀ p, cUL p ts ≤ 1
variable {P}
theorem LieI.mix {ts : List Tr} (h : LieI P ts) : MixI P ts := ⟨h.on, fun e he => (h.ce e he).o, h.rg, h.one⟩
theorem mem_chL {p : Nat} : ∀ {es : List En} {e : En}, e ∈ es → p ∈ e.ch → p ∈ chL es
  | x :: r, e, he, hp => by
    rw [chL, List.mem_append]
    rcases List.mem_cons.1 he with rfl | he
    · exact .inl hp
    · exact .inr (mem_chL he hp)
theorem chH_congr {P P' : Nat → List Nat} {v : ByteArray} {ch : List Nat} (h : ChH P v ch) (hp : ∀ p ∈ ch, P' p = P p) : ChH P' v ch :=
  ⟨h.1, fun i hi => by rw [hp _ (na_mem hi)]; exact h.2 i hi⟩
theorem ceO_congr {P P' : Nat → List Nat} {e : En} (h : CeO P e) (hp : ∀ p ∈ e.ch, P' p = P p) : CeO P' e := by
  rcases h with h | h
  · exact .inl h
  · exact .inr ⟨h.1, chH_congr h.2 hp⟩
mutual
theorem on_congr {P P' : Nat → List Nat} : ∀ (t : Tr), t.on (QH P) → (∀ p ∈ t.pgs, P' p = P p) → t.on (QH P')
  | .leaf pg cs, h, hp => by
    rw [Tr.on] at h ⊢
    intro h0
    have h1 := h h0
    exact ⟨by rw [hp pg (by rw [Tr.pgs, if_neg h0]; simp)]; exact h1.1, h1.2⟩
  | .bran pg ks ts, h, hp => by
    rw [Tr.on] at h ⊢
    refine ⟨fun h0 => ?_, onL_congr ts h.2 (fun p hq => hp p (by rw [Tr.pgs, List.mem_append]; exact .inr hq))⟩
    have h1 := h.1 h0
    exact ⟨by rw [hp pg (by rw [Tr.pgs, if_neg h0]; simp)]; exact h1.1, h1.2⟩
theorem onL_congr {P P' : Nat → List Nat} : ∀ (ts : List Tr), onL (QH P) ts → (∀ p ∈ pgsL ts, P' p = P p) → onL (QH P') ts
  | [], _, _ => by rw [onL]; trivial
  | t :: r, h, hp => by
    rw [onL] at h ⊢
    exact ⟨on_congr t h.1 (fun p hq => hp p (by rw [pgsL, List.mem_append]; exact .inl hq)), onL_congr r h.2 (fun p hq => hp p (by rw [pgsL, List.mem_append]; exact .inr hq))⟩
end
theorem MixI.congr {P P' : Nat → List Nat} {ts : List Tr} (h : MixI P ts) (hp : ∀ p ∈ uL ts, P' p = P p) : MixI P' ts :=
  ⟨onL_congr ts h.on (fun p hq => hp p (by unfold uL; simp [hq])), fun e he => ceO_congr (h.ce e he) (fun p hq => hp p (by unfold uL; simp [mem_chL he hq])), h.rg, h.one⟩
theorem MixI.cev {ts : List Tr} (h : MixI P ts) {e : En} (he : e ∈ esL ts) (hv : e.v.size ≤ 2048) : CeV e ∧ e.ch.length ≤ 100000 := by
  have h1 := h.ce e he
  refine ⟨⟨?_, fun p hp => h.rg p (by unfold uL; simp [mem_chL he hp])⟩, ?_⟩
  · rcases h1 with h1 | h1
    · exact .inl h1
    · exact .inr h1.1
  · rcases h1 with h1 | h1
    · rw [h1]; simp
    · rw [h1.2.1]; unfold nP; omega
theorem chL_take_drop (p : Nat) (es : List En) (a b : Nat) (hab : a ≤ b) : (chL (es.take a)).count p + (chL (es.drop b)).count p ≤ (chL es).count p := by
  have h1 : es.drop a = (es.drop a).take (b - a) ++ es.drop b := by
    have h2 := (List.take_append_drop (b - a) (es.drop a)).symm
    rw [List.drop_drop, show a + (b - a) = b by omega] at h2
    exact h2
  have h2 := congrArg (fun l => (chL l).count p) (List.take_append_drop a es)
  have h3 := congrArg (fun l => (chL l).count p) h1
  simp only [chL_app, List.count_append] at h2 h3
  omega
theorem chL_rep (p : Nat) (es : List En) (key : ByteArray) (o : List En) (ho : chL o = []) : (chL (rep es key o)).count p ≤ (chL es).count p := by
  unfold rep
  rw [chL_app, chL_app, ho, List.nil_append, List.count_append]
  exact chL_take_drop p es _ _ (Nat.le_add_right _ _)
theorem MixI.chg {ts ts' : List Tr} {n : Nat} {key : ByteArray} {o : List En} (h : MixI P ts) (he : esL ts' = rep (esL ts) key o) (hf : Fr ts ts' n) (ho : ∀ e ∈ o, e.ch = []) : MixI P ts' := by
  have hco : chL o = [] := by
    have : ∀ l : List En, (∀ e ∈ l, e.ch = []) → chL l = [] := fun l => by
      induction l with
      | nil => intro _; rfl
      | cons x r ih => intro h; rw [chL, h x (by simp), ih (fun e he => h e (by simp [he]))]; rfl
    exact this o ho
  have hle : ∀ p, cUL p ts' ≤ cUL p ts := fun p => by
    have h1 := hf.pg p
    have h2 := chL_rep p (esL ts) key o hco
    unfold cUL
    rw [he]; omega
  refine ⟨hf.on _ h.on, fun e hm => ?_, fun p hp => ?_, fun p => Nat.le_trans (hle p) (h.one p)⟩
  · rw [he] at hm
    rcases mem_rep hm with hm | hm
    · exact h.ce e hm
    · exact .inl (ho e hm)
  · rw [mem_uL] at hp
    exact h.rg p ((mem_uL p ts).2 (Nat.lt_of_lt_of_le hp (hle p)))
theorem MixI.put {ts ts' : List Tr} {H : Nat} {key v : ByteArray} (h : MixI P ts) (hf : PutFr ts ts' H key v) : MixI P ts' := by
  rcases hf with ⟨h1, h2⟩ | ⟨rfl, _⟩
  · exact h.chg h1 h2 (fun e he => by rw [List.mem_singleton.1 he])
  · exact h
mutual
theorem on_none {Q : Tr → Prop} : ∀ (t : Tr), t.pgs = [] → t.on Q
  | .leaf pg cs, h => by
    rw [Tr.on]
    intro h0
    rw [Tr.pgs, if_neg h0] at h
    cases h
  | .bran pg ks ts, h => by
    rw [Tr.pgs, List.append_eq_nil_iff] at h
    rw [Tr.on]
    refine ⟨fun h0 => ?_, onL_none ts h.2⟩
    have h1 := h.1
    rw [if_neg h0] at h1
    cases h1
theorem onL_none {Q : Tr → Prop} : ∀ (ts : List Tr), pgsL ts = [] → onL Q ts
  | [], _ => by rw [onL]; trivial
  | t :: r, h => by
    rw [pgsL, List.append_eq_nil_iff] at h
    rw [onL]
    exact ⟨on_none t h.1, onL_none r h.2⟩
end
theorem uL_new {ts : List Tr} (h1 : ∀ e ∈ esL ts, e.ch = []) (h2 : ∀ q, (pgsL ts).count q = 0) : uL ts = [] := by
  have hc : chL (esL ts) = [] := by
    have : ∀ l : List En, (∀ e ∈ l, e.ch = []) → chL l = [] := fun l => by
      induction l with
      | nil => intro _; rfl
      | cons x r ih => intro h; rw [chL, h x (by simp), ih (fun e he => h e (by simp [he]))]; rfl
    exact this _ h1
  unfold uL
  rw [hc, List.append_nil]
  cases hp : pgsL ts with
  | nil => rfl
  | cons x r =>
    have := h2 x
    rw [hp] at this; simp at this
theorem MixI.new {ts : List Tr} (h1 : ∀ e ∈ esL ts, e.ch = []) (h2 : ∀ q, (pgsL ts).count q = 0) : MixI P ts := by
  have hu := uL_new h1 h2
  have hpg : pgsL ts = [] := by
    unfold uL at hu
    exact (List.append_eq_nil_iff.1 hu).1
  refine ⟨onL_none ts hpg, fun e he => .inl (h1 e he), fun p hp => ?_, fun p => ?_⟩
  · rw [hu] at hp; cases hp
  · rw [← uL_cnt, hu]; simp
mutual
theorem on_nw : ∀ (t : Tr), t.on (QH P) → t.pg ≠ 0 → t.nw = 0
  | .leaf pg cs, _, h => by
    have h' : pg ≠ 0 := h
    rw [Tr.nw, if_neg h']
  | .bran pg ks ts, ho, h => by
    have h' : pg ≠ 0 := h
    rw [Tr.on] at ho
    rw [Tr.nw, if_neg h', onL_nw ts ho.2 (ho.1 h').2]
theorem onL_nw : ∀ (ts : List Tr), onL (QH P) ts → (∀ t ∈ ts, t.pg ≠ 0) → nwL ts = 0
  | [], _, _ => rfl
  | t :: r, ho, h => by
    rw [onL] at ho
    rw [nwL, on_nw t ho.1 (h t (by simp)), onL_nw r ho.2 (fun x hx => h x (by simp [hx]))]
end
theorem LieI.nw {ts : List Tr} (h : LieI P ts) : nwL ts = 0 := onL_nw ts h.on h.pg
theorem LieI.cn {ts : List Tr} (h : LieI P ts) : cNs (esL ts) = 0 := cNs_none _ (fun e he h1 h2 => by
  rcases h.ce e he with h3 | h3
  · omega
  · have := h3.2.1
    rw [h2] at this
    have h4 : 0 < nP e.v.size := by unfold nP; omega
    simp at this; omega)
theorem LieI.need {ts : List Tr} (h : LieI P ts) : needL ts = 0 := by
  have h1 := needB_le ts
  rw [h.nw, h.cn] at h1; omega
section
variable {f : Nat → Bool} {ts : List Tr}
theorem takP_cnt (hc : needL ts ≤ cnt (freeP f ts) 1024) (p : Nat) : cUL p (layL ts (takP f ts)) = cUL p ts + (takP f ts).count p := by
  have h1 := layL_cnt p ts (takP f ts) (by rw [takP_len hc]; exact Nat.le_refl _) (fun x hx => by have := (takP_mem hx).2.1; omega)
  rw [h1, List.take_of_length_le (by rw [takP_len hc]; exact Nat.le_refl _)]
theorem takP_fst (hc : needL ts ≤ cnt (freeP f ts) 1024) : (wrL ts (takP f ts)).map Prod.fst = takP f ts := by
  rw [wrL_fst ts _ (by rw [takP_len hc]; exact Nat.le_refl _), List.take_of_length_le (by rw [takP_len hc]; exact Nat.le_refl _)]
theorem mem_lay (hc : needL ts ≤ cnt (freeP f ts) 1024) (p : Nat) : p ∈ uL (layL ts (takP f ts)) ↔ p ∈ uL ts ∨ p ∈ takP f ts := by
  rw [mem_uL, mem_uL, takP_cnt hc, ← List.count_pos_iff]; omega
theorem takP_one (p : Nat) : (takP f ts).count p ≤ 1 := List.nodup_iff_count.1 takP_nodup p
theorem one_lay (hc : needL ts ≤ cnt (freeP f ts) 1024) (ho : ∀ p, cUL p ts ≤ 1) (p : Nat) : cUL p (layL ts (takP f ts)) ≤ 1 := by
  rw [takP_cnt hc]
  by_cases hp : p ∈ takP f ts
  · have h1 := (takP_mem hp).2.2.2
    rw [mem_uL] at h1
    have := takP_one (f := f) (ts := ts) p
    omega
  · have h1 : (takP f ts).count p = 0 := List.count_eq_zero.2 hp
    have := ho p
    omega
theorem rg_lay (hc : needL ts ≤ cnt (freeP f ts) 1024) (hr : ∀ p ∈ uL ts, 2 ≤ p ∧ p < 1024) (p : Nat) (hp : p ∈ uL (layL ts (takP f ts))) : 2 ≤ p ∧ p < 1024 := by
  rcases (mem_lay hc p).1 hp with hp | hp
  · exact hr p hp
  · have := takP_mem hp; exact ⟨this.2.1, this.2.2.1⟩
theorem MixI.lay {P' : Nat → List Nat} (h : MixI P ts) (hc : needL ts ≤ cnt (freeP f ts) 1024) (hw : ∀ x ∈ wrL ts (takP f ts), P' x.1 = x.2) (ho : ∀ p ∈ uL ts, P' p = P p) : LieI P' (layL ts (takP f ts)) := by
  have h' := h.congr ho
  obtain ⟨h1, h2, h3⟩ := layL_lies P' ts (takP f ts) (by rw [takP_len hc]; exact Nat.le_refl _) (fun x hx => by have := (takP_mem hx).2.1; omega) hw h'.on h'.ce
  exact ⟨h1, h2, h3, rg_lay hc h.rg, one_lay hc h.one⟩
theorem lay_uLen (hc : needL ts ≤ cnt (freeP f ts) 1024) : (uL (layL ts (takP f ts))).length = (uL ts).length + needL ts := by
  have h : (uL (layL ts (takP f ts))).Perm (uL ts ++ takP f ts) := List.perm_iff_count.2 (fun p => by
    rw [uL_cnt, takP_cnt hc, List.count_append, uL_cnt])
  rw [h.length_eq, List.length_append, takP_len hc]
end
theorem cnt_ins (g : Nat → Bool) (x : Nat) (hx : g x = false) : ∀ k, cnt (fun m => g m || decide (m = x)) k = cnt g k + (if x < k then 1 else 0)
  | 0 => by simp [cnt]
  | k + 1 => by
    rw [cnt, cnt, cnt_ins g x hx k]
    rcases Nat.lt_trichotomy x k with h | h | h
    · rw [if_pos h, if_pos (by omega), show decide (k = x) = false from decide_eq_false (by omega), Bool.or_false]; omega
    · subst h
      rw [if_neg (Nat.lt_irrefl _), if_pos (by omega), hx]; simp
    · rw [if_neg (by omega), if_neg (by omega), show decide (k = x) = false from decide_eq_false (by omega), Bool.or_false, Nat.add_zero, Nat.add_zero]
theorem cnt_list : ∀ (l : List Nat), l.Nodup → (∀ x ∈ l, x < 1024) → cnt (addR (fun _ => false) l) 1024 = l.length
  | [], _, _ => by
    rw [addR_nil, cnt_ext (g := fun m => decide (m < 0)) (fun m _ => by simp), cnt_below]; rfl
  | x :: r, hn, hl => by
    rw [List.nodup_cons] at hn
    have e1 : addR (fun _ => false) (x :: r) = fun m => addR (fun _ => false) r m || decide (m = x) := by
      funext m
      unfold addR
      by_cases h1 : m = x
      · simp [h1]
      · simp [h1]
    have e2 : addR (fun _ => false) r x = false := by unfold addR; simp [hn.1]
    rw [e1, cnt_ins _ x e2, cnt_list r hn.2 (fun y hy => hl y (by simp [hy])), if_pos (hl x (by simp))]
    rfl
theorem cnt_used {ts : List Tr} (hr : ∀ p ∈ uL ts, 2 ≤ p ∧ p < 1024) (ho : ∀ p, cUL p ts ≤ 1) : cnt (addR (fun _ => false) (uL ts)) 1024 = (uL ts).length :=
  cnt_list _ (List.nodup_iff_count.2 (fun p => by rw [uL_cnt]; exact ho p)) (fun x hx => (hr x hx).2)
abbrev pgF (PL : List (List Nat)) (p : Nat) : List Nat := PL.getD p []
end
end Go.Proofs.YtdgladhfibfdlaaGreatDoor
