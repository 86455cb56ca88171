/-
  What the law PlanFew stands on.
-/
import Derived.Test.YtdgladhfibfdlaaGreatDoorQPlanFew15
import Derived.Test.YtdgladhfibfdlaaGreatDoorQPlanFew07
import Derived.Test.YtdgladhfibfdlaaGreatDoorQPlanFew25
import Derived.Test.YtdgladhfibfdlaaGreatDoorQPlanFew26
import Derived.Test.YtdgladhfibfdlaaGreatDoorQPlanFew18
import Derived.Test.YtdgladhfibfdlaaGreatDoorQPlanFew22
import Derived.Test.YtdgladhfibfdlaaGreatDoorQPlanFew23
import Derived.Shelf.GgClosure.Gives
namespace Go.Proofs.YtdgladhfibfdlaaGreatDoor
open Go Go.RowKit
def TOk : Nat → SB → SB → Tr → Prop
  | 0, lo, hi, t => ∃ pg es, t = .leaf pg es ∧ ltO lo hi ∧ srt es ∧ ∀ x ∈ es, okE x ∧ ins lo hi x.k
  | h + 1, lo, hi, t => ∃ pg ks ps ts, t = .bran pg ks ts ∧ KRow (fun lo hi _ t => TOk h lo hi t ∧ 126 ≤ t.sz ∧ t.sz ≤ 504) ks lo hi ps ts
theorem NdT.tok {w : World} : ∀ (h : Nat) {lo hi : SB} {b : Nat} {t : Tr}, NdT w h lo hi b t → TOk h lo hi t
  | 0, _, _, _, _, ⟨pg, es, h0, _, h1⟩ => ⟨pg, es, h0, h1⟩
  | h + 1, _, _, _, _, ⟨pg, ks, ps, ts, h0, _, h1⟩ => ⟨pg, ks, ps, ts, h0, h1.mono (fun _ _ _ _ ⟨h2, h3⟩ => ⟨NdT.tok h h2, h3⟩)⟩
theorem TOk.facts : ∀ (h : Nat) {lo hi : SB} {t : Tr}, TOk h lo hi t → ltO lo hi ∧ srt t.es ∧ ∀ x ∈ t.es, okE x ∧ ins lo hi x.k
  | 0, _, _, _, ⟨pg, es, h0, h1, h2, h3⟩ => by
    subst h0
    rw [Tr.es]
    exact ⟨h1, h2, h3⟩
  | h + 1, lo, hi, _, ⟨pg, ks, ps, ts, h0, h1⟩ => by
    subst h0
    rw [Tr.es]
    have h2 : KRow (fun lo hi _ e => ltO lo hi ∧ srt e ∧ ∀ x ∈ e, okE x ∧ ins lo hi x.k) ks lo hi ps (ts.map Tr.es) := h1.map Tr.es (fun _ _ _ t ⟨h3, _⟩ => TOk.facts h h3)
    have h3 := h2.facts (fun _ _ _ _ h => h)
    rw [esL_flat]
    exact ⟨h3.1, h3.2.1, h3.2.2.1⟩
theorem cE_k (e : En) : (cE e).k = e.k := by unfold cE; split <;> rfl
theorem cE_n (e : En) : (cE e).n = (e.v.size : Int) := by unfold cE; split <;> rfl
theorem ca_map (es : List En) (i : Nat) (h : i < es.length) : ca (es.map cE) i = cE (ea es i) := by
  unfold ca ea; simp [List.getD, h]
theorem leaf_asc {es : List En} (hs : srt es) : asc (es.map cE) := fun i h0 hi => by
  rw [List.length_map] at hi
  rw [ca_map es i hi, ca_map es (i - 1) (by omega), cE_k, cE_k]
  exact srt_at hs (by omega) hi
theorem sizeTo_br (ks : List ByteArray) : sizeTo ks ks.length = brSz ks := by
  have : ∀ k, k ≤ ks.length → sizeTo ks k = 2 + kss (ks.take k) := by
    intro k
    induction k with
    | zero => intro _; rfl
    | succ k ih =>
      intro h
      rw [sizeTo, ih (by omega), sa_take ks k (by omega), kss_app]
      have : kss [sa ks k] = 3 + (sa ks k).size := by unfold kss; simp
      rw [this]; omega
  rw [this _ (Nat.le_refl _), List.take_length]; rfl
theorem pg_at (ts : List Tr) (i : Nat) (h : i < ts.length) : ia (ts.map pgI) i = (((ts.getD i (.leaf 0 [])).pg : Nat) : Int) := by
  unfold ia; simp [List.getD, h, pgI]
theorem pg_cnt : ∀ (ts : List Tr) (i : Nat), i < ts.length → (ts.getD i (.leaf 0 [])).pg ≠ 0 → 1 ≤ (pgsL ts).count (ts.getD i (.leaf 0 [])).pg
  | [], i, h, _ => by simp at h
  | t :: r, 0, _, h0 => by
    have e : (t :: r).getD 0 (.leaf 0 []) = t := rfl
    rw [e] at h0 ⊢
    have e2 : ([t.pg] : List Nat).count t.pg = 1 := List.count_singleton_self
    rw [pgsL, t.pgs_eq, if_neg h0, List.count_append, List.count_append, e2]
    omega
  | t :: r, i + 1, h, h0 => by
    have e : (t :: r).getD (i + 1) (.leaf 0 []) = r.getD i (.leaf 0 []) := rfl
    rw [e] at h0 ⊢
    have := pg_cnt r i (by simpa using h) h0
    rw [pgsL, List.count_append]; omega
theorem pg_two : ∀ (ts : List Tr) (i j : Nat), i < j → j < ts.length → (ts.getD i (.leaf 0 [])).pg = (ts.getD j (.leaf 0 [])).pg → (ts.getD j (.leaf 0 [])).pg ≠ 0 → 2 ≤ (pgsL ts).count (ts.getD j (.leaf 0 [])).pg
  | [], i, j, _, h, _, _ => by simp at h
  | t :: r, 0, j + 1, _, h, he, h0 => by
    have e : (t :: r).getD (j + 1) (.leaf 0 []) = r.getD j (.leaf 0 []) := rfl
    have e0 : (t :: r).getD 0 (.leaf 0 []) = t := rfl
    rw [e, e0] at he
    rw [e] at h0 ⊢
    have := pg_cnt r j (by simpa using h) h0
    have h1 : t.pg ≠ 0 := by rw [he]; exact h0
    have e2 : ([(r.getD j (.leaf 0 [])).pg] : List Nat).count (r.getD j (.leaf 0 [])).pg = 1 := List.count_singleton_self
    rw [pgsL, t.pgs_eq, if_neg h1, List.count_append, List.count_append, he, e2]
    omega
  | t :: r, i + 1, j + 1, hij, h, he, h0 => by
    have e : (t :: r).getD (j + 1) (.leaf 0 []) = r.getD j (.leaf 0 []) := rfl
    have e0 : (t :: r).getD (i + 1) (.leaf 0 []) = r.getD i (.leaf 0 []) := rfl
    rw [e, e0] at he
    rw [e] at h0 ⊢
    have := pg_two r i j (by omega) (by simpa using h) he h0
    rw [pgsL, List.count_append]; omega
section
variable (P : Nat → List Nat) (PL : List (List Nat))
def uL (ts : List Tr) : List Nat := pgsL ts ++ chL (esL ts)
def uT (t : Tr) : List Nat := t.pgs ++ chL t.es
theorem uT_cnt (p : Nat) (t : Tr) : (uT t).count p = cU p t := by unfold uT cU; rw [List.count_append]
theorem uL_cnt (p : Nat) (ts : List Tr) : (uL ts).count p = cUL p ts := by unfold uL cUL; rw [List.count_append]
theorem mem_uL (p : Nat) (ts : List Tr) : p ∈ uL ts ↔ 0 < cUL p ts := by rw [← uL_cnt]; exact List.count_pos_iff.symm
theorem mem_uT (p : Nat) (t : Tr) : p ∈ uT t ↔ 0 < cU p t := by rw [← uT_cnt]; exact List.count_pos_iff.symm
theorem mem_uL_cons (p : Nat) (t : Tr) (r : List Tr) : p ∈ uL (t :: r) ↔ p ∈ uT t ∨ p ∈ uL r := by
  rw [mem_uL, mem_uL, mem_uT, cUL_cons]; omega
end
end Go.Proofs.YtdgladhfibfdlaaGreatDoor
namespace Go.Proofs.YtdgladhfibfdlaaGreatDoor
open Go Go.RowKit
def ReplPost (w : World) (h : Nat) (lo hi : SB) (t : Tr) (key : ByteArray) (o : List En) (e : Ending) (w' : World) : Prop :=
  ∃ b2 t2, e = .returned (pt b2) ∧ NdT w' h lo hi b2 t2 ∧ (t2.es = rep t.es key o ∧ t2.pg = 0 ∧ Fr t.kids t2.kids (2 * h)) ∧ t2.sz ≤ t.sz + 107 ∧ (0 < h → t2.sz ≤ t.sz + 43 ∧ t.sz ≤ t2.sz + 43) ∧ Below w.heap.size w w'
set_option maxRecDepth 100000 in
theorem replaced_leaf {lo hi : SB} (b : Nat) (t : Tr) (key : ByteArray) (a : Option Addr) (n c : Nat) (o : List En) (w : World) (hn : NdT w 0 lo hi b t) (hs : t.sz ≤ 504) (hi' : ins lo hi key) (ho : oneO key o) (hoE : ∀ x ∈ o, okE x)
    (hno : o.length = n) (hes : CS w a o) (hz : a = none → c = 0) :
    Calls Tryz.prog 91 #[pt b, .string key, .slice a n c] w fun e w' => ReplPost w 0 lo hi t key o e w' := by
  obtain ⟨pg, es, rfl, ⟨vc, np, a0, c0, rfl, s0, z0, hnc, hcm⟩, hlt, hsr, hok⟩ := hn
  have nb := np.nb
  simp only [Tr.sz] at hs
  obtain ⟨s, hsz⟩ : ∃ s, s = leafSz es := ⟨_, rfl⟩
  rw [← hsz] at hs
  have g1 := szs_range (fun x hx => (hok x hx).1)
  have hvp := vs_pos es.length
  have hel : es.length ≤ 200 := by unfold leafSz at hsz; omega
  have hn1 : n ≤ 1 := by rcases ho with rfl | ⟨v, rfl⟩ <;> simp at hno <;> omega
  have q0 := nb.c1
  have hil := Lib.hid (isLeaf_yes b _ _ w nb)
  have Hfd := Lib.hid (tfind_any a0 es.length c0 es key w rfl s0 hsr (by omega))
  have Hnb := Lib.hid nb
  have HS := Lib.hid (And.intro s0 (And.intro z0 (And.intro hnc hcm)))
  have HO := Lib.hid (And.intro hes (And.intro hz hno))
  have hfl := fE_le es key
  -- what is there in the end
  have hfin : Hid (∀ (w' : World) (b2 : Nat), LeafP w' b2 0 (rep es key o) → Below w.heap.size w w' → ReplPost w 0 lo hi (.leaf pg es) key o (.returned (pt b2)) w') := fun w' b2 hl hb => by
    have hr : ∀ x ∈ rep es key o, okE x ∧ ins lo hi x.k := fun x hx => by
      rcases mem_rep hx with h1 | h1
      · exact hok x h1
      · refine ⟨hoE x h1, ?_⟩
        rcases ho with rfl | ⟨v, rfl⟩
        · cases h1
        · simp only [List.mem_singleton] at h1; subst h1; exact hi'
    refine ⟨b2, .leaf 0 (rep es key o), rfl, ⟨0, _, rfl, hl, hlt, srt_rep hsr ho, hr⟩, ⟨by simp only [Tr.es], rfl, Fr.refl _⟩, ?_, fun h => by omega, hb⟩
    have hsum : szs es = szs (es.take (fE es key)) + szs (es.drop (fE es key)) := by rw [← szs_app, List.take_append_drop]
    have hsum2 : szs (es.drop (fE es key)) = szs ((es.drop (fE es key)).take (goneE es key)) + szs (es.drop (fE es key + goneE es key)) := by
      rw [← szs_app, ← List.drop_drop, List.take_append_drop]
    have hso : szs o ≤ 106 := by
      have := (szs_range hoE).2
      rw [hno] at this; omega
    have e1 : szs (rep es key o) = szs (es.take (fE es key)) + (szs o + szs (es.drop (fE es key + goneE es key))) := by unfold rep; rw [szs_app, szs_app]
    have hv : vs (rep es key o).length ≤ 2 := vs_pow 2 _ (by have := rep_len es key o; omega) (by omega)
    have e2 : leafSz (rep es key o) = vs (rep es key o).length + szs (rep es key o) := rfl
    simp only [Tr.sz]
    rw [← hsz]
    unfold leafSz at hsz
    omega
  have hrep : Hid (rep es key o = es.take (fE es key) ++ (o ++ es.drop (fE es key + goneE es key))) := rfl
  have hgo : Hid (goneE es key = if isE es key = true then 1 else 0) := rfl
  obtain ⟨N, hN⟩ : ∃ N, es.length = N := ⟨_, rfl⟩
  have HN := Lib.hid hN
  rw [hN] at q0 Hfd hfl hel HS Hnb
  clear np nb s0 z0 hnc hcm hes hz hno hsr hok hsz hoE ho g1 hN hlt hvp hs
  generalize fE es key = F at *
  generalize goneE es key = Gn at *
  go_enter Tryz.func91, Tryz.ntmps91
  go_wp2_with fail
  refine hil.out.mono ?_
  rintro e w' ⟨rfl, rfl⟩
  clear hil
  go_wp2_with fail
  refine Hfd.out.mono ?_
  rintro e w1 ⟨rfl, hb1⟩
  have HB := Lib.hid hb1
  have q1 := (Hnb.out.ext hb1).c1
  clear Hfd hb1 q0
  have Hcall : ∀ G : Nat, G = Gn → Hid (Calls Tryz.prog 120 #[.slice a0 N c0, .int .i64 F, .int .i64 G, .slice a n c] w1 fun e w' => ∃ v, e = .returned v ∧ CV w' v (rep es key o) ∧ Below w1.heap.size w1 w') := fun G hG => by
    rw [hrep.out, ← hG]
    exact splC_any a0 N c0 es F G a n c o w1 HN.out (HS.out.1.below HB.out (Nat.le_refl _)) HS.out.2.2.1 HS.out.2.2.2 HS.out.2.1 (by omega) HO.out.2.2 HO.out.2.1 (HO.out.1.below HB.out (Nat.le_refl _)) (by omega) (by omega)
  have hend : Hid (∀ (w2 : World) (a4 : Option Addr) (c4 N4 : Nat), (rep es key o).length = N4 → CS w2 a4 (rep es key o) ∧ (a4 = none → c4 = 0) ∧ (rep es key o).length ≤ c4 ∧ c4 ≤ maxLen → Below w1.heap.size w1 w2 → ReplPost w 0 lo hi (.leaf pg es) key o (.returned (pt w2.heap.size)) (w2.alloc (.cells #[.int .i64 0, .slice a4 N4 c4, nilS, nilS] NT))) := fun w2 a4 c4 N4 h1 h2 h3 => by
    have h4 : Below w2.heap.size w2 (w2.alloc (.cells #[.int .i64 0, .slice a4 N4 c4, nilS, nilS] NT)) := (Below.refl _ _).alloc (Nat.le_refl _) _
    have h5 := HB.out.trans (h3.mono HB.out.size)
    exact hfin.out _ _ ⟨_, NP.new _ 0 _ _ _, a4, c4, by rw [h1], h2.1.below h4 (Nat.le_refl _), h2.2⟩ (h5.trans (h4.mono h5.size))
  have Hcall := Lib.hid Hcall
  clear hfin hrep HS HO HB Hnb HN
  cases hI : isE es key with
  | true =>
    have h1 := Lib.hid (Hcall.out 1 (by rw [hgo.out, if_pos hI]))
    clear Hcall hgo hI hfl
    go_wp2_with fail
    refine h1.out.mono ?_
    rintro e w2 ⟨v, rfl, ⟨a4, c4, rfl, s4⟩, hb2⟩
    obtain ⟨N4, hN4⟩ : ∃ N, (rep es key o).length = N := ⟨_, rfl⟩
    have hf := Lib.hid (hend.out w2 a4 c4 N4 hN4 s4 hb2)
    rw [hN4]
    clear hend s4 hb2 hN4 h1
    go_wp2
    go_ret
    exact hf.out
  | false =>
    have h1 := Lib.hid (Hcall.out 0 (by rw [hgo.out, if_neg (by rw [hI]; decide)]))
    clear Hcall hgo hI hfl
    go_wp2_with fail
    refine h1.out.mono ?_
    rintro e w2 ⟨v, rfl, ⟨a4, c4, rfl, s4⟩, hb2⟩
    obtain ⟨N4, hN4⟩ : ∃ N, (rep es key o).length = N := ⟨_, rfl⟩
    have hf := Lib.hid (hend.out w2 a4 c4 N4 hN4 s4 hb2)
    rw [hN4]
    clear hend s4 hb2 hN4 h1
    go_wp2
    go_ret
    exact hf.out
set_option maxRecDepth 100000 in
theorem replaced_bran {h : Nat} {lo hi : SB} (b : Nat) (t : Tr) (key : ByteArray) (a : Option Addr) (n c : Nat) (o : List En) (w : World) (hn : NdT w (h + 1) lo hi b t) (hs : t.sz ≤ 504) (hs3 : 3 ≤ t.sz) (hi' : ins lo hi key)
    (hes : CS w a o)
    (ih : ∀ (lo hi : SB) (b : Nat) (t : Tr) (w : World), NdT w h lo hi b t → t.sz ≤ 504 → (0 < h → 3 ≤ t.sz) → ins lo hi key → CS w a o → Calls Tryz.prog 91 #[pt b, .string key, .slice a n c] w fun e w' => ReplPost w h lo hi t key o e w') :
    Calls Tryz.prog 91 #[pt b, .string key, .slice a n c] w fun e w' => ReplPost w (h + 1) lo hi t key o e w' := by
  obtain ⟨pg, ks, ps, ts, rfl, hbp, hr⟩ := hn
  have hbr := hbp.bran
  simp only [Tr.sz] at hs hs3
  have hle := hr.len
  have hfa := hr.factsT
  have hg := kss_range hfa.2.2.2
  have hkl : ks.length ≤ 126 := by unfold brSz at hs; omega
  have hk1 : 1 ≤ ks.length := by
    cases ks with
    | nil => unfold brSz kss at hs3; simp at hs3
    | cons x r => simp
  have hway := hr.good.way Good.facts hi'
  have hwl := wayS_le ks key
  have hrep : rep (esL ts) key o = esL (ts.take (wayS ks key)) ++ (rep (ta ts (wayS ks key)).es key o ++ esL (ts.drop (wayS ks key + 1))) := by
    have hsplit := ts_split (ts := ts) (i := wayS ks key) (by omega)
    conv => lhs; rw [hsplit, esL_app, esL_app, esL_one]
    exact rep_mid (by rw [esL_flat, List.map_take]; exact hway.2.1) (by rw [esL_flat, List.map_drop]; exact hway.2.2) _ o
  have hkid : GoodT w h (lob lo ks (wayS ks key)) (hib hi ks (wayS ks key)) (na ps (wayS ks key)) (ta ts (wayS ks key)) := hr.kid hwl
  have hkf := hr.good.keys Good.facts
  have Hrep := Lib.hid hrep
  have Hkid := Lib.hid hkid
  have Hin := Lib.hid hway.1
  have Hbr := Lib.hid hbr
  have Hr := Lib.hid hr
  have He := Lib.hid hes
  have Hs := Lib.hid hs
  have Hih := Lib.hid ih
  obtain ⟨vk, vp, nb, ⟨a0, c0, rfl, s0, _⟩, ⟨a1, c1, rfl, s1, _⟩⟩ := hbr
  obtain ⟨g2, o2, rfl, hc2⟩ := s1.ptrs (by omega)
  have hil := Lib.hid (isLeaf_no b _ _ _ _ _ w nb (by omega))
  have q1 := nb.c2
  have Hnb := Lib.hid nb
  have Hway := Lib.hid (brWay_any a0 ks.length c0 ks key w rfl s0.texts hkf (by omega))
  have Hpt := Lib.hid (hc2 (wayS ks key) (by omega))
  have hwm : wayS ks key < ps.length := by omega
  have hm1 : ps.length ≤ 127 := by omega
  have Hk1 := Lib.hid (And.intro hk1 hwl)
  have Hlt : Hid (wayS ks key < ts.length) := by show _ < _; omega
  clear hbp nb s0 s1 hc2 hkid hway hwl hrep hkf hr hes hs ih hg hfa hle hs3 hkl hk1
  generalize wayS ks key = A at *
  generalize ps.length = m at *
  obtain ⟨n0, hn0⟩ : ∃ n0, ks.length = n0 := ⟨_, rfl⟩
  rw [hn0] at q1 Hway
  clear hn0
  go_enter Tryz.func91, Tryz.ntmps91
  go_wp2_with fail
  refine hil.out.mono ?_
  rintro e w' ⟨rfl, rfl⟩
  clear hil
  go_wp2_with fail
  refine Hway.out.mono ?_
  rintro e w1 ⟨rfl, hb1⟩
  have HB := Lib.hid hb1
  have q2 := (Hnb.out.ext hb1).c3
  have q3 : w1.cell? ⟨g2, o2 + A, none⟩ = some (pt (na ps A)) := by
    rw [hb1.cell (p := ⟨g2, o2 + A, none⟩) (block_lt_of_cell Hpt.out)]; exact Hpt.out
  obtain ⟨hk1, hk2, hk3⟩ := Hkid.out
  have Hcall := Lib.hid (Hih.out _ _ (na ps A) (ta ts A) w1 (NdT.ext hb1 h hk1) hk3 (fun _ => by omega) Hin.out (He.out.below hb1 (Nat.le_refl _)))
  clear hb1 hk1 q1 Hway
  have i1 : (0 : Int) ≤ (A : Int) := by omega
  have i2 : (A : Int) < (m : Int) := by omega
  generalize na ps A = pk at *
  go_wp2_with fail
  refine Hcall.out.mono ?_
  rintro e w2 ⟨b2, t2, rfl, hn2, ⟨he2, hp2, hf2⟩, hsz2, _, hb2⟩
  have Hf2 := Lib.hid (And.intro he2 (And.intro hp2 hf2))
  replace HB := Lib.hid (HB.out.trans (hb2.mono HB.out.size))
  have Hm := Lib.hid (mended_any b ks ps ts A b2 t2 t2.sz w2 (Hbr.out.ext HB.out) (Hr.out.mono (fun _ _ _ _ hg => GoodT.ext HB.out hg)) Hk1.out.1 Hs.out Hk1.out.2 hn2 rfl (by omega))
  clear he2 hp2 hf2 Hcall hn2 hb2 hsz2 q2 q3
  go_wp2_with fail
  refine Hm.out.mono ?_
  rintro e w3 ⟨b3, ks2, ps2, ts2, rfl, hbr3, hr3, ⟨hfl3, hfr3⟩, hz1, hz2, hb3⟩
  have Hfin : Hid (ReplPost w (h + 1) lo hi (.bran pg ks ts) key o (.returned (pt b3)) w3) := by
    refine ⟨b3, .bran 0 ks2 ts2, rfl, ndT_succ.2 ⟨0, ks2, ps2, ts2, rfl, hbr3, hr3⟩, ⟨by simp only [Tr.es]; rw [Hrep.out, hfl3, Hf2.out.1], rfl, ?_⟩, by simp only [Tr.sz]; omega, fun _ => ⟨hz1, hz2⟩, HB.out.trans (hb3.mono HB.out.size)⟩
    have f1 : Fr [ta ts A] [t2] (0 + 2 * h + 1) := ((Fr.kids (ta ts A)).trans Hf2.out.2.2).new Hf2.out.2.1
    have f2 := ((Fr.refl (ts.take A)).app (f1.app (Fr.refl (ts.drop (A + 1))))).trans (hfr3 Hf2.out.2.1)
    rw [← ts_split Hlt.out] at f2
    exact f2.mono (by omega)
  clear hfr3 hbr3 hr3 hfl3 hz1 hz2 hb3 Hm
  go_wp2
  go_ret
  exact Hfin.out
theorem replaced_any : ∀ (h : Nat) {lo hi : SB} (b : Nat) (t : Tr) (key : ByteArray) (a : Option Addr) (n c : Nat) (o : List En) (w : World), NdT w h lo hi b t → t.sz ≤ 504 → (0 < h → 3 ≤ t.sz) → ins lo hi key → oneO key o → (∀ x ∈ o, okE x) →
    o.length = n → (a = none → c = 0) → CS w a o → Calls Tryz.prog 91 #[pt b, .string key, .slice a n c] w fun e w' => ReplPost w h lo hi t key o e w'
  | 0, _, _, b, t, key, a, n, c, o, w, hn, hs, _, hi', ho, hoE, hno, hz, hes => replaced_leaf b t key a n c o w hn hs hi' ho hoE hno hes hz
  | h + 1, _, _, b, t, key, a, n, c, o, w, hn, hs, hs3, hi', ho, hoE, hno, hz, hes => replaced_bran b t key a n c o w hn hs (hs3 (by omega)) hi' hes (fun _ _ b t w h1 h2 h3 h4 h5 => replaced_any h b t key a n c o w h1 h2 h3 h4 ho hoE hno hz h5)
end Go.Proofs.YtdgladhfibfdlaaGreatDoor
namespace Go.Proofs.YtdgladhfibfdlaaGreatDoor
open Go Go.RowKit Go.Shelf
theorem notMay_any (k v : ByteArray) (n p : Int) (w : World) : Calls Tryz.prog 132 #[.agg #[.string k, .string v, .int .i64 n, .int .i64 p]] w fun e w' => e = .returned (.bool (!mayB ⟨k, v, n, p⟩)) ∧ Below w.heap.size w w' := by
  have hb0 : Below w.heap.size w (w.alloc (.cells #[.string k, .string v, .int .i64 n, .int .i64 p] CT)) := (Below.refl _ _).alloc (Nat.le_refl _) _
  have hb := Lib.hid hb0
  have hc := Lib.hid (leafCheck_any k v n p (w.alloc (.cells #[.string k, .string v, .int .i64 n, .int .i64 p] CT)))
  clear hb0
  generalize mayB ⟨k, v, n, p⟩ = M at *
  unfold chkC at hc
  cases M
  all_goals
    simp only [Bool.false_eq_true, if_false, if_true] at hc
    go_enter Tryz.func132, Tryz.ntmps132
    go_wp2_with fail
    refine hc.out.mono ?_
    rintro e w' ⟨rfl, hb2⟩
    have hbn := Lib.hid (hb.out.trans (hb2.mono hb.out.size))
    clear hb2
    go_wp2
    go_ret
    exact ⟨rfl, hbn.out⟩
set_option maxRecDepth 100000 in
theorem indexMay_any (a : Option Addr) (n c : Nat) (cs : List Ce) (w : World) (hn : cs.length = n) (hs : CSrc w a cs) (hl : n ≤ 9223372036854775807) :
    Calls Tryz.prog 169 #[.slice a n c, .func (.func 132) #[] #[]] w fun e w' => ∃ R : Int, e = .returned (.int .i64 R) ∧ (decide (0 ≤ R) = true ↔ ¬ allMay cs) ∧ Below w.heap.size w w' := by
  have Hs := Lib.hid hs
  have Hn := Lib.hid hn
  clear hs hn
  have eg : ∀ args w, (callFunc 132 args).run Tryz.prog w = .ok (.enter 132 args) w := enters_of Tryz.func132 (by kernel_rfl) rfl
  go_enter Tryz.func169, Tryz.ntmps169
  go_wp2
  go_loopw [5, 8] (fun _ i wr => ∃ k : Nat, k ≤ n ∧ i = .int .i64 k ∧ Hid (∀ j, j < k → mayB (ca cs j) = true) ∧ Hid (Below w.heap.size w wr)) (fun _ i _ => n - (intOf i).toNat)
  case atStart => exact ⟨0, Nat.zero_le _, rfl, fun j h => by omega, Below.refl _ _⟩
  case round =>
    obtain ⟨k, hk, rfl, hall, hB⟩ := hrel
    by_cases hlt : k < n
    · obtain ⟨g, o, rfl, hcell⟩ := Hs.out.below hB.out (Nat.le_refl _) (by rw [Hn.out]; omega)
      obtain ⟨q0, q1, q2, q3⟩ := hcell k (by rw [Hn.out]; exact hlt)
      have hyes : Hid (mayB (ca cs k) = true → ∀ j, j < k + 1 → mayB (ca cs j) = true) := fun h j hj => by
        rcases Nat.lt_or_ge j k with h1 | h1
        · exact hall.out j h1
        · obtain rfl : j = k := by omega
          exact h
      have hno : Hid (mayB (ca cs k) = false → ¬ allMay cs) := fun h h2 => by
        have := h2 k (by rw [Hn.out]; exact hlt)
        rw [h] at this; cases this
      clear hcell hall
      generalize ca cs k = y at *
      obtain ⟨x0, x1, x2, x3⟩ := y
      dsimp only at q0 q1 q2 q3
      have hcall := Lib.hid (notMay_any x0 x1 x2 x3 wr)
      generalize mayB ⟨x0, x1, x2, x3⟩ = M at *
      cases M with
      | true =>
        have hy := Lib.hid (hyes.out rfl)
        rw [show (!true) = false from rfl] at hcall
        clear hyes hno
        go_wp2_with (go_at_fn 132; refine hcall.out.mono ?_; rintro e w' ⟨rfl, hb⟩)
        have hB2 := Lib.hid (hB.out.trans (hb.mono hB.out.size))
        clear hb
        go_roundw
        case rel => exact ⟨k + 1, by omega, by go_num, hy, hB2⟩
        case measure => simp [intOf]; omega
      | false =>
        have hy := Lib.hid (hno.out rfl)
        rw [show (!false) = true from rfl] at hcall
        clear hyes hno
        go_wp2_with (go_at_fn 132; refine hcall.out.mono ?_; rintro e w' ⟨rfl, hb⟩)
        have hB2 := Lib.hid (hB.out.trans (hb.mono hB.out.size))
        clear hb
        go_ret
        exact ⟨_, rfl, ⟨fun _ => hy.out, fun _ => by simp⟩, hB2.out⟩
    · obtain rfl : k = n := by omega
      have hy : Hid (allMay cs) := fun j hj => hall.out j (by rw [← Hn.out]; exact hj)
      clear hall
      go_wp2
      go_ret
      exact ⟨_, rfl, ⟨fun h => by simp at h, fun h => absurd hy.out h⟩, hB.out⟩
theorem containsNot_any (a : Option Addr) (n c : Nat) (cs : List Ce) (w : World) (hn : cs.length = n) (hs : CSrc w a cs) (hl : n ≤ 9223372036854775807) :
    Calls Tryz.prog 131 #[.slice a n c, .func (.func 132) #[] #[]] w fun e w' => ∃ D, e = .returned (.bool D) ∧ (D = true ↔ ¬ allMay cs) ∧ Below w.heap.size w w' := by
  have hI := Lib.hid (indexMay_any a n c cs w hn hs hl)
  clear hn hs
  go_enter Tryz.func131, Tryz.ntmps131
  go_wp2_with (go_at_call 169; refine hI.out.mono ?_; rintro e w' ⟨R, rfl, hR, hb⟩; have HR := Lib.hid hR; have Hb := Lib.hid hb; clear hR hb)
  go_ret
  exact ⟨_, rfl, HR.out, Hb.out⟩
set_option maxRecDepth 100000 in
set_option maxHeartbeats 1000000 in
theorem encode_any (a : Option Addr) (n c : Nat) (cs : List Ce) (w : World) (hn : cs.length = n) (hs : CSrc w a cs) (hl : n ≤ 65536) :
    Calls Tryz.prog 98 #[.slice a n c] w fun e w' => ∃ v, e = .returned (.tuple #[v, errV (encE cs)]) ∧ Sl w' v (encB cs) ∧ Below w.heap.size w w' := by
  have Hs := Lib.hid hs
  have Hn := Lib.hid hn
  have hC := Lib.hid (containsNot_any a n c cs w hn hs (by omega))
  clear hs hn
  go_enter Tryz.func98, Tryz.ntmps98
  go_wp2_with fail
  refine hC.out.mono ?_
  rintro e w1 ⟨D, rfl, hD, hb1⟩
  have HD := Lib.hid hD
  have Hb1 := Lib.hid hb1
  clear hD hb1 hC
  cases D with
  | true =>
    have he := Lib.hid (enc_1 (HD.out.1 rfl))
    go_wp2
    go_ret2
    exact ⟨.slice none 0 0, by rw [he.out.1]; rfl, by rw [he.out.2]; exact Sl.none _, Hb1.out⟩
  | false =>
    have hall : Hid (allMay cs) := by
      show allMay cs
      by_cases h : allMay cs
      · exact h
      · have := HD.out.2 h; cases this
    clear HD
    have Hs1 := Lib.hid (Hs.out.below Hb1.out (Nat.le_refl _))
    go_wp2_with fail
    refine (ascend_any a n c cs w1 Hn.out Hs1.out (by omega)).mono ?_
    rintro e w2 ⟨D, rfl, hD, hb2⟩
    have HD := Lib.hid hD
    have Hs2 := Lib.hid (Hs1.out.below hb2 (Nat.le_refl _))
    have Hb2 := Lib.hid (Hb1.out.trans (hb2.mono Hb1.out.size))
    clear hD hb2 Hb1 Hs1
    cases D with
    | false =>
      have he := Lib.hid (enc_14 hall.out (fun h => by have := HD.out.2 h; cases this))
      clear HD
      go_wp2
      go_ret2
      exact ⟨.slice none 0 0, by rw [he.out.1]; rfl, by rw [he.out.2]; exact Sl.none _, Hb2.out⟩
    | true =>
      have hasc := Lib.hid (HD.out.1 rfl)
      clear HD
      have hll : Hid ((loadS cs).length = vs n + (body cs).length) := by show _ = _; rw [load_len, Hn.out]
      have hllb : (loadS cs).length ≤ 10 + 124 * n := by
        have h1 := sums_le hall.out cs.length (Nat.le_refl _)
        rw [sums_all cs _ (Nat.le_refl _), Hn.out] at h1
        have h2 := vs_le (show n < 18446744073709551616 by omega)
        rw [hll.out]; omega
      have h5 := Lib.hid (fun h => enc_5 hall.out hasc.out (show 504 < (loadS cs).length from h))
      have h0 := Lib.hid (fun h => enc_0 hall.out hasc.out (show (loadS cs).length ≤ 504 from h))
      have hsz := Lib.hid (leafSizes_any a n c cs w2 Hn.out Hs2.out (by omega) hall.out)
      have hload : Hid (loadS cs = vb n ++ body cs) := by show _ = _; unfold loadS; rw [Hn.out]
      generalize hLL : (loadS cs).length = LL at *
      have HLL := Lib.hid hLL
      clear hLL
      go_wp2_with fail
      refine hsz.out.mono ?_
      rintro e w3 ⟨rfl, hb3⟩
      have Hs3 := Lib.hid (Hs2.out.below hb3 (Nat.le_refl _))
      have Hb3 := Lib.hid (Hb2.out.trans (hb3.mono Hb2.out.size))
      clear hb3 Hb2 Hs2 hsz
      by_cases hlong : 504 < LL
      · have he := Lib.hid (h5.out hlong)
        have d1 : decide (504 < (LL : Int)) = true := by simp; omega
        clear h5 h0
        go_wp2
        go_ret2
        exact ⟨.slice none 0 0, by rw [he.out.1]; rfl, by rw [he.out.2]; exact Sl.none _, Hb3.out⟩
      · have he := Lib.hid (h0.out (by omega))
        have d1 : decide (504 < (LL : Int)) = false := by simp; omega
        clear h5 h0
        go_wp2_with fail
        refine (packNum_any none 0 0 [] rfl n w3 (Src.nil _ _) (by omega) (by omega)).mono ?_
        rintro e w4 ⟨v, rfl, hv, hb4⟩
        have Hs4 := Lib.hid (Hs3.out.below hb4 (Nat.le_refl _))
        have Hb4 := Lib.hid (Hb3.out.trans (hb4.mono Hb3.out.size))
        have Hv := Lib.hid hv
        clear hv hb4 Hb3 Hs3
        go_wp2_with fail
        go_loopw [4, 24] (fun b i wr => ∃ k : Nat, k ≤ n ∧ i = .int .i64 k ∧ Hid (Sl wr b (vb n ++ body (cs.take k))) ∧ Hid (Below w.heap.size w wr)) (fun _ i _ => n - (intOf i).toNat)
        case atStart => exact ⟨0, by omega, rfl, by show Sl _ _ _; have := Hv.out; rw [List.nil_append] at this; rw [List.take_zero, body, List.append_nil]; exact this, Hb4⟩
        case round =>
          obtain ⟨k, hk, rfl, hsl, hB⟩ := hrel
          by_cases hlt : k < n
          · obtain ⟨g, o, rfl, hcell⟩ := Hs.out.below hB.out (Nat.le_refl _) (by rw [Hn.out]; omega)
            obtain ⟨q0, q1, q2, q3⟩ := hcell k (by rw [Hn.out]; exact hlt)
            have hmay := hall.out k (by rw [Hn.out]; exact hlt)
            have hbs := Lib.hid (body_succ cs k (by rw [Hn.out]; exact hlt))
            obtain ⟨ab, cb, rfl, hsb, hzb, _⟩ := hsl.out.arg
            have hlen : (vb n ++ body (cs.take k)).length ≤ 504 := by
              have h1 := sums_mono cs k
              unfold sums at h1
              have h2 := hll.out
              rw [List.length_append]
              show vs n + _ ≤ _
              omega
            generalize ca cs k = y at *
            obtain ⟨x0, x1, x2, x3⟩ := y
            dsimp only at q0 q1 q2 q3
            have hnew : Below wr.heap.size wr (wr.alloc (.cells #[.string x0, .string x1, .int .i64 x2, .int .i64 x3] CT)) := (Below.refl _ _).alloc (Nat.le_refl _) _
            have hput := Lib.hid (leafPut_any ab _ cb _ x0 x1 x2 x3 (wr.alloc (.cells #[.string x0, .string x1, .int .i64 x2, .int .i64 x3] CT)) rfl (hsb.below hnew (Nat.le_refl _)) (by omega) hmay)
            have Hnew := Lib.hid (hB.out.trans (hnew.mono hB.out.size))
            generalize (vb n ++ body (cs.take k)).length = m at *
            clear hcell hmay hsb hzb hnew hsl hB
            go_wp2_with fail
            refine hput.out.mono ?_
            rintro e w5 ⟨v, rfl, hv, hb5⟩
            have hB2 := Lib.hid (Hnew.out.trans (hb5.mono Hnew.out.size))
            have hv2 : Hid (Sl w5 v (vb n ++ body (cs.take (k + 1)))) := by show Sl _ _ _; rw [hbs.out, ← List.append_assoc]; exact hv
            clear hv hb5 Hnew hput
            go_wp2
            go_roundw
            case rel => exact ⟨k + 1, by omega, by go_num, hv2, hB2⟩
            case measure => simp [intOf]; omega
          · obtain rfl : k = n := by omega
            have hsl2 := hsl.out
            rw [List.take_of_length_le (by rw [Hn.out]; exact Nat.le_refl _), ← hload.out] at hsl2
            have Hsl2 := Lib.hid hsl2
            clear hsl hsl2
            go_wp2
            go_ret2
            exact ⟨_, by rw [he.out.1]; rfl, by rw [he.out.2]; exact Hsl2.out, hB.out⟩
end Go.Proofs.YtdgladhfibfdlaaGreatDoor
