/-
  parted and joined of whole trees; what a row of kids is with some of them replaced.
-/
import Derived.Test.YtbgkjniagedcnaaGreatDoorPartZ
namespace Go.Proofs.YtbgkjniagedcnaaGreatDoor
open Go Go.RowKit

theorem sa_mem {ks : List ByteArray} {i : Nat} (h : i < ks.length) : sa ks i ∈ ks := by
  unfold sa; rw [List.getD_eq_getElem?_getD, List.getElem?_eq_getElem h]; exact List.getElem_mem _
/-- What parted makes of a tree. -/
def Halves (t : Tr) (ts : List Tr) : Prop := (t.sz ≤ 504 ∧ ts = [t]) ∨ (504 < t.sz ∧ ((∃ pg cs a, t = .leaf pg cs ∧ ts = [.leaf 0 (cs.take a), .leaf 0 (cs.drop a)]) ∨ ∃ pg ks kids a, t = .bran pg ks kids ∧ ts = [.bran 0 (ks.take a) (kids.take (a + 1)), .bran 0 (ks.drop (a + 1)) (kids.drop (a + 1))]))
theorem fr_kids {t : Tr} {pg : Nat} {ks : List ByteArray} {ts : List Tr} (h : t = .bran pg ks ts) : Fr [t] ts 0 := by
  have := Fr.kids t
  rw [h] at this ⊢
  exact this
/-- Where a tree lies nowhere itself, its halves have one node more at most that lies nowhere. -/
theorem Halves.fr {t : Tr} {ts : List Tr} (h : Halves t ts) (h0 : t.pg = 0) : Fr [t] ts 1 := by
  rcases h with ⟨_, rfl⟩ | ⟨_, ⟨pg, cs, a, rfl, rfl⟩ | ⟨pg, ks, kids, a, rfl, rfl⟩⟩
  · exact (Fr.refl _).mono (by omega)
  · obtain rfl : pg = 0 := h0
    refine ⟨fun p => by simp [pgsL, Tr.pgs], by simp [nwL, Tr.nw], fun Q _ => by simp [onL, Tr.on]⟩
  · obtain rfl : pg = 0 := h0
    have e := List.take_append_drop (a + 1) kids
    refine ⟨fun p => ?_, ?_, fun Q q => ?_⟩
    · have e2 : (pgsL kids).count p = (pgsL (kids.take (a + 1))).count p + (pgsL (kids.drop (a + 1))).count p := by rw [← List.count_append, ← pgsL_app, e]
      simp [pgsL, Tr.pgs, List.count_append]
      omega
    · have e2 : nwL kids = nwL (kids.take (a + 1)) + nwL (kids.drop (a + 1)) := by rw [← nwL_app, e]
      simp only [nwL, Tr.nw, if_pos, Nat.add_zero]
      omega
    · rw [onL_one, Tr.on] at q
      have q2 := q.2
      rw [← e, onL_app] at q2
      simp only [onL, Tr.on, and_true]
      exact ⟨⟨fun h => absurd rfl h, q2.1⟩, fun h => absurd rfl h, q2.2⟩
theorem Halves.nw {t : Tr} {ts : List Tr} (h : Halves t ts) (h1 : 504 < t.sz) : ∀ u ∈ ts, u.pg = 0 := by
  rcases h with ⟨h2, _⟩ | ⟨_, ⟨pg, cs, a, rfl, rfl⟩ | ⟨pg, ks, kids, a, rfl, rfl⟩⟩
  · omega
  all_goals intro u hu; simp only [List.mem_cons, List.not_mem_nil, or_false] at hu; rcases hu with rfl | rfl <;> rfl
/-- A node that has enough, be it too great or not, in one part or two. -/
theorem parted_good {h : Nat} {lo hi : SB} {b : Nat} {t : Tr} (w : World) (hn : NdT w h lo hi b t) (h1 : 126 ≤ t.sz) (h2 : t.sz ≤ 700) :
    Calls Tryz.prog 77 #[pt b] w fun e w' => ∃ (vp vk : Value) (ks : List ByteArray) (ps : List Nat) (ts : List Tr), e = .returned (.tuple #[vp, vk]) ∧ EV ptrE w' vp ps ∧ EV strE w' vk ks ∧ KRow (GoodT w' h) ks lo hi ps ts ∧ (esL ts = t.es ∧ Halves t ts) ∧ ks.length ≤ 1 ∧ Below w.heap.size w w' := by
  rcases Nat.lt_or_ge 504 t.sz with h3 | h3
  · cases h with
    | zero =>
      obtain ⟨pg, es, rfl, hl, hlt, hs, hok⟩ := hn
      have h3' := h3
      simp only [Tr.sz] at h3 h2
      refine (parted_leaf b es w hl.leaf (fun x hx => (hok x hx).1) h3 h2).mono ?_
      rintro e w' ⟨a, b1, b2, vp, vk, rfl, ep, ek, l1, l2, a1, a2, s1, s2, hb⟩
      have hk := hok _ (ea_mem a2)
      have h0 := hok _ (ea_mem (show 0 < es.length by omega))
      have hlt1 : blt (ea es 0).k (ea es a).k = true := srt_at hs a1 a2
      have hd := ea_drop es a a2
      have hsp := hs
      rw [← List.take_append_drop a es] at hsp
      have hpw := List.pairwise_append.1 hsp
      have hin1 : ∀ x ∈ es.take a, blt x.k (ea es a).k = true := fun x hx => hpw.2.2 x hx _ (by rw [hd]; simp)
      have hin2 : ∀ x ∈ es.drop a, blt x.k (ea es a).k = false := fun x hx => by
        rw [hd] at hx hpw
        rcases List.mem_cons.1 hx with rfl | hx
        · exact blt_self _
        · exact blt_asym ((List.pairwise_cons.1 hpw.2.1).1 x hx)
      refine ⟨vp, vk, [(ea es a).k], [b1, b2], [.leaf 0 (es.take a), .leaf 0 (es.drop a)], rfl, ep, ek, ⟨b1, [b2], _, [_], rfl, rfl, ⟨⟨0, _, rfl, l1, ltO_of (k := (ea es 0).k) ⟨h0.2.1, hlt1⟩, hpw.1, fun x hx => ?_⟩, s1⟩, hk.1.1, b2, _, rfl, rfl, ⟨⟨0, _, rfl, l2, ?_, hpw.2.1, fun x hx => ?_⟩, s2⟩⟩, ⟨?_, .inr ⟨h3', .inl ⟨pg, es, a, rfl, rfl⟩⟩⟩, Nat.le_refl _, hb⟩
      · have := hok x (List.mem_of_mem_take hx)
        exact ⟨this.1, this.2.1, hin1 x hx⟩
      · cases hi with
        | none => trivial
        | some q => exact hk.2.2
      · have := hok x (List.mem_of_mem_drop hx)
        exact ⟨this.1, hin2 x hx, this.2.2⟩
      · simp [esL, Tr.es]
    | succ h =>
      obtain ⟨pg, ks, ps, ts, rfl, hl, hr⟩ := hn
      have h3' := h3
      simp only [Tr.sz] at h3 h2
      have hfa := hr.factsT
      have hle := hr.len
      refine (parted_bran b ks ps w hl.bran hle.1 hfa.2.2.2 h3 h2).mono ?_
      rintro e w' ⟨a, b1, b2, vp, vk, rfl, ep, ek, l1, l2, a1, a2, s1, s2, hb⟩
      have hr' : KRow (GoodT w' h) ks lo hi ps ts := hr.mono (fun _ _ _ _ hg => GoodT.ext hb hg)
      obtain ⟨r1, r2, r3⟩ := hr'.split (i := a) (by omega)
      refine ⟨vp, vk, [sa ks a], [b1, b2], [.bran 0 (ks.take a) (ts.take (a + 1)), .bran 0 (ks.drop (a + 1)) (ts.drop (a + 1))], rfl, ep, ek, ⟨b1, [b2], _, [_], rfl, rfl, ⟨ndT_succ.2 ⟨0, _, _, _, rfl, l1, r1⟩, s1⟩, r2, b2, _, rfl, rfl, ⟨ndT_succ.2 ⟨0, _, _, _, rfl, l2, r3⟩, s2⟩⟩, ⟨?_, .inr ⟨h3', .inr ⟨pg, ks, ts, a, rfl, rfl⟩⟩⟩, Nat.le_refl _, hb⟩
      simp only [esL, Tr.es, List.append_nil]
      rw [← esL_app, List.take_append_drop]
  · refine (parted_fits b t.sz w h3 (size_node w (NdT.nd h hn) (by omega))).mono ?_
    rintro e w' ⟨vp, rfl, ep, hb⟩
    exact ⟨vp, nilS, [], [b], [t], rfl, ep, EV.none _, ⟨b, t, rfl, rfl, NdT.ext hb h hn, h1, h3⟩, ⟨esL_one t, .inl ⟨h3, rfl⟩⟩, by simp, hb⟩
/-- Two nodes side by side, as one. -/
theorem joined_node {h : Nat} {lo hi : SB} {k : ByteArray} {b1 b2 : Nat} {t1 t2 : Tr} (w : World) (h1 : NdT w h lo (some k) b1 t1) (h2 : NdT w h (some k) hi b2 t2) (hk : okK k = true) (hs : t1.sz + t2.sz ≤ 1000) :
    Calls Tryz.prog 90 #[pt b1, .string k, pt b2] w fun e w' => ∃ b t, e = .returned (pt b) ∧ NdT w' h lo hi b t ∧ (t.es = t1.es ++ t2.es ∧ t.pg = 0 ∧ t.kids = t1.kids ++ t2.kids) ∧ t.sz ≤ t1.sz + t2.sz + 41 ∧ t1.sz ≤ t.sz ∧ t2.sz ≤ t.sz ∧ Below w.heap.size w w' := by
  cases h with
  | zero =>
    obtain ⟨pg1, e1, rfl, l1, lt1, so1, ok1⟩ := h1
    obtain ⟨pg2, e2, rfl, l2, lt2, so2, ok2⟩ := h2
    have g1 := szs_range (fun x hx => (ok1 x hx).1)
    have g2 := szs_range (fun x hx => (ok2 x hx).1)
    simp only [Tr.sz] at hs ⊢
    have z1 : leafSz e1 = vs e1.length + szs e1 := rfl
    have z2 : leafSz e2 = vs e2.length + szs e2 := rfl
    refine (joined_leaf b1 b2 k e1 e2 w l1.leaf l2.leaf (by omega)).mono ?_
    rintro e w' ⟨b, rfl, lf, hb⟩
    have v1 := vs_pos e1.length
    have v2 := vs_pos e2.length
    have v3 : vs (e1 ++ e2).length ≤ 2 := vs_pow 2 _ (by rw [List.length_append]; omega) (by omega)
    have v4 : vs e1.length ≤ vs (e1 ++ e2).length := vs_mono _ _ (by rw [List.length_append]; omega)
    have v5 : vs e2.length ≤ vs (e1 ++ e2).length := vs_mono _ _ (by rw [List.length_append]; omega)
    have sz : leafSz (e1 ++ e2) = vs (e1 ++ e2).length + (szs e1 + szs e2) := by unfold leafSz; rw [szs_app]
    refine ⟨b, .leaf 0 (e1 ++ e2), rfl, ⟨0, _, rfl, lf, ltO_trans lt1 lt2, ?_, fun x hx => ?_⟩, ⟨by simp only [Tr.es], rfl, rfl⟩, by simp only; omega, by simp only; omega, by simp only; omega, hb⟩
    · unfold srt
      rw [List.pairwise_append]
      exact ⟨so1, so2, fun x hx y hy => ble_lt (ok1 x hx).2.2 (ok2 y hy).2.1⟩
    · rcases List.mem_append.1 hx with hx | hx
      · exact ⟨(ok1 x hx).1, ins_left (ok1 x hx).2 lt2⟩
      · exact ⟨(ok2 x hx).1, ins_right (ok2 x hx).2 lt1⟩
  | succ h =>
    obtain ⟨pg1, ks1, ps1, ts1, rfl, l1, r1⟩ := h1
    obtain ⟨pg2, ks2, ps2, ts2, rfl, l2, r2⟩ := h2
    have n1 := r1.len
    have n2 := r2.len
    have g1 := kss_range r1.factsT.2.2.2
    have g2 := kss_range r2.factsT.2.2.2
    simp only [Tr.sz] at hs ⊢
    have z1 : brSz ks1 = 2 + kss ks1 := rfl
    have z2 : brSz ks2 = 2 + kss ks2 := rfl
    refine (joined_bran b1 b2 k ks1 ks2 ps1 ps2 w l1.bran l2.bran (by omega) (by omega) (by omega)).mono ?_
    rintro e w' ⟨b, rfl, lf, hb⟩
    have r1' : KRow (GoodT w' h) ks1 lo (some k) ps1 ts1 := r1.mono (fun _ _ _ _ hg => GoodT.ext hb hg)
    have r2' : KRow (GoodT w' h) ks2 (some k) hi ps2 ts2 := r2.mono (fun _ _ _ _ hg => GoodT.ext hb hg)
    have hks := okK_size hk
    have sz : brSz (ks1 ++ k :: ks2) = 2 + (kss ks1 + (3 + k.size + kss ks2)) := by unfold brSz; rw [kss_app, kss_cons]
    exact ⟨b, .bran 0 (ks1 ++ k :: ks2) (ts1 ++ ts2), rfl, ndT_succ.2 ⟨0, _, _, _, rfl, lf, r1'.append hk r2'⟩, ⟨by simp only [Tr.es, esL_app], rfl, rfl⟩, by simp only; omega, by simp only; omega, by simp only; omega, hb⟩
/-- Two trees and their join: where one of them lies nowhere, nothing more lies nowhere. -/
theorem fr_join {t1 t2 t : Tr} (h0 : t.pg = 0) (hk : t.kids = t1.kids ++ t2.kids) (h1 : t1.pg = 0 ∨ t2.pg = 0) : Fr [t1, t2] [t] 0 := by
  have e1 : t1.nw = (if t1.pg = 0 then 1 else 0) + nwL t1.kids := t1.nw_eq
  have e2 : t2.nw = (if t2.pg = 0 then 1 else 0) + nwL t2.kids := t2.nw_eq
  refine ⟨fun p => ?_, ?_, fun Q q => ?_⟩
  · simp only [pgsL, List.append_nil]
    rw [t.pgs_eq, if_pos h0, hk, pgsL_app, t1.pgs_eq, t2.pgs_eq]
    simp only [List.nil_append, List.count_append]
    omega
  · have e3 := nw_new h0
    rw [hk, nwL_app] at e3
    simp only [nwL]
    rcases h1 with h1 | h1
    · rw [if_pos h1] at e1; omega
    · rw [if_pos h1] at e2; omega
  · rw [onL_one]
    simp only [onL] at q
    refine t.on_new h0 ?_
    rw [hk, onL_app]
    exact ⟨t1.on_kids q.1, t2.on_kids q.2.1⟩
/-- A kid of a row. -/
theorem KRow.kid {β : Type} {G : SB → SB → Nat → β → Prop} {ks : List ByteArray} {lo hi : SB} {ps : List Nat} {ess : List β} {m : Nat} {d : β} (h : KRow G ks lo hi ps ess) (hm : m ≤ ks.length) : G (lob lo ks m) (hib hi ks m) (na ps m) (ess.getD m d) := by
  have h1 := (h.left hm).1
  have hl := h.len
  unfold hib
  rcases Nat.lt_or_ge m ks.length with h2 | h2
  · rw [if_pos h2]
    rw [sa_drop ks m h2] at h1
    obtain ⟨p, ps', e, ess', h3, h4, h5, _⟩ := h1
    have e1 : na ps m = p := by
      unfold na; rw [List.getD_eq_getElem?_getD]
      have := congrArg (·[0]?) h3
      simp at this
      rw [this]; rfl
    have e2 : ess.getD m d = e := by
      rw [List.getD_eq_getElem?_getD]
      have := congrArg (·[0]?) h4
      simp at this
      rw [this]; rfl
    rw [e1, e2]; exact h5
  · rw [if_neg (by omega)]
    rw [List.drop_of_length_le h2] at h1
    obtain ⟨p, e, h3, h4, h5⟩ := h1
    have e1 : na ps m = p := by
      unfold na; rw [List.getD_eq_getElem?_getD]
      have := congrArg (·[0]?) h3
      simp at this
      rw [this]; rfl
    have e2 : ess.getD m d = e := by
      rw [List.getD_eq_getElem?_getD]
      have := congrArg (·[0]?) h4
      simp at this
      rw [this]; rfl
    rw [e1, e2]; exact h5
/-- A row with a part replaced. -/
theorem mend_row {h : Nat} {w w' : World} {ks : List ByteArray} {lo hi : SB} {ps : List Nat} {ts : List Tr} {i j : Nat} {ks' : List ByteArray} {ps' : List Nat} {ts' : List Tr} (hr : KRow (GoodT w h) ks lo hi ps ts) (hb : Below w.heap.size w w')
    (hij : i ≤ j) (hj : j ≤ ks.length) (hji : j ≤ i + 1) (hr' : KRow (GoodT w' h) ks' (lob lo ks i) (hib hi ks j) ps' ts') (hk : ks'.length ≤ 1) :
    KRow (GoodT w' h) (ks.take i ++ (ks' ++ ks.drop j)) lo hi (ps.take i ++ (ps' ++ ps.drop (j + 1))) (ts.take i ++ (ts' ++ ts.drop (j + 1))) ∧
    brSz (ks.take i ++ (ks' ++ ks.drop j)) ≤ brSz ks + 43 ∧ brSz ks ≤ brSz (ks.take i ++ (ks' ++ ks.drop j)) + 43 := by
  have hr2 : KRow (GoodT w' h) ks lo hi ps ts := hr.mono (fun _ _ _ _ hg => GoodT.ext hb hg)
  have hok := hr2.factsT.2.2.2
  have hok' := hr'.factsT.2.2.2
  have g' := kss_range hok'
  refine ⟨(hr2.cut hij hj).2 _ _ _ hr', ?_⟩
  have e1 : kss ks = kss (ks.take i) + kss (ks.drop i) := by rw [← kss_app, List.take_append_drop]
  have e2 : kss (ks.drop i) = kss ((ks.drop i).take (j - i)) + kss (ks.drop j) := by
    rw [← kss_app]
    have : ks.drop j = (ks.drop i).drop (j - i) := by rw [List.drop_drop]; congr 1; omega
    rw [this, List.take_append_drop]
  have g2 := kss_range (ks := (ks.drop i).take (j - i)) (fun x hx => hok x (List.mem_of_mem_drop (List.mem_of_mem_take hx)))
  have hl : ((ks.drop i).take (j - i)).length ≤ 1 := by rw [List.length_take]; omega
  unfold brSz
  rw [kss_app, kss_app]
  omega
theorem ps1_take (ps : List Nat) (p i at' : Nat) (h : at' < ps.length) (hi : i ≤ at') : (ps.take at' ++ ([p] ++ ps.drop (at' + 1))).take i = ps.take i := by
  rw [List.take_append_of_le_length (by rw [List.length_take]; omega), List.take_take, Nat.min_eq_left hi]
theorem ps1_drop (ps : List Nat) (p m at' : Nat) (h : at' < ps.length) (hm : at' < m) : (ps.take at' ++ ([p] ++ ps.drop (at' + 1))).drop m = ps.drop m := by
  rw [← List.append_assoc, List.drop_append]
  have e : (ps.take at' ++ [p]).length = at' + 1 := by rw [List.length_append, List.length_take]; simp; omega
  rw [List.drop_of_length_le (by omega), List.nil_append, e, List.drop_drop]
  congr 1; omega
theorem ps1_at (ps : List Nat) (p at' : Nat) (h : at' < ps.length) : na (ps.take at' ++ ([p] ++ ps.drop (at' + 1))) at' = p := by
  have e : (ps.take at').length = at' := by rw [List.length_take]; omega
  unfold na
  rw [List.getD_eq_getElem?_getD, List.getElem?_append_right (by omega), e, Nat.sub_self]; rfl
theorem ps1_lt (ps : List Nat) (p at' m : Nat) (h : at' < ps.length) (hm : m < at') : na (ps.take at' ++ ([p] ++ ps.drop (at' + 1))) m = na ps m := by
  unfold na
  rw [List.getD_eq_getElem?_getD, List.getElem?_append_left (by rw [List.length_take]; omega), List.getElem?_take, if_pos hm, List.getD_eq_getElem?_getD]
theorem ps1_gt (ps : List Nat) (p at' : Nat) (h : at' < ps.length) : na (ps.take at' ++ ([p] ++ ps.drop (at' + 1))) (at' + 1) = na ps (at' + 1) := by
  have e : (ps.take at').length = at' := by rw [List.length_take]; omega
  unfold na
  rw [List.getD_eq_getElem?_getD, List.getElem?_append_right (by omega), e, show at' + 1 - at' = 1 by omega, List.getElem?_append_right (by simp)]
  simp [List.getD_eq_getElem?_getD]
theorem ps1_len (ps : List Nat) (p at' : Nat) (h : at' < ps.length) : (ps.take at' ++ ([p] ++ ps.drop (at' + 1))).length = ps.length := by
  simp only [List.length_append, List.length_take, List.length_drop, List.length_cons, List.length_nil]; omega
theorem ess_take {ess : List (List En)} {i : Nat} (h : i < ess.length) : (ess.take (i + 1)).flatten = (ess.take i).flatten ++ ess.getD i [] := by
  rw [List.take_succ_eq_append_getElem h, List.flatten_append]
  simp [List.getD, h]
theorem ess_drop {ess : List (List En)} {i : Nat} (h : i < ess.length) : (ess.drop i).flatten = ess.getD i [] ++ (ess.drop (i + 1)).flatten := by
  rw [List.drop_eq_getElem_cons h, List.flatten_cons]
  simp [List.getD, h]
instance : Inhabited Tr := ⟨.leaf 0 []⟩
/-- The tree at a place. -/
def ta (ts : List Tr) (i : Nat) : Tr := ts.getD i default
theorem ts_take {ts : List Tr} {i : Nat} (h : i < ts.length) : ts.take (i + 1) = ts.take i ++ [ta ts i] := by
  rw [List.take_succ_eq_append_getElem h]; simp [ta, List.getD, h]
theorem ts_drop {ts : List Tr} {i : Nat} (h : i < ts.length) : ts.drop i = ta ts i :: ts.drop (i + 1) := by
  rw [List.drop_eq_getElem_cons h]; simp [ta, List.getD, h]
theorem ts_split {ts : List Tr} {i : Nat} (h : i < ts.length) : ts = ts.take i ++ ([ta ts i] ++ ts.drop (i + 1)) := by
  conv => lhs; rw [← List.take_append_drop i ts, ts_drop h]
  rfl
end Go.Proofs.YtbgkjniagedcnaaGreatDoor
