/-
  parted and joined of whole trees; what a row of kids is with some of them replaced.
-/
import Derived.Test.YtjkpjbgapemieaaGreatDoorPartZ
namespace Go.Proofs.YtjkpjbgapemieaaGreatDoor
open Go Go.RowKit

theorem sa_mem {ks : List ByteArray} {i : Nat} (h : i < ks.length) : sa ks i ∈ ks := by
  unfold sa; rw [List.getD_eq_getElem?_getD, List.getElem?_eq_getElem h]; exact List.getElem_mem _
/-- A node that has enough, be it too great or not, in one part or two. -/
theorem parted_good {h : Nat} {lo hi : SB} {b : Nat} {es : List En} {s : Nat} (w : World) (hn : Nd w h lo hi b es s) (h1 : 126 ≤ s) (h2 : s ≤ 700) :
    Calls Tryz.prog 74 #[pt b] w fun e w' => ∃ (vp vk : Value) (ks : List ByteArray) (ps : List Nat) (ess : List (List En)), e = .returned (.tuple #[vp, vk]) ∧ EV ptrE w' vp ps ∧ EV strE w' vk ks ∧ KRow (Good w' h) ks lo hi ps ess ∧ ess.flatten = es ∧ ks.length ≤ 1 ∧ Below w.heap.size w w' := by
  rcases Nat.lt_or_ge 504 s with h3 | h3
  · cases h with
    | zero =>
      obtain ⟨hl, hlt, hs, hok, rfl⟩ := hn
      refine (parted_leaf b es w hl (fun x hx => (hok x hx).1) h3 h2).mono ?_
      rintro e w' ⟨a, b1, b2, vp, vk, rfl, ep, ek, l1, l2, a1, a2, s1, s2, hb⟩
      have hk := hok _ (ea_mem a2)
      have h0 := hok _ (ea_mem (show 0 < es.length by omega))
      have hlt1 : blt (ea es 0).k (ea es a).k = true := srt_at hs a1 a2
      have hd := ea_drop es a a2
      have hsp := hs
      rw [← List.take_append_drop a es] at hsp
      have hpw := List.pairwise_append.1 hsp
      have hin1 : ∀ x ∈ es.take a, blt x.k (ea es a).k = true := fun x hx => hpw.2.2 x hx _ (by rw [hd]; simp)
      have hin2 : ∀ x ∈ es.drop a, blt x.k (ea es a).k = false := fun x hx => by
        rw [hd] at hx hpw
        rcases List.mem_cons.1 hx with rfl | hx
        · exact blt_self _
        · exact blt_asym ((List.pairwise_cons.1 hpw.2.1).1 x hx)
      refine ⟨vp, vk, [(ea es a).k], [b1, b2], [es.take a, es.drop a], rfl, ep, ek, ⟨b1, [b2], es.take a, [es.drop a], rfl, rfl, ⟨_, ⟨l1, ltO_of (k := (ea es 0).k) ⟨h0.2.1, hlt1⟩, hpw.1, fun x hx => ?_, rfl⟩, s1⟩, hk.1.1, b2, es.drop a, rfl, rfl, ⟨_, ⟨l2, ?_, hpw.2.1, fun x hx => ?_, rfl⟩, s2⟩⟩, ?_, Nat.le_refl _, hb⟩
      · have := hok x (List.mem_of_mem_take hx)
        exact ⟨this.1, this.2.1, hin1 x hx⟩
      · cases hi with
        | none => trivial
        | some q => exact hk.2.2
      · have := hok x (List.mem_of_mem_drop hx)
        exact ⟨this.1, hin2 x hx, this.2.2⟩
      · simp
    | succ h =>
      obtain ⟨ks, ps, ess, hl, hr, rfl, rfl⟩ := hn
      have hfa := hr.facts Good.facts
      have hle := hr.len
      refine (parted_bran b ks ps w hl hle.1 hfa.2.2.2 h3 h2).mono ?_
      rintro e w' ⟨a, b1, b2, vp, vk, rfl, ep, ek, l1, l2, a1, a2, s1, s2, hb⟩
      have hr' : KRow (Good w' h) ks lo hi ps ess := hr.mono (fun _ _ _ _ hg => Good.ext hb hg)
      obtain ⟨r1, r2, r3⟩ := hr'.split (i := a) (by omega)
      refine ⟨vp, vk, [sa ks a], [b1, b2], [(ess.take (a + 1)).flatten, (ess.drop (a + 1)).flatten], rfl, ep, ek, ⟨b1, [b2], _, [_], rfl, rfl, ⟨_, nd_succ.2 ⟨_, _, _, l1, r1, rfl, rfl⟩, s1⟩, r2, b2, _, rfl, rfl, ⟨_, nd_succ.2 ⟨_, _, _, l2, r3, rfl, rfl⟩, s2⟩⟩, ?_, Nat.le_refl _, hb⟩
      rw [List.flatten_cons, List.flatten_cons, List.flatten_nil, List.append_nil, ← List.flatten_append, List.take_append_drop]
  · refine (parted_fits b s w h3 (size_node w hn (by omega))).mono ?_
    rintro e w' ⟨vp, rfl, ep, hb⟩
    exact ⟨vp, nilS, [], [b], [es], rfl, ep, EV.none _, ⟨b, es, rfl, rfl, s, Nd.ext hb h hn, h1, h3⟩, by simp, by simp, hb⟩
/-- Two nodes side by side, as one. -/
theorem joined_node {h : Nat} {lo hi : SB} {k : ByteArray} {b1 b2 : Nat} {e1 e2 : List En} {s1 s2 : Nat} (w : World) (h1 : Nd w h lo (some k) b1 e1 s1) (h2 : Nd w h (some k) hi b2 e2 s2) (hk : okK k = true) (hs : s1 + s2 ≤ 1000) :
    Calls Tryz.prog 88 #[pt b1, .string k, pt b2] w fun e w' => ∃ b s, e = .returned (pt b) ∧ Nd w' h lo hi b (e1 ++ e2) s ∧ s ≤ s1 + s2 + 41 ∧ s1 ≤ s ∧ s2 ≤ s ∧ Below w.heap.size w w' := by
  cases h with
  | zero =>
    obtain ⟨l1, lt1, so1, ok1, z1⟩ := h1
    obtain ⟨l2, lt2, so2, ok2, z2⟩ := h2
    have g1 := szs_range (fun x hx => (ok1 x hx).1)
    have g2 := szs_range (fun x hx => (ok2 x hx).1)
    unfold leafSz at z1 z2
    refine (joined_leaf b1 b2 k e1 e2 w l1 l2 (by omega)).mono ?_
    rintro e w' ⟨b, rfl, lf, hb⟩
    have v1 := vs_pos e1.length
    have v2 := vs_pos e2.length
    have v3 : vs (e1 ++ e2).length ≤ 2 := vs_pow 2 _ (by rw [List.length_append]; omega) (by omega)
    have v4 : vs e1.length ≤ vs (e1 ++ e2).length := vs_mono _ _ (by rw [List.length_append]; omega)
    have v5 : vs e2.length ≤ vs (e1 ++ e2).length := vs_mono _ _ (by rw [List.length_append]; omega)
    have sz : leafSz (e1 ++ e2) = vs (e1 ++ e2).length + (szs e1 + szs e2) := by unfold leafSz; rw [szs_app]
    refine ⟨b, leafSz (e1 ++ e2), rfl, ⟨lf, ltO_trans lt1 lt2, ?_, fun x hx => ?_, rfl⟩, by omega, by omega, by omega, hb⟩
    · unfold srt
      rw [List.pairwise_append]
      exact ⟨so1, so2, fun x hx y hy => ble_lt (ok1 x hx).2.2 (ok2 y hy).2.1⟩
    · rcases List.mem_append.1 hx with hx | hx
      · exact ⟨(ok1 x hx).1, ins_left (ok1 x hx).2 lt2⟩
      · exact ⟨(ok2 x hx).1, ins_right (ok2 x hx).2 lt1⟩
  | succ h =>
    obtain ⟨ks1, ps1, ess1, l1, r1, rfl, z1⟩ := h1
    obtain ⟨ks2, ps2, ess2, l2, r2, rfl, z2⟩ := h2
    have n1 := r1.len
    have n2 := r2.len
    have g1 := kss_range (r1.facts Good.facts).2.2.2
    have g2 := kss_range (r2.facts Good.facts).2.2.2
    unfold brSz at z1 z2
    refine (joined_bran b1 b2 k ks1 ks2 ps1 ps2 w l1 l2 (by omega) (by omega) (by omega)).mono ?_
    rintro e w' ⟨b, rfl, lf, hb⟩
    have r1' : KRow (Good w' h) ks1 lo (some k) ps1 ess1 := r1.mono (fun _ _ _ _ hg => Good.ext hb hg)
    have r2' : KRow (Good w' h) ks2 (some k) hi ps2 ess2 := r2.mono (fun _ _ _ _ hg => Good.ext hb hg)
    have hks := okK_size hk
    have sz : brSz (ks1 ++ k :: ks2) = 2 + (kss ks1 + (3 + k.size + kss ks2)) := by unfold brSz; rw [kss_app, kss_cons]
    exact ⟨b, brSz (ks1 ++ k :: ks2), rfl, nd_succ.2 ⟨_, _, _, lf, r1'.append hk r2', by rw [List.flatten_append], rfl⟩, by omega, by omega, by omega, hb⟩
/-- A kid of a row. -/
theorem KRow.kid {G : SB → SB → Nat → List En → Prop} {ks : List ByteArray} {lo hi : SB} {ps : List Nat} {ess : List (List En)} {m : Nat} (h : KRow G ks lo hi ps ess) (hm : m ≤ ks.length) : G (lob lo ks m) (hib hi ks m) (na ps m) (ess.getD m []) := by
  have h1 := (h.left hm).1
  have hl := h.len
  unfold hib
  rcases Nat.lt_or_ge m ks.length with h2 | h2
  · rw [if_pos h2]
    rw [sa_drop ks m h2] at h1
    obtain ⟨p, ps', e, ess', h3, h4, h5, _⟩ := h1
    have e1 : na ps m = p := by
      unfold na; rw [List.getD_eq_getElem?_getD]
      have := congrArg (·[0]?) h3
      simp at this
      rw [this]; rfl
    have e2 : ess.getD m [] = e := by
      rw [List.getD_eq_getElem?_getD]
      have := congrArg (·[0]?) h4
      simp at this
      rw [this]; rfl
    rw [e1, e2]; exact h5
  · rw [if_neg (by omega)]
    rw [List.drop_of_length_le h2] at h1
    obtain ⟨p, e, h3, h4, h5⟩ := h1
    have e1 : na ps m = p := by
      unfold na; rw [List.getD_eq_getElem?_getD]
      have := congrArg (·[0]?) h3
      simp at this
      rw [this]; rfl
    have e2 : ess.getD m [] = e := by
      rw [List.getD_eq_getElem?_getD]
      have := congrArg (·[0]?) h4
      simp at this
      rw [this]; rfl
    rw [e1, e2]; exact h5
/-- A row with a part replaced. -/
theorem mend_row {h : Nat} {w w' : World} {ks : List ByteArray} {lo hi : SB} {ps : List Nat} {ess : List (List En)} {i j : Nat} {ks' : List ByteArray} {ps' : List Nat} {ess' : List (List En)} (hr : KRow (Good w h) ks lo hi ps ess) (hb : Below w.heap.size w w')
    (hij : i ≤ j) (hj : j ≤ ks.length) (hji : j ≤ i + 1) (hr' : KRow (Good w' h) ks' (lob lo ks i) (hib hi ks j) ps' ess') (hk : ks'.length ≤ 1) :
    KRow (Good w' h) (ks.take i ++ (ks' ++ ks.drop j)) lo hi (ps.take i ++ (ps' ++ ps.drop (j + 1))) (ess.take i ++ (ess' ++ ess.drop (j + 1))) ∧
    brSz (ks.take i ++ (ks' ++ ks.drop j)) ≤ brSz ks + 43 ∧ brSz ks ≤ brSz (ks.take i ++ (ks' ++ ks.drop j)) + 43 := by
  have hr2 : KRow (Good w' h) ks lo hi ps ess := hr.mono (fun _ _ _ _ hg => Good.ext hb hg)
  have hok := (hr2.facts Good.facts).2.2.2
  have hok' := (hr'.facts Good.facts).2.2.2
  have g' := kss_range hok'
  refine ⟨(hr2.cut hij hj).2 _ _ _ hr', ?_⟩
  have e1 : kss ks = kss (ks.take i) + kss (ks.drop i) := by rw [← kss_app, List.take_append_drop]
  have e2 : kss (ks.drop i) = kss ((ks.drop i).take (j - i)) + kss (ks.drop j) := by
    rw [← kss_app]
    have : ks.drop j = (ks.drop i).drop (j - i) := by rw [List.drop_drop]; congr 1; omega
    rw [this, List.take_append_drop]
  have g2 := kss_range (ks := (ks.drop i).take (j - i)) (fun x hx => hok x (List.mem_of_mem_drop (List.mem_of_mem_take hx)))
  have hl : ((ks.drop i).take (j - i)).length ≤ 1 := by rw [List.length_take]; omega
  unfold brSz
  rw [kss_app, kss_app]
  omega
theorem ps1_take (ps : List Nat) (p i at' : Nat) (h : at' < ps.length) (hi : i ≤ at') : (ps.take at' ++ ([p] ++ ps.drop (at' + 1))).take i = ps.take i := by
  rw [List.take_append_of_le_length (by rw [List.length_take]; omega), List.take_take, Nat.min_eq_left hi]
theorem ps1_drop (ps : List Nat) (p m at' : Nat) (h : at' < ps.length) (hm : at' < m) : (ps.take at' ++ ([p] ++ ps.drop (at' + 1))).drop m = ps.drop m := by
  rw [← List.append_assoc, List.drop_append]
  have e : (ps.take at' ++ [p]).length = at' + 1 := by rw [List.length_append, List.length_take]; simp; omega
  rw [List.drop_of_length_le (by omega), List.nil_append, e, List.drop_drop]
  congr 1; omega
theorem ps1_at (ps : List Nat) (p at' : Nat) (h : at' < ps.length) : na (ps.take at' ++ ([p] ++ ps.drop (at' + 1))) at' = p := by
  have e : (ps.take at').length = at' := by rw [List.length_take]; omega
  unfold na
  rw [List.getD_eq_getElem?_getD, List.getElem?_append_right (by omega), e, Nat.sub_self]; rfl
theorem ps1_lt (ps : List Nat) (p at' m : Nat) (h : at' < ps.length) (hm : m < at') : na (ps.take at' ++ ([p] ++ ps.drop (at' + 1))) m = na ps m := by
  unfold na
  rw [List.getD_eq_getElem?_getD, List.getElem?_append_left (by rw [List.length_take]; omega), List.getElem?_take, if_pos hm, List.getD_eq_getElem?_getD]
theorem ps1_gt (ps : List Nat) (p at' : Nat) (h : at' < ps.length) : na (ps.take at' ++ ([p] ++ ps.drop (at' + 1))) (at' + 1) = na ps (at' + 1) := by
  have e : (ps.take at').length = at' := by rw [List.length_take]; omega
  unfold na
  rw [List.getD_eq_getElem?_getD, List.getElem?_append_right (by omega), e, show at' + 1 - at' = 1 by omega, List.getElem?_append_right (by simp)]
  simp [List.getD_eq_getElem?_getD]
theorem ps1_len (ps : List Nat) (p at' : Nat) (h : at' < ps.length) : (ps.take at' ++ ([p] ++ ps.drop (at' + 1))).length = ps.length := by
  simp only [List.length_append, List.length_take, List.length_drop, List.length_cons, List.length_nil]; omega
theorem ess_take {ess : List (List En)} {i : Nat} (h : i < ess.length) : (ess.take (i + 1)).flatten = (ess.take i).flatten ++ ess.getD i [] := by
  rw [List.take_succ_eq_append_getElem h, List.flatten_append]
  simp [List.getD, h]
theorem ess_drop {ess : List (List En)} {i : Nat} (h : i < ess.length) : (ess.drop i).flatten = ess.getD i [] ++ (ess.drop (i + 1)).flatten := by
  rw [List.drop_eq_getElem_cons h, List.flatten_cons]
  simp [List.getD, h]
end Go.Proofs.YtjkpjbgapemieaaGreatDoor
