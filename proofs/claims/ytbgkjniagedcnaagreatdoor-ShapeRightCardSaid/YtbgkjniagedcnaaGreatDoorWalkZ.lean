/-
  tree's walked: the entries that are not below a key, handed on till a closure tells to end.
  tree's walked at a branch, and at any tree.
-/
import Derived.Test.YtbgkjniagedcnaaGreatDoorTreeZ
import Derived.Test.YtbgkjniagedcnaaGreatDoorRefTreeZ
import Derived.Shelf.GgClosure.Gives
namespace Go.Proofs.YtbgkjniagedcnaaGreatDoor
open Go Go.RowKit Go.Shelf

/-- A closure that is handed entries one by one: within the span, and as long as it goes on. -/
def Clo (g : Nat) (caps : Array Value) (N : Nat) (s : Sp) (d : List En → Bool) (J : List En → World → Prop) : Prop :=
  ∀ (acc : List En) (e : En) (w : World), acc.length < N → J acc w → Calls Tryz.prog g (#[.agg #[.string e.k, .string e.v]] ++ caps) w fun x w' => x = .returned (.bool (hasS s e.k && d (acc ++ [e]))) ∧ J (if hasS s e.k = true then acc ++ [e] else acc) w'
/-- What holds beside a tree while it is gone through. -/
structure JOk (w0 : World) (J : List En → World → Prop) : Prop where
  b : ∀ {acc w}, J acc w → Below w0.heap.size w0 w
  ext : ∀ {acc w w'}, J acc w → Below w.heap.size w w' → J acc w'
def WPost (J : List En → World → Prop) (R : List En × Bool) (e : Ending) (w' : World) : Prop := e = .returned (.bool R.2) ∧ J R.1 w'
theorem wkS_step (s : Sp) (d : List En → Bool) (acc : List En) (e : En) (r : List En) :
    wkS s d acc (e :: r) = if (hasS s e.k && d (acc ++ [e])) = true then wkS s d (if hasS s e.k = true then acc ++ [e] else acc) r else (if hasS s e.k = true then acc ++ [e] else acc, false) := by
  rw [wkS_cons]
  cases hasS s e.k <;> cases d (acc ++ [e]) <;> rfl
/-- What is left of a slice of cells from a place on. -/
theorem drop_cells {w : World} {g o c n r : Nat} {es : List En} (hs : CS w (some ⟨g, o, none⟩) es) (hn : es.length = n) (hr : r ≤ n) (hnc : n ≤ c) :
    ∃ A3, (if c = r then some (⟨g, o, none⟩ : Addr) else some ⟨g, o + r * 3, none⟩) = A3 ∧ (0 < (es.drop r).length → CS w A3 (es.drop r)) := by
  refine ⟨_, rfl, fun h0 => ?_⟩
  rw [List.length_drop] at h0
  rw [if_neg (by omega)]
  exact hs.drop r _ (by omega) rfl
theorem visS_bare (lo : ByteArray) (es : List En) : visS lo (bare es) = bare (es.drop (fE es lo)) := by
  unfold visS
  rw [(fE_bare es lo).1, bare_drop]
set_option maxRecDepth 100000 in
theorem walked_leaf {w0 : World} {lo hi : SB} (b : Nat) (es : List En) (sz : Nat) (hn : Nd w0 0 lo hi b es sz) (h0 : 0 < es.length) (hes : es.length ≤ 60000) (g : Nat) (caps : Array Value) (N : Nat) (s : Sp) (d : List En → Bool) (J : List En → World → Prop)
    (hJ : JOk w0 J) (hc : Clo g caps N s d J) (eg : ∀ args w, (callFunc g args).run Tryz.prog w = .ok (.enter g args) w) (acc : List En) (w : World) (hj : J acc w) (hN : acc.length + (visS s.lo (bare es)).length ≤ N) :
    Calls Tryz.prog 80 #[pt b, .string s.lo, .func (.func g) #[] caps] w fun e w' => WPost J (wkS s d acc (visS s.lo (bare es))) e w' := by
  obtain ⟨⟨vc, nb, a0, c0, rfl, s0, z0, hnc, hcm⟩, _, hsr, hok, hsz⟩ := hn
  have hB := hJ.b hj
  obtain ⟨g1, o, rfl, _⟩ := s0.ents h0
  have nbw := nb.ext hB
  have hil := Lib.hid (isLeaf_yes b _ _ w nbw)
  have Hfd := Lib.hid (tfind_any _ es.length c0 es s.lo w rfl (s0.below hB (Nat.le_refl _)) hsr (by omega))
  have hle := fE_le es s.lo
  obtain ⟨A3, hA3, hs3⟩ := drop_cells (r := fE es s.lo) s0 rfl (by omega) hnc
  obtain ⟨R, hR⟩ : ∃ R, wkS s d acc (visS s.lo (bare es)) = R := ⟨_, rfl⟩
  have HR := Lib.hid hR
  rw [hR]
  have hL : Hid (visS s.lo (bare es) = bare (es.drop (fE es s.lo))) := visS_bare s.lo es
  obtain ⟨L, hL2⟩ : ∃ L, es.drop (fE es s.lo) = L := ⟨_, rfl⟩
  rw [hL2] at hs3
  obtain ⟨F, hF⟩ : ∃ F, fE es s.lo = F := ⟨_, rfl⟩
  obtain ⟨n, hn⟩ : ∃ n, es.length = n := ⟨_, rfl⟩
  have q0 := nbw.c1
  have hFn : F ≤ n := by omega
  have hm : L.length = n - F := by rw [← hL2, hF, List.length_drop, hn]
  have HR : Hid (wkS s d acc (bare (L.drop 0)) = R) := by show _ = _; rw [List.drop_zero, ← hL2, ← hL.out]; exact hR
  have HN : Hid (acc.length + (L.length - 0) ≤ N) := by show _ ≤ _; rw [hL.out, bare_len] at hN; rw [← hL2, Nat.sub_zero]; exact hN
  rw [hn] at q0 Hfd nbw
  rw [hF] at Hfd hA3
  obtain ⟨m, hm2⟩ : ∃ m, L.length = m := ⟨_, rfl⟩
  rw [hm2] at HN
  have HL := Lib.hid hm2
  have Hm : m = n - F := by omega
  have HS3 := Lib.hid hs3
  have HJ := Lib.hid hJ
  have Hc := Lib.hid hc
  have Hj := Lib.hid hj
  have Hnb := Lib.hid nbw
  have i1 : (F : Int) ≤ (n : Int) := by omega
  have i2 : (0 : Int) ≤ (F : Int) := by omega
  have i3 : (n : Int) ≤ (c0 : Int) := by omega
  have j1 : F ≤ n := hFn
  have z0' : IntKind.i64.wrap (F : Int) = (F : Int) := by rw [IntKind.wrap_i64]; omega
  have hcm' : c0 ≤ 9223372036854775807 := by unfold maxLen at hcm; omega
  have hn6 : n ≤ 60000 := by omega
  obtain ⟨DI, hDI⟩ : ∃ DI, isE es s.lo = DI := ⟨_, rfl⟩
  rw [hDI] at Hfd
  clear nb s0 z0 hsr hok hsz hB hle hL hR hL2 hF hn hm hm2 hs3 hJ hc hj nbw h0 hes hN hcm hDI
  go_enter Tryz.func80, Tryz.ntmps80
  go_wp2_with fail
  refine hil.out.mono ?_
  rintro e w' ⟨rfl, rfl⟩
  go_wp2_with fail
  refine Hfd.out.mono ?_
  rintro e w2 ⟨rfl, hb2⟩
  have q1 := (Hnb.out.ext hb2).c1
  have Hj2 := Lib.hid (HJ.out.ext Hj.out hb2)
  clear hb2 Hfd hil q0 Hj
  go_wp2_with fail
  go_loopw [10, 31] (fun _ i wr => ∃ (k : Nat) (ac : List En), i = .int .i64 k ∧ k ≤ m ∧ Hid (J ac wr) ∧ Hid (wkS s d ac (bare (L.drop k)) = R) ∧ Hid (ac.length + (m - k) ≤ N)) (fun _ i _ => m - (intOf i).toNat)
  case atStart => exact ⟨0, acc, rfl, by omega, Hj2, HR, HN⟩
  case round =>
    obtain ⟨k, ac, rfl, hk, hj, hR, hlen⟩ := hrel
    by_cases hlt : k < m
    · obtain ⟨g2, o2, rfl, hcell⟩ := ((HS3.out (by rw [HL.out]; omega)).below (HJ.out.b hj.out) (Nat.le_refl _)).ents (by rw [HL.out]; omega)
      obtain ⟨p0, p1, _, p2, ⟨sa, sc, rfl, _⟩⟩ := hcell k (by rw [HL.out]; exact hlt)
      have e1 := ea_drop L k (by rw [HL.out]; exact hlt)
      have hR2 := hR.out
      rw [e1, show bare (ea L k :: L.drop (k + 1)) = (ea L k).bare :: bare (L.drop (k + 1)) from rfl, wkS_step] at hR2
      generalize ea L k = y at *
      obtain ⟨yk, yv, yc⟩ := y
      dsimp only at p0 p1 p2
      change (if (hasS s yk && d (ac ++ [⟨yk, yv, []⟩])) = true then wkS s d (if hasS s yk = true then ac ++ [⟨yk, yv, []⟩] else ac) (bare (L.drop (k + 1))) else (if hasS s yk = true then ac ++ [⟨yk, yv, []⟩] else ac, false)) = R at hR2
      generalize yc.length = yn at *
      obtain ⟨W1, hW1⟩ : ∃ W1, wr.alloc (.cells #[.string yk, .string yv, .slice sa yn sc] TCT) = W1 := ⟨_, rfl⟩
      have hb1 : Below wr.heap.size wr W1 := by rw [← hW1]; exact (Below.refl _ _).alloc (Nat.le_refl _) _
      have Hcall := Lib.hid (Hc.out ac ⟨yk, yv, []⟩ W1 (by have := hlen.out; omega) (HJ.out.ext hj.out hb1))
      have HW1 := Lib.hid hW1
      have d1 : (k : Int) < (n : Int) - (F : Int) := by omega
      obtain ⟨ac2, hac2⟩ : ∃ ac2, (if hasS s yk = true then ac ++ [⟨yk, yv, []⟩] else ac) = ac2 := ⟨_, rfl⟩
      dsimp only at Hcall
      rw [hac2] at hR2 Hcall
      have hl2 : ac2.length ≤ ac.length + 1 := by rw [← hac2]; split <;> simp
      have Hl2 : Hid (ac2.length + (m - (k + 1)) ≤ N) := by show _ ≤ _; have := hlen.out; omega
      cases hD : (hasS s yk && d (ac ++ [⟨yk, yv, []⟩])) with
      | true =>
        rw [hD] at hR2 Hcall
        rw [if_pos rfl] at hR2
        have HR2 := Lib.hid hR2
        clear hcell e1 hR2 hW1 hb1 hD hac2 hl2 hR hj hlen
        go_wp2_with fail
        rw [HW1.out]
        go_wp2_with fail
        refine Hcall.out.mono ?_
        rintro e w3 ⟨rfl, hj3⟩
        have Hj3 := Lib.hid hj3
        clear hj3 Hcall p0 p1 p2
        go_wp2_with fail
        go_roundw
        case rel => exact ⟨k + 1, ac2, by go_num, by omega, Hj3, HR2, Hl2⟩
        case measure => simp [intOf]; omega
      | false =>
        rw [hD] at hR2 Hcall
        rw [if_neg (by decide)] at hR2
        have HR2 := Lib.hid hR2
        clear hcell e1 hR2 hW1 hb1 hD hac2 hl2 hR hj hlen Hl2
        go_wp2_with fail
        rw [HW1.out]
        go_wp2_with fail
        refine Hcall.out.mono ?_
        rintro e w3 ⟨rfl, hj3⟩
        have Hj3 := Lib.hid hj3
        clear hj3 Hcall p0 p1 p2
        go_wp2_with fail
        go_ret
        exact ⟨by rw [← HR2.out]; rfl, by rw [← HR2.out]; exact Hj3.out⟩
    · obtain rfl : k = m := by omega
      have hR2 : Hid ((ac, true) = R) := by
        have := hR.out
        rw [List.drop_of_length_le (by rw [HL.out]; exact Nat.le_refl _)] at this
        exact this
      go_wp2
      go_ret
      exact ⟨by rw [← hR2.out]; rfl, by rw [← hR2.out]; exact hj.out⟩
end Go.Proofs.YtbgkjniagedcnaaGreatDoor
namespace Go.Proofs.YtbgkjniagedcnaaGreatDoor
open Go Go.RowKit Go.Shelf

theorem visS_bareV (lo : ByteArray) (es : List En) : visS lo (bare es) = bare (visS lo es) := visS_bare lo es
theorem restK_bare (lo : ByteArray) (ess : List (List En)) (i : Nat) : restK lo (ess.map bare) i = bare (restK lo ess i) := by
  unfold restK
  rw [← List.map_drop, List.map_map, show bare (((ess.drop i).map (visS lo)).flatten) = (((ess.drop i).map (visS lo)).map bare).flatten by unfold bare; rw [List.map_flatten], List.map_map]
  congr 1
  exact List.map_congr_left (fun x _ => visS_bareV lo x)
theorem getD_bare (ess : List (List En)) (i : Nat) : (ess.map bare).getD i [] = bare (ess.getD i []) := by
  rw [List.getD_eq_getElem?_getD, List.getD_eq_getElem?_getD, List.getElem?_map]
  cases ess[i]? <;> rfl
set_option maxRecDepth 100000 in
theorem walked_bran {w0 : World} {h : Nat} {lo hi : SB} (b : Nat) (es : List En) (sz : Nat) (hn : Nd w0 (h + 1) lo hi b es sz) (hes : es.length ≤ 60000) (hss : sz ≤ 504) (g : Nat) (caps : Array Value) (N : Nat) (s : Sp) (d : List En → Bool) (J : List En → World → Prop)
    (hJ : JOk w0 J) (acc : List En) (w : World) (hj : J acc w) (hN : acc.length + (visS s.lo (bare es)).length ≤ N)
    (ih : ∀ (lo hi : SB) (b : Nat) (es : List En) (sz : Nat) (acc : List En) (w : World), Nd w0 h lo hi b es sz → 0 < es.length → es.length ≤ 60000 → sz ≤ 504 → J acc w → acc.length + (visS s.lo (bare es)).length ≤ N →
      Calls Tryz.prog 80 #[pt b, .string s.lo, .func (.func g) #[] caps] w fun e w' => WPost J (wkS s d acc (visS s.lo (bare es))) e w') :
    Calls Tryz.prog 80 #[pt b, .string s.lo, .func (.func g) #[] caps] w fun e w' => WPost J (wkS s d acc (visS s.lo (bare es))) e w' := by
  obtain ⟨ks, ps, ess, ⟨vk, vp, nb0, ⟨a0, c0, rfl, s00, _⟩, ⟨a1, c1, rfl, s10, _, hpc, _⟩⟩, hr, rfl, rfl⟩ := hn
  have hB := hJ.b hj
  have nb := nb0.ext hB
  have s0 := s00.below hB (Nat.le_refl _)
  have hle := hr.len
  have hkf := hr.keys Good.facts
  have hgr := kss_range (hr.facts Good.facts).2.2.2
  have hkl : ks.length ≤ 126 := by unfold brSz at hss; omega
  have hwl := wayS_le ks s.lo
  have hvis : visS s.lo (bare ess.flatten) = restK s.lo (ess.map bare) (wayS ks s.lo) := by rw [visS_bareV, vis_kids Good.facts hr s.lo, restK_bare]
  obtain ⟨g2, o2, rfl, hc2⟩ := s10.ptrs (by omega)
  have hil := Lib.hid (isLeaf_no b _ _ _ _ _ w nb (by omega))
  obtain ⟨W, hW⟩ : ∃ W, w.drew = W := ⟨_, rfl⟩
  have hbd : Below w.heap.size w W := by rw [← hW]; exact (Below.refl _ _).drew
  have q1 : ∀ w', Ext W w' → w'.cell? ⟨b, 2, none⟩ = some (.slice a0 ks.length c0) := fun w' hx => ((nb.ext hbd).ext hx).c2
  have q2 : ∀ w', Ext W w' → w'.cell? ⟨b, 3, none⟩ = some (.slice (some ⟨g2, o2, none⟩) ps.length c1) := fun w' hx => ((nb.ext hbd).ext hx).c3
  have Hway := Lib.hid (brWay_any a0 ks.length c0 ks s.lo W rfl (s0.below hbd (Nat.le_refl _)).texts hkf (by omega))
  obtain ⟨R, hR⟩ : ∃ R, wkS s d acc (visS s.lo (bare ess.flatten)) = R := ⟨_, rfl⟩
  rw [hR]
  rw [hvis] at hR
  have HR : Hid (wkS s d acc (restK s.lo (ess.map bare) (wayS ks s.lo + 0)) = R) := hR
  -- of each kid from there on
  have hsum : ∀ i, i < ess.length → (visS s.lo (bare (ess.getD i []))).length + (restK s.lo (ess.map bare) (i + 1)).length = (restK s.lo (ess.map bare) i).length := fun i hi => by rw [restK_at s.lo (ess.map bare) i (by rw [List.length_map]; exact hi), getD_bare, List.length_append]
  have hkidlen : ∀ i, i < ess.length → (ess.getD i []).length ≤ ess.flatten.length := fun i hi => by
    have h1 := ess_drop hi
    conv => rhs; rw [← List.take_append_drop i ess, List.flatten_append, List.length_append, h1, List.length_append]
    omega
  have Hsum := Lib.hid hsum
  have Hkl := Lib.hid hkidlen
  rw [hvis] at hN
  have HN : Hid (acc.length + (restK s.lo (ess.map bare) (wayS ks s.lo + 0)).length ≤ N) := hN
  have Hr := Lib.hid hr
  have HJ := Lib.hid hJ
  have Hj := Lib.hid hj
  have Hih := Lib.hid ih
  have Hc2 := Lib.hid hc2
  have Hle := Lib.hid hle
  have Hes := Lib.hid hes
  have HW := Lib.hid (And.intro hW hbd)
  obtain ⟨A, hA⟩ : ∃ A, wayS ks s.lo = A := ⟨_, rfl⟩
  obtain ⟨m, hm⟩ : ∃ m, ps.length = m := ⟨_, rfl⟩
  obtain ⟨n0, hn0⟩ : ∃ n0, ks.length = n0 := ⟨_, rfl⟩
  have hAm : A < m := by omega
  have hpc' : m ≤ c1 := by omega
  rw [hA] at HR HN Hway
  rw [hn0] at q1 Hway
  rw [hm] at q2
  have hm1 : m ≤ 127 := by omega
  have Hel : Hid (ess.length = m) := by show _ = _; omega
  have Hpl := Lib.hid hm
  have i1 : (A : Int) ≤ (m : Int) := by omega
  have i2 : (0 : Int) ≤ (A : Int) := by omega
  have i3 : (m : Int) ≤ (c1 : Int) := by omega
  have j1 : A ≤ m := by omega
  have j2 : ¬ (c1 = A) := by omega
  have z0 : IntKind.i64.wrap (A : Int) = (A : Int) := by rw [IntKind.wrap_i64]; omega
  obtain ⟨D, hD⟩ : ∃ D, D = m - A := ⟨_, rfl⟩
  have HD := Lib.hid hD
  have hD1 : D = m - A := hD
  clear nb0 s00 s10 hB nb s0 hle hkf hgr hkl hwl hvis hc2 hr hW hbd hR hsum hkidlen hN hJ hj ih hes hA hm hn0 hss hpc hD
  go_enter Tryz.func80, Tryz.ntmps80
  go_wp2_with fail
  refine hil.out.mono ?_
  rintro e w' ⟨rfl, rfl⟩
  clear hil
  go_wp2_with fail
  refine wp_region_gr [(0, true), (1, true), (2, true), (3, true), (4, true), (5, true), (6, true), (7, true), (8, true), (12, true), (9, false), (10, true), (11, true)] (by kernel_rfl) (by kernel_rfl) (by kernel_rfl) (by kernel_rfl) (fun _ _ _ _ _ h => h) ?_
  rw [HW.out.1]
  iterate 10 (refine wpGr_read (o := ⟨_, _, _, _, _, _⟩) (v := ?_) rfl (by rfl) ?_ ?_; rotate_left; (intro w' hw'; go_simp; with_reducible rfl); simp only [Act.put, List.setIfInBounds_toArray, List.set_cons_zero, List.set_cons_succ])
  clear q1 q2
  refine wpGr_call (o := ⟨_, _, _, _, _, _⟩) rfl (by rfl) (fun K hK => ?_)
  go_simp
  refine Hway.out.mono ?_
  rintro e w2 ⟨rfl, hb2⟩
  refine hK _ _ hb2 ?_
  clear hK K Hway
  have Hj2 := Lib.hid (HJ.out.ext Hj.out (HW.out.2.trans (hb2.mono HW.out.2.size)))
  clear hb2 HW Hj
  iterate 2 (refine wpGr_read (o := ⟨_, _, _, _, _, _⟩) (v := ?_) rfl (by rfl) ?_ ?_; rotate_left; (intro w' hw'; go_simp; with_reducible rfl); simp only [Act.put, List.setIfInBounds_toArray, List.set_cons_zero, List.set_cons_succ])
  refine wpGr_done ?_
  go_wp2_with fail
  go_loopw [12, 53] (fun _ i wr => ∃ (k : Nat) (ac : List En), i = .int .i64 k ∧ k ≤ m - A ∧ Hid (J ac wr) ∧ Hid (wkS s d ac (restK s.lo (ess.map bare) (A + k)) = R) ∧ Hid (ac.length + (restK s.lo (ess.map bare) (A + k)).length ≤ N)) (fun _ i _ => m - A - (intOf i).toNat)
  case atStart => exact ⟨0, acc, rfl, by omega, Hj2, HR, HN⟩
  case round =>
    obtain ⟨k, ac, rfl, hk, hj, hR, hlen⟩ := hrel
    by_cases hlt : k < m - A
    · have hAk : A + k < ess.length := by have := Hel.out; omega
      have p0 := Hc2.out (A + k) (by have := Hpl.out; omega)
      have p1 : wr.cell? ⟨g2, o2 + A + k, none⟩ = some (pt (na ps (A + k))) := by
        rw [Nat.add_assoc, (HJ.out.b hj.out).cell (p := ⟨g2, o2 + (A + k), none⟩) (block_lt_of_cell p0)]; exact p0
      obtain ⟨sk, hk1, hk2, hk3⟩ := Hr.out.kid (m := A + k) (by have := Hle.out; omega)
      have hcnt := Good.count h _ _ _ _ ⟨sk, hk1, hk2, hk3⟩
      have h4 : 0 < 4 ^ h := Nat.pow_pos (by omega)
      have hsm := Hsum.out (A + k) hAk
      have hR2 := hR.out
      rw [restK_at s.lo (ess.map bare) _ (by rw [List.length_map]; exact hAk), getD_bare, wkS_app] at hR2
      have hwl := wkS_len s d (visS s.lo (bare (ess.getD (A + k) []))) ac
      have Hcall := Lib.hid (Hih.out _ _ (na ps (A + k)) (ess.getD (A + k) []) sk ac wr hk1 (by omega) (Nat.le_trans (Hkl.out _ hAk) Hes.out) hk3 hj.out (by have := hlen.out; omega))
      obtain ⟨RR, hRR⟩ : ∃ RR, wkS s d ac (visS s.lo (bare (ess.getD (A + k) []))) = RR := ⟨_, rfl⟩
      rw [hRR] at hR2 hwl Hcall
      have Hl2 : Hid (RR.1.length + (restK s.lo (ess.map bare) (A + (k + 1))).length ≤ N) := by
        show _ ≤ _
        have := hlen.out
        rw [show A + (k + 1) = A + k + 1 by omega]; omega
      generalize na ps (A + k) = pk at *
      clear p0 hk1 hk2 hk3 hcnt h4 hsm hwl hRR hAk hlen hj hR
      obtain ⟨ac2, D2⟩ := RR
      cases D2 with
      | true =>
        rw [if_pos rfl] at hR2
        have HR2 : Hid (wkS s d ac2 (restK s.lo (ess.map bare) (A + (k + 1))) = R) := hR2
        clear hR2
        go_wp2_with fail
        refine Hcall.out.mono ?_
        rintro e w3 ⟨rfl, hj3⟩
        have Hj3 := Lib.hid hj3
        clear hj3 Hcall p1
        go_wp2_with fail
        go_roundw
        case rel => exact ⟨k + 1, ac2, by go_num, by omega, Hj3, HR2, Hl2⟩
        case measure => simp [intOf]; omega
      | false =>
        rw [if_neg (show ¬ false = true by decide)] at hR2
        have HR2 := Lib.hid hR2
        clear hR2 Hl2
        go_wp2_with fail
        refine Hcall.out.mono ?_
        rintro e w3 ⟨rfl, hj3⟩
        have Hj3 := Lib.hid hj3
        clear hj3 Hcall p1
        go_wp2_with fail
        go_ret
        exact ⟨by rw [← HR2.out]; rfl, by rw [← HR2.out]; exact Hj3.out⟩
    · obtain rfl : k = m - A := by omega
      have hR2 : Hid ((ac, true) = R) := by
        have := hR.out
        rw [restK_end _ _ _ (by rw [List.length_map]; have := Hel.out; omega)] at this
        exact this
      go_wp2
      go_ret
      exact ⟨by rw [← hR2.out]; rfl, by rw [← hR2.out]; exact hj.out⟩
theorem walked_any (w0 : World) (g : Nat) (caps : Array Value) (N : Nat) (s : Sp) (d : List En → Bool) (J : List En → World → Prop) (hJ : JOk w0 J) (hc : Clo g caps N s d J) (eg : ∀ args w, (callFunc g args).run Tryz.prog w = .ok (.enter g args) w) :
    ∀ (h : Nat) (lo hi : SB) (b : Nat) (es : List En) (sz : Nat) (acc : List En) (w : World), Nd w0 h lo hi b es sz → 0 < es.length → es.length ≤ 60000 → sz ≤ 504 → J acc w → acc.length + (visS s.lo (bare es)).length ≤ N →
      Calls Tryz.prog 80 #[pt b, .string s.lo, .func (.func g) #[] caps] w fun e w' => WPost J (wkS s d acc (visS s.lo (bare es))) e w'
  | 0, _, _, b, es, sz, acc, w, hn, h0, hes, _, hj, hN => walked_leaf b es sz hn h0 hes g caps N s d J hJ hc eg acc w hj hN
  | h + 1, _, _, b, es, sz, acc, w, hn, _, hes, hss, hj, hN => walked_bran b es sz hn hes hss g caps N s d J hJ acc w hj hN (walked_any w0 g caps N s d J hJ hc eg h)
end Go.Proofs.YtbgkjniagedcnaaGreatDoor
