/-
  tree's withCells, gathered.
  tree's All.
  tree's Height.
-/
import Derived.Test.YtbgkjniagedcnaaGreatDoorTreeZ
import Derived.Test.YtbgkjniagedcnaaGreatDoorSplZ
import Derived.Laws.MakeOwn
namespace Go.Proofs.YtbgkjniagedcnaaGreatDoor
open Go Go.RowKit

/-- A row of one's own stays while blocks are added. -/
def GathPost (w0 w : World) (L es : List En) (e : Ending) (w' : World) : Prop :=
  ∃ v', e = .returned v' ∧ w'.ownsRow w0.heap.size ET entE.sz v' (L.length + es.length) (entE.row (L ++ es)) ∧ Below w0.heap.size w0 w' ∧ Below w0.heap.size w w'
theorem ents_take (es : List En) (k : Nat) (h : k < es.length) : es.take (k + 1) = es.take k ++ [ea es k] := ea_take es k h
set_option maxRecDepth 100000 in
theorem withCells_any (w0 : World) (v : Value) (L : List En) (a : Option Addr) (n c : Nat) (es : List En) (w : World) (hB : Below w0.heap.size w0 w) (hown : w.ownsRow w0.heap.size ET entE.sz v L.length (entE.row L)) (hn : es.length = n) (hs : CS w0 a es) (hl : L.length + n ≤ 1000000) :
    Calls Tryz.prog 61 #[v, .slice a n c] w fun e w' => GathPost w0 w L es e w' := by
  have Hs := Lib.hid hs
  have Hn := Lib.hid hn
  have Hb0 := Lib.hid hB
  have Hw0 : Hid (w.ownsRow w0.heap.size ET entE.sz v (L.length + 0) (entE.row (L ++ es.take 0))) := by
    rw [List.take_zero, List.append_nil, Nat.add_zero]; exact hown
  clear hs hn hB hown
  go_enter Tryz.func61, Tryz.ntmps61
  go_wp2_with fail
  go_loopw [0, 6, 9] (fun u _ i wr => ∃ (k : Nat) (x : Value), x = u ∧ i = .int .i64 k ∧ k ≤ n ∧ Hid (wr.ownsRow w0.heap.size ET entE.sz x (L.length + k) (entE.row (L ++ es.take k))) ∧ Hid (Below w0.heap.size w0 wr) ∧ Hid (Below w0.heap.size w wr)) (fun _ _ i _ => n - (intOf i).toNat)
  case atStart => exact ⟨0, v, rfl, rfl, by omega, Hw0, Hb0, Below.refl _ _⟩
  case round =>
    obtain ⟨k, x, rfl, rfl, hk, hown, hB, hC⟩ := hrel
    by_cases hlt : k < n
    · obtain ⟨g, o, rfl, hcell⟩ := (Hs.out.below hB.out (Nat.le_refl _)).ents (by rw [Hn.out]; omega)
      obtain ⟨p0, p1, _, p2, ⟨sa, sc, rfl, _⟩⟩ := hcell k (by rw [Hn.out]; exact hlt)
      have hsz := hB.out.size
      have hsz2 := hC.out.size
      obtain ⟨i0, hi, hz, hs0, hby⟩ := info_parts infoE
      have hlit : ES entE ((wr.alloc (.cells #[.string (ea es k).k, .string (ea es k).v, .slice sa (ea es k).ch.length sc] TCT)).alloc (.cells #[.string (ea es k).k, .string (ea es k).v] ET)) (some ⟨wr.heap.size + 1, 0, none⟩) [ea es k] := by
        have h1 := heap_new (wr.alloc (.cells #[.string (ea es k).k, .string (ea es k).v, .slice sa (ea es k).ch.length sc] TCT)) ET #[.string (ea es k).k, .string (ea es k).v]
        rw [show (wr.alloc (.cells #[.string (ea es k).k, .string (ea es k).v, .slice sa (ea es k).ch.length sc] TCT)).heap.size = wr.heap.size + 1 by simp] at h1
        exact ES.lit (E := entE) (l := [ea es k]) h1
      obtain ⟨v1, w1, hrun, hb1, ho1⟩ := run_app_own (P := Tryz.prog) (E := entE) w0.heap.size 31 31 ET Tryz.underlying31 infoE x (L.length + k) (L ++ es.take k) ((hown.out.alloc _).alloc _) (by simp; omega) (some ⟨wr.heap.size + 1, 0, none⟩) 1 1 [ea es k] rfl (fun h => by cases h) hlit (by unfold maxLen; omega) (by show _ * 32 ≤ _; omega)
      have hba : Below w0.heap.size wr w1 := (((Below.refl _ wr).alloc hsz _).alloc (by simp; omega) _).trans hb1
      have Ho1 : Hid (w1.ownsRow w0.heap.size ET entE.sz v1 (L.length + (k + 1)) (entE.row (L ++ es.take (k + 1)))) := by
        rw [ents_take es k (by rw [Hn.out]; exact hlt), ← List.append_assoc, ← Nat.add_assoc]; exact ho1
      have HB1 := Lib.hid (hB.out.trans hba)
      have HC1 := Lib.hid (hC.out.trans hba)
      generalize ea es k = y at *
      obtain ⟨yk, yv, yc⟩ := y
      dsimp only at p0 p1 p2 hrun
      generalize yc.length = yn at *
      clear hcell hi hz hs0 hby hlit hb1 ho1 hba hown hB hC
      go_wp2_with (at_builtin; refine Lib.wpList_append_run _ rfl (.tmp 13) (.tmp 16) _ _ rfl _ _ (by rfl) (by rfl) _ _ hrun ?_)
      go_wp2
      go_roundw
      case rel => exact ⟨k + 1, v1, rfl, by go_num, by omega, Ho1, HB1, HC1⟩
      case measure => simp [intOf]; omega
    · obtain rfl : k = n := by omega
      have ho := hown.out
      rw [List.take_of_length_le (by rw [Hn.out]; exact Nat.le_refl _)] at ho
      have Ho2 : Hid (wr.ownsRow w0.heap.size ET entE.sz x (L.length + es.length) (entE.row (L ++ es))) := by rw [Hn.out]; exact ho
      clear hown ho
      go_wp2
      go_ret
      exact ⟨x, rfl, Ho2.out, hB.out, hC.out⟩
set_option maxRecDepth 100000 in
theorem gathered_leaf (w0 : World) {lo hi : SB} (b : Nat) (es : List En) (s : Nat) (hn : Nd w0 0 lo hi b es s) (v : Value) (L : List En) (w : World) (hB : Below w0.heap.size w0 w) (hown : w.ownsRow w0.heap.size ET entE.sz v L.length (entE.row L)) (hl : L.length + es.length ≤ 1000000) :
    Calls Tryz.prog 39 #[v, pt b] w fun e w' => GathPost w0 w L es e w' := by
  obtain ⟨⟨vc, nb, a0, c0, rfl, s0, z0, _⟩, _⟩ := hn
  have lb := nb.lt
  have q0 : w.cell? ⟨b, 1, none⟩ = some (.slice a0 es.length c0) := by rw [hB.cell (p := ⟨b, 1, none⟩) lb]; exact nb.c1
  have Hcall := Lib.hid (withCells_any w0 v L a0 es.length c0 es w hB hown rfl s0 hl)
  have Hnb := Lib.hid nb
  obtain ⟨n, hn⟩ : ∃ n, es.length = n := ⟨_, rfl⟩
  rw [hn] at q0 Hcall
  clear nb s0 z0 hown hn hB hl
  go_enter Tryz.func39, Tryz.ntmps39
  go_wp2_with fail
  refine Hcall.out.mono ?_
  rintro e w1 ⟨v1, rfl, ho1, hb1, hb2⟩
  have q2 : w1.cell? ⟨b, 3, none⟩ = some nilS := by
    rw [hb1.cell (p := ⟨b, 3, none⟩) lb]; exact Hnb.out.c3
  have HB := Lib.hid hb1
  have Ho := Lib.hid ho1
  have Hb1 := Lib.hid hb2
  clear ho1 hb1 hb2 Hcall lb q0
  go_wp2_with fail
  go_loopw [0, 6, 18] (fun u _ i wr => v1 = u ∧ i = .int .i64 0 ∧ w1 = wr) (fun _ _ _ _ => 0)
  case atStart => exact ⟨by first | trivial | rfl, rfl, by first | trivial | rfl⟩
  case round =>
    obtain ⟨rfl, rfl, rfl⟩ := hrel
    go_wp2
    go_ret
    exact ⟨v1, rfl, Ho.out, HB.out, Hb1.out⟩
set_option maxRecDepth 100000 in
theorem gathered_bran (w0 : World) {h : Nat} {lo hi : SB} (b : Nat) (es : List En) (s : Nat) (hn : Nd w0 (h + 1) lo hi b es s) (v : Value) (L : List En) (w : World) (hB : Below w0.heap.size w0 w) (hown : w.ownsRow w0.heap.size ET entE.sz v L.length (entE.row L)) (hl : L.length + es.length ≤ 1000000)
    (hks : s ≤ 100000)
    (ih : ∀ (lo hi : SB) (b : Nat) (es : List En) (s : Nat) (v : Value) (L : List En) (w : World), Nd w0 h lo hi b es s → s ≤ 100000 → Below w0.heap.size w0 w → w.ownsRow w0.heap.size ET entE.sz v L.length (entE.row L) → L.length + es.length ≤ 1000000 → Calls Tryz.prog 39 #[v, pt b] w fun e w' => GathPost w0 w L es e w') :
    Calls Tryz.prog 39 #[v, pt b] w fun e w' => GathPost w0 w L es e w' := by
  obtain ⟨ks, ps, ess, ⟨vk, vp, nb, _, ⟨a1, c1, rfl, s1, _⟩⟩, hr, rfl, rfl⟩ := hn
  have hle := hr.len
  have hgk := kss_range (hr.facts Good.facts).2.2.2
  have hkl : ks.length ≤ 100000 := by unfold brSz at hks; omega
  obtain ⟨g2, o2, rfl, hc2⟩ := s1.ptrs (by omega)
  have lb := nb.lt
  have q0 : w.cell? ⟨b, 1, none⟩ = some nilS := by rw [hB.cell (p := ⟨b, 1, none⟩) lb]; exact nb.c1
  have Hcall := Lib.hid (withCells_any w0 v L none 0 0 [] w hB hown rfl (CS.nil _) (by omega))
  have Hnb := Lib.hid nb
  have Hc2 := Lib.hid hc2
  have Hr := Lib.hid hr
  have Hih := Lib.hid ih
  have Hl := Lib.hid (And.intro hl hle)
  obtain ⟨n, hn⟩ : ∃ n, ps.length = n := ⟨_, rfl⟩
  have Hn := Lib.hid hn
  have hn9 : n ≤ 100001 := by omega
  have Hlb := Lib.hid lb
  have Hn2 := Lib.hid hn
  clear nb s1 hown hn hB lb hl ih hr hc2 hle hgk hkl hks
  go_enter Tryz.func39, Tryz.ntmps39
  go_wp2_with fail
  refine Hcall.out.mono ?_
  rintro e w1 ⟨v1, rfl, ho1, hb1, hb2⟩
  have q3 : w1.cell? ⟨b, 3, none⟩ = some (.slice (some ⟨g2, o2, none⟩) n c1) := by
    rw [hb1.cell (p := ⟨b, 3, none⟩) Hlb.out, ← Hn2.out]; exact Hnb.out.c3
  rw [List.append_nil] at ho1
  have HB := Lib.hid hb1
  have Ho := Lib.hid ho1
  have Hb1 := Lib.hid hb2
  clear ho1 hb1 hb2 Hcall q0
  go_wp2_with fail
  go_loopw [0, 6, 18] (fun u _ i wr => ∃ (k : Nat) (v : Value), v = u ∧ i = .int .i64 k ∧ k ≤ n ∧ Hid (wr.ownsRow w0.heap.size ET entE.sz v (L.length + (ess.take k).flatten.length) (entE.row (L ++ (ess.take k).flatten))) ∧ Hid (Below w0.heap.size w0 wr) ∧ Hid (Below w0.heap.size w wr)) (fun _ _ i _ => n - (intOf i).toNat)
  case atStart => exact ⟨0, v1, rfl, rfl, by omega, by rw [List.take_zero, List.flatten_nil, List.append_nil]; exact Ho, HB, Hb1⟩
  case round =>
    obtain ⟨k, v, rfl, rfl, hk, hown, hB, hC⟩ := hrel
    by_cases hlt : k < n
    · have hkid := Hr.out.kid (d := []) (m := k) (by have := Hl.out.2; have := Hn.out; omega)
      have p0 := Hc2.out k (by rw [Hn.out]; exact hlt)
      have p1 : wr.cell? ⟨g2, o2 + k, none⟩ = some (pt (na ps k)) := by
        rw [hB.out.cell (p := ⟨g2, o2 + k, none⟩) (block_lt_of_cell p0)]; exact p0
      have het : (ess.take (k + 1)).flatten = (ess.take k).flatten ++ ess.getD k [] := ess_take (ess := ess) (i := k) (by have := Hl.out.2; have := Hn.out; omega)
      have hsum : (ess.take (k + 1)).flatten.length ≤ ess.flatten.length := by
        conv => rhs; rw [← List.take_append_drop (k + 1) ess, List.flatten_append, List.length_append]
        omega
      have hlen : (L ++ (ess.take k).flatten).length + (ess.getD k []).length ≤ 1000000 := by
        rw [het, List.length_append] at hsum
        rw [List.length_append]; have := Hl.out.1; omega
      obtain ⟨sk, hk1, _, hk3⟩ := hkid
      have Hcall := Lib.hid (Hih.out _ _ (na ps k) (ess.getD k []) sk v (L ++ (ess.take k).flatten) wr hk1 (by omega) hB.out (by rw [List.length_append]; exact hown.out) hlen)
      have Het := Lib.hid het
      generalize na ps k = pk at *
      clear p0 het hsum hlen hk1 hk3 hown
      go_wp2_with fail
      refine Hcall.out.mono ?_
      rintro e w2 ⟨v2, rfl, ho2, hb2, hb3⟩
      have Ho2 : Hid (w2.ownsRow w0.heap.size ET entE.sz v2 (L.length + (ess.take (k + 1)).flatten.length) (entE.row (L ++ (ess.take (k + 1)).flatten))) := by
        rw [Het.out, ← List.append_assoc]
        rw [List.length_append] at ho2
        rw [List.length_append, ← Nat.add_assoc]; exact ho2
      have Hb2 := Lib.hid hb2
      have Hc2' := Lib.hid (hC.out.trans hb3)
      clear ho2 hb2 hb3 Hcall hB hC p1
      go_wp2_with fail
      go_roundw
      case rel => exact ⟨k + 1, v2, rfl, by go_num, by omega, Ho2, Hb2, Hc2'⟩
      case measure => simp [intOf]; omega
    · obtain rfl : k = n := by omega
      have ho := hown.out
      rw [List.take_of_length_le (by have := Hl.out.2; have := Hn.out; omega)] at ho
      have Ho2 := Lib.hid ho
      clear hown ho
      go_wp2
      go_ret
      exact ⟨v, rfl, Ho2.out, hB.out, hC.out⟩
theorem gathered_any (w0 : World) : ∀ (h : Nat) (lo hi : SB) (b : Nat) (es : List En) (s : Nat) (v : Value) (L : List En) (w : World), Nd w0 h lo hi b es s → s ≤ 100000 → Below w0.heap.size w0 w → w.ownsRow w0.heap.size ET entE.sz v L.length (entE.row L) → L.length + es.length ≤ 1000000 → Calls Tryz.prog 39 #[v, pt b] w fun e w' => GathPost w0 w L es e w'
  | 0, _, _, b, es, s, v, L, w, hn, _, hB, ho, hl => gathered_leaf w0 b es s hn v L w hB ho hl
  | h + 1, _, _, b, es, s, v, L, w, hn, hs, hB, ho, hl => gathered_bran w0 b es s hn v L w hB ho hl hs (gathered_any w0 h)
end Go.Proofs.YtbgkjniagedcnaaGreatDoor
namespace Go.Proofs.YtbgkjniagedcnaaGreatDoor
open Go Go.RowKit

set_option maxRecDepth 100000 in
theorem allQ_any (p : Option Addr) (es : List En) (H : Nat) (w : World) (ht : TreeQ w p es H) (hl : es.length ≤ 100000) :
    Calls Tryz.prog 19 #[.agg #[.pointer p, .int .i64 es.length]] w fun e w' => ∃ v, e = .returned v ∧ EV entE w' v es ∧ Below w.heap.size w w' := by
  rcases ht with ⟨rfl, rfl, _⟩ | ⟨b, h, s, rfl, hn, hs, hs3, _⟩
  · go_enter Tryz.func19, Tryz.ntmps19
    go_wp2
    go_ret
    exact ⟨_, rfl, EV.none _, (Below.refl _ _).alloc (Nat.le_refl _) _⟩
  · obtain ⟨w0, hw0, hc0, hb0⟩ := alloc_own w TT #[pt b, .int .i64 es.length]
    obtain ⟨W, hW, hbW⟩ : ∃ W, w0.drew = W ∧ Below w0.heap.size w0 W := ⟨_, rfl, (Below.refl _ _).drew⟩
    have hbx := hb0.trans (hbW.mono hb0.size)
    have hcW : W.heap[w.heap.size]? = some (.cells #[pt b, .int .i64 es.length] TT (0, 0)) := (hbW.block _ (Array.getElem?_eq_some_iff.1 hc0).1).trans hc0
    have lW : w.heap.size < W.heap.size := (Array.getElem?_eq_some_iff.1 hcW).1
    have q0 : ∀ w', Turn (fun i => W.heap.size ≤ i) W w' → w'.cell? ⟨w.heap.size, 0, none⟩ = some (pt b) := fun w' hx => by
      have h1 := (hx.block _ lW (by omega)).trans hcW
      simp [World.cell?, h1]
    have q1 : ∀ w', Turn (fun i => W.heap.size ≤ i) W w' → w'.cell? ⟨w.heap.size, 1, none⟩ = some (.int .i64 es.length) := fun w' hx => by
      have h1 := (hx.block _ lW (by omega)).trans hcW
      simp [World.cell?, h1]
    obtain ⟨i0, hi, hz, hs0, hby⟩ := info_parts infoE
    obtain ⟨w1, hrun, hown, hgr⟩ := run_make_own (P := Tryz.prog) W W.heap.size 31 ET i0 entE.zero entE.sz Tryz.underlying31 hi hz hs0 .i64 .i64 es.length (by rw [hby]; show 32 * es.length ≤ _; omega) (by unfold maxLen; omega) (Nat.le_refl _)
    have hb1 : Below W.heap.size W w1 := (Below.refl _ W).grown hgr (Nat.le_refl _) (fun k hk => by cases hk)
    have Hcall := Lib.hid (gathered_any W h none none b es s _ [] w1 (Nd.ext hbx h hn) (by omega) hb1 hown (by simp; omega))
    have Hb1 := Lib.hid hb1
    have HB := Lib.hid hbx
    have HW : Hid ((w.alloc (.cells #[pt b, .int .i64 es.length] TT)).drew = W) := by show _ = _; rw [hw0, hW]
    obtain ⟨n, hn'⟩ : ∃ n, es.length = n := ⟨_, rfl⟩
    have Hn := Lib.hid hn'
    rw [hn'] at q1 hrun Hcall HW hl
    rw [hn']
    clear hw0 hc0 hb0 hW hbW hbx hcW lW hi hz hs0 hby hown hgr hb1 hn hs hs3 hn'
    go_enter Tryz.func19, Tryz.ntmps19
    go_wp2_with fail
    refine wp_region_gt (F := fun i => W.heap.size ≤ i) [(0, true), (1, true), (3, true), (4, true), (2, false), (5, false), (6, true)] (by kernel_rfl) (by kernel_rfl) (by kernel_rfl) (by kernel_rfl) (fun _ _ _ _ _ h => h) ?_
    rw [HW.out]
    iterate 4 (refine wpGt_read (o := ⟨_, _, _, _, _, _⟩) (v := ?_) rfl (by rfl) ?_ ?_; rotate_left; (intro w' hw'; go_simp; with_reducible rfl); simp only [Act.put, List.setIfInBounds_toArray, List.set_cons_zero, List.set_cons_succ])
    clear q0 q1
    refine wpGt_call (o := ⟨_, _, _, _, _, _⟩) rfl (by rfl) (fun K hK => ?_)
    go_simp
    refine hK _ _ (Turn.ofBelow Hb1.out) ?_
    clear hK K hrun
    refine wpGt_call (o := ⟨_, _, _, _, _, _⟩) rfl (by rfl) (fun K hK => ?_)
    go_simp
    refine Hcall.out.mono ?_
    rintro e w2 ⟨v, rfl, ho, hb2, hb3⟩
    refine hK _ _ (turn_of_below hb3) ?_
    clear hK K Hcall
    have Hev : Hid (EV entE w2 v es) := own_ev (B := W.heap.size) (T := ET) (by simpa using ho)
    have HB2 := Lib.hid (HB.out.trans (hb2.mono HB.out.size))
    clear ho hb2 hb3
    (refine wpGt_read (o := ⟨_, _, _, _, _, _⟩) (v := ?_) rfl (by rfl) ?_ ?_; rotate_left; (intro w' hw'; go_simp; with_reducible rfl); simp only [Act.put, List.setIfInBounds_toArray, List.set_cons_zero, List.set_cons_succ])
    refine wpGt_done ?_
    go_wp2_with fail
    go_ret
    exact ⟨v, rfl, Hev.out, HB2.out⟩
theorem entE_bare (es : List En) : entE.row (bare es) = entE.row es := by
  induction es with
  | nil => rfl
  | cons e r ih =>
    have e1 : bare (e :: r) = e.bare :: bare r := rfl
    rw [e1, Elt.row, Elt.row, ih]; rfl
/-- A row of entries says nothing of where they lie. -/
theorem EV.bare {w : World} {v : Value} {es : List En} (h : EV entE w v es) : EV entE w v (bare es) := by
  obtain ⟨a, c, rfl, hs, h1, h2, h3⟩ := h
  refine ⟨a, c, by rw [bare_len], ?_, h1, by rw [bare_len]; exact h2, h3⟩
  rcases hs with ⟨rfl, rfl⟩ | ⟨g, o, rfl, ht, hc⟩
  · exact .inl ⟨rfl, rfl⟩
  · exact .inr ⟨g, o, rfl, ht, by rw [entE_bare]; exact hc⟩
theorem all_any (p : Option Addr) (es : List En) (H : Nat) (w : World) (ht : TreeP w p es H) (hl : es.length ≤ 100000) :
    Calls Tryz.prog 19 #[.agg #[.pointer p, .int .i64 es.length]] w fun e w' => ∃ v, e = .returned v ∧ EV entE w' v es ∧ Below w.heap.size w w' := by
  obtain ⟨es', rfl, h⟩ := ht
  rw [bare_len] at hl ⊢
  refine (allQ_any p es' H w h hl).mono ?_
  rintro e w' ⟨v, rfl, hv, hb⟩
  exact ⟨v, rfl, hv.bare, hb⟩
end Go.Proofs.YtbgkjniagedcnaaGreatDoor
namespace Go.Proofs.YtbgkjniagedcnaaGreatDoor
open Go Go.RowKit

set_option maxRecDepth 100000 in
theorem height_any (p : Option Addr) (n : Int) (es : List En) (H : Nat) (w : World) (ht' : TreeP w p es H) (hH : H ≤ 1000000) :
    Calls Tryz.prog 13 #[.agg #[.pointer p, .int .i64 n]] w fun e w' => e = .returned (.int .i64 (H : Nat)) ∧ Below w.heap.size w w' := by
  obtain ⟨es0, rfl, ht⟩ := ht'
  obtain ⟨w0, hw0, hc0, hb0⟩ := alloc_own w TT #[.pointer p, .int .i64 n]
  have HG := Lib.hid hw0
  have HB := Lib.hid hb0
  rcases ht with ⟨rfl, rfl, rfl⟩ | ⟨b, h, s, rfl, hn, hs, hs3, _, hHh⟩
  · clear hc0 hw0 hb0
    go_enter Tryz.func13, Tryz.ntmps13
    go_wp2
    go_ret
    exact ⟨rfl, by rw [HG.out]; exact HB.out⟩
  · have hn0 := Lib.hid (Nd.ext hb0 h hn)
    have Hs := Lib.hid (And.intro hs hs3)
    have HHh := Lib.hid hHh
    clear hc0 hw0 hb0 hn hs hs3 hHh
    go_enter Tryz.func13, Tryz.ntmps13
    go_wp2_with fail
    rw [HG.out]
    go_loopg [3, 4] h (fun k t u wr => ∃ (x b : Nat) (lo hi : SB) (es' : List En) (s' : Nat), t = .int .i64 x ∧ u = pt b ∧ Hid (Nd w0 k lo hi b es' s') ∧ x + k = H ∧ Hid (s' ≤ 504 ∧ (0 < k → 3 ≤ s')) ∧ w0 = wr)
    case atStart => exact ⟨1, b, none, none, es0, s, rfl, rfl, hn0, by have := HHh.out; omega, Hs, by first | trivial | rfl⟩
    case round =>
      obtain ⟨x, b, lo, hi, es', s', rfl, rfl, hn, hx, hss, rfl⟩ := hrel
      cases gk with
      | zero =>
        obtain ⟨⟨vc, nb, a0, c0, rfl, _⟩, _⟩ := hn.out
        have hil := Lib.hid (isLeaf_yes b _ _ w0 nb)
        obtain rfl : x = H := by omega
        clear nb hn hss
        go_wp2_with fail
        refine hil.out.mono ?_
        rintro e w' ⟨rfl, rfl⟩
        go_wp2
        go_ret
        exact ⟨rfl, HB.out⟩
      | succ h =>
        obtain ⟨ks, ps, ess, ⟨vk, vp, nb, ⟨a0, c0, rfl, s0, _⟩, ⟨a1, c1, rfl, s1, _⟩⟩, hr, hfl, hsz⟩ := hn.out
        have hle := hr.len
        obtain ⟨sk, hk1, hk2, hk3⟩ := hr.kid (d := []) (m := 0) (by omega)
        obtain ⟨g2, o2, rfl, hc2⟩ := s1.ptrs (by omega)
        have hil := Lib.hid (isLeaf_no b _ _ _ _ _ w0 nb (by omega))
        have q2 := nb.c3
        have r2 := hc2 0 (by omega)
        simp only [Nat.add_zero] at r2
        have Hn2 := Lib.hid hk1
        have Hs2 : Hid (sk ≤ 504 ∧ (0 < h → 3 ≤ sk)) := ⟨hk3, fun _ => by omega⟩
        have hm0 : (0 : Int) < (ps.length : Int) := by omega
        have hm0' : 0 < ps.length := by omega
        clear nb s0 s1 hc2 hr hle hfl hsz hn hss hk1 hk2 hk3
        generalize na ps 0 = pk at *
        generalize ps.length = m at *
        go_wp2_with fail
        refine hil.out.mono ?_
        rintro e w' ⟨rfl, rfl⟩
        clear hil
        go_wp2_with fail
        go_roundg h
        case measure => omega
        case rel => exact ⟨x + 1, pk, _, _, _, sk, by go_num, rfl, Hn2, by omega, Hs2, by first | trivial | rfl⟩
end Go.Proofs.YtbgkjniagedcnaaGreatDoor
