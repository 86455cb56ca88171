/-
  tree's gathered, All.
  tree's All.
  tree's Height.
-/
import Derived.Test.YtjkpjbgapemieaaGreatDoorTreeZ
import Derived.Test.YtjkpjbgapemieaaGreatDoorSplZ
import Derived.Laws.MakeOwn
namespace Go.Proofs.YtjkpjbgapemieaaGreatDoor
open Go Go.RowKit

/-- A row of one's own stays while blocks are added. -/
def GathPost (w0 w : World) (L es : List En) (e : Ending) (w' : World) : Prop :=
  ∃ v', e = .returned v' ∧ w'.ownsRow w0.heap.size ET entE.sz v' (L.length + es.length) (entE.row (L ++ es)) ∧ Below w0.heap.size w0 w' ∧ Below w0.heap.size w w'
set_option maxRecDepth 100000 in
theorem gathered_leaf (w0 : World) {lo hi : SB} (b : Nat) (es : List En) (s : Nat) (hn : Nd w0 0 lo hi b es s) (v : Value) (L : List En) (w : World) (hB : Below w0.heap.size w0 w) (hown : w.ownsRow w0.heap.size ET entE.sz v L.length (entE.row L)) (hl : L.length + es.length ≤ 100000) :
    Calls Tryz.prog 37 #[v, pt b] w fun e w' => GathPost w0 w L es e w' := by
  obtain ⟨⟨vc, nb, a0, c0, rfl, s0, z0, _⟩, _⟩ := hn
  have q0 := nb.c0
  have lb := nb.lt
  have q0 : w.cell? ⟨b, 0, none⟩ = some (.slice a0 es.length c0) := by rw [hB.cell (p := ⟨b, 0, none⟩) lb]; exact nb.c0
  obtain ⟨v1, w1, hrun, hb1, ho1⟩ := run_app_own (P := Tryz.prog) (w := w) (E := entE) w0.heap.size 31 31 ET Tryz.underlying31 infoE v L.length L hown hB.size a0 es.length c0 es rfl z0 (s0.below hB (Nat.le_refl _)) (by unfold maxLen; omega) (by show _ * 32 ≤ _; omega)
  have HB := Lib.hid (hB.trans hb1)
  have Ho := Lib.hid ho1
  have Hb1 := Lib.hid hb1
  have q2 : w1.cell? ⟨b, 2, none⟩ = some nilS := by
    rw [HB.out.cell (p := ⟨b, 2, none⟩) lb]; exact nb.c2
  obtain ⟨n, hn⟩ : ∃ n, es.length = n := ⟨_, rfl⟩
  rw [hn] at q0 hrun
  clear nb s0 z0 hb1 ho1 hown hn hB lb hl
  go_enter Tryz.func37, Tryz.ntmps37
  go_wp2_with (at_builtin; refine Lib.wpList_append_run _ rfl (.tmp 7) (.tmp 11) _ _ rfl _ _ (by rfl) (by rfl) _ _ hrun ?_)
  go_wp2_with fail
  go_loopw [0, 6, 18] (fun u _ i wr => v1 = u ∧ i = .int .i64 0 ∧ w1 = wr) (fun _ _ _ _ => 0)
  case atStart => exact ⟨by first | trivial | rfl, rfl, by first | trivial | rfl⟩
  case round =>
    obtain ⟨rfl, rfl, rfl⟩ := hrel
    go_wp2
    go_ret
    exact ⟨v1, rfl, Ho.out, HB.out, Hb1.out⟩
set_option maxRecDepth 100000 in
theorem gathered_bran (w0 : World) {h : Nat} {lo hi : SB} (b : Nat) (es : List En) (s : Nat) (hn : Nd w0 (h + 1) lo hi b es s) (v : Value) (L : List En) (w : World) (hB : Below w0.heap.size w0 w) (hown : w.ownsRow w0.heap.size ET entE.sz v L.length (entE.row L)) (hl : L.length + es.length ≤ 100000)
    (hks : s ≤ 100000)
    (ih : ∀ (lo hi : SB) (b : Nat) (es : List En) (s : Nat) (v : Value) (L : List En) (w : World), Nd w0 h lo hi b es s → s ≤ 100000 → Below w0.heap.size w0 w → w.ownsRow w0.heap.size ET entE.sz v L.length (entE.row L) → L.length + es.length ≤ 100000 → Calls Tryz.prog 37 #[v, pt b] w fun e w' => GathPost w0 w L es e w') :
    Calls Tryz.prog 37 #[v, pt b] w fun e w' => GathPost w0 w L es e w' := by
  obtain ⟨ks, ps, ess, ⟨vk, vp, nb, _, ⟨a1, c1, rfl, s1, _⟩⟩, hr, rfl, rfl⟩ := hn
  have hle := hr.len
  have hgk := kss_range (hr.facts Good.facts).2.2.2
  have hkl : ks.length ≤ 100000 := by unfold brSz at hks; omega
  obtain ⟨g2, o2, rfl, hc2⟩ := s1.ptrs (by omega)
  have lb := nb.lt
  have q0 : w.cell? ⟨b, 0, none⟩ = some nilS := by rw [hB.cell (p := ⟨b, 0, none⟩) lb]; exact nb.c0
  have q2 : w.cell? ⟨b, 2, none⟩ = some (.slice (some ⟨g2, o2, none⟩) ps.length c1) := by rw [hB.cell (p := ⟨b, 2, none⟩) lb]; exact nb.c2
  obtain ⟨v1, w1, hrun, hb1, ho1⟩ := run_app_own (P := Tryz.prog) (w := w) (E := entE) w0.heap.size 31 31 ET Tryz.underlying31 infoE v L.length L hown hB.size none 0 0 [] rfl (fun _ => rfl) (ES.nil _) (by unfold maxLen; omega) (by show _ * 32 ≤ _; omega)
  rw [List.append_nil, Nat.add_zero] at ho1
  have HB := Lib.hid (hB.trans hb1)
  have Ho := Lib.hid ho1
  have Hb1 := Lib.hid hb1
  have q3 : w1.cell? ⟨b, 2, none⟩ = some (.slice (some ⟨g2, o2, none⟩) ps.length c1) := by rw [HB.out.cell (p := ⟨b, 2, none⟩) lb]; exact nb.c2
  have Hc2 := Lib.hid hc2
  have Hr := Lib.hid hr
  have Hih := Lib.hid ih
  have Hl := Lib.hid (And.intro hl hle)
  obtain ⟨n, hn⟩ : ∃ n, ps.length = n := ⟨_, rfl⟩
  have Hn := Lib.hid hn
  rw [hn] at q2 q3
  have hn9 : n ≤ 100001 := by omega
  clear nb s1 hb1 ho1 hown hn hB lb hl ih hr hc2 hle hgk hkl hks
  go_enter Tryz.func37, Tryz.ntmps37
  go_wp2_with (at_builtin; refine Lib.wpList_append_run _ rfl (.tmp 7) (.tmp 11) _ _ rfl _ _ (by rfl) (by rfl) _ _ hrun ?_)
  clear hrun q0 q2
  go_wp2_with fail
  go_loopw [0, 6, 18] (fun u _ i wr => ∃ (k : Nat) (v : Value), v = u ∧ i = .int .i64 k ∧ k ≤ n ∧ Hid (wr.ownsRow w0.heap.size ET entE.sz v (L.length + (ess.take k).flatten.length) (entE.row (L ++ (ess.take k).flatten))) ∧ Hid (Below w0.heap.size w0 wr) ∧ Hid (Below w0.heap.size w wr)) (fun _ _ i _ => n - (intOf i).toNat)
  case atStart => exact ⟨0, v1, rfl, rfl, by omega, by rw [List.take_zero, List.flatten_nil, List.append_nil]; exact Ho, HB, Hb1⟩
  case round =>
    obtain ⟨k, v, rfl, rfl, hk, hown, hB, hC⟩ := hrel
    by_cases hlt : k < n
    · have hkid := Hr.out.kid (m := k) (by have := Hl.out.2; have := Hn.out; omega)
      have p0 := Hc2.out k (by rw [Hn.out]; exact hlt)
      have p1 : wr.cell? ⟨g2, o2 + k, none⟩ = some (pt (na ps k)) := by
        rw [hB.out.cell (p := ⟨g2, o2 + k, none⟩) (block_lt_of_cell p0)]; exact p0
      have het := ess_take (ess := ess) (i := k) (by have := Hl.out.2; have := Hn.out; omega)
      have hsum : (ess.take (k + 1)).flatten.length ≤ ess.flatten.length := by
        conv => rhs; rw [← List.take_append_drop (k + 1) ess, List.flatten_append, List.length_append]
        omega
      have hlen : (L ++ (ess.take k).flatten).length + (ess.getD k []).length ≤ 100000 := by
        rw [het, List.length_append] at hsum
        rw [List.length_append]; have := Hl.out.1; omega
      obtain ⟨sk, hk1, _, hk3⟩ := hkid
      have Hcall := Lib.hid (Hih.out _ _ (na ps k) (ess.getD k []) sk v (L ++ (ess.take k).flatten) wr hk1 (by omega) hB.out (by rw [List.length_append]; exact hown.out) hlen)
      have Het := Lib.hid het
      generalize na ps k = pk at *
      clear p0 het hsum hlen hk1 hk3 hown
      go_wp2_with fail
      refine Hcall.out.mono ?_
      rintro e w2 ⟨v2, rfl, ho2, hb2, hb3⟩
      have Ho2 : Hid (w2.ownsRow w0.heap.size ET entE.sz v2 (L.length + (ess.take (k + 1)).flatten.length) (entE.row (L ++ (ess.take (k + 1)).flatten))) := by
        rw [Het.out, ← List.append_assoc]
        rw [List.length_append] at ho2
        rw [List.length_append, ← Nat.add_assoc]; exact ho2
      have Hb2 := Lib.hid hb2
      have Hc2' := Lib.hid (hC.out.trans hb3)
      clear ho2 hb2 hb3 Hcall hB hC p1
      go_wp2_with fail
      go_roundw
      case rel => exact ⟨k + 1, v2, rfl, by go_num, by omega, Ho2, Hb2, Hc2'⟩
      case measure => simp [intOf]; omega
    · obtain rfl : k = n := by omega
      have ho := hown.out
      rw [List.take_of_length_le (by have := Hl.out.2; have := Hn.out; omega)] at ho
      have Ho2 := Lib.hid ho
      clear hown ho
      go_wp2
      go_ret
      exact ⟨v, rfl, Ho2.out, hB.out, hC.out⟩
theorem gathered_any (w0 : World) : ∀ (h : Nat) (lo hi : SB) (b : Nat) (es : List En) (s : Nat) (v : Value) (L : List En) (w : World), Nd w0 h lo hi b es s → s ≤ 100000 → Below w0.heap.size w0 w → w.ownsRow w0.heap.size ET entE.sz v L.length (entE.row L) → L.length + es.length ≤ 100000 → Calls Tryz.prog 37 #[v, pt b] w fun e w' => GathPost w0 w L es e w'
  | 0, _, _, b, es, s, v, L, w, hn, _, hB, ho, hl => gathered_leaf w0 b es s hn v L w hB ho hl
  | h + 1, _, _, b, es, s, v, L, w, hn, hs, hB, ho, hl => gathered_bran w0 b es s hn v L w hB ho hl hs (gathered_any w0 h)
end Go.Proofs.YtjkpjbgapemieaaGreatDoor
namespace Go.Proofs.YtjkpjbgapemieaaGreatDoor
open Go Go.RowKit

set_option maxRecDepth 100000 in
theorem all_any (p : Option Addr) (es : List En) (H : Nat) (w : World) (ht : TreeP w p es H) (hl : es.length ≤ 100000) :
    Calls Tryz.prog 18 #[.agg #[.pointer p, .int .i64 es.length]] w fun e w' => ∃ v, e = .returned v ∧ EV entE w' v es ∧ Below w.heap.size w w' := by
  rcases ht with ⟨rfl, rfl, _⟩ | ⟨b, h, s, rfl, hn, hs, hs3, _⟩
  · go_enter Tryz.func18, Tryz.ntmps18
    go_wp2
    go_ret
    exact ⟨_, rfl, EV.none _, (Below.refl _ _).alloc (Nat.le_refl _) _⟩
  · obtain ⟨w0, hw0, hc0, hb0⟩ := alloc_own w TT #[pt b, .int .i64 es.length]
    obtain ⟨W, hW, hbW⟩ : ∃ W, w0.drew = W ∧ Below w0.heap.size w0 W := ⟨_, rfl, (Below.refl _ _).drew⟩
    have hbx := hb0.trans (hbW.mono hb0.size)
    have hcW : W.heap[w.heap.size]? = some (.cells #[pt b, .int .i64 es.length] TT (0, 0)) := (hbW.block _ (Array.getElem?_eq_some_iff.1 hc0).1).trans hc0
    have lW : w.heap.size < W.heap.size := (Array.getElem?_eq_some_iff.1 hcW).1
    have q0 : ∀ w', Turn (fun i => W.heap.size ≤ i) W w' → w'.cell? ⟨w.heap.size, 0, none⟩ = some (pt b) := fun w' hx => by
      have h1 := (hx.block _ lW (by omega)).trans hcW
      simp [World.cell?, h1]
    have q1 : ∀ w', Turn (fun i => W.heap.size ≤ i) W w' → w'.cell? ⟨w.heap.size, 1, none⟩ = some (.int .i64 es.length) := fun w' hx => by
      have h1 := (hx.block _ lW (by omega)).trans hcW
      simp [World.cell?, h1]
    obtain ⟨i0, hi, hz, hs0, hby⟩ := info_parts infoE
    obtain ⟨w1, hrun, hown, hgr⟩ := run_make_own (P := Tryz.prog) W W.heap.size 31 ET i0 entE.zero entE.sz Tryz.underlying31 hi hz hs0 .i64 .i64 es.length (by rw [hby]; show 32 * es.length ≤ _; omega) (by unfold maxLen; omega) (Nat.le_refl _)
    have hb1 : Below W.heap.size W w1 := (Below.refl _ W).grown hgr (Nat.le_refl _) (fun k hk => by cases hk)
    have Hcall := Lib.hid (gathered_any W h none none b es s _ [] w1 (Nd.ext hbx h hn) (by omega) hb1 hown (by simp; omega))
    have Hb1 := Lib.hid hb1
    have HB := Lib.hid hbx
    have HW : Hid ((w.alloc (.cells #[pt b, .int .i64 es.length] TT)).drew = W) := by show _ = _; rw [hw0, hW]
    obtain ⟨n, hn'⟩ : ∃ n, es.length = n := ⟨_, rfl⟩
    have Hn := Lib.hid hn'
    rw [hn'] at q1 hrun Hcall HW hl
    rw [hn']
    clear hw0 hc0 hb0 hW hbW hbx hcW lW hi hz hs0 hby hown hgr hb1 hn hs hs3 hn'
    go_enter Tryz.func18, Tryz.ntmps18
    go_wp2_with fail
    refine wp_region_gt (F := fun i => W.heap.size ≤ i) [(0, true), (1, true), (3, true), (4, true), (2, false), (5, false), (6, true)] (by kernel_rfl) (by kernel_rfl) (by kernel_rfl) (by kernel_rfl) (fun _ _ _ _ _ h => h) ?_
    rw [HW.out]
    iterate 4 (refine wpGt_read (o := ⟨_, _, _, _, _, _⟩) (v := ?_) rfl (by rfl) ?_ ?_; rotate_left; (intro w' hw'; go_simp; with_reducible rfl); simp only [Act.put, List.setIfInBounds_toArray, List.set_cons_zero, List.set_cons_succ])
    clear q0 q1
    refine wpGt_call (o := ⟨_, _, _, _, _, _⟩) rfl (by rfl) (fun K hK => ?_)
    go_simp
    refine hK _ _ (Turn.ofBelow Hb1.out) ?_
    clear hK K hrun
    refine wpGt_call (o := ⟨_, _, _, _, _, _⟩) rfl (by rfl) (fun K hK => ?_)
    go_simp
    refine Hcall.out.mono ?_
    rintro e w2 ⟨v, rfl, ho, hb2, hb3⟩
    refine hK _ _ (turn_of_below hb3) ?_
    clear hK K Hcall
    have Hev : Hid (EV entE w2 v es) := own_ev (B := W.heap.size) (T := ET) (by simpa using ho)
    have HB2 := Lib.hid (HB.out.trans (hb2.mono HB.out.size))
    clear ho hb2 hb3
    (refine wpGt_read (o := ⟨_, _, _, _, _, _⟩) (v := ?_) rfl (by rfl) ?_ ?_; rotate_left; (intro w' hw'; go_simp; with_reducible rfl); simp only [Act.put, List.setIfInBounds_toArray, List.set_cons_zero, List.set_cons_succ])
    refine wpGt_done ?_
    go_wp2_with fail
    go_ret
    exact ⟨v, rfl, Hev.out, HB2.out⟩
end Go.Proofs.YtjkpjbgapemieaaGreatDoor
namespace Go.Proofs.YtjkpjbgapemieaaGreatDoor
open Go Go.RowKit

set_option maxRecDepth 100000 in
theorem height_any (p : Option Addr) (n : Int) (es : List En) (H : Nat) (w : World) (ht : TreeP w p es H) (hH : H ≤ 1000000) :
    Calls Tryz.prog 12 #[.agg #[.pointer p, .int .i64 n]] w fun e w' => e = .returned (.int .i64 (H : Nat)) ∧ Below w.heap.size w w' := by
  obtain ⟨w0, hw0, hc0, hb0⟩ := alloc_own w TT #[.pointer p, .int .i64 n]
  have HG := Lib.hid hw0
  have HB := Lib.hid hb0
  rcases ht with ⟨rfl, rfl, rfl⟩ | ⟨b, h, s, rfl, hn, hs, hs3, _, hHh⟩
  · clear hc0 hw0 hb0
    go_enter Tryz.func12, Tryz.ntmps12
    go_wp2
    go_ret
    exact ⟨rfl, by rw [HG.out]; exact HB.out⟩
  · have hn0 := Lib.hid (Nd.ext hb0 h hn)
    have Hs := Lib.hid (And.intro hs hs3)
    have HHh := Lib.hid hHh
    clear hc0 hw0 hb0 hn hs hs3 hHh
    go_enter Tryz.func12, Tryz.ntmps12
    go_wp2_with fail
    rw [HG.out]
    go_loopg [3, 4] h (fun k t u wr => ∃ (x b : Nat) (lo hi : SB) (es' : List En) (s' : Nat), t = .int .i64 x ∧ u = pt b ∧ Hid (Nd w0 k lo hi b es' s') ∧ x + k = H ∧ Hid (s' ≤ 504 ∧ (0 < k → 3 ≤ s')) ∧ w0 = wr)
    case atStart => exact ⟨1, b, none, none, es, s, rfl, rfl, hn0, by have := HHh.out; omega, Hs, by first | trivial | rfl⟩
    case round =>
      obtain ⟨x, b, lo, hi, es', s', rfl, rfl, hn, hx, hss, rfl⟩ := hrel
      cases gk with
      | zero =>
        obtain ⟨⟨vc, nb, a0, c0, rfl, _⟩, _⟩ := hn.out
        have hil := Lib.hid (isLeaf_yes b _ _ w0 nb)
        obtain rfl : x = H := by omega
        clear nb hn hss
        go_wp2_with fail
        refine hil.out.mono ?_
        rintro e w' ⟨rfl, rfl⟩
        go_wp2
        go_ret
        exact ⟨rfl, HB.out⟩
      | succ h =>
        obtain ⟨ks, ps, ess, ⟨vk, vp, nb, ⟨a0, c0, rfl, s0, _⟩, ⟨a1, c1, rfl, s1, _⟩⟩, hr, hfl, hsz⟩ := hn.out
        have hle := hr.len
        obtain ⟨sk, hk1, hk2, hk3⟩ := hr.kid (m := 0) (by omega)
        obtain ⟨g2, o2, rfl, hc2⟩ := s1.ptrs (by omega)
        have hil := Lib.hid (isLeaf_no b _ _ _ _ _ w0 nb (by omega))
        have q2 := nb.c2
        have r2 := hc2 0 (by omega)
        simp only [Nat.add_zero] at r2
        have Hn2 := Lib.hid hk1
        have Hs2 : Hid (sk ≤ 504 ∧ (0 < h → 3 ≤ sk)) := ⟨hk3, fun _ => by omega⟩
        have hm0 : (0 : Int) < (ps.length : Int) := by omega
        have hm0' : 0 < ps.length := by omega
        clear nb s0 s1 hc2 hr hle hfl hsz hn hss hk1 hk2 hk3
        generalize na ps 0 = pk at *
        generalize ps.length = m at *
        go_wp2_with fail
        refine hil.out.mono ?_
        rintro e w' ⟨rfl, rfl⟩
        clear hil
        go_wp2_with fail
        go_roundg h
        case measure => omega
        case rel => exact ⟨x + 1, pk, _, _, _, sk, by go_num, rfl, Hn2, by omega, Hs2, by first | trivial | rfl⟩
end Go.Proofs.YtjkpjbgapemieaaGreatDoor
