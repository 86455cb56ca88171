/-
  What the law PlanFew stands on.
-/
import Derived.Test.YtdgladhfibfdlaaGreatDoorQPlanFew34
import Derived.Test.YtdgladhfibfdlaaGreatDoorQPlanFew08
import Derived.Test.YtdgladhfibfdlaaGreatDoorQPlanFew05
import Derived.Test.YtdgladhfibfdlaaGreatDoorQPlanFew01
import Derived.Test.YtdgladhfibfdlaaGreatDoorQPlanFew23
import Derived.Test.YtdgladhfibfdlaaGreatDoorQPlanFew20
namespace Go.Proofs.YtdgladhfibfdlaaGreatDoor
open Go Go.RowKit
abbrev LYT : TypeId := 106
abbrev WRT : TypeId := 50
def wrE0 : Elt (Nat × Nat) := ⟨2, 32, .agg #[.int .i64 0, nilS], fun x => [.int .i64 (x.1 : Nat), .slice (some ⟨x.2, 0, none⟩) 512 512], fun _ => rfl, fun e u hu => by
  simp only [List.mem_cons, List.not_mem_nil, or_false] at hu; rcases hu with rfl | rfl <;> rfl, by decide, rfl, fun T => T == WRT⟩
theorem infoWr : (Tryz.prog.info? WRT).map (fun i => (i.zero, i.size, i.bytes)) = some (some wrE0.zero, wrE0.sz, wrE0.by_) := by kernel_rfl
def WRo (w : World) : List (Nat × Nat) → List PgW → Prop
  | [], [] => True
  | x :: r, y :: s => (x.1 = y.1 ∧ Row w x.2 5 y.2 ∧ y.2.length = 512 ∧ B8 y.2) ∧ WRo w r s
  | _, _ => False
theorem WRo.len {w : World} : ∀ {gs : List (Nat × Nat)} {ws : List PgW}, WRo w gs ws → gs.length = ws.length
  | [], [], _ => rfl
  | _ :: _, _ :: _, h => by rw [List.length_cons, List.length_cons, WRo.len h.2]
  | [], _ :: _, h => h.elim
  | _ :: _, [], h => h.elim
theorem WRo.snoc {w : World} {x : Nat × Nat} {y : PgW} : ∀ {gs : List (Nat × Nat)} {ws : List PgW}, WRo w gs ws → x.1 = y.1 ∧ Row w x.2 5 y.2 ∧ y.2.length = 512 ∧ B8 y.2 → WRo w (gs ++ [x]) (ws ++ [y])
  | [], [], _, h => ⟨h, trivial⟩
  | _ :: _, _ :: _, h, h2 => ⟨h.1, WRo.snoc h.2 h2⟩
  | [], _ :: _, h, _ => h.elim
  | _ :: _, [], h, _ => h.elim
theorem WRo.mono {w w' : World} (hr : ∀ g l, Row w g 5 l → Row w' g 5 l) : ∀ {gs : List (Nat × Nat)} {ws : List PgW}, WRo w gs ws → WRo w' gs ws
  | [], [], _ => trivial
  | _ :: _, _ :: _, h => ⟨⟨h.1.1, hr _ _ h.1.2.1, h.1.2.2⟩, WRo.mono hr h.2⟩
  | [], _ :: _, h => h.elim
  | _ :: _, [], h => h.elim
def LF (w : World) (gl B : Nat) (i : Nat) : Prop := i = gl ∨ (B ≤ i ∧ ∃ A fz, w.heap[i]? = some (.cells A WRT fz))
def PLo (B : Nat) (v : Value) : Prop := ∀ a n c, v = .slice (some a) n c → a.block < B
structure LyI (w : World) (gl B : Nat) (ps : List Nat) (ws : List PgW) : Prop where
  ex : ∃ vp vw gs, w.heap[gl]? = some (.cells #[vp, vw] LYT (0, 0)) ∧ (EV pgE w vp ps ∧ PLo B vp) ∧ w.ownsRow B WRT wrE0.sz vw gs.length (wrE0.row gs) ∧ WRo w gs ws
  lt : gl < B
  bz : B ≤ w.heap.size
  wo : WorthIn w
  wg : 2 < gl
theorem LF.trans {w w1 w2 : World} {gl B : Nat} (h : Turn (LF w gl B) w w1) (k : Turn (LF w1 gl B) w1 w2) : Turn (LF w gl B) w w2 := h.step k (fun i hi hl => by
  rcases hi with rfl | ⟨hB, A, fz, h2⟩
  · exact .inl rfl
  · by_cases hF : LF w gl B i
    · exact hF
    · exact .inr ⟨hB, A, fz, (h.block i hl hF).symm.trans h2⟩)
section
variable {w w' : World} {gl B : Nat} {ps : List Nat} {ws : List PgW}
theorem LyI.tf (h : LyI w gl B ps ws) : TF w (LF w gl B) := fun b hb => by
  obtain ⟨vp, vw, gs, h1, _⟩ := h.ex
  rcases hb with rfl | ⟨_, A, fz, h2⟩
  · exact ⟨_, _, _, h1, by decide⟩
  · exact ⟨_, _, _, h2, by decide⟩
theorem LyI.not (h : LyI w gl B ps ws) {b T : Nat} {A : Array Value} {fz : Nat × Nat} (hb : w.heap[b]? = some (.cells A T fz)) (h1 : T ≠ LYT := by decide) (h2 : T ≠ WRT := by decide) : ¬ LF w gl B b := fun hF => by
  obtain ⟨vp, vw, gs, h3, _⟩ := h.ex
  rcases hF with rfl | ⟨_, A', fz', h4⟩
  · rw [h3] at hb
    injection hb with hb
    injection hb with _ hb _
    exact h1 hb.symm
  · rw [h4] at hb
    injection hb with hb
    injection hb with _ hb _
    exact h2 hb.symm
theorem LyI.hg (h : LyI w gl B ps ws) (t : Turn (LF w gl B) w w') {b T : Nat} {A : Array Value} {fz : Nat × Nat} (hb : w.heap[b]? = some (.cells A T fz)) (h1 : T ≠ LYT := by decide) (h2 : T ≠ WRT := by decide) : w'.heap[b]? = some (.cells A T fz) := t.hg hb (h.not hb h1 h2)
theorem LyI.own (h : LyI w gl B ps ws) (t : Turn (LF w gl B) w w') {B' E sz n : Nat} {v : Value} {xs : List Value} (ho : w.ownsRow B' E sz v n xs) (h1 : E ≠ LYT := by decide) (h2 : E ≠ WRT := by decide) : w'.ownsRow B' E sz v n xs := by
  refine ⟨ho.1, ?_⟩
  rcases ho.2 with h3 | ⟨b, cap, cur, rfl, hb, hgb, h3⟩
  · exact .inl h3
  · exact .inr ⟨b, cap, cur, rfl, hb, h.hg t hgb h1 h2, h3⟩
theorem LyI.ext (h : LyI w gl B ps ws) (hb : Below w.heap.size w w') : LyI w' gl B ps ws := by
  obtain ⟨vp, vw, gs, h1, h2, h3, h4⟩ := h.ex
  exact ⟨⟨vp, vw, gs, (hb.block gl (Array.getElem?_eq_some_iff.1 h1).1).trans h1, ⟨h2.1.ext hb, h2.2⟩, own_below h3 hb (Nat.le_refl _), h4.mono fun g l hr => hr.below hb hr.lt⟩, h.lt, Nat.le_trans h.bz hb.size, h.wo.below hb, h.wg⟩
theorem LyI.tz (h : LyI w gl B ps ws) {F : Nat → Prop} (t : Turn F w w') (hF : ∀ i, F i → B ≤ i ∧ ∃ A T fz, w.heap[i]? = some (.cells A T fz) ∧ T ≠ WRT ∧ T ≠ 5) : LyI w' gl B ps ws := by
  obtain ⟨vp, vw, gs, h1, ⟨⟨a, c, e1, hs, h2⟩, hl⟩, h3, h4⟩ := h.ex
  have hlt := h.lt
  have no : ∀ {b T : Nat} {A : Array Value} {fz : Nat × Nat}, w.heap[b]? = some (.cells A T fz) → (T = WRT ∨ T = 5) → ¬ F b := fun hb hT hf => by
    obtain ⟨_, A2, T2, fz2, g1, g2, g3⟩ := hF _ hf
    rw [hb] at g1
    injection g1 with g1
    injection g1 with _ g1 _
    rcases hT with hT | hT
    · exact g2 (g1.symm.trans hT)
    · exact g3 (g1.symm.trans hT)
  have lo : ∀ {b}, b < B → ¬ F b := fun hb hf => by have := (hF _ hf).1; omega
  refine ⟨⟨vp, vw, gs, t.hg h1 (lo hlt), ⟨⟨a, c, e1, ?_, h2⟩, hl⟩, ⟨h3.1, ?_⟩, h4.mono fun g l hr => t.hg hr (no hr (.inr rfl))⟩, hlt, Nat.le_trans h.bz t.size, fun j hj => ?_, h.wg⟩
  · rcases hs with hs | ⟨g, o, rfl, ⟨A, T, fz, ht, hT⟩, hc⟩
    · exact .inl hs
    · have hg : ¬ F g := lo (hl _ _ _ e1)
      refine .inr ⟨g, o, rfl, ⟨A, T, fz, t.hg ht hg, hT⟩, fun j u hu => ?_⟩
      have h1 := hc j u hu
      rw [t.cell (p := ⟨g, o + j, none⟩) (block_lt_of_cell h1) hg]
      exact h1
  · rcases h3.2 with h5 | ⟨b, cap, cur, rfl, hb, hgb, h5⟩
    · exact .inl h5
    · exact .inr ⟨b, cap, cur, rfl, hb, t.hg hgb (no hgb (.inl rfl)), h5⟩
  · have h1 := h.wo j hj
    have hw := h.wg
    rw [t.cell (p := ⟨2, j, none⟩) (block_lt_of_cell h1) (lo (show (2 : Nat) < B by omega))]
    exact h1
theorem LF.tz {w0 : World} (h : Turn (LF w0 gl B) w0 w) {F : Nat → Prop} (t : Turn F w w') (hF : ∀ i, F i → w0.heap.size ≤ i) : Turn (LF w0 gl B) w0 w' := h.step t (fun i hi hl => by have := hF i hi; omega)
theorem LyI.src (h : LyI w gl B ps ws) {a : Option Addr} {l : List Nat} (hs : Src w a l) (t : Turn (fun i => i = gl) w w') : Src w' a l := fun h0 => by
  obtain ⟨b, o, rfl, hc⟩ := hs h0
  obtain ⟨vp, vw, gs, h1, ⟨⟨pa, pc, rfl, _⟩, _⟩, h3, _⟩ := h.ex
  have hb : b ≠ gl := fun e => by
    subst e
    have h4 := hc 0 h0
    have hvw : ∃ a n c, vw = .slice a n c := by
      rcases h3.2 with ⟨rfl, _⟩ | ⟨_, _, _, rfl, _⟩ <;> exact ⟨_, _, _, rfl⟩
    obtain ⟨a2, n2, c2, rfl⟩ := hvw
    simp only [World.cell?, h1, Nat.add_zero] at h4
    rcases o with _ | _ | o
    · simp at h4
    · simp at h4
    · simp at h4
  refine ⟨b, o, rfl, fun i hi => ?_⟩
  rw [t.cell (p := ⟨b, o + i, none⟩) (block_lt_of_cell (hc i hi)) hb]
  exact hc i hi
theorem OC.lay {v : Value} {es : List En} {B' : Nat} (ho : OC w B' v es) (h : LyI w gl B ps ws) (t : Turn (LF w gl B) w w') : OC w' B' v es := by
  obtain ⟨xs, h1, h2⟩ := ho
  exact ⟨xs, h.own t h1, RW.turn t h.tf h2⟩
end
set_option maxRecDepth 100000 in
theorem write_any (gl B k n c : Nat) (a : Option Addr) (l : List Nat) (ps : List Nat) (ws : List PgW) (w : World) (hI : LyI w gl B ps ws) (hp : 0 < ps.length) (hwl : ws.length ≤ 100000) (hn : l.length = n) (hk1 : 1 ≤ k) (hk5 : k ≤ 5) (hl : n ≤ 504) (hb8 : B8 l) (hsrc : Src w a l) :
    Calls Tryz.prog 100 #[pt gl, .int .u8 k, .slice a n c] w fun e w' => e = .returned (.int .i64 (na ps 0 : Nat)) ∧ LyI w' gl B (ps.drop 1) (ws ++ [(na ps 0, pageL k l)]) ∧ Turn (LF w gl B) w w' := by
  obtain ⟨vp, vw, gs, hg, ⟨hev, hplo⟩, hown, hwr⟩ := hI.ex
  have hgl := hwr.len
  obtain ⟨pa, pc, rfl, hes, hz, hpc, hpm⟩ := hev
  obtain ⟨g1, o1, rfl, hcs⟩ := hes.pages hp
  have hg1B : g1 < B := hplo _ _ _ rfl
  have p0 := hcs 0 hp
  have Hes := Lib.hid hes
  obtain ⟨N, hN⟩ : ∃ N, ps.length = N := ⟨_, rfl⟩
  rw [hN] at hg hp hpc
  have HN := Lib.hid hN
  have c0 : w.cell? ⟨gl, 0, none⟩ = some (.slice (some ⟨g1, o1, none⟩) N pc) := by simp [World.cell?, hg]
  have f0 : w.frozen? ⟨gl, 0, none⟩ = false := by simp [World.frozen?, hg]
  have hpm' := hpm
  unfold maxLen at hpm'
  have key : ∀ (A : Option Addr) (C : Nat), (pc = 1 → A = some ⟨g1, o1, none⟩ ∧ C = 0) → (pc ≠ 1 → A = some ⟨g1, o1 + 1, none⟩ ∧ C = pc - 1) → EV pgE (w.setCell ⟨gl, 0, none⟩ (.slice A (N - 1) C)) (.slice A (N - 1) C) (ps.drop 1) ∧ PLo B (.slice A (N - 1) C) := fun A C hA hB => by
    have hl1 : (ps.drop 1).length = N - 1 := by rw [List.length_drop, hN]
    by_cases h1 : pc = 1
    · obtain ⟨rfl, rfl⟩ := hA h1
      refine ⟨?_, fun a n c e => by injection e with e _ _; injection e with e; rw [← e]; exact hg1B⟩
      have e1 : ps.drop 1 = ps.take 0 := by rw [List.take_zero]; exact List.eq_nil_of_length_eq_zero (by omega)
      refine ⟨_, _, by rw [hl1], ?_, fun h => (by cases h), by omega, by unfold maxLen; omega⟩
      rw [e1]
      exact (hes.take 0).set hg rfl
    · obtain ⟨rfl, rfl⟩ := hB h1
      refine ⟨?_, fun a n c e => by injection e with e _ _; injection e with e; rw [← e]; exact hg1B⟩
      refine ⟨_, _, by rw [hl1], ?_, fun h => (by cases h), by omega, by omega⟩
      exact (hes.drop 1 (o1 + 1) (by omega) (by simp [pgE])).set hg rfl
  generalize na ps 0 = P0 at *
  have HI := Lib.hid hI
  have Hsrc := Lib.hid hsrc
  have Hrest := Lib.hid (And.intro hg (And.intro hown (And.intro hwr hgl)))
  have Hb8 := Lib.hid hb8
  have Hpl : Hid ((pageL k l).length = 512 ∧ B8 (pageL k l)) := ⟨pageL_length (by omega), pageL_b8 (by omega) (by omega) hb8⟩
  have Hn := Lib.hid hn
  have Hkey := Lib.hid key
  have Hwl := Lib.hid hwl
  rw [Nat.add_zero] at p0
  clear hes hcs hI hsrc hg hown hwr hgl hb8 hn hz hpm hN key hwl hplo hg1B
  go_enter Tryz.func100, Tryz.ntmps100
  go_wp2_with fail
  case' inl =>
    have hev := Lib.hid (Hkey.out _ _ (fun _ => ⟨rfl, rfl⟩) (fun hh => absurd h hh))
    generalize Value.slice (some ⟨g1, o1, none⟩) (N - 1) 0 = V at *
  case' inr =>
    have hev := Lib.hid (Hkey.out _ _ (fun hh => absurd hh h) (fun _ => ⟨rfl, rfl⟩))
    generalize Value.slice (some ⟨g1, o1 + 1, none⟩) (N - 1) (pc - 1) = V at *
  all_goals
    have hg1 := heap_setCell_same w gl 0 _ _ V Hrest.out.1
    have ht1 : Turn (fun i => i = gl) w (w.setCell ⟨gl, 0, none⟩ V) := (Turn.refl _ w).setCell _ (fun _ => rfl)
    have htl : Turn (LF w gl B) w (w.setCell ⟨gl, 0, none⟩ V) := ht1.mono (fun i hi _ => .inl hi)
    have Hown1 : Hid ((w.setCell ⟨gl, 0, none⟩ V).ownsRow B WRT wrE0.sz vw gs.length (wrE0.row gs)) := own_tur Hrest.out.2.1 ht1 (TyF.one Hrest.out.1) (by decide)
    have Hwr1 : Hid (WRo (w.setCell ⟨gl, 0, none⟩ V) gs ws) := Hrest.out.2.2.1.mono fun g l hr => HI.out.hg htl hr
    have Hwo1 : Hid (WorthIn (w.setCell ⟨gl, 0, none⟩ V)) := fun j hj => by
      have h1 := HI.out.wo j hj
      rw [ht1.cell (p := ⟨2, j, none⟩) (block_lt_of_cell h1) (by have := HI.out.wg; show ¬ (2 : Nat) = gl; omega)]
      exact h1
    have Hsrc1 := Lib.hid (HI.out.src Hsrc.out ht1)
    have Htl := Lib.hid htl
    have Hg1 := Lib.hid hg1
    have Hkb := Lib.hid (And.intro hk1 (And.intro hk5 hl))
    generalize hw1 : w.setCell ⟨gl, 0, none⟩ V = w1 at *
    have hlt1 : gl < w1.heap.size := (Array.getElem?_eq_some_iff.1 hg1).1
    clear ht1 htl hg1 Hsrc hw1 c0 f0 p0 Hkey hk1 hk5 hl h
    refine (seal_in k a n c l Hn.out w1 Hkb.out.1 Hkb.out.2.1 Hkb.out.2.2 Hb8.out Hsrc1.out Hwo1.out).mono ?_
    rintro e w2 ⟨rfl, hrow, hb2⟩
    have Hrow := Lib.hid hrow
    have hg2 := (hb2.block gl hlt1).trans Hg1.out
    simp only [List.setIfInBounds_toArray, List.set_cons_zero] at hg2
    have c1 : w2.cell? ⟨gl, 1, none⟩ = some vw := by simp [World.cell?, hg2]
    generalize hgb : w1.heap.size = gb at *
    have Hg2 := Lib.hid hg2
    have Hb2 := Lib.hid hb2
    have Hown2 := Lib.hid (own_below Hown1.out hb2 (by omega))
    have Hwr2 := Lib.hid (Hwr1.out.mono fun g l hr => hr.below hb2 (by have := hr.lt; omega))
    have Hev2 := Lib.hid (And.intro (hev.out.1.below hb2 (by omega)) hev.out.2)
    have Hwo2 := Lib.hid (Hwo1.out.below (hgb ▸ hb2))
    have hB2 : B ≤ w2.heap.size := by
      have h1 := HI.out.bz
      have h2 := Htl.out.size
      have h3 := hb2.size
      omega
    clear hrow hb2 hg2 Hown1 Hwr1 Hwo1 Hsrc1 Hg1 hev hlt1 Hkb
    have hlit : ES wrE0 (w2.alloc (.cells #[.int .i64 (P0 : Nat), .slice (some ⟨gb, 0, none⟩) 512 512] WRT)) (some ⟨w2.heap.size, 0, none⟩) [(P0, gb)] := ES.lit (heap_new w2 WRT #[.int .i64 (P0 : Nat), .slice (some ⟨gb, 0, none⟩) 512 512]) (by simp [wrE0])
    have hgl2 : gs.length ≤ 100000 := by rw [Hrest.out.2.2.2]; exact Hwl.out
    obtain ⟨v1, w4, hrun, hb4, ht4, ho4⟩ := run_app_turn (P := Tryz.prog) (w := w2.alloc (.cells #[.int .i64 (P0 : Nat), .slice (some ⟨gb, 0, none⟩) 512 512] WRT)) (E := wrE0) B 36 36 WRT Tryz.underlying36 infoWr vw gs.length gs (Hown2.out.alloc _) (by simp; omega) (some ⟨w2.heap.size, 0, none⟩) 1 1 [(P0, gb)] rfl (by omega) hlit (by unfold maxLen; omega) (by show _ * 32 ≤ _; omega)
    have ho4' : w4.ownsRow B WRT wrE0.sz v1 (gs ++ [(P0, gb)]).length (wrE0.row (gs ++ [(P0, gb)])) := by rw [List.length_append]; exact ho4
    obtain ⟨a4, c4, rfl, _⟩ := own_ev (E := wrE0) ho4'
    generalize hM : (gs ++ [(P0, gb)]).length = M at *
    have HM := Lib.hid hM
    have hgB : gl < B := HI.out.lt
    have hg4 : w4.heap[gl]? = some (.cells #[V, vw] LYT (0, 0)) := (hb4.block gl hgB).trans (((Below.refl w2.heap.size w2).alloc (Nat.le_refl _) _).block gl (by omega) |>.trans Hg2.out)
    have f1 : w4.frozen? ⟨gl, 1, none⟩ = false := by simp [World.frozen?, hg4]
    have d1 : w4.cell? ⟨gl, 1, none⟩ = some vw := by simp [World.cell?, hg4]
    have Hb4 := Lib.hid hb4
    have Ht4 := Lib.hid ht4
    have Ho4 := Lib.hid ho4'
    have Hg4 := Lib.hid hg4
    clear hb4 ht4 ho4 ho4' hg4 hlit hgl2 hM
    go_wp2_with (at_builtin; refine Lib.wpList_append_run _ rfl (.tmp 34) (.tmp 38) _ _ rfl _ _ (by rfl) (by rfl) _ _ hrun ?_)
    go_ret
    generalize Value.slice a4 M c4 = v4 at *
    have h12 : Turn (LF w gl B) w w2 := Htl.out.trans (Turn.ofBelow (by rw [hgb]; exact Hb2.out))
    have h13 := h12.alloc (.cells #[.int .i64 (P0 : Nat), .slice (some ⟨gb, 0, none⟩) 512 512] WRT)
    have h14 : Turn (LF w gl B) w w4 := h13.step Ht4.out (fun i hi _ => .inr ⟨((Hrest.out.2.1).lt i hi).1, TyF.own Hrest.out.2.1 i hi⟩)
    have h15 : Turn (LF w gl B) w (w4.setCell ⟨gl, 1, none⟩ v4) := h14.setCell (p := ⟨gl, 1, none⟩) v4 (fun _ => .inl rfl)
    have ht5 : Turn (fun i => i = gl) w4 (w4.setCell ⟨gl, 1, none⟩ v4) := (Turn.refl _ w4).setCell (p := ⟨gl, 1, none⟩) v4 (fun _ => rfl)
    have hal := (Below.refl w2.heap.size w2).alloc (Nat.le_refl _) (.cells #[.int .i64 (P0 : Nat), .slice (some ⟨gb, 0, none⟩) 512 512] WRT)
    have hT4 := TyF.own (Hown2.out.alloc (.cells #[.int .i64 (P0 : Nat), .slice (some ⟨gb, 0, none⟩) 512 512] WRT))
    have hev4 : EV pgE w4 V (ps.drop 1) := EV.tur (Hev2.out.1.below hal (Nat.le_refl _)) Ht4.out hT4 rfl
    have hrw : ∀ g l, Row w2 g 5 l → Row (w4.setCell ⟨gl, 1, none⟩ v4) g 5 l := fun g l hr => by
      have h1 := hr.below hal hr.lt
      have h2 : Row w4 g 5 l := Ht4.out.hg h1 (hT4.not h1 (by decide))
      exact ht5.hg h2 ((TyF.one Hg4.out).not h2 (by decide))
    have hw5 : WorthIn (w4.setCell ⟨gl, 1, none⟩ v4) := fun j hj => by
      have h1 := HI.out.wo j hj
      rw [h15.cell (p := ⟨2, j, none⟩) (block_lt_of_cell h1) (by
        have h2 := HI.out.wg
        have h3 := HI.out.lt
        rintro (h4 | ⟨h4, _⟩)
        · have h5 : (2 : Nat) = gl := h4
          omega
        · have h5 : B ≤ (2 : Nat) := h4
          omega)]
      exact h1
    refine ⟨rfl, ⟨⟨V, v4, gs ++ [(P0, gb)], ?_, ⟨hev4.tur ht5 (TyF.one Hg4.out) rfl, Hev2.out.2⟩, ?_, ?_⟩, HI.out.lt, Nat.le_trans HI.out.bz h15.size, hw5, HI.out.wg⟩, h15⟩
    · have := heap_setCell_same w4 gl 1 _ _ v4 Hg4.out
      simpa using this
    · rw [HM.out]
      have := Ho4.out
      exact own_tur this ht5 (TyF.one Hg4.out) (by decide)
    · exact (Hwr2.out.mono hrw).snoc ⟨rfl, hrw _ _ Hrow.out, Hpl.out⟩
end Go.Proofs.YtdgladhfibfdlaaGreatDoor
namespace Go.Proofs.YtdgladhfibfdlaaGreatDoor
open Go Go.RowKit
def layP (P : List (List Nat)) : List PgW → List (List Nat)
  | [] => P
  | x :: r => layP (P.set x.1 x.2) r
theorem WRo.at {w : World} : ∀ {gs : List (Nat × Nat)} {ws : List PgW} {k : Nat} {x : Nat × Nat} {y : PgW}, WRo w gs ws → gs[k]? = some x → ws[k]? = some y → x.1 = y.1 ∧ Row w x.2 5 y.2
  | _ :: _, _ :: _, 0, _, _, h, h1, h2 => by
    simp only [List.getElem?_cons_zero, Option.some.injEq] at h1 h2
    subst h1 h2
    exact ⟨h.1.1, h.1.2.1⟩
  | _ :: _, _ :: _, k + 1, _, _, h, h1, h2 => WRo.at (k := k) h.2 (by simpa using h1) (by simpa using h2)
  | [], [], _, _, _, _, h1, _ => by simp at h1
  | [], _ :: _, _, _, _, h, _, _ => h.elim
  | _ :: _, [], _, _, _, h, _, _ => h.elim
end Go.Proofs.YtdgladhfibfdlaaGreatDoor
namespace Go.Proofs.YtdgladhfibfdlaaGreatDoor
open Go Go.RowKit Go.Shelf
attribute [local go_sem] Oper.semAt_some
def BK (W : World) (Bv : Nat) (v : Value) (ks : List ByteArray) : Prop := Boxed W Bv CSS v ∧ EV strE W v ks
def downL (n k : Nat) : List Nat := (List.range k).map (fun j => n - 1 - j)
theorem downL_succ (n k : Nat) : downL n (k + 1) = downL n k ++ [n - 1 - k] := by simp [downL, List.range_succ]
set_option maxRecDepth 100000 in
set_option maxHeartbeats 2000000 in
theorem back1_in (F : Fence) (n : Nat) (hfn : F.fn 165) (hro : F.round = none) (hn : 1 ≤ n) (l Bv : Nat) (v : Value) (ks : List ByteArray) (hks : ks.length ≤ 100000) (J Jx : List (_root_.Fin ks.length) → World → Prop)
    (hY : ∀ pre (x : _root_.Fin ks.length) W, J pre W → pre.length < ks.length → YieldAt F (n - 1) Tryz.prog l #[.int .i64 (x.val : Nat), .string (sa ks x.val)] W fun e W' =>
      (e = .returned (.bool true) ∧ J (pre ++ [x]) W' ∧ (BK W Bv v ks → BK W' Bv v ks)) ∨ (e = .returned (.bool false) ∧ Jx (pre ++ [x]) W'))
    (W : World) (hb : BK W Bv v ks) (h0 : J [] W) :
    CallsIn F n Tryz.prog 165 #[.func (.yield l) #[] #[], .pointer (some ⟨Bv, 0, none⟩)] W fun e W' => (∃ v, e = .returned v) ∧
      ((∃ xs : List (_root_.Fin ks.length), xs.map _root_.Fin.val = downL ks.length ks.length ∧ J xs W') ∨ (∃ pre : List (_root_.Fin ks.length), True ∧ Jx pre W')) := by
  have HY := Lib.hid hY
  have Hb := Lib.hid hb
  have H0 := Lib.hid h0
  obtain ⟨a, c, hv, hes, _⟩ := hb.2
  subst hv
  have hbx := hb.1.cell
  obtain ⟨N, hN⟩ : ∃ N, ks.length = N := ⟨_, rfl⟩
  have HN := Lib.hid hN
  have hN1 : N ≤ 100000 := by omega
  have hvN : (Value.slice a ks.length c) = .slice a N c := by rw [hN]
  rw [hvN] at hbx
  have HvN := Lib.hid hvN
  clear hY hb h0 hes hvN hN hks
  refine callsIn_of_wp Tryz.func165 rfl hfn ?_ hro
  simp only [Tryz.ntmps165, List.size_toArray, List.length_cons, List.length_nil, Nat.reduceAdd, Nat.reduceSub, Array.replicate_succ, Array.replicate_zero, List.push_toArray, List.append_toArray, List.nil_append, List.cons_append]
  gi_wp2
  gi_loopw [3] (fun i wr => ∃ (k : Nat) (I : Int), i = .int .i64 I ∧ Hid (I = (N : Int) - 1 - k ∧ k ≤ N) ∧ Hid (∃ pre : List (_root_.Fin ks.length), pre.map _root_.Fin.val = downL ks.length k ∧ J pre wr) ∧ Hid (BK wr Bv (.slice a ks.length c) ks))
    (fun i _ => (intOf i + 1).toNat)
  case atStart => exact ⟨0, _, rfl, ⟨by go_num, Nat.zero_le _⟩, ⟨[], rfl, H0.out⟩, Hb.out⟩
  case round =>
    obtain ⟨k, I, rfl, hk, hJ, hB⟩ := hrel
    have c0 := hB.out.1.cell
    rw [HvN.out] at c0
    by_cases hlt : 0 ≤ I
    · obtain ⟨A, rfl⟩ : ∃ A : Nat, I = A := ⟨I.toNat, by omega⟩
      have hA : A < N := by have := hk.out.1; omega
      obtain ⟨a', c', hv', hes, _⟩ := hB.out.2
      injection hv' with hv' _ hv2
      subst hv' hv2
      obtain ⟨g1, o1, rfl, hcs⟩ := hes.texts (by rw [HN.out]; omega)
      have p0 := hcs A (by rw [HN.out]; exact hA)
      obtain ⟨pre, hpre, hj⟩ := hJ.out
      obtain ⟨fn, tmps, assign, body, hy, hR⟩ := HY.out pre ⟨A, by rw [HN.out]; exact hA⟩ wr hj (by
        have := congrArg List.length hpre
        rw [List.length_map] at this
        rw [this, downL, List.length_map, List.length_range, HN.out]
        have := hk.out.1; omega)
      dsimp only at hy
      have Hpre := Lib.hid hpre
      clear hes hcs hj hpre hJ
      gi_wp2
      refine hR.mono ?_
      rintro e W3 (⟨rfl, hJ3, hk3⟩ | ⟨rfl, hJx3⟩)
      · have HJ3 : Hid (∃ pre : List (_root_.Fin ks.length), pre.map _root_.Fin.val = downL ks.length (k + 1) ∧ J pre W3) := ⟨_, by
          rw [List.map_append, Hpre.out, downL_succ]
          simp only [List.map_cons, List.map_nil]
          congr 2
          have := hk.out.1; have := HN.out; omega, hJ3⟩
        have HB3 := Lib.hid (hk3 hB.out)
        have hm : Hid ((A : Int) - 1 = (N : Int) - 1 - ((k + 1 : Nat) : Int) ∧ k + 1 ≤ N) := by have := hk.out; exact ⟨by omega, by omega⟩
        clear hJ3 hk3
        gi_wp2
        go_roundw
        case rel => exact ⟨k + 1, _, rfl, by first | exact hm | go_num, HJ3, HB3⟩
        case measure => simp [intOf] <;> omega
      · have HJx := Lib.hid hJx3
        clear hJx3
        gi_wp2
        refine bodyPost_ret (results_none rfl _ _ _) rfl ?_
        exact ⟨⟨_, rfl⟩, .inr ⟨_, trivial, HJx.out⟩⟩
    · have hkk : k = N := by have := hk.out; omega
      gi_wp2
      go_end0
      obtain ⟨pre, h1, h2⟩ := hJ.out
      exact ⟨⟨_, rfl⟩, .inl ⟨pre, by rw [h1, hkk, HN.out], h2⟩⟩
theorem back_in (F : Fence) (n : Nat) (hfn : F.fn 129) (hro : F.round = none) (a : Option Addr) (m c : Nat) (w : World) :
    CallsIn F n Tryz.prog 129 #[.slice a m c] w fun e w' => e = .returned (.func (.func 165) #[] #[.pointer (some ⟨w.heap.size, 0, none⟩)]) ∧ w' = w.alloc (.cells #[.slice a m c] CSS) := by
  refine callsIn_of_wp Tryz.func129 rfl hfn ?_ hro
  simp only [Tryz.ntmps129, List.size_toArray, List.length_cons, List.length_nil, Nat.reduceAdd, Nat.reduceSub, Array.replicate_succ, Array.replicate_zero, List.push_toArray, List.append_toArray, List.nil_append, List.cons_append]
  gi_wp2
  go_ret
  exact ⟨rfl, rfl⟩
theorem back_stops (F : Fence) (n : Nat) (hfn : F.fn 165) (hro : F.round = none) (hn : 1 ≤ n) (Bv : Nat) (v : Value) (ks : List ByteArray) (hks : ks.length ≤ 100000) (w : World) (hb : BK w Bv v ks) :
    SeqStopsK F n Tryz.prog 165 #[.pointer (some ⟨Bv, 0, none⟩)] (fun x : _root_.Fin ks.length => #[Value.int .i64 (x.val : Nat), Value.string (sa ks x.val)]) (fun A B => BK A Bv v ks → BK B Bv v ks)
      (fun xs => xs.map _root_.Fin.val = downL ks.length ks.length) (fun _ => True) ks.length w := fun l J Jx W hW _ _ hY h0 =>
  back1_in F n hfn hro hn l Bv v ks hks J Jx hY W ⟨(hW.block Bv hb.1.lt).trans hb.1, hb.2.below hW (Nat.le_refl _)⟩ h0
end Go.Proofs.YtdgladhfibfdlaaGreatDoor
namespace Go.Proofs.YtdgladhfibfdlaaGreatDoor
open Go Go.RowKit Go.Shelf
attribute [local go_sem] Oper.semAt_some
abbrev PLT : TypeId := 104
abbrev SIT : TypeId := 101
abbrev IT : TypeId := 3
theorem na_app {a b : List Nat} {i : Nat} (h : i < a.length) : na (a ++ b) i = na a i := by
  unfold na; simp [List.getD, List.getElem?_append_left h]
theorem na_last (a : List Nat) (x : Nat) : na (a ++ [x]) a.length = x := by
  unfold na; simp [List.getD]
def wrB (V : ByteArray) (ps pre : List Nat) : List PgW := (List.range pre.length).map (fun i => (na ps i, pageL 3 (beL (if i = 0 then 0 else na ps (i - 1)) 2 ++ bn (cutS V (na pre i)))))
def fillP (ps : List Nat) (n : Nat) (pre : List Nat) : List Nat := (List.range pre.length).foldl (fun L i => L.set (na pre i) (na ps i)) (List.replicate n 0)
theorem wrB_snoc (V : ByteArray) (ps pre : List Nat) (x : Nat) : wrB V ps (pre ++ [x]) = wrB V ps pre ++ [(na ps pre.length, pageL 3 (beL (if pre.length = 0 then 0 else na ps (pre.length - 1)) 2 ++ bn (cutS V x)))] := by
  unfold wrB
  rw [List.length_append, List.length_singleton, List.range_succ, List.map_append, List.map_cons, List.map_nil, na_last]
  have e : ∀ i ∈ List.range pre.length, (na ps i, pageL 3 (beL (if i = 0 then 0 else na ps (i - 1)) 2 ++ bn (cutS V (na (pre ++ [x]) i)))) = (na ps i, pageL 3 (beL (if i = 0 then 0 else na ps (i - 1)) 2 ++ bn (cutS V (na pre i)))) := fun i hi => by
    rw [na_app (List.mem_range.1 hi)]
  rw [List.map_congr_left e]
theorem wrB_len (V : ByteArray) (ps pre : List Nat) : (wrB V ps pre).length = pre.length := by simp [wrB]
theorem foldl_same {α β : Type} {f g : β → α → β} : ∀ (l : List α) (b : β), (∀ b, ∀ a ∈ l, f b a = g b a) → l.foldl f b = l.foldl g b
  | [], _, _ => rfl
  | a :: r, b, h => by
    rw [List.foldl_cons, List.foldl_cons, h b a (by simp)]
    exact foldl_same r _ (fun b a ha => h b a (by simp [ha]))
theorem fillP_snoc (ps : List Nat) (n : Nat) (pre : List Nat) (x : Nat) : fillP ps n (pre ++ [x]) = (fillP ps n pre).set x (na ps pre.length) := by
  unfold fillP
  rw [List.length_append, List.length_singleton, List.range_succ, List.foldl_append, List.foldl_cons, List.foldl_nil, na_last]
  congr 1
  refine foldl_same _ _ fun b a ha => ?_
  rw [na_app (List.mem_range.1 ha)]
theorem na_set (L : List Nat) (i x j : Nat) (h : i < L.length) : na (L.set i x) j = if j = i then x else na L j := by
  unfold na
  simp only [List.getD_eq_getElem?_getD, List.getElem?_set]
  by_cases h1 : i = j
  · subst h1; simp [h]
  · rw [if_neg h1, if_neg (by omega)]
theorem fold_len (ps pre : List Nat) : ∀ (r : List Nat) (L : List Nat), (r.foldl (fun L i => L.set (na pre i) (na ps i)) L).length = L.length
  | [], _ => rfl
  | a :: r, L => by rw [List.foldl_cons, fold_len ps pre r]; simp
theorem fillP_len (ps : List Nat) (n : Nat) (pre : List Nat) : (fillP ps n pre).length = n := by
  unfold fillP; rw [fold_len]; simp
theorem na_rep (n j : Nat) : na (List.replicate n 0) j = 0 := by
  unfold na
  simp only [List.getD_eq_getElem?_getD, List.getElem?_replicate]
  split <;> rfl
theorem downL_len (n k : Nat) : (downL n k).length = k := by simp [downL]
theorem na_down {n k i : Nat} (h : i < k) : na (downL n k) i = n - 1 - i := by
  unfold na downL; simp [List.getD, h]
theorem na_ext {a b : List Nat} (h : a.length = b.length) (hn : ∀ i, i < a.length → na a i = na b i) : a = b := by
  refine List.ext_getElem h fun i h1 h2 => ?_
  have := hn i h1
  unfold na at this
  simpa [List.getD, h1, h2] using this
theorem fillP_down (ps : List Nat) (n : Nat) : ∀ k, k ≤ n → ∀ j, j < n → na (fillP ps n (downL n k)) j = if n - 1 - j < k then na ps (n - 1 - j) else 0
  | 0, _, j, _ => by
    rw [if_neg (by omega)]
    show na (List.replicate n 0) j = 0
    exact na_rep n j
  | k + 1, hk, j, hj => by
    rw [downL_succ, fillP_snoc, na_set _ _ _ _ (by rw [fillP_len]; omega), downL_len, fillP_down ps n k (by omega) j hj]
    by_cases h1 : j = n - 1 - k
    · rw [if_pos h1, if_pos (by omega)]
      congr 1; omega
    · rw [if_neg h1]
      by_cases h2 : n - 1 - j < k
      · rw [if_pos h2, if_pos (by omega)]
      · rw [if_neg h2, if_neg (by omega)]
theorem fillP_all (ps : List Nat) (n : Nat) (h : n ≤ ps.length) : fillP ps n (downL n n) = (ps.take n).reverse := by
  refine na_ext (by rw [fillP_len, List.length_reverse, List.length_take]; omega) fun i hi => ?_
  rw [fillP_len] at hi
  rw [fillP_down ps n n (Nat.le_refl _) i hi, if_pos (by omega), na_rev h hi]
theorem wrB_all (V : ByteArray) (ps : List Nat) (n : Nat) : wrB V ps (downL n n) = (List.range n).map (pcW V ps n) := by
  unfold wrB
  rw [downL_len]
  refine List.map_congr_left fun i hi => ?_
  rw [na_down (List.mem_range.1 hi)]; rfl
def pgv (L : List Nat) : List Value := L.map (fun p => Value.int .i64 (p : Nat))
theorem pgE_row : ∀ (L : List Nat), pgE.row L = pgv L
  | [] => rfl
  | x :: r => by rw [Elt.row, pgE_row r]; rfl
def PRow (w : World) (g : Nat) (L : List Nat) : Prop := w.heap[g]? = some (.cells (pgv L).toArray IT (0, 0))
theorem PRow.set {w : World} {g : Nat} {L : List Nat} (h : PRow w g L) (i x : Nat) : PRow (w.setCell ⟨g, i, none⟩ (.int .i64 (x : Nat))) g (L.set i x) := by
  have := heap_setCell_same w g i (pgv L).toArray IT (.int .i64 (x : Nat)) h
  unfold PRow pgv at *
  rw [this]
  simp [List.map_set]
theorem PRow.ev {w : World} {g n : Nat} {L : List Nat} (h : PRow w g L) (hn : L.length = n) (hm : n ≤ maxLen) : EV pgE w (.slice (some ⟨g, 0, none⟩) n n) L := by
  subst hn
  refine lit_ev (T := IT) (m := (0, 0)) ?_ hm rfl
  rw [pgE_row]; exact h
theorem made_pgs (n : Nat) : (madeCells (Value.int .i64 0).cells (n * 1)).toList = pgv (List.replicate n 0) := by
  rw [show pgv (List.replicate n 0) = List.replicate n (Value.int .i64 0) by simp [pgv]]; show (madeCells #[Value.int .i64 0] (n * 1)).toList = _
  rw [toList_madeCells_one, Nat.mul_one]
theorem wpListIn_make_pgs {F : Fence} {n : Nat} {P : Program} {w : World} {ops : Array Oper} {rest : List Oper} {o : Oper} {a : Act} {Q : Exit → Act → World → Prop}
    (hg : o.guard = none) (l c : Operand) (t : TypeId) (hop : o.op = Op.makeSlice t l c)
    (h1 : P.underlying t = some (.slice IT)) (h2 : (P.info? IT).map (fun i => (i.zero, i.size, i.bytes)) = some (some (.int .i64 0), 1, 8))
    (m : Nat) (hl : a.eval l = .int .i64 (m : Nat)) (hc : a.eval c = .int .i64 (m : Nat)) (b : m * 8 ≤ 140737488355328)
    (hK : ∀ w', PRow w' w.heap.size (List.replicate m 0) → Below w.heap.size w w' → wpListIn F n P ops Q rest (a.put o.dst (.slice (some ⟨w.heap.size, 0, none⟩) m m)) w') :
    wpListIn F n P ops Q (o :: rest) a w := by
  refine wpListIn_plain hg fun K hK' => ?_
  obtain ⟨i0, hi, hz0, hz1, hz2⟩ := info_parts h2
  obtain ⟨w', hrun, hown, hgrow⟩ := run_make_full (P := P) w w.heap.size t IT i0 (.int .i64 0) 1 h1 hi hz0 hz1 .i64 .i64 m (by rw [hz2]; omega) (by unfold maxLen; omega) (Nat.le_refl _)
  have hr : PRow w' w.heap.size (List.replicate m 0) := by
    show w'.heap[w.heap.size]? = _
    rw [← made_pgs]; exact row_of_own hown
  unfold Oper.wpIn
  refine ⟨?_, ?_⟩
  · simp [Oper.about, hop]
  · rw [Oper.semAt_plain F _ _ (by rw [hop]; intro c hc'; cases hc')]
    simp [execOp, hop, hl, hc, hrun, Result.andThen]
    exact hK' _ _ (hK w' hr ((Below.refl w.heap.size w).grown hgrow (Nat.le_refl _) (by intro k hk; cases hk)))
def NCF (w : World) (F : Nat → Prop) : Prop := ∀ i, F i → ∃ o, w.heap[i]? = some o ∧ o.isCells = false
section
variable {w w' : World} {F : Nat → Prop}
theorem NCF.not (h : NCF w F) {b : Nat} {A : Array Value} {T : TypeId} {fz : Nat × Nat} (hb : w.heap[b]? = some (.cells A T fz)) : ¬ F b := fun hF => by
  obtain ⟨o, h1, h2⟩ := h b hF
  rw [hb] at h1
  injection h1 with h1
  subst h1; cases h2
theorem ES.nc {α : Type} {E : Elt α} {a : Option Addr} {l : List α} (h : ES E w a l) (t : Turn F w w') (hF : NCF w F) : ES E w' a l := by
  rcases h with h | ⟨g, o, rfl, ⟨A, T, fz, ht, hT⟩, hc⟩
  · exact .inl h
  · have hg : ¬ F g := hF.not ht
    refine .inr ⟨g, o, rfl, ⟨A, T, fz, t.hg ht hg, hT⟩, fun j u hu => ?_⟩
    have h1 := hc j u hu
    rw [t.cell (p := ⟨g, o + j, none⟩) (block_lt_of_cell h1) hg]
    exact h1
theorem EV.nc {α : Type} {E : Elt α} {v : Value} {l : List α} (h : EV E w v l) (t : Turn F w w') (hF : NCF w F) : EV E w' v l := by
  obtain ⟨a, c, rfl, hs, h1⟩ := h
  exact ⟨a, c, rfl, hs.nc t hF, h1⟩
theorem WorthIn.nc (h : WorthIn w) (t : Turn F w w') (hF : NCF w F) : WorthIn w' := fun j hj => by
  have h1 := h j hj
  have h2 : ¬ F 2 := by
    unfold World.cell? at h1
    cases hg : w.heap[2]? with
    | none => simp only [hg] at h1; cases h1
    | some x =>
      simp only [hg] at h1
      cases x with
      | cells A T fz => exact hF.not hg
      | _ => cases h1
  rw [t.cell (p := ⟨2, j, none⟩) (block_lt_of_cell h1) h2]
  exact h1
theorem LyI.nc {gl B : Nat} {ps : List Nat} {ws : List PgW} (h : LyI w gl B ps ws) (t : Turn F w w') (hF : NCF w F) : LyI w' gl B ps ws := by
  obtain ⟨vp, vw, gs, h1, h2, h3, h4⟩ := h.ex
  refine ⟨⟨vp, vw, gs, t.hg h1 (hF.not h1), ⟨h2.1.nc t hF, h2.2⟩, ⟨h3.1, ?_⟩, h4.mono fun g l hr => t.hg hr (hF.not hr)⟩, h.lt, Nat.le_trans h.bz t.size, h.wo.nc t hF, h.wg⟩
  rcases h3.2 with h5 | ⟨b, cap, cur, rfl, hb, hgb, h5⟩
  · exact .inl h5
  · exact .inr ⟨b, cap, cur, rfl, hb, t.hg hgb (hF.not hgb), h5⟩
theorem LF.nc {w0 : World} {gl B : Nat} (h : Turn (LF w0 gl B) w0 w) (t : Turn F w w') (hB : ∀ i, F i → w0.heap.size ≤ i) : Turn (LF w0 gl B) w0 w' := h.step t (fun i hi hl => by have := hB i hi; omega)
end
structure ChI (w0 W : World) (s0 gl B b2 g6 g7 gp : Nat) (V : ByteArray) (ps pre : List Nat) (ws : List PgW) : Prop where
  ly : LyI W gl B (ps.drop pre.length) (ws ++ wrB V ps pre)
  bl : Boxed W b2 PLT (pt gl)
  b6 : Boxed W g6 SIT (.slice (some ⟨gp, 0, none⟩) (nP V.size) (nP V.size))
  b7 : Boxed W g7 IT (.int .i64 ((if pre.length = 0 then 0 else na ps (pre.length - 1) : Nat) : Int))
  row : PRow W gp (fillP ps (nP V.size) pre)
  lt : Turn (LF w0 gl B) w0 W
  sz : s0 ≤ W.heap.size
theorem ChI.from (w0 : World) (s0 gl B b2 g6 g7 gp : Nat) (V : ByteArray) (ps : List Nat) (ws : List PgW) (hs : w0.heap.size ≤ s0) {β : Type} (f : β → List Nat) : OwnFrom s0 (fun pre W => ChI w0 W s0 gl B b2 g6 g7 gp V ps (f pre) ws) := fun pre W W' row h hg hr => by
  have t : Turn (fun i => row = some i) W W' := ⟨hg.os, hg.tape, hg.output, hg.size, fun i hi hne => hg.block i hi (fun e => hne e.symm)⟩
  have hF : NCF W (fun i => row = some i) := fun i hi => (hr i hi).2
  exact ⟨h.ly.nc t hF, t.hg h.bl (hF.not h.bl), t.hg h.b6 (hF.not h.b6), t.hg h.b7 (hF.not h.b7), t.hg h.row (hF.not h.row), LF.nc h.lt t (fun i hi => Nat.le_trans hs (hr i hi).1), Nat.le_trans h.sz t.size⟩
theorem ChI.ext {w0 W W' : World} {s0 gl B b2 g6 g7 gp : Nat} {V : ByteArray} {ps pre : List Nat} {ws : List PgW} (h : ChI w0 W s0 gl B b2 g6 g7 gp V ps pre ws) (hb : Below W.heap.size W W') : ChI w0 W' s0 gl B b2 g6 g7 gp V ps pre ws :=
  have t : Turn (fun _ => False) W W' := Turn.ofBelow hb
  have hF : NCF W (fun _ => False) := fun _ hi => hi.elim
  ⟨h.ly.nc t hF, t.hg h.bl (hF.not h.bl), t.hg h.b6 (hF.not h.b6), t.hg h.b7 (hF.not h.b7), t.hg h.row (hF.not h.row), LF.nc h.lt t (fun _ hi => hi.elim), Nat.le_trans h.sz t.size⟩
end Go.Proofs.YtdgladhfibfdlaaGreatDoor
