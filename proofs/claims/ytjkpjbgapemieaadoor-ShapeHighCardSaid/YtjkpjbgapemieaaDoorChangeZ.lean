/-
  tree's change.
-/
import Derived.Test.YtjkpjbgapemieaaDoorRootZ
import Derived.Laws.ResultCell
namespace Go.Proofs.YtjkpjbgapemieaaDoor
open Go Go.RowKit

/-- A block that holds a tree. -/
def TB (w : World) (b : Nat) (p : Option Addr) (n : Int) : Prop := w.heap[b]? = some (.cells #[.pointer p, .int .i64 n] TT (0, 0))
section
variable {w : World} {b : Nat} {p : Option Addr} {n : Int}
theorem TB.c0 (h : TB w b p n) : w.cell? ⟨b, 0, none⟩ = some (.pointer p) := by
  have h' : w.heap[b]? = _ := h
  simp [World.cell?, h']
theorem TB.c1 (h : TB w b p n) : w.cell? ⟨b, 1, none⟩ = some (.int .i64 n) := by
  have h' : w.heap[b]? = _ := h
  simp [World.cell?, h']
theorem TB.fz (h : TB w b p n) (j : Nat) : w.frozen? ⟨b, j, none⟩ = false := by
  have h' : w.heap[b]? = _ := h
  simp [World.frozen?, h']
theorem TB.lt (h : TB w b p n) : b < w.heap.size := (Array.getElem?_eq_some_iff.1 h).1
theorem TB.ext {w' : World} (h : TB w b p n) (hb : Below w.heap.size w w') : TB w' b p n := (hb.block b h.lt).trans h
theorem TB.below {w' : World} {B : Nat} (h : TB w b p n) (hb : Below B w w') (hB : b < B) : TB w' b p n := (hb.block b hB).trans h
theorem TB.turn {w' : World} {F : Nat → Prop} (h : TB w b p n) (t : Turn F w w') (hF : ¬ F b) : TB w' b p n := t.hg h hF
theorem TB.put (h : TB w b p n) (q : Option Addr) (m : Int) : TB ((w.setCell ⟨b, 0, none⟩ (.pointer q)).setCell ⟨b, 1, none⟩ (.int .i64 m)) b q m :=
  heap_setCell_same _ b 1 _ _ _ (heap_setCell_same w b 0 _ _ _ h)
end
/-! ### What stays where variables turn -/
/-- The type of a variable that is no row's and no node's. -/
def vty (T : TypeId) : Bool := !(T == ET || T == RET || T == 9 || T == PNT || T == NT)
/-- Blocks that turn are variables. -/
def TF (w : World) (F : Nat → Prop) : Prop := ∀ b, F b → ∃ A T fz, w.heap[b]? = some (.cells A T fz) ∧ vty T = true
section
variable {w w' : World} {F : Nat → Prop}
theorem TF.var {b : Nat} {A : Array Value} {T : TypeId} {fz : Nat × Nat} (h : w.heap[b]? = some (.cells A T fz)) (hT : vty T = true := by decide) : TF w (fun i => i = b) := fun _ e => ⟨A, T, fz, e ▸ h, hT⟩
theorem TF.one {b : Nat} {q : Option Addr} {n : Int} (h : TB w b q n) : TF w (fun i => i = b) := TF.var (h : w.heap[b]? = _)
theorem TF.not {b : Nat} {A : Array Value} {T : TypeId} {fz : Nat × Nat} (hF : TF w F) (h : w.heap[b]? = some (.cells A T fz)) (hT : vty T = false) : ¬ F b := fun hb => by
  obtain ⟨A', T', fz', h2, h3⟩ := hF b hb
  rw [h] at h2
  injection h2 with h2
  injection h2 with _ h2 _
  rw [← h2, hT] at h3
  cases h3
theorem NB.turn {b : Nat} {vc vk vp : Value} (h : NB w b vc vk vp) (t : Turn F w w') (hF : TF w F) : NB w' b vc vk vp := t.hg h (hF.not h (by decide))
theorem ES.turn {α : Type} {E : Elt α} {a : Option Addr} {l : List α} (hE : ∀ T, E.ty T = true → vty T = false) (h : ES E w a l) (t : Turn F w w') (hF : TF w F) : ES E w' a l := by
  rcases h with h | ⟨g, o, rfl, ⟨A, T, fz, ht, hT⟩, hc⟩
  · exact .inl h
  · have hg : ¬ F g := hF.not ht (hE T hT)
    refine .inr ⟨g, o, rfl, ⟨A, T, fz, t.hg ht hg, hT⟩, fun j u hu => ?_⟩
    have h1 := hc j u hu
    rw [t.cell (p := ⟨g, o + j, none⟩) (block_lt_of_cell h1) hg]
    exact h1
theorem entE_str : ∀ T, entE.ty T = true → vty T = false := fun T h => by
  have h' : (T == ET || T == RET) = true := h
  unfold vty; rw [h']; rfl
theorem strE_str : ∀ T, strE.ty T = true → vty T = false := fun T h => by
  have h' : (T == 9) = true := h
  unfold vty; rw [h']; simp
theorem ptrE_str : ∀ T, ptrE.ty T = true → vty T = false := fun T h => by
  have h' : (T == PNT) = true := h
  unfold vty; rw [h']; simp
theorem EV.turn {α : Type} {E : Elt α} {v : Value} {l : List α} (hE : ∀ T, E.ty T = true → vty T = false) (h : EV E w v l) (t : Turn F w w') (hF : TF w F) : EV E w' v l := by
  obtain ⟨a, c, rfl, hs, h1⟩ := h
  exact ⟨a, c, rfl, hs.turn hE t hF, h1⟩
theorem Nd.turn (t : Turn F w w') (hF : TF w F) : ∀ (h : Nat) {lo hi : SB} {b : Nat} {es : List En} {s : Nat}, Nd w h lo hi b es s → Nd w' h lo hi b es s
  | 0, _, _, _, _, _, ⟨⟨vc, h1, h2⟩, h3⟩ => ⟨⟨vc, h1.turn t hF, h2.turn entE_str t hF⟩, h3⟩
  | h + 1, _, _, _, _, _, ⟨ks, ps, ess, ⟨vk, vp, h1, h2, h3⟩, h4, h5, h6⟩ =>
    ⟨ks, ps, ess, ⟨vk, vp, h1.turn t hF, h2.turn strE_str t hF, h3.turn ptrE_str t hF⟩, h4.mono (fun _ _ _ _ ⟨s, h7, h8⟩ => ⟨s, Nd.turn t hF h h7, h8⟩), h5, h6⟩
theorem TreeP.turn {p : Option Addr} {es : List En} {H : Nat} (h : TreeP w p es H) (t : Turn F w w') (hF : TF w F) : TreeP w' p es H := by
  rcases h with h | ⟨b, h, s, h1, h2, h3, h4, h5⟩
  · exact .inl h
  · exact .inr ⟨b, h, s, h1, Nd.turn t hF h h2, h3, h4, h5⟩
end
theorem turn_put (W : World) (b : Nat) (u v : Value) : Turn (fun i => i = b) W ((W.setCell ⟨b, 0, none⟩ u).setCell ⟨b, 1, none⟩ v) :=
  ((Turn.refl (fun i => i = b) W).setCell (p := ⟨b, 0, none⟩) u (fun _ => rfl)).setCell (p := ⟨b, 1, none⟩) v (fun _ => rfl)
/-- What stands in the end of a walk that made two blocks of its own. -/
theorem below_put {w0 W : World} {b : Nat} {u v : Value} (h : Below w0.heap.size w0 W) (hb : w0.heap.size ≤ b) : Below w0.heap.size w0 ((W.setCell ⟨b, 0, none⟩ u).setCell ⟨b, 1, none⟩ v) :=
  (h.setCell (p := ⟨b, 0, none⟩) hb u).setCell (p := ⟨b, 1, none⟩) hb v
set_option maxRecDepth 100000 in
theorem change_core (p : Option Addr) (es : List En) (n0 m n1 : Int) (key : ByteArray) (a : Option Addr) (n c : Nat) (o : List En) (w : World) (hkey : oneO key o) (hoE : ∀ x ∈ o, okE x)
    (hno : o.length = n) (hz : a = none → c = 0) (hes : ES entE w a o) (H : Nat) (ht : TreeP w p es H) (hm : IntKind.i64.wrap (n0 + m) = n1) :
    Calls Tryd.prog 27 #[.agg #[.pointer p, .int .i64 n0], .int .i64 m, .string key, .slice a n c] w fun e w' => ∃ p' H', e = .returned (.agg #[.pointer p', .int .i64 n1]) ∧ TreeP w' p' (rep es key o) H' ∧ Below w.heap.size w w' := by
  -- the node at which it begins
  obtain ⟨W1, hW1, hT1, hb1⟩ := alloc_own w TT #[.pointer p, .int .i64 n0]
  obtain ⟨W2, hW2, hT2, hb2⟩ := alloc_own W1 TT #[.pointer none, .int .i64 0]
  have hs1 : W1.heap.size = w.heap.size + 1 := by rw [← hW1]; simp
  have hb12 := hb1.trans (hb2.mono hb1.size)
  have hT1' : TB W2 w.heap.size p n0 := TB.ext (w := W1) hT1 hb2
  have hT2' : TB W2 (w.heap.size + 1) none 0 := by rw [← hs1]; exact hT2
  have main : ∀ (W3 : World) (bn h s : Nat), Below W2.heap.size W2 W3 → Nd W3 h none none bn es s → s ≤ 504 → (0 < h → 3 ≤ s) →
      ∃ W, W3.drew = W ∧ Below W2.heap.size W2 W ∧ Calls Tryd.prog 46 #[pt bn, .string key, .slice a n c] W (fun e w' => ∃ b2, e = .returned (pt b2) ∧ Below W.heap.size W w' ∧
        Calls Tryd.prog 45 #[pt b2] w' fun e w'' => ∃ p H, e = .returned (.pointer p) ∧ TreeP w'' p (rep es key o) H ∧ Below w'.heap.size w' w'') := fun W3 bn h s hb3 hn hs hs3 => by
    have hbd : Below W3.heap.size W3 W3.drew := (Below.refl _ _).drew
    have hbx := hb3.trans (hbd.mono hb3.size)
    refine ⟨_, rfl, hbx, ?_⟩
    have hby := hb12.trans (hbx.mono hb12.size)
    refine (replaced_any h bn es s key a n c o W3.drew (Nd.ext hbd h hn) hs hs3 (ins_none key) hkey hoE hno hz (hes.below hby (Nat.le_refl _))).mono ?_
    rintro e w' ⟨b2, s2, rfl, hn2, hs2, _, hb⟩
    exact ⟨b2, rfl, hb, rooted_any w' hn2 (by omega)⟩
  have Main := Lib.hid main
  have HW := Lib.hid (And.intro hW1 hW2)
  have HT := Lib.hid (And.intro hT1' hT2')
  have HB := Lib.hid hb12
  have Hs1 := Lib.hid hs1
  have tail : ∀ (W3 W : World) (bn : Nat), W3.drew = W → Below W2.heap.size W2 W →
      Hid (∀ w' w'', Below W.heap.size W w' → Below w'.heap.size w' w'' → Below w.heap.size w w'' ∧ TB w'' (w.heap.size + 1) none 0) := fun W3 W bn _ hbW w' w'' h1 h2 => by
    have h3 := h1.trans (h2.mono h1.size)
    have h4 := hbW.trans (h3.mono hbW.size)
    exact ⟨hb12.trans (h4.mono hb12.size), hT2'.ext h4⟩
  have Tail := Lib.hid tail
  clear main tail hW1 hW2 hT1 hT2 hb1 hb2 hb12 hT1' hT2' hs1 hkey hoE hno hz hes
  rcases ht with ⟨rfl, rfl, _⟩ | ⟨bn, h, s, rfl, hn, hs, hs3, _⟩
  · obtain ⟨W3, hW3, hT3, hb3⟩ := alloc_own W2 NT #[nilS, nilS, nilS]
    have hnd : Nd W3 0 none none W2.heap.size [] 1 := ⟨⟨nilS, hT3, EV.none _⟩, trivial, List.Pairwise.nil, fun x hx => (by cases hx), rfl⟩
    obtain ⟨W, hW, hbW, hcall⟩ := Main.out W3 W2.heap.size 0 1 hb3 hnd (by omega) (fun h => by omega)
    have Ht := Lib.hid (Tail.out W3 W W2.heap.size hW hbW).out
    have hs2 : W2.heap.size = w.heap.size + 1 + 1 := by rw [← HW.out.2]; simp [Hs1.out]
    have q : ∀ w', Turn (fun i => i = w.heap.size + 1) W w' → w'.cell? ⟨w.heap.size, 1, none⟩ = some (.int .i64 n0) := fun w' t => ((HT.out.1.ext hbW).turn t (by omega)).c1
    have Hcall := Lib.hid hcall
    have HW3 : Hid ((((w.alloc (.cells #[.pointer none, .int .i64 n0] TT)).alloc (.cells #[.pointer none, .int .i64 0] TT)).alloc (.cells #[nilS, nilS, nilS] NT)).drew = W) := by
      show _ = _
      rw [HW.out.1, HW.out.2, hW3, hW]
    rw [hs2] at Hcall
    clear hW3 hT3 hb3 hnd hW hbW hcall Main Tail HT hs2 HW HB Hs1
    go_enter Tryd.func27, Tryd.ntmps27
    go_wp2_with fail
    refine wp_region_gt (F := fun i => i = w.heap.size + 1) [(0, true), (1, true), (2, true), (5, true), (6, true), (7, true), (8, true), (3, false), (4, false), (9, true), (10, false)] (by kernel_rfl) (by kernel_rfl) (by kernel_rfl) (by kernel_rfl) (fun _ _ _ _ _ h => h) ?_
    rw [HW3.out]
    iterate 7 (refine wpGt_read (o := ⟨_, _, _, _, _, _⟩) (v := ?_) rfl (by rfl) ?_ ?_; rotate_left; (intro w' hw'; go_simp; with_reducible rfl); simp only [Act.put, List.setIfInBounds_toArray, List.set_cons_zero, List.set_cons_succ])
    clear q
    refine wpGt_call (o := ⟨_, _, _, _, _, _⟩) rfl (by rfl) (fun K hK => ?_)
    go_simp
    refine Hcall.out.mono ?_
    rintro e w4 ⟨b2, rfl, hb4, hc4⟩
    refine hK _ _ (Turn.ofBelow hb4) ?_
    clear hK K Hcall
    have Hc4 := Lib.hid hc4
    have Hb4 := Lib.hid hb4
    clear hc4 hb4
    refine wpGt_call (o := ⟨_, _, _, _, _, _⟩) rfl (by rfl) (fun K hK => ?_)
    go_simp
    refine Hc4.out.mono ?_
    rintro e w5 ⟨p5, H5, rfl, ht5, hb5⟩
    refine hK _ _ (Turn.ofBelow hb5) ?_
    clear hK K Hc4
    have hfin := Ht.out w4 w5 Hb4.out hb5
    have HT5 := Lib.hid (ht5.turn (turn_put w5 (w.heap.size + 1) (.pointer p5) (.int .i64 n1)) (TF.one hfin.2))
    have HF := Lib.hid hfin.1
    have c0 := hfin.2.c0
    have c1 := hfin.2.c1
    have f0 := hfin.2.fz 0
    have f1 := hfin.2.fz 1
    have HP := Lib.hid (hfin.2.put p5 n1)
    clear hfin ht5 hb5 Hb4 Ht
    (refine wpGt_read (o := ⟨_, _, _, _, _, _⟩) (v := ?_) rfl (by rfl) ?_ ?_; rotate_left; (intro w' hw'; go_simp; with_reducible rfl); simp only [Act.put, List.setIfInBounds_toArray, List.set_cons_zero, List.set_cons_succ])
    refine wpGt_call (o := ⟨_, _, _, _, _, _⟩) rfl (by rfl) (fun K hK => ?_)
    go_simp
    refine hK _ _ (turn_put _ _ _ _) ?_
    clear hK K
    refine wpGt_done ?_
    have d0 := HP.out.c0
    have d1 := HP.out.c1
    go_wp2_with fail
    refine bodyPost_ret (v := .agg #[.pointer p5, .int .i64 n1]) (by rw [results_cell_one rfl]; go_simp) rfl ⟨p5, H5, rfl, HT5.out, below_put HF.out (by omega)⟩
  · have hn2 := Nd.ext HB.out h hn
    obtain ⟨W, hW, hbW, hcall⟩ := Main.out W2 bn h s (Below.refl _ _) hn2 hs hs3
    have Ht := Lib.hid (Tail.out W2 W bn hW hbW).out
    have q : ∀ w', Turn (fun i => i = w.heap.size + 1) W w' → w'.cell? ⟨w.heap.size, 1, none⟩ = some (.int .i64 n0) := fun w' t => ((HT.out.1.ext hbW).turn t (by omega)).c1
    have Hcall := Lib.hid hcall
    have HW3 : Hid (((w.alloc (.cells #[.pointer (some ⟨bn, 0, none⟩), .int .i64 n0] TT)).alloc (.cells #[.pointer none, .int .i64 0] TT)).drew = W) := by
      show _ = _
      rw [HW.out.1, HW.out.2, hW]
    clear hW hbW hcall Main Tail HT HW HB Hs1 hn hn2 hs hs3
    go_enter Tryd.func27, Tryd.ntmps27
    go_wp2_with fail
    refine wp_region_gt (F := fun i => i = w.heap.size + 1) [(0, true), (1, true), (2, true), (5, true), (6, true), (7, true), (8, true), (3, false), (4, false), (9, true), (10, false)] (by kernel_rfl) (by kernel_rfl) (by kernel_rfl) (by kernel_rfl) (fun _ _ _ _ _ h => h) ?_
    rw [HW3.out]
    iterate 7 (refine wpGt_read (o := ⟨_, _, _, _, _, _⟩) (v := ?_) rfl (by rfl) ?_ ?_; rotate_left; (intro w' hw'; go_simp; with_reducible rfl); simp only [Act.put, List.setIfInBounds_toArray, List.set_cons_zero, List.set_cons_succ])
    clear q
    refine wpGt_call (o := ⟨_, _, _, _, _, _⟩) rfl (by rfl) (fun K hK => ?_)
    go_simp
    refine Hcall.out.mono ?_
    rintro e w4 ⟨b2, rfl, hb4, hc4⟩
    refine hK _ _ (Turn.ofBelow hb4) ?_
    clear hK K Hcall
    have Hc4 := Lib.hid hc4
    have Hb4 := Lib.hid hb4
    clear hc4 hb4
    refine wpGt_call (o := ⟨_, _, _, _, _, _⟩) rfl (by rfl) (fun K hK => ?_)
    go_simp
    refine Hc4.out.mono ?_
    rintro e w5 ⟨p5, H5, rfl, ht5, hb5⟩
    refine hK _ _ (Turn.ofBelow hb5) ?_
    clear hK K Hc4
    have hfin := Ht.out w4 w5 Hb4.out hb5
    have HT5 := Lib.hid (ht5.turn (turn_put w5 (w.heap.size + 1) (.pointer p5) (.int .i64 n1)) (TF.one hfin.2))
    have HF := Lib.hid hfin.1
    have c0 := hfin.2.c0
    have c1 := hfin.2.c1
    have f0 := hfin.2.fz 0
    have f1 := hfin.2.fz 1
    have HP := Lib.hid (hfin.2.put p5 n1)
    clear hfin ht5 hb5 Hb4 Ht
    (refine wpGt_read (o := ⟨_, _, _, _, _, _⟩) (v := ?_) rfl (by rfl) ?_ ?_; rotate_left; (intro w' hw'; go_simp; with_reducible rfl); simp only [Act.put, List.setIfInBounds_toArray, List.set_cons_zero, List.set_cons_succ])
    refine wpGt_call (o := ⟨_, _, _, _, _, _⟩) rfl (by rfl) (fun K hK => ?_)
    go_simp
    refine hK _ _ (turn_put _ _ _ _) ?_
    clear hK K
    refine wpGt_done ?_
    have d0 := HP.out.c0
    have d1 := HP.out.c1
    go_wp2_with fail
    refine bodyPost_ret (v := .agg #[.pointer p5, .int .i64 n1]) (by rw [results_cell_one rfl]; go_simp) rfl ⟨p5, H5, rfl, HT5.out, below_put HF.out (by omega)⟩
end Go.Proofs.YtjkpjbgapemieaaDoor
