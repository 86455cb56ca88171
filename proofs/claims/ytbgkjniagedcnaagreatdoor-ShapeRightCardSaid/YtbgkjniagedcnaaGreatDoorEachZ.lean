/-
  cut's each: its closure; tree's Walk; a variable of one cell in a block of its own.
  Several blocks laid one behind the other.
-/
import Derived.Test.YtbgkjniagedcnaaGreatDoorWalkZ
import Derived.Test.YtbgkjniagedcnaaGreatDoorHasPZ
import Derived.Test.YtbgkjniagedcnaaGreatDoorTurnZ
import Derived.Test.YtbgkjniagedcnaaGreatDoorRootZ
import Derived.Laws.EntriesVeiled
import Derived.Test.YtbgkjniagedcnaaGreatDoorTreeZ
namespace Go.Proofs.YtbgkjniagedcnaaGreatDoor
open Go Go.RowKit Go.Shelf

abbrev FT : TypeId := 90
/-- A block that holds one value. -/
def VB (w : World) (b : Nat) (T : TypeId) (v : Value) : Prop := w.heap[b]? = some (.cells #[v] T (0, 0))
section
variable {w : World} {b : Nat} {T : TypeId} {v : Value}
theorem VB.c0 (h : VB w b T v) : w.cell? ⟨b, 0, none⟩ = some v := by
  have h' : w.heap[b]? = _ := h
  simp [World.cell?, h']
theorem VB.fz (h : VB w b T v) (j : Nat) : w.frozen? ⟨b, j, none⟩ = false := by
  have h' : w.heap[b]? = _ := h
  simp [World.frozen?, h']
theorem VB.lt (h : VB w b T v) : b < w.heap.size := (Array.getElem?_eq_some_iff.1 h).1
theorem VB.ext {w' : World} (h : VB w b T v) (hb : Below w.heap.size w w') : VB w' b T v := (hb.block b h.lt).trans h
theorem VB.below {w' : World} {B : Nat} (h : VB w b T v) (hb : Below B w w') (hB : b < B) : VB w' b T v := (hb.block b hB).trans h
theorem VB.put (h : VB w b T v) (u : Value) : VB (w.setCell ⟨b, 0, none⟩ u) b T u := heap_setCell_same w b 0 _ _ _ h
theorem VB.new (w : World) (T : TypeId) (v : Value) : VB (w.alloc (.cells #[v] T)) w.heap.size T v := by
  show (w.heap.push _)[w.heap.size]? = _; rw [Array.getElem?_push_size]
end
/-- What lies from M on and is no row of entries stays. -/
def Keeps (M : Nat) (w w' : World) : Prop := ∀ b cs T fz, w.heap[b]? = some (.cells cs T fz) → M ≤ b → T ≠ ET → w'.heap[b]? = some (.cells cs T fz)
theorem Keeps.refl (M : Nat) (w : World) : Keeps M w w := fun _ _ _ _ h _ _ => h
theorem Keeps.trans {M : Nat} {a b c : World} (h : Keeps M a b) (k : Keeps M b c) : Keeps M a c := fun i cs T fz hi hM hT => k i cs T fz (h i cs T fz hi hM hT) hM hT
theorem Keeps.ofBelow {M : Nat} {w w' : World} (h : Below w.heap.size w w') : Keeps M w w' := fun i _ _ _ hi _ _ => (h.block i (Array.getElem?_eq_some_iff.1 hi).1).trans hi
theorem Keeps.set {M : Nat} {w w' : World} (h : Keeps M w w') {b j : Nat} (u : Value) (hb : b < M) : Keeps M w (w'.setCell ⟨b, j, none⟩ u) := fun i cs T fz hi hM hT => by
  rw [heap_setCell_other _ _ _ _ (by simp; omega)]; exact h i cs T fz hi hM hT
theorem VB.keep {M : Nat} {w w' : World} {b : Nat} {T : TypeId} {v : Value} (h : VB w b T v) (k : Keeps M w w') (hM : M ≤ b) (hT : T ≠ ET) : VB w' b T v := k b _ _ _ h hM hT
theorem SpIn.keep {M : Nat} {w w' : World} {b : Nat} {T : TypeId} {s : Sp} (h : SpIn w b T s) (k : Keeps M w w') (hM : M ≤ b) (hT : T ≠ ET) : SpIn w' b T s := k b _ _ _ h hM hT
/-- The closure that is handed what is within the span. -/
def Inn (M : Nat) (g : Nat) (caps : Array Value) (N : Nat) (d : List En → Bool) (J : List En → World → Prop) : Prop :=
  ∀ (acc : List En) (e : En) (w : World), acc.length < N → J acc w → Calls Tryz.prog g (#[.agg #[.string e.k, .string e.v]] ++ caps) w fun x w' => x = .returned (.bool (d (acc ++ [e]))) ∧ J (acc ++ [e]) w' ∧ Keeps M w w'
/-- What each's closure has: beside the inner one's its own span and the inner one. -/
structure EJ (J : List En → World → Prop) (bs bt : Nat) (s : Sp) (g : Nat) (caps : Array Value) (acc : List En) (w : World) : Prop where
  j : J acc w
  sp : SpIn w bs SPT s
  to_ : VB w bt FT (.func (.func g) #[] caps)
theorem EJ.ok {w0 : World} {J : List En → World → Prop} (h : JOk w0 J) (bs bt : Nat) (s : Sp) (g : Nat) (caps : Array Value) : JOk w0 (EJ J bs bt s g caps) :=
  ⟨fun k => h.b k.j, fun k hb => ⟨h.ext k.j hb, k.sp.ext hb, k.to_.ext hb⟩⟩
theorem spt_ne : SPT ≠ ET := by decide
theorem ft_ne : FT ≠ ET := by decide
set_option maxRecDepth 100000 in
theorem each1_any (w0 : World) (J : List En → World → Prop) (hJ : JOk w0 J) (M bs bt : Nat) (s : Sp) (g : Nat) (caps : Array Value) (N : Nat) (d : List En → Bool) (hM1 : M ≤ bs) (hM2 : M ≤ bt)
    (hi : Inn M g caps N d J) (eg : ∀ args w, (callFunc g args).run Tryz.prog w = .ok (.enter g args) w) : Clo 59 #[.pointer (some ⟨bs, 0, none⟩), .pointer (some ⟨bt, 0, none⟩)] N s d (EJ J bs bt s g caps) := by
  intro acc e w hN hj
  obtain ⟨hj, hsp, hto⟩ := hj
  obtain ⟨W, hW, hnew, hbW⟩ := alloc_own w ET #[.string e.k, .string e.v]
  have s0 := hsp.ext hbW
  have t0 := (hto.ext hbW).c0
  have c0 := s0.c0
  have c1 := s0.c1
  have c2 := s0.c2
  have n0 : W.cell? ⟨w.heap.size, 0, none⟩ = some (.string e.k) := by simp [World.cell?, hnew]
  have n1 : W.cell? ⟨w.heap.size, 1, none⟩ = some (.string e.v) := by simp [World.cell?, hnew]
  have HW := Lib.hid hW
  have Hhas := Lib.hid (has_any s e.k W)
  have Hj := Lib.hid (hJ.ext hj hbW)
  have HS := Lib.hid (And.intro s0 (hto.ext hbW))
  have HJ := Lib.hid hJ
  have Hi := Lib.hid hi
  have Hnew : Hid (W.heap[w.heap.size]? = some (.cells #[.string e.k, .string e.v] ET (0, 0))) := hnew
  cases hD : hasS s e.k with
  | false =>
    rw [hD] at Hhas
    unfold Sp.v at Hhas
    rw [← hW] at c0 c1 c2 n0 n1 t0
    clear hW hnew hbW s0 hj hsp hto hJ hi hD
    go_enter Tryz.func59, Tryz.ntmps59
    go_wp2_with fail
    rw [HW.out]
    refine Hhas.out.mono ?_
    rintro e w2 ⟨rfl, hb2⟩
    have Hj2 : Hid (EJ J bs bt s g caps acc w2) := ⟨HJ.out.ext Hj.out hb2, HS.out.1.ext hb2, HS.out.2.ext hb2⟩
    clear hb2 Hhas c0 c1 c2 t0
    go_wp2_with fail
    go_ret
    exact ⟨rfl, Hj2.out⟩
  | true =>
    rw [hD] at Hhas
    unfold Sp.v at Hhas
    have Hcall : Hid (∀ w2, Below W.heap.size W w2 → Calls Tryz.prog g (#[.agg #[.string e.k, .string e.v]] ++ caps) w2 fun x w' => x = .returned (.bool (d (acc ++ [e]))) ∧ EJ J bs bt s g caps (acc ++ [e]) w') := fun w2 hb2 =>
      (Hi.out acc e w2 hN (HJ.out.ext Hj.out hb2)).mono fun x w' ⟨h1, h2, h3⟩ => ⟨h1, h2, (HS.out.1.ext hb2).keep h3 hM1 spt_ne, (HS.out.2.ext hb2).keep h3 hM2 ft_ne⟩
    generalize d (acc ++ [e]) = D at *
    obtain ⟨y, hy⟩ : ∃ y, acc ++ [e] = y := ⟨_, rfl⟩
    rw [hy] at Hcall
    have Hy := Lib.hid hy
    rw [hy]
    rw [← hW] at c0 c1 c2 n0 n1 t0
    clear hW hnew hbW s0 hj hsp hto hJ hi hD hy
    go_enter Tryz.func59, Tryz.ntmps59
    go_wp2_with fail
    rw [HW.out]
    refine Hhas.out.mono ?_
    rintro e' w2 ⟨rfl, hb2⟩
    have hc2 := Lib.hid (Hcall.out w2 hb2)
    have m0 := (Hnew.out ▸ hb2.block w.heap.size (Array.getElem?_eq_some_iff.1 Hnew.out).1 : w2.heap[w.heap.size]? = some (.cells #[.string e.k, .string e.v] ET (0, 0)))
    have x0 : w2.cell? ⟨w.heap.size, 0, none⟩ = some (.string e.k) := by simp [World.cell?, m0]
    have x1 : w2.cell? ⟨w.heap.size, 1, none⟩ = some (.string e.v) := by simp [World.cell?, m0]
    have u0 := (HS.out.2.ext hb2).c0
    clear hb2 Hhas c0 c1 c2 t0 n0 n1 m0 Hcall
    go_wp2_with fail
    refine hc2.out.mono ?_
    rintro e' w3 ⟨rfl, hj3⟩
    have Hj3 := Lib.hid hj3
    clear hj3 hc2 x0 x1 u0
    go_wp2_with fail
    go_ret
    exact ⟨by simp, Hj3.out⟩
set_option maxRecDepth 100000 in
theorem twalk_any (w0 : World) (p : Option Addr) (n : Int) (es : List En) (H : Nat) (ht : TreeP w0 p es H) (hl : es.length ≤ 60000) (g : Nat) (caps : Array Value) (N : Nat) (s : Sp) (d : List En → Bool) (J : List En → World → Prop) (hJ : JOk w0 J) (hc : Clo g caps N s d J)
    (eg : ∀ args w, (callFunc g args).run Tryz.prog w = .ok (.enter g args) w) (hN : es.length ≤ N) (w : World) (hj : J [] w) :
    Calls Tryz.prog 58 #[.agg #[.pointer p, .int .i64 n], .string s.lo, .func (.func g) #[] caps] w fun e w' => e = .returned (.tuple #[]) ∧ J (goS d [] (inS s es)) w' := by
  obtain ⟨W, hW, hnew, hbW⟩ := alloc_own w TT #[.pointer p, .int .i64 n]
  have HW := Lib.hid hW
  have HjW := Lib.hid (hJ.ext hj hbW)
  have n0 : W.cell? ⟨w.heap.size, 0, none⟩ = some (.pointer p) := by simp [World.cell?, hnew]
  have n1 : W.cell? ⟨w.heap.size, 1, none⟩ = some (.int .i64 n) := by simp [World.cell?, hnew]
  obtain ⟨es', rfl, ht⟩ := ht
  rcases ht with ⟨rfl, rfl, _⟩ | ⟨b, h, sz, rfl, hn, hs, hs3, hne, _⟩
  · rw [← hW] at n0 n1
    clear hW hnew hbW
    go_enter Tryz.func58, Tryz.ntmps58
    go_wp2_with fail
    rw [HW.out]
    go_end0
    exact ⟨rfl, HjW.out⟩
  · rw [bare_len] at hl hN
    have h0 : 0 < es'.length := by
      cases es' with
      | nil => exact absurd rfl hne
      | cons a r => simp
    have hv : (visS s.lo (bare es')).length ≤ es'.length := by unfold visS; rw [List.length_drop, bare_len]; omega
    have Hcall := Lib.hid (walked_any w0 g caps N s d J hJ hc eg h none none b es' sz [] W hn h0 hl hs HjW.out (by simp; omega))
    have Hv := Lib.hid (vis_walk s d (srt_bare (Nd.facts h hn).2.1))
    rw [← hW] at n0 n1
    clear hW hnew hbW hn hs hs3 hne h0 hv
    go_enter Tryz.func58, Tryz.ntmps58
    go_wp2_with fail
    rw [HW.out]
    refine Hcall.out.mono ?_
    rintro e w2 ⟨rfl, hj2⟩
    rw [Hv.out] at hj2
    have Hj2 := Lib.hid hj2
    clear hj2 Hcall
    go_wp2_with fail
    go_end0
    exact ⟨rfl, Hj2.out⟩
set_option maxRecDepth 100000 in
/-- What is handed on to a closure: the entries within the span, as long as it goes on. -/
theorem each_any (w0 : World) (p : Option Addr) (n : Int) (es : List En) (H : Nat) (ht : TreeP w0 p es H) (hl : es.length ≤ 60000) (s : Sp) (g : Nat) (caps : Array Value) (N : Nat) (d : List En → Bool) (J : List En → World → Prop) (hJ : JOk w0 J)
    (eg : ∀ args w, (callFunc g args).run Tryz.prog w = .ok (.enter g args) w) (hN : es.length ≤ N) (w : World) (hi : Inn w.heap.size g caps N d J) (hj : J [] w) :
    Calls Tryz.prog 35 #[.agg #[.pointer p, .int .i64 n], s.v, .func (.func g) #[] caps] w fun e w' => e = .returned (.tuple #[]) ∧ J (goS d [] (inS s es)) w' := by
  obtain ⟨W1, hW1, hn1, hb1⟩ := alloc_own w TT #[.pointer p, .int .i64 n]
  have hz1 : W1.heap.size = w.heap.size + 1 := by rw [← hW1]; simp
  obtain ⟨W2, hW2, hn2, hb2⟩ := alloc_own W1 SPT #[.string s.lo, .string s.hi, .bool s.op]
  have hz2 : W2.heap.size = w.heap.size + 1 + 1 := by rw [← hW2]; simp [hz1]
  obtain ⟨W3, hW3, hn3, hb3⟩ := alloc_own W2 FT #[.func (.func g) #[] caps]
  rw [hz1] at hn2
  rw [hz2] at hn3
  have k2 : SpIn W3 (w.heap.size + 1) SPT s := (show SpIn W2 (w.heap.size + 1) SPT s from hn2).ext hb3
  have k1 : TB W3 w.heap.size p n := ((show TB W1 w.heap.size p n from hn1).ext hb2).ext hb3
  have hej : EJ J (w.heap.size + 1) (w.heap.size + 1 + 1) s g caps [] W3 := ⟨hJ.ext (hJ.ext (hJ.ext hj hb1) hb2) hb3, k2, hn3⟩
  have e43 : ∀ args w, (callFunc 59 args).run Tryz.prog w = .ok (.enter 59 args) w := enters_of Tryz.func59 (by kernel_rfl) rfl
  have Hcall := Lib.hid (twalk_any w0 p n es H ht hl _ _ N s d _ (EJ.ok hJ (w.heap.size + 1) (w.heap.size + 1 + 1) s g caps) (each1_any w0 J hJ w.heap.size (w.heap.size + 1) (w.heap.size + 1 + 1) s g caps N d (by omega) (by omega) hi eg) e43 hN W3 hej)
  have HW : Hid (((w.alloc (.cells #[.pointer p, .int .i64 n] TT)).alloc (.cells #[.string s.lo, .string s.hi, .bool s.op] SPT)).alloc (.cells #[.func (.func g) #[] caps] FT) = W3) := by show _ = _; rw [hW1, hW2, hW3]
  have c0 := k1.c0
  have c1 := k1.c1
  have d0 := k2.c0
  have d1 := k2.c1
  have d2 := k2.c2
  rw [← HW.out] at c0 c1 d0 d1 d2
  have hmf : ∀ (fn : Fn) (first cap : Array Value) (w : World), (Instr.makeFunc fn first cap).run Tryz.prog w = .ok (.func fn first cap) w := fun _ _ _ _ => rfl
  unfold Sp.v
  clear hW1 hn1 hb1 hz1 hW2 hn2 hb2 hz2 hW3 hn3 hb3 k1 k2 hej hi hj hJ ht
  go_enter Tryz.func35, Tryz.ntmps35
  go_wp2_with fail
  rw [HW.out]
  refine Hcall.out.mono ?_
  rintro e w2 ⟨rfl, hj2⟩
  have Hj2 := Lib.hid hj2.j
  clear hj2 Hcall
  go_wp2_with fail
  go_end0
  exact ⟨rfl, Hj2.out⟩
end Go.Proofs.YtbgkjniagedcnaaGreatDoor
namespace Go.Proofs.YtbgkjniagedcnaaGreatDoor
open Go Go.RowKit

theorem alloc_size (w : World) (o : Obj) : (w.alloc o).heap.size = w.heap.size + 1 := by simp
theorem three_own (w : World) (c1 c2 c3 : Array Value) (T1 T2 T3 : TypeId) : ∃ W, ((w.alloc (.cells c1 T1)).alloc (.cells c2 T2)).alloc (.cells c3 T3) = W ∧
    W.heap[w.heap.size]? = some (.cells c1 T1 (0, 0)) ∧ W.heap[w.heap.size + 1]? = some (.cells c2 T2 (0, 0)) ∧ W.heap[w.heap.size + 1 + 1]? = some (.cells c3 T3 (0, 0)) ∧ Below w.heap.size w W ∧ W.heap.size = w.heap.size + 3 := by
  obtain ⟨W1, hW1, h1, b1⟩ := alloc_own w T1 c1
  obtain ⟨W2, hW2, h2, b2⟩ := alloc_own W1 T2 c2
  obtain ⟨W3, hW3, h3, b3⟩ := alloc_own W2 T3 c3
  have z1 : W1.heap.size = w.heap.size + 1 := by rw [← hW1]; exact alloc_size _ _
  have z2 : W2.heap.size = w.heap.size + 1 + 1 := by rw [← hW2, alloc_size, z1]
  have z3 : W3.heap.size = w.heap.size + 1 + 1 + 1 := by rw [← hW3, alloc_size, z2]
  rw [z1] at h2
  rw [z2] at h3
  refine ⟨W3, by rw [hW1, hW2, hW3], ?_, ?_, h3, (b1.trans (b2.mono (by omega))).trans (b3.mono (by omega)), z3⟩
  · rw [b3.block _ (by omega), b2.block _ (by omega)]; exact h1
  · rw [b3.block _ (by omega)]; exact h2
theorem five_own (w : World) (c1 c2 c3 c4 c5 : Array Value) (T1 T2 T3 T4 T5 : TypeId) : ∃ W, ((((w.alloc (.cells c1 T1)).alloc (.cells c2 T2)).alloc (.cells c3 T3)).alloc (.cells c4 T4)).alloc (.cells c5 T5) = W ∧
    W.heap[w.heap.size]? = some (.cells c1 T1 (0, 0)) ∧ W.heap[w.heap.size + 1]? = some (.cells c2 T2 (0, 0)) ∧ W.heap[w.heap.size + 1 + 1]? = some (.cells c3 T3 (0, 0)) ∧ W.heap[w.heap.size + 1 + 1 + 1]? = some (.cells c4 T4 (0, 0)) ∧ W.heap[w.heap.size + 1 + 1 + 1 + 1]? = some (.cells c5 T5 (0, 0)) ∧ Below w.heap.size w W ∧ W.heap.size = w.heap.size + 5 := by
  obtain ⟨W3, hW3, h1, h2, h3, b3, z3⟩ := three_own w c1 c2 c3 T1 T2 T3
  obtain ⟨W4, hW4, h4, b4⟩ := alloc_own W3 T4 c4
  obtain ⟨W5, hW5, h5, b5⟩ := alloc_own W4 T5 c5
  have z4 : W4.heap.size = w.heap.size + 1 + 1 + 1 + 1 := by rw [← hW4, alloc_size, z3]
  have z5 : W5.heap.size = w.heap.size + 5 := by rw [← hW5, alloc_size, z4]
  rw [z3] at h4
  rw [z4] at h5
  refine ⟨W5, by rw [hW3, hW4, hW5], ?_, ?_, ?_, ?_, h5, (b3.trans (b4.mono (by omega))).trans (b5.mono (by omega)), z5⟩
  · rw [b5.block _ (by omega), b4.block _ (by omega)]; exact h1
  · rw [b5.block _ (by omega), b4.block _ (by omega)]; exact h2
  · rw [b5.block _ (by omega), b4.block _ (by omega)]; exact h3
  · rw [b5.block _ (by omega)]; exact h4
abbrev IT : TypeId := 3
abbrev BT : TypeId := 4
end Go.Proofs.YtbgkjniagedcnaaGreatDoor
