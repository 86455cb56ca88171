/-
  slices.Clone at texts, at cells, at ints.
  A node as a value: tree's Page, IsLeaf, Keys of it (cut off XNodA).
  A tree below a node's value; tree's IsLeaf, Size, Cells of such a node.
  tree's Root, and Kids of a node.
-/
import Derived.Test.YtbgkjniagedcnaaGreatDoorNodeZ
import Derived.Test.YtbgkjniagedcnaaGreatDoorTurnZ
import Derived.WalkKit
import Derived.Below
import Derived.Lib.Hide
import Derived.Lib.AppendZerosOnto
import Derived.Lib.SliceRun
import Derived.Test.YtbgkjniagedcnaaGreatDoorRootZ
import Derived.Laws.ResultCell
import Derived.Test.YtbgkjniagedcnaaGreatDoorGathZ
import Derived.Test.YtbgkjniagedcnaaGreatDoorNode2Z
import Derived.Test.YtbgkjniagedcnaaGreatDoorReplZ
namespace Go.Proofs.YtbgkjniagedcnaaGreatDoor
open Go Go.RowKit

theorem own_no {α : Type} (E : Elt α) (w : World) (T : TypeId) : (w.alloc (.cells #[] T)).ownsRow w.heap.size T E.sz (.slice (some ⟨w.heap.size, 0, none⟩) 0 0) 0 (E.row []) := by
  refine ⟨by simp [Elt.row], .inr ⟨w.heap.size, 0, #[], rfl, Nat.le_refl _, ?_, Nat.le_refl _, by unfold maxLen; omega, by simp, by simp [Elt.row]⟩⟩
  show (w.heap.push _)[w.heap.size]? = _; rw [Array.getElem?_push_size]
set_option maxRecDepth 100000 in
theorem cloneS_own (v : Value) (l : List ByteArray) (w : World) (hv : EV strE w v l) (hl : l.length ≤ 1000000) :
    Calls Tryz.prog 84 #[v] w fun e w' => ∃ u, e = .returned u ∧ w'.ownsRow w.heap.size 9 (strE).sz u l.length ((strE).row l) ∧ Below w.heap.size w w' := by
  obtain ⟨a, c, rfl, hs, hz, hc, hm⟩ := hv
  have q22 : ∀ (w : World) (a : Option Addr) (n c n' c' : Nat), (binOp .eql 73 (.slice a n c) (.slice none n' c')).run Tryz.prog w = .ok (.bool a.isNone) w := fun w a n c n' c' => Lib.run_eql_slice_nil w _ _ a n c n' c' Tryz.underlying73
  cases a with
  | none =>
    obtain rfl : l = [] := by
      rcases hs with ⟨_, h⟩ | ⟨g, o, h, _⟩
      · exact h
      · cases h
    have hcz := hz rfl
    clear hs hz hc hm
    go_enter Tryz.func84, Tryz.ntmps84
    go_wp2
    go_ret
    exact ⟨_, rfl, World.ownsRow_nil _ _ _ _, Below.refl _ _⟩
  | some ad =>
    have hb1 : Below w.heap.size w (w.alloc (.cells #[] 9)) := (Below.refl _ _).alloc (Nat.le_refl _) _
    obtain ⟨v1, w1, hrun, hb2, ho⟩ := run_app_own (P := Tryz.prog) (w := w.alloc (.cells #[] 9)) (E := strE) w.heap.size 73 73 9 Tryz.underlying73 infoSt _ 0 [] (own_no strE w 9) hb1.size (some ad) l.length c l rfl hz (hs.below hb1 (Nat.le_refl _)) (by unfold maxLen; omega) (by show _ * 16 ≤ _; omega)
    rw [List.nil_append, Nat.zero_add] at ho
    have Ho := Lib.hid ho
    have HB := Lib.hid (hb1.trans hb2)
    obtain ⟨n, hn⟩ : ∃ n, l.length = n := ⟨_, rfl⟩
    rw [hn] at hrun Ho ⊢
    clear hs hz hc hm hb1 hb2 ho hn hl
    go_enter Tryz.func84, Tryz.ntmps84
    go_wp2_with (at_builtin; refine Lib.wpList_append_run _ rfl (.tmp 5) (.tmp 6) _ _ rfl _ _ (by rfl) (by rfl) _ _ hrun ?_)
    go_ret
    exact ⟨_, rfl, Ho.out, HB.out⟩
theorem cloneS_any (v : Value) (l : List ByteArray) (w : World) (hv : EV strE w v l) (hl : l.length ≤ 1000000) :
    Calls Tryz.prog 84 #[v] w fun e w' => ∃ u, e = .returned u ∧ EV strE w' u l ∧ Below w.heap.size w w' := by
  refine (cloneS_own v l w hv hl).mono ?_
  rintro e w' ⟨u, rfl, ho, hb⟩
  exact ⟨u, rfl, own_ev ho, hb⟩
end Go.Proofs.YtbgkjniagedcnaaGreatDoor
namespace Go.Proofs.YtbgkjniagedcnaaGreatDoor
open Go Go.RowKit

/-- A page, and three slices: a node's cells, keys, kids. -/
structure NoV where
  pg : Nat
  ca : Option Addr
  cn : Nat
  cc : Nat
  ka : Option Addr
  kn : Nat
  kc : Nat
  pa : Option Addr
  pn : Nat
  pc : Nat
instance : Inhabited NoV := ⟨⟨0, none, 0, 0, none, 0, 0, none, 0, 0⟩⟩
abbrev NoV.c (v : NoV) : Value := .slice v.ca v.cn v.cc
abbrev NoV.k (v : NoV) : Value := .slice v.ka v.kn v.kc
abbrev NoV.p (v : NoV) : Value := .slice v.pa v.pn v.pc
abbrev NoV.v (v : NoV) : Value := .agg #[.int .i64 (v.pg : Nat), v.c, v.k, v.p]
def nodE : Elt NoV := ⟨4, 80, .agg #[.int .i64 0, nilS, nilS, nilS], fun v => [.int .i64 (v.pg : Nat), v.c, v.k, v.p], fun _ => rfl, fun e u hu => by
  simp only [List.mem_cons, List.not_mem_nil, or_false] at hu; rcases hu with rfl | rfl | rfl | rfl <;> rfl, by decide, rfl, fun T => T == VT⟩
theorem infoV : (Tryz.prog.info? VT).map (fun i => (i.zero, i.size, i.bytes)) = some (some nodE.zero, nodE.sz, nodE.by_) := by kernel_rfl
def va (l : List NoV) (i : Nat) : NoV := l.getD i default
/-- A node's block that holds this value. -/
def NPv (w : World) (b : Nat) (v : NoV) : Prop := NP w b v.pg v.c v.k v.p
theorem ES.nods {w : World} {a : Option Addr} {l : List NoV} (h : ES nodE w a l) (h0 : 0 < l.length) : ∃ g o, a = some ⟨g, o, none⟩ ∧ ∀ i, i < l.length → w.cell? ⟨g, o + i * 4, none⟩ = some (.int .i64 ((va l i).pg : Nat)) ∧ w.cell? ⟨g, o + i * 4 + 1, none⟩ = some (va l i).c ∧ w.cell? ⟨g, o + i * 4 + 2, none⟩ = some (va l i).k ∧ w.cell? ⟨g, o + i * 4 + 3, none⟩ = some (va l i).p := by
  obtain ⟨g, o, rfl, hc⟩ := h.at h0
  refine ⟨g, o, rfl, fun i hi => ?_⟩
  have e : l[i]? = some (va l i) := by unfold va; simp [List.getD, hi]
  have h0 := hc (i * 4 + 0) _ (nodE.row_at l i 0 _ e (by decide))
  have h1 := hc (i * 4 + 1) _ (nodE.row_at l i 1 _ e (by decide))
  have h2 := hc (i * 4 + 2) _ (nodE.row_at l i 2 _ e (by decide))
  have h3 := hc (i * 4 + 3) _ (nodE.row_at l i 3 _ e (by decide))
  exact ⟨h0, h1, h2, h3⟩
theorem NV.of (w : World) (v : NoV) : ∃ W, w.alloc (.cells #[.int .i64 (v.pg : Nat), v.c, v.k, v.p] VT) = W ∧ NPv W w.heap.size v ∧ Below w.heap.size w W :=
  ⟨_, rfl, NP.newV w _ _ _ _, (Below.refl _ _).alloc (Nat.le_refl _) _⟩
/-- IsLeaf, by how many kids there are. -/
theorem nleaf_any (v : NoV) (w : World) : Calls Tryz.prog 48 #[v.v] w fun e w' => e = .returned (.bool (decide (v.pn = 0))) ∧ Below w.heap.size w w' := by
  obtain ⟨W, hW, hV, hb⟩ := NV.of w v
  have HW := Lib.hid hW
  have HB := Lib.hid hb
  have Hc : Hid (Calls Tryz.prog 32 #[pt w.heap.size] W fun e w' => e = .returned (.bool (decide (v.pn = 0))) ∧ W = w') := by
    have q3 := hV.c3
    clear hW hb
    obtain ⟨n, hn⟩ : ∃ n, v.pn = n := ⟨_, rfl⟩
    obtain ⟨D, hD⟩ : ∃ D, decide (n = 0) = D := ⟨_, rfl⟩
    have hd : ((n : Int) == 0) = D := by
      rw [← hD]
      by_cases h : n = 0
      · rw [h]; rfl
      · rw [decide_eq_false h, beq_eq_false_iff_ne]; omega
    simp only [NoV.p] at q3
    rw [hn] at q3
    rw [hn, hD]
    clear hV hn hD
    go_enter Tryz.func32, Tryz.ntmps32
    go_wp2
    go_ret
    exact ⟨rfl, rfl⟩
  generalize decide (v.pn = 0) = D at *
  clear hW hV hb
  obtain ⟨pg, ca, cn, cc, ka, kn, kc, pa, pn, pc⟩ := v
  dsimp only [NoV.c, NoV.k, NoV.p, NoV.v] at *
  go_enter Tryz.func48, Tryz.ntmps48
  go_wp2_with fail
  rw [HW.out]
  refine Hc.out.mono ?_
  rintro e w' ⟨rfl, rfl⟩
  go_wp2
  go_ret
  exact ⟨rfl, HB.out⟩
theorem nkeys_any (v : NoV) (ks : List ByteArray) (w : World) (hv : EV strE w v.k ks) (hl : ks.length ≤ 1000000) : Calls Tryz.prog 68 #[v.v] w fun e w' => ∃ u, e = .returned u ∧ EV strE w' u ks ∧ Below w.heap.size w w' := by
  obtain ⟨W, hW, hV, hb⟩ := NV.of w v
  have HW := Lib.hid hW
  have HB := Lib.hid hb
  have q0 := hV.c2
  have Hc := Lib.hid (cloneS_any v.k ks W (hv.ext hb) hl)
  rw [← hW] at q0
  clear hW hV hb hv
  obtain ⟨pg, ca, cn, cc, ka, kn, kc, pa, pn, pc⟩ := v
  dsimp only [NoV.c, NoV.k, NoV.p, NoV.v] at *
  go_enter Tryz.func68, Tryz.ntmps68
  go_wp2_with fail
  rw [HW.out]
  refine Hc.out.mono ?_
  rintro e w' ⟨u, rfl, hu, hb2⟩
  have Hu := Lib.hid hu
  have Hb2 := Lib.hid (HB.out.trans (hb2.mono HB.out.size))
  clear hb2 hu
  go_wp2
  go_ret
  exact ⟨_, rfl, Hu.out, Hb2.out⟩
end Go.Proofs.YtbgkjniagedcnaaGreatDoor
namespace Go.Proofs.YtbgkjniagedcnaaGreatDoor
open Go Go.RowKit

/-- A tree of so many nodes below its root's value, between two bounds: its entries, its root's size. -/
def NdV (w : World) : Nat → SB → SB → NoV → List En → Nat → Prop
  | 0, lo, hi, v, es, s => (v.k = nilS ∧ v.p = nilS ∧ CV w v.c es) ∧ ltO lo hi ∧ srt es ∧ (∀ x ∈ es, okE x ∧ ins lo hi x.k) ∧ s = leafSz es
  | h + 1, lo, hi, v, es, s => ∃ ks ps ess, (v.c = nilS ∧ EV strE w v.k ks ∧ EV ptrE w v.p ps) ∧ KRow (Good w h) ks lo hi ps ess ∧ es = ess.flatten ∧ s = brSz ks
theorem NdV.ext {w w' : World} (hb : Below w.heap.size w w') {h : Nat} {lo hi : SB} {v : NoV} {es : List En} {s : Nat} (hn : NdV w h lo hi v es s) : NdV w' h lo hi v es s := by
  cases h with
  | zero =>
    obtain ⟨⟨h1, h2, h3⟩, h4⟩ := hn
    exact ⟨⟨h1, h2, h3.ext hb⟩, h4⟩
  | succ h =>
    obtain ⟨ks, ps, ess, ⟨h1, h2, h3⟩, hr, h4⟩ := hn
    exact ⟨ks, ps, ess, ⟨h1, h2.ext hb, h3.ext hb⟩, hr.mono (fun _ _ _ _ h5 => h5.ext hb), h4⟩
theorem NdV.facts {w : World} {h : Nat} {lo hi : SB} {v : NoV} {es : List En} {s : Nat} (hn : NdV w h lo hi v es s) : ltO lo hi ∧ srt es ∧ ∀ x ∈ es, okE x ∧ ins lo hi x.k := by
  cases h with
  | zero =>
    obtain ⟨_, h2, h3, h4, _⟩ := hn
    exact ⟨h2, h3, h4⟩
  | succ h =>
    obtain ⟨ks, ps, ess, _, hr, rfl, _⟩ := hn
    have := hr.facts Good.facts
    exact ⟨this.1, this.2.1, this.2.2.1⟩
theorem Nd.val {w : World} {h : Nat} {lo hi : SB} {b : Nat} {es : List En} {s : Nat} (hn : Nd w h lo hi b es s) : ∃ v : NoV, NPv w b v ∧ NdV w h lo hi v es s := by
  cases h with
  | zero =>
    obtain ⟨⟨vc, ⟨pg, nb⟩, a, c, rfl, h3⟩, h4⟩ := hn
    exact ⟨⟨pg, a, es.length, c, none, 0, 0, none, 0, 0⟩, nb, ⟨rfl, rfl, a, c, rfl, h3⟩, h4⟩
  | succ h =>
    obtain ⟨ks, ps, ess, ⟨vk, vp, ⟨pg, nb⟩, ⟨a, c, rfl, h3⟩, ⟨a', c', rfl, h4⟩⟩, h5⟩ := hn
    exact ⟨⟨pg, none, 0, 0, a, ks.length, c, a', ps.length, c'⟩, nb, ks, ps, ess, ⟨rfl, ⟨a, c, rfl, h3⟩, ⟨a', c', rfl, h4⟩⟩, h5⟩
theorem nleafD_any {h : Nat} {lo hi : SB} {v : NoV} {es : List En} {s : Nat} (w : World) (hn : NdV w h lo hi v es s) : Calls Tryz.prog 48 #[v.v] w fun e w' => e = .returned (.bool (decide (h = 0))) ∧ Below w.heap.size w w' := by
  have e1 : decide (v.pn = 0) = decide (h = 0) := by
    cases h with
    | zero =>
      obtain ⟨⟨_, h2, _⟩, _⟩ := hn
      injection h2 with _ h2 _
      exact decide_eq_decide.2 ⟨fun _ => rfl, fun _ => h2⟩
    | succ h =>
      obtain ⟨ks, ps, ess, ⟨_, _, a, c, h3, _⟩, hr, _⟩ := hn
      injection h3 with _ h3 _
      have := hr.len
      exact decide_eq_decide.2 ⟨fun h4 => by omega, fun h4 => by omega⟩
  rw [← e1]
  exact nleaf_any v w
theorem nleaf_yes {lo hi : SB} {v : NoV} {es : List En} {s : Nat} (w : World) (hn : NdV w 0 lo hi v es s) : Calls Tryz.prog 48 #[v.v] w fun e w' => e = .returned (.bool true) ∧ Below w.heap.size w w' :=
  (nleafD_any w hn).mono (by rintro e w' ⟨rfl, h⟩; exact ⟨rfl, h⟩)
theorem nleaf_no {h : Nat} {lo hi : SB} {v : NoV} {es : List En} {s : Nat} (w : World) (hn : NdV w (h + 1) lo hi v es s) : Calls Tryz.prog 48 #[v.v] w fun e w' => e = .returned (.bool false) ∧ Below w.heap.size w w' :=
  (nleafD_any w hn).mono (by rintro e w' ⟨rfl, h⟩; exact ⟨by simp, h⟩)
theorem nsize_any {h : Nat} {lo hi : SB} {v : NoV} {es : List En} {s : Nat} (w : World) (hn : NdV w h lo hi v es s) (hs : s ≤ 100000) : Calls Tryz.prog 64 #[v.v] w fun e w' => e = .returned (.int .i64 (s : Nat)) ∧ Below w.heap.size w w' := by
  obtain ⟨W, hW, hV, hb⟩ := NV.of w v
  have HW := Lib.hid hW
  have HB := Lib.hid hb
  have Hc : Hid (Calls Tryz.prog 81 #[pt w.heap.size] W fun e w' => e = .returned (.int .i64 (s : Nat)) ∧ Below W.heap.size W w') := by
    have hn' := hn.ext hb
    have hV' : NB W w.heap.size v.c v.k v.p := ⟨_, hV⟩
    cases h with
    | zero =>
      obtain ⟨⟨h1, h2, h3⟩, _, _, h4, rfl⟩ := hn'
      rw [h1, h2] at hV'
      have hok := fun x hx => (h4 x hx).1
      have h5 := szs_range hok
      exact size_leaf w.heap.size es W ⟨_, hV', h3⟩ (by unfold leafSz at hs; omega) hok
    | succ h =>
      obtain ⟨ks, ps, ess, ⟨h1, h2, h3⟩, hr, _, rfl⟩ := hn'
      rw [h1] at hV'
      have hok := (hr.facts Good.facts).2.2.2
      have h5 := kss_range hok
      exact size_bran w.heap.size ks ps W ⟨_, _, hV', h2, h3⟩ (by have := hr.len; omega) (by unfold brSz at hs; omega) hok
  clear hW hV hb hn
  obtain ⟨pg, ca, cn, cc, ka, kn, kc, pa, pn, pc⟩ := v
  dsimp only [NoV.c, NoV.k, NoV.p, NoV.v] at *
  go_enter Tryz.func64, Tryz.ntmps64
  go_wp2_with fail
  rw [HW.out]
  refine Hc.out.mono ?_
  rintro e w' ⟨rfl, hb2⟩
  have Hb2 := Lib.hid (HB.out.trans (hb2.mono HB.out.size))
  clear hb2
  go_wp2
  go_ret
  exact ⟨rfl, Hb2.out⟩
theorem ncells_any {lo hi : SB} {v : NoV} {es : List En} {s : Nat} (w : World) (hn : NdV w 0 lo hi v es s) (hl : es.length ≤ 1000000) : Calls Tryz.prog 66 #[v.v] w fun e w' => ∃ u, e = .returned u ∧ EV entE w' u es ∧ Below w.heap.size w w' := by
  obtain ⟨W, hW, hV, hb⟩ := NV.of w v
  have HW := Lib.hid hW
  have HB := Lib.hid hb
  obtain ⟨⟨hz1, hz2, a, c, hc, hs, _⟩, _⟩ := hn
  clear hz1 hz2
  have q0 : W.cell? ⟨w.heap.size, 1, none⟩ = some (.slice a es.length c) := hV.c1.trans (congrArg some hc)
  have Hc := Lib.hid (withCells_any W nilS [] a es.length c es W (Below.refl _ _) (World.ownsRow_nil _ _ _ _) rfl (hs.below hb (Nat.le_refl _)) (by simp; omega))
  rw [← hW] at q0
  clear hW hV hb hs
  obtain ⟨pg, ca, cn, cc, ka, kn, kc, pa, pn, pc⟩ := v
  dsimp only [NoV.c, NoV.k, NoV.p, NoV.v] at *
  injection hc with hc1 hc2 hc3
  subst hc1 hc2 hc3
  go_enter Tryz.func66, Tryz.ntmps66
  go_wp2_with fail
  rw [HW.out]
  refine Hc.out.mono ?_
  rintro e w' ⟨u, rfl, ho, _, hb2⟩
  rw [List.nil_append, List.length_nil, Nat.zero_add] at ho
  have Hu := Lib.hid (own_ev (E := entE) (T := ET) ho)
  have Hb2 := Lib.hid (HB.out.trans (hb2.mono HB.out.size))
  clear hb2 ho
  go_wp2
  go_ret
  exact ⟨_, rfl, Hu.out, Hb2.out⟩
end Go.Proofs.YtbgkjniagedcnaaGreatDoor
namespace Go.Proofs.YtbgkjniagedcnaaGreatDoor
open Go Go.RowKit

theorem root_nil (n : Int) (w : World) : Calls Tryz.prog 29 #[.agg #[.pointer none, .int .i64 n]] w fun e w' => e = .returned (.tuple #[.agg #[.int .i64 0, nilS, nilS, nilS], .bool false]) ∧ Below w.heap.size w w' := by
  have HB : Hid (Below w.heap.size w ((w.alloc (.cells #[.pointer none, .int .i64 n] TT)).alloc (.cells #[.int .i64 0, nilS, nilS, nilS] VT))) := ((Below.refl w.heap.size w).alloc (Nat.le_refl _) _).alloc (by simp) _
  go_enter Tryz.func29, Tryz.ntmps29
  go_wp2
  refine bodyPost_ret (v := .tuple #[.agg #[.int .i64 0, nilS, nilS, nilS], .bool false]) (by rw [results_cell_tmp rfl]; go_simp) rfl ⟨rfl, HB.out⟩
theorem root_some (b : Nat) (n : Int) (v : NoV) (w : World) (hb : NPv w b v) : Calls Tryz.prog 29 #[.agg #[pt b, .int .i64 n]] w fun e w' => e = .returned (.tuple #[v.v, .bool true]) ∧ Below w.heap.size w w' := by
  have HB : Hid (∀ x, Below w.heap.size w ((w.alloc (.cells #[pt b, .int .i64 n] TT)).alloc (.cells x VT))) := fun x => ((Below.refl w.heap.size w).alloc (Nat.le_refl _) _).alloc (by simp) _
  have q0 := (NP.ext hb (HB.out #[.int .i64 0, nilS, nilS, nilS])).c0
  have q1 := (NP.ext hb (HB.out #[.int .i64 0, nilS, nilS, nilS])).c1
  have q2 := (NP.ext hb (HB.out #[.int .i64 0, nilS, nilS, nilS])).c2
  have q3 := (NP.ext hb (HB.out #[.int .i64 0, nilS, nilS, nilS])).c3
  clear hb
  obtain ⟨pg, ca, cn, cc, ka, kn, kc, pa, pn, pc⟩ := v
  dsimp only [NoV.c, NoV.k, NoV.p, NoV.v] at *
  go_enter Tryz.func29, Tryz.ntmps29
  go_wp2
  refine bodyPost_ret (v := .tuple #[.agg #[.int .i64 (pg : Nat), .slice ca cn cc, .slice ka kn kc, .slice pa pn pc], .bool true]) (by rw [results_cell_tmp rfl]; go_simp) rfl ⟨rfl, HB.out _⟩
/-- A kid of a branch: so deep, between its bounds, with enough bytes that fit. -/
def GoodV (w : World) (h : Nat) (lo hi : SB) (v : NoV) (e : List En) : Prop := ∃ s, NdV w h lo hi v e s ∧ 126 ≤ s ∧ s ≤ 504
theorem GoodV.ext {w w' : World} (hb : Below w.heap.size w w') {h : Nat} {lo hi : SB} {v : NoV} {e : List En} (hg : GoodV w h lo hi v e) : GoodV w' h lo hi v e := by
  obtain ⟨s, h1, h2⟩ := hg
  exact ⟨s, h1.ext hb, h2⟩
/-- The values of kids. -/
def KidsV (w : World) (h : Nat) (ks : List ByteArray) (lo hi : SB) (vs : List NoV) (ess : List (List En)) : Prop :=
  vs.length = ks.length + 1 ∧ ess.length = ks.length + 1 ∧ ∀ i, i < vs.length → GoodV w h (lob lo ks i) (hib hi ks i) (va vs i) (ess.getD i [])
theorem KidsV.ext {w w' : World} (hb : Below w.heap.size w w') {h : Nat} {ks : List ByteArray} {lo hi : SB} {vs : List NoV} {ess : List (List En)} (hg : KidsV w h ks lo hi vs ess) : KidsV w' h ks lo hi vs ess :=
  ⟨hg.1, hg.2.1, fun i hi => (hg.2.2 i hi).ext hb⟩
set_option maxRecDepth 100000 in
theorem nkids_any {h : Nat} {lo hi : SB} (v : NoV) (ks : List ByteArray) (ps : List Nat) (ess : List (List En)) (w : World) (hv : EV ptrE w v.p ps) (hr : KRow (Good w h) ks lo hi ps ess) (hl : ks.length ≤ 100000) :
    Calls Tryz.prog 49 #[v.v] w fun e w' => ∃ u vs, e = .returned u ∧ EV nodE w' u vs ∧ KidsV w' h ks lo hi vs ess ∧ Below w.heap.size w w' := by
  obtain ⟨W, hW, hV, hb⟩ := NV.of w v
  have hle := hr.len
  -- each kid's value
  have hex : ∀ k, k < ps.length → ∃ x : NoV, NPv w (na ps k) x ∧ GoodV w h (lob lo ks k) (hib hi ks k) x (ess.getD k []) := fun k hk => by
    obtain ⟨sk, h1, h2, h3⟩ := hr.kid (m := k) (by omega)
    obtain ⟨x, h4, h5⟩ := h1.val
    exact ⟨x, h4, sk, h5, h2, h3⟩
  obtain ⟨f, hf⟩ : ∃ f : Nat → NoV, ∀ k, k < ps.length → NPv w (na ps k) (f k) ∧ GoodV w h (lob lo ks k) (hib hi ks k) (f k) (ess.getD k []) :=
    ⟨fun k => if hk : k < ps.length then Classical.choose (hex k hk) else default, fun k hk => by simp only [dif_pos hk]; exact Classical.choose_spec (hex k hk)⟩
  have HF := Lib.hid hf
  have Hvs : ∀ k, ((List.range ps.length).map f).take (k + 1) = if k < ps.length then ((List.range ps.length).map f).take k ++ [f k] else ((List.range ps.length).map f).take k := fun k => by
    by_cases hk : k < ps.length
    · rw [if_pos hk, List.take_succ_eq_append_getElem (by simpa using hk)]; simp
    · rw [if_neg hk, List.take_of_length_le (by simp; omega), List.take_of_length_le (by simp; omega)]
  have HVS := Lib.hid Hvs
  obtain ⟨a1, c1, hp, hs1, _⟩ := hv
  obtain ⟨g2, o2, rfl, hc2⟩ := hs1.ptrs (by omega)
  have q2 := hV.c3
  rw [hp] at q2
  have HW := Lib.hid hW
  have HB := Lib.hid hb
  have Hc2 := Lib.hid hc2
  have Hle := Lib.hid hle
  have Hl := Lib.hid hl
  obtain ⟨n, hn⟩ : ∃ n, ps.length = n := ⟨_, rfl⟩
  have Hn := Lib.hid hn
  rw [hn] at q2
  have hn9 : n ≤ 100001 := by omega
  rw [← hW] at q2
  have hW0 : Hid (W.heap.size = w.heap.size + 1) := by show _ = _; rw [← hW]; simp
  clear hW hV hb hex hf Hvs hs1 hc2 hle hl hp hr hn
  obtain ⟨pg, ca, cn, cc, ka, kn, kc, pa, pn, pc⟩ := v
  dsimp only [NoV.c, NoV.k, NoV.p, NoV.v] at *
  go_enter Tryz.func49, Tryz.ntmps49
  go_wp2_with fail
  rw [HW.out]
  go_loopw [3, 5, 10] (fun u _ i wr => ∃ (k : Nat) (v : Value), v = u ∧ i = .int .i64 k ∧ k ≤ n ∧ Hid (wr.ownsRow w.heap.size VT nodE.sz v (((List.range ps.length).map f).take k).length (nodE.row (((List.range ps.length).map f).take k))) ∧ Hid (Below w.heap.size w wr)) (fun _ _ i _ => n - (intOf i).toNat)
  case atStart => exact ⟨0, nilS, rfl, rfl, by omega, World.ownsRow_nil _ _ _ _, HB⟩
  case round =>
    obtain ⟨k, u, rfl, rfl, hk, hown, hB⟩ := hrel
    by_cases hlt : k < n
    · have p0 := Hc2.out k (by rw [Hn.out]; exact hlt)
      have p1 : wr.cell? ⟨g2, o2 + k, none⟩ = some (pt (na ps k)) := by
        rw [hB.out.cell (p := ⟨g2, o2 + k, none⟩) (block_lt_of_cell p0)]; exact p0
      have hfk := HF.out k (by rw [Hn.out]; exact hlt)
      have hnb := NP.ext hfk.1 hB.out
      have r0 := hnb.c0
      have r1 := hnb.c1
      have r2 := hnb.c2
      have r3 := hnb.c3
      have htk : (((List.range ps.length).map f).take k).length = k := by simp; have := Hn.out; omega
      have hsz := hB.out.size
      have hlit : ES nodE (wr.alloc (.cells #[.int .i64 ((f k).pg : Nat), (f k).c, (f k).k, (f k).p] VT)) (some ⟨wr.heap.size, 0, none⟩) [f k] := ES.lit (heap_new wr VT #[.int .i64 ((f k).pg : Nat), (f k).c, (f k).k, (f k).p])
      obtain ⟨v1, w1, hrun, hb1, ho1⟩ := run_app_own (P := Tryz.prog) (w := wr.alloc (.cells #[.int .i64 ((f k).pg : Nat), (f k).c, (f k).k, (f k).p] VT)) (E := nodE) w.heap.size 104 104 VT Tryz.underlying104 infoV u k (((List.range ps.length).map f).take k) (by rw [htk] at hown; exact hown.out.alloc _) (by simp; omega) (some ⟨wr.heap.size, 0, none⟩) 1 1 [f k] rfl (fun h => by cases h) hlit (by unfold maxLen; omega) (by show _ * 80 ≤ _; omega)
      have Ho1 : Hid (w1.ownsRow w.heap.size VT nodE.sz v1 (((List.range ps.length).map f).take (k + 1)).length (nodE.row (((List.range ps.length).map f).take (k + 1)))) := by
        rw [HVS.out k, if_pos (by rw [Hn.out]; exact hlt), List.length_append, htk]; exact ho1
      have HB1 : Hid (Below w.heap.size w w1) := (hB.out.alloc hsz _).trans hb1
      generalize na ps k = pk at *
      generalize hfk2 : f k = x at *
      obtain ⟨xg, xa, xn, xc, ya, yn, yc, za, zn, zc⟩ := x
      dsimp only [NoV.c, NoV.k, NoV.p, NoV.v] at *
      clear p0 hfk hnb htk hlit ho1 hb1 hown hB hfk2
      go_wp2_with (at_builtin; refine Lib.wpList_append_run _ rfl (.tmp 14) (.tmp 19) _ _ rfl _ _ (by rfl) (by rfl) _ _ hrun ?_)
      clear hrun p1 r0 r1 r2 r3
      go_wp2_with fail
      go_roundw
      case rel => exact ⟨k + 1, v1, rfl, by go_num, by omega, Ho1, HB1⟩
      case measure => simp [intOf]; omega
    · obtain rfl : k = n := by omega
      have ho := hown.out
      rw [List.take_of_length_le (by simp; have := Hn.out; omega)] at ho
      have hev : Hid (EV nodE wr u ((List.range ps.length).map f)) := own_ev (T := VT) ho
      have Hk : Hid (KidsV wr h ks lo hi ((List.range ps.length).map f) ess) := by
        refine ⟨by simp [Hle.out.1], Hle.out.2, fun i hi => ?_⟩
        have hi' : i < ps.length := by simpa using hi
        have : va ((List.range ps.length).map f) i = f i := by unfold va; simp [List.getD, hi']
        rw [this]
        exact (HF.out i hi').2.ext hB.out
      clear hown ho
      go_wp2
      go_ret
      exact ⟨u, _, rfl, hev.out, Hk.out, hB.out⟩
end Go.Proofs.YtbgkjniagedcnaaGreatDoor
