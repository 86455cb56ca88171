/-
  shape's Check's deferred closure, where nothing is to be recovered.
  XGr in a function that defers: the region's Q may hang on the slot of the result, which no reading writes.
  shape's Check of a right tree.
-/
import Derived.Test.YtbgkjniagedcnaaGreatDoorProg
import Derived.Tactics
import Derived.Tactics2
import Derived.Defers
import Derived.Recover
import Derived.Laws.Pointers
import Derived.WalkKit
import Derived.Test.YtbgkjniagedcnaaGreatDoorGr
import Derived.Test.YtbgkjniagedcnaaGreatDoorTurnZ
import Derived.Test.YtbgkjniagedcnaaGreatDoorLook1Z
import Derived.Test.YtbgkjniagedcnaaGreatDoorGathZ
import Derived.Test.YtbgkjniagedcnaaGreatDoorRootZ
import Derived.Test.YtbgkjniagedcnaaGreatDoorNodesZ
namespace Go.Proofs.YtbgkjniagedcnaaGreatDoor
open Go Go.RowKit

theorem chk_idle (p : Addr) (w : World) :
    CallsD Tryz.prog 40 #[.pointer (some p)] .returning w fun e u' w' => e = .returned (.tuple #[]) ∧ u' = .returning ∧ w' = w := by
  refine callsD_of_wpS Tryz.func40 rfl fun c₀ cs hu => ?_
  apply wpS_seq
  apply wpS_region
  simp [wpOpsS, go_sem, recoverD, hu, Tryz.ntmps40, Exit.thenS]
  apply wpS_seq
  apply wpS_region
  simp [wpOpsS, go_sem, Exit.thenS, Array.replicate]
  refine wpS_cond (t := false) (by simp [Act.eval]) ?_
  simp only [Bool.false_eq_true, if_false]
  refine wpS_of_wp (wp_skip ?_)
  cases c₀
  simp_all [bodyPostS, results, Tryz.results40]
end Go.Proofs.YtbgkjniagedcnaaGreatDoor
namespace Go.Proofs.YtbgkjniagedcnaaGreatDoor
open Go Go.RowKit
section
variable {P : Program} {ops : Array Oper} {Q : Exit → Act → World → Prop} {md : Region.Mode}
def clearOf (ops : Array Oper) (r : Nat) (sc : List (Nat × Bool)) : Bool := sc.all fun x => !x.2 || (match ops[x.1]? with | some o => o.dst != some r | none => true)
theorem wpAnyH_of_grD {r : Nat} (hs : Region.noSelect ops = true) (hQ : ∀ t v c a w, t ≠ r → Q (.panic c) (Act.put a (some t) v) w → Q (.panic c) a w) :
    ∀ (sc : List (Nat × Bool)) (fuel : Nat) (listed : Array Bool) (a : Act) (w : World), sc.length ≤ fuel → schedOk md ops sc listed = true → clearOf ops r sc = true → wpGr P ops Q sc a w → wpAnyH P md ops Q (Ext w) fuel listed a w
  | [], fuel, listed, a, w, _, hc, _, h => wpAnyH_done (by simpa [schedOk] using hc) h fuel
  | (i, true) :: rest, 0, _, _, _, hl, _, _, _ => by simp at hl
  | (i, false) :: rest, 0, _, _, _, hl, _, _, _ => by simp at hl
  | (i, true) :: rest, fuel + 1, listed, a, w, hl, hc, hd, h => by
    obtain ⟨o, v, ho, hy, hr⟩ := h
    simp only [schedOk, Bool.and_eq_true] at hc
    unfold clearOf at hd
    rw [List.all_cons, Bool.and_eq_true] at hd
    have hdst : o.dst ≠ some r := by
      have h1 := hd.1
      simp only [ho, Bool.not_true, Bool.false_or] at h1
      simpa using h1
    refine wpAnyH_take ho hs hc.1 hc.2.1 (fun c a w hq => ?_) hy (Ext.refl w) (wpAnyH_of_grD hs hQ rest fuel _ _ w (by simpa using hl) hc.2.2 hd.2 hr)
    cases hdo : o.dst with
    | none => rw [hdo] at hq; exact hq
    | some t => rw [hdo] at hq hdst; exact hQ t v c a w (fun e => hdst (by rw [e])) hq
  | (i, false) :: rest, fuel + 1, listed, a, w, hl, hc, hd, h => by
    obtain ⟨o, ho, hr⟩ := h
    simp only [schedOk, Bool.and_eq_true, beq_iff_eq] at hc
    unfold clearOf at hd
    rw [List.all_cons, Bool.and_eq_true] at hd
    refine wpAnyH_all hc.1 (by simp) (fun j hj => ?_)
    obtain rfl := List.mem_singleton.1 hj
    unfold wpOp
    simp only [ho]
    by_cases hw : Region.wanted o (yielded ops a.tmps) = true
    · rw [if_pos hw] at hr ⊢
      refine .inl (Oper.wp_mono (fun a' w' h' => ⟨h'.1, ?_⟩) hr)
      exact wpAnyH_weaken (fun w'' hx => h'.1.trans hx) _ _ _ _ (wpAnyH_of_grD hs hQ rest fuel _ a' w' (by simpa using hl) hc.2 hd.2 h'.2)
    · rw [if_neg hw] at hr ⊢
      exact ⟨Ext.refl w, wpAnyH_of_grD hs hQ rest fuel _ _ w (by simpa using hl) hc.2 hd.2 hr⟩
theorem wp_region_grD (r : Nat) (sc : List (Nat × Bool)) {id : Nat} {a : Act} {w : World} (hm : P.follows .mixedOrders = true) (hs : Region.noSelect ops = true) (hlen : decide (sc.length ≤ ops.size) = true)
    (hc : schedOk .any ops sc (Array.replicate ops.size false) = true) (hd : clearOf ops r sc = true) (hQ : ∀ t v c a w, t ≠ r → Q (.panic c) (Act.put a (some t) v) w → Q (.panic c) a w)
    (h : wpGr P ops Q sc a w.drew) : (Code.region id ops true).wp P Q a w :=
  wp_region_held hm (wpAnyH_of_grD hs hQ sc _ _ a w.drew (of_decide_eq_true hlen) hc hd h)
/-- The end of deferred calls hangs on the temporaries through the results alone. -/
theorem leaves_tmps {fn : Func} {R : Ending → World → Prop} {t t' : Array Value} (h : ∀ w, (results fn t).run P w = (results fn t').run P w) : ∀ (ds : List Deferred) (u : FrameMode) (w : World), Leaves P fn t R ds u w → Leaves P fn t' R ds u w
  | [], .returning, w, hx => by
    obtain ⟨v, hr, hR⟩ := hx
    exact ⟨v, (h w) ▸ hr, hR⟩
  | [], .panicking c, w, hx => hx
  | [], .run, w, hx => hx
  | d :: ds, u, w, hx => by
    obtain ⟨hu, fv, cap, f, args, ht, hi, hc⟩ := hx
    refine ⟨hu, fv, cap, f, args, ht, hi, hc.mono (fun e u' w' he => ?_)⟩
    cases e with
    | returned v => exact leaves_tmps h ds _ _ he
    | panicked c => exact leaves_tmps h ds _ _ he
    | outgrown => exact he
theorem leaves_put {fn : Func} {R : Ending → World → Prop} {p t : Nat} {ty : TypeId} (hf : fn.results = #[.cell p ty]) (ht : t ≠ p) {a : Act} {v : Value} {ds : List Deferred} {u : FrameMode} {w : World} (h : Leaves P fn (a.put (some t) v).tmps R ds u w) : Leaves P fn a.tmps R ds u w := by
  refine leaves_tmps (fun w => ?_) ds u w h
  rw [results_cell_one hf, results_cell_one hf]
  have : (a.put (some t) v).tmps.getD p undef = a.tmps.getD p undef := by
    show (a.tmps.setIfInBounds t v).getD p undef = a.tmps.getD p undef
    rw [Array.getD_eq_getD_getElem?, Array.getD_eq_getD_getElem?, Array.getElem?_setIfInBounds_ne ht]
  rw [this]
end
end Go.Proofs.YtbgkjniagedcnaaGreatDoor
namespace Go.Proofs.YtbgkjniagedcnaaGreatDoor
open Go Go.RowKit

abbrev ERT : TypeId := 36
/-- A block that holds no error. -/
def EB0 (w : World) (b : Nat) : Prop := w.heap[b]? = some (.cells #[.nilIface] ERT (0, 0))
theorem EB0.c0 {w : World} {b : Nat} (h : EB0 w b) : w.cell? ⟨b, 0, none⟩ = some .nilIface := by
  have h' : w.heap[b]? = _ := h
  simp [World.cell?, h']
theorem EB0.fz {w : World} {b : Nat} (h : EB0 w b) (j : Nat) : w.frozen? ⟨b, j, none⟩ = false := by
  have h' : w.heap[b]? = _ := h
  simp [World.frozen?, h']
theorem EB0.lt {w : World} {b : Nat} (h : EB0 w b) : b < w.heap.size := (Array.getElem?_eq_some_iff.1 h).1
theorem EB0.ext {w w' : World} {b : Nat} (h : EB0 w b) (hb : Below w.heap.size w w') : EB0 w' b := (hb.block b h.lt).trans h
theorem EB0.put {w : World} {b : Nat} (h : EB0 w b) : EB0 (w.setCell ⟨b, 0, none⟩ .nilIface) b := heap_setCell_same w b 0 _ _ _ h
theorem two_te (w : World) (p : Option Addr) (n : Int) : ∃ W, (w.alloc (.cells #[.pointer p, .int .i64 n] TT)).alloc (.cells #[.nilIface] ERT) = W ∧ TB W w.heap.size p n ∧ EB0 W (w.heap.size + 1) ∧ Below w.heap.size w W := by
  refine ⟨_, rfl, ?_, ?_, ((Below.refl w.heap.size w).alloc (Nat.le_refl _) _).alloc (by simp) _⟩
  · have h1 : TB (w.alloc (.cells #[.pointer p, .int .i64 n] TT)) w.heap.size p n := heap_new w TT _
    exact h1.ext ((Below.refl _ _).alloc (Nat.le_refl _) _)
  · have h1 : EB0 ((w.alloc (.cells #[.pointer p, .int .i64 n] TT)).alloc (.cells #[.nilIface] ERT)) (w.alloc (.cells #[.pointer p, .int .i64 n] TT)).heap.size := heap_new _ ERT _
    rw [show (w.alloc (.cells #[.pointer p, .int .i64 n] TT)).heap.size = w.heap.size + 1 by simp] at h1
    exact h1
set_option maxHeartbeats 4000000 in
set_option maxRecDepth 100000 in
theorem shCheck_any (p : Option Addr) (es : List En) (H : Nat) (w : World) (ht : TreeP w p es H) (hl : es.length ≤ 4096) :
    Calls Tryz.prog 20 #[.agg #[.pointer p, .int .i64 es.length]] w fun e w' => e = .returned .nilIface ∧ Below w.heap.size w w' := by
  have hHi := ht.high
  have hmf : ∀ (fn : Fn) (first cap : Array Value) (w : World), (Instr.makeFunc fn first cap).run Tryz.prog w = .ok (.func fn first cap) w := fun _ _ _ _ => rfl
  obtain ⟨n, hn⟩ : ∃ n, es.length = n := ⟨_, rfl⟩
  have HN := Lib.hid hn
  rw [hn]
  obtain ⟨W, hW, hT, hE, hb⟩ := two_te w p (n : Int)
  have a0 := hT.c0
  have a1 := hT.c1
  rw [← hW] at a0 a1
  have HW := Lib.hid hW
  have HT := Lib.hid hT
  have HE := Lib.hid hE
  have HB := Lib.hid hb
  have ht' := ht.ext hb
  obtain ⟨es', hbare, ht'⟩ := ht'
  have Hbl : Hid (es'.length = es.length) := by show _ = _; rw [hbare, bare_len]
  clear hbare
  rcases ht' with ⟨rfl, he, hH⟩ | ⟨b, h, s, rfl, hnd, hs5, hs3, hne, hH⟩
  · have Hc := Lib.hid (root_nil (n : Int) W)
    clear hW hT hE hb he hH hHi ht hn
    go_enter_defers Tryz.func20, Tryz.ntmps20
    go_wp2_with fail
    rw [HW.out]
    refine Hc.out.mono ?_
    rintro e w2 ⟨rfl, hb2⟩
    have hE2 := HE.out.ext hb2
    have hal : Below w2.heap.size w2 (w2.alloc (.cells #[.int .i64 0, nilS, nilS, nilS] VT)) := (Below.refl _ _).alloc (Nat.le_refl _) _
    have hE3 := hE2.ext hal
    have f0 := hE3.fz 0
    have c0 := hE3.c0
    have hE4 := Lib.hid hE3.put
    have Hfin := Lib.hid (below_set (b := w.heap.size + 1) (j := 0) (v := .nilIface) ((HB.out.trans (hb2.mono HB.out.size)).trans (hal.mono (HB.out.trans (hb2.mono HB.out.size)).size)) (Nat.le_succ _))
    clear hb2 hE2 hal hE3 a0 a1 Hc
    go_wp2_with fail
    refine leaves_cons (f := 40) (args := #[.pointer (some ⟨w.heap.size + 1, 0, none⟩)]) (by simp) (by simp [go_sem]) ?_
    refine (chk_idle ⟨w.heap.size + 1, 0, none⟩ _).mono ?_
    rintro e u' w'' ⟨rfl, rfl, rfl⟩
    have d0 := hE4.out.c0
    clear f0 c0
    simp [Leaves, settle, results, Tryz.results20, go_sem, d0]
    exact Hfin.out
  · obtain ⟨v, hnb, hndv⟩ := hnd.val
    have Hc := Lib.hid (root_some b (n : Int) v W hnb)
    have Hv := Lib.hid hndv
    have HC := Lib.hid (And.intro hs5 (And.intro hs3 (And.intro hne hH)))
    have HTr := Lib.hid (ht.ext hb)
    have HHi := Lib.hid hHi
    have Hl := Lib.hid hl
    clear hW hT hE hb hH hHi ht hn hnb hndv hnd hs5 hs3 hne hl
    go_enter_defers Tryz.func20, Tryz.ntmps20
    go_wp2_with fail
    rw [HW.out]
    refine Hc.out.mono ?_
    rintro e w2 ⟨rfl, hb2⟩
    obtain ⟨W3, hW3, hV3, hb3⟩ := NV.of w2 v
    obtain ⟨X, hX⟩ : ∃ X, W3.drew = X := ⟨_, rfl⟩
    have hbx : Below W3.heap.size W3 X := by rw [← hX]; exact (Below.refl _ _).drew
    have hx3 := hb2.trans (hb3.mono hb2.size)
    have HX3 := Lib.hid (hx3.trans (hbx.mono hx3.size))
    have hV := hV3.ext hbx
    have hT := HT.out.ext HX3.out
    have HX : Hid ((w2.alloc (.cells #[.int .i64 (v.pg : Nat), v.c, v.k, v.p] VT)).drew = X) := by show _ = _; rw [hW3, hX]
    have Hhe := Lib.hid (height_any (some ⟨b, 0, none⟩) (n : Int) es H X (HTr.out.ext HX3.out) (by have := HHi.out; have := Hl.out; omega))
    have Hlook : Hid (∀ x, Below X.heap.size X x → Calls Tryz.prog 41 #[v.v, .agg #[.string ⟨#[]⟩, .string ⟨#[]⟩, .bool true], .int .i64 (H : Nat)] x fun e w' => e = .returned (.tuple #[]) ∧ Below x.heap.size x w') := fun x hx => by
      rw [HC.out.2.2.2]
      exact look_any h (by have := HHi.out; have := Hl.out; have := HC.out.2.2.2; omega) none none v es' s x ((Hv.out.ext HX3.out).ext hx) HC.out.1 HC.out.2.1 HC.out.2.2.1 (by have := Hl.out; have := Hbl.out; omega)
    obtain ⟨pg, ca, cn, cc, ka, kn, kc, pa, pn, pc⟩ := v
    dsimp only [NoV.c, NoV.k, NoV.p, NoV.v] at *
    obtain ⟨K, hK0⟩ : ∃ K, w2.heap.size = K := ⟨_, rfl⟩
    rw [hK0] at hV
    have r0 : ∀ w', Ext X w' → w'.cell? ⟨K, 0, none⟩ = some (.int .i64 (pg : Nat)) := fun w' hx => (NP.ext hV hx).c0
    have r1 : ∀ w', Ext X w' → w'.cell? ⟨K, 1, none⟩ = some (.slice ca cn cc) := fun w' hx => (NP.ext hV hx).c1
    have r2 : ∀ w', Ext X w' → w'.cell? ⟨K, 2, none⟩ = some (.slice ka kn kc) := fun w' hx => (NP.ext hV hx).c2
    have r3 : ∀ w', Ext X w' → w'.cell? ⟨K, 3, none⟩ = some (.slice pa pn pc) := fun w' hx => (NP.ext hV hx).c3
    have t0 : ∀ w', Ext X w' → w'.cell? ⟨w.heap.size, 0, none⟩ = some (.pointer (some ⟨b, 0, none⟩)) := fun w' hx => (hT.ext hx).c0
    have t1 : ∀ w', Ext X w' → w'.cell? ⟨w.heap.size, 1, none⟩ = some (.int .i64 (n : Int)) := fun w' hx => (hT.ext hx).c1
    have hE := HE.out.ext HX3.out
    have HE3 := Lib.hid hE
    have HB3 := Lib.hid (HB.out.trans (HX3.out.mono HB.out.size))
    clear hb2 hW3 hV3 hb3 hX hbx hx3 Hc a0 a1 HTr hE HX3 Hv
    go_wp2_with fail
    refine wp_region_grD 2 [(0, true), (1, true), (2, true), (3, false), (4, false)] (by kernel_rfl) (by kernel_rfl) (by kernel_rfl) (by kernel_rfl) (by kernel_rfl) (fun _ _ _ _ _ ht h => leaves_put rfl ht h) ?_
    rw [HX.out]
    iterate 3 (refine wpGr_read (o := ⟨_, _, _, _, _, _⟩) (v := ?_) rfl (by rfl) ?_ ?_; rotate_left; (intro w' hw'; go_simp; with_reducible rfl); simp only [Act.put, List.setIfInBounds_toArray, List.set_cons_zero, List.set_cons_succ])
    clear r0 r1 r2 r3 t0 t1
    refine wpGr_call (o := ⟨_, _, _, _, _, _⟩) rfl (by rfl) (fun K hK => ?_)
    go_simp
    refine Hhe.out.mono ?_
    rintro e w4 ⟨rfl, hb4⟩
    refine hK _ _ hb4 ?_
    clear hK K Hhe
    have Hlk4 := Lib.hid (Hlook.out w4 hb4)
    have HE4 := Lib.hid (HE3.out.ext hb4)
    have HB4 := Lib.hid (HB3.out.trans (hb4.mono HB3.out.size))
    clear hb4 Hlook HE3 HB3
    refine wpGr_call (o := ⟨_, _, _, _, _, _⟩) rfl (by rfl) (fun K hK => ?_)
    go_simp
    refine Hlk4.out.mono ?_
    rintro e w5 ⟨rfl, hb5⟩
    refine hK _ _ hb5 ?_
    clear hK K Hlk4
    have hE5 := HE4.out.ext hb5
    have HB5 := Lib.hid (HB4.out.trans (hb5.mono HB4.out.size))
    clear hb5 HE4 HB4
    refine wpGr_done ?_
    have f0 := hE5.fz 0
    have c0 := hE5.c0
    have hE6 := Lib.hid hE5.put
    have Hfin := Lib.hid (below_set (b := w.heap.size + 1) (j := 0) (v := .nilIface) HB5.out (Nat.le_succ _))
    clear hE5
    go_wp2_with fail
    refine leaves_cons (f := 40) (args := #[.pointer (some ⟨w.heap.size + 1, 0, none⟩)]) (by simp) (by simp [go_sem]) ?_
    refine (chk_idle ⟨w.heap.size + 1, 0, none⟩ _).mono ?_
    rintro e u' w'' ⟨rfl, rfl, rfl⟩
    have d0 := hE6.out.c0
    clear f0 c0
    simp [Leaves, settle, results, Tryz.results20, go_sem, d0]
    exact Hfin.out
end Go.Proofs.YtbgkjniagedcnaaGreatDoor
