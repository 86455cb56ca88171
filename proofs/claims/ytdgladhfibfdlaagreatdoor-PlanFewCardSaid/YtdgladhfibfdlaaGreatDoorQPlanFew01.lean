/-
  What the law PlanFew stands on.
-/
import Derived.Test.YtdgladhfibfdlaaGreatDoorProg
import Derived.WalkKit
import Derived.Below
import Derived.OwnWalk
import Derived.Laws.AppendOwnNone
import Derived.Laws.ResultCell
import Derived.OrdersHeld
import Derived.Deep.RegionHeld
import Derived.Sort.Walk0
import Derived.Lib.MinMaxS
namespace Go.Proofs.YtdgladhfibfdlaaGreatDoor
open Go Go.RowKit
theorem infoByte : (Tryz.prog.info? 5).map (fun i => (i.zero, i.size, i.bytes)) = some (some (.int .u8 0), 1, 1) := by kernel_rfl
theorem sizeByte : (Tryz.prog.info? 5).map (·.size) = some 1 := by kernel_rfl
end Go.Proofs.YtdgladhfibfdlaaGreatDoor
namespace Go.Proofs.YtdgladhfibfdlaaGreatDoor
open Go Go.RowKit
structure Turn (F : Nat → Prop) (w w' : World) : Prop where
  os : w'.os = w.os
  tape : w'.tape = w.tape
  output : w'.output = w.output
  size : w.heap.size ≤ w'.heap.size
  block : ∀ i, i < w.heap.size → ¬ F i → w'.heap[i]? = w.heap[i]?
theorem Turn.refl (F : Nat → Prop) (w : World) : Turn F w w := ⟨rfl, rfl, rfl, Nat.le_refl _, fun _ _ _ => rfl⟩
theorem Turn.step {F G : Nat → Prop} {a b c : World} (h : Turn F a b) (k : Turn G b c) (hs : ∀ i, G i → i < a.heap.size → F i) : Turn F a c :=
  ⟨k.os.trans h.os, k.tape.trans h.tape, k.output.trans h.output, Nat.le_trans h.size k.size, fun i hi hF =>
    (k.block i (Nat.lt_of_lt_of_le hi h.size) (fun hg => hF (hs i hg hi))).trans (h.block i hi hF)⟩
theorem Turn.trans {F : Nat → Prop} {a b c : World} (h : Turn F a b) (k : Turn F b c) : Turn F a c := h.step k (fun _ hg _ => hg)
theorem Turn.mono {F G : Nat → Prop} {a b : World} (h : Turn F a b) (hs : ∀ i, F i → i < a.heap.size → G i) : Turn G a b :=
  ⟨h.os, h.tape, h.output, h.size, fun i hi hG => h.block i hi (fun hf => hG (hs i hf hi))⟩
theorem Turn.ofBelow {F : Nat → Prop} {a b : World} (h : Below a.heap.size a b) : Turn F a b := ⟨h.os, h.tape, h.output, h.size, fun i hi _ => h.block i hi⟩
theorem Turn.below {F : Nat → Prop} {a b : World} (h : Turn F a b) {B : Nat} (hB : B ≤ a.heap.size) (hF : ∀ i, F i → B ≤ i) : Below B a b :=
  ⟨h.os, h.tape, h.output, h.size, fun i hi => h.block i (Nat.lt_of_lt_of_le hi hB) (fun hf => by have := hF i hf; omega)⟩
theorem Turn.alloc {F : Nat → Prop} {a b : World} (h : Turn F a b) (o : Obj) : Turn F a (b.alloc o) :=
  h.step (G := fun _ => False) (Turn.ofBelow ((Below.refl _ _).alloc (Nat.le_refl _) _)) (fun _ hg _ => hg.elim)
theorem Turn.setCell {F : Nat → Prop} {a b : World} (h : Turn F a b) {p : Addr} (u : Value) (hp : p.block < a.heap.size → F p.block) : Turn F a (b.setCell p u) :=
  h.step (G := fun i => i = p.block) ⟨rfl, rfl, rfl, by simp [World.setCell], fun i _ hne => Below.heap_setCell _ _ _ _ hne⟩ (fun i hi hl => by subst hi; exact hp hl)
theorem Turn.cell {F : Nat → Prop} {a b : World} (h : Turn F a b) {p : Addr} (hp : p.block < a.heap.size) (hF : ¬ F p.block) : b.cell? p = a.cell? p := World.cell?_of_block (w := a) (h.block p.block hp hF)
theorem Turn.hg {F : Nat → Prop} {a b : World} (h : Turn F a b) {k : Nat} {o : Obj} (ho : a.heap[k]? = some o) (hF : ¬ F k) : b.heap[k]? = some o :=
  (h.block k (Array.getElem?_eq_some_iff.1 ho).1 hF).trans ho
theorem Turn.ofGrown {w w' : World} {b : Nat} (hg : w.grownBy w' (some b)) : Turn (fun i => i = b) w w' :=
  ⟨hg.os, hg.tape, hg.output, hg.size, fun i hi hne => hg.block i hi (fun e => hne (Option.some.inj e))⟩
end Go.Proofs.YtdgladhfibfdlaaGreatDoor
namespace Go.Proofs.YtdgladhfibfdlaaGreatDoor
open Go.RowKit
def Near (w : World) (v v' : Value) : Prop := v'.ownBlock = v.ownBlock ∨ ∀ k, v'.ownBlock = some k → w.heap.size ≤ k
section
variable {P : Program} {w : World}
theorem run_append_near (base : Nat) (t ty e : TypeId) (i : TypeInfo) (z : Value) (size bytes : Nat) (ht : P.underlying t = some (.slice e)) (hi : P.info? e = some i) (hz : i.zero = some z)
    (hsize : i.size = size) (hby : i.bytes = bytes) (hzs : z.cells.size = size) (hsz : 0 < size)
    (v : Value) (n : Nat) (xs : List Value) (hown : w.ownsRow base e size v n xs)
    (a : Addr) (m c : Nat) (news : List Value) (hl : news.length = m * size) (hnews : ∀ j u, news[j]? = some u → w.cell? (a.add j) = some u) (h1 : ∀ u ∈ news, u.oneCell' = true)
    (h63 : n + m ≤ maxLen) (hbytes : (n + m) * bytes ≤ 140737488355328) (hbase : base ≤ w.heap.size) :
    ∃ v' w', (Builtin.append_ #[t, t] ty #[v, .slice (some a) m c]).run P w = .ok v' w' ∧ w'.ownsRow base e size v' (n + m) (xs ++ news) ∧ w.grownBy w' v.ownBlock ∧ Near w v v' := by
  obtain ⟨v', w', hr, h2, h3, h4⟩ := run_append_own (w := w) base t ty e i z size bytes ht hi hz hsize hby hzs hsz v n xs hown a m c news hl hnews h1 h63 hbytes hbase
  refine ⟨v', w', hr, h2, h3, ?_⟩
  subst hsize
  subst hby
  have hsmall : n + m ≤ 9223372036854775807 := by simp only [maxLen] at h63; omega
  rcases hown.2 with ⟨rfl, rfl⟩ | ⟨g, cap, cur, rfl, hbg, hg, hnc, hcm, hcs, htake⟩
  · by_cases hm : m = 0
    · left
      rw [h4.2 ⟨rfl, hm⟩]
    · have hr2 := run_append_nil (P := P) w t ty e i z ht hi hz a m c news hl hnews (by omega) (by omega) (by have hb := hbytes; simp only [Nat.zero_add] at hb; omega)
      rw [hr] at hr2
      cases hr2
      right
      intro k hk
      simp only [Value.ownBlock, Option.some.injEq] at hk
      omega
  · by_cases hroom : n + m ≤ cap
    · have hfit : n * i.size + news.length ≤ cur.size := by rw [hl, hcs, ← Nat.add_mul]; exact Nat.mul_le_mul_right _ hroom
      have hr2 := run_append_room (P := P) w t ty e i ht hi g n cap cur hg a m c news hl hnews h1 hroom hfit
      rw [hr] at hr2
      cases hr2
      left
      rfl
    · have holds : ∀ j u, xs[j]? = some u → w.cell? ((⟨g, 0, none⟩ : Addr).add j) = some u := hown.cells (g := g) rfl
      have hr2 := run_append_grow (P := P) w t ty e i z ht hi hz ⟨g, 0, none⟩ n cap xs hown.1 holds a m c news hl hnews (by omega) (by omega) (growslice_fits (by omega) hbytes)
      rw [hr] at hr2
      cases hr2
      right
      intro k hk
      simp only [Value.ownBlock, Option.some.injEq] at hk
      omega
theorem wpList_append_near {ops : Array Oper} {rest : List Oper} {o : Oper} {a : Act} {Q : Exit → Act → World → Prop} (hgd : o.guard = none) (s x : Operand) (t : TypeId)
    (ho : o.op = .call { callee := .builtin .append, args := #[s, x], argTypes := #[t, t] })
    (base : Nat) (e : TypeId) (i : TypeInfo) (z : Value) (size bytes : Nat) (ht : P.underlying t = some (.slice e)) (hi : P.info? e = some i) (hz : i.zero = some z)
    (hsize : i.size = size) (hby : i.bytes = bytes) (hzs : z.cells.size = size) (hsz : 0 < size)
    (v : Value) (n : Nat) (xs : List Value) (hs : a.eval s = v) (hown : w.ownsRow base e size v n xs)
    (ad : Addr) (m c : Nat) (news : List Value) (hx : a.eval x = .slice (some ad) m c) (hl : news.length = m * size) (hnews : ∀ j u, news[j]? = some u → w.cell? (ad.add j) = some u) (h1 : ∀ u ∈ news, u.oneCell' = true)
    (h63 : n + m ≤ maxLen) (hbytes : (n + m) * bytes ≤ 140737488355328) (hbase : base ≤ w.heap.size)
    (h : ∀ v' w', w'.ownsRow base e size v' (n + m) (xs ++ news) → w.grownBy w' v.ownBlock → Near w v v' → wpList P ops Q rest (a.put o.dst v') w') : wpList P ops Q (o :: rest) a w := by
  obtain ⟨v', w', hr, h2, h3, h4⟩ := run_append_near (P := P) (w := w) base t o.type e i z size bytes ht hi hz hsize hby hzs hsz v n xs hown ad m c news hl hnews h1 h63 hbytes hbase
  refine wpList_plain hgd fun K hK => ?_
  unfold Oper.wp
  simp [execOp, ho, resolve, invoke, builtin, hs, hx, hr, Result.andThen]
  exact hK _ _ (h v' w' h2 h3 h4)
end
theorem own_below {w w' : World} {B E sz n B1 : Nat} {v : Value} {xs : List Value} (h : w.ownsRow B E sz v n xs) (hb : Below B1 w w') (hB : w.heap.size ≤ B1) : w'.ownsRow B E sz v n xs := by
  refine ⟨h.1, ?_⟩
  rcases h.2 with h2 | ⟨g, cap, cur, hv, hg, hh, r⟩
  · exact .inl h2
  · refine .inr ⟨g, cap, cur, hv, hg, ?_, r⟩
    have hl : g < w.heap.size := by
      rcases Nat.lt_or_ge g w.heap.size with h1 | h1
      · exact h1
      · rw [Array.getElem?_eq_none h1] at hh; cases hh
    rw [hb.block g (by omega)]; exact hh
end Go.Proofs.YtdgladhfibfdlaaGreatDoor
namespace Go.Proofs.YtdgladhfibfdlaaGreatDoor
open Go Go.RowKit
theorem share {G T : Prop} (k : G) (h : G → T) : T := h k
theorem results_cell_one {fn : Func} {p : Tmp} {ty : TypeId} (h : fn.results = #[.cell p ty]) (tmps : Array Value) (P : Program) (w : World) :
    (results fn tmps).run P w = ((asAddr (tmps.getD p undef)).run P w).andThen fun a w₁ => (loadVar ty a).run P w₁ := by
  simp only [results, h]
  simp [Sem.run_bind]
end Go.Proofs.YtdgladhfibfdlaaGreatDoor
namespace Go.Proofs.YtdgladhfibfdlaaGreatDoor
open Go Go.RowKit
section
variable {P : Program} {ops : Array Oper} {Q : Exit → Act → World → Prop} {md : Region.Mode}
def Ext (w w' : World) : Prop := Below w.heap.size w w'
theorem Ext.refl (w : World) : Ext w w := Below.refl _ _
theorem Ext.trans {a b c : World} (h : Ext a b) (k : Ext b c) : Ext a c := Below.trans h (Below.mono k h.size)
theorem wpAnyH_weaken {S T : World → Prop} (hST : ∀ w, S w → T w) : ∀ (fuel : Nat) (listed : Array Bool) (a : Act) (w : World), wpAnyH P md ops Q S fuel listed a w → wpAnyH P md ops Q T fuel listed a w
  | 0, _, _, _, h => h
  | fuel + 1, _, _, _, h => ⟨h.1, fun i hi => wpOp_mono (fun a' w' h' => ⟨hST _ h'.1, wpAnyH_weaken hST fuel _ a' w' h'.2⟩) (h.2 i hi)⟩
def wpGr (P : Program) (ops : Array Oper) (Q : Exit → Act → World → Prop) : List (Nat × Bool) → Act → World → Prop
  | [], a, w => Q .normal a w
  | (i, true) :: rest, a, w => ∃ o v, ops[i]? = some o ∧ YieldsIf P ops (Ext w) o v a ∧ wpGr P ops Q rest (a.put o.dst v) w
  | (i, false) :: rest, a, w => ∃ o, ops[i]? = some o ∧ (if Region.wanted o (yielded ops a.tmps) = true then Oper.wp P o a w (fun a' w' => Ext w w' ∧ wpGr P ops Q rest a' w') Q else wpGr P ops Q rest (a.put o.dst undef) w)
def schedOk (md : Region.Mode) (ops : Array Oper) : List (Nat × Bool) → Array Bool → Bool
  | [], listed => (Region.ready md ops listed).isEmpty
  | (i, true) :: rest, listed => Region.free md ops listed i && ((Region.ready md ops listed).contains i && schedOk md ops rest (listed.setIfInBounds i true))
  | (i, false) :: rest, listed => (Region.ready md ops listed == [i]) && schedOk md ops rest (listed.setIfInBounds i true)
theorem put_panic (hQ : ∀ t v c a w, Q (.panic c) (Act.put a (some t) v) w → Q (.panic c) a w) : ∀ d v c a w, Q (.panic c) (Act.put a d v) w → Q (.panic c) a w
  | none, _, _, _, _, h => h
  | some t, v, c, a, w, h => hQ t v c a w h
theorem wpAnyH_of_gr (hs : Region.noSelect ops = true) (hQ : ∀ t v c a w, Q (.panic c) (Act.put a (some t) v) w → Q (.panic c) a w) :
    ∀ (sc : List (Nat × Bool)) (fuel : Nat) (listed : Array Bool) (a : Act) (w : World), sc.length ≤ fuel → schedOk md ops sc listed = true → wpGr P ops Q sc a w → wpAnyH P md ops Q (Ext w) fuel listed a w
  | [], fuel, listed, a, w, _, hc, h => wpAnyH_done (by simpa [schedOk] using hc) h fuel
  | (i, true) :: rest, 0, _, _, _, hl, _, _ => by simp at hl
  | (i, false) :: rest, 0, _, _, _, hl, _, _ => by simp at hl
  | (i, true) :: rest, fuel + 1, listed, a, w, hl, hc, h => by
    obtain ⟨o, v, ho, hy, hr⟩ := h
    simp only [schedOk, Bool.and_eq_true] at hc
    exact wpAnyH_take ho hs hc.1 hc.2.1 (fun c a w => put_panic hQ _ _ c a w) hy (Ext.refl w) (wpAnyH_of_gr hs hQ rest fuel _ _ w (by simpa using hl) hc.2.2 hr)
  | (i, false) :: rest, fuel + 1, listed, a, w, hl, hc, h => by
    obtain ⟨o, ho, hr⟩ := h
    simp only [schedOk, Bool.and_eq_true, beq_iff_eq] at hc
    refine wpAnyH_all hc.1 (by simp) (fun j hj => ?_)
    obtain rfl := List.mem_singleton.1 hj
    unfold wpOp
    simp only [ho]
    by_cases hw : Region.wanted o (yielded ops a.tmps) = true
    · rw [if_pos hw] at hr ⊢
      refine .inl (Oper.wp_mono (fun a' w' h' => ⟨h'.1, ?_⟩) hr)
      exact wpAnyH_weaken (fun w'' hx => h'.1.trans hx) _ _ _ _ (wpAnyH_of_gr hs hQ rest fuel _ a' w' (by simpa using hl) hc.2 h'.2)
    · rw [if_neg hw] at hr ⊢
      exact ⟨Ext.refl w, wpAnyH_of_gr hs hQ rest fuel _ _ w (by simpa using hl) hc.2 hr⟩
theorem wp_region_gr (sc : List (Nat × Bool)) {id : Nat} {a : Act} {w : World} (hm : P.follows .mixedOrders = true) (hs : Region.noSelect ops = true) (hlen : decide (sc.length ≤ ops.size) = true)
    (hc : schedOk .any ops sc (Array.replicate ops.size false) = true) (hQ : ∀ t v c a w, Q (.panic c) (Act.put a (some t) v) w → Q (.panic c) a w)
    (h : wpGr P ops Q sc a w.drew) : (Code.region id ops true).wp P Q a w :=
  wp_region_held hm (wpAnyH_of_gr hs hQ sc _ _ a w.drew (of_decide_eq_true hlen) hc h)
theorem wpGr_done {a : Act} {w : World} (h : Q .normal a w) : wpGr P ops Q [] a w := h
theorem wpGr_skip {i : Nat} {rest : List (Nat × Bool)} {o : Oper} {a : Act} {w : World} (ho : ops[i]? = some o) (hw : Region.wanted o (yielded ops a.tmps) = false)
    (h : wpGr P ops Q rest (a.put o.dst undef) w) : wpGr P ops Q ((i, true) :: rest) a w := ⟨o, undef, ho, .inr ⟨hw, rfl⟩, h⟩
theorem wpGr_skipCall {i : Nat} {rest : List (Nat × Bool)} {o : Oper} {a : Act} {w : World} (ho : ops[i]? = some o) (hw : Region.wanted o (yielded ops a.tmps) = false)
    (h : wpGr P ops Q rest (a.put o.dst undef) w) : wpGr P ops Q ((i, false) :: rest) a w := ⟨o, ho, by rw [hw]; exact h⟩
theorem wpGr_read {i : Nat} {rest : List (Nat × Bool)} {o : Oper} {v : Value} {a : Act} {w : World} (ho : ops[i]? = some o) (hw : Region.wanted o (yielded ops a.tmps) = true)
    (hy : ∀ w', Ext w w' → (execOp a.eval o).run P w' = .ok (.value v) w') (h : wpGr P ops Q rest (a.put o.dst v) w) : wpGr P ops Q ((i, true) :: rest) a w := ⟨o, v, ho, .inl ⟨hw, hy⟩, h⟩
theorem wpGr_call {i : Nat} {rest : List (Nat × Bool)} {o : Oper} {a : Act} {w : World} (ho : ops[i]? = some o) (hw : Region.wanted o (yielded ops a.tmps) = true)
    (h : ∀ K : Act → World → Prop, (∀ a' w', Ext w w' → wpGr P ops Q rest a' w' → K a' w') → Oper.wp P o a w K Q) : wpGr P ops Q ((i, false) :: rest) a w :=
  ⟨o, ho, by rw [if_pos hw]; exact h _ fun _ _ h1 h2 => ⟨h1, h2⟩⟩
end
end Go.Proofs.YtdgladhfibfdlaaGreatDoor
namespace Go.Proofs.YtdgladhfibfdlaaGreatDoor
open Go
def blt (a b : ByteArray) : Bool := Op.bytesLess a.toList b.toList
abbrev bl (s : ByteArray) : List UInt8 := s.data.toList
theorem blt_eq (a b : ByteArray) : blt a b = decide (bl a < bl b) := by
  unfold blt; rw [bytesLess_eq, Lib.toList_data, Lib.toList_data]
theorem blt_iff (a b : ByteArray) : blt a b = true ↔ bl a < bl b := by rw [blt_eq]; simp
theorem blt_not (a b : ByteArray) : blt a b = false ↔ ¬ bl a < bl b := by rw [blt_eq]; simp
theorem bl_inj {a b : ByteArray} (h : bl a = bl b) : a = b := by
  obtain ⟨⟨x⟩⟩ := a; obtain ⟨⟨y⟩⟩ := b
  simp at h; rw [h]
theorem ble_eq (a b : ByteArray) : (Op.bytesLess a.toList b.toList || a.toList == b.toList) = !blt b a := by
  rw [blt_eq, bytesLess_eq, Lib.toList_data, Lib.toList_data, Bool.eq_iff_iff]
  simp
  constructor
  · rintro (h | h) <;> grind
  · intro h
    by_cases h2 : a.data.toList < b.data.toList
    · exact .inl h2
    · right
      have : a.data.toList = b.data.toList := by grind
      exact (congrArg ByteArray.data (bl_inj this) : _)
def okK (k : ByteArray) : Bool := decide (1 ≤ k.size ∧ k.size ≤ 40)
end Go.Proofs.YtdgladhfibfdlaaGreatDoor
namespace Go.Proofs.YtdgladhfibfdlaaGreatDoor
open Go Go.RowKit
section
variable {F : Nat → Prop} {P : Program} {ops : Array Oper} {Q : Exit → Act → World → Prop} {md : Region.Mode}
def wpGt (F : Nat → Prop) (P : Program) (ops : Array Oper) (Q : Exit → Act → World → Prop) : List (Nat × Bool) → Act → World → Prop
  | [], a, w => Q .normal a w
  | (i, true) :: rest, a, w => ∃ o v, ops[i]? = some o ∧ YieldsIf P ops (Turn F w) o v a ∧ wpGt F P ops Q rest (a.put o.dst v) w
  | (i, false) :: rest, a, w => ∃ o, ops[i]? = some o ∧ (if Region.wanted o (yielded ops a.tmps) = true then Oper.wp P o a w (fun a' w' => Turn F w w' ∧ wpGt F P ops Q rest a' w') Q else wpGt F P ops Q rest (a.put o.dst undef) w)
theorem wpAnyH_of_gt (hs : Region.noSelect ops = true) (hQ : ∀ t v c a w, Q (.panic c) (Act.put a (some t) v) w → Q (.panic c) a w) :
    ∀ (sc : List (Nat × Bool)) (fuel : Nat) (listed : Array Bool) (a : Act) (w : World), sc.length ≤ fuel → schedOk md ops sc listed = true → wpGt F P ops Q sc a w → wpAnyH P md ops Q (Turn F w) fuel listed a w
  | [], fuel, listed, a, w, _, hc, h => wpAnyH_done (by simpa [schedOk] using hc) h fuel
  | (i, true) :: rest, 0, _, _, _, hl, _, _ => by simp at hl
  | (i, false) :: rest, 0, _, _, _, hl, _, _ => by simp at hl
  | (i, true) :: rest, fuel + 1, listed, a, w, hl, hc, h => by
    obtain ⟨o, v, ho, hy, hr⟩ := h
    simp only [schedOk, Bool.and_eq_true] at hc
    exact wpAnyH_take ho hs hc.1 hc.2.1 (fun c a w => put_panic hQ _ _ c a w) hy (Turn.refl F w) (wpAnyH_of_gt hs hQ rest fuel _ _ w (by simpa using hl) hc.2.2 hr)
  | (i, false) :: rest, fuel + 1, listed, a, w, hl, hc, h => by
    obtain ⟨o, ho, hr⟩ := h
    simp only [schedOk, Bool.and_eq_true, beq_iff_eq] at hc
    refine wpAnyH_all hc.1 (by simp) (fun j hj => ?_)
    obtain rfl := List.mem_singleton.1 hj
    unfold wpOp
    simp only [ho]
    by_cases hw : Region.wanted o (yielded ops a.tmps) = true
    · rw [if_pos hw] at hr ⊢
      refine .inl (Oper.wp_mono (fun a' w' h' => ⟨h'.1, ?_⟩) hr)
      exact wpAnyH_weaken (fun w'' hx => h'.1.trans hx) _ _ _ _ (wpAnyH_of_gt hs hQ rest fuel _ a' w' (by simpa using hl) hc.2 h'.2)
    · rw [if_neg hw] at hr ⊢
      exact ⟨Turn.refl F w, wpAnyH_of_gt hs hQ rest fuel _ _ w (by simpa using hl) hc.2 hr⟩
theorem wp_region_gt (sc : List (Nat × Bool)) {id : Nat} {a : Act} {w : World} (hm : P.follows .mixedOrders = true) (hs : Region.noSelect ops = true) (hlen : decide (sc.length ≤ ops.size) = true)
    (hc : schedOk .any ops sc (Array.replicate ops.size false) = true) (hQ : ∀ t v c a w, Q (.panic c) (Act.put a (some t) v) w → Q (.panic c) a w)
    (h : wpGt F P ops Q sc a w.drew) : (Code.region id ops true).wp P Q a w :=
  wp_region_held hm (wpAnyH_of_gt hs hQ sc _ _ a w.drew (of_decide_eq_true hlen) hc h)
theorem wpGt_done {a : Act} {w : World} (h : Q .normal a w) : wpGt F P ops Q [] a w := h
theorem wpGt_read {i : Nat} {rest : List (Nat × Bool)} {o : Oper} {v : Value} {a : Act} {w : World} (ho : ops[i]? = some o) (hw : Region.wanted o (yielded ops a.tmps) = true)
    (hy : ∀ w', Turn F w w' → (execOp a.eval o).run P w' = .ok (.value v) w') (h : wpGt F P ops Q rest (a.put o.dst v) w) : wpGt F P ops Q ((i, true) :: rest) a w := ⟨o, v, ho, .inl ⟨hw, hy⟩, h⟩
theorem wpGt_call {i : Nat} {rest : List (Nat × Bool)} {o : Oper} {a : Act} {w : World} (ho : ops[i]? = some o) (hw : Region.wanted o (yielded ops a.tmps) = true)
    (h : ∀ K : Act → World → Prop, (∀ a' w', Turn F w w' → wpGt F P ops Q rest a' w' → K a' w') → Oper.wp P o a w K Q) : wpGt F P ops Q ((i, false) :: rest) a w :=
  ⟨o, ho, by rw [if_pos hw]; exact h _ fun _ _ h1 h2 => ⟨h1, h2⟩⟩
end
end Go.Proofs.YtdgladhfibfdlaaGreatDoor
namespace Go.Proofs.YtdgladhfibfdlaaGreatDoor
open Go Go.RowKit
inductive Sch where
  | done
  | rd (i : Nat) (r : Sch)
  | call (i : Nat) (r : Sch)
  | two (i : Nat) (r : Sch) (j : Nat) (s : Sch)
  | three (i : Nat) (r : Sch) (j : Nat) (s : Sch) (k : Nat) (t : Sch)
def Sch.len : Sch → Nat
  | .done => 0
  | .rd _ r => r.len + 1
  | .call _ r => r.len + 1
  | .two _ r _ s => max r.len s.len + 1
  | .three _ r _ s _ t => max r.len (max s.len t.len) + 1
section
variable {F : Nat → Prop} {P : Program} {ops : Array Oper} {Q : Exit → Act → World → Prop} {md : Region.Mode}
def stepS (F : Nat → Prop) (P : Program) (ops : Array Oper) (Q : Exit → Act → World → Prop) (i : Nat) (K : Act → World → Prop) (a : Act) (w : World) : Prop :=
  ∃ o, ops[i]? = some o ∧ (if Region.wanted o (yielded ops a.tmps) = true then Oper.wp P o a w (fun a' w' => Turn F w w' ∧ K a' w') Q else K (a.put o.dst undef) w)
def wpGs (F : Nat → Prop) (P : Program) (ops : Array Oper) (Q : Exit → Act → World → Prop) : Sch → Act → World → Prop
  | .done, a, w => Q .normal a w
  | .rd i r, a, w => ∃ o v, ops[i]? = some o ∧ YieldsIf P ops (Turn F w) o v a ∧ wpGs F P ops Q r (a.put o.dst v) w
  | .call i r, a, w => stepS F P ops Q i (wpGs F P ops Q r) a w
  | .two i r j s, a, w => stepS F P ops Q i (wpGs F P ops Q r) a w ∧ stepS F P ops Q j (wpGs F P ops Q s) a w
  | .three i r j s k t, a, w => stepS F P ops Q i (wpGs F P ops Q r) a w ∧ stepS F P ops Q j (wpGs F P ops Q s) a w ∧ stepS F P ops Q k (wpGs F P ops Q t) a w
def schedOkS (md : Region.Mode) (ops : Array Oper) : Sch → Array Bool → Bool
  | .done, listed => (Region.ready md ops listed).isEmpty
  | .rd i r, listed => Region.free md ops listed i && ((Region.ready md ops listed).contains i && schedOkS md ops r (listed.setIfInBounds i true))
  | .call i r, listed => (Region.ready md ops listed == [i]) && schedOkS md ops r (listed.setIfInBounds i true)
  | .two i r j s, listed => (Region.ready md ops listed == [i, j]) && (schedOkS md ops r (listed.setIfInBounds i true) && schedOkS md ops s (listed.setIfInBounds j true))
  | .three i r j s k t, listed => (Region.ready md ops listed == [i, j, k]) && (schedOkS md ops r (listed.setIfInBounds i true) && (schedOkS md ops s (listed.setIfInBounds j true) && schedOkS md ops t (listed.setIfInBounds k true)))
theorem wpOp_of_step {fuel i : Nat} {listed : Array Bool} {a : Act} {w : World} {K : Act → World → Prop} (h : stepS F P ops Q i K a w)
    (ih : ∀ a' w', K a' w' → wpAnyH P md ops Q (Turn F w') fuel listed a' w') : wpOp P ops Q i (fun a' w' => Turn F w w' ∧ wpAnyH P md ops Q (Turn F w) fuel listed a' w') a w := by
  obtain ⟨o, ho, hr⟩ := h
  unfold wpOp
  simp only [ho]
  by_cases hw : Region.wanted o (yielded ops a.tmps) = true
  · rw [if_pos hw] at hr ⊢
    refine .inl (Oper.wp_mono (fun a' w' h' => ⟨h'.1, ?_⟩) hr)
    exact wpAnyH_weaken (fun w'' hx => h'.1.trans hx) _ _ _ _ (ih a' w' h'.2)
  · rw [if_neg hw] at hr ⊢
    exact ⟨Turn.refl F w, ih _ w hr⟩
theorem wpAnyH_of_gs (hs : Region.noSelect ops = true) (hQ : ∀ t v c a w, Q (.panic c) (Act.put a (some t) v) w → Q (.panic c) a w) :
    ∀ (sc : Sch) (fuel : Nat) (listed : Array Bool) (a : Act) (w : World), sc.len ≤ fuel → schedOkS md ops sc listed = true → wpGs F P ops Q sc a w → wpAnyH P md ops Q (Turn F w) fuel listed a w
  | .done, fuel, listed, a, w, _, hc, h => wpAnyH_done (by simpa [schedOkS] using hc) h fuel
  | .rd i r, 0, _, _, _, hl, _, _ => by simp [Sch.len] at hl
  | .call i r, 0, _, _, _, hl, _, _ => by simp [Sch.len] at hl
  | .two i r j s, 0, _, _, _, hl, _, _ => by simp [Sch.len] at hl
  | .three i r j s k t, 0, _, _, _, hl, _, _ => by simp [Sch.len] at hl
  | .rd i r, fuel + 1, listed, a, w, hl, hc, h => by
    obtain ⟨o, v, ho, hy, hr⟩ := h
    simp only [schedOkS, Bool.and_eq_true] at hc
    exact wpAnyH_take ho hs hc.1 hc.2.1 (fun c a w => put_panic hQ _ _ c a w) hy (Turn.refl F w) (wpAnyH_of_gs hs hQ r fuel _ _ w (by simpa [Sch.len] using hl) hc.2.2 hr)
  | .call i r, fuel + 1, listed, a, w, hl, hc, h => by
    simp only [schedOkS, Bool.and_eq_true, beq_iff_eq] at hc
    refine wpAnyH_all hc.1 (by simp) (fun j hj => ?_)
    obtain rfl := List.mem_singleton.1 hj
    exact wpOp_of_step h (fun a' w' => wpAnyH_of_gs hs hQ r fuel _ a' w' (by simpa [Sch.len] using hl) hc.2)
  | .two i r j s, fuel + 1, listed, a, w, hl, hc, h => by
    simp only [schedOkS, Bool.and_eq_true, beq_iff_eq] at hc
    have hl' : max r.len s.len ≤ fuel := by simpa [Sch.len] using hl
    refine wpAnyH_all hc.1 (by simp) (fun x hx => ?_)
    simp only [List.mem_cons, List.not_mem_nil, or_false] at hx
    rcases hx with rfl | rfl
    · exact wpOp_of_step h.1 (fun a' w' => wpAnyH_of_gs hs hQ r fuel _ a' w' (by omega) hc.2.1)
    · exact wpOp_of_step h.2 (fun a' w' => wpAnyH_of_gs hs hQ s fuel _ a' w' (by omega) hc.2.2)
  | .three i r j s k t, fuel + 1, listed, a, w, hl, hc, h => by
    simp only [schedOkS, Bool.and_eq_true, beq_iff_eq] at hc
    have hl' : max r.len (max s.len t.len) ≤ fuel := by simpa [Sch.len] using hl
    refine wpAnyH_all hc.1 (by simp) (fun x hx => ?_)
    simp only [List.mem_cons, List.not_mem_nil, or_false] at hx
    rcases hx with rfl | rfl | rfl
    · exact wpOp_of_step h.1 (fun a' w' => wpAnyH_of_gs hs hQ r fuel _ a' w' (by omega) hc.2.1)
    · exact wpOp_of_step h.2.1 (fun a' w' => wpAnyH_of_gs hs hQ s fuel _ a' w' (by omega) hc.2.2.1)
    · exact wpOp_of_step h.2.2 (fun a' w' => wpAnyH_of_gs hs hQ t fuel _ a' w' (by omega) hc.2.2.2)
theorem wp_region_gs (sc : Sch) {id : Nat} {a : Act} {w : World} (hm : P.follows .mixedOrders = true) (hs : Region.noSelect ops = true) (hlen : decide (sc.len ≤ ops.size) = true)
    (hc : schedOkS .any ops sc (Array.replicate ops.size false) = true) (hQ : ∀ t v c a w, Q (.panic c) (Act.put a (some t) v) w → Q (.panic c) a w)
    (h : wpGs F P ops Q sc a w.drew) : (Code.region id ops true).wp P Q a w :=
  wp_region_held hm (wpAnyH_of_gs hs hQ sc _ _ a w.drew (of_decide_eq_true hlen) hc h)
theorem wpGs_done {a : Act} {w : World} (h : Q .normal a w) : wpGs F P ops Q .done a w := h
theorem wpGs_read {i : Nat} {rest : Sch} {o : Oper} {v : Value} {a : Act} {w : World} (ho : ops[i]? = some o) (hw : Region.wanted o (yielded ops a.tmps) = true)
    (hy : ∀ w', Turn F w w' → (execOp a.eval o).run P w' = .ok (.value v) w') (h : wpGs F P ops Q rest (a.put o.dst v) w) : wpGs F P ops Q (.rd i rest) a w := ⟨o, v, ho, .inl ⟨hw, hy⟩, h⟩
theorem stepS_call {K : Act → World → Prop} {i : Nat} {o : Oper} {a : Act} {w : World} (ho : ops[i]? = some o) (hw : Region.wanted o (yielded ops a.tmps) = true)
    (h : ∀ K' : Act → World → Prop, (∀ a' w', Turn F w w' → K a' w' → K' a' w') → Oper.wp P o a w K' Q) : stepS F P ops Q i K a w :=
  ⟨o, ho, by rw [if_pos hw]; exact h _ fun _ _ h1 h2 => ⟨h1, h2⟩⟩
end
end Go.Proofs.YtdgladhfibfdlaaGreatDoor
