/-
  What the law PlanFew stands on.
-/
import Derived.Laws.Bits64b
import Derived.Laws.BitsAllLaws
import Derived.RowKit
import Derived.IntWalk
import Derived.Below
import Derived.OwnWalk
import Derived.Laws.CopyOwn
import Derived.Laws.AppendOwnNone
import Derived.Test.YtdgladhfibfdlaaGreatDoorQPlanFew01
import Derived.Laws.BytesArg
import Derived.Test.YtdgladhfibfdlaaGreatDoorProg
import Derived.WalkKit
import Derived.Laws.Rows
import Derived.Laws.Tables
import Derived.Laws.ResultCell
import Derived.Laws.StructEq
import Derived.Lib.Hide
namespace Go.Proofs.YtdgladhfibfdlaaGreatDoor
open Go.RowKit
def numL (l : List Nat) : Nat := l.foldl (fun a x => a * 256 + x) 0
def beL (v : Nat) : Nat → List Nat
  | 0 => []
  | n + 1 => beL (v / 256) n ++ [v % 256]
def leL (v : Nat) : Nat → List Nat
  | 0 => []
  | n + 1 => v % 256 :: leL (v / 256) n
def B8 (l : List Nat) : Prop := ∀ x, x ∈ l → x < 256
def Cs (w : World) (b o : Nat) (l : List Nat) : Prop := ∀ i, i < l.length → w.cell? ⟨b, o + i, none⟩ = some (.int .u8 ((l.getD i 0 : Nat) : Int))
theorem B8.get {l : List Nat} (h : B8 l) (i : Nat) : l.getD i 0 < 256 := by
  by_cases hi : i < l.length
  · have : l.getD i 0 = l[i] := by simp [hi]
    rw [this]; exact h _ (List.getElem_mem hi)
  · have : l.getD i 0 = 0 := by simp [Nat.le_of_not_lt hi]
    omega
theorem B8.nil : B8 [] := by intro x h; cases h
theorem B8.append {l m : List Nat} (h : B8 l) (k : B8 m) : B8 (l ++ m) := by
  intro x hx; rcases List.mem_append.1 hx with h1 | h1
  · exact h x h1
  · exact k x h1
theorem B8.one {x : Nat} (h : x < 256) : B8 [x] := by intro y hy; simp at hy; omega
theorem beL_length (v n : Nat) : (beL v n).length = n := by
  induction n generalizing v with
  | zero => rfl
  | succ n ih => simp [beL, ih]
theorem beL_b8 (v n : Nat) : B8 (beL v n) := by
  induction n generalizing v with
  | zero => exact B8.nil
  | succ n ih => exact (ih _).append (B8.one (Nat.mod_lt _ (by decide)))
theorem leL_reverse (v n : Nat) : (leL v n).reverse = beL v n := by
  induction n generalizing v with
  | zero => rfl
  | succ n ih => simp [leL, beL, ih]
theorem leL_succ (v n : Nat) : leL v (n + 1) = leL v n ++ [v / 256 ^ n % 256] := by
  induction n generalizing v with
  | zero => simp [leL]
  | succ n ih =>
    rw [leL, ih (v / 256), leL, Nat.pow_succ', ← Nat.div_div_eq_div_mul]; rfl
theorem Cs.below {w w' : World} {b o B : Nat} {l : List Nat} (h : Cs w b o l) (hb : Below B w w') (hB : b < B) : Cs w' b o l := fun i hi => by
  rw [hb.cell (p := ⟨b, o + i, none⟩) hB]; exact h i hi
theorem Cs.lt {w : World} {b o : Nat} {l : List Nat} (h : Cs w b o l) (hl : 0 < l.length) : b < w.heap.size := by
  have := h 0 hl
  rcases Nat.lt_or_ge b w.heap.size with h1 | h1
  · exact h1
  · simp [World.cell?, Array.getElem?_eq_none h1] at this
theorem addr_add (b o j : Nat) : (⟨b, o, none⟩ : Addr).add j = ⟨b, o + j, none⟩ := by
  unfold Addr.add
  split
  · rename_i h; subst h; rfl
  · rfl
def bv (l : List Nat) : List Value := l.map fun x : Nat => Value.int .u8 (x : Int)
theorem bv_length (l : List Nat) : (bv l).length = l.length := by simp [bv]
theorem bv_append (l m : List Nat) : bv (l ++ m) = bv l ++ bv m := by simp [bv]
theorem bv_one (l : List Nat) : ∀ u ∈ bv l, u.oneCell' = true := by
  intro u hu; simp only [bv, List.mem_map] at hu; obtain ⟨x, _, rfl⟩ := hu; rfl
theorem bv_get (l : List Nat) (i : Nat) (h : i < l.length) : (bv l)[i]? = some (.int .u8 ((l.getD i 0 : Nat) : Int)) := by simp [bv, h]
theorem bv_set (l : List Nat) (i x : Nat) : (bv l).set i (.int .u8 (x : Int)) = bv (l.set i x) := by simp [bv, List.map_set]
theorem bv_replicate (n : Nat) : List.replicate n (Value.int .u8 0) = bv (List.replicate n 0) := by simp [bv]
def Src (w : World) (a : Option Addr) (l : List Nat) : Prop := 0 < l.length → ∃ b o, a = some ⟨b, o, none⟩ ∧ Cs w b o l
theorem Src.cells {w : World} {a : Option Addr} {l : List Nat} (h : Src w a l) : 0 < l.length → ∃ ad, a = some ad ∧ ∀ j v, (bv l)[j]? = some v → w.cell? (ad.add j) = some v := by
  intro h0
  obtain ⟨b, o, rfl, hc⟩ := h h0
  refine ⟨_, rfl, fun j v hj => ?_⟩
  have hlt : j < l.length := by
    rcases Nat.lt_or_ge j l.length with h1 | h1
    · exact h1
    · rw [List.getElem?_eq_none (by rw [bv_length]; exact h1)] at hj; cases hj
  rw [bv_get l j hlt] at hj
  cases hj
  rw [addr_add]; exact hc j hlt
theorem Src.below {w w' : World} {a : Option Addr} {B : Nat} {l : List Nat} (h : Src w a l) (hb : Below B w w') (hB : w.heap.size ≤ B) : Src w' a l := by
  intro h0
  obtain ⟨b, o, rfl, hc⟩ := h h0
  exact ⟨b, o, rfl, hc.below hb (Nat.lt_of_lt_of_le (hc.lt h0) hB)⟩
theorem Src.nil (w : World) (a : Option Addr) : Src w a [] := fun h => by cases h
theorem beL_cons (v k : Nat) : beL v (k + 1) = (v / 256 ^ k % 256) :: beL v k := by
  rw [← leL_reverse, leL_succ, List.reverse_append, leL_reverse]; rfl
def putRow (l : List Nat) (v s k : Nat) : List Nat := l ++ (List.replicate (s - k) 0 ++ beL v k)
theorem putRow_length (l : List Nat) (v s k : Nat) (h : k ≤ s) : (putRow l v s k).length = l.length + s := by
  simp [putRow, beL_length]; omega
theorem putRow_set (l : List Nat) (v s k j : Nat) (h : k < s) (hj : j + k + 1 = l.length + s) : (putRow l v s k).set j (v / 256 ^ k % 256) = putRow l v s (k + 1) := by
  unfold putRow
  rw [beL_cons]
  have e : s - k = (s - (k + 1)) + 1 := by omega
  rw [e, List.replicate_succ', List.append_assoc, List.set_append_right _ _ (by omega), List.set_append_right _ _ (by simp; omega)]
  have e2 : j - l.length - (List.replicate (s - (k + 1)) 0).length = 0 := by simp; omega
  rw [e2]; rfl
def Row (w : World) (g E : Nat) (l : List Nat) : Prop := w.heap[g]? = some (.cells (bv l).toArray E (0, 0))
theorem row_of_own {w : World} {B E g n : Nat} {xs : List Value} (h : w.ownsRow B E 1 (.slice (some ⟨g, 0, none⟩) n n) n xs) : w.heap[g]? = some (.cells xs.toArray E (0, 0)) := by
  rcases h.2 with ⟨h', _⟩ | ⟨g', cap, cur, h', hb, hg, hnc, hcm, hcs, htake⟩
  · simp at h'
  · simp only [Value.slice.injEq, Option.some.injEq, Addr.mk.injEq, and_true, true_and] at h'
    obtain ⟨rfl, rfl⟩ := h'
    have e : cur.toList.take (n * 1) = cur.toList := List.take_of_length_le (by simp; omega)
    rw [e] at htake
    rw [hg, ← htake]
theorem own_of_row {w : World} {B E g : Nat} {l : List Nat} (h : Row w g E l) (hB : B ≤ g) (hm : l.length ≤ maxLen) : w.ownsRow B E 1 (.slice (some ⟨g, 0, none⟩) l.length l.length) l.length (bv l) :=
  ⟨by simp [bv_length], .inr ⟨g, l.length, (bv l).toArray, rfl, hB, h, Nat.le_refl _, hm, by simp [bv_length], by simp [bv_length, List.take_of_length_le]⟩⟩
theorem Row.cell {w : World} {g E : Nat} {l : List Nat} (h : Row w g E l) (i : Nat) (hi : i < l.length) : w.cell? ⟨g, i, none⟩ = some (.int .u8 ((l.getD i 0 : Nat) : Int)) := by
  have h' : w.heap[g]? = some (.cells (bv l).toArray E (0, 0)) := h
  have := bv_get l i hi
  simp only [World.cell?, h']
  simpa using this
theorem Row.frozen {w : World} {g E : Nat} {l : List Nat} (h : Row w g E l) (i : Nat) : w.frozen? ⟨g, i, none⟩ = false := by
  have h' : w.heap[g]? = some (.cells (bv l).toArray E (0, 0)) := h
  simp [World.frozen?, h']
theorem Row.lt {w : World} {g E : Nat} {l : List Nat} (h : Row w g E l) : g < w.heap.size := by
  have h' : w.heap[g]? = some (.cells (bv l).toArray E (0, 0)) := h
  rcases Nat.lt_or_ge g w.heap.size with h1 | h1
  · exact h1
  · rw [Array.getElem?_eq_none h1] at h'; cases h'
theorem Row.set {w : World} {g E : Nat} {l : List Nat} (h : Row w g E l) (i x : Nat) : Row (w.setCell ⟨g, i, none⟩ (.int .u8 (x : Int))) g E (l.set i x) := by
  have h' : w.heap[g]? = some (.cells (bv l).toArray E (0, 0)) := h
  have := heap_setCell_same w g i (bv l).toArray E (.int .u8 (x : Int)) h'
  unfold Row
  rw [this, ← bv_set]
  simp
theorem Row.below {w w' : World} {g E B : Nat} {l : List Nat} (h : Row w g E l) (hb : Below B w w') (hg : g < B) : Row w' g E l := (hb.block g hg).trans h
theorem bv_splice (L : List Nat) (off : Nat) (cs : List Nat) : splice (bv L) off (bv cs) = bv (splice L off cs) := by
  simp [splice, bv, List.map_append, List.map_take, List.map_drop]
theorem splice_start {α : Type} (Z X : List α) : splice Z 0 X = X ++ Z.drop X.length := by simp [splice]
theorem made_bytes (n : Nat) : (madeCells (Value.int .u8 0).cells (n * 1)).toList = bv (List.replicate n 0) := by
  rw [← bv_replicate]; show (madeCells #[Value.int .u8 0] (n * 1)).toList = _
  rw [toList_madeCells_one, Nat.mul_one]
section
variable {P : Program} {w : World} {ops : Array Oper} {rest : List Oper} {o : Oper} {a : Act} {Q : Exit → Act → World → Prop}
theorem wpList_make_bytes (hg : o.guard = none) (l c : Operand) (t : TypeId) (hop : o.op = Op.makeSlice t l c)
    (e : TypeId) (h1 : P.underlying t = some (.slice e)) (h2 : (P.info? e).map (fun i => (i.zero, i.size, i.bytes)) = some (some (.int .u8 0), 1, 1))
    (kl kc : IntKind) (L C : Int) (n : Nat) (hl : a.eval l = .int kl L) (hc : a.eval c = .int kc C) (hL : L = (n : Int)) (hC : C = (n : Int)) (b : n ≤ 140737488355328)
    (hK : ∀ w', Hid (Row w' w.heap.size e (List.replicate n 0)) → Below w.heap.size w w' → wpList P ops Q rest (a.put o.dst (.slice (some ⟨w.heap.size, 0, none⟩) n n)) w') :
    wpList P ops Q (o :: rest) a w := by
  obtain ⟨i0, hi, hz0, hz1, hz2⟩ := info_parts h2
  refine wpList_make_full w hg l c t hop w.heap.size e i0 (.int .u8 0) 1 h1 hi hz0 hz1 kl kc L C n hl hc hL hC (by rw [hz2]; omega) (by unfold maxLen; omega) (Nat.le_refl _) ?_
  intro w1 hown hgrow
  refine hK w1 ?_ ((Below.refl w.heap.size w).grown hgrow (Nat.le_refl _) (by intro k hk; cases hk))
  show w1.heap[w.heap.size]? = _
  rw [← made_bytes]; exact row_of_own hown
theorem wpList_copy_bytes (hgd : o.guard = none) (d s : Operand) (dT sT : TypeId)
    (ho : o.op = .call { callee := .builtin .copy, args := #[d, s], argTypes := #[dT, sT] }) (e : TypeId) (hu : P.underlying dT = some (.slice e)) (hsz : (P.info? e).map (·.size) = some 1)
    (g off dLen dCap : Nat) (sp : Option Addr) (sCap : Nat) (cur l : List Nat) (hd : a.eval d = .slice (some ⟨g, off, none⟩) dLen dCap) (hs : a.eval s = .slice sp l.length sCap)
    (hrow : Hid (Row w g e cur)) (hsrc : Src w sp l) (hfit : off + l.length ≤ cur.length) (hlen : l.length ≤ dLen) (B : Nat) (w0 : World) (hb : Below B w0 w) (hBg : B ≤ g)
    (h : ∀ w', Hid (Row w' g e (splice cur off l)) → Below B w0 w' → wpList P ops Q rest (a.put o.dst (goInt l.length)) w') :
    wpList P ops Q (o :: rest) a w := by
  refine wpList_copy_splice hgd d s dT sT ho e hu hsz _ sp dLen dCap l.length sCap hd hs g off (bv cur) e hrow.out (bv l) (by rw [bv_length]; exact (Nat.min_eq_left hlen).symm) ?_ (by simpa [bv_length] using hfit) (bv_one l) B w0 hb hBg ?_
  · intro h0
    exact ⟨rfl, hsrc.cells (by rw [bv_length] at h0; exact h0)⟩
  · intro w' hr hb'
    rw [bv_length]
    refine h w' ?_ hb'
    have := hr.out
    rw [bv_splice] at this
    exact this
theorem wpList_append_bytes (hgd : o.guard = none) (s x : Operand) (t : TypeId)
    (ho : o.op = .call { callee := .builtin .append, args := #[s, x], argTypes := #[t, t] })
    (base : Nat) (e : TypeId) (ht : P.underlying t = some (.slice e)) (h2 : (P.info? e).map (fun i => (i.zero, i.size, i.bytes)) = some (some (.int .u8 0), 1, 1))
    (v : Value) (l : List Nat) (hs : a.eval s = v) (hown : Hid (w.ownsRow base e 1 v l.length (bv l)))
    (sp : Option Addr) (c : Nat) (m : List Nat) (hx : a.eval x = .slice sp m.length c) (hz : sp = none → c = 0) (hsrc : Src w sp m)
    (hlen : l.length + m.length ≤ 140737488355328) (hbase : base ≤ w.heap.size)
    (h : ∀ v' w', Hid (w'.ownsRow base e 1 v' (l ++ m).length (bv (l ++ m))) → Hid (w.grownBy w' v.ownBlock) → Hid (Near w v v') → wpList P ops Q rest (a.put o.dst v') w') :
    wpList P ops Q (o :: rest) a w := by
  obtain ⟨i0, hi, hz0, hz1, hz2⟩ := info_parts h2
  cases sp with
  | none =>
    have hm : m = [] := by
      cases m with
      | nil => rfl
      | cons y r => obtain ⟨_, _, h0, _⟩ := hsrc (by simp); cases h0
    subst hm
    obtain rfl := hz rfl
    refine wpList_append_own_none hgd s x t ho base e i0 1 ht hi v l.length (bv l) hs hown.out hx ?_
    exact h v w (by rw [List.append_nil]; exact hown) (World.grownBy.refl _ _) (.inl rfl)
  | some ad =>
    refine wpList_append_near hgd s x t ho base e i0 (.int .u8 0) 1 1 ht hi hz0 hz1 hz2 rfl (by decide) v l.length (bv l) hs hown.out ad m.length c (bv m) hx (by simp [bv_length]) ?_ (bv_one m) (by unfold maxLen; omega) (by omega) hbase ?_
    · intro j u hj
      rcases Nat.eq_zero_or_pos m.length with h0 | h0
      · rw [List.getElem?_eq_none (by rw [bv_length]; omega)] at hj; cases hj
      · obtain ⟨ad', hd, hc⟩ := hsrc.cells h0
        cases hd
        exact hc j u hj
    · intro v' w' hown' hg hn
      refine h v' w' ?_ hg hn
      show w'.ownsRow _ _ _ _ _ _
      rw [bv_append, List.length_append]; exact hown'
end
theorem run_make_bytes {P : Program} (w : World) (t e : TypeId) (h1 : P.underlying t = some (.slice e)) (h2 : (P.info? e).map (fun i => (i.zero, i.size, i.bytes)) = some (some (.int .u8 0), 1, 1)) (kl kc : IntKind) (n : Nat) (b : n ≤ 140737488355328) :
    ∃ w', (Instr.makeSlice t (.int kl n) (.int kc n)).run P w = .ok (.slice (some ⟨w.heap.size, 0, none⟩) n n) w' ∧ Row w' w.heap.size e (List.replicate n 0) ∧ Below w.heap.size w w' := by
  obtain ⟨i0, hi, hz0, hz1, hz2⟩ := info_parts h2
  obtain ⟨w', hrun, hown, hgrow⟩ := run_make_full (P := P) w w.heap.size t e i0 (.int .u8 0) 1 h1 hi hz0 hz1 kl kc n (by rw [hz2]; omega) (by unfold maxLen; omega) (Nat.le_refl _)
  refine ⟨w', hrun, ?_, (Below.refl w.heap.size w).grown hgrow (Nat.le_refl _) (by intro k hk; cases hk)⟩
  show w'.heap[w.heap.size]? = _
  rw [← made_bytes]; exact row_of_own hown
def bstr (l : List Nat) : ByteArray := strOfNums (l.map fun x : Nat => (x : Int))
theorem row_drew (w : World) (g E : Nat) (l : List Nat) : Row w.drew g E l = Row w g E l := rfl
theorem bstr_size (l : List Nat) : (bstr l).size = l.length := by unfold bstr; rw [strOfNums_size]; simp
end Go.Proofs.YtdgladhfibfdlaaGreatDoor
namespace Go.Proofs.YtdgladhfibfdlaaGreatDoor
open Go.RowKit
def pol : BitVec 32 := 2197175160#32
def st (x : BitVec 32) : BitVec 32 := (x >>> 1) ^^^ (if x.getLsbD 0 then pol else 0#32)
def st4 (x : BitVec 32) : BitVec 32 := st (st (st (st x)))
def byt (x : BitVec 32) (c : Nat) : BitVec 32 := st4 (st4 (x ^^^ BitVec.ofNat 32 c))
def run (x : BitVec 32) (l : List Nat) : BitVec 32 := l.foldl byt x
def more (s : BitVec 32) (l : List Nat) : BitVec 32 := ~~~ (run (~~~ s) l)
theorem st_xor (x y : BitVec 32) : st (x ^^^ y) = st x ^^^ st y := by
  unfold st
  rw [BitVec.ushiftRight_xor_distrib, BitVec.getLsbD_xor]
  cases x.getLsbD 0 <;> cases y.getLsbD 0 <;> simp
  · ac_rfl
  · ac_rfl
  · rw [show x >>> 1 ^^^ pol ^^^ (y >>> 1 ^^^ pol) = x >>> 1 ^^^ y >>> 1 ^^^ (pol ^^^ pol) by ac_rfl, BitVec.xor_self, BitVec.xor_zero]
theorem st_inj0 (x : BitVec 32) (h : st x = 0#32) : x = 0#32 := by
  unfold st at h
  have e0 : x.getLsbD 0 = decide (x.toNat % 2 = 1) := by simp [BitVec.getLsbD, Nat.testBit_zero]
  rw [e0] at h
  by_cases h1 : x.toNat % 2 = 1
  · simp only [h1, decide_true, if_true] at h
    have h2 := congrArg (· ^^^ pol) h
    simp only [BitVec.xor_assoc, BitVec.xor_self, BitVec.xor_zero, BitVec.zero_xor] at h2
    have h3 := congrArg BitVec.toNat h2
    rw [BitVec.toNat_ushiftRight, Nat.shiftRight_eq_div_pow] at h3
    have h4 : pol.toNat = 2197175160 := rfl
    have := x.isLt
    omega
  · simp only [h1, decide_false] at h
    have h3 := congrArg BitVec.toNat h
    simp [Nat.shiftRight_eq_div_pow] at h3
    apply BitVec.eq_of_toNat_eq
    show x.toNat = 0
    omega
theorem xor_eq_zero {x y : BitVec 32} (h : x ^^^ y = 0#32) : x = y := by
  have := congrArg (· ^^^ y) h
  simpa [BitVec.xor_assoc] using this
theorem st_inj {x y : BitVec 32} (h : st x = st y) : x = y := by
  apply xor_eq_zero
  apply st_inj0
  rw [st_xor, h, BitVec.xor_self]
theorem st4_inj {x y : BitVec 32} (h : st4 x = st4 y) : x = y := st_inj (st_inj (st_inj (st_inj h)))
theorem st4_xor (x y : BitVec 32) : st4 (x ^^^ y) = st4 x ^^^ st4 y := by unfold st4; simp only [st_xor]
theorem byt_inj {x y : BitVec 32} {c d : Nat} (h : byt x c = byt y d) : x ^^^ BitVec.ofNat 32 c = y ^^^ BitVec.ofNat 32 d := st4_inj (st4_inj h)
theorem byt_left {x y : BitVec 32} {c : Nat} (h : byt x c = byt y c) : x = y := by
  have := congrArg (· ^^^ BitVec.ofNat 32 c) (byt_inj h)
  simpa [BitVec.xor_assoc] using this
theorem run_inj (l : List Nat) {x y : BitVec 32} (h : run x l = run y l) : x = y := by
  induction l generalizing x y with
  | nil => exact h
  | cons c r ih => exact byt_left (ih (x := byt x c) (y := byt y c) h)
theorem run_append (x : BitVec 32) (l m : List Nat) : run x (l ++ m) = run (run x l) m := by simp [run]
theorem not_inj {x y : BitVec 32} (h : ~~~ x = ~~~ y) : x = y := by
  have := congrArg (~~~ ·) h
  simpa using this
theorem more_set (s : BitVec 32) (l : List Nat) (i c : Nat) (hi : i < l.length) (hb : B8 l) (hc : c < 256) (hne : c ≠ l.getD i 0) : more s (l.set i c) ≠ more s l := by
  intro h
  have h1 := not_inj h
  have e1 : l.set i c = l.take i ++ c :: l.drop (i + 1) := List.set_eq_take_append_cons_drop .. |>.trans (by rw [if_pos hi])
  have e2 : l = l.take i ++ l.getD i 0 :: l.drop (i + 1) := by
    have : l.getD i 0 = l[i] := by simp [hi]
    rw [this, List.getElem_cons_drop, List.take_append_drop]
  rw [e1] at h1
  rw [show run (~~~ s) l = run (~~~ s) (l.take i ++ l.getD i 0 :: l.drop (i + 1)) by rw [← e2]] at h1
  rw [run_append, run_append] at h1
  have h2 : run (byt (run (~~~ s) (l.take i)) c) (l.drop (i + 1)) = run (byt (run (~~~ s) (l.take i)) (l.getD i 0)) (l.drop (i + 1)) := h1
  have h3 := byt_inj (run_inj _ h2)
  have h4 := congrArg (run (~~~ s) (l.take i) ^^^ ·) h3
  simp only [← BitVec.xor_assoc, BitVec.xor_self, BitVec.zero_xor] at h4
  have h5 := congrArg BitVec.toNat h4
  have := hb.get i
  rw [BitVec.toNat_ofNat, BitVec.toNat_ofNat, Nat.mod_eq_of_lt (by omega), Nat.mod_eq_of_lt (by omega)] at h5
  exact hne h5
theorem take_snoc (l : List Nat) (n : Nat) (h : n < l.length) : l.take (n + 1) = l.take n ++ [l.getD n 0] := by
  rw [List.take_succ_eq_append_getElem h]; simp [h]
theorem run_snoc (x : BitVec 32) (l : List Nat) (c : Nat) : run x (l ++ [c]) = byt (run x l) c := by rw [run_append]; rfl
theorem xor_u32_nat (a b : Nat) (ha : a < 4294967296) (hb : b < 4294967296) : bits .xor .u32 (a : Int) (b : Int) = ((a ^^^ b : Nat) : Int) := by
  have hx : a ^^^ b < 2 ^ 32 := Nat.xor_lt_two_pow (by omega) (by omega)
  have h1 : (BitVec.ofInt 32 (a : Int)).toNat = a := by
    rw [BitVec.ofInt_natCast, BitVec.toNat_ofNat]; exact Nat.mod_eq_of_lt (by omega)
  have h2 : (BitVec.ofInt 32 (b : Int)).toNat = b := by
    rw [BitVec.ofInt_natCast, BitVec.toNat_ofNat]; exact Nat.mod_eq_of_lt (by omega)
  have hw : ∀ n : Int, IntKind.u32.wrap n = n % 4294967296 := fun n => by simp [IntKind.wrap, IntKind.bits, IntKind.signed]
  show IntKind.u32.wrap ((BitVec.ofInt 32 (a : Int) ^^^ BitVec.ofInt 32 (b : Int)).toNat : Int) = _
  rw [BitVec.toNat_xor, h1, h2, hw]
  omega
theorem and15_nat (a : Nat) (ha : a < 4294967296) : bits .and .u32 (a : Int) 15 = ((a % 16 : Nat) : Int) := by
  have h1 : (BitVec.ofInt 32 (a : Int)).toNat = a := by
    rw [BitVec.ofInt_natCast, BitVec.toNat_ofNat]; exact Nat.mod_eq_of_lt (by omega)
  have h2 : (BitVec.ofInt 32 (15 : Int)).toNat = 2 ^ 4 - 1 := rfl
  have hw : ∀ n : Int, IntKind.u32.wrap n = n % 4294967296 := fun n => by simp [IntKind.wrap, IntKind.bits, IntKind.signed]
  show IntKind.u32.wrap ((BitVec.ofInt 32 (a : Int) &&& BitVec.ofInt 32 15).toNat : Int) = _
  rw [BitVec.toNat_and, h1, h2, Nat.and_two_pow_sub_one_eq_mod, hw]
  omega
theorem xor_bv (x y : BitVec 32) : bits .xor .u32 ((x.toNat : Nat) : Int) ((y.toNat : Nat) : Int) = (((x ^^^ y).toNat : Nat) : Int) := by
  rw [xor_u32_nat _ _ x.isLt y.isLt, BitVec.toNat_xor]
theorem st_nat (x : BitVec 32) : (st x).toNat = if x.toNat % 2 = 1 then (x.toNat / 2) ^^^ 2197175160 else x.toNat / 2 := by
  unfold st
  have e0 : x.getLsbD 0 = decide (x.toNat % 2 = 1) := by simp [BitVec.getLsbD, Nat.testBit_zero]
  rw [e0, BitVec.toNat_xor, BitVec.toNat_ushiftRight, Nat.shiftRight_eq_div_pow]
  by_cases h : x.toNat % 2 = 1
  · simp only [h, decide_true, if_true]; rfl
  · simp [h]
theorem not_bv (x : BitVec 32) : bits .xor .u32 IntKind.u32.max ((x.toNat : Nat) : Int) = (((~~~ x).toNat : Nat) : Int) := by
  have e : IntKind.u32.max = (((BitVec.allOnes 32).toNat : Nat) : Int) := by decide
  rw [e, xor_bv, BitVec.allOnes_xor]
def worths : List Nat := (List.range 16).map fun k => (st4 (BitVec.ofNat 32 k)).toNat
theorem worths_get (k : Nat) (h : k < 16) : worths.getD k 0 = (st4 (BitVec.ofNat 32 k)).toNat := by simp [worths, h]
theorem st_even (x : BitVec 32) (h : x.toNat % 2 = 0) : (st x).toNat = x.toNat / 2 := by rw [st_nat, if_neg (by omega)]
theorem st4_high (x : BitVec 32) (h : x.toNat % 16 = 0) : (st4 x).toNat = x.toNat / 16 := by
  unfold st4
  have h1 := st_even x (by omega)
  have h2 := st_even (st x) (by omega)
  have h3 := st_even (st (st x)) (by omega)
  have h4 := st_even (st (st (st x))) (by omega)
  omega
theorem nibble_xor (p q : Nat) (h : q < 16) : q ^^^ p * 16 = p * 16 + q := by
  have h1 := Nat.two_pow_add_eq_or_of_lt (i := 4) (b := q) (by omega) p
  have e2 : 2 ^ 4 * p ^^^ q = 2 ^ 4 * p ||| q := by
    apply Nat.eq_of_testBit_eq
    intro i
    rw [Nat.testBit_xor, Nat.testBit_or, Nat.testBit_two_pow_mul]
    by_cases hi : 4 ≤ i
    · have h2 : (2 : Nat) ^ 4 ≤ 2 ^ i := Nat.pow_le_pow_right (by decide) hi
      have : q.testBit i = false := Nat.testBit_lt_two_pow (by omega)
      simp [this]
    · simp [hi]
  rw [Nat.xor_comm, Nat.mul_comm p 16, show 16 * p = 2 ^ 4 * p by omega, e2, ← h1]
theorem st4_split (x : BitVec 32) : st4 x = st4 (BitVec.ofNat 32 (x.toNat % 16)) ^^^ BitVec.ofNat 32 (x.toNat / 16) := by
  have hx : x = BitVec.ofNat 32 (x.toNat % 16) ^^^ BitVec.ofNat 32 (x.toNat / 16 * 16) := by
    apply BitVec.eq_of_toNat_eq
    have := x.isLt
    rw [BitVec.toNat_xor, BitVec.toNat_ofNat, BitVec.toNat_ofNat, Nat.mod_eq_of_lt (a := x.toNat % 16) (by omega), Nat.mod_eq_of_lt (a := x.toNat / 16 * 16) (by omega), nibble_xor _ _ (by omega)]
    omega
  have hh : st4 (BitVec.ofNat 32 (x.toNat / 16 * 16)) = BitVec.ofNat 32 (x.toNat / 16) := by
    apply BitVec.eq_of_toNat_eq
    have hx := x.isLt
    have e : (BitVec.ofNat 32 (x.toNat / 16 * 16)).toNat = x.toNat / 16 * 16 := by rw [BitVec.toNat_ofNat, Nat.mod_eq_of_lt (by omega)]
    rw [st4_high _ (by omega), e, BitVec.toNat_ofNat, Nat.mod_eq_of_lt (by omega)]
    omega
  conv => lhs; rw [hx]
  rw [st4_xor, hh]
theorem worth_step (x : BitVec 32) : bits .xor .u32 ((worths.getD (x.toNat % 16) 0 : Nat) : Int) ((x.toNat / 16 : Nat) : Int) = ((st4 x).toNat : Int) := by
  have hx := x.isLt
  rw [worths_get _ (by omega), xor_u32_nat _ _ (st4 _).isLt (by omega), st4_split x, BitVec.toNat_xor]
  rw [BitVec.toNat_ofNat (x := x.toNat / 16), Nat.mod_eq_of_lt (a := x.toNat / 16) (by omega)]
theorem xor_byte (x : BitVec 32) (c : Nat) (hc : c < 256) : bits .xor .u32 ((x.toNat : Nat) : Int) (c : Int) = (((x ^^^ BitVec.ofNat 32 c).toNat : Nat) : Int) := by
  have hx := x.isLt
  rw [xor_u32_nat _ _ x.isLt (by omega), BitVec.toNat_xor, BitVec.toNat_ofNat, Nat.mod_eq_of_lt (a := c) (by omega)]
theorem numL_four (t : List Nat) (h : t.length = 4) : numL t = ((t.getD 0 0 * 256 + t.getD 1 0) * 256 + t.getD 2 0) * 256 + t.getD 3 0 := by
  obtain ⟨a, b, c, d, rfl⟩ : ∃ a b c d, t = [a, b, c, d] := by
    match t, h with
    | [a, b, c, d], _ => exact ⟨a, b, c, d, rfl⟩
  simp [numL]
theorem getD_set (l : List Nat) (i j x : Nat) (hi : i < l.length) : (l.set i x).getD j 0 = if i = j then x else l.getD j 0 := by
  simp only [List.getD, List.getElem?_set]
  split
  · rename_i h; subst h; rfl
  · rfl
theorem numL_set_ne (t : List Nat) (h4 : t.length = 4) (hb : B8 t) (j y : Nat) (hj : j < 4) (hne : y ≠ t.getD j 0) : numL (t.set j y) ≠ numL t := by
  rw [numL_four _ (by rw [List.length_set]; exact h4), numL_four t h4]
  simp only [getD_set t j _ y (by omega)]
  have b0 := hb.get 0
  have b1 := hb.get 1
  have b2 := hb.get 2
  have b3 := hb.get 3
  have hj4 : j = 0 ∨ j = 1 ∨ j = 2 ∨ j = 3 := by omega
  rcases hj4 with rfl | rfl | rfl | rfl
  · rw [if_pos rfl, if_neg (by decide), if_neg (by decide), if_neg (by decide)]; omega
  · rw [if_neg (by decide), if_pos rfl, if_neg (by decide), if_neg (by decide)]; omega
  · rw [if_neg (by decide), if_neg (by decide), if_pos rfl, if_neg (by decide)]; omega
  · rw [if_neg (by decide), if_neg (by decide), if_neg (by decide), if_pos rfl]; omega
theorem turned (m t : List Nat) (i y : Nat) (h4 : t.length = 4) (hb : B8 (m ++ t)) (hy : y < 256) (hi : i < m.length + 4) (hne : y ≠ (m ++ t).getD i 0) (hs : numL t = (more 0#32 m).toNat) :
    ∃ m' t', (m ++ t).set i y = m' ++ t' ∧ m'.length = m.length ∧ t'.length = 4 ∧ decide (numL t' = (more 0#32 m').toNat) = false := by
  have hbm : B8 m := fun x hx => hb x (List.mem_append_left _ hx)
  have hbt : B8 t := fun x hx => hb x (List.mem_append_right _ hx)
  by_cases him : i < m.length
  · rw [show (m ++ t).getD i 0 = m.getD i 0 by simp [List.getD, List.getElem?_append_left him]] at hne
    refine ⟨m.set i y, t, List.set_append_left _ _ him, List.length_set, h4, ?_⟩
    rw [decide_eq_false_iff_not, hs]
    intro h
    exact more_set 0#32 m i y him hbm hy hne (BitVec.eq_of_toNat_eq h.symm)
  · obtain ⟨j, rfl⟩ : ∃ j, i = m.length + j := ⟨i - m.length, by omega⟩
    rw [show (m ++ t).getD (m.length + j) 0 = t.getD j 0 by simp [List.getD, List.getElem?_append_right]] at hne
    refine ⟨m, t.set j y, ?_, rfl, by rw [List.length_set]; exact h4, ?_⟩
    · rw [List.set_append_right _ _ (by omega), Nat.add_sub_cancel_left]
    · rw [decide_eq_false_iff_not, ← hs]
      exact numL_set_ne t h4 hbt j y (by omega) hne
end Go.Proofs.YtdgladhfibfdlaaGreatDoor
namespace Go.Proofs.YtdgladhfibfdlaaGreatDoor
open Go.RowKit
def bodyL (k : Nat) (l : List Nat) : List Nat := [k, 0, l.length / 256, l.length % 256] ++ l ++ List.replicate (504 - l.length) 0
def sum4 (m : List Nat) : List Nat := beL (more 0#32 m).toNat 4
def pageL (k : Nat) (l : List Nat) : List Nat := bodyL k l ++ sum4 (bodyL k l)
theorem bodyL_length {k : Nat} {l : List Nat} (h : l.length ≤ 504) : (bodyL k l).length = 508 := by
  simp only [bodyL, List.length_append, List.length_cons, List.length_nil, List.length_replicate]; omega
theorem sum4_length (m : List Nat) : (sum4 m).length = 4 := beL_length _ _
theorem pageL_length {k : Nat} {l : List Nat} (h : l.length ≤ 504) : (pageL k l).length = 512 := by
  rw [pageL, List.length_append, bodyL_length h, sum4_length]
theorem B8.zeros (n : Nat) : B8 (List.replicate n 0) := fun x hx => by
  have := (List.mem_replicate.1 hx).2; omega
theorem bodyL_b8 {k : Nat} {l : List Nat} (hk : k < 256) (h : l.length ≤ 504) (hb : B8 l) : B8 (bodyL k l) := by
  refine B8.append (B8.append ?_ hb) (B8.zeros _)
  intro x hx
  simp only [List.mem_cons, List.not_mem_nil, or_false] at hx
  omega
theorem sum4_b8 (m : List Nat) : B8 (sum4 m) := beL_b8 _ _
theorem pageL_b8 {k : Nat} {l : List Nat} (hk : k < 256) (h : l.length ≤ 504) (hb : B8 l) : B8 (pageL k l) := (bodyL_b8 hk h hb).append (sum4_b8 _)
theorem bodyL_cons (k : Nat) (l : List Nat) : bodyL k l = k :: 0 :: l.length / 256 :: l.length % 256 :: (l ++ List.replicate (504 - l.length) 0) := by
  simp [bodyL]
end Go.Proofs.YtdgladhfibfdlaaGreatDoor
namespace Go.Proofs.YtdgladhfibfdlaaGreatDoor
open Go Go.RowKit
theorem conv_src {P : Program} (src e dst : TypeId) (hs : P.underlying src = some (.slice e)) (he : P.underlying e = some (.int .u8)) (hd : P.underlying dst = some .string) (a : Option Addr) (n c : Nat) (l : List Nat) (hn : l.length = n) (w : World) (h : Src w a l) :
    (convert src dst (.slice a n c)).run P w = .ok (.string (bstr l)) w := by
  subst hn
  cases a with
  | none =>
    obtain rfl : l = [] := by
      cases l with
      | nil => rfl
      | cons x r => obtain ⟨_, _, h0, _⟩ := h (by simp); cases h0
    exact run_convert_bytes_nil w src e hs he 0 c dst hd
  | some x =>
    rcases Nat.eq_zero_or_pos l.length with h0 | h0
    · obtain rfl := List.eq_nil_of_length_eq_zero h0
      have hl : (loadCells x 0).run P w = .ok (([] : List Int).map (Value.int .u8)).toArray w := by
        have := run_loadCells_list (P := P) w x [] (fun j v hj => by simp at hj)
        simpa using this
      rw [show ([] : List Nat).length = 0 from rfl, run_convert_bytes_string w src dst e _ 0 c hs he hd, run_bytesToString w _ 0 c [] hl]
      rfl
    · obtain ⟨b, o, hx, hc⟩ := h h0
      cases hx
      refine run_convert_bytes_arg w src e hs he b o l.length c _ (by simp) (fun i hi => ?_) dst hd
      rw [hc i hi]
      simp [hi]
theorem row_src {w : World} {g E : Nat} {L : List Nat} (h : Row w g E L) : Src w (some ⟨g, 0, none⟩) L := fun _ => ⟨g, 0, rfl, fun i hi => by rw [Nat.zero_add]; exact h.cell i hi⟩
theorem own_nil (w : World) (B E : TypeId) : w.ownsRow B E 1 (.slice none 0 0) 0 (bv []) := World.ownsRow_nil w B E 1
theorem getD_take (l : List Nat) (k i : Nat) (h : i < k) : (l.take k).getD i 0 = l.getD i 0 := by simp [List.getD, h]
theorem Cs.start {w : World} {b o : Nat} {l : List Nat} (h : Cs w b o l) (n : Nat) : Cs w b o (l.take n) := fun i hi => by
  rw [List.length_take] at hi
  rw [getD_take _ _ _ (by omega)]; exact h i (by omega)
theorem Cs.src {w : World} {b o : Nat} {l : List Nat} (h : Cs w b o l) : Src w (some ⟨b, o, none⟩) l := fun _ => ⟨b, o, rfl, h⟩
theorem Row.cs {w : World} {g E : Nat} {l : List Nat} (h : Row w g E l) : Cs w g 0 l := fun i hi => by rw [Nat.zero_add]; exact h.cell i hi
theorem src_new (w : World) (E : TypeId) (fr : Nat × Nat) (l : List Nat) : Cs (w.alloc (.cells (bv l).toArray E fr)) w.heap.size 0 l := fun i hi => by
  have := bv_get l i hi
  rw [Nat.zero_add, World.cell?_alloc_mark]
  simpa using this
end Go.Proofs.YtdgladhfibfdlaaGreatDoor
namespace Go.Proofs.YtdgladhfibfdlaaGreatDoor
open Go Go.RowKit
def Blk (w : World) (b : Nat) (t : TypeId) (cs : Array Value) : Prop := w.heap[b]? = some (.cells cs t (0, 0))
theorem Blk.lt {w : World} {b : Nat} {t : TypeId} {cs : Array Value} (h : Blk w b t cs) : b < w.heap.size := (Array.getElem?_eq_some_iff.1 h).1
theorem Blk.below {w w' : World} {b B : Nat} {t : TypeId} {cs : Array Value} (h : Blk w b t cs) (hb : Below B w w') (hg : b < B) : Blk w' b t cs := (hb.block b hg).trans h
theorem Blk.ext {w w' : World} {b : Nat} {t : TypeId} {cs : Array Value} (h : Blk w b t cs) (hb : Ext w w') : Blk w' b t cs := h.below hb h.lt
theorem Blk.turn {F : Nat → Prop} {w w' : World} {b : Nat} {t : TypeId} {cs : Array Value} (h : Blk w b t cs) (ht : Turn F w w') (hF : ¬ F b) : Blk w' b t cs := ht.hg h hF
theorem Blk.cell {w : World} {b : Nat} {t : TypeId} {cs : Array Value} (h : Blk w b t cs) (i : Nat) : w.cell? ⟨b, i, none⟩ = cs[i]? := cell_of_row w b i cs t (0, 0) h
theorem Blk.fz {w : World} {b : Nat} {t : TypeId} {cs : Array Value} (h : Blk w b t cs) (i : Nat) : w.frozen? ⟨b, i, none⟩ = false := frozen_of_row w b i cs t h
theorem Blk.set {w : World} {b : Nat} {t : TypeId} {cs : Array Value} (h : Blk w b t cs) (i : Nat) (v : Value) : Blk (w.setCell ⟨b, i, none⟩ v) b t (cs.setIfInBounds i v) := heap_setCell_same w b i cs t v h
def ArrZ (t : TypeId) (cs : Array Value) : Prop := ∀ w : World, (Instr.alloc t true (.tuple #[])).run Tryz.prog w = .ok (.pointer (some ⟨w.heap.size, 0, none⟩)) (w.alloc (.cells cs t))
def At (w : World) (g o : Nat) (cs : Array Value) : Prop := ∀ (j : Nat) (u : Value), cs[j]? = some u → w.cell? ⟨g, o + j, none⟩ = some u
section
variable {ops : Array Oper} {rest : List Oper} {o : Oper} {a : Act} {w : World} {K : Act → World → Prop} {Q : Exit → Act → World → Prop}
theorem wp_box_arr (t : TypeId) (x : Operand) (ho : o.op = .box t x) (cs : Array Value) (hx : a.eval x = .agg cs)
    (h : ∀ g w', w.heap.size ≤ g → Blk w' g t cs → Below w.heap.size w w' → K (a.put o.dst (.pointer (some ⟨g, 0, none⟩))) w') : o.wp Tryz.prog a w K Q := by
  have hk := h w.heap.size (w.alloc (.cells cs t)) (Nat.le_refl _) (heap_alloc_new _ _) ((Below.refl _ _).alloc (Nat.le_refl _) _)
  have hr : (Instr.box t (.agg cs)).run Tryz.prog w = .ok (.pointer (some ⟨w.heap.size, 0, none⟩)) (w.alloc (.cells cs t)) := rfl
  unfold Oper.wp execOp
  simp only [ho, hx, Sem.run_bind, Sem.run_pure, Result.andThen_ok, hr]
  exact hk
theorem wpList_box_arr (hgd : o.guard = none) (t : TypeId) (x : Operand) (ho : o.op = .box t x) (cs : Array Value) (hx : a.eval x = .agg cs)
    (h : ∀ g w', w.heap.size ≤ g → Blk w' g t cs → Below w.heap.size w w' → wpList Tryz.prog ops Q rest (a.put o.dst (.pointer (some ⟨g, 0, none⟩))) w') : wpList Tryz.prog ops Q (o :: rest) a w :=
  wpList_plain hgd fun _ hK => wp_box_arr t x ho cs hx fun g w' h1 h2 h3 => hK _ _ (h g w' h1 h2 h3)
theorem wp_alloc_arr (t : TypeId) (ho : o.op = .alloc t) {cs : Array Value} (hz : ArrZ t cs)
    (h : ∀ g w', w.heap.size ≤ g → Blk w' g t cs → Below w.heap.size w w' → K (a.put o.dst (.pointer (some ⟨g, 0, none⟩))) w') : o.wp Tryz.prog a w K Q := by
  have hk := h w.heap.size (w.alloc (.cells cs t)) (Nat.le_refl _) (heap_alloc_new _ _) ((Below.refl _ _).alloc (Nat.le_refl _) _)
  unfold Oper.wp execOp
  simp only [ho, Sem.run_bind, Sem.run_pure, Result.andThen_ok, hz w]
  exact hk
theorem wpList_alloc_arr (hgd : o.guard = none) (t : TypeId) (ho : o.op = .alloc t) {cs : Array Value} (hz : ArrZ t cs)
    (h : ∀ g w', w.heap.size ≤ g → Blk w' g t cs → Below w.heap.size w w' → wpList Tryz.prog ops Q rest (a.put o.dst (.pointer (some ⟨g, 0, none⟩))) w') : wpList Tryz.prog ops Q (o :: rest) a w :=
  wpList_plain hgd fun _ hK => wp_alloc_arr t ho hz fun g w' h1 h2 h3 => hK _ _ (h g w' h1 h2 h3)
end
end Go.Proofs.YtdgladhfibfdlaaGreatDoor
