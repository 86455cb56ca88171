/-
  Laws of memory that all layers use: an append's row lies where it lay, or in a new block. No program.
  Bytes as lists of numbers: the number of bytes, the bytes of a number. No program.
  An argument that is a slice of bytes, opened: its address, its bytes.
  Arguments opened: an array of two numbers.
-/
import Derived.OwnWalk
import Derived.Laws.AppendOwnNone
import Derived.Below
import Derived.Laws.Bits64b
import Derived.Laws.BitsAllLaws
import Derived.RowKit
import Derived.IntWalk
import Derived.Laws.CopyOwn
import Derived.Laws.BytesArg
import Derived.Test.YtbgkjniagedcnaaGreatDoorLaidOut
import Derived.Test.YtbgkjniagedcnaaGreatDoorProg
import Derived.WalkKit
import Derived.ProofKit
import Derived.OpenShut
import Derived.Deep.Slices
import Derived.Deep.Grids
namespace Go.Proofs.YtbgkjniagedcnaaGreatDoor
open Go.RowKit

/-- A value's row lies in block g, or in one that is new since the world w. -/
def Near (w : World) (v v' : Value) : Prop := v'.ownBlock = v.ownBlock ∨ ∀ k, v'.ownBlock = some k → w.heap.size ≤ k
section
variable {P : Program} {w : World}
theorem run_append_near (base : Nat) (t ty e : TypeId) (i : TypeInfo) (z : Value) (size bytes : Nat) (ht : P.underlying t = some (.slice e)) (hi : P.info? e = some i) (hz : i.zero = some z)
    (hsize : i.size = size) (hby : i.bytes = bytes) (hzs : z.cells.size = size) (hsz : 0 < size)
    (v : Value) (n : Nat) (xs : List Value) (hown : w.ownsRow base e size v n xs)
    (a : Addr) (m c : Nat) (news : List Value) (hl : news.length = m * size) (hnews : ∀ j u, news[j]? = some u → w.cell? (a.add j) = some u) (h1 : ∀ u ∈ news, u.oneCell' = true)
    (h63 : n + m ≤ maxLen) (hbytes : (n + m) * bytes ≤ 140737488355328) (hbase : base ≤ w.heap.size) :
    ∃ v' w', (Builtin.append_ #[t, t] ty #[v, .slice (some a) m c]).run P w = .ok v' w' ∧ w'.ownsRow base e size v' (n + m) (xs ++ news) ∧ w.grownBy w' v.ownBlock ∧ Near w v v' := by
  obtain ⟨v', w', hr, h2, h3, h4⟩ := run_append_own (w := w) base t ty e i z size bytes ht hi hz hsize hby hzs hsz v n xs hown a m c news hl hnews h1 h63 hbytes hbase
  refine ⟨v', w', hr, h2, h3, ?_⟩
  subst hsize
  subst hby
  have hsmall : n + m ≤ 9223372036854775807 := by simp only [maxLen] at h63; omega
  rcases hown.2 with ⟨rfl, rfl⟩ | ⟨g, cap, cur, rfl, hbg, hg, hnc, hcm, hcs, htake⟩
  · by_cases hm : m = 0
    · left
      rw [h4.2 ⟨rfl, hm⟩]
    · have hr2 := run_append_nil (P := P) w t ty e i z ht hi hz a m c news hl hnews (by omega) (by omega) (by have hb := hbytes; simp only [Nat.zero_add] at hb; omega)
      rw [hr] at hr2
      cases hr2
      right
      intro k hk
      simp only [Value.ownBlock, Option.some.injEq] at hk
      omega
  · by_cases hroom : n + m ≤ cap
    · have hfit : n * i.size + news.length ≤ cur.size := by rw [hl, hcs, ← Nat.add_mul]; exact Nat.mul_le_mul_right _ hroom
      have hr2 := run_append_room (P := P) w t ty e i ht hi g n cap cur hg a m c news hl hnews h1 hroom hfit
      rw [hr] at hr2
      cases hr2
      left
      rfl
    · have holds : ∀ j u, xs[j]? = some u → w.cell? ((⟨g, 0, none⟩ : Addr).add j) = some u := hown.cells (g := g) rfl
      have hr2 := run_append_grow (P := P) w t ty e i z ht hi hz ⟨g, 0, none⟩ n cap xs hown.1 holds a m c news hl hnews (by omega) (by omega) (growslice_fits (by omega) hbytes)
      rw [hr] at hr2
      cases hr2
      right
      intro k hk
      simp only [Value.ownBlock, Option.some.injEq] at hk
      omega
theorem wpList_append_near {ops : Array Oper} {rest : List Oper} {o : Oper} {a : Act} {Q : Exit → Act → World → Prop} (hgd : o.guard = none) (s x : Operand) (t : TypeId)
    (ho : o.op = .call { callee := .builtin .append, args := #[s, x], argTypes := #[t, t] })
    (base : Nat) (e : TypeId) (i : TypeInfo) (z : Value) (size bytes : Nat) (ht : P.underlying t = some (.slice e)) (hi : P.info? e = some i) (hz : i.zero = some z)
    (hsize : i.size = size) (hby : i.bytes = bytes) (hzs : z.cells.size = size) (hsz : 0 < size)
    (v : Value) (n : Nat) (xs : List Value) (hs : a.eval s = v) (hown : w.ownsRow base e size v n xs)
    (ad : Addr) (m c : Nat) (news : List Value) (hx : a.eval x = .slice (some ad) m c) (hl : news.length = m * size) (hnews : ∀ j u, news[j]? = some u → w.cell? (ad.add j) = some u) (h1 : ∀ u ∈ news, u.oneCell' = true)
    (h63 : n + m ≤ maxLen) (hbytes : (n + m) * bytes ≤ 140737488355328) (hbase : base ≤ w.heap.size)
    (h : ∀ v' w', w'.ownsRow base e size v' (n + m) (xs ++ news) → w.grownBy w' v.ownBlock → Near w v v' → wpList P ops Q rest (a.put o.dst v') w') : wpList P ops Q (o :: rest) a w := by
  obtain ⟨v', w', hr, h2, h3, h4⟩ := run_append_near (P := P) (w := w) base t o.type e i z size bytes ht hi hz hsize hby hzs hsz v n xs hown ad m c news hl hnews h1 h63 hbytes hbase
  refine wpList_plain hgd fun K hK => ?_
  unfold Oper.wp
  simp [execOp, ho, resolve, invoke, builtin, hs, hx, hr, Result.andThen]
  exact hK _ _ (h v' w' h2 h3 h4)
end
theorem Near.trans {w w1 : World} {a b c : Value} (h : Near w a b) (k : Near w1 b c) (hs : w.heap.size ≤ w1.heap.size) : Near w a c := by
  rcases k with k | k
  · unfold Near; rw [k]; exact h
  · right; intro j hj; exact Nat.le_trans hs (k j hj)
/-- A row below stays while all below is as it was. -/
theorem own_below {w w' : World} {B E sz n B1 : Nat} {v : Value} {xs : List Value} (h : w.ownsRow B E sz v n xs) (hb : Below B1 w w') (hB : w.heap.size ≤ B1) : w'.ownsRow B E sz v n xs := by
  refine ⟨h.1, ?_⟩
  rcases h.2 with h2 | ⟨g, cap, cur, hv, hg, hh, r⟩
  · exact .inl h2
  · refine .inr ⟨g, cap, cur, hv, hg, ?_, r⟩
    have hl : g < w.heap.size := by
      rcases Nat.lt_or_ge g w.heap.size with h1 | h1
      · exact h1
      · rw [Array.getElem?_eq_none h1] at hh; cases hh
    rw [hb.block g (by omega)]; exact hh
end Go.Proofs.YtbgkjniagedcnaaGreatDoor
namespace Go.Proofs.YtbgkjniagedcnaaGreatDoor
open Go.RowKit

/-- The number of bytes, the highest first. -/
def numL (l : List Nat) : Nat := l.foldl (fun a x => a * 256 + x) 0
/-- The lowest n bytes of a number, the highest first. -/
def beL (v : Nat) : Nat → List Nat
  | 0 => []
  | n + 1 => beL (v / 256) n ++ [v % 256]
/-- The lowest n bytes of a number, the lowest first. -/
def leL (v : Nat) : Nat → List Nat
  | 0 => []
  | n + 1 => v % 256 :: leL (v / 256) n
/-- All are bytes. -/
def B8 (l : List Nat) : Prop := ∀ x, x ∈ l → x < 256
/-- The cells of a block, from one place on, are these bytes. -/
def Cs (w : World) (b o : Nat) (l : List Nat) : Prop := ∀ i, i < l.length → w.cell? ⟨b, o + i, none⟩ = some (.int .u8 ((l.getD i 0 : Nat) : Int))

theorem B8.get {l : List Nat} (h : B8 l) (i : Nat) : l.getD i 0 < 256 := by
  by_cases hi : i < l.length
  · have : l.getD i 0 = l[i] := by simp [hi]
    rw [this]; exact h _ (List.getElem_mem hi)
  · have : l.getD i 0 = 0 := by simp [Nat.le_of_not_lt hi]
    omega
theorem B8.nil : B8 [] := by intro x h; cases h
theorem B8.append {l m : List Nat} (h : B8 l) (k : B8 m) : B8 (l ++ m) := by
  intro x hx; rcases List.mem_append.1 hx with h1 | h1
  · exact h x h1
  · exact k x h1
theorem B8.one {x : Nat} (h : x < 256) : B8 [x] := by intro y hy; simp at hy; omega
theorem B8.take {l : List Nat} (h : B8 l) (k : Nat) : B8 (l.take k) := fun x hx => h x (List.mem_of_mem_take hx)
theorem B8.drop {l : List Nat} (h : B8 l) (k : Nat) : B8 (l.drop k) := fun x hx => h x (List.mem_of_mem_drop hx)
theorem beL_length (v n : Nat) : (beL v n).length = n := by
  induction n generalizing v with
  | zero => rfl
  | succ n ih => simp [beL, ih]
theorem beL_b8 (v n : Nat) : B8 (beL v n) := by
  induction n generalizing v with
  | zero => exact B8.nil
  | succ n ih => exact (ih _).append (B8.one (Nat.mod_lt _ (by decide)))
theorem leL_length (v n : Nat) : (leL v n).length = n := by
  induction n generalizing v with
  | zero => rfl
  | succ n ih => simp [leL, ih]
theorem leL_reverse (v n : Nat) : (leL v n).reverse = beL v n := by
  induction n generalizing v with
  | zero => rfl
  | succ n ih => simp [leL, beL, ih]
theorem leL_succ (v n : Nat) : leL v (n + 1) = leL v n ++ [v / 256 ^ n % 256] := by
  induction n generalizing v with
  | zero => simp [leL]
  | succ n ih =>
    rw [leL, ih (v / 256), leL, Nat.pow_succ', ← Nat.div_div_eq_div_mul]; rfl
theorem numL_nil : numL [] = 0 := rfl
theorem numL_snoc (l : List Nat) (x : Nat) : numL (l ++ [x]) = numL l * 256 + x := by simp [numL]
theorem numL_take_succ (l : List Nat) (k : Nat) (h : k < l.length) : numL (l.take (k + 1)) = numL (l.take k) * 256 + l.getD k 0 := by
  have : l.take (k + 1) = l.take k ++ [l.getD k 0] := by
    rw [List.take_succ_eq_append_getElem h]; simp [h]
  rw [this, numL_snoc]
theorem numL_lt {l : List Nat} (h : B8 l) : numL l < 256 ^ l.length := by
  suffices ∀ (l : List Nat), B8 l.reverse → numL l.reverse < 256 ^ l.length by
    have := this l.reverse (by simpa using h); simpa using this
  intro l
  induction l with
  | nil => intro _; simp [numL]
  | cons x r ih =>
    intro h
    rw [List.reverse_cons] at h ⊢
    rw [numL_snoc, List.length_cons, Nat.pow_succ]
    have h1 := ih (fun y hy => h y (List.mem_append_left _ hy))
    have h2 : x < 256 := h x (by simp)
    omega
theorem numL_beL (v n : Nat) : numL (beL v n) = v % 256 ^ n := by
  induction n generalizing v with
  | zero => simp [beL, numL, Nat.mod_one]
  | succ n ih =>
    rw [beL, numL_snoc, ih, Nat.pow_succ', Nat.mod_mul]
    omega
theorem pow256_le {k : Nat} (h : k ≤ 7) : (256 : Nat) ^ k ≤ 72057594037927936 := by
  have := Nat.pow_le_pow_right (n := 256) (by decide) h; omega
/-- v<<8 | c -/
theorem or_byte (v c : Nat) (hv : v < 72057594037927936) (hc : c < 256) : bits .or .u64 ((v : Int) * 256) (c : Int) = ((v * 256 + c : Nat) : Int) := by
  have e : ((v : Int) * 256) = ((v * 256 : Nat) : Int) := by omega
  rw [e, bits_or_u64_nat _ _ (by omega) (by omega), nat_join 8 _ _ (by omega) (by omega)]

theorem Cs.below {w w' : World} {b o B : Nat} {l : List Nat} (h : Cs w b o l) (hb : Below B w w') (hB : b < B) : Cs w' b o l := fun i hi => by
  rw [hb.cell (p := ⟨b, o + i, none⟩) hB]; exact h i hi
theorem Cs.lt {w : World} {b o : Nat} {l : List Nat} (h : Cs w b o l) (hl : 0 < l.length) : b < w.heap.size := by
  have := h 0 hl
  rcases Nat.lt_or_ge b w.heap.size with h1 | h1
  · exact h1
  · simp [World.cell?, Array.getElem?_eq_none h1] at this

theorem addr_add (b o j : Nat) : (⟨b, o, none⟩ : Addr).add j = ⟨b, o + j, none⟩ := by
  unfold Addr.add
  split
  · rename_i h; subst h; rfl
  · rfl
/-- Bytes as values. -/
def bv (l : List Nat) : List Value := l.map fun x : Nat => Value.int .u8 (x : Int)
theorem bv_length (l : List Nat) : (bv l).length = l.length := by simp [bv]
theorem bv_append (l m : List Nat) : bv (l ++ m) = bv l ++ bv m := by simp [bv]
theorem bv_one (l : List Nat) : ∀ u ∈ bv l, u.oneCell' = true := by
  intro u hu; simp only [bv, List.mem_map] at hu; obtain ⟨x, _, rfl⟩ := hu; rfl
theorem bv_get (l : List Nat) (i : Nat) (h : i < l.length) : (bv l)[i]? = some (.int .u8 ((l.getD i 0 : Nat) : Int)) := by simp [bv, h]
theorem bv_set (l : List Nat) (i x : Nat) : (bv l).set i (.int .u8 (x : Int)) = bv (l.set i x) := by simp [bv, List.map_set]
theorem bv_replicate (n : Nat) : List.replicate n (Value.int .u8 0) = bv (List.replicate n 0) := by simp [bv]
/-- A slice value that reads as these bytes: where there is one, it has an address, and its cells are there. -/
def Src (w : World) (a : Option Addr) (l : List Nat) : Prop := 0 < l.length → ∃ b o, a = some ⟨b, o, none⟩ ∧ Cs w b o l
theorem Src.cells {w : World} {a : Option Addr} {l : List Nat} (h : Src w a l) : 0 < l.length → ∃ ad, a = some ad ∧ ∀ j v, (bv l)[j]? = some v → w.cell? (ad.add j) = some v := by
  intro h0
  obtain ⟨b, o, rfl, hc⟩ := h h0
  refine ⟨_, rfl, fun j v hj => ?_⟩
  have hlt : j < l.length := by
    rcases Nat.lt_or_ge j l.length with h1 | h1
    · exact h1
    · rw [List.getElem?_eq_none (by rw [bv_length]; exact h1)] at hj; cases hj
  rw [bv_get l j hlt] at hj
  cases hj
  rw [addr_add]; exact hc j hlt
theorem Src.below {w w' : World} {a : Option Addr} {B : Nat} {l : List Nat} (h : Src w a l) (hb : Below B w w') (hB : w.heap.size ≤ B) : Src w' a l := by
  intro h0
  obtain ⟨b, o, rfl, hc⟩ := h h0
  exact ⟨b, o, rfl, hc.below hb (Nat.lt_of_lt_of_le (hc.lt h0) hB)⟩
theorem Src.nil (w : World) (a : Option Addr) : Src w a [] := fun h => by cases h
theorem beL_cons (v k : Nat) : beL v (k + 1) = (v / 256 ^ k % 256) :: beL v k := by
  rw [← leL_reverse, leL_succ, List.reverse_append, leL_reverse]; rfl
/-- What stands in Put's row behind k rounds. -/
def putRow (l : List Nat) (v s k : Nat) : List Nat := l ++ (List.replicate (s - k) 0 ++ beL v k)
theorem putRow_length (l : List Nat) (v s k : Nat) (h : k ≤ s) : (putRow l v s k).length = l.length + s := by
  simp [putRow, beL_length]; omega
theorem putRow_set (l : List Nat) (v s k j : Nat) (h : k < s) (hj : j + k + 1 = l.length + s) : (putRow l v s k).set j (v / 256 ^ k % 256) = putRow l v s (k + 1) := by
  unfold putRow
  rw [beL_cons]
  have e : s - k = (s - (k + 1)) + 1 := by omega
  rw [e, List.replicate_succ', List.append_assoc, List.set_append_right _ _ (by omega), List.set_append_right _ _ (by simp; omega)]
  have e2 : j - l.length - (List.replicate (s - (k + 1)) 0).length = 0 := by simp; omega
  rw [e2]; rfl
theorem own_src {w : World} {B E : Nat} {v : Value} {l : List Nat} (h : w.ownsRow B E 1 v l.length (bv l)) :
    ∃ a c, v = .slice a l.length c ∧ Src w a l := by
  have h' := h
  obtain ⟨_, h2⟩ := h
  rcases h2 with ⟨rfl, h0⟩ | ⟨g, cap, cur, rfl, _⟩
  · have : l = [] := List.eq_nil_of_length_eq_zero h0
    subst this
    exact ⟨none, 0, rfl, Src.nil _ _⟩
  · refine ⟨_, _, rfl, fun _ => ⟨g, 0, rfl, fun i hi => ?_⟩⟩
    have := h'.cellAt i (by omega)
    rw [bv_get l i hi] at this
    simpa using this

theorem own_slice {w : World} {B E : Nat} {v : Value} {l : List Nat} (h : w.ownsRow B E 1 v l.length (bv l)) :
    ∃ a c, v = .slice a l.length c ∧ Src w a l ∧ l.length ≤ c ∧ c ≤ maxLen ∧ (a = none → c = 0) := by
  obtain ⟨a, c, rfl, hs⟩ := own_src h
  refine ⟨a, c, rfl, hs, ?_⟩
  rcases h.2 with ⟨h1, h0⟩ | ⟨g, cap, cur, h1, hb, hg, hnc, hcm, _⟩
  · simp only [Value.slice.injEq] at h1
    obtain ⟨rfl, _, rfl⟩ := h1
    exact ⟨by omega, by unfold maxLen; omega, fun _ => rfl⟩
  · simp only [Value.slice.injEq] at h1
    obtain ⟨rfl, _, rfl⟩ := h1
    exact ⟨hnc, hcm, fun h => by cases h⟩

theorem own_form {w : World} {B E n : Nat} {v : Value} {xs : List Value} (h : w.ownsRow B E 1 v n xs) (h0 : 0 < n) :
    ∃ g c, v = .slice (some ⟨g, 0, none⟩) n c ∧ n ≤ c ∧ c ≤ maxLen ∧ B ≤ g ∧ g < w.heap.size := by
  have h' := h
  rcases h.2 with ⟨_, h2⟩ | ⟨g, cap, cur, rfl, hb, hg, hnc, hcm, _⟩
  · omega
  · exact ⟨g, cap, rfl, hnc, hcm, h'.lt g rfl⟩

/-! ### A row of the call's own, whole -/
/-- Block g is a row of these bytes, nothing of it frozen. -/
def Row (w : World) (g E : Nat) (l : List Nat) : Prop := w.heap[g]? = some (.cells (bv l).toArray E (0, 0))
theorem row_of_own {w : World} {B E g n : Nat} {xs : List Value} (h : w.ownsRow B E 1 (.slice (some ⟨g, 0, none⟩) n n) n xs) : w.heap[g]? = some (.cells xs.toArray E (0, 0)) := by
  rcases h.2 with ⟨h', _⟩ | ⟨g', cap, cur, h', hb, hg, hnc, hcm, hcs, htake⟩
  · simp at h'
  · simp only [Value.slice.injEq, Option.some.injEq, Addr.mk.injEq, and_true, true_and] at h'
    obtain ⟨rfl, rfl⟩ := h'
    have e : cur.toList.take (n * 1) = cur.toList := List.take_of_length_le (by simp; omega)
    rw [e] at htake
    rw [hg, ← htake]
theorem own_of_row {w : World} {B E g : Nat} {l : List Nat} (h : Row w g E l) (hB : B ≤ g) (hm : l.length ≤ maxLen) : w.ownsRow B E 1 (.slice (some ⟨g, 0, none⟩) l.length l.length) l.length (bv l) :=
  ⟨by simp [bv_length], .inr ⟨g, l.length, (bv l).toArray, rfl, hB, h, Nat.le_refl _, hm, by simp [bv_length], by simp [bv_length, List.take_of_length_le]⟩⟩
theorem Row.cell {w : World} {g E : Nat} {l : List Nat} (h : Row w g E l) (i : Nat) (hi : i < l.length) : w.cell? ⟨g, i, none⟩ = some (.int .u8 ((l.getD i 0 : Nat) : Int)) := by
  have h' : w.heap[g]? = some (.cells (bv l).toArray E (0, 0)) := h
  have := bv_get l i hi
  simp only [World.cell?, h']
  simpa using this
theorem Row.frozen {w : World} {g E : Nat} {l : List Nat} (h : Row w g E l) (i : Nat) : w.frozen? ⟨g, i, none⟩ = false := by
  have h' : w.heap[g]? = some (.cells (bv l).toArray E (0, 0)) := h
  simp [World.frozen?, h']
theorem Row.lt {w : World} {g E : Nat} {l : List Nat} (h : Row w g E l) : g < w.heap.size := by
  have h' : w.heap[g]? = some (.cells (bv l).toArray E (0, 0)) := h
  rcases Nat.lt_or_ge g w.heap.size with h1 | h1
  · exact h1
  · rw [Array.getElem?_eq_none h1] at h'; cases h'
theorem Row.set {w : World} {g E : Nat} {l : List Nat} (h : Row w g E l) (i x : Nat) : Row (w.setCell ⟨g, i, none⟩ (.int .u8 (x : Int))) g E (l.set i x) := by
  have h' : w.heap[g]? = some (.cells (bv l).toArray E (0, 0)) := h
  have := heap_setCell_same w g i (bv l).toArray E (.int .u8 (x : Int)) h'
  unfold Row
  rw [this, ← bv_set]
  simp
theorem Row.below {w w' : World} {g E B : Nat} {l : List Nat} (h : Row w g E l) (hb : Below B w w') (hg : g < B) : Row w' g E l := (hb.block g hg).trans h
theorem bv_splice (L : List Nat) (off : Nat) (cs : List Nat) : splice (bv L) off (bv cs) = bv (splice L off cs) := by
  simp [splice, bv, List.map_append, List.map_take, List.map_drop]
theorem splice_start {α : Type} (Z X : List α) : splice Z 0 X = X ++ Z.drop X.length := by simp [splice]
theorem made_bytes (n : Nat) : (madeCells (Value.int .u8 0).cells (n * 1)).toList = bv (List.replicate n 0) := by
  rw [← bv_replicate]; show (madeCells #[Value.int .u8 0] (n * 1)).toList = _
  rw [toList_madeCells_one, Nat.mul_one]

/-! ### The laws of make, copy and append, at bytes -/
section
variable {P : Program} {w : World} {ops : Array Oper} {rest : List Oper} {o : Oper} {a : Act} {Q : Exit → Act → World → Prop}
theorem wpList_make_bytes (hg : o.guard = none) (l c : Operand) (t : TypeId) (hop : o.op = Op.makeSlice t l c)
    (e : TypeId) (h1 : P.underlying t = some (.slice e)) (h2 : (P.info? e).map (fun i => (i.zero, i.size, i.bytes)) = some (some (.int .u8 0), 1, 1))
    (kl kc : IntKind) (L C : Int) (n : Nat) (hl : a.eval l = .int kl L) (hc : a.eval c = .int kc C) (hL : L = (n : Int)) (hC : C = (n : Int)) (b : n ≤ 140737488355328)
    (hK : ∀ w', Hid (Row w' w.heap.size e (List.replicate n 0)) → Below w.heap.size w w' → wpList P ops Q rest (a.put o.dst (.slice (some ⟨w.heap.size, 0, none⟩) n n)) w') :
    wpList P ops Q (o :: rest) a w := by
  obtain ⟨i0, hi, hz0, hz1, hz2⟩ := info_parts h2
  refine wpList_make_full w hg l c t hop w.heap.size e i0 (.int .u8 0) 1 h1 hi hz0 hz1 kl kc L C n hl hc hL hC (by rw [hz2]; omega) (by unfold maxLen; omega) (Nat.le_refl _) ?_
  intro w1 hown hgrow
  refine hK w1 ?_ ((Below.refl w.heap.size w).grown hgrow (Nat.le_refl _) (by intro k hk; cases hk))
  show w1.heap[w.heap.size]? = _
  rw [← made_bytes]; exact row_of_own hown
theorem wpList_copy_bytes (hgd : o.guard = none) (d s : Operand) (dT sT : TypeId)
    (ho : o.op = .call { callee := .builtin .copy, args := #[d, s], argTypes := #[dT, sT] }) (e : TypeId) (hu : P.underlying dT = some (.slice e)) (hsz : (P.info? e).map (·.size) = some 1)
    (g off dLen dCap : Nat) (sp : Option Addr) (sCap : Nat) (cur l : List Nat) (hd : a.eval d = .slice (some ⟨g, off, none⟩) dLen dCap) (hs : a.eval s = .slice sp l.length sCap)
    (hrow : Hid (Row w g e cur)) (hsrc : Src w sp l) (hfit : off + l.length ≤ cur.length) (hlen : l.length ≤ dLen) (B : Nat) (w0 : World) (hb : Below B w0 w) (hBg : B ≤ g)
    (h : ∀ w', Hid (Row w' g e (splice cur off l)) → Below B w0 w' → wpList P ops Q rest (a.put o.dst (goInt l.length)) w') :
    wpList P ops Q (o :: rest) a w := by
  refine wpList_copy_splice hgd d s dT sT ho e hu hsz _ sp dLen dCap l.length sCap hd hs g off (bv cur) e hrow.out (bv l) (by rw [bv_length]; exact (Nat.min_eq_left hlen).symm) ?_ (by simpa [bv_length] using hfit) (bv_one l) B w0 hb hBg ?_
  · intro h0
    exact ⟨rfl, hsrc.cells (by rw [bv_length] at h0; exact h0)⟩
  · intro w' hr hb'
    rw [bv_length]
    refine h w' ?_ hb'
    have := hr.out
    rw [bv_splice] at this
    exact this
/-- append of bytes, from whatever source, to a slice that is nil or the call's own. -/
theorem wpList_append_bytes (hgd : o.guard = none) (s x : Operand) (t : TypeId)
    (ho : o.op = .call { callee := .builtin .append, args := #[s, x], argTypes := #[t, t] })
    (base : Nat) (e : TypeId) (ht : P.underlying t = some (.slice e)) (h2 : (P.info? e).map (fun i => (i.zero, i.size, i.bytes)) = some (some (.int .u8 0), 1, 1))
    (v : Value) (l : List Nat) (hs : a.eval s = v) (hown : Hid (w.ownsRow base e 1 v l.length (bv l)))
    (sp : Option Addr) (c : Nat) (m : List Nat) (hx : a.eval x = .slice sp m.length c) (hz : sp = none → c = 0) (hsrc : Src w sp m)
    (hlen : l.length + m.length ≤ 140737488355328) (hbase : base ≤ w.heap.size)
    (h : ∀ v' w', Hid (w'.ownsRow base e 1 v' (l ++ m).length (bv (l ++ m))) → Hid (w.grownBy w' v.ownBlock) → Hid (Near w v v') → wpList P ops Q rest (a.put o.dst v') w') :
    wpList P ops Q (o :: rest) a w := by
  obtain ⟨i0, hi, hz0, hz1, hz2⟩ := info_parts h2
  cases sp with
  | none =>
    have hm : m = [] := by
      cases m with
      | nil => rfl
      | cons y r => obtain ⟨_, _, h0, _⟩ := hsrc (by simp); cases h0
    subst hm
    obtain rfl := hz rfl
    refine wpList_append_own_none hgd s x t ho base e i0 1 ht hi v l.length (bv l) hs hown.out hx ?_
    exact h v w (by rw [List.append_nil]; exact hown) (World.grownBy.refl _ _) (.inl rfl)
  | some ad =>
    refine wpList_append_near hgd s x t ho base e i0 (.int .u8 0) 1 1 ht hi hz0 hz1 hz2 rfl (by decide) v l.length (bv l) hs hown.out ad m.length c (bv m) hx (by simp [bv_length]) ?_ (bv_one m) (by unfold maxLen; omega) (by omega) hbase ?_
    · intro j u hj
      rcases Nat.eq_zero_or_pos m.length with h0 | h0
      · rw [List.getElem?_eq_none (by rw [bv_length]; omega)] at hj; cases hj
      · obtain ⟨ad', hd, hc⟩ := hsrc.cells h0
        cases hd
        exact hc j u hj
    · intro v' w' hown' hg hn
      refine h v' w' ?_ hg hn
      show w'.ownsRow _ _ _ _ _ _
      rw [bv_append, List.length_append]; exact hown'
end
/-- make of bytes, as one equation: for an operation under a guard, where the walk wants a rule. -/
theorem run_make_bytes {P : Program} (w : World) (t e : TypeId) (h1 : P.underlying t = some (.slice e)) (h2 : (P.info? e).map (fun i => (i.zero, i.size, i.bytes)) = some (some (.int .u8 0), 1, 1)) (kl kc : IntKind) (n : Nat) (b : n ≤ 140737488355328) :
    ∃ w', (Instr.makeSlice t (.int kl n) (.int kc n)).run P w = .ok (.slice (some ⟨w.heap.size, 0, none⟩) n n) w' ∧ Row w' w.heap.size e (List.replicate n 0) ∧ Below w.heap.size w w' := by
  obtain ⟨i0, hi, hz0, hz1, hz2⟩ := info_parts h2
  obtain ⟨w', hrun, hown, hgrow⟩ := run_make_full (P := P) w w.heap.size t e i0 (.int .u8 0) 1 h1 hi hz0 hz1 kl kc n (by rw [hz2]; omega) (by unfold maxLen; omega) (Nat.le_refl _)
  refine ⟨w', hrun, ?_, (Below.refl w.heap.size w).grown hgrow (Nat.le_refl _) (by intro k hk; cases hk)⟩
  show w'.heap[w.heap.size]? = _
  rw [← made_bytes]; exact row_of_own hown
theorem own_lt {w : World} {B E n : Nat} {v : Value} {xs : List Value} (h : w.ownsRow B E 1 v n xs) : ∀ k, v.ownBlock = some k → B ≤ k := fun k hk => (h.lt k hk).1
theorem src_one (w : World) (E x : Nat) : Src (w.alloc (.cells #[.int .u8 (x : Int)] E)) (some ⟨w.heap.size, 0, none⟩) [x] := fun _ => ⟨_, _, rfl, fun i hi => by
  simp only [List.length_singleton] at hi
  obtain rfl : i = 0 := by omega
  simp⟩
theorem leL_snoc (v k : Nat) : leL v k ++ [v / 256 ^ k % 256] = leL v (k + 1) := (leL_succ v k).symm
/-- The bytes of a number from the highest of s bytes on down to place j. -/
def downTo (v s j : Nat) : List Nat := ((leL v s).drop j).reverse
theorem downTo_top (v s : Nat) : downTo v s s = [] := by unfold downTo; rw [List.drop_of_length_le (by rw [leL_length]; exact Nat.le_refl _)]; rfl
theorem downTo_zero (v s : Nat) : downTo v s 0 = beL v s := by unfold downTo; rw [List.drop_zero, leL_reverse]
theorem downTo_step (v s j : Nat) (h : j < s) : downTo v s (j + 1) ++ [(leL v s).getD j 0] = downTo v s j := by
  unfold downTo
  rw [List.drop_eq_getElem_cons (i := j) (by rw [leL_length]; exact h), List.reverse_cons]
  congr 2
  rw [List.getD_eq_getElem?_getD, List.getElem?_eq_getElem (by rw [leL_length]; exact h)]; rfl
/-- Bytes as a string. -/
def bstr (l : List Nat) : ByteArray := strOfNums (l.map fun x : Nat => (x : Int))
theorem conv_row {P : Program} (src e dst : TypeId) (hs : P.underlying src = some (.slice e)) (he : P.underlying e = some (.int .u8)) (hd : P.underlying dst = some .string) (g n c : Nat) (l : List Nat) (hn : l.length = n) (w : World) (h : Row w g e l) :
    (convert src dst (.slice (some ⟨g, 0, none⟩) n c)).run P w = .ok (.string (bstr l)) w :=
  run_convert_bytes_arg w src e hs he g 0 n c _ (by simpa using hn) (fun i hi => by
    rw [Nat.zero_add, h.cell i (by omega)]
    simp [show i < l.length by omega]) dst hd
theorem bstr_append (l m : List Nat) : bstr (l ++ m) = bstr l ++ bstr m := by
  apply ByteArray.ext
  rw [ByteArray.data_append]
  simp [bstr, strOfNums]
theorem row_drew (w : World) (g E : Nat) (l : List Nat) : Row w.drew g E l = Row w g E l := rfl
theorem bstr_size (l : List Nat) : (bstr l).size = l.length := by unfold bstr; rw [strOfNums_size]; simp
theorem bstr_nil : bstr [] = ByteArray.empty := rfl
/-- An owned row of bytes, as a string. -/
theorem conv_own {P : Program} (src e dst : TypeId) (hs : P.underlying src = some (.slice e)) (he : P.underlying e = some (.int .u8)) (hd : P.underlying dst = some .string) (B : Nat) (v : Value) (l : List Nat) (w : World)
    (h : w.ownsRow B e 1 v l.length (bv l)) : (convert src dst v).run P w = .ok (.string (bstr l)) w := by
  have h' := h
  rcases h.2 with ⟨rfl, h0⟩ | ⟨g, cap, cur, rfl, _⟩
  · obtain rfl : l = [] := List.eq_nil_of_length_eq_zero h0
    exact run_convert_bytes_nil w src e hs he 0 0 dst hd
  · refine run_convert_bytes_arg w src e hs he g 0 l.length cap _ (by simp) (fun i hi => ?_) dst hd
    have := h'.cellAt i (by omega)
    rw [bv_get l i hi] at this
    rw [Nat.zero_add, this]
    simp [hi]
end Go.Proofs.YtbgkjniagedcnaaGreatDoor
namespace Go.Proofs.YtbgkjniagedcnaaGreatDoor
open Go.ChangeShapes Go.WideShapes Go.RowKit

theorem bytes8 : Tryz.prog.bytesOf 5 = 1 := by kernel_rfl
set_option maxRecDepth 100000 in
theorem open_bytes {H : Type} {enc : TypeId × Value → H} {W : World} {base : Nat} {v : Value} {d : DataW H} {p : List MemPlace}
    (hok : Value.okWide Tryz.prog W .any base 64 v) (hj : DataW.Trod enc Tryz.prog W 0 (fun _ => true) true 64 v d p) :
    ∃ (a : Option Addr) (l : List Nat) (c : Nat), v = .slice a l.length c ∧ B8 l ∧ Src W a l ∧ (a = none → c = 0) ∧ l.length ≤ c ∧ c ≤ maxLen ∧ ((∀ n ∈ d.weights Tryz.prog 64, n ≤ reachBytes) → c ≤ 140737488351232) := by
  obtain ⟨a0, len0, cap0, rfl⟩ := okWide_slice Tryz.underlying64 hok
  obtain ⟨fuel, hf⟩ := hj
  rcases open_ints Tryz.underlying64 Tryz.underlying5 (by kernel_rfl) hf with ⟨hcs, _⟩ | ⟨x, l, c, zs, hcs, _, hl, hm, hz, hd, hcell, hwz⟩
  · simp only [Value.cells, List.cons.injEq, Value.slice.injEq, and_true] at hcs
    obtain ⟨rfl, rfl, rfl⟩ := hcs
    exact ⟨none, [], 0, rfl, B8.nil, Src.nil _ _, fun _ => rfl, Nat.le_refl _, by unfold maxLen; omega, fun _ => by omega⟩
  · simp only [Value.cells, List.cons.injEq, Value.slice.injEq, and_true] at hcs
    obtain ⟨rfl, rfl, rfl⟩ := hcs
    have hzl : zs.length = cap0 := by simpa using hz
    have hln : ((zs.take len0).map Int.toNat).length = len0 := by rw [List.length_map, List.length_take]; omega
    refine ⟨some x, (zs.take len0).map Int.toNat, cap0, by rw [hln], ?_, ?_, fun h => (by cases h), by rw [hln]; exact hl, hm, ?_⟩
    · intro y hy
      obtain ⟨z, hz1, rfl⟩ := List.mem_map.1 hy
      have := bounds_u8 (hwz z (List.mem_of_mem_take hz1))
      omega
    · intro h0
      rw [hln] at h0
      obtain ⟨b, o, spot⟩ := x
      have hspot : spot = none := by
        have := hcell 0 (by omega)
        simpa [Addr.add] using World.cell?_spot this
      subst hspot
      refine ⟨b, o, rfl, fun i hi => ?_⟩
      rw [hln] at hi
      have hc := hcell i (by omega)
      rw [addr_add] at hc
      rw [hc]
      have hi2 : i < zs.length := by omega
      have hb := bounds_u8 (hwz zs[i] (List.getElem_mem hi2))
      have e1 : zs.getD i 0 = zs[i] := by simp [List.getD, hi2]
      have e2 : ((zs.take len0).map Int.toNat).getD i 0 = zs[i].toNat := by
        rw [List.getD_eq_getElem?_getD, List.getElem?_map, List.getElem?_take_of_lt hi, List.getElem?_eq_getElem hi2]; rfl
      rw [e1, e2]
      congr 2
      omega
    · intro hw
      simp only [Prod.mk.injEq] at hd
      obtain ⟨rfl, _⟩ := hd
      have hu := Tryz.underlying64
      have := hw (((lits .u8 (zs.take len0)).length + (lits .u8 (zs.drop len0)).length) * Tryz.prog.bytesOf 5) (by rw [DataW.weights, hu]; exact List.mem_cons_self ..)
      rw [bytes8] at this
      simp only [lits, List.length_map, List.length_take, List.length_drop, reachBytes] at this
      omega
end Go.Proofs.YtbgkjniagedcnaaGreatDoor
namespace Go.Proofs.YtbgkjniagedcnaaGreatDoor
open Go.ChangeShapes Go.WideShapes Go.RowKit Go.Deep

theorem u16Cells : Tryz.prog.cellsOf 22 = 1 := by kernel_rfl
theorem arr16Cells : Tryz.prog.cellsOf 23 = 2 := by kernel_rfl
theorem two_list (l : List Value) (h : l.length = 2) : ∃ a b, l = [a, b] := by
  match l, h with
  | [a, b], _ => exact ⟨a, b, rfl⟩
set_option maxRecDepth 100000 in
theorem open_arr16l {H : Type} {enc : TypeId × Value → H} {W : World} {n : Nat} {u t : Value} {x : DataW H × List MemPlace}
    (hf : DataW.trod enc Tryz.prog W 0 (fun _ => true) true n 23 [u, t] = some x) :
    ∃ x y : Nat, u = .int .u16 x ∧ t = .int .u16 y ∧ x < 65536 ∧ y < 65536 := by
  obtain ⟨xs, m, _, _, _, hxl, hx⟩ := DataW.trod_array Tryz.underlying23 hf
  have h0 := hx 0 (by omega)
  have h1 := hx 1 (by omega)
  rw [u16Cells] at h0 h1
  rw [List.getElem?_eq_getElem (by omega)] at h0 h1
  obtain ⟨a, ha, _, wa⟩ := DataW.trod_int Tryz.underlying22 h0
  obtain ⟨b, hb, _, wb⟩ := DataW.trod_int Tryz.underlying22 h1
  simp at ha hb
  have ba := bounds_u16 wa
  have bb := bounds_u16 wb
  refine ⟨a.toNat, b.toNat, ?_, ?_, by omega, by omega⟩
  · rw [ha]; congr 1; omega
  · rw [hb]; congr 1; omega
set_option maxRecDepth 100000 in
theorem open_arr16 {H : Type} {enc : TypeId × Value → H} {W : World} {base : Nat} {v : Value} {d : DataW H} {p : List MemPlace}
    (hok : Value.okWide Tryz.prog W .any base 23 v) (hj : DataW.Trod enc Tryz.prog W 0 (fun _ => true) true 23 v d p) :
    ∃ x y : Nat, v = .agg #[.int .u16 x, .int .u16 y] ∧ x < 65536 ∧ y < 65536 := by
  simp only [Value.okWide, Tryz.underlying23] at hok
  obtain ⟨cs, rfl, hsz, _⟩ := hok
  rw [arr16Cells] at hsz
  obtain ⟨fuel, hf⟩ := hj
  obtain ⟨u, t, hl⟩ := two_list cs.toList (by simpa using hsz)
  have hcs : (Value.agg cs).cells.toList = [u, t] := hl
  rw [hcs] at hf
  obtain ⟨x, y, rfl, rfl, hx, hy⟩ := open_arr16l hf
  refine ⟨x, y, ?_, hx, hy⟩
  have : cs = #[.int .u16 x, .int .u16 y] := Array.toList_inj.1 hl
  rw [this]

end Go.Proofs.YtbgkjniagedcnaaGreatDoor
