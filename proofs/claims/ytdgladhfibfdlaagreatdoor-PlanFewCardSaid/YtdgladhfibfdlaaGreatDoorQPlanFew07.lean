/-
  What the law PlanFew stands on.
-/
import Derived.Test.YtdgladhfibfdlaaGreatDoorQPlanFew06
import Derived.Test.YtdgladhfibfdlaaGreatDoorQPlanFew01
import Derived.Test.YtdgladhfibfdlaaGreatDoorQPlanFew05
import Derived.Test.YtdgladhfibfdlaaGreatDoorProg
import Derived.WalkKit
import Derived.Below
import Derived.Lib.Hide
import Derived.Lib.SliceRun
import Derived.Lib.AppendZerosOnto
import Derived.Deep.Upon
import Derived.Laws.Cover1
namespace Go.Proofs.YtdgladhfibfdlaaGreatDoor
open Go Go.RowKit
def bn (s : ByteArray) : List Nat := (bl s).map UInt8.toNat
theorem bl_size (s : ByteArray) : (bl s).length = s.size := by
  show s.data.toList.length = s.data.size; simp
theorem bn_len (s : ByteArray) : (bn s).length = s.size := by unfold bn; rw [List.length_map, bl_size]
theorem bn_b8 (s : ByteArray) : B8 (bn s) := fun x hx => by
  unfold bn at hx
  obtain ⟨y, _, rfl⟩ := List.mem_map.1 hx
  exact UInt8.toNat_lt y
structure Ce where
  k : ByteArray
  v : ByteArray
  n : Int
  p : Int
instance : Inhabited Ce := ⟨⟨ByteArray.empty, ByteArray.empty, 0, 0⟩⟩
def ca (cs : List Ce) (i : Nat) : Ce := cs.getD i default
def plB (c : Ce) : Bool := if c.n ≤ 64 then decide ((c.v.size : Int) = c.n ∧ c.p = 0) else decide (c.v.size = 0 ∧ 2 ≤ c.p ∧ c.p ≤ 1023)
def mayB (c : Ce) : Bool := okK c.k && (decide (c.n ≤ 2048) && plB c)
theorem may_n0 {c : Ce} (h : mayB c = true) : 0 ≤ c.n := by
  unfold mayB plB at h
  by_cases h1 : c.n ≤ 64
  · simp [h1] at h; omega
  · omega
theorem may_n {c : Ce} (h : mayB c = true) : c.n ≤ 2048 := by
  unfold mayB at h; simp at h; exact h.2.1
theorem may_k {c : Ce} (h : mayB c = true) : 1 ≤ c.k.size ∧ c.k.size ≤ 40 := by
  unfold mayB okK at h; simp at h; exact h.1
theorem may_in {c : Ce} (h : mayB c = true) (h1 : c.n ≤ 64) : (c.v.size : Int) = c.n ∧ c.p = 0 := by
  unfold mayB plB at h; simp [h1] at h; exact h.2.2
theorem may_out {c : Ce} (h : mayB c = true) (h1 : ¬ c.n ≤ 64) : c.v.size = 0 ∧ 2 ≤ c.p ∧ c.p ≤ 1023 := by
  unfold mayB plB at h; simp [h1] at h; exact ⟨by rw [h.2.2.1]; rfl, h.2.2.2⟩
def tailS (c : Ce) : List Nat := if c.n ≤ 64 then bn c.v else [c.p.toNat / 256 % 256, c.p.toNat % 256]
def oneS (c : Ce) : List Nat := vb c.k.size ++ (bn c.k ++ (vb c.n.toNat ++ tailS c))
def sizeS (k : ByteArray) (n : Int) : Nat := vs k.size + k.size + vs n.toNat + (if n ≤ 64 then n.toNat else 2)
theorem one_len {c : Ce} (h : mayB c = true) : (oneS c).length = sizeS c.k c.n := by
  have e1 : (vb c.k.size).length = vs c.k.size := rfl
  have e2 : (vb c.n.toNat).length = vs c.n.toNat := rfl
  unfold oneS sizeS tailS
  rw [List.length_append, List.length_append, List.length_append, bn_len, e1, e2]
  by_cases h1 : c.n ≤ 64
  · have := may_in h h1
    rw [if_pos h1, if_pos h1, bn_len]; omega
  · rw [if_neg h1, if_neg h1]; simp; omega
theorem tail_b8 (c : Ce) : B8 (tailS c) := by
  unfold tailS
  split
  · exact bn_b8 _
  · intro x hx; simp at hx; omega
theorem one_b8 (c : Ce) : B8 (oneS c) := (vb_b8 _).append ((bn_b8 _).append ((vb_b8 _).append (tail_b8 c)))
theorem size_le {c : Ce} (h : mayB c = true) : sizeS c.k c.n ≤ 124 := by
  have := may_k h
  have := may_n h
  have h0 := may_n0 h
  have h1 : vs c.k.size ≤ 10 := vs_le (by omega)
  have h2 : vs c.n.toNat ≤ 10 := vs_le (by omega)
  unfold sizeS
  split <;> omega
def body : List Ce → List Nat
  | [] => []
  | c :: r => oneS c ++ body r
theorem body_snoc (cs : List Ce) (c : Ce) : body (cs ++ [c]) = body cs ++ oneS c := by
  induction cs with
  | nil => simp [body]
  | cons x r ih => rw [List.cons_append, body, ih, body, List.append_assoc]
theorem body_b8 : ∀ cs : List Ce, B8 (body cs)
  | [] => B8.nil
  | c :: r => (one_b8 c).append (body_b8 r)
def loadS (cs : List Ce) : List Nat := vb cs.length ++ body cs
theorem load_b8 (cs : List Ce) : B8 (loadS cs) := (vb_b8 _).append (body_b8 cs)
theorem load_len (cs : List Ce) : (loadS cs).length = vs cs.length + (body cs).length := by
  unfold loadS; rw [List.length_append]; rfl
def sums (cs : List Ce) (k : Nat) : Nat := (body (cs.take k)).length
theorem take_ca (cs : List Ce) (k : Nat) (h : k < cs.length) : cs.take (k + 1) = cs.take k ++ [ca cs k] := by
  rw [List.take_succ_eq_append_getElem h]; simp [ca, List.getD, h]
theorem body_succ (cs : List Ce) (k : Nat) (h : k < cs.length) : body (cs.take (k + 1)) = body (cs.take k) ++ oneS (ca cs k) := by
  rw [take_ca cs k h, body_snoc]
theorem sums_succ (cs : List Ce) (k : Nat) (h : k < cs.length) : sums cs (k + 1) = sums cs k + (oneS (ca cs k)).length := by
  unfold sums; rw [body_succ cs k h, List.length_append]
theorem sums_all (cs : List Ce) (k : Nat) (h : cs.length ≤ k) : sums cs k = (body cs).length := by unfold sums; rw [List.take_of_length_le h]
def allMay (cs : List Ce) : Prop := ∀ i, i < cs.length → mayB (ca cs i) = true
def ascTo (cs : List Ce) (k : Nat) : Prop := ∀ i, 0 < i → i < k → blt (ca cs (i - 1)).k (ca cs i).k = true
def asc (cs : List Ce) : Prop := ascTo cs cs.length
theorem ascTo_succ {cs : List Ce} {k : Nat} (h : ascTo cs k) (h1 : 0 < k → blt (ca cs (k - 1)).k (ca cs k).k = true) : ascTo cs (k + 1) := fun i h0 hi => by
  rcases Nat.lt_or_ge i k with h2 | h2
  · exact h i h0 h2
  · obtain rfl : i = k := by omega
    exact h1 h0
theorem not_asc {cs : List Ce} {k : Nat} (h0 : 0 < k) (hk : k < cs.length) (h : blt (ca cs (k - 1)).k (ca cs k).k = false) : ¬ asc cs := fun ha => by
  have := ha k h0 hk
  rw [h] at this; cases this
theorem sums_le {cs : List Ce} (h : allMay cs) (k : Nat) (hk : k ≤ cs.length) : sums cs k ≤ 124 * k := by
  induction k with
  | zero => show (body (cs.take 0)).length ≤ _; simp [body]
  | succ k ih =>
    have h1 := one_len (h k (by omega))
    have h2 := size_le (h k (by omega))
    rw [sums_succ cs k (by omega)]
    have := ih (by omega)
    omega
theorem sums_mono (cs : List Ce) (k : Nat) : sums cs k ≤ (body cs).length := by
  unfold sums
  have h := congrArg List.length (congrArg body (List.take_append_drop k cs))
  have : ∀ a b : List Ce, body (a ++ b) = body a ++ body b := fun a b => by
    induction a with
    | nil => rfl
    | cons x r ih => rw [List.cons_append, body, ih, body, List.append_assoc]
  rw [this, List.length_append] at h
  omega
open Classical in
/-- Encode's error. -/
noncomputable def encE (cs : List Ce) : Nat := if allMay cs then (if asc cs then (if (loadS cs).length ≤ 504 then 0 else 5) else 14) else 1
noncomputable def encB (cs : List Ce) : List Nat := if encE cs = 0 then loadS cs else []
theorem enc_1 {cs : List Ce} (h : ¬ allMay cs) : encE cs = 1 ∧ encB cs = [] := by
  have : encE cs = 1 := by unfold encE; rw [if_neg h]
  exact ⟨this, by unfold encB; rw [this]; rfl⟩
theorem enc_14 {cs : List Ce} (h : allMay cs) (h2 : ¬ asc cs) : encE cs = 14 ∧ encB cs = [] := by
  have : encE cs = 14 := by unfold encE; rw [if_pos h, if_neg h2]
  exact ⟨this, by unfold encB; rw [this]; rfl⟩
theorem enc_5 {cs : List Ce} (h : allMay cs) (h2 : asc cs) (h3 : 504 < (loadS cs).length) : encE cs = 5 ∧ encB cs = [] := by
  have : encE cs = 5 := by unfold encE; rw [if_pos h, if_pos h2, if_neg (by omega)]
  exact ⟨this, by unfold encB; rw [this]; rfl⟩
theorem enc_0 {cs : List Ce} (h : allMay cs) (h2 : asc cs) (h3 : (loadS cs).length ≤ 504) : encE cs = 0 ∧ encB cs = loadS cs := by
  have : encE cs = 0 := by unfold encE; rw [if_pos h, if_pos h2, if_pos h3]
  exact ⟨this, by unfold encB; rw [this]; rfl⟩
end Go.Proofs.YtdgladhfibfdlaaGreatDoor
namespace Go.Proofs.YtdgladhfibfdlaaGreatDoor
open Go Go.RowKit
theorem blt_trans {a b c : ByteArray} (h : blt a b = true) (k : blt b c = true) : blt a c = true := by
  rw [blt_iff] at *; grind
theorem blt_self (a : ByteArray) : blt a a = false := by rw [blt_not]; grind
end Go.Proofs.YtdgladhfibfdlaaGreatDoor
namespace Go.Proofs.YtdgladhfibfdlaaGreatDoor
open Go Go.RowKit
set_option maxRecDepth 100000 in
theorem grow_nil (n : Nat) (w : World) (hn : n ≤ 1099511627776) :
    Calls Tryz.prog 196 #[.slice none 0 0, .int .i64 n] w fun e w' => ∃ v, e = .returned v ∧ w'.ownsRow w.heap.size 5 1 v 0 (bv []) ∧ Below w.heap.size w w' := by
  rcases Nat.eq_zero_or_pos n with h0 | h0
  · subst h0
    go_enter Tryz.func196, Tryz.ntmps196
    go_wp2
    go_ret
    exact ⟨_, rfl, own_nil _ _ _, Below.refl _ _⟩
  · obtain ⟨i0, hi, hz0, hz1, hz2⟩ := info_parts infoB
    have hold : (Builtin.firstCells i0.size 0 (.slice none 0 0)).run Tryz.prog w.drew = .ok ([] : List Value).toArray w.drew := run_firstCells_none w.drew i0.size 0 0 0
    have hrun := fun ty => Lib.run_append_grow_zeros w 48 3 ty 5 i0 (.int .u8 0) .i64 .i64 Tryz.underlying48 Tryz.underlying3 hi hz0 none 0 0 [] hold n h0 (by omega) (by omega) (by omega)
      (by rw [hz2]; omega) (growslice_fits (by omega) (by rw [hz2]; omega))
    have hG1 : n ≤ grownCap w (0 + n) 0 5 := by have := grownCap_ge w (0 + n) 0 5; omega
    have hG2 := grownCap_le_maxLen w (0 + n) 0 5 (by unfold maxLen; omega)
    generalize grownCap w (0 + n) 0 5 = G at *
    have hG3 : G ≤ 9223372036854775807 := by unfold maxLen at hG2; omega
    rw [Nat.zero_add] at hrun
    obtain ⟨w1, hw1⟩ : ∃ w1, w1 = w.drew.alloc (.cells (([] : List Value).toArray ++ Builtin.zeroCells (Value.int .u8 0).cells n ++ Builtin.zeroCells (Value.int .u8 0).cells (G - n)) 5) := ⟨_, rfl⟩
    have hown : w1.ownsRow w.heap.size 5 1 (.slice (some ⟨w.heap.size, 0, none⟩) 0 G) 0 (bv []) := by
      rw [hw1]
      exact World.ownsRow_made w.drew _ G (Nat.le_refl _) hG2 (by
        rw [Array.size_append, Array.size_append, size_zeroCells, size_zeroCells]
        show 0 + n * 1 + (G - n) * 1 = G * 1
        omega)
    have hb : Below w.heap.size w w1 := by rw [hw1]; exact (Below.refl _ _).drew.alloc (Nat.le_refl _) _
    rw [← hw1] at hrun
    have Hown := Lib.hid hown
    have Hb := Lib.hid hb
    clear hold hw1 hown hb hG2 hi hz0 hz1 hz2
    go_enter Tryz.func196, Tryz.ntmps196
    go_wp2_with (at_builtin; refine Lib.wpList_append_run _ rfl _ _ _ _ rfl _ _ rfl rfl _ _ (hrun _) ?_)
    all_goals (go_ret; exact ⟨_, rfl, Hown.out, Hb.out⟩)
def Parts (w : World) (g : Nat) (es : List (List Nat)) : Prop := ∀ i, i < es.length → ∃ a c, w.cell? ⟨g, i, none⟩ = some (.slice a (es.getD i []).length c) ∧ Src w a (es.getD i []) ∧ (a = none → c = 0)
theorem Parts.below {w w' : World} {g B : Nat} {es : List (List Nat)} (h : Parts w g es) (hb : Below B w w') (hB : w.heap.size ≤ B) : Parts w' g es := fun i hi => by
  obtain ⟨a, c, hc, hs, hz⟩ := h i hi
  exact ⟨a, c, by rw [hb.cell (p := ⟨g, i, none⟩) (Nat.lt_of_lt_of_le (block_lt_of_cell hc) hB)]; exact hc, hs.below hb hB, hz⟩
def catLen (es : List (List Nat)) (k : Nat) : Nat := (es.take k).flatten.length
theorem cat_succ (es : List (List Nat)) (k : Nat) (h : k < es.length) : (es.take (k + 1)).flatten = (es.take k).flatten ++ es.getD k [] := by
  rw [List.take_succ_eq_append_getElem h, List.flatten_append]
  simp [List.getD, h]
theorem catLen_succ (es : List (List Nat)) (k : Nat) (h : k < es.length) : catLen es (k + 1) = catLen es k + (es.getD k []).length := by
  unfold catLen; rw [cat_succ es k h, List.length_append]
theorem catLen_all (es : List (List Nat)) (k : Nat) (h : es.length ≤ k) : catLen es k = es.flatten.length := by unfold catLen; rw [List.take_of_length_le h]
theorem catLen_le (es : List (List Nat)) (k : Nat) : catLen es k ≤ es.flatten.length := by
  unfold catLen
  have h := congrArg List.length (congrArg List.flatten (List.take_append_drop k es))
  rw [List.flatten_append, List.length_append] at h
  omega
set_option maxRecDepth 100000 in
theorem concat_any (g n c : Nat) (es : List (List Nat)) (hn : es.length = n) (w : World) (hp : Parts w g es) (hl : es.flatten.length ≤ 1099511627776) (hk : n ≤ 65536) :
    Calls Tryz.prog 175 #[.slice (some ⟨g, 0, none⟩) n c] w fun e w' => ∃ v, e = .returned v ∧ Sl w' v es.flatten ∧ Below w.heap.size w w' := by
  have Hp := Lib.hid hp
  have Hn := Lib.hid hn
  have Hl := Lib.hid hl
  clear hp hn hl
  go_enter Tryz.func175, Tryz.ntmps175
  go_wp2_with fail
  go_loop [3, 5, 11] (fun s _ i => ∃ k t : Nat, k ≤ n ∧ i = .int .i64 k ∧ s = .int .i64 t ∧ Hid (t = catLen es k) ∧ t ≤ 1099511627776) (fun _ _ i => n - (intOf i).toNat)
  case atStart => exact ⟨0, 0, Nat.zero_le _, rfl, rfl, rfl, by omega⟩
  case round =>
    obtain ⟨k, t, hkn, rfl, rfl, ht, ht1⟩ := hrel
    by_cases hlt : k < n
    · obtain ⟨a, c1, hc, _, _⟩ := Hp.out k (by rw [Hn.out]; exact hlt)
      have hs := catLen_succ es k (by rw [Hn.out]; exact hlt)
      have hle := catLen_le es (k + 1)
      have hll := Hl.out
      generalize (es.getD k []).length = m at *
      have hm : t + m ≤ 1099511627776 := by have := ht.out; omega
      have ht2 : Hid (t + m = catLen es (k + 1)) := by show _ = _; rw [hs, ht.out]
      have hd : decide ((t : Int) + (m : Int) < 0) = false := by simp; omega
      clear hs hle hll ht
      go_wp2
      go_round
      case rel => exact ⟨k + 1, t + m, by omega, by go_num, by go_num, ht2, hm⟩
      case measure => simp [intOf]; omega
    · obtain rfl : k = n := by omega
      have ht2 : Hid (t = es.flatten.length) := by show _ = _; rw [ht.out, catLen_all es k (by rw [Hn.out]; exact Nat.le_refl _)]
      clear ht hlt
      go_wp2_with fail
      refine (grow_nil t w ht1).mono ?_
      rintro e w1 ⟨v1, rfl, hown1, hb1⟩
      have Ho1 := Lib.hid hown1
      have Hb1 := Lib.hid hb1
      clear hown1 hb1
      go_wp2_with fail
      go_loopw [6, 8, 27] (fun o _ i wr => ∃ (k2 : Nat) (ov : Value), k2 ≤ k ∧ o = ov ∧ i = .int .i64 k2 ∧ Hid (wr.ownsRow w.heap.size 5 1 ov (es.take k2).flatten.length (bv (es.take k2).flatten)) ∧ Hid (Below w.heap.size w wr)) (fun _ _ i _ => k - (intOf i).toNat)
      case atStart => exact ⟨0, v1, Nat.zero_le _, rfl, rfl, by rw [List.take_zero]; exact Ho1, Hb1⟩
      case round =>
        obtain ⟨j, ov, hj, rfl, rfl, hown, hbel⟩ := hrel
        by_cases hlt : j < k
        · obtain ⟨a, c1, hc, hs, hz⟩ := (Hp.out.below hbel.out (Nat.le_refl _)) j (by rw [Hn.out]; exact hlt)
          have hcat := cat_succ es j (by rw [Hn.out]; exact hlt)
          have hlen : (es.take j).flatten.length + (es.getD j []).length ≤ 140737488355328 := by
            have h1 := catLen_le es (j + 1)
            rw [catLen_succ es j (by rw [Hn.out]; exact hlt)] at h1
            have h2 := Hl.out
            unfold catLen at h1
            omega
          have Hs := Lib.hid hs
          have Hz := Lib.hid hz
          have Hcat := Lib.hid hcat
          clear hs hz hcat
          have hsz := hbel.out.size
          generalize es.getD j [] = M at *
          go_wp2_with (at_builtin; refine wpList_append_bytes rfl (.tmp 31) (.tmp 32) 48 rfl w.heap.size 5 Tryz.underlying48 infoB _ (es.take j).flatten (by rfl) hown a c1 M (by rfl) Hz.out Hs.out hlen hsz ?_; intro v' w2 hown2 hgrow2 hnear2)
          have hb2 : Hid (Below w.heap.size w w2) := hbel.out.grown hgrow2.out hsz (fun j hj => (hown.out.lt j hj).1)
          have ho2 : Hid (w2.ownsRow w.heap.size 5 1 v' (es.take (j + 1)).flatten.length (bv (es.take (j + 1)).flatten)) := by rw [Hcat.out]; exact hown2
          clear hown2 hgrow2 hnear2 hown hbel
          go_wp2
          go_roundw
          case rel => exact ⟨j + 1, v', by omega, rfl, by go_num, ho2, hb2⟩
          case measure => simp [intOf]; omega
        · obtain rfl : j = k := by omega
          have ho := Sl.own hown.out
          rw [List.take_of_length_le (by rw [Hn.out]; exact Nat.le_refl _)] at ho
          have ho := Lib.hid ho
          clear hown
          go_wp2
          go_ret
          exact ⟨_, rfl, ho.out, hbel.out⟩
end Go.Proofs.YtdgladhfibfdlaaGreatDoor
namespace Go.Proofs.YtdgladhfibfdlaaGreatDoor
open Go Go.RowKit
theorem turn_setRow (w : World) (g : Nat) (cs : Array Value) : Turn (fun i => i = g) w (w.setRow g cs) :=
  ⟨rfl, rfl, rfl, by simp [World.setRow], fun i _ hne => setRow_other w g i cs hne⟩
theorem wp_copy_bytes {P : Program} {w : World} {o : Oper} {a : Act} {K : Act → World → Prop} {Q : Exit → Act → World → Prop} (d s : Operand) (dT sT : TypeId)
    (ho : o.op = .call { callee := .builtin .copy, args := #[d, s], argTypes := #[dT, sT] }) (e : TypeId) (hu : P.underlying dT = some (.slice e)) (hsz : (P.info? e).map (·.size) = some 1)
    (g off dLen dCap : Nat) (sp : Option Addr) (sLen sCap : Nat) (cur l : List Nat) (hl : l.length = sLen) (hd : a.eval d = .slice (some ⟨g, off, none⟩) dLen dCap) (hs : a.eval s = .slice sp sLen sCap)
    (hrow : Row w g e cur) (hsrc : Src w sp l) (hfit : off + sLen ≤ cur.length) (hlen : sLen ≤ dLen) (hpos : 0 < sLen)
    (h : ∀ w', Row w' g e (splice cur off l) → Turn (fun i => i = g) w w' → K (a.put o.dst (goInt sLen)) w') : Oper.wp P o a w K Q := by
  subst hl
  obtain ⟨ad, rfl, hcs⟩ := hsrc.cells hpos
  have hmin : (bv l).length = Nat.min l.length dLen := by rw [bv_length]; exact (Nat.min_eq_left hlen).symm
  have hrun := run_copy_row (P := P) w dT sT o.type e g off dLen dCap ad l.length sCap (bv cur).toArray e (bv l) hu hsz hrow hmin hcs (by simpa [bv_length] using hfit) (bv_one l)
  rw [bv_length] at hrun
  unfold Oper.wp
  simp only [execOp, ho, resolve, invoke, builtin]
  simp [hd, hs, hrun, Result.andThen]
  refine h _ ?_ (turn_setRow _ _ _)
  show _ = _
  have := setRow_heap w g (bv cur).toArray ((bv cur).take off ++ (bv l ++ (bv cur).drop (off + l.length))).toArray e (0, 0) hrow
  rw [← bv_splice]
  simpa [splice, bv_length] using this
theorem put_none (v s : Nat) (w : World) (hs1 : 1 ≤ s) (hs : s ≤ 64) (hv : v < 18446744073709551616) :
    Calls Tryz.prog 168 #[.slice none 0 0, .int .u64 v, .int .i64 s] w fun e w' => e = .returned (.slice (some ⟨w.heap.size, 0, none⟩) s s) ∧ Row w' w.heap.size 5 (beL v s) ∧ Below w.heap.size w w' := by
  have h := put_in none 0 [] v s w (by simp) hs1 hs hv (Src.nil _ _)
  simpa using h
end Go.Proofs.YtdgladhfibfdlaaGreatDoor
namespace Go.Proofs.YtdgladhfibfdlaaGreatDoor
open Go Go.RowKit
structure Elt (α : Type) where
  sz : Nat
  by_ : Nat
  zero : Value
  enc : α → List Value
  len : ∀ a, (enc a).length = sz
  one : ∀ a, ∀ u ∈ enc a, u.oneCell' = true
  pos : 0 < sz
  zc : zero.cells.size = sz
  ty : TypeId → Bool
def RT (w : World) (g : Nat) (ty : TypeId → Bool) : Prop := ∃ A T fz, w.heap[g]? = some (.cells A T fz) ∧ ty T = true
theorem RT.ext {w w' : World} {g B : Nat} {ty : TypeId → Bool} (h : RT w g ty) (hb : Below B w w') (hB : w.heap.size ≤ B) : RT w' g ty := by
  obtain ⟨A, T, fz, h1, h2⟩ := h
  exact ⟨A, T, fz, (hb.block g (Nat.lt_of_lt_of_le (Array.getElem?_eq_some_iff.1 h1).1 hB)).trans h1, h2⟩
section
variable {α : Type} (E : Elt α)
def Elt.row : List α → List Value
  | [] => []
  | x :: r => E.enc x ++ Elt.row r
theorem Elt.row_app : ∀ (a b : List α), E.row (a ++ b) = E.row a ++ E.row b
  | [], _ => rfl
  | x :: r, b => by rw [List.cons_append, Elt.row, Elt.row, Elt.row_app r b, List.append_assoc]
theorem Elt.row_len : ∀ (l : List α), (E.row l).length = l.length * E.sz
  | [] => by simp [Elt.row]
  | x :: r => by rw [Elt.row, List.length_append, E.len, Elt.row_len r, List.length_cons, Nat.add_mul, Nat.one_mul, Nat.add_comm]
theorem Elt.row_one : ∀ (l : List α), ∀ u ∈ E.row l, u.oneCell' = true
  | [], u, h => by cases h
  | x :: r, u, h => by
    rw [Elt.row, List.mem_append] at h
    rcases h with h | h
    · exact E.one x u h
    · exact Elt.row_one r u h
theorem Elt.row_take (l : List α) (k j : Nat) (u : Value) (h : (E.row (l.take k))[j]? = some u) : (E.row l)[j]? = some u := by
  have e : E.row l = E.row (l.take k) ++ E.row (l.drop k) := by rw [← Elt.row_app, List.take_append_drop]
  rw [e, List.getElem?_append_left (List.getElem?_eq_some_iff.1 h).1]; exact h
theorem Elt.row_drop (l : List α) (k j : Nat) (hk : k ≤ l.length) (u : Value) (h : (E.row (l.drop k))[j]? = some u) : (E.row l)[k * E.sz + j]? = some u := by
  have e : E.row l = E.row (l.take k) ++ E.row (l.drop k) := by rw [← Elt.row_app, List.take_append_drop]
  have e2 : (E.row (l.take k)).length = k * E.sz := by rw [Elt.row_len, List.length_take, Nat.min_eq_left hk]
  rw [e, List.getElem?_append_right (by omega), e2, Nat.add_sub_cancel_left]; exact h
theorem Elt.row_at (l : List α) (i j : Nat) (x : α) (hi : l[i]? = some x) (hj : j < E.sz) : (E.row l)[i * E.sz + j]? = (E.enc x)[j]? := by
  have hl : i < l.length := (List.getElem?_eq_some_iff.1 hi).1
  have e : E.row l = E.row (l.take i) ++ (E.enc x ++ E.row (l.drop (i + 1))) := by
    have h1 : l = l.take i ++ x :: l.drop (i + 1) := by
      have h2 := List.getElem?_eq_some_iff.1 hi
      obtain ⟨_, rfl⟩ := h2
      rw [← List.drop_eq_getElem_cons hl, List.take_append_drop]
    conv => lhs; rw [h1]
    rw [Elt.row_app, Elt.row]
  have e2 : (E.row (l.take i)).length = i * E.sz := by rw [Elt.row_len, List.length_take, Nat.min_eq_left (by omega)]
  rw [e, List.getElem?_append_right (by omega), e2, Nat.add_sub_cancel_left, List.getElem?_append_left (by rw [E.len]; exact hj)]
def ES (w : World) (a : Option Addr) (l : List α) : Prop := (a = none ∧ l = []) ∨ ∃ g o, a = some ⟨g, o, none⟩ ∧ RT w g E.ty ∧ ∀ j u, (E.row l)[j]? = some u → w.cell? ⟨g, o + j, none⟩ = some u
variable {E}
theorem ES.nil (w : World) : ES E w none [] := .inl ⟨rfl, rfl⟩
theorem ES.at {w : World} {a : Option Addr} {l : List α} (h : ES E w a l) (h0 : 0 < l.length) : ∃ g o, a = some ⟨g, o, none⟩ ∧ ∀ j u, (E.row l)[j]? = some u → w.cell? ⟨g, o + j, none⟩ = some u := by
  rcases h with ⟨_, rfl⟩ | ⟨g, o, h, _, hc⟩
  · simp at h0
  · exact ⟨g, o, h, hc⟩
theorem ES.below {w w' : World} {a : Option Addr} {l : List α} {B : Nat} (h : ES E w a l) (hb : Below B w w') (hB : w.heap.size ≤ B) : ES E w' a l := by
  rcases h with h | ⟨g, o, rfl, ht, hc⟩
  · exact .inl h
  · exact .inr ⟨g, o, rfl, ht.ext hb hB, fun j u hu => by have := hc j u hu; rw [hb.cell (p := ⟨g, o + j, none⟩) (Nat.lt_of_lt_of_le (block_lt_of_cell this) hB)]; exact this⟩
theorem ES.take {w : World} {a : Option Addr} {l : List α} (h : ES E w a l) (k : Nat) : ES E w a (l.take k) := by
  rcases h with ⟨h, rfl⟩ | ⟨g, o, rfl, ht, hc⟩
  · exact .inl ⟨h, by simp⟩
  · exact .inr ⟨g, o, rfl, ht, fun j u hu => hc j u (E.row_take l k j u hu)⟩
theorem ES.drop {w : World} {g o : Nat} {l : List α} (h : ES E w (some ⟨g, o, none⟩) l) (k q : Nat) (hk : k ≤ l.length) (hq : q = o + k * E.sz) : ES E w (some ⟨g, q, none⟩) (l.drop k) := by
  rcases h with ⟨h, _⟩ | ⟨g', o', h, ht, hc⟩
  · cases h
  · cases h
    subst hq
    exact .inr ⟨g, _, rfl, ht, fun j u hu => by rw [Nat.add_assoc]; exact hc _ u (E.row_drop l k j hk u hu)⟩
def EV (E : Elt α) (w : World) (v : Value) (l : List α) : Prop := ∃ a c, v = .slice a l.length c ∧ ES E w a l ∧ (a = none → c = 0) ∧ l.length ≤ c ∧ c ≤ maxLen
theorem EV.below {w w' : World} {v : Value} {l : List α} {B : Nat} (h : EV E w v l) (hb : Below B w w') (hB : w.heap.size ≤ B) : EV E w' v l := by
  obtain ⟨a, c, rfl, hs, h1⟩ := h
  exact ⟨a, c, rfl, hs.below hb hB, h1⟩
theorem EV.ext {w w' : World} {v : Value} {l : List α} (h : EV E w v l) (hb : Below w.heap.size w w') : EV E w' v l := h.below hb (Nat.le_refl _)
theorem EV.none (w : World) : EV E w (.slice none 0 0) [] := ⟨Option.none, 0, rfl, ES.nil _, fun _ => rfl, Nat.le_refl _, by unfold maxLen; omega⟩
theorem own_ev {w : World} {B T : Nat} {v : Value} {l : List α} (h : w.ownsRow B T E.sz v l.length (E.row l)) (hT : E.ty T = true := by decide) : EV E w v l := by
  have h' := h
  obtain ⟨_, h2⟩ := h
  rcases h2 with ⟨rfl, h0⟩ | ⟨g, cap, cur, rfl, hb, hg, hnc, hcm, _⟩
  · have : l = [] := List.eq_nil_of_length_eq_zero h0
    subst this
    exact EV.none w
  · refine ⟨_, cap, rfl, .inr ⟨g, 0, rfl, ⟨_, _, _, hg, hT⟩, fun j u hu => ?_⟩, (fun h => by cases h), hnc, hcm⟩
    have hj : j < l.length * E.sz := by have := (List.getElem?_eq_some_iff.1 hu).1; rwa [E.row_len] at this
    have := h'.cellAt j hj
    rw [Nat.zero_add, this]; exact hu
theorem ES.lit {w : World} {g T : Nat} {l : List α} {m : Nat × Nat} (h : w.heap[g]? = some (.cells (E.row l).toArray T m)) (hT : E.ty T = true := by decide) : ES E w (some ⟨g, 0, Option.none⟩) l :=
  .inr ⟨g, 0, rfl, ⟨_, _, _, h, hT⟩, fun j u hu => by simp [World.cell?, h, hu]⟩
theorem lit_ev {w : World} {g T : Nat} {l : List α} {m : Nat × Nat} (h : w.heap[g]? = some (.cells (E.row l).toArray T m)) (hm : l.length ≤ maxLen) (hT : E.ty T = true := by decide) : EV E w (.slice (some ⟨g, 0, Option.none⟩) l.length l.length) l :=
  ⟨_, _, rfl, .inr ⟨g, 0, rfl, ⟨_, _, _, h, hT⟩, fun j u hu => by simp [World.cell?, h, hu]⟩, (fun h => by cases h), Nat.le_refl _, hm⟩
section
variable {P : Program} {w : World}
theorem ev_src {t e : TypeId} (ht : P.underlying t = some (.slice e)) {a : Option Addr} {n c : Nat} {l : List α} (hn : l.length = n) (hz : a = none → c = 0 ∧ n = 0) (h : ES E w a l) : Go.Src P E.sz t (.slice a n c) n (E.row l) w := by
  rcases Nat.eq_zero_or_pos n with h0 | h0
  · obtain rfl : l = [] := List.eq_nil_of_length_eq_zero (by omega)
    subst h0
    cases a with
    | none => exact Go.Src.ofNil w ht c
    | some ad => exact Go.Src.ofSlice w ht ad 0 c [] (by simp) (fun j u hu => by simp at hu) (fun u hu => by cases hu)
  · obtain ⟨g, o, rfl, hc⟩ := h.at (by omega)
    exact Go.Src.ofSlice w ht ⟨g, o, none⟩ n c (E.row l) (by rw [E.row_len, hn]) (fun j u hu => by rw [addr_add]; exact hc j u hu) (E.row_one l)
theorem run_app_full (t ty e : TypeId) (ht : P.underlying t = some (.slice e)) (h2 : (P.info? e).map (fun i => (i.zero, i.size, i.bytes)) = some (some E.zero, E.sz, E.by_))
    (a : Option Addr) (n : Nat) (l : List α) (hn : l.length = n) (hs : ES E w a l) (a2 : Option Addr) (n2 c2 : Nat) (m : List α) (hn2 : m.length = n2) (hz2 : a2 = none → c2 = 0) (hm : ES E w a2 m)
    (h63 : n + n2 ≤ maxLen) (hby : (n + n2) * E.by_ ≤ 140737488355328) :
    ∃ v' w', (Builtin.append_ #[t, t] ty #[.slice a n n, .slice a2 n2 c2]).run P w = .ok v' w' ∧ Below w.heap.size w w' ∧
      ((m = [] ∧ v' = .slice a n n ∧ w' = w) ∨ w'.ownsRow w.heap.size e E.sz v' (n + n2) (E.row (l ++ m))) := by
  obtain ⟨i0, hi, hz, hs0, hb0⟩ := info_parts h2
  have hzz : a2 = none → c2 = 0 ∧ n2 = 0 := fun h => ⟨hz2 h, by
    rcases Nat.eq_zero_or_pos n2 with h0 | h0
    · exact h0
    · obtain ⟨g, o, h3, _⟩ := hm.at (by omega)
      rw [h] at h3; cases h3⟩
  have hsrc := ev_src (P := P) (w := w) ht hn2 hzz hm
  have hsmall : n + n2 ≤ 9223372036854775807 := by simp only [maxLen] at h63; omega
  rcases Nat.eq_zero_or_pos n2 with h0 | h0
  · obtain rfl : m = [] := List.eq_nil_of_length_eq_zero (by omega)
    subst h0
    exact ⟨_, _, run_append_nothing w t t ty e i0 ht hi a n n (Nat.le_refl _) _ (by rw [hs0]; exact hsrc), Below.refl _ _, .inl ⟨rfl, rfl, rfl⟩⟩
  · have hold : (Builtin.firstCells i0.size n (.slice a n n)).run P w.drew = .ok (E.row l).toArray w.drew := by
      rcases Nat.eq_zero_or_pos n with h3 | h3
      · obtain rfl : l = [] := List.eq_nil_of_length_eq_zero (by omega)
        subst h3
        cases a with
        | none => exact run_firstCells_none w.drew i0.size 0 0 0
        | some ad => exact run_firstCells_some w.drew i0.size 0 ad 0 0 [] (by simp) (fun j u hu => by simp at hu)
      · obtain ⟨g, o, rfl, hc⟩ := hs.at (by omega)
        exact run_firstCells_some w.drew i0.size n ⟨g, o, none⟩ n n (E.row l) (by rw [E.row_len, hn, hs0]) (fun j u hu => by rw [addr_add]; exact hc j u hu)
    have hrun := run_append_grow_src (P := P) w t t ty e i0 E.zero ht hi hz a n n (E.row l) hold _ n2 (E.row m) (by rw [hs0]; exact hsrc) (by omega) (by omega) (growslice_fits (by omega) (by rw [hb0]; exact hby))
    have hG1 : n + n2 ≤ grownCap w (n + n2) n e := grownCap_ge w (n + n2) n e
    have hG2 := grownCap_le_maxLen w (n + n2) n e h63
    refine ⟨_, _, hrun, (Below.refl _ _).drew.alloc (Nat.le_refl _) _, .inr ?_⟩
    have hL : (E.row l ++ E.row m).length = (n + n2) * E.sz := by rw [← Elt.row_app, Elt.row_len, List.length_append, hn, hn2]
    rw [Elt.row_app]
    refine ⟨hL, .inr ⟨w.heap.size, grownCap w (n + n2) n e, (E.row l ++ E.row m).toArray ++ Builtin.zeroCells E.zero.cells (grownCap w (n + n2) n e - (n + n2)), rfl, Nat.le_refl _, ?_, hG1, hG2, ?_, ?_⟩⟩
    · show (w.drew.heap.push _)[w.heap.size]? = _
      rw [show w.heap.size = w.drew.heap.size from rfl, Array.getElem?_push_size]
    · rw [Array.size_append, List.size_toArray, hL, size_zeroCells, E.zc, ← Nat.add_mul]
      congr 1
      omega
    · rw [Array.toList_append, List.take_append_of_le_length (by rw [List.toList_toArray]; omega), List.toList_toArray, List.take_of_length_le (by omega)]
theorem run_app_own (B : Nat) (t ty e : TypeId) (ht : P.underlying t = some (.slice e)) (h2 : (P.info? e).map (fun i => (i.zero, i.size, i.bytes)) = some (some E.zero, E.sz, E.by_))
    (v : Value) (n : Nat) (l : List α) (hs : w.ownsRow B e E.sz v n (E.row l)) (hB : B ≤ w.heap.size) (a2 : Option Addr) (n2 c2 : Nat) (m : List α) (hn2 : m.length = n2) (hz2 : a2 = none → c2 = 0) (hm : ES E w a2 m)
    (h63 : n + n2 ≤ maxLen) (hby : (n + n2) * E.by_ ≤ 140737488355328) :
    ∃ v' w', (Builtin.append_ #[t, t] ty #[v, .slice a2 n2 c2]).run P w = .ok v' w' ∧ Below B w w' ∧ w'.ownsRow B e E.sz v' (n + n2) (E.row (l ++ m)) := by
  obtain ⟨i0, hi, hz, hs0, hb0⟩ := info_parts h2
  rcases Nat.eq_zero_or_pos n2 with h0 | h0
  · obtain rfl : m = [] := List.eq_nil_of_length_eq_zero (by omega)
    subst h0
    have hzz : a2 = none → c2 = 0 ∧ (0 : Nat) = 0 := fun h => ⟨hz2 h, rfl⟩
    have hsrc := ev_src (P := P) (w := w) ht (show ([] : List α).length = 0 from rfl) hzz hm
    rw [List.append_nil, Nat.add_zero]
    refine ⟨v, w, ?_, Below.refl _ _, hs⟩
    rcases hs.2 with ⟨rfl, h3⟩ | ⟨g, cap, cur, rfl, _, _, hnc, _⟩
    · exact run_append_nothing w t t ty e i0 ht hi none 0 0 (Nat.le_refl _) _ (by rw [hs0]; exact hsrc)
    · exact run_append_nothing w t t ty e i0 ht hi _ n cap hnc _ (by rw [hs0]; exact hsrc)
  · obtain ⟨g, o, rfl, hc⟩ := hm.at (by omega)
    obtain ⟨v', w', hr, h3, h4, _⟩ := run_append_own (P := P) w B t ty e i0 E.zero E.sz E.by_ ht hi hz hs0 hb0 E.zc E.pos v n (E.row l) hs ⟨g, o, none⟩ n2 c2 (E.row m) (by rw [E.row_len, hn2]) (fun j u hu => by rw [addr_add]; exact hc j u hu) (E.row_one m) h63 hby hB
    refine ⟨v', w', hr, (Below.refl B w).grown h4 hB (fun k hk => (hs.lt k hk).1), ?_⟩
    rw [Elt.row_app]; exact h3
theorem wp_app_run {o : Oper} {ac : Act} {K : Act → World → Prop} {Q : Exit → Act → World → Prop} (s x : Operand) (t : TypeId) (ho : o.op = .call { callee := .builtin .append, args := #[s, x], argTypes := #[t, t] })
    {v xv v' : Value} {w' : World} (hs : ac.eval s = v) (hx : ac.eval x = xv) (hr : (Builtin.append_ #[t, t] o.type #[v, xv]).run P w = .ok v' w') (h : K (ac.put o.dst v') w') : Oper.wp P o ac w K Q := by
  unfold Oper.wp
  simp [execOp, ho, resolve, invoke, builtin, hs, hx, hr, Result.andThen]
  exact h
theorem run_app_two (t ty ty2 e : TypeId) (ht : P.underlying t = some (.slice e)) (h2 : (P.info? e).map (fun i => (i.zero, i.size, i.bytes)) = some (some E.zero, E.sz, E.by_))
    (a : Option Addr) (n : Nat) (l : List α) (hn : l.length = n) (hs : ES E w a l) (a2 : Option Addr) (n2 c2 : Nat) (m : List α) (hn2 : m.length = n2) (hz2 : a2 = none → c2 = 0) (hm : ES E w a2 m)
    (a3 : Option Addr) (n3 c3 : Nat) (r : List α) (hn3 : r.length = n3) (hz3 : a3 = none → c3 = 0) (hr : ES E w a3 r)
    (h63 : n + n2 + n3 ≤ maxLen) (hby : (n + n2 + n3) * E.by_ ≤ 140737488355328) (he : E.ty e = true := by decide) :
    ∃ v1 w1 v2 w2, (Builtin.append_ #[t, t] ty #[.slice a n n, .slice a2 n2 c2]).run P w = .ok v1 w1 ∧ Below w.heap.size w w1 ∧
      (Builtin.append_ #[t, t] ty2 #[v1, .slice a3 n3 c3]).run P w1 = .ok v2 w2 ∧ Below w.heap.size w1 w2 ∧ Below w.heap.size w w2 ∧ EV E w2 v2 (l ++ (m ++ r)) := by
  have hmul : (n + n2) * E.by_ ≤ (n + n2 + n3) * E.by_ := Nat.mul_le_mul_right _ (by omega)
  obtain ⟨v1, w1, h1, hb1, h4⟩ := run_app_full (P := P) (w := w) t ty e ht h2 a n l hn hs a2 n2 c2 m hn2 hz2 hm (by omega) (by omega)
  rcases h4 with ⟨rfl, rfl, rfl⟩ | hown
  · obtain rfl : n2 = 0 := hn2.symm
    obtain ⟨v2, w2, h5, hb2, h6⟩ := run_app_full (P := P) (w := w1) t ty2 e ht h2 a n l hn hs a3 n3 c3 r hn3 hz3 hr (by omega) (by simpa using hby)
    refine ⟨_, _, v2, w2, h1, hb1, h5, hb2, hb2, ?_⟩
    rw [List.nil_append]
    rcases h6 with ⟨rfl, rfl, rfl⟩ | h6
    · refine ⟨a, n, by rw [List.append_nil, hn], by rw [List.append_nil]; exact hs, fun h => ?_, by rw [List.append_nil]; omega, by omega⟩
      rcases Nat.eq_zero_or_pos n with h0 | h0
      · exact h0
      · obtain ⟨g, o, h3, _⟩ := hs.at (by omega)
        rw [h] at h3; cases h3
    · refine own_ev (B := w1.heap.size) (T := e) ?_ he
      rw [List.length_append, hn, hn3]; exact h6
  · obtain ⟨v2, w2, h5, hb2, h6⟩ := run_app_own (P := P) (w := w1) w.heap.size t ty2 e ht h2 v1 (n + n2) (l ++ m) hown hb1.size a3 n3 c3 r hn3 hz3 (hr.below hb1 (Nat.le_refl _)) (by omega) hby
    refine ⟨v1, w1, v2, w2, h1, hb1, h5, hb2, hb1.trans hb2, ?_⟩
    refine own_ev (B := w.heap.size) (T := e) ?_ he
    rw [← List.append_assoc, List.length_append, List.length_append, hn, hn2, hn3]; exact h6
end
end
theorem alloc_lit (W : World) (T : TypeId) (vs : Array Value) : ∃ g W', W.heap.size = g ∧ W.alloc (.cells vs T) = W' ∧ W'.heap[g]? = some (.cells vs T (0, 0)) ∧ Below W.heap.size W W' :=
  ⟨_, _, rfl, rfl, by show (W.heap.push _)[W.heap.size]? = _; rw [Array.getElem?_push_size], (Below.refl _ _).alloc (Nat.le_refl _) _⟩
theorem heap_new (W : World) (T : TypeId) (vs : Array Value) : (W.alloc (.cells vs T)).heap[W.heap.size]? = some (.cells vs T (0, 0)) := by
  show (W.heap.push _)[W.heap.size]? = _; rw [Array.getElem?_push_size]
end Go.Proofs.YtdgladhfibfdlaaGreatDoor
