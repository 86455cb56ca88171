/-
  What the law PlanFew stands on.
-/
import Derived.Test.YtdgladhfibfdlaaGreatDoorProg
import Derived.Test.YtdgladhfibfdlaaGreatDoorQPlanFew05
import Derived.WalkKit
import Derived.Below
import Derived.Lib.Hide
import Derived.Test.YtdgladhfibfdlaaGreatDoorQPlanFew04
import Derived.ProofKit
import Derived.OpenShut
import Derived.Shelf.GgClosure.Gives
import Derived.Test.YtdgladhfibfdlaaGreatDoorQPlanFew01
import Derived.OwnWalk
import Derived.Laws.CopyOwn
import Derived.Outline
import Derived.Laws.Cover1
namespace Go.Proofs.YtdgladhfibfdlaaGreatDoor
open Go.RowKit
def WorthIn (w : World) : Prop := ∀ j, j < 16 → w.cell? ⟨2, j, none⟩ = some (.int .u32 ((worths.getD j 0 : Nat) : Int))
theorem add_any (x : BitVec 32) (c : Nat) (w : World) (hc : c < 256) (hT : WorthIn w) :
    Calls Tryz.prog 210 #[.int .u32 (x.toNat : Nat), .int .u8 c] w fun e w' => e = .returned (.int .u32 ((byt x c).toNat : Nat)) ∧ w = w' := by
  have hx := xor_byte x c hc
  have Ht := Lib.hid hT
  clear hT
  obtain ⟨y, hy⟩ : ∃ y, y = x ^^^ BitVec.ofNat 32 c := ⟨_, rfl⟩
  have hb : Hid (byt x c = st4 (st4 y)) := by subst hy; rfl
  rw [← hy] at hx
  clear hy
  generalize hX : x.toNat = X at *
  generalize hY : y.toNat = Y at *
  have hYl : Y < 4294967296 := by have := y.isLt; omega
  have Hy := Lib.hid hY
  clear hX hY
  go_enter Tryz.func210, Tryz.ntmps210
  go_wp2
  go_loop [0, 9] (fun s i => ∃ (z : BitVec 32) (k : Nat), k ≤ 2 ∧ i = .int .i64 k ∧ s = .int .u32 (z.toNat : Nat) ∧ (k = 0 → z = y) ∧ (k = 1 → z = st4 y) ∧ (k = 2 → z = st4 (st4 y))) (fun _ i => 2 - (intOf i).toNat)
  case atStart => exact ⟨y, 0, by omega, rfl, by rw [Hy.out], fun _ => rfl, fun h => by omega, fun h => by omega⟩
  case round =>
    obtain ⟨z, k, hk, rfl, rfl, h0, h1, h2⟩ := hrel
    have H := Lib.hid (And.intro h0 (And.intro h1 h2))
    clear h0 h1 h2
    by_cases hlt : k < 2
    · have hw := worth_step z
      have hcell := Ht.out (z.toNat % 16) (by omega)
      generalize worths.getD (z.toNat % 16) 0 = V at *
      have hzl : z.toNat < 4294967296 := by have := z.isLt; omega
      have hand := and15_nat z.toNat hzl
      have hil : z.toNat % 16 < 16 := by omega
      have hdiv : ((z.toNat / 16 : Nat) : Int) = (z.toNat : Int) / 16 := by omega
      rw [hdiv] at hw
      have Hw := Lib.hid hw
      clear hw hdiv
      generalize hI : z.toNat % 16 = I at *
      generalize hZ : z.toNat = Z at *
      have HZ := Lib.hid (And.intro hI hZ)
      clear hI hZ
      go_wp2
      go_round
      case rel => exact ⟨st4 z, k + 1, by omega, by go_num, by rw [← Hw.out], fun h => by omega, fun h => by rw [H.out.1 (by omega)], fun h => by rw [H.out.2.1 (by omega)]⟩
      case measure => simp [intOf]; omega
    · obtain rfl : k = 2 := by omega
      have e := H.out.2.2 rfl
      subst e
      go_wp2
      go_ret
      exact ⟨by rw [hb.out]; rfl, rfl⟩
theorem run_take_succ (x : BitVec 32) (l : List Nat) (k : Nat) (h : k < l.length) : run x (l.take (k + 1)) = byt (run x (l.take k)) (l.getD k 0) := by
  rw [take_snoc l k h, run_snoc]
theorem more_any (s : BitVec 32) (a : Option Addr) (c : Nat) (l : List Nat) (w : World) (hb : B8 l) (hl : l.length ≤ 9223372036854775807) (hsrc : Src w a l) (hT : WorthIn w) :
    Calls Tryz.prog 197 #[.int .u32 (s.toNat : Nat), .slice a l.length c] w fun e w' => e = .returned (.int .u32 ((more s l).toNat : Nat)) ∧ w = w' := by
  have Ht := Lib.hid hT
  have Hs := Lib.hid hsrc
  clear hT hsrc
  have hn := not_bv s
  go_enter Tryz.func197, Tryz.ntmps197
  go_wp2
  go_loop [5, 7, 12] (fun v _ i => ∃ k : Nat, k ≤ l.length ∧ i = .int .i64 k ∧ v = .int .u32 ((run (~~~ s) (l.take k)).toNat : Nat)) (fun _ _ i => l.length - (intOf i).toNat)
  case atStart => exact ⟨0, Nat.zero_le _, rfl, by simp [run]⟩
  case round =>
    obtain ⟨k, hk, rfl, rfl⟩ := hrel
    by_cases hlt : k < l.length
    · obtain ⟨b, o, rfl, hc⟩ := Hs.out (by omega)
      have hcell := hc k hlt
      have hx := hb.get k
      have hstep := Lib.hid (run_take_succ (~~~ s) l k hlt)
      have hadd := add_any (run (~~~ s) (l.take k)) (l.getD k 0) w hx Ht.out
      clear hc
      generalize run (~~~ s) (l.take k) = R at *
      generalize l.getD k 0 = X at *
      go_wp2_with (go_at_call 210; refine hadd.mono ?_; rintro e w' ⟨rfl, rfl⟩)
      go_round
      case rel => exact ⟨k + 1, by omega, by go_num, by rw [hstep.out]⟩
      case measure => simp [intOf]; omega
    · obtain rfl : k = l.length := by omega
      have e : l.take l.length = l := List.take_length
      rw [e]
      clear e
      have hm : bits .xor .u32 IntKind.u32.max (((run (~~~ s) l).toNat : Nat) : Int) = ((more s l).toNat : Nat) := not_bv _
      generalize run (~~~ s) l = R at *
      go_wp2
      go_ret
      exact ⟨rfl, rfl⟩
theorem sum_any (a : Option Addr) (c : Nat) (l : List Nat) (w : World) (hb : B8 l) (hl : l.length ≤ 9223372036854775807) (hsrc : Src w a l) (hT : WorthIn w) :
    Calls Tryz.prog 177 #[.slice a l.length c] w fun e w' => e = .returned (.int .u32 ((more 0#32 l).toNat : Nat)) ∧ w = w' := by
  have hm := more_any 0#32 a c l w hb hl hsrc hT
  generalize (more 0#32 l).toNat = R at *
  go_enter Tryz.func177, Tryz.ntmps177
  go_wp2_with (go_at_call 197; refine hm.mono ?_; rintro e w' ⟨rfl, rfl⟩)
  go_ret
  exact ⟨rfl, rfl⟩
theorem WorthIn.below {w w' : World} (h : WorthIn w) (hb : Below w.heap.size w w') : WorthIn w' := fun j hj => by
  have hc := h j hj
  have hlt : 2 < w.heap.size := by
    rcases Nat.lt_or_ge 2 w.heap.size with h1 | h1
    · exact h1
    · simp [World.cell?, Array.getElem?_eq_none h1] at hc
  rw [hb.cell (p := ⟨2, j, none⟩) hlt]; exact hc
end Go.Proofs.YtdgladhfibfdlaaGreatDoor
namespace Go.Proofs.YtdgladhfibfdlaaGreatDoor
open Go Go.RowKit
theorem infoB : (Tryz.prog.info? 5).map (fun i => (i.zero, i.size, i.bytes)) = some (some (.int .u8 0), 1, 1) := by kernel_rfl
def Sl (w : World) (v : Value) (l : List Nat) : Prop := (v = .slice none 0 0 ∧ l = []) ∨ ∃ g o c, v = .slice (some ⟨g, o, none⟩) l.length c ∧ Cs w g o l ∧ l.length ≤ c ∧ c ≤ maxLen
theorem Sl.none (w : World) : Sl w (.slice none 0 0) [] := .inl ⟨rfl, rfl⟩
theorem Sl.arg {w : World} {v : Value} {l : List Nat} (h : Sl w v l) : ∃ a c, v = .slice a l.length c ∧ Src w a l ∧ (a = Option.none → c = 0) ∧ l.length ≤ c ∧ c ≤ maxLen := by
  rcases h with ⟨rfl, rfl⟩ | ⟨g, o, c, rfl, hc, h1, h2⟩
  · exact ⟨Option.none, 0, rfl, Src.nil _ _, fun _ => rfl, Nat.le_refl _, by unfold maxLen; omega⟩
  · exact ⟨_, c, rfl, hc.src, (fun h => by cases h), h1, h2⟩
theorem Sl.own {w : World} {B E : Nat} {v : Value} {l : List Nat} (h : w.ownsRow B E 1 v l.length (bv l)) : Sl w v l := by
  rcases h.2 with ⟨rfl, h0⟩ | ⟨g, cap, cur, rfl, hb, hg, hnc, hcm, _⟩
  · have : l = [] := List.eq_nil_of_length_eq_zero h0
    subst this
    exact .inl ⟨rfl, rfl⟩
  · refine .inr ⟨g, 0, cap, rfl, fun i hi => ?_, hnc, hcm⟩
    have := h.cellAt i (by omega)
    rw [bv_get l i hi] at this
    simpa using this
theorem Sl.row {w : World} {g : Nat} {l : List Nat} (h : Row w g 5 l) (hm : l.length ≤ maxLen) : Sl w (.slice (some ⟨g, 0, Option.none⟩) l.length l.length) l :=
  .inr ⟨g, 0, l.length, rfl, h.cs, Nat.le_refl _, hm⟩
end Go.Proofs.YtdgladhfibfdlaaGreatDoor
namespace Go.Proofs.YtdgladhfibfdlaaGreatDoor
open Go.RowKit
def vbF : Nat → Nat → List Nat
  | 0, v => [v]
  | f + 1, v => if v < 128 then [v] else (v % 128 + 128) :: vbF f (v / 128)
def vb (v : Nat) : List Nat := vbF v v
theorem vbF_any : ∀ f g v, v ≤ f → v ≤ g → vbF f v = vbF g v
  | 0, 0, v, _, _ => rfl
  | 0, g + 1, v, h, _ => by
    obtain rfl : v = 0 := by omega
    simp [vbF]
  | f + 1, 0, v, _, h => by
    obtain rfl : v = 0 := by omega
    simp [vbF]
  | f + 1, g + 1, v, h1, h2 => by
    unfold vbF
    by_cases h : v < 128
    · rw [if_pos h, if_pos h]
    · rw [if_neg h, if_neg h, vbF_any f g (v / 128) (by omega) (by omega)]
theorem vb_small {v : Nat} (h : v < 128) : vb v = [v] := by
  unfold vb
  cases v with
  | zero => rfl
  | succ n => unfold vbF; rw [if_pos h]
theorem vb_big {v : Nat} (h : 128 ≤ v) : vb v = (v % 128 + 128) :: vb (v / 128) := by
  obtain ⟨n, rfl⟩ : ∃ n, v = n + 1 := ⟨v - 1, by omega⟩
  show vbF (n + 1) (n + 1) = _ :: vbF _ _
  rw [vbF, if_neg (by omega), vbF_any n ((n + 1) / 128) ((n + 1) / 128) (by omega) (Nat.le_refl _)]
def vs (v : Nat) : Nat := (vb v).length
theorem vs_small {v : Nat} (h : v < 128) : vs v = 1 := by unfold vs; rw [vb_small h]; rfl
theorem vs_big {v : Nat} (h : 128 ≤ v) : vs v = vs (v / 128) + 1 := by unfold vs; rw [vb_big h]; rfl
theorem vs_pos (v : Nat) : 1 ≤ vs v := by
  rcases Nat.lt_or_ge v 128 with h | h
  · rw [vs_small h]; exact Nat.le_refl _
  · rw [vs_big h]; omega
theorem vb_b8 (v : Nat) : B8 (vb v) := by
  induction v using Nat.strongRecOn with
  | _ v ih =>
    rcases Nat.lt_or_ge v 128 with h | h
    · rw [vb_small h]; exact B8.one (by omega)
    · rw [vb_big h]
      intro x hx
      rcases List.mem_cons.1 hx with rfl | hx
      · omega
      · exact ih (v / 128) (by omega) x hx
theorem vs_pow : ∀ k v, v < 128 ^ k → 1 ≤ k → vs v ≤ k
  | 0, v, _, h => by omega
  | k + 1, v, h, _ => by
    rcases Nat.lt_or_ge v 128 with hv | hv
    · rw [vs_small hv]; omega
    · rw [vs_big hv]
      have hk : 1 ≤ k := by
        cases k with
        | zero => simp at h; omega
        | succ k => omega
      have := vs_pow k (v / 128) (by rw [Nat.pow_succ] at h; omega) hk
      omega
theorem vs_le {v : Nat} (h : v < 18446744073709551616) : vs v ≤ 10 := vs_pow 10 v (by omega) (by omega)
theorem vs_mono : ∀ u v, v ≤ u → vs v ≤ vs u := by
  intro u
  induction u using Nat.strongRecOn with
  | _ u ih =>
    intro v h
    rcases Nat.lt_or_ge v 128 with hv | hv
    · rw [vs_small hv]; exact vs_pos u
    · rw [vs_big hv, vs_big (show 128 ≤ u by omega)]
      have := ih (u / 128) (by omega) (v / 128) (by omega)
      omega
theorem vs_top : ∀ k v, v / 2 ^ k = 1 → vs v = k / 7 + 1 := by
  intro k
  induction k using Nat.strongRecOn with
  | _ k ih =>
    intro v h
    have hp : 0 < 2 ^ k := Nat.pow_pos (by decide)
    rcases Nat.lt_or_ge k 7 with hk | hk
    · have hv : v < 128 := by
        have h1 : 2 ^ k ≤ 2 ^ 6 := Nat.pow_le_pow_right (by decide) (by omega)
        have h2 := Nat.div_add_mod v (2 ^ k)
        have h3 := Nat.mod_lt v hp
        rw [h] at h2
        omega
      rw [vs_small hv]; omega
    · obtain ⟨j, rfl⟩ : ∃ j, k = j + 7 := ⟨k - 7, by omega⟩
      have hj : v / 128 / 2 ^ j = 1 := by
        rw [Nat.div_div_eq_div_mul, show 128 * 2 ^ j = 2 ^ (j + 7) by rw [Nat.pow_add]; omega]; exact h
      have hv : 128 ≤ v := by
        rcases Nat.lt_or_ge v 128 with h1 | h1
        · rw [Nat.div_eq_of_lt h1, Nat.zero_div] at hj; omega
        · exact h1
      rw [vs_big hv, ih j (by omega) _ hj]
      omega
theorem vs_odd (v : Nat) : vs (v / 2 * 2 + 1) = vs v := by
  rcases Nat.lt_or_ge v 128 with h | h
  · rw [vs_small h, vs_small (by omega)]
  · rw [vs_big h, vs_big (by omega), show (v / 2 * 2 + 1) / 128 = v / 128 by omega]
end Go.Proofs.YtdgladhfibfdlaaGreatDoor
namespace Go.Proofs.YtdgladhfibfdlaaGreatDoor
open Go.ChangeShapes Go.WideShapes Go.RowKit
theorem laidOut : laidOutB Tryz.prog = true := by kernel_rfl
end Go.Proofs.YtdgladhfibfdlaaGreatDoor
namespace Go.Proofs.YtdgladhfibfdlaaGreatDoor
open Go.RowKit Go.Shelf
theorem isKind_any (k : Nat) (w : World) (hk : k < 256) : Calls Tryz.prog 176 #[.int .u8 k] w fun e w' => e = .returned (.bool (decide (1 ≤ k ∧ k ≤ 5))) ∧ w = w' := by
  by_cases h1 : 1 ≤ k
  · have d1 : decide (1 ≤ (k : Int)) = true := by simp; omega
    have d2 : decide ((k : Int) ≤ 5) = decide (1 ≤ k ∧ k ≤ 5) := by rw [Bool.eq_iff_iff]; simp; omega
    generalize decide (1 ≤ k ∧ k ≤ 5) = D at *
    go_enter Tryz.func176, Tryz.ntmps176
    go_wp2
    go_ret
    exact ⟨rfl, rfl⟩
  · have d1 : decide (1 ≤ (k : Int)) = false := by simp; omega
    have d2 : decide (1 ≤ k ∧ k ≤ 5) = false := by simp; omega
    rw [d2]
    go_enter Tryz.func176, Tryz.ntmps176
    go_wp2
    go_ret
    exact ⟨rfl, rfl⟩
end Go.Proofs.YtdgladhfibfdlaaGreatDoor
namespace Go.Proofs.YtdgladhfibfdlaaGreatDoor
open Go.RowKit
theorem put_in (a : Option Addr) (c : Nat) (l : List Nat) (v s : Nat) (w : World) (hl : l.length ≤ 65536) (hs1 : 1 ≤ s) (hs : s ≤ 64) (hv : v < 18446744073709551616) (hsrc : Src w a l) :
    Calls Tryz.prog 168 #[.slice a l.length c, .int .u64 v, .int .i64 s] w fun e w' => e = .returned (.slice (some ⟨w.heap.size, 0, none⟩) (l.length + s : Nat) (l.length + s : Nat)) ∧ Row w' w.heap.size 5 (l ++ beL v s) ∧ Below w.heap.size w w' := by
  have Hsrc := Lib.hid hsrc
  clear hsrc
  have d1 : decide ((s : Int) < 1) = false := by simp; omega
  have d2 : decide (64 < (s : Int)) = false := by simp; omega
  go_enter Tryz.func168, Tryz.ntmps168
  go_wp2_with (first | (at_make; refine wpList_make_bytes rfl _ _ 48 rfl 5 Tryz.underlying48 infoByte _ _ _ _ (l.length + s) rfl rfl (by omega) (by omega) (by omega) ?_; intro w1 hr1 hb1; have hs1' := Lib.hid (Hsrc.out.below hb1 (Nat.le_refl _))) | (show wpList _ _ _ (⟨some 22, _, _, _, _, _⟩ :: _) _ _; refine wpList_copy_bytes rfl (.tmp 20) (.tmp 21) 48 48 rfl 5 Tryz.underlying48 sizeByte w.heap.size 0 (l.length + s) (l.length + s) a c (List.replicate (l.length + s) 0) l (by rfl) (by rfl) hr1 hs1'.out (by simp) (by omega) w.heap.size w hb1 (Nat.le_refl _) ?_; intro w2 hr2 hb2; clear hr1 hs1' hb1))
  have Hr2 : Hid (Row w2 w.heap.size 5 (putRow l v s 0)) := by
    have := hr2.out
    rw [splice_start] at this
    have e : l ++ List.drop l.length (List.replicate (l.length + s) 0) = putRow l v s 0 := by
      unfold putRow; rw [List.drop_replicate, Nat.add_sub_cancel_left]; simp [beL]
    rw [e] at this
    exact this
  clear hr2
  go_loopw [1, 8] (fun V I wr => ∃ (k : Nat) (i : Int), k ≤ s ∧ I = .int .i64 i ∧ i + k + 1 ≤ l.length + s ∧ (l.length : Int) + s ≤ i + k + 1 ∧ V = .int .u64 (v / 256 ^ k : Nat) ∧ Hid (Row wr w.heap.size 5 (putRow l v s k)) ∧ Below w.heap.size w wr) (fun _ I _ => (intOf I + 1).toNat)
  case atStart => exact ⟨0, (l.length : Int) + s - 1, Nat.zero_le _, rfl, by omega, by omega, by rw [Nat.pow_zero, Nat.div_one], Hr2, hb2⟩
  case round =>
    obtain ⟨k, i, hk, rfl, hi1, hi2, rfl, hrow, hbel⟩ := hrel
    by_cases hlt : k < s
    · obtain ⟨j, rfl⟩ := Int.eq_ofNat_of_zero_le (show 0 ≤ i by omega)
      have hj : j + k + 1 = l.length + s := by omega
      have hcell := hrow.out.cell j (by rw [putRow_length _ _ _ _ hk]; omega)
      have hfr := hrow.out.frozen j
      have hset := Lib.hid ((hrow.out.set j (v / 256 ^ k % 256)))
      rw [putRow_set l v s k j hlt hj] at hset
      have hV : v / 256 ^ k < 18446744073709551616 := Nat.lt_of_le_of_lt (Nat.div_le_self _ _) hv
      have hnext := Lib.hid (show v / 256 ^ (k + 1) = v / 256 ^ k / 256 by rw [Nat.pow_succ, Nat.div_div_eq_div_mul])
      have Hj := Lib.hid hj
      clear hj hrow
      generalize v / 256 ^ k = V at *
      generalize (putRow l v s k).getD j 0 = X at *
      go_wp2
      go_roundw
      case rel => exact ⟨k + 1, (j : Int) - 1, by omega, rfl, by omega, by omega, by rw [hnext.out]; rfl, hset, hbel.setCell (Nat.le_refl _) _⟩
      case measure => simp [intOf]
    · obtain rfl : k = s := by omega
      have hlast := hrow.out
      have e : putRow l v k k = l ++ beL v k := by unfold putRow; simp
      rw [e] at hlast
      have Hlast := Lib.hid hlast
      clear hlast hrow e
      generalize v / 256 ^ k = V at *
      go_wp2
      go_ret
      exact ⟨rfl, Hlast.out, hbel⟩
end Go.Proofs.YtdgladhfibfdlaaGreatDoor
namespace Go.Proofs.YtdgladhfibfdlaaGreatDoor
open Go.RowKit
theorem infoI : (Tryz.prog.info? 5).map (fun i => (i.zero, i.size, i.bytes)) = some (some (.int .u8 0), 1, 1) := by kernel_rfl
theorem sizeI : (Tryz.prog.info? 5).map (·.size) = some 1 := by kernel_rfl
theorem intPut_in (a : Option Addr) (c : Nat) (l : List Nat) (v s : Nat) (w : World) (hl : l.length ≤ 65536) (hs1 : 1 ≤ s) (hs : s ≤ 64) (hv : v < 18446744073709551616) (hsrc : Src w a l) :
    Calls Tryz.prog 168 #[.slice a l.length c, .int .u64 v, .int .i64 s] w fun e w' => e = .returned (.slice (some ⟨w.heap.size, 0, none⟩) (l.length + s : Nat) (l.length + s : Nat)) ∧ Row w' w.heap.size 5 (l ++ beL v s) ∧ Below w.heap.size w w' := by
  have Hsrc := Lib.hid hsrc
  clear hsrc
  have d1 : decide ((s : Int) < 1) = false := by simp; omega
  have d2 : decide (64 < (s : Int)) = false := by simp; omega
  go_enter Tryz.func168, Tryz.ntmps168
  go_wp2_with (first | (at_make; refine wpList_make_bytes rfl _ _ 48 rfl 5 Tryz.underlying48 infoI _ _ _ _ (l.length + s) rfl rfl (by omega) (by omega) (by omega) ?_; intro w1 hr1 hb1; have hs1' := Lib.hid (Hsrc.out.below hb1 (Nat.le_refl _))) | (show wpList _ _ _ (⟨some 22, _, _, _, _, _⟩ :: _) _ _; refine wpList_copy_bytes rfl (.tmp 20) (.tmp 21) 48 48 rfl 5 Tryz.underlying48 sizeI w.heap.size 0 (l.length + s) (l.length + s) a c (List.replicate (l.length + s) 0) l (by rfl) (by rfl) hr1 hs1'.out (by simp) (by omega) w.heap.size w hb1 (Nat.le_refl _) ?_; intro w2 hr2 hb2; clear hr1 hs1' hb1))
  have Hr2 : Hid (Row w2 w.heap.size 5 (putRow l v s 0)) := by
    have := hr2.out
    rw [splice_start] at this
    have e : l ++ List.drop l.length (List.replicate (l.length + s) 0) = putRow l v s 0 := by
      unfold putRow; rw [List.drop_replicate, Nat.add_sub_cancel_left]; simp [beL]
    rw [e] at this
    exact this
  clear hr2
  go_loopw [1, 8] (fun V I wr => ∃ (k : Nat) (i : Int), k ≤ s ∧ I = .int .i64 i ∧ i + k + 1 ≤ l.length + s ∧ (l.length : Int) + s ≤ i + k + 1 ∧ V = .int .u64 (v / 256 ^ k : Nat) ∧ Hid (Row wr w.heap.size 5 (putRow l v s k)) ∧ Below w.heap.size w wr) (fun _ I _ => (intOf I + 1).toNat)
  case atStart => exact ⟨0, (l.length : Int) + s - 1, Nat.zero_le _, rfl, by omega, by omega, by rw [Nat.pow_zero, Nat.div_one], Hr2, hb2⟩
  case round =>
    obtain ⟨k, i, hk, rfl, hi1, hi2, rfl, hrow, hbel⟩ := hrel
    by_cases hlt : k < s
    · obtain ⟨j, rfl⟩ := Int.eq_ofNat_of_zero_le (show 0 ≤ i by omega)
      have hj : j + k + 1 = l.length + s := by omega
      have hcell := hrow.out.cell j (by rw [putRow_length _ _ _ _ hk]; omega)
      have hfr := hrow.out.frozen j
      have hset := Lib.hid ((hrow.out.set j (v / 256 ^ k % 256)))
      rw [putRow_set l v s k j hlt hj] at hset
      have hV : v / 256 ^ k < 18446744073709551616 := Nat.lt_of_le_of_lt (Nat.div_le_self _ _) hv
      have hnext := Lib.hid (show v / 256 ^ (k + 1) = v / 256 ^ k / 256 by rw [Nat.pow_succ, Nat.div_div_eq_div_mul])
      have Hj := Lib.hid hj
      clear hj hrow
      generalize v / 256 ^ k = V at *
      generalize (putRow l v s k).getD j 0 = X at *
      go_wp2
      go_roundw
      case rel => exact ⟨k + 1, (j : Int) - 1, by omega, rfl, by omega, by omega, by rw [hnext.out]; rfl, hset, hbel.setCell (Nat.le_refl _) _⟩
      case measure => simp [intOf]
    · obtain rfl : k = s := by omega
      have hlast := hrow.out
      have e : putRow l v k k = l ++ beL v k := by unfold putRow; simp
      rw [e] at hlast
      have Hlast := Lib.hid hlast
      clear hlast hrow e
      generalize v / 256 ^ k = V at *
      go_wp2
      go_ret
      exact ⟨rfl, Hlast.out, hbel⟩
end Go.Proofs.YtdgladhfibfdlaaGreatDoor
namespace Go.Proofs.YtdgladhfibfdlaaGreatDoor
open Go Go.RowKit
def sa (ks : List ByteArray) (i : Nat) : ByteArray := ks.getD i ByteArray.empty
theorem sa_take (ks : List ByteArray) (k : Nat) (h : k < ks.length) : ks.take (k + 1) = ks.take k ++ [sa ks k] := by
  rw [List.take_succ_eq_append_getElem h]; simp [sa, List.getD, h]
abbrev sv (ks : List ByteArray) : List Value := ks.map Value.string
def TxS (w : World) (a : Option Addr) (ks : List ByteArray) : Prop := 0 < ks.length → ∃ g o, a = some ⟨g, o, none⟩ ∧ ∀ i, i < ks.length → w.cell? ⟨g, o + i, none⟩ = some (.string (sa ks i))
theorem TxS.below {w w' : World} {a : Option Addr} {ks : List ByteArray} {B : Nat} (h : TxS w a ks) (hb : Below B w w') (hB : w.heap.size ≤ B) : TxS w' a ks := fun h0 => by
  obtain ⟨g, o, rfl, hc⟩ := h h0
  exact ⟨g, o, rfl, fun i hi => by rw [hb.cell (p := ⟨g, o + i, none⟩) (Nat.lt_of_lt_of_le (block_lt_of_cell (hc i hi)) hB)]; exact hc i hi⟩
theorem TxS.nil (w : World) (a : Option Addr) : TxS w a [] := fun h => by cases h
theorem infoStr : (Tryz.prog.info? 9).map (fun i => (i.zero, i.size, i.bytes)) = some (some (.string ⟨#[]⟩), 1, 16) := by kernel_rfl
end Go.Proofs.YtdgladhfibfdlaaGreatDoor
namespace Go.Proofs.YtdgladhfibfdlaaGreatDoor
open Go Go.RowKit
def ia (is : List Int) (i : Nat) : Int := is.getD i 0
theorem ia_take (is : List Int) (k : Nat) (h : k < is.length) : is.take (k + 1) = is.take k ++ [ia is k] := by
  rw [List.take_succ_eq_append_getElem h]; simp [ia, List.getD, h]
abbrev iv (is : List Int) : List Value := is.map (Value.int .i64)
theorem iv_get (is : List Int) (i : Nat) (h : i < is.length) : (iv is)[i]? = some (.int .i64 (ia is i)) := by
  simp [ia, List.getD, h]
def PgS (w : World) (a : Option Addr) (is : List Int) : Prop := 0 < is.length → ∃ g o, a = some ⟨g, o, none⟩ ∧ ∀ i, i < is.length → w.cell? ⟨g, o + i, none⟩ = some (.int .i64 (ia is i))
theorem PgS.below {w w' : World} {a : Option Addr} {is : List Int} {B : Nat} (h : PgS w a is) (hb : Below B w w') (hB : w.heap.size ≤ B) : PgS w' a is := fun h0 => by
  obtain ⟨g, o, rfl, hc⟩ := h h0
  exact ⟨g, o, rfl, fun i hi => by rw [hb.cell (p := ⟨g, o + i, none⟩) (Nat.lt_of_lt_of_le (block_lt_of_cell (hc i hi)) hB)]; exact hc i hi⟩
theorem PgS.nil (w : World) (a : Option Addr) : PgS w a [] := fun h => by cases h
def PgV (w : World) (v : Value) (is : List Int) : Prop := ∃ a c, v = .slice a is.length c ∧ PgS w a is ∧ (a = none → c = 0) ∧ is.length ≤ c ∧ c ≤ maxLen
theorem PgV.none (w : World) : PgV w (.slice none 0 0) [] := ⟨Option.none, 0, rfl, PgS.nil _ _, fun _ => rfl, Nat.le_refl _, by unfold maxLen; omega⟩
theorem own_pages {w : World} {B E : Nat} {v : Value} {is : List Int} (h : w.ownsRow B E 1 v is.length (iv is)) : PgV w v is := by
  have h' := h
  obtain ⟨_, h2⟩ := h
  rcases h2 with ⟨rfl, h0⟩ | ⟨g, cap, cur, rfl, hb, hg, hnc, hcm, _⟩
  · have : is = [] := List.eq_nil_of_length_eq_zero h0
    subst this
    exact PgV.none w
  · refine ⟨_, cap, rfl, fun _ => ⟨g, 0, rfl, fun i hi => ?_⟩, (fun h => by cases h), hnc, hcm⟩
    have := h'.cellAt i (by omega)
    rw [Nat.zero_add]
    rw [iv_get is i hi] at this
    exact this
theorem infoInt : (Tryz.prog.info? 3).map (fun i => (i.zero, i.size, i.bytes)) = some (some (.int .i64 0), 1, 8) := by kernel_rfl
section
variable {P : Program} {w : World} {ops : Array Oper} {rest : List Oper} {o : Oper} {a : Act} {Q : Exit → Act → World → Prop}
theorem wpList_append_page (hgd : o.guard = none) (s x : Operand) (t : TypeId)
    (ho : o.op = .call { callee := .builtin .append, args := #[s, x], argTypes := #[t, t] })
    (base : Nat) (e : TypeId) (ht : P.underlying t = some (.slice e)) (h2 : (P.info? e).map (fun i => (i.zero, i.size, i.bytes)) = some (some (.int .i64 0), 1, 8))
    (v : Value) (is : List Int) (hs : a.eval s = v) (hown : Hid (w.ownsRow base e 1 v is.length (iv is)))
    (g c : Nat) (y : Int) (hx : a.eval x = .slice (some ⟨g, 0, none⟩) 1 c) (hy : w.cell? ⟨g, 0, none⟩ = some (.int .i64 y))
    (hlen : (is.length + 1) * 8 ≤ 140737488355328) (hbase : base ≤ w.heap.size)
    (h : ∀ v' w', Hid (w'.ownsRow base e 1 v' (is ++ [y]).length (iv (is ++ [y]))) → Hid (w.grownBy w' v.ownBlock) → wpList P ops Q rest (a.put o.dst v') w') :
    wpList P ops Q (o :: rest) a w := by
  obtain ⟨i0, hi, hz0, hz1, hz2⟩ := info_parts h2
  refine wpList_append_near hgd s x t ho base e i0 (.int .i64 0) 1 8 ht hi hz0 hz1 hz2 rfl (by decide) v is.length (iv is) hs hown.out ⟨g, 0, none⟩ 1 c (iv [y]) hx rfl ?_ ?_ (by unfold maxLen; omega) hlen hbase ?_
  · intro j u hj
    rcases j with _ | j
    · rw [addr_add, Nat.zero_add, hy, ← hj]; rfl
    · cases hj
  · intro u hu
    simp only [iv, List.map_cons, List.map_nil, List.mem_singleton] at hu
    subst hu; rfl
  · intro v' w' hown' hg _
    refine h v' w' ?_ hg
    show w'.ownsRow _ _ _ _ _ _
    have e1 : iv (is ++ [y]) = iv is ++ iv [y] := List.map_append
    rw [e1, List.length_append]; exact hown'
end
end Go.Proofs.YtdgladhfibfdlaaGreatDoor
namespace Go.Proofs.YtdgladhfibfdlaaGreatDoor
open Go Go.RowKit
def pf (l : List Int) (k : Nat) : Int := (l.take k).sum
theorem pf_zero (l : List Int) : pf l 0 = 0 := by simp [pf]
theorem pf_succ (l : List Int) (k : Nat) : pf l (k + 1) = pf l k + ia l k := by
  unfold pf
  rcases Nat.lt_or_ge k l.length with h | h
  · rw [ia_take l k h, List.sum_append]; simp
  · rw [List.take_of_length_le (by omega), List.take_of_length_le h]
    have : ia l k = 0 := by unfold ia; simp [List.getD, h]
    omega
def okI (x : Int) : Bool := decide (0 ≤ x) && decide (x ≤ 1024)
theorem okI_iff (x : Int) : okI x = true ↔ 0 ≤ x ∧ x ≤ 1024 := by unfold okI; simp
def okTo (l : List Int) (k : Nat) : Prop := ∀ i, i < k → okI (ia l i) = true
theorem okTo_succ {l : List Int} {k : Nat} (h : okTo l k) (h1 : okI (ia l k) = true) : okTo l (k + 1) := fun i hi => by
  rcases Nat.lt_or_ge i k with h3 | h3
  · exact h i h3
  · obtain rfl : i = k := by omega
    exact h1
theorem okTo_less {l : List Int} {k n : Nat} (h : okTo l n) (hk : k ≤ n) : okTo l k := fun i hi => h i (by omega)
theorem pf_range {l : List Int} : ∀ {k : Nat}, okTo l k → 0 ≤ pf l k ∧ pf l k ≤ 1024 * k
  | 0, _ => by rw [pf_zero]; omega
  | k + 1, h => by
    have h1 := pf_range (okTo_less h (Nat.le_succ k))
    have h2 := (okI_iff _).1 (h k (by omega))
    rw [pf_succ]; omega
theorem pf_mono {l : List Int} {i : Nat} : ∀ {k : Nat}, okTo l k → i ≤ k → pf l i ≤ pf l k
  | 0, _, hi => by obtain rfl : i = 0 := by omega
                   exact Int.le_refl _
  | k + 1, h, hi => by
    rcases Nat.lt_or_ge i (k + 1) with h3 | h3
    · have h1 := pf_mono (i := i) (okTo_less h (Nat.le_succ k)) (by omega)
      have h2 := (okI_iff _).1 (h k (by omega))
      rw [pf_succ]; omega
    · obtain rfl : i = k + 1 := by omega
      exact Int.le_refl _
def gr (l : List Int) (a : Nat) : Int := max (pf l a) (pf l l.length - pf l a)
def bst (l : List Int) : Nat → Nat
  | 0 => 1
  | k + 1 => if gr l (k + 2) < gr l (bst l k) then k + 2 else bst l k
theorem bst_range (l : List Int) : ∀ k, 1 ≤ bst l k ∧ bst l k ≤ k + 1
  | 0 => by simp [bst]
  | k + 1 => by
    have := bst_range l k
    unfold bst; split <;> omega
theorem bst_least (l : List Int) : ∀ k a, 1 ≤ a → a ≤ k + 1 → gr l (bst l k) ≤ gr l a
  | 0, a, h1, h2 => by
    obtain rfl : a = 1 := by omega
    exact Int.le_refl _
  | k + 1, a, h1, h2 => by
    unfold bst
    rcases Nat.lt_or_ge a (k + 2) with h3 | h3
    · have := bst_least l k a h1 (by omega)
      split <;> omega
    · obtain rfl : a = k + 2 := by omega
      split <;> omega
def canB (l : List Int) (b : Int) : Bool := decide (2 ≤ l.length) && decide (l.length ≤ 1024) && okI b && l.all okI
theorem all_iff (l : List Int) : l.all okI = true ↔ okTo l l.length := by
  rw [List.all_eq_true]
  constructor
  · intro h i hi
    have e : ia l i = l[i] := by unfold ia; simp [List.getD, hi]
    rw [e]; exact h _ (List.getElem_mem hi)
  · intro h x hx
    obtain ⟨i, hi, rfl⟩ := List.mem_iff_getElem.1 hx
    have e : ia l i = l[i] := by unfold ia; simp [List.getD, hi]
    rw [← e]; exact h i hi
theorem canB_iff (l : List Int) (b : Int) : canB l b = true ↔ 2 ≤ l.length ∧ l.length ≤ 1024 ∧ okI b = true ∧ okTo l l.length := by
  unfold canB; rw [Bool.and_eq_true, Bool.and_eq_true, Bool.and_eq_true, all_iff, decide_eq_true_iff, decide_eq_true_iff]
  constructor
  · rintro ⟨⟨⟨h1, h2⟩, h3⟩, h4⟩; exact ⟨h1, h2, h3, h4⟩
  · rintro ⟨h1, h2, h3, h4⟩; exact ⟨⟨⟨h1, h2⟩, h3⟩, h4⟩
theorem canB_no {l : List Int} {b : Int} (h : ¬ (2 ≤ l.length ∧ l.length ≤ 1024 ∧ okI b = true ∧ okTo l l.length)) : canB l b = false := by
  rw [← Bool.not_eq_true, canB_iff]; exact h
def spN (l : List Int) (b : Int) : Int := if canB l b = true then (if 504 < gr l (bst l (l.length - 2)) + b then 0 else (bst l (l.length - 2) : Nat)) else 0
def spE (l : List Int) (b : Int) : Int := if canB l b = true then (if 504 < gr l (bst l (l.length - 2)) + b then 5 else 0) else 1
theorem sp_no {l : List Int} {b : Int} (h : canB l b = false) : spN l b = 0 ∧ spE l b = 1 := by unfold spN spE; rw [h]; exact ⟨rfl, rfl⟩
theorem sp_long {l : List Int} {b : Int} (h : canB l b = true) (h2 : 504 < gr l (bst l (l.length - 2)) + b) : spN l b = 0 ∧ spE l b = 5 := by
  unfold spN spE; rw [if_pos h, if_pos h, if_pos h2, if_pos h2]; exact ⟨rfl, rfl⟩
theorem sp_yes {l : List Int} {b : Int} (h : canB l b = true) (h2 : ¬ 504 < gr l (bst l (l.length - 2)) + b) : spN l b = (bst l (l.length - 2) : Nat) ∧ spE l b = 0 := by
  unfold spN spE; rw [if_pos h, if_pos h, if_neg h2, if_neg h2]; exact ⟨rfl, rfl⟩
theorem gr_range {l : List Int} (h : okTo l l.length) (hn : l.length ≤ 1024) (a : Nat) (ha : a ≤ l.length) : 0 ≤ gr l a ∧ gr l a ≤ 1048576 := by
  have h1 := pf_range (okTo_less h ha)
  have h2 := pf_range h
  have h3 := pf_mono h ha
  unfold gr; omega
theorem mid_place {l : List Int} (hs : ∀ i, i < l.length → 1 ≤ ia l i ∧ ia l i ≤ 112) (t : Int) (ht0 : 0 ≤ t) : ∀ k, k ≤ l.length → t ≤ pf l k → ∃ a, a ≤ k ∧ t ≤ pf l a ∧ pf l a < t + 112 ∧ (a = 0 ∨ pf l (a - 1) < t)
  | 0, _, h => ⟨0, Nat.le_refl _, h, by rw [pf_zero] at h ⊢; omega, .inl rfl⟩
  | k + 1, hk, h => by
    by_cases h1 : t ≤ pf l k
    · obtain ⟨a, h2, h3⟩ := mid_place hs t ht0 k (by omega) h1
      exact ⟨a, by omega, h3⟩
    · have h2 := hs k (by omega)
      have h3 := pf_succ l k
      exact ⟨k + 1, Nat.le_refl _, h, by omega, .inr (by rw [Nat.add_sub_cancel]; omega)⟩
theorem halves {l : List Int} (hs : ∀ i, i < l.length → 1 ≤ ia l i ∧ ia l i ≤ 112) (hn : l.length ≤ 300) (h1 : 504 < pf l l.length) (h2 : pf l l.length ≤ 700) :
    spE l 0 = 0 ∧ ∃ a : Nat, spN l 0 = (a : Int) ∧ 1 ≤ a ∧ a < l.length ∧ 126 ≤ pf l a ∧ pf l a ≤ 504 ∧ 126 ≤ pf l l.length - pf l a ∧ pf l l.length - pf l a ≤ 504 ∧ ∀ k, 1 ≤ k → k < l.length → ¬ max (pf l k) (pf l l.length - pf l k) < max (pf l a) (pf l l.length - pf l a) := by
  have hok : okTo l l.length := fun i hi => (okI_iff _).2 (by have := hs i hi; omega)
  obtain ⟨a, ha1, ha2, ha3, ha4⟩ := mid_place hs ((pf l l.length - 111) / 2) (by omega) l.length (Nat.le_refl _) (by omega)
  have hz := pf_zero l
  have ha0 : 1 ≤ a := by
    rcases Nat.eq_zero_or_pos a with h | h
    · subst h; omega
    · exact h
  have han : a < l.length := by
    rcases Nat.lt_or_ge a l.length with h | h
    · exact h
    · obtain rfl : a = l.length := by omega
      omega
  have hbr := bst_range l (l.length - 2)
  have hbl := bst_least l (l.length - 2) a ha0 (by omega)
  have hbl2 := fun k h1 h2 => bst_least l (l.length - 2) k h1 h2
  have hga : gr l a ≤ 406 ∧ 2 * gr l a ≤ pf l l.length + 113 := by unfold gr; omega
  have hlen2 : 2 ≤ l.length := by omega
  have hc : canB l 0 = true := (canB_iff l 0).2 ⟨hlen2, by omega, by decide, hok⟩
  have hy := sp_yes hc (by omega)
  have hgb : gr l (bst l (l.length - 2)) = max (pf l (bst l (l.length - 2))) (pf l l.length - pf l (bst l (l.length - 2))) := rfl
  refine ⟨hy.2, bst l (l.length - 2), hy.1, hbr.1, by omega, by omega, by omega, by omega, by omega, fun k hk1 hk2 => ?_⟩
  have := hbl2 k hk1 (by omega)
  rw [← hgb]
  have e : gr l k = max (pf l k) (pf l l.length - pf l k) := rfl
  rw [← e]; omega
end Go.Proofs.YtdgladhfibfdlaaGreatDoor
