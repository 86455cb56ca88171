/-
  The document's sum, bit by bit.
-/
import Derived.Test.YtfjjfickbhkpaaaDoorProg
import Derived.Test.YtfjjfickbhkpaaaDoorCrcMathZ
import Derived.WalkKit
import Derived.Below
import Derived.Lib.Hide
namespace Go.Proofs.YtfjjfickbhkpaaaDoor
open Go.RowKit

/-- So many bits. -/
def stN (x : BitVec 32) : Nat → BitVec 32
  | 0 => x
  | k + 1 => st (stN x k)
theorem stN_8 (x : BitVec 32) : stN x 8 = st4 (st4 x) := rfl
theorem sub_not (x : BitVec 32) : IntKind.u32.wrap (4294967295 - ((x.toNat : Nat) : Int)) = (((~~~ x).toNat : Nat) : Int) := by
  have hx := x.isLt
  have hw : ∀ n : Int, IntKind.u32.wrap n = n % 4294967296 := fun n => by simp [IntKind.wrap, IntKind.bits, IntKind.signed]
  rw [not_nat, hw]; omega
theorem pol_xor (a : Nat) (ha : a < 4294967296) : bits .xor .u32 (a : Int) 2197175160 = ((a ^^^ 2197175160 : Nat) : Int) := xor_u32_nat a 2197175160 ha (by decide)
theorem run_take_succ' (x : BitVec 32) (l : List Nat) (k : Nat) (h : k < l.length) : run x (l.take (k + 1)) = byt (run x (l.take k)) (l.getD k 0) := by
  rw [take_snoc l k h, run_snoc]
theorem refMore_any (s : BitVec 32) (a : Option Addr) (c : Nat) (l : List Nat) (w : World) (hb : B8 l) (hl : l.length ≤ 9223372036854775807) (hsrc : Src w a l) :
    Calls Tryd.prog 24 #[.int .u32 (s.toNat : Nat), .slice a l.length c] w fun e w' => e = .returned (.int .u32 ((more s l).toNat : Nat)) ∧ w = w' := by
  have Hs := Lib.hid hsrc
  clear hsrc
  have hn := sub_not s
  have hsl : s.toNat < 4294967296 := by have := s.isLt; omega
  have hnl : (~~~ s).toNat < 4294967296 := by have := (~~~ s).isLt; omega
  generalize hS : s.toNat = S at *
  have HS := Lib.hid hS
  clear hS
  generalize hT : ~~~ s = t at *
  have HT := Lib.hid hT
  clear hT
  go_enter Tryd.func24, Tryd.ntmps24
  go_wp2
  go_loop [5, 6, 7, 8] (fun v i _ _ => ∃ (z : BitVec 32) (k : Nat), k ≤ l.length ∧ i = .int .i64 k ∧ v = .int .u32 (z.toNat : Nat) ∧ z = run t (l.take k)) (fun _ i _ _ => l.length - (intOf i).toNat)
  case atStart => exact ⟨t, 0, Nat.zero_le _, rfl, rfl, rfl⟩
  case round =>
    obtain ⟨z, k, hk, rfl, rfl, hz⟩ := hrel
    by_cases hlt : k < l.length
    · obtain ⟨b, o, rfl, hc⟩ := Hs.out (by omega)
      have hcell := hc k hlt
      have hx := hb.get k
      have hzl : z.toNat < 4294967296 := by have := z.isLt; omega
      have hstep : Hid (run t (l.take (k + 1)) = stN (z ^^^ BitVec.ofNat 32 (l.getD k 0)) 8) := by rw [run_take_succ' _ _ _ hlt, ← hz]; rfl
      have hxor := xor_byte z (l.getD k 0) hx
      clear hc hz
      generalize l.getD k 0 = X at *
      generalize z ^^^ BitVec.ofNat 32 X = y at *
      generalize hZ : z.toNat = Z at *
      have HZ := Lib.hid hZ
      clear hZ
      go_wp2
      go_loop [5, 7, 8] (fun v i _ => ∃ (j : Nat), j ≤ 8 ∧ i = .int .i64 j ∧ v = .int .u32 ((stN y j).toNat : Nat)) (fun _ i _ => 8 - (intOf i).toNat)
      case atStart => exact ⟨0, Nat.zero_le _, rfl, rfl⟩
      case round =>
        obtain ⟨j, hj, rfl, rfl⟩ := hrel
        by_cases hlj : j < 8
        · have hs := st_nat (stN y j)
          have hyl : (stN y j).toNat < 4294967296 := by have := (stN y j).isLt; omega
          have hp := pol_xor ((stN y j).toNat / 2) (by omega)
          have hh : (((stN y j).toNat / 2 : Nat) : Int) = ((stN y j).toNat : Int) / 2 := by omega
          rw [hh] at hp
          have Hs1 := Lib.hid (show (stN y (j + 1)).toNat = (st (stN y j)).toNat from rfl)
          by_cases hodd : (stN y j).toNat % 2 = 1
          · rw [if_pos hodd] at hs
            have hbit : (((stN y j).toNat : Int) % 2 == 1) = true := by rw [beq_iff_eq]; omega
            have HS := Lib.hid (Hs1.out.trans hs)
            have HH := Lib.hid hh
            clear hs hodd Hs1 hh
            generalize (stN y j).toNat = Y at *
            generalize Y / 2 ^^^ 2197175160 = V at *
            go_wp2
            go_round
            case rel => exact ⟨j + 1, by omega, by go_num, by rw [HS.out]⟩
            case measure => simp [intOf]; omega
          · rw [if_neg hodd] at hs
            have hbit : (((stN y j).toNat : Int) % 2 == 1) = false := by rw [beq_eq_false_iff_ne]; omega
            have HS := Lib.hid (Hs1.out.trans hs)
            have HH := Lib.hid hh
            clear hs hodd Hs1 hh hp
            generalize (stN y j).toNat = Y at *
            go_wp2
            go_round
            case rel => exact ⟨j + 1, by omega, by go_num, by rw [HS.out, HH.out]⟩
            case measure => simp [intOf]; omega
        · obtain rfl : j = 8 := by omega
          have He := Lib.hid (show stN y 8 = run t (l.take (k + 1)) from hstep.out.symm)
          clear hlj
          generalize stN y 8 = z' at *
          go_wp2
          go_round
          case rel => exact ⟨z', k + 1, by omega, by go_num, rfl, He.out⟩
          case measure => simp [intOf]; omega
    · obtain rfl : k = l.length := by omega
      have e : l.take l.length = l := List.take_length
      rw [e] at hz
      clear e
      have hm := sub_not z
      have Hm := Lib.hid (show (~~~ z).toNat = (more s l).toNat by rw [hz, ← HT.out]; rfl)
      have hzl : z.toNat < 4294967296 := by have := z.isLt; omega
      clear hz
      generalize (~~~ z).toNat = M at *
      generalize z.toNat = Z at *
      go_wp2
      go_ret
      exact ⟨by rw [← Hm.out]; rfl, rfl⟩
theorem refIs_short (a : Option Addr) (n c : Nat) (w : World) (h : n < 4) :
    Calls Tryd.prog 29 #[.slice a n c] w fun e w' => e = .returned (.bool false) ∧ w = w' := by
  have h1 : decide ((n : Int) < 4) = true := by simp; omega
  go_enter Tryd.func29, Tryd.ntmps29
  go_wp2
  go_ret
  exact ⟨rfl, rfl⟩
theorem refIs_core (b o c n t0 t1 t2 t3 m0 m1 m2 m3 M : Nat) (b0 b1 b2 b3 : Bool) (hb0 : ((t0 : Int) == (m0 : Int)) = b0) (hb1 : ((t1 : Int) == (m1 : Int)) = b1) (hb2 : ((t2 : Int) == (m2 : Int)) = b2) (hb3 : ((t3 : Int) == (m3 : Int)) = b3) (w : World) (hl : n + 4 ≤ c) (hcm : c ≤ 140737488355328) (hM : M < 4294967296) (hm0 : m0 < 256)
    (c0 : w.cell? ⟨b, o + n, none⟩ = some (.int .u8 t0)) (c1 : w.cell? ⟨b, o + (n + 1), none⟩ = some (.int .u8 t1)) (c2 : w.cell? ⟨b, o + (n + 2), none⟩ = some (.int .u8 t2)) (c3 : w.cell? ⟨b, o + (n + 3), none⟩ = some (.int .u8 t3))
    (e0 : (M : Int) / 16777216 = (m0 : Int)) (e1 : (M : Int) / 65536 % 256 = (m1 : Int)) (e2 : (M : Int) / 256 % 256 = (m2 : Int)) (e3 : (M : Int) % 256 = (m3 : Int))
    (hm : Calls Tryd.prog 24 #[.int .u32 0, .slice (some ⟨b, o, none⟩) n c] w fun e w' => e = .returned (.int .u32 M) ∧ w = w') :
    Calls Tryd.prog 29 #[.slice (some ⟨b, o, none⟩) (n + 4 : Nat) c] w fun e w' => e = .returned (.bool (b0 && (b1 && (b2 && b3)))) ∧ w = w' := by
  have h1 : decide ((n : Int) + 4 < 4) = false := by simp; omega
  have H := Lib.hid hm
  clear hm
  go_enter Tryd.func29, Tryd.ntmps29
  go_wp2_with fail
  refine H.out.mono ?_; rintro e w' ⟨rfl, rfl⟩
  clear H
  cases b0
  · go_wp2_with fail
    go_ret
    exact ⟨rfl, rfl⟩
  cases b1
  · go_wp2_with fail
    go_ret
    exact ⟨rfl, rfl⟩
  cases b2
  · go_wp2_with fail
    go_ret
    exact ⟨rfl, rfl⟩
  · go_wp2_with fail
    go_ret
    exact ⟨rfl, rfl⟩
theorem digits_iff (t0 t1 t2 t3 M : Nat) (h1 : t1 < 256) (h2 : t2 < 256) (h3 : t3 < 256) (hM : M < 4294967296) :
    (((t0 : Int) == ((M / 16777216 : Nat) : Int)) && (((t1 : Int) == ((M / 65536 % 256 : Nat) : Int)) && (((t2 : Int) == ((M / 256 % 256 : Nat) : Int)) && ((t3 : Int) == ((M % 256 : Nat) : Int))))) = decide (((t0 * 256 + t1) * 256 + t2) * 256 + t3 = M) := by
  rw [Bool.eq_iff_iff]
  simp only [Bool.and_eq_true, beq_iff_eq, decide_eq_true_iff]
  constructor
  · rintro ⟨a, b, c, d⟩; omega
  · intro h
    subst h
    refine ⟨?_, ?_, ?_, ?_⟩ <;> omega
theorem refIs_long (b o c : Nat) (m t : List Nat) (w : World) (ht : t.length = 4) (hl : m.length + 4 ≤ c) (hcm : c ≤ 140737488355328) (hc : Cs w b o (m ++ t)) (hb : B8 (m ++ t)) :
    Calls Tryd.prog 29 #[.slice (some ⟨b, o, none⟩) (m.length + 4 : Nat) c] w fun e w' => e = .returned (.bool (decide (numL t = (more 0#32 m).toNat))) ∧ w = w' := by
  have hcm' : Cs w b o m := fun i hi => by
    have := hc i (by rw [List.length_append]; omega)
    rwa [show (m ++ t).getD i 0 = m.getD i 0 by simp [List.getD, List.getElem?_append_left hi]] at this
  have hct : ∀ i, i < 4 → w.cell? ⟨b, o + (m.length + i), none⟩ = some (.int .u8 ((t.getD i 0 : Nat) : Int)) := fun i hi => by
    have := hc (m.length + i) (by rw [List.length_append]; omega)
    rwa [show (m ++ t).getD (m.length + i) 0 = t.getD i 0 by simp [List.getD, List.getElem?_append_right]] at this
  have hm := refMore_any 0#32 (some ⟨b, o, none⟩) c m w (fun x hx => hb x (List.mem_append_left _ hx)) (by omega) (fun _ => ⟨b, o, rfl, hcm'⟩)
  have hM : (more 0#32 m).toNat < 4294967296 := by have := (more 0#32 m).isLt; omega
  have hb8 : B8 t := fun x hx => hb x (List.mem_append_right _ hx)
  have hd := digits_iff (t.getD 0 0) _ _ _ _ (hb8.get 1) (hb8.get 2) (hb8.get 3) hM
  rw [numL_four t ht, ← hd]
  exact refIs_core b o c m.length _ _ _ _ _ _ _ _ _ _ _ _ _ rfl rfl rfl rfl w hl hcm hM (by omega) (by simpa using hct 0 (by omega)) (hct 1 (by omega)) (hct 2 (by omega)) (hct 3 (by omega))
    (by omega) (by omega) (by omega) (by omega) hm
end Go.Proofs.YtfjjfickbhkpaaaDoor
