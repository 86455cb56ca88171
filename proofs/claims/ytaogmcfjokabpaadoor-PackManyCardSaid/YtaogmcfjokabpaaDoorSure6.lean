/-
  Layer 6's sure.
-/
import Derived.Test.YtaogmcfjokabpaaDoorRd3
import Derived.Test.YtaogmcfjokabpaaDoorPack1
import Derived.Lib.SlBytesConst
namespace Go.Proofs.YtaogmcfjokabpaaDoor
open Go Go.RowKit

theorem rbyte_of (w : World) (b : Nat) (S S' : RS) (X : Nat) (V : Int) (hS : byteS S = (X, S')) (hV : V = (X : Int)) (h : Rd w b S) :
    Calls Tryd.prog 7 #[.pointer (some ⟨b, 0, none⟩)] w fun e w' => e = .returned (.int .u8 V) ∧ Rd w' b S' ∧ Turn (fun i => i = b) w w' := by
  have := rbyte_any w b S h
  rw [hS] at this
  subst hV
  exact this
theorem rnum_of (w : World) (b : Nat) (S S' : RS) (m X : Nat) (M V : Int) (hS : numS S m = (X, S')) (hM : M = (m : Int)) (hV : V = (X : Int)) (h : Rd w b S) :
    Calls Tryd.prog 8 #[.pointer (some ⟨b, 0, none⟩), .int .u64 M] w fun e w' => e = .returned (.int .u64 V) ∧ Rd w' b S' ∧ Turn (fun i => i = b) w w' := by
  have := rnum_any w b S h m
  rw [hS] at this
  subst hV hM
  exact this
theorem rbytes_of (w : World) (b : Nat) (S S' : RS) (m : Nat) (M : Int) (L : List Nat) (hS : bytesS S m = (L, S')) (hM : M = (m : Int)) (hm : m ≤ 65536) (h : Rd w b S) :
    Calls Tryd.prog 9 #[.pointer (some ⟨b, 0, none⟩), .int .i64 M] w fun e w' => ∃ v, e = .returned v ∧ Sl w' v L ∧ Rd w' b S' ∧ Turn (fun i => i = b) w w' := by
  have := rbytes_any w b S h M m (by omega) (by omega) (by omega)
  rw [hS] at this
  exact this
theorem done_of (w : World) (b : Nat) (S : RS) (V : Value) (hV : doneV S = V) (h : Rd w b S) :
    Calls Tryd.prog 12 #[.pointer (some ⟨b, 0, none⟩)] w fun e w' => e = .returned V ∧ w = w' := by
  subst hV; exact done_any w b S h
theorem doneV_ok : doneV ⟨[], false⟩ = .nilIface := by unfold doneV okS; simp
theorem doneV_wr : doneV ⟨[], true⟩ = .iface 59 (.int .i64 3) := by unfold doneV okS; simp; rfl
theorem doneV_left {l : List Nat} {x : Bool} (h : l ≠ []) : doneV ⟨l, x⟩ = .iface 59 (.int .i64 3) := by
  unfold doneV okS
  rw [if_neg (by simp [h])]; rfl
theorem b8_of (l : List Nat) (h : (l.all fun x => decide (x < 256)) = true) : B8 l := fun x hx => of_decide_eq_true (List.all_eq_true.1 h x hx)
/-- What turned a block of the call's own left what was there. -/
theorem Turn.own {w w1 w2 : World} {b B : Nat} (hb : Below B w w1) (t : Turn (fun i => i = b) w1 w2) (hB : B ≤ b) (hz : B ≤ w.heap.size) : Below B w w2 :=
  hb.trans (t.below (Nat.le_trans hz hb.size) (fun i hi => by rw [hi]; exact hB))
/-- pack.Bytes of a literal's new row. -/
theorem packBytes_new (w : World) (E : TypeId) (fr : Nat × Nat) (g : Nat) (arr : Array Value) (a : Option Addr) (n c n2 : Nat) (l l2 : List Nat) (hg : g = w.heap.size) (ha : arr = (bv l2).toArray) (hn : l.length = n) (hn2 : l2.length = n2) (hs : Src w a l) (hl : n ≤ 65536) (hl2 : n2 ≤ 65536) :
    Calls Tryd.prog 16 #[.slice a n c, .slice (some ⟨g, 0, none⟩) n2 n2] (w.alloc (.cells arr E fr)) fun e w' => ∃ v, e = .returned v ∧ Sl w' v (l ++ vb n2 ++ l2) ∧ Below w.heap.size w w' := by
  subst hg ha
  have hbw : Below w.heap.size w (w.alloc (.cells (bv l2).toArray E fr)) := (Below.refl _ _).alloc (Nat.le_refl _) _
  refine (packBytes_any a (some ⟨w.heap.size, 0, none⟩) n c n2 n2 l l2 hn hn2 _ (hs.below hbw (Nat.le_refl _)) (src_new w E fr l2).src (fun h => by cases h) hl (by omega)).mono ?_
  rintro e w' ⟨v, rfl, hv, hb⟩
  exact ⟨v, rfl, hv, hbw.trans (hb.mono hbw.size)⟩
set_option maxRecDepth 100000 in
set_option maxHeartbeats 1000000 in
theorem sure_any (w : World) (hg : Hg w) : Calls Tryd.prog 6 #[] w fun e w' => e = .returned (.bool true) ∧ Below w.heap.size w w' := by
  have kc := fun (w : World) (C : Array Value) (n c : Nat) => Lib.run_convert_bytes_const (P := Tryd.prog) w 22 5 C n c Tryd.underlying22 Tryd.underlying5
  obtain ⟨L1, hL1⟩ : ∃ L1 : List Nat, L1 = [] ++ [9] := ⟨_, rfl⟩
  obtain ⟨L2, hL2⟩ : ∃ L2 : List Nat, L2 = L1 ++ vb 2 ++ [97, 98] := ⟨_, rfl⟩
  obtain ⟨L3, hL3⟩ : ∃ L3 : List Nat, L3 = L2 ++ vb 300 := ⟨_, rfl⟩
  have v2 : vb 2 = [2] := by decide +kernel
  have v300 : vb 300 = [172, 2] := by decide +kernel
  have n1 : L1.length = 1 := by rw [hL1]; rfl
  have n2 : L2.length = 4 := by rw [hL2, hL1, v2]; rfl
  have n3 : L3.length = 6 := by rw [hL3, hL2, hL1, v2, v300]; rfl
  have b3 : B8 L3 := by rw [hL3, hL2, hL1, v2, v300]; exact b8_of _ (by decide)
  have s1 : byteS ⟨L3, false⟩ = (9, ⟨vb 2 ++ ([97, 98] ++ vb 300), false⟩) := by rw [hL3, hL2, hL1, v2, v300]; rfl
  have s2 : bytesS ⟨vb 2 ++ ([97, 98] ++ vb 300), false⟩ 2 = ([97, 98], ⟨vb 300, false⟩) := bytesS_put [97, 98] (vb 300) false 2 (by simp) (by simp)
  have s3 : numS ⟨vb 300, false⟩ 300 = (300, ⟨[], false⟩) := by
    have := numS_put 300 300 [] false (by omega) (by omega)
    rwa [List.append_nil] at this
  have s4 : byteS ⟨[], false⟩ = (0, ⟨[], true⟩) := byteS_nil rfl
  generalize RS.mk (vb 2 ++ ([97, 98] ++ vb 300)) false = S1 at *
  generalize RS.mk (vb 300) false = S2 at *
  have HS := Lib.hid (And.intro s1 (And.intro s2 (And.intro s3 s4)))
  have HL := Lib.hid (And.intro hL1 (And.intro hL2 hL3))
  have HN := Lib.hid (And.intro n1 (And.intro n2 (And.intro n3 b3)))
  have HG := Lib.hid hg
  clear s1 s2 s3 s4 hL1 hL2 hL3 n1 n2 n3 b3 v2 v300 hg
  go_enter Tryd.func6, Tryd.ntmps6
  go_wp2_with fail
  refine (packByte_any none 0 0 [] rfl 9 w (Src.nil _ _) (fun _ => rfl) (by omega)).mono ?_
  rintro e w1 ⟨v, rfl, hv, hb1⟩
  rw [← HL.out.1] at hv
  obtain ⟨a1, c1, rfl, hs1, _⟩ := hv.arg
  have Hs1 := Lib.hid hs1
  have Hb1 := Lib.hid hb1
  clear hv hs1 hb1
  rw [HN.out.1]
  go_wp2_with fail
  refine (packBytes_new w1 _ _ _ _ a1 1 c1 2 L1 [97, 98] rfl rfl HN.out.1 rfl Hs1.out (by omega) (by omega)).mono ?_
  rintro e w2 ⟨v, rfl, hv, hb2⟩
  rw [← HL.out.2.1] at hv
  obtain ⟨a2, c2, rfl, hs2, _⟩ := hv.arg
  have Hs2 := Lib.hid hs2
  have Hb2 := Lib.hid (Hb1.out.trans (hb2.mono Hb1.out.size))
  clear hv hs2 hb2 Hb1 Hs1 kc
  rw [HN.out.2.1]
  go_wp2_with fail
  refine (packNum_any a2 4 c2 L2 HN.out.2.1 300 w2 Hs2.out (by omega) (by omega)).mono ?_
  rintro e w3 ⟨v, rfl, hv, hb3⟩
  rw [← HL.out.2.2] at hv
  obtain ⟨a3, c3, rfl, hs3, hz3, _⟩ := hv.arg
  have Hs3 := Lib.hid (And.intro hs3 hz3)
  have Hb3 := Lib.hid (Hb2.out.trans (hb3.mono Hb2.out.size))
  clear hv hs3 hz3 hb3 Hb2 Hs2
  rw [HN.out.2.2.1]
  go_wp2_with fail
  refine (new_any a3 6 c3 L3 HN.out.2.2.1 w3 Hs3.out.1 Hs3.out.2 (by omega) HN.out.2.2.2).mono ?_
  rintro e w4 ⟨b, rfl, hbb, hr4, hb4⟩
  have Hbb := Lib.hid (Nat.le_trans Hb3.out.size hbb)
  have Hb4 := Lib.hid (Hb3.out.trans (hb4.mono Hb3.out.size))
  have Hr4 := Lib.hid hr4
  clear hbb hr4 hb4 Hb3 Hs3
  go_wp2_with fail
  refine (rbyte_of w4 b _ _ _ 9 HS.out.1 rfl Hr4.out).mono ?_
  rintro e w5 ⟨rfl, hr5, ht5⟩
  have Hb5 := Lib.hid (Turn.own Hb4.out ht5 Hbb.out (Nat.le_refl _))
  have Hr5 := Lib.hid hr5
  clear hr5 ht5 Hb4 Hr4
  go_wp2_with fail
  refine (rbytes_of w5 b _ _ 2 2 _ HS.out.2.1 rfl (by omega) Hr5.out).mono ?_
  rintro e w6 ⟨v, rfl, hv6, hr6, ht6⟩
  have Hb6 := Lib.hid (Turn.own Hb5.out ht6 Hbb.out (Nat.le_refl _))
  have Hr6 := Lib.hid hr6
  have Hv6 := Lib.hid hv6
  clear hr6 hv6 ht6 Hb5 Hr5
  go_wp2_with fail
  refine (rnum_of w6 b _ _ 300 _ 300 300 HS.out.2.2.1 rfl rfl Hr6.out).mono ?_
  rintro e w7 ⟨rfl, hr7, ht7⟩
  have Hb7 := Lib.hid (Turn.own Hb6.out ht7 Hbb.out (Nat.le_refl _))
  have Hv7 := Lib.hid (Hv6.out.turn ht7 Hr6.out.noByte)
  have Hr7 := Lib.hid hr7
  clear hr7 ht7 Hb6 Hr6 Hv6
  go_wp2_with fail
  refine (done_of w7 b _ _ doneV_ok Hr7.out).mono ?_
  rintro e w' ⟨rfl, rfl⟩
  go_wp2_with fail
  refine (rbyte_of w7 b _ _ _ 0 HS.out.2.2.2 rfl Hr7.out).mono ?_
  rintro e w8 ⟨rfl, hr8, ht8⟩
  have Hb8 := Lib.hid (Turn.own Hb7.out ht8 Hbb.out (Nat.le_refl _))
  have Hv8 := Lib.hid (Hv7.out.turn ht8 Hr7.out.noByte)
  have Hr8 := Lib.hid hr8
  clear hr8 ht8 Hb7 Hr7 Hv7
  go_wp2_with fail
  refine (done_of w8 b _ _ doneV_wr Hr8.out).mono ?_
  rintro e w' ⟨rfl, rfl⟩
  have hcv := Hv8.out.conv
  rw [show bstr [97, 98] = ⟨#[97, 98]⟩ from rfl] at hcv
  go_wp2_with fail
  refine (num_err 3 w8 (HG.out.below Hb8.out)).mono ?_
  rintro e w9 ⟨rfl, hb9⟩
  have hb9' := Hb8.out.trans (hb9.mono Hb8.out.size)
  clear hcv hb9
  go_wp2
  go_ret
  exact ⟨rfl, hb9'⟩
end Go.Proofs.YtaogmcfjokabpaaDoor
