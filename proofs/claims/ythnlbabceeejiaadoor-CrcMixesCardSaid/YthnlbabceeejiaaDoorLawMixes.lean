/-
  CrcMixes: the law's walk.
-/
import Derived.Test.YthnlbabceeejiaaDoorSure2
import Derived.Test.YthnlbabceeejiaaDoorGr
import Derived.OwnWalk
import Derived.Deep.RegionHeld3
namespace Go.Proofs.YthnlbabceeejiaaDoor
open Go.RowKit

theorem infoByte4 : (Tryd.prog.info? 5).map (fun i => (i.zero, i.size, i.bytes)) = some (some (.int .u8 0), 1, 1) := by kernel_rfl
/-- What stands in x behind k rounds. -/
def mixRow (a b c : List Nat) (n k : Nat) : List Nat := xor3 a b c k ++ List.replicate (n - k) 0
theorem xor3_length (a b c : List Nat) (n : Nat) : (xor3 a b c n).length = n := by
  induction n with
  | zero => rfl
  | succ n ih => simp [xor3, ih]
theorem mixRow_length (a b c : List Nat) (n k : Nat) (h : k ≤ n) : (mixRow a b c n k).length = n := by
  simp [mixRow, xor3_length]; omega
theorem mixRow_set (a b c : List Nat) (n k : Nat) (h : k < n) : (mixRow a b c n k).set k (a.getD k 0 ^^^ b.getD k 0 ^^^ c.getD k 0) = mixRow a b c n (k + 1) := by
  unfold mixRow
  rw [show n - k = (n - (k + 1)) + 1 by omega, List.replicate_succ, List.set_append_right _ _ (by rw [xor3_length]; exact Nat.le_refl _), xor3_length, Nat.sub_self, List.set_cons_zero]
  show _ = (xor3 a b c k ++ [_]) ++ _
  rw [List.append_assoc]; rfl
theorem run_min4 (P : Program) (w : World) (ts : Array TypeId) (t : TypeId) (A B C : Nat) :
    ∃ n : Nat, n ≤ A ∧ n ≤ B ∧ n ≤ C ∧ n ≤ 300 ∧ (Builtin.min_ ts t #[.int .i64 A, .int .i64 B, .int .i64 C, .int .i64 300]).run P w = .ok (.int .i64 n) w := by
  refine ⟨min (min (min A B) C) 300, by omega, by omega, by omega, by omega, ?_⟩
  have e : (if (300 : Int) < (if (C : Int) < (if (B : Int) < (A : Int) then (B : Int) else A) then (C : Int) else (if (B : Int) < (A : Int) then (B : Int) else A)) then (300 : Int) else (if (C : Int) < (if (B : Int) < (A : Int) then (B : Int) else A) then (C : Int) else (if (B : Int) < (A : Int) then (B : Int) else A))) = ((min (min (min A B) C) 300 : Nat) : Int) := by
    split <;> split <;> (try split) <;> omega
  rw [← e]
  simp [Builtin.min_, Builtin.min2]
theorem xor3_b8 (a b c : List Nat) (n : Nat) (ha : B8 a) (hb : B8 b) (hc : B8 c) : B8 (xor3 a b c n) := by
  induction n with
  | zero => exact B8.nil
  | succ n ih => exact ih.append (B8.one (xor_u8_lt _ _ (xor_u8_lt _ _ (ha.get n) (hb.get n)) (hc.get n)))
theorem sum_row (w : World) (g n : Nat) (L : List Nat) (hn : L.length = n) (hb : B8 L) (hr : Row w g 5 L) (hT : WorthIn w) (hl : n ≤ 9223372036854775807) :
    Calls Tryd.prog 7 #[.slice (some ⟨g, 0, none⟩) n n] w fun e w' => e = .returned (.int .u32 ((more 0#32 L).toNat : Nat)) ∧ w = w' := by
  subst hn
  exact sum_any _ _ L w hb hl (fun _ => ⟨g, 0, rfl, fun i hi => by rw [Nat.zero_add]; exact hr.cell i hi⟩) hT
theorem sum_cut (a : Option Addr) (k c : Nat) (l : List Nat) (w : World) (hk : k ≤ l.length) (hl : l.length ≤ 9223372036854775807) (hb : B8 l) (hs : Src w a l) (hT : WorthIn w) :
    Calls Tryd.prog 7 #[.slice a k c] w fun e w' => e = .returned (.int .u32 ((more 0#32 (l.take k)).toNat : Nat)) ∧ w = w' := by
  have hlen : (l.take k).length = k := by rw [List.length_take]; omega
  have h := sum_any a c (l.take k) w (hb.take k) (by omega) (fun h0 => by
    rw [hlen] at h0
    obtain ⟨b, o, rfl, hc⟩ := hs (by omega)
    refine ⟨b, o, rfl, fun i hi => ?_⟩
    rw [hlen] at hi
    rw [show (l.take k).getD i 0 = l.getD i 0 by simp [List.getD, hi]]
    exact hc i (by omega)) hT
  rw [hlen] at h
  exact h
set_option maxRecDepth 100000 in
set_option maxHeartbeats 1000000 in
theorem mixes_any (a b c : Option Addr) (la lb lc : List Nat) (ca cb cc : Nat) (w : World) (hba : B8 la) (hbb : B8 lb) (hbc : B8 lc) (hsa : Src w a la) (hsb : Src w b lb) (hsc : Src w c lc) (hla : la.length ≤ ca) (hlb : lb.length ≤ cb) (hlc : lc.length ≤ cc) (hca : ca ≤ 140737488355328) (hcb : cb ≤ 140737488355328) (hcc : cc ≤ 140737488355328)
    (hg : Hg w) (hT : WorthIn w) :
    Calls Tryd.prog 5 #[.slice a la.length ca, .slice b lb.length cb, .slice c lc.length cc] w fun e w' => e = .returned (.bool true) ∧ Below w.heap.size w w' := by
  have hla' : la.length ≤ 140737488355328 := by omega
  have hlb' : lb.length ≤ 140737488355328 := by omega
  have hlc' : lc.length ≤ 140737488355328 := by omega
  obtain ⟨n, hna, hnb, hnc, hn3, hmin⟩ := run_min4 Tryd.prog w #[3, 3, 3, 3] 3 la.length lb.length lc.length
  have HG := Lib.hid hg
  have HTo := Lib.hid hT
  have Hsa := Lib.hid hsa
  have Hsb := Lib.hid hsb
  have Hsc := Lib.hid hsc
  clear hg hT hsa hsb hsc
  have F0 := fun (k : Nat) (wx : World) (hr : Row wx w.heap.size 5 (xor3 la lb lc k)) (hT : WorthIn wx) => sum_row wx w.heap.size k (xor3 la lb lc k) (xor3_length _ _ _ _) (xor3_b8 la lb lc k hba hbb hbc) hr hT
  have FA := fun (k : Nat) (wx : World) (hs : Src wx a la) (hT : WorthIn wx) (hk : k ≤ la.length) => sum_cut a k ca la wx hk (by omega) hba hs hT
  have FB := fun (k : Nat) (wx : World) (hs : Src wx b lb) (hT : WorthIn wx) (hk : k ≤ lb.length) => sum_cut b k cb lb wx hk (by omega) hbb hs hT
  have FC := fun (k : Nat) (wx : World) (hs : Src wx c lc) (hT : WorthIn wx) (hk : k ≤ lc.length) => sum_cut c k cc lc wx hk (by omega) hbc hs hT
  have FX := fun (k : Nat) (h1 : k ≤ la.length) (h2 : k ≤ lb.length) (h3 : k ≤ lc.length) => congrArg BitVec.toNat (more_xor3 la lb lc k h1 h2 h3)
  have f0 := F0 n
  have fa := FA n
  have fb := FB n
  have fc := FC n
  have fx := FX n hna hnb hnc
  rw [fx] at f0
  have eAB := xor_bv (more 0#32 (la.take n)) (more 0#32 (lb.take n))
  have eABC := xor_bv (more 0#32 (la.take n) ^^^ more 0#32 (lb.take n)) (more 0#32 (lc.take n))
  clear fx F0 FA FB FC FX
  have bA : (more 0#32 (la.take n)).toNat < 4294967296 := by have := (more 0#32 (la.take n)).isLt; omega
  have bB : (more 0#32 (lb.take n)).toNat < 4294967296 := by have := (more 0#32 (lb.take n)).isLt; omega
  have bC : (more 0#32 (lc.take n)).toNat < 4294967296 := by have := (more 0#32 (lc.take n)).isLt; omega
  generalize (more 0#32 (la.take n) ^^^ more 0#32 (lb.take n) ^^^ more 0#32 (lc.take n)).toNat = X at *
  generalize (more 0#32 (la.take n) ^^^ more 0#32 (lb.take n)).toNat = AB at *
  generalize (more 0#32 (la.take n)).toNat = A at *
  generalize (more 0#32 (lb.take n)).toNat = B at *
  generalize (more 0#32 (lc.take n)).toNat = C at *
  have H := Lib.hid (And.intro f0 (And.intro fa (And.intro fb fc)))
  clear f0 fa fb fc
  go_enter Tryd.func5, Tryd.ntmps5
  go_wp2_with (at_make; refine wpList_make_bytes rfl _ _ 22 rfl 5 Tryd.underlying22 infoByte4 _ _ _ _ n rfl rfl (by omega) (by omega) (by omega) ?_; intro w1 hr1 hb1)
  go_loopw [9] (fun i wr => ∃ k : Nat, k ≤ n ∧ i = .int .i64 k ∧ Hid (Row wr w.heap.size 5 (mixRow la lb lc n k)) ∧ Hid (Below w.heap.size w wr)) (fun i _ => n - (intOf i).toNat)
  case atStart => exact ⟨0, Nat.zero_le _, rfl, hr1, hb1⟩
  case round =>
    obtain ⟨k, hk, rfl, hrow, hbel⟩ := hrel
    by_cases hlt : k < n
    · obtain ⟨ba, oa, rfl, hca0⟩ := Hsa.out (by omega)
      obtain ⟨bb, ob, rfl, hcb0⟩ := Hsb.out (by omega)
      obtain ⟨bc, oc, rfl, hcc0⟩ := Hsc.out (by omega)
      have g0 := hca0.lt (by omega)
      have g1 := hcb0.lt (by omega)
      have g2 := hcc0.lt (by omega)
      have hca := hca0.below hbel.out g0
      have hcb := hcb0.below hbel.out g1
      have hcc := hcc0.below hbel.out g2
      have c0 := hca k (by omega)
      have c1 := hcb k (by omega)
      have c2 := hcc k (by omega)
      have l0 := hba.get k
      have l1 := hbb.get k
      have l2 := hbc.get k
      have hset := hrow.out.set k (la.getD k 0 ^^^ lb.getD k 0 ^^^ lc.getD k 0)
      rw [mixRow_set la lb lc n k hlt] at hset
      have Hset := Lib.hid hset
      have c3 := hrow.out.cell k (by rw [mixRow_length la lb lc n k hk]; exact hlt)
      have c4 := hrow.out.frozen k
      clear hset hca hcb hcc hca0 hcb0 hcc0
      generalize (mixRow la lb lc n k).getD k 0 = X3 at *
      generalize la.getD k 0 = X0 at *
      generalize lb.getD k 0 = X1 at *
      generalize lc.getD k 0 = X2 at *
      have e1 := xor_u8_nat X0 X1 l0 l1
      have l01 := xor_u8_lt X0 X1 l0 l1
      have e2 := xor_u8_nat (X0 ^^^ X1) X2 l01 l2
      have l012 := xor_u8_lt (X0 ^^^ X1) X2 l01 l2
      generalize X0 ^^^ X1 ^^^ X2 = Y at *
      generalize X0 ^^^ X1 = Y1 at *
      have k0 : (0 : Int) ≤ (k : Int) := by omega
      have k1 : (k : Int) < (la.length : Int) := by omega
      have k2 : (k : Int) < (lb.length : Int) := by omega
      have k3 : (k : Int) < (lc.length : Int) := by omega
      have k4 : (k : Int) < (n : Int) := by omega
      have f0 : ∀ v, (wr.setCell ⟨w.heap.size, k, none⟩ v).drew.cell? ⟨ba, oa + k, none⟩ = some (.int .u8 X0) := fun v => (World.cell?_setCell_far wr ⟨w.heap.size, k, none⟩ _ v (Nat.ne_of_gt g0)).trans c0
      have f1 : ∀ v, (wr.setCell ⟨w.heap.size, k, none⟩ v).drew.cell? ⟨bb, ob + k, none⟩ = some (.int .u8 X1) := fun v => (World.cell?_setCell_far wr ⟨w.heap.size, k, none⟩ _ v (Nat.ne_of_gt g1)).trans c1
      have f2 : ∀ v, (wr.setCell ⟨w.heap.size, k, none⟩ v).drew.cell? ⟨bc, oc + k, none⟩ = some (.int .u8 X2) := fun v => (World.cell?_setCell_far wr ⟨w.heap.size, k, none⟩ _ v (Nat.ne_of_gt g2)).trans c2
      go_wp2_with fail
      go_region_held3 (fun w' => w'.cell? ⟨ba, oa + k, none⟩ = some (.int .u8 X0) ∧ w'.cell? ⟨bb, ob + k, none⟩ = some (.int .u8 X1) ∧ w'.cell? ⟨bc, oc + k, none⟩ = some (.int .u8 X2)) (go_keep) (fail)
      all_goals go_wp2_with fail
      go_roundw
      case rel => exact ⟨k + 1, by omega, by go_num, Hset.out, (hbel.out.setCell (Nat.le_refl _) _).drew⟩
      case measure => simp [intOf]; omega
    · obtain rfl : k = n := by omega
      have hrow' := hrow.out
      rw [show mixRow la lb lc k k = xor3 la lb lc k by unfold mixRow; rw [Nat.sub_self]; exact List.append_nil _] at hrow'
      have Hrow := Lib.hid hrow'
      clear hrow hrow'
      have k1 : (k : Int) ≤ (ca : Int) := by omega
      have k2 : (k : Int) ≤ (cb : Int) := by omega
      have k3 : (k : Int) ≤ (cc : Int) := by omega
      have k0 : (0 : Int) ≤ (k : Int) := by omega
      go_wp2_with fail
      refine wp_region_gr [(0, true), (2, true), (3, true), (4, true), (6, true), (7, true), (8, true), (11, true), (12, true), (13, true), (1, false), (5, false), (9, false), (10, true), (14, false), (15, true), (16, true), (17, true), (18, false), (19, true), (20, true)] (by kernel_rfl) (by kernel_rfl) (by kernel_rfl) (by kernel_rfl) (fun _ _ _ _ _ h => h) ?_
      repeat (refine wpGr_read (o := ⟨_, _, _, _, _, _⟩) (v := ?_) rfl (by rfl) ?_ ?_; rotate_left; (intro w' hw'; go_simp; with_reducible rfl); simp only [Act.put, List.setIfInBounds_toArray, List.set_cons_zero, List.set_cons_succ])
      refine wpGr_call (o := ⟨_, _, _, _, _, _⟩) rfl (by rfl) (fun K hK => ?_)
      go_simp
      refine (H.out.1 _ (by exact Hrow.out) (HTo.out.below (by exact hbel.out.drew)) (by omega)).mono ?_; rintro e w' ⟨rfl, rfl⟩
      refine hK _ _ (Ext.refl _) ?_
      clear hK K
      try simp only [Act.put, List.setIfInBounds_toArray, List.set_cons_zero, List.set_cons_succ]
      refine wpGr_call (o := ⟨_, _, _, _, _, _⟩) rfl (by rfl) (fun K hK => ?_)
      go_simp
      refine (H.out.2.1 _ (Hsa.out.below (by exact hbel.out.drew) (Nat.le_refl _)) (HTo.out.below (by exact hbel.out.drew)) (by omega)).mono ?_; rintro e w' ⟨rfl, rfl⟩
      refine hK _ _ (Ext.refl _) ?_
      clear hK K
      try simp only [Act.put, List.setIfInBounds_toArray, List.set_cons_zero, List.set_cons_succ]
      refine wpGr_call (o := ⟨_, _, _, _, _, _⟩) rfl (by rfl) (fun K hK => ?_)
      go_simp
      refine (H.out.2.2.1 _ (Hsb.out.below (by exact hbel.out.drew) (Nat.le_refl _)) (HTo.out.below (by exact hbel.out.drew)) (by omega)).mono ?_; rintro e w' ⟨rfl, rfl⟩
      refine hK _ _ (Ext.refl _) ?_
      clear hK K
      try simp only [Act.put, List.setIfInBounds_toArray, List.set_cons_zero, List.set_cons_succ]
      repeat (refine wpGr_read (o := ⟨_, _, _, _, _, _⟩) (v := ?_) rfl (by rfl) ?_ ?_; rotate_left; (intro w' hw'; go_simp; with_reducible rfl); simp only [Act.put, List.setIfInBounds_toArray, List.set_cons_zero, List.set_cons_succ])
      refine wpGr_call (o := ⟨_, _, _, _, _, _⟩) rfl (by rfl) (fun K hK => ?_)
      go_simp
      refine (H.out.2.2.2 _ (Hsc.out.below (by exact hbel.out.drew) (Nat.le_refl _)) (HTo.out.below (by exact hbel.out.drew)) (by omega)).mono ?_; rintro e w' ⟨rfl, rfl⟩
      refine hK _ _ (Ext.refl _) ?_
      clear hK K
      try simp only [Act.put, List.setIfInBounds_toArray, List.set_cons_zero, List.set_cons_succ]
      repeat (refine wpGr_read (o := ⟨_, _, _, _, _, _⟩) (v := ?_) rfl (by rfl) ?_ ?_; rotate_left; (intro w' hw'; go_simp; with_reducible rfl); simp only [Act.put, List.setIfInBounds_toArray, List.set_cons_zero, List.set_cons_succ])
      refine wpGr_call (o := ⟨_, _, _, _, _, _⟩) rfl (by rfl) (fun K hK => ?_)
      go_simp
      refine (sure_any _ (HG.out.below (by exact hbel.out.drew)) (HTo.out.below (by exact hbel.out.drew))).mono ?_; rintro e w' ⟨rfl, hb6⟩
      refine hK _ _ (hb6) ?_
      clear hK K
      try simp only [Act.put, List.setIfInBounds_toArray, List.set_cons_zero, List.set_cons_succ]
      repeat (refine wpGr_read (o := ⟨_, _, _, _, _, _⟩) (v := ?_) rfl (by rfl) ?_ ?_; rotate_left; (intro w' hw'; go_simp; with_reducible rfl); simp only [Act.put, List.setIfInBounds_toArray, List.set_cons_zero, List.set_cons_succ])
      refine wpGr_done ?_
      go_wp2_with fail
      go_ret
      exact ⟨rfl, hbel.out.drew.trans (hb6.mono hbel.out.size)⟩
end Go.Proofs.YthnlbabceeejiaaDoor
