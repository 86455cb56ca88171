/-
  CrcFinds: the law's walk.
-/
import Derived.Test.YthnlbabceeejiaaDoorSure2
import Derived.OwnWalk
namespace Go.Proofs.YthnlbabceeejiaaDoor
open Go.RowKit

theorem infoByte3 : (Tryd.prog.info? 5).map (fun i => (i.zero, i.size, i.bytes)) = some (some (.int .u8 0), 1, 1) := by kernel_rfl
theorem is_own (w : World) (B E c : Nat) (g : Nat) (m t L : List Nat) (n : Nat) (hn : L.length = n) (hL : L = m ++ t) (ht : t.length = 4) (hb : B8 L) (hT : WorthIn w) (R : Bool) (hR : decide (numL t = (more 0#32 m).toNat) = R)
    (hown : w.ownsRow B E 1 (.slice (some ⟨g, 0, none⟩) n c) n (bv L)) (hlc : n ≤ c) (hcm : c ≤ 9223372036854775807) :
    Calls Tryd.prog 12 #[.slice (some ⟨g, 0, none⟩) n c] w fun e w' => e = .returned (.bool R) ∧ w = w' := by
  subst hR hL
  rw [List.length_append, ht] at hn
  subst hn
  refine is_long g 0 c m t w ht hlc hcm (fun i hi => ?_) hb hT
  rw [List.length_append, ht] at hi
  rw [Nat.zero_add, hown.cellAt i (by omega), bv_get _ i (by rw [List.length_append, ht]; exact hi)]
theorem sum_own (w : World) (B E : Nat) (a : Option Addr) (c : Nat) (L : List Nat) (hb : B8 L) (hl : L.length ≤ 9223372036854775807) (hT : WorthIn w) (hown : w.ownsRow B E 1 (.slice a L.length c) L.length (bv L)) :
    Calls Tryd.prog 7 #[.slice a L.length c] w fun e w' => e = .returned (.int .u32 ((more 0#32 L).toNat : Nat)) ∧ w = w' := by
  obtain ⟨a', c', he, hs, _⟩ := own_slice hown
  simp only [Value.slice.injEq, true_and] at he
  obtain ⟨rfl, rfl⟩ := he
  exact sum_any a c L w hb hl hs hT
set_option maxRecDepth 100000 in
set_option maxHeartbeats 1000000 in
theorem finds_any (a b : Option Addr) (la lb : List Nat) (ca cb : Nat) (x : Int) (w : World) (hba : B8 la) (hbb : B8 lb) (hsa : Src w a la) (hsb : Src w b lb) (hla : la.length ≤ ca) (hlb : lb.length ≤ cb) (hca : ca ≤ 140737488355328) (hcb : cb ≤ 140737488355328) (hza : a = none → ca = 0) (hzb : b = none → cb = 0)
    (hg : Hg w) (hT : WorthIn w) :
    Calls Tryd.prog 4 #[.slice a la.length ca, .slice b lb.length cb, .int .i64 x] w fun e w' => e = .returned (.bool true) ∧ Below w.heap.size w w' := by
  have hla' : la.length ≤ 140737488355328 := by omega
  have hlb' : lb.length ≤ 140737488355328 := by omega
  by_cases hlen : 600 < la.length + lb.length
  · have d0 : decide (600 < (la.length : Int) + (lb.length : Int)) = true := by simp; omega
    go_enter Tryd.func4, Tryd.ntmps4
    go_wp2_with fail
    refine (sure_any _ hg hT).mono ?_
    rintro e w6 ⟨rfl, hb6⟩
    go_wp2_with fail
    go_ret
    exact ⟨rfl, hb6⟩
  have d0 : decide (600 < (la.length : Int) + (lb.length : Int)) = false := by simp; omega
  have hown0 := Lib.hid (World.ownsRow_nil w w.heap.size 5 1)
  have HG := Lib.hid hg
  have HTo := Lib.hid hT
  have Hsa := Lib.hid hsa
  have Hsb := Lib.hid hsb
  clear hg hT hsa hsb
  go_enter Tryd.func4, Tryd.ntmps4
  go_wp2_with (first
    | (show wpList _ _ _ (⟨some 19, _, _, _, _, _⟩ :: _) _ _; refine wpList_append_bytes rfl (.tmp 17) (.tmp 18) 22 rfl w.heap.size 5 Tryd.underlying22 infoByte3 _ [] rfl hown0 a ca la (by rfl) hza Hsa.out (by simp; omega) (Nat.le_refl _) ?_; intro r1 w1 hown1 hgrow1 hnear1; have hb1 : Below w.heap.size w w1 := (Below.refl w.heap.size w).grown hgrow1.out (Nat.le_refl _) (by intro k hk; cases hk))
    | (show wpList _ _ _ (⟨some 21, _, _, _, _, _⟩ :: _) _ _; refine wpList_append_bytes rfl (.tmp 19) (.tmp 20) 22 rfl w.heap.size 5 Tryd.underlying22 infoByte3 r1 ([] ++ la) (by rfl) hown1 b cb lb (by rfl) hzb (Hsb.out.below hb1 (Nat.le_refl _)) (by simp; omega) hb1.size ?_; intro r2 w2 hown2 hgrow2 hnear2))
  have hb2 : Below w.heap.size w w2 := hb1.grown hgrow2.out hb1.size (own_lt hown1.out)
  rw [List.nil_append] at hown2
  have hBL : B8 (la ++ lb) := hba.append hbb
  have hSe : more (more 0#32 la) lb = more 0#32 (la ++ lb) := (more_append _ _ _).symm
  have hLl : (la ++ lb).length ≤ 600 := by rw [List.length_append]; omega
  have F2 := sum_any a ca la w2 hba (by omega) (Hsa.out.below hb2 (Nat.le_refl _)) (HTo.out.below hb2)
  have F3 := more_any (more 0#32 la) b cb lb w2 hbb (by omega) (Hsb.out.below hb2 (Nat.le_refl _)) (HTo.out.below hb2)
  rw [hSe] at F3
  generalize la ++ lb = L at *
  obtain ⟨a2, c2, rfl, hs2, hlc2, hcm2, hz2⟩ := own_slice hown2.out
  have F1 := sum_own w2 w.heap.size 5 a2 c2 L hBL (by omega) (HTo.out.below hb2) hown2.out
  have hSl : (more 0#32 L).toNat < 4294967296 := by have := (more 0#32 L).isLt; omega
  have hSal : (more 0#32 la).toNat < 4294967296 := by have := (more 0#32 la).isLt; omega
  clear hown1 hgrow1 hnear1 hgrow2 hnear2 hb1 hs2 hz2 hSe
  obtain ⟨S, hS⟩ : ∃ S, S = (more 0#32 L).toNat := ⟨_, rfl⟩
  rw [← hS] at F1 F3 hSl
  generalize (more 0#32 la).toNat = SA at *
  have HS := Lib.hid hS
  have H := Lib.hid (And.intro F1 (And.intro F2 F3))
  have Hb2 := Lib.hid hb2
  clear F1 F2 F3 hS hb2
  obtain ⟨m0, h0⟩ : ∃ m0, m0 = S / 16777216 := ⟨_, rfl⟩
  obtain ⟨m1, h1⟩ : ∃ m1, m1 = S / 65536 % 256 := ⟨_, rfl⟩
  obtain ⟨m2, h2⟩ : ∃ m2, m2 = S / 256 % 256 := ⟨_, rfl⟩
  obtain ⟨m3, h3⟩ : ∃ m3, m3 = S % 256 := ⟨_, rfl⟩
  have e0 : (S : Int) / 16777216 = (m0 : Int) := by omega
  have e1 : (S : Int) / 65536 % 256 = (m1 : Int) := by omega
  have e2 : (S : Int) / 256 % 256 = (m2 : Int) := by omega
  have e3 : (S : Int) % 256 = (m3 : Int) := by omega
  have l0 : m0 < 256 := by omega
  have l1 : m1 < 256 := by omega
  have l2 : m2 < 256 := by omega
  have l3 : m3 < 256 := by omega
  have HN := Lib.hid (show ((m0 * 256 + m1) * 256 + m2) * 256 + m3 = S by omega)
  have HBT : Hid (B8 (L ++ [m0, m1, m2, m3])) := hBL.append (fun y hy => by simp at hy; omega)
  clear h0 h1 h2 h3 hBL
  refine H.out.1.mono ?_; rintro e w' ⟨rfl, rfl⟩
  go_wp2_with fail
  refine H.out.2.1.mono ?_; rintro e w' ⟨rfl, rfl⟩
  go_wp2_with fail
  refine H.out.2.2.mono ?_; rintro e w' ⟨rfl, rfl⟩
  go_wp2_with (show wpList _ _ _ (⟨some 43, _, _, _, _, _⟩ :: _) _ _; refine wpList_append_bytes rfl (.tmp 30) (.tmp 42) 22 rfl w.heap.size 5 Tryd.underlying22 infoByte3 _ L (by rfl) (hown2.out.alloc _) (some ⟨w2.heap.size, 0, none⟩) 4 [m0, m1, m2, m3] (by rfl) (by intro h; cases h) (by exact fun _ => ⟨_, _, rfl, src_new w2 _ _ [m0, m1, m2, m3]⟩) (by simp; omega) (by have := Hb2.out.size; simp; omega) ?_; intro r3 w3 hown3 hgrow3 hnear3)
  have hw2 := Hb2.out.size
  have hb3 : Below w.heap.size w w3 := (Hb2.out.alloc hw2 _).grown hgrow3.out (by simp; omega) (own_lt hown2.out)
  have Hb3 := Lib.hid hb3
  clear hown2 hgrow3 hnear3 hb3 H hw2
  have hK1 : (L ++ [m0, m1, m2, m3]).length = L.length + 4 := by simp
  obtain ⟨LT, hLT⟩ : ∃ LT, LT = L ++ [m0, m1, m2, m3] := ⟨_, rfl⟩
  rw [← hLT] at hown3 HBT hK1
  have HLT := Lib.hid hLT
  clear hLT
  obtain ⟨K, hK⟩ : ∃ K, K = LT.length := ⟨_, rfl⟩
  rw [← hK] at hown3 hK1
  have HK := Lib.hid hK
  have hK4 : 4 ≤ K := by omega
  have hKm : K ≤ 604 := by omega
  clear hK hK1
  obtain ⟨g, cap, rfl, hlc3, hcm3, hgl, _⟩ := own_form hown3.out (by omega)
  have hcap : cap ≤ 9223372036854775807 := by unfold maxLen at hcm3; omega
  clear hcm3
  have hnum : numL [m0, m1, m2, m3] = S := by rw [numL_four _ rfl]; exact HN.out
  refine (is_own w3 w.heap.size 5 cap g L [m0, m1, m2, m3] LT K HK.out.symm HLT.out rfl HBT.out (HTo.out.below Hb3.out) true (by rw [hnum, HS.out]; simp) hown3.out hlc3 hcap).mono ?_
  rintro e w' ⟨rfl, rfl⟩
  obtain ⟨q, hq⟩ := Int.eq_ofNat_of_zero_le (show 0 ≤ IntKind.u64.wrap x by rw [IntKind.wrap_u64]; omega)
  obtain ⟨P, hP⟩ : ∃ P, P = q % (8 * K) := ⟨_, rfl⟩
  have hPl : P < 8 * K := by rw [hP]; exact Nat.mod_lt _ (by omega)
  have eP : (q : Int) % (8 * (K : Int)) = (P : Int) := by rw [hP, Int.natCast_emod]; rfl
  obtain ⟨I, hI⟩ : ∃ I, I = P / 8 := ⟨_, rfl⟩
  obtain ⟨J, hJ⟩ : ∃ J, J = P % 8 := ⟨_, rfl⟩
  have eI : (P : Int) / 8 = (I : Int) := by omega
  have eJ : (P : Int) % 8 = (J : Int) := by omega
  have hIK : I < K := by omega
  have hJ8 : J < 8 := by omega
  clear hP hI hJ
  have hcell := hown3.out.cellAt I (by omega)
  rw [bv_get LT I (by rw [← HK.out]; exact hIK)] at hcell
  have hfr := hown3.out.frozenAt I
  have hX := HBT.out.get I
  obtain ⟨X, hXe⟩ : ∃ X, X = LT.getD I 0 := ⟨_, rfl⟩
  rw [← hXe] at hcell hX
  have HX := Lib.hid hXe
  clear hXe
  have hbit : 2 ^ J < 256 := by
    have : 2 ^ J ≤ 2 ^ 7 := Nat.pow_le_pow_right (by decide) (by omega)
    omega
  have hY := xor_u8_lt X (2 ^ J) hX hbit
  have eY := xor_u8_nat X (2 ^ J) hX hbit
  have hne := xor_bit_ne X J
  have e2J : (2 : Int) ^ J % 256 = ((2 ^ J : Nat) : Int) := by
    have : ((2 ^ J : Nat) : Int) = (2 : Int) ^ J := Int.natCast_pow 2 J
    have h3 := Int.natCast_emod (2 ^ J) 256
    rw [Nat.mod_eq_of_lt hbit] at h3
    rw [← this]
    exact h3.symm
  generalize X ^^^ 2 ^ J = Y at *
  generalize (2 : Nat) ^ J = T2 at *
  have Hne := Lib.hid hne
  clear hne
  have hst := hown3.out.stored I (.int .u8 (Y : Int))
  rw [bv_set] at hst
  have Hst := Lib.hid hst.1
  have Hb4 := Lib.hid (Hb3.out.setCell (p := ⟨g, I, none⟩) hgl (.int .u8 (Y : Int)))
  clear hst
  obtain ⟨m', t', hset, hm', ht', hdec⟩ := turned L [m0, m1, m2, m3] I Y rfl (by rw [← HLT.out]; exact HBT.out) hY (by have := HK.out; rw [HLT.out] at this; simp at this; omega) (by rw [← HLT.out, ← HX.out]; exact Hne.out) (by rw [hnum, HS.out])
  rw [← HLT.out] at hset
  have Hset := Lib.hid (And.intro hset (And.intro ht' hdec))
  clear hset hm' ht' hdec hnum
  go_wp2_with fail
  refine (is_own _ w.heap.size 5 cap g m' t' (LT.set I Y) K (by rw [List.length_set]; exact HK.out.symm) Hset.out.1 Hset.out.2.1 (HBT.out.set I Y hY) (HTo.out.below Hb4.out) false Hset.out.2.2 Hst.out hlc3 hcap).mono ?_
  rintro e w5 ⟨rfl, h5⟩
  subst h5
  go_wp2_with fail
  refine (sure_any _ (HG.out.below Hb4.out) (HTo.out.below Hb4.out)).mono ?_
  rintro e w6 ⟨rfl, hb6⟩
  go_wp2_with fail
  go_ret
  exact ⟨rfl, Hb4.out.trans (hb6.mono Hb4.out.size)⟩
end Go.Proofs.YthnlbabceeejiaaDoor
