/-
  branch's Way (sort.Search with its closure), put, Encode.
-/
import Derived.Test.YtjlllkdimfkjaaaDoorBranch1
import Derived.Test.YtjlllkdimfkjaaaDoorStrBy
import Derived.Test.YtjlllkdimfkjaaaDoorIntPut
import Derived.Test.YtjlllkdimfkjaaaDoorPack1
import Derived.Shelf.GgClosure.Gives
namespace Go.Proofs.YtjlllkdimfkjaaaDoor
open Go Go.RowKit Go.Shelf

theorem bgt_eq (a b : ByteArray) : (!Op.bytesLess a.toList b.toList && !a.toList == b.toList) = blt b a := by
  rw [← Bool.not_or, ble_eq, Bool.not_not]
abbrev STS : TypeId := 22
set_option maxRecDepth 100000 in
theorem way1_any (w : World) (b1 b2 h : Nat) (a : Option Addr) (n c : Nat) (ks : List ByteArray) (key : ByteArray) (h1 : w.cell? ⟨b1, 0, none⟩ = some (.slice a n c)) (h2 : w.cell? ⟨b2, 0, none⟩ = some (.string key)) (hn : ks.length = n) (hs : TxS w a ks) (hh : h < n) :
    Calls Tryd.prog 31 #[.int .i64 h, .pointer (some ⟨b1, 0, none⟩), .pointer (some ⟨b2, 0, none⟩)] w fun e w' => e = .returned (.bool (blt key (sa ks h))) ∧ Below w.heap.size w w' := by
  obtain ⟨g, o, rfl, hcell⟩ := hs (by omega)
  have hA := hcell h (by omega)
  have q0 : ∀ w', Ext w.drew w' → w'.cell? ⟨g, o + h, none⟩ = some (.string (sa ks h)) := fun w' hw => by
    rw [((Below.refl w.heap.size w).drew.trans hw).cell (p := ⟨g, o + h, none⟩) (block_lt_of_cell hA)]; exact hA
  have l1 := block_lt_of_cell h1
  have l2 := block_lt_of_cell h2
  have q1 : ∀ w', Ext w.drew w' → w'.cell? ⟨b1, 0, none⟩ = some (.slice (some ⟨g, o, none⟩) n c) := fun w' hw => by
    rw [((Below.refl w.heap.size w).drew.trans hw).cell (p := ⟨b1, 0, none⟩) l1]; exact h1
  have q2 : ∀ w', Ext w.drew w' → w'.cell? ⟨b2, 0, none⟩ = some (.string key) := fun w' hw => by
    rw [((Below.refl w.heap.size w).drew.trans hw).cell (p := ⟨b2, 0, none⟩) l2]; exact h2
  have hle := bgt_eq (sa ks h) key
  generalize blt key (sa ks h) = D at *
  clear hcell hA hs h1 h2 hn
  go_enter Tryd.func31, Tryd.ntmps31
  go_wp2_with fail
  refine wp_region_gr [(0, true), (1, true), (2, true), (3, true), (4, true), (5, true), (6, true)] (by kernel_rfl) (by kernel_rfl) (by kernel_rfl) (by kernel_rfl) (fun _ _ _ _ _ h => h) ?_
  iterate 7 (refine wpGr_read (o := ⟨_, _, _, _, _, _⟩) (v := ?_) rfl (by rfl) ?_ ?_; rotate_left; (intro w' hw'; go_simp; with_reducible rfl); simp only [Act.put, List.setIfInBounds_toArray, List.set_cons_zero, List.set_cons_succ])
  refine wpGr_done ?_
  go_wp2_with fail
  go_ret
  exact ⟨rfl, (Below.refl _ _).drew⟩
set_option maxRecDepth 100000 in
theorem waySearch_any (w : World) (b1 b2 : Nat) (a : Option Addr) (n c : Nat) (ks : List ByteArray) (key : ByteArray) (h1 : w.cell? ⟨b1, 0, none⟩ = some (.slice a n c)) (h2 : w.cell? ⟨b2, 0, none⟩ = some (.string key)) (hn : ks.length = n) (hs : TxS w a ks) (ha : keysF ks) (hl : n ≤ 65536) :
    Calls Tryd.prog 30 #[.int .i64 n, .func (.func 31) #[] #[.pointer (some ⟨b1, 0, none⟩), .pointer (some ⟨b2, 0, none⟩)]] w fun e w' => e = .returned (.int .i64 (wayS ks key : Nat)) ∧ Below w.heap.size w w' := by
  have eg : ∀ args w, (callFunc 31 args).run Tryd.prog w = .ok (.enter 31 args) w := enters_of Tryd.func31 (by kernel_rfl) rfl
  have hcall : ∀ (w' : World) (h : Nat), h < n → Below w.heap.size w w' → Calls Tryd.prog 31 #[.int .i64 h, .pointer (some ⟨b1, 0, none⟩), .pointer (some ⟨b2, 0, none⟩)] w' fun e w'' => e = .returned (.bool (blt key (sa ks h))) ∧ Below w'.heap.size w' w'' := fun w' h hh hb =>
    way1_any w' b1 b2 h a n c ks key (by rw [hb.cell (p := ⟨b1, 0, none⟩) (block_lt_of_cell h1)]; exact h1) (by rw [hb.cell (p := ⟨b2, 0, none⟩) (block_lt_of_cell h2)]; exact h2) hn (hs.below hb (Nat.le_refl _)) hh
  have Hcall := Lib.hid hcall
  have hyes : ∀ h, h < n → blt key (sa ks h) = false → h < wayS ks key := fun h hh hb => by
    rcases Nat.lt_or_ge h (wayS ks key) with h3 | h3
    · exact h3
    · rw [wayS_ge ha key h h3 (by omega)] at hb; cases hb
  have hno : ∀ h, h < n → blt key (sa ks h) = true → wayS ks key ≤ h := fun h hh hb => by
    rcases Nat.lt_or_ge h (wayS ks key) with h3 | h3
    · rw [wayS_lt ks key h h3] at hb; cases hb
    · exact h3
  have Hyes := Lib.hid (And.intro hyes hno)
  have hF : wayS ks key ≤ n := by have := wayS_le ks key; omega
  clear hcall hyes hno h1 h2 hn hs ha
  generalize wayS ks key = F at *
  go_enter Tryd.func30, Tryd.ntmps30
  go_wp2_with fail
  go_loopw [5, 6] (fun i j wr => ∃ x y : Nat, i = .int .i64 x ∧ j = .int .i64 y ∧ x ≤ y ∧ y ≤ n ∧ x ≤ F ∧ F ≤ y ∧ Hid (Below w.heap.size w wr)) (fun i j _ => (intOf j - intOf i).toNat)
  case atStart => exact ⟨0, n, rfl, rfl, by omega, by omega, by omega, by omega, Below.refl _ _⟩
  case round =>
    obtain ⟨x, y, rfl, rfl, hxy, hyn, hx, hy, hB⟩ := hrel
    by_cases hlt : x < y
    · obtain ⟨H, hH⟩ : ∃ H, H = (x + y) / 2 := ⟨_, rfl⟩
      have e1 : ((x : Int) + (y : Int)) / 2 = (H : Int) := by omega
      have z1 : x ≤ H := by omega
      have z2 : H < y := by omega
      have hc := Lib.hid (Hcall.out wr H (by omega) hB.out)
      have hs := Hyes.out.1 H (by omega)
      have hs2 := Hyes.out.2 H (by omega)
      clear hH
      generalize blt key (sa ks H) = D at *
      cases D with
      | false =>
        have hs' := hs rfl
        clear hs hs2
        go_wp2_with (go_at_fn 31; refine hc.out.mono ?_; rintro e w' ⟨rfl, hb⟩)
        have hB2 := Lib.hid (hB.out.trans (hb.mono hB.out.size))
        clear hb
        go_roundw
        case rel => exact ⟨H + 1, y, by go_num, rfl, by omega, by omega, by omega, by omega, hB2⟩
        case measure => simp [intOf]; omega
      | true =>
        have hs' := hs2 rfl
        clear hs hs2
        go_wp2_with (go_at_fn 31; refine hc.out.mono ?_; rintro e w' ⟨rfl, hb⟩)
        have hB2 := Lib.hid (hB.out.trans (hb.mono hB.out.size))
        clear hb
        go_roundw
        case rel => exact ⟨x, H, rfl, by go_num, by omega, by omega, by omega, by omega, hB2⟩
        case measure => simp [intOf]; omega
    · obtain rfl : x = F := by omega
      go_wp2
      go_ret
      exact ⟨rfl, hB.out⟩
set_option maxRecDepth 100000 in
theorem brWay_any (a : Option Addr) (n c : Nat) (ks : List ByteArray) (key : ByteArray) (w : World) (hn : ks.length = n) (hs : TxS w a ks) (ha : keysF ks) (hl : n ≤ 65536) :
    Calls Tryd.prog 15 #[.slice a n c, .string key] w fun e w' => e = .returned (.int .i64 (wayS ks key : Nat)) ∧ Below w.heap.size w w' := by
  obtain ⟨w2, hw2⟩ : ∃ w2, w2 = (w.alloc (.cells #[.slice a n c] STS)).alloc (.cells #[.string key] 9) := ⟨_, rfl⟩
  have hb2 : Below w.heap.size w w2 := by rw [hw2]; exact ((Below.refl _ _).alloc (Nat.le_refl _) _).alloc (by simp) _
  have c1 : w2.cell? ⟨w.heap.size, 0, none⟩ = some (.slice a n c) := by rw [hw2]; simp
  have c2 : w2.cell? ⟨w.heap.size + 1, 0, none⟩ = some (.string key) := by rw [hw2]; simp
  have hsr := Lib.hid (waySearch_any w2 w.heap.size (w.heap.size + 1) a n c ks key c1 c2 hn (hs.below hb2 (Nat.le_refl _)) ha hl)
  have hmf : ∀ (fn : Fn) (first cap : Array Value) (w : World), (Instr.makeFunc fn first cap).run Tryd.prog w = .ok (.func fn first cap) w := fun _ _ _ _ => rfl
  have Hb2 := Lib.hid hb2
  clear c1 c2 hs hn hb2 ha
  generalize wayS ks key = F at *
  subst hw2
  go_enter Tryd.func15, Tryd.ntmps15
  go_wp2_with fail
  refine hsr.out.mono ?_
  rintro e w3 ⟨rfl, hb3⟩
  have HB := Lib.hid (Hb2.out.trans (hb3.mono Hb2.out.size))
  clear hb3 hsr Hb2 hmf
  go_wp2
  go_ret
  exact ⟨rfl, HB.out⟩
theorem brPut_any (a : Option Addr) (n c : Nat) (l : List Nat) (p : Nat) (w : World) (hn : l.length = n) (hs : Src w a l) (hl : n ≤ 65536) (hp : p ≤ 1023) :
    Calls Tryd.prog 17 #[.slice a n c, .int .i64 p] w fun e w' => ∃ r, e = .returned r ∧ Sl w' r (l ++ twoP p) ∧ Below w.heap.size w w' := by
  subst hn
  have hput := Lib.hid (intPut_in a c l p 2 w hl (by omega) (by omega) (by omega) hs)
  have z1 : IntKind.u64.wrap (p : Int) = (p : Int) := by rw [IntKind.wrap_u64]; omega
  have htw : Hid (twoP p = beL p 2) := rfl
  have hlen : Hid ((l ++ beL p 2).length = l.length + 2) := by show _ = _; rw [List.length_append]; rfl
  clear hs
  go_enter Tryd.func17, Tryd.ntmps17
  go_wp2_with fail
  refine hput.out.mono ?_
  rintro e w' ⟨rfl, hr, hb⟩
  have hs := Sl.row hr (by rw [hlen.out]; unfold maxLen; omega)
  rw [hlen.out] at hs
  go_wp2
  go_ret
  exact ⟨_, rfl, by rw [htw.out]; exact hs, hb⟩
theorem putF_next (ks : List ByteArray) (is : List Int) (k : Nat) : putF ks is (k + 1) = (putF ks is k ++ vb (sa ks k).size ++ bn (sa ks k)) ++ twoP (ia is (k + 1)) := by
  rw [putF]; unfold pcF; simp only [List.append_assoc]
set_option maxRecDepth 100000 in
set_option maxHeartbeats 1000000 in
theorem brEncode_any (a b : Option Addr) (n c m d : Nat) (ks : List ByteArray) (is : List Int) (w : World) (hn : ks.length = n) (hm : is.length = m) (hs : TxS w a ks) (hp : PgS w b is) (hl : n ≤ 65536) (hl2 : m ≤ 65537) :
    Calls Tryd.prog 7 #[.agg #[.slice a n c, .slice b m d]] w fun e w' => ∃ v, e = .returned (.tuple #[v, errV (encFE ks is)]) ∧ Sl w' v (encFB ks is) ∧ Below w.heap.size w w' := by
  have Hn := Lib.hid (And.intro hn hm)
  obtain ⟨w0, hw0⟩ : ∃ w0, w0 = w.alloc (.cells #[.slice a n c, .slice b m d] FT) := ⟨_, rfl⟩
  have hb0 : Hid (Below w.heap.size w w0) := by rw [hw0]; exact (Below.refl _ _).alloc (Nat.le_refl _) _
  have hpb : Hid (PB w0 w.heap.size FT (.slice a n c) (.slice b m d)) := by rw [hw0]; exact PB.new _ _ _ _
  have hw0' := Lib.hid hw0.symm
  have Hs := Lib.hid (And.intro (hs.below hb0.out (Nat.le_refl _)) (hp.below hb0.out (Nat.le_refl _)))
  have hC := Lib.hid (brCheck_any a b n c m d ks is w0 hn hm Hs.out.1 Hs.out.2 (by omega) (by omega))
  clear hs hn hm hp hw0
  go_enter Tryd.func7, Tryd.ntmps7
  go_wp2_with fail
  rw [hw0'.out]
  refine hC.out.mono ?_
  rintro e w1 ⟨D, rfl, hD, hb1⟩
  have HD := Lib.hid hD
  have Hb1 := Lib.hid (hb0.out.trans (hb1.mono hb0.out.size))
  have Hpb := Lib.hid (hpb.out.ext hb1)
  have Hs1 := Lib.hid (And.intro (Hs.out.1.below hb1 (Nat.le_refl _)) (Hs.out.2.below hb1 (Nat.le_refl _)))
  clear hD hb1 hC hw0' hb0 hpb Hs
  unfold chkF
  cases D with
  | false =>
    have he := Lib.hid (encF_1 (fun h => by have := HD.out.2 h; cases this))
    simp only [Bool.false_eq_true, if_false]
    go_wp2
    go_ret2
    exact ⟨.slice none 0 0, by rw [he.out.1]; rfl, by rw [he.out.2]; exact Sl.none _, Hb1.out⟩
  | true =>
    have hmay := Lib.hid (HD.out.1 rfl)
    have c0 := Hpb.out.c0
    have c1 := Hpb.out.c1
    have hsz := Lib.hid (brSize_any a n c ks w1 Hn.out.1 Hs1.out.1 (by omega) hmay.out.1)
    have hll : Hid ((forkS ks is).length = sizeTo ks n) := by show _ = _; rw [fork_len hmay.out.1, Hn.out.1]
    have hle := sizeTo_le hmay.out.1 n (by rw [Hn.out.1]; exact Nat.le_refl _)
    have hmono := Lib.hid (sizeTo_mono ks n)
    have h5 : Hid (504 < sizeTo ks n → encFE ks is = 5 ∧ encFB ks is = []) := fun h => encF_5 hmay.out (by rw [hll.out]; exact h)
    have h0 : Hid (sizeTo ks n ≤ 504 → encFE ks is = 0 ∧ encFB ks is = forkS ks is) := fun h => encF_0 hmay.out (by rw [hll.out]; exact h)
    generalize sizeTo ks n = LL at *
    clear HD
    simp only [if_true]
    go_wp2_with fail
    refine hsz.out.mono ?_
    rintro e w2 ⟨rfl, hb2⟩
    have Hpb2 := Lib.hid (Hpb.out.ext hb2)
    have Hs2 := Lib.hid (And.intro (Hs1.out.1.below hb2 (Nat.le_refl _)) (Hs1.out.2.below hb2 (Nat.le_refl _)))
    have Hb2 := Lib.hid (Hb1.out.trans (hb2.mono Hb1.out.size))
    clear hb2 Hb1 Hs1 Hpb hsz c0 c1
    by_cases hlong : 504 < LL
    · have he := Lib.hid (h5.out hlong)
      have d1 : decide (504 < (LL : Int)) = true := decide_eq_true (by omega)
      clear h5 h0
      go_wp2
      go_ret2
      exact ⟨.slice none 0 0, by rw [he.out.1]; rfl, by rw [he.out.2]; exact Sl.none _, Hb2.out⟩
    · have he := Lib.hid (h0.out (by omega))
      have d1 : decide (504 < (LL : Int)) = false := decide_eq_false (by omega)
      have c0 := Hpb2.out.c0
      have c1 := Hpb2.out.c1
      have hm1 : m = n + 1 := by have := hmay.out.2.2.2; rw [Hn.out.1, Hn.out.2] at this; exact this
      obtain ⟨g2, o2, rfl, hpc⟩ := Hs2.out.2 (by rw [Hn.out.2]; omega)
      have hpg := Lib.hid (fun i hi => (hmay.out.2.1 i hi).1)
      have q0 := hpc 0 (by rw [Hn.out.2]; omega)
      have hr0 := hpg.out 0 (by rw [Hn.out.2]; omega)
      obtain ⟨p0, hp0⟩ := Int.eq_ofNat_of_zero_le (show 0 ≤ ia is 0 by omega)
      have hst : Hid ([] ++ twoP (p0 : Int) = putF ks is 0) := by show _ = _; rw [putF, hp0]; rfl
      rw [hp0, Nat.add_zero] at q0
      have hm0 : (0 : Int) < (m : Int) := by omega
      have hput := Lib.hid (brPut_any none 0 0 [] p0 w2 rfl (Src.nil _ _) (by omega) (by omega))
      rw [hst.out] at hput
      have Hm1 := Lib.hid hm1
      clear h5 h0 hpc hp0 hr0 hst hm1
      go_wp2_with fail
      refine hput.out.mono ?_
      rintro e w3 ⟨r, rfl, hr, hb3⟩
      have Hr := Lib.hid hr
      have Hpb3 := Lib.hid (Hpb2.out.ext hb3)
      have Hs3 := Lib.hid (And.intro (Hs2.out.1.below hb3 (Nat.le_refl _)) (Hs2.out.2.below hb3 (Nat.le_refl _)))
      have Hb3 := Lib.hid (Hb2.out.trans (hb3.mono Hb2.out.size))
      have c0' := Hpb3.out.c0
      clear hr hb3 Hb2 Hs2 Hpb2 hput c0 c1 q0
      go_wp2_with fail
      go_loopw [4, 5, 6, 24] (fun bv _ _ i wr => ∃ (k : Nat) (r : Value), bv = r ∧ i = .int .i64 k ∧ k ≤ n ∧ Hid (Sl wr r (putF ks is k)) ∧ Hid (PB wr w.heap.size FT (.slice a n c) (.slice (some ⟨g2, o2, none⟩) m d)) ∧ Hid (TxS wr a ks ∧ PgS wr (some ⟨g2, o2, none⟩) is) ∧ Hid (Below w.heap.size w wr)) (fun _ _ _ i _ => n - (intOf i).toNat)
      case atStart => exact ⟨0, r, rfl, rfl, by omega, Hr, Hpb3, Hs3, Hb3⟩
      case round =>
        obtain ⟨k, r, rfl, rfl, hk, hsl, hpb, hS, hB⟩ := hrel
        by_cases hlt : k < n
        · obtain ⟨g, o, rfl, hcell⟩ := hS.out.1 (by rw [Hn.out.1]; omega)
          obtain ⟨g', o', e, hpc⟩ := hS.out.2 (by rw [Hn.out.2]; omega)
          cases e
          have q0 := hcell k (by rw [Hn.out.1]; exact hlt)
          have q1 := hpc (k + 1) (by rw [Hn.out.2, Hm1.out]; omega)
          have hr0 := hpg.out (k + 1) (by rw [Hn.out.2, Hm1.out]; omega)
          have hksz := okK_size (hmay.out.1 k (by rw [Hn.out.1]; exact hlt)).1
          obtain ⟨p0, hp0⟩ := Int.eq_ofNat_of_zero_le (show 0 ≤ ia is (k + 1) by omega)
          have hpn := Lib.hid (putF_next ks is k)
          have hpl : Hid ((putF ks is k).length + (3 + (sa ks k).size) ≤ 504) := by
            have h1 := putF_len (is := is) (keys_small hmay.out.1) k (by rw [Hn.out.1]; exact hk)
            have h2 := hmono.out (k + 1) hlt
            rw [sizeTo] at h2
            show _ ≤ _; rw [h1]; omega
          rw [hp0] at hpn q1 hr0
          clear hp0
          generalize sa ks k = y at *
          obtain ⟨ab, cb, rfl, hsb, hzb, _⟩ := hsl.out.arg
          obtain ⟨L, hL⟩ : ∃ L, L = putF ks is k := ⟨_, rfl⟩
          rw [← hL] at hsb hpn hpl ⊢
          obtain ⟨M, hM⟩ : ∃ M, M = L.length := ⟨_, rfl⟩
          rw [← hM] at hpl ⊢
          have hbd : Below wr.heap.size wr wr.drew := (Below.refl _ _).drew
          obtain ⟨g4, c4, w4, hcv4, hsrc4, _, hc4, hb4⟩ := conv_str wr.drew y (by omega)
          have hb04 : Below wr.heap.size wr w4 := hbd.trans (hb4.mono (Nat.le_refl _))
          have hpk := Lib.hid (packBytes_any ab (some ⟨g4, 0, none⟩) M cb y.size c4 L (bn y) hM.symm (bn_len y) w4 (hsb.below hb04 (Nat.le_refl _)) hsrc4 (fun h => by cases h) (by have := hpl.out; omega) (by omega))
          have hv10 := vs_le (show y.size < 18446744073709551616 by omega)
          have hl1 : Hid ((L ++ vb y.size ++ bn y).length = M + vs y.size + y.size) := by show _ = _; rw [List.length_append, bn_len, List.length_append, hM]; rfl
          have r1 : ∀ w', Ext wr.drew w' → w'.cell? ⟨w.heap.size, 1, none⟩ = some (.slice (some ⟨g2, o2, none⟩) m d) := fun w' hw => (hpb.out.extD hw).c1
          have l1 := block_lt_of_cell q1
          have r2 : ∀ w', Ext wr.drew w' → w'.cell? ⟨g2, o2 + (k + 1), none⟩ = some (.int .i64 p0) := fun w' hw => by
            rw [((Below.refl wr.heap.size wr).drew.trans hw).cell (p := ⟨g2, o2 + (k + 1), none⟩) l1]; exact q1
          have i4 : IntKind.i64.wrap ((k : Int) + 1) = (k : Int) + 1 := by rw [IntKind.wrap_i64]; omega
          have i1 : (0 : Int) ≤ (k : Int) + 1 := by omega
          have hkm : k + 1 < m := by have := Hm1.out; omega
          have i2 : (k : Int) + 1 < (m : Int) := by omega
          have Hb4 := Lib.hid hb4
          have hS2 := Lib.hid (fun w' (hb : Below wr.heap.size wr w') => And.intro (hpb.out.ext hb) (And.intro (hS.out.1.below hb (Nat.le_refl _)) (hS.out.2.below hb (Nat.le_refl _))))
          have Hb04 := Lib.hid hb04
          have hpl' := hpl.out
          clear hcell hpc hsl hsb hzb hL hM hbd hsrc4 hc4 hb4 hb04 hpb hS l1 hpl
          go_wp2_with fail
          refine wp_region_gr [(0, true), (1, true), (4, true), (5, true), (6, true), (7, true), (8, true), (9, true), (2, false), (3, false), (10, false), (11, true)] (by kernel_rfl) (by kernel_rfl) (by kernel_rfl) (by kernel_rfl) (fun _ _ _ _ _ h => h) ?_
          iterate 8 (refine wpGr_read (o := ⟨_, _, _, _, _, _⟩) (v := ?_) rfl (by rfl) ?_ ?_; rotate_left; (intro w' hw'; go_simp; with_reducible rfl); simp only [Act.put, List.setIfInBounds_toArray, List.set_cons_zero, List.set_cons_succ])
          clear r1 r2 q0 q1
          refine wpGr_call (o := ⟨_, _, _, _, _, _⟩) rfl (by rfl) (fun K hK => ?_)
          go_simp
          refine hK _ _ Hb4.out ?_
          clear hK K hcv4
          refine wpGr_call (o := ⟨_, _, _, _, _, _⟩) rfl (by rfl) (fun K hK => ?_)
          go_simp
          refine hpk.out.mono ?_
          rintro e w5 ⟨r, rfl, hv, hb5⟩
          refine hK _ _ hb5 ?_
          clear hK K hpk
          obtain ⟨a5, c5, rfl, hs5, _⟩ := hv.arg
          have Hb5 := Lib.hid (Hb04.out.trans (hb5.mono Hb04.out.size))
          have hput := Lib.hid (brPut_any a5 _ c5 (L ++ vb y.size ++ bn y) p0 w5 hl1.out hs5 (by omega) (by omega))
          rw [← hpn.out] at hput
          clear hv hs5 hb5 Hb04 hpn
          rw [hl1.out]
          refine wpGr_call (o := ⟨_, _, _, _, _, _⟩) rfl (by rfl) (fun K hK => ?_)
          go_simp
          refine hput.out.mono ?_
          rintro e w6 ⟨r, rfl, hv, hb6⟩
          refine hK _ _ hb6 ?_
          clear hK K hput
          have hb06 := Hb5.out.trans (hb6.mono Hb5.out.size)
          have hf := hS2.out w6 hb06
          have Hf := Lib.hid hf
          have Hv := Lib.hid hv
          have Hb6 := Lib.hid (hB.out.trans (hb06.mono hB.out.size))
          clear hb06 hf hv hb6 Hb5 hS2 hB hl1
          iterate 1 (refine wpGr_read (o := ⟨_, _, _, _, _, _⟩) (v := ?_) rfl (by rfl) ?_ ?_; rotate_left; (intro w' hw'; go_simp; with_reducible rfl); simp only [Act.put, List.setIfInBounds_toArray, List.set_cons_zero, List.set_cons_succ])
          refine wpGr_done ?_
          go_wp2_with fail
          go_roundw
          case rel => exact ⟨k + 1, r, rfl, by go_num, by omega, Hv, Hf.out.1, Hf.out.2, Hb6⟩
          case measure => simp [intOf]; omega
        · obtain rfl : k = n := by omega
          have hsl1 := hsl.out
          rw [show putF ks is k = forkS ks is by unfold forkS; rw [Hn.out.1]] at hsl1
          have hsl2 := Lib.hid hsl1
          clear hsl hpb hS hsl1
          go_wp2
          go_ret2
          exact ⟨_, by rw [he.out.1]; rfl, by rw [he.out.2]; exact hsl2.out, hB.out⟩
end Go.Proofs.YtjlllkdimfkjaaaDoor
