/-
  A reader whose bytes lie below a bound: rows above may change beside it. take, Byte; leaf's plain.
-/
import Derived.Test.YtjlllkdimfkjaaaDoorRd3
import Derived.Test.YtjlllkdimfkjaaaDoorLeafMath2
import Derived.Test.YtjlllkdimfkjaaaDoorGt
namespace Go.Proofs.YtjlllkdimfkjaaaDoor
open Go Go.RowKit

/-- A slice that is not empty lies below B. -/
def Lo (v : Value) (B : Nat) : Prop := ∀ g o n c, v = .slice (some ⟨g, o, none⟩) n c → 0 < n → g < B
structure Rb (w : World) (b B : Nat) (S : RS) : Prop where
  ex : ∃ v, SB w b RT v S.wr ∧ Sl w v S.l ∧ Lo v B
  b8 : B8 S.l
  len : S.l.length ≤ 65536
  inv : S.wr = true → S.l = []
theorem Rb.rd {w : World} {b B : Nat} {S : RS} (h : Rb w b B S) : Rd w b S := by
  obtain ⟨v, h1, h2, _⟩ := h.ex
  exact ⟨⟨v, h1, h2⟩, h.b8, h.len, h.inv⟩
theorem Rd.rb {w : World} {b : Nat} {S : RS} (h : Rd w b S) : Rb w b w.heap.size S := by
  obtain ⟨v, h1, h2⟩ := h.ex
  refine ⟨⟨v, h1, h2, fun g o n c e h0 => ?_⟩, h.b8, h.len, h.inv⟩
  subst e
  rcases h2 with ⟨e, _⟩ | ⟨g', o', c', e, hc, _⟩
  · cases e
  · cases e
    exact hc.lt h0
theorem Rb.lt {w : World} {b B : Nat} {S : RS} (h : Rb w b B S) : b < w.heap.size := h.rd.lt
theorem Rb.noByte {w : World} {b B : Nat} {S : RS} (h : Rb w b B S) : NoByte w b := h.rd.noByte
theorem Lo.none (B : Nat) : Lo (.slice none 0 0) B := fun _ _ _ _ e => by cases e
theorem Lo.empty (a : Option Addr) (c B : Nat) : Lo (.slice a 0 c) B := fun _ _ _ _ e h0 => by
  simp only [Value.slice.injEq] at e
  omega
theorem Lo.same {g o n c o' n' c' B : Nat} (h : Lo (.slice (some ⟨g, o, Option.none⟩) n c) B) (h1 : n' ≤ n) : Lo (.slice (some ⟨g, o', Option.none⟩) n' c') B := fun g2 o2 n2 c2 e h0 => by
  cases e
  exact h g o n c rfl (by omega)
theorem Rb.below {w w' : World} {b B : Nat} {S : RS} (h : Rb w b B S) (hb : Below w.heap.size w w') : Rb w' b B S := by
  obtain ⟨v, h1, h2, h3⟩ := h.ex
  exact ⟨⟨v, h1.below hb h1.lt, h2.below hb (Nat.le_refl _), h3⟩, h.b8, h.len, h.inv⟩
/-- A block above the bound turns. -/
theorem Rb.over {w w' : World} {b g B : Nat} {S : RS} (h : Rb w b B S) (t : Turn (fun i => i = g) w w') (hg : B ≤ g) (hb : b ≠ g) : Rb w' b B S := by
  obtain ⟨v, h1, h2, h3⟩ := h.ex
  refine ⟨⟨v, h1.turn t hb, ?_, h3⟩, h.b8, h.len, h.inv⟩
  rcases h2 with h4 | ⟨g', o', c', rfl, hc, h5, h6⟩
  · exact .inl h4
  · refine .inr ⟨g', o', c', rfl, fun i hi => ?_, h5, h6⟩
    have hlt := h3 g' o' _ c' rfl (by omega)
    rw [t.cell (p := ⟨g', o' + i, Option.none⟩) (block_lt_of_cell (hc i hi)) (by show ¬ g' = g; omega)]
    exact hc i hi
theorem spoilB_any (w : World) (b B : Nat) (S : RS) (h : Rb w b B S) :
    Calls Tryd.prog 50 #[.pointer (some ⟨b, 0, none⟩)] w fun e w' => e = .returned (.tuple #[]) ∧ Rb w' b B ⟨[], true⟩ ∧ Turn (fun i => i = b) w w' := by
  obtain ⟨v, h1, h2, h3⟩ := h.ex
  have H3 := Lib.hid h3
  clear h3
  have f0 := h1.fz 0
  have f1 := h1.fz 1
  have c0 := h1.c0
  have c1 := h1.c1
  have hr : Hid (Rb ((w.setCell ⟨b, 0, none⟩ (.slice none 0 0)).setCell ⟨b, 1, none⟩ (.bool true)) b B ⟨[], true⟩) :=
    ⟨⟨_, (h1.set0 (.slice none 0 0)).set1 true, Sl.none _, Lo.none _⟩, B8.nil, by simp, fun _ => rfl⟩
  have ht : Hid (Turn (fun i => i = b) w ((w.setCell ⟨b, 0, none⟩ (.slice none 0 0)).setCell ⟨b, 1, none⟩ (.bool true))) :=
    turn_set2 w b _ _
  clear h h1 h2
  go_enter Tryd.func50, Tryd.ntmps50
  go_wp2
  go_end0
  exact ⟨rfl, hr.out, ht.out⟩
set_option maxRecDepth 100000 in
theorem takeB_any (w : World) (b B : Nat) (S : RS) (h : Rb w b B S) (k : Nat) (hk : k ≤ 9223372036854775807) :
    Calls Tryd.prog 40 #[.pointer (some ⟨b, 0, none⟩), .int .i64 k] w fun e w' => ∃ v, e = .returned v ∧ Sl w' v (takeS S k).1 ∧ Rb w' b B (takeS S k).2 ∧ Turn (fun i => i = b) w w' := by
  obtain ⟨v, h1, h2, h3⟩ := h.ex
  have H3 := Lib.hid h3
  clear h3
  have f0 := h1.fz 0
  have c0 := h1.c0
  have H := Lib.hid h
  have Hlen := Lib.hid h.len
  by_cases hlt : S.l.length < k
  · have e : takeS S k = ([], ⟨[], true⟩) := by unfold takeS; rw [if_neg (by omega)]
    rw [e]
    have hsp := Lib.hid (spoilB_any w b B S h)
    obtain ⟨a, c, rfl, _⟩ := h2.arg
    generalize S.l.length = n at *
    have d1 : decide ((n : Int) < (k : Int)) = true := by simp; omega
    clear h h1 h2 e
    go_enter Tryd.func40, Tryd.ntmps40
    go_wp2_with fail
    refine hsp.out.mono ?_
    rintro e w' ⟨rfl, hr, ht⟩
    go_wp2
    go_ret
    exact ⟨_, rfl, Sl.none _, hr, ht⟩
  · have e : takeS S k = (S.l.take k, ⟨S.l.drop k, S.wr⟩) := by unfold takeS; rw [if_pos (by omega)]
    rw [e]
    have hb8 := h.b8.drop k
    have hinv : S.wr = true → S.l.drop k = [] := fun hw => by rw [h.inv hw]; exact List.drop_nil
    have hlen : (S.l.drop k).length ≤ 65536 := by have := h.len; rw [List.length_drop]; omega
    have Hst := Lib.hid (And.intro hb8 (And.intro hinv hlen))
    have H1 := Lib.hid h1
    have H2 := Lib.hid h2
    have Hnb := Lib.hid h.noByte
    rcases h2 with ⟨rfl, h0⟩ | ⟨g, o, c, rfl, hc, hnc, hcm⟩
    · have hl0 : S.l.length = 0 := by rw [h0]; rfl
      obtain rfl : k = 0 := by omega
      have e1 : S.l.take 0 = [] := rfl
      have e2 : S.l.drop 0 = [] := h0
      have hr : Hid (Rb (w.setCell ⟨b, 0, none⟩ (.slice none 0 0)) b B ⟨S.l.drop 0, S.wr⟩) := ⟨⟨_, H1.out.set0 _, by show Sl _ _ (S.l.drop 0); rw [e2]; exact Sl.none _, Lo.none _⟩, Hst.out.1, Hst.out.2.2, Hst.out.2.1⟩
      have ht := Lib.hid (turn_set1 w b 0 (.slice none 0 0))
      rw [e1]
      clear h h1 e e1 e2 hb8 hinv hlen h0 hl0 hlt hk
      go_enter Tryd.func40, Tryd.ntmps40
      go_wp2
      go_ret
      exact ⟨_, rfl, Sl.none _, hr.out, ht.out⟩
    · have Hn : ∃ n, n = S.l.length := ⟨_, rfl⟩
      obtain ⟨n, hn⟩ := Hn
      rw [← hn] at c0 H1 H2 Hlen hnc hlt
      have HN := Lib.hid hn.symm
      have hn64 := Hlen.out
      have hkn : k ≤ n := by omega
      have hcm2 : c ≤ 9223372036854775807 := by unfold maxLen at hcm; omega
      have Hcm := Lib.hid hcm
      have d1 : decide ((n : Int) < (k : Int)) = false := by simp; omega
      have Htk : Hid (Sl w (.slice (some ⟨g, o, none⟩) k c) (S.l.take k)) := sl_take hc hn.symm hkn hnc hcm
      rcases Nat.lt_or_ge k c with hkc | hkc
      · have ht := Lib.hid (turn_set1 w b 0 (.slice (some ⟨g, o + k, none⟩) (n - k) (c - k)))
        have hs := Lib.hid ((sl_drop hc hn.symm hkn hnc hcm).turn ht.out Hnb.out)
        have hs2 := Lib.hid (Htk.out.turn ht.out Hnb.out)
        have hr : Hid (Rb (w.setCell ⟨b, 0, none⟩ (.slice (some ⟨g, o + k, none⟩) (n - k) (c - k))) b B ⟨S.l.drop k, S.wr⟩) := ⟨⟨_, H1.out.set0 _, hs.out, H3.out.same (by omega)⟩, Hst.out.1, Hst.out.2.2, Hst.out.2.1⟩
        have y1 : ¬ (c = k) := by omega
        clear h h1 e hb8 hinv hlen hn hc Hcm hcm Htk hs
        go_enter Tryd.func40, Tryd.ntmps40
        go_wp2
        go_ret
        exact ⟨_, rfl, hs2.out, hr.out, ht.out⟩
      · obtain rfl : k = c := by omega
        obtain rfl : k = n := by omega
        have ht := Lib.hid (turn_set1 w b 0 (.slice (some ⟨g, o, none⟩) 0 0))
        have hs2 := Lib.hid (Htk.out.turn ht.out Hnb.out)
        have hr : Hid (Rb (w.setCell ⟨b, 0, none⟩ (.slice (some ⟨g, o, none⟩) 0 0)) b B ⟨S.l.drop k, S.wr⟩) := ⟨⟨_, H1.out.set0 _, sl_end HN.out (Nat.le_refl _), Lo.empty _ _ _⟩, Hst.out.1, Hst.out.2.2, Hst.out.2.1⟩
        clear h h1 e hb8 hinv hlen hn hc Hcm hcm Htk
        go_enter Tryd.func40, Tryd.ntmps40
        go_wp2
        go_ret
        exact ⟨_, rfl, hs2.out, hr.out, ht.out⟩
theorem rbyteB_any (w : World) (b B : Nat) (S : RS) (h : Rb w b B S) :
    Calls Tryd.prog 38 #[.pointer (some ⟨b, 0, none⟩)] w fun e w' => e = .returned (.int .u8 ((byteS S).1 : Nat)) ∧ Rb w' b B (byteS S).2 ∧ Turn (fun i => i = b) w w' := by
  have ht := takeB_any w b B S h 1 (by omega)
  have ho := takeS_one h.inv
  by_cases h0 : S.l = []
  · rw [ho.1 h0] at ht
    have e0 : Hid ((byteS S).1 = 0) := by show _ = _; rw [byteS_nil h0]
    clear h ho
    have Ht := Lib.hid ht
    clear ht
    go_enter Tryd.func38, Tryd.ntmps38
    go_wp2_with fail
    refine Ht.out.mono ?_
    rintro e w' ⟨v, rfl, hv, hr, htn⟩
    obtain ⟨a, c, rfl, _⟩ := hv.arg
    rw [show ([] : List Nat).length = 0 from rfl]
    go_wp2
    go_ret
    exact ⟨by rw [e0.out]; rfl, hr, htn⟩
  · rw [ho.2 h0] at ht
    clear h ho
    generalize (byteS S).1 = X at *
    have Ht := Lib.hid ht
    clear ht
    go_enter Tryd.func38, Tryd.ntmps38
    go_wp2_with fail
    refine Ht.out.mono ?_
    rintro e w' ⟨v, rfl, hv, hr, htn⟩
    rcases hv with ⟨_, hv⟩ | ⟨g, o, c, rfl, hc, _⟩
    · cases hv
    have c0 := hc 0 (by simp)
    rw [show ([X] : List Nat).getD 0 0 = X from rfl, Nat.add_zero] at c0
    rw [show ([X] : List Nat).length = 1 from rfl]
    clear hc
    go_wp2
    go_ret
    exact ⟨rfl, hr, htn⟩
set_option maxRecDepth 100000 in
theorem rnumB_any (w : World) (b B : Nat) (S : RS) (h : Rb w b B S) (m : Nat) :
    Calls Tryd.prog 39 #[.pointer (some ⟨b, 0, none⟩), .int .u64 m] w fun e w' => e = .returned (.int .u64 ((numS S m).1 : Nat)) ∧ Rb w' b B (numS S m).2 ∧ Turn (fun i => i = b) w w' := by
  obtain ⟨v, h1, h2, _⟩ := h.ex
  have c0 := h1.c0
  obtain ⟨a, c, rfl, hsrc, _⟩ := h2.arg
  have hget := get_any a c S.l w h.b8 (by have := h.len; omega) hsrc
  have H := Lib.hid h
  have Hget := Lib.hid hget
  have hlt := gt_val_lt S.l
  have hgl := gt_len S.l
  have hS : S.l.length ≤ 65536 := h.len
  have hnd : ∀ k, takeS S k = if k ≤ S.l.length then (S.l.take k, ⟨S.l.drop k, S.wr⟩) else ([], ⟨[], true⟩) := fun _ => rfl
  have hwr : (gt S.l).2.2 = 0 → S.wr = false := fun he => by
    cases hw : S.wr with
    | false => rfl
    | true => have := h.inv hw; rw [this, gt_nil] at he; cases he
  by_cases he : (gt S.l).2.2 = 0
  · by_cases hm : (gt S.l).1 ≤ m
    · have hn := numS_hit he hm
      have hg : gotV S.l = .tuple #[.int .u64 ((gt S.l).1 : Nat), .int .i64 ((gt S.l).2.1 : Nat), .nilIface] := by unfold gotV; rw [he]; rfl
      have htk : takeS S (gt S.l).2.1 = (S.l.take (gt S.l).2.1, ⟨S.l.drop (gt S.l).2.1, false⟩) := by rw [hnd, if_pos (hgl he).2.1, hwr he]
      rw [hn]
      have ht := takeB_any w b B S h (gt S.l).2.1 (by have := (hgl he).2.1; omega)
      rw [htk] at ht
      rw [hg] at Hget
      have Ht := Lib.hid ht
      clear h h1 h2 hget hnd hwr hn hg htk ht hsrc hgl he H
      generalize (gt S.l).1 = V at *
      generalize (gt S.l).2.1 = N at *
      have d1 : decide ((m : Int) < (V : Int)) = false := by simp; omega
      generalize S.l.length = n at *
      go_enter Tryd.func39, Tryd.ntmps39
      go_wp2_with fail
      refine Hget.out.mono ?_
      rintro e w' ⟨rfl, rfl⟩
      go_wp2_with fail
      refine Ht.out.mono ?_
      rintro e w' ⟨v, rfl, _, hr, htn⟩
      go_wp2
      go_ret
      exact ⟨rfl, hr, htn⟩
    · have hn := numS_miss (S := S) (most := m) (fun hx => hm hx.2)
      have hg : gotV S.l = .tuple #[.int .u64 ((gt S.l).1 : Nat), .int .i64 ((gt S.l).2.1 : Nat), .nilIface] := by unfold gotV; rw [he]; rfl
      rw [hn]
      have ht := spoilB_any w b B S h
      rw [hg] at Hget
      have Ht := Lib.hid ht
      clear h h1 h2 hget hnd hwr hn hg ht hsrc hgl he H
      generalize (gt S.l).1 = V at *
      generalize (gt S.l).2.1 = N at *
      have d1 : decide ((m : Int) < (V : Int)) = true := by simp; omega
      generalize S.l.length = n at *
      go_enter Tryd.func39, Tryd.ntmps39
      go_wp2_with fail
      refine Hget.out.mono ?_
      rintro e w' ⟨rfl, rfl⟩
      go_wp2_with fail
      refine Ht.out.mono ?_
      rintro e w' ⟨rfl, hr, htn⟩
      go_wp2
      go_ret
      exact ⟨rfl, hr, htn⟩
  · have hn := numS_miss (S := S) (most := m) (fun hx => he hx.1)
    have hg : gotV S.l = .tuple #[.int .u64 ((gt S.l).1 : Nat), .int .i64 ((gt S.l).2.1 : Nat), .iface 47 (.int .i64 (gt S.l).2.2)] := by unfold gotV errV; rw [if_neg he]
    rw [hn]
    have ht := spoilB_any w b B S h
    rw [hg] at Hget
    have Ht := Lib.hid ht
    clear h h1 h2 hget hnd hwr hn hg ht hsrc hgl he H
    generalize (gt S.l).1 = V at *
    generalize (gt S.l).2.1 = N at *
    generalize (gt S.l).2.2 = F at *
    generalize S.l.length = n at *
    go_enter Tryd.func39, Tryd.ntmps39
    go_wp2_with fail
    refine Hget.out.mono ?_
    rintro e w' ⟨rfl, rfl⟩
    go_wp2_with fail
    refine Ht.out.mono ?_
    rintro e w' ⟨rfl, hr, htn⟩
    go_wp2
    go_ret
    exact ⟨rfl, hr, htn⟩
set_option maxRecDepth 100000 in
theorem rbytesB_any (w : World) (b B : Nat) (S : RS) (h : Rb w b B S) (most : Int) (m : Nat) (hm : m = most.toNat) (h1 : -9223372036854775808 ≤ most) (h2 : most ≤ 9223372036854775807) :
    Calls Tryd.prog 23 #[.pointer (some ⟨b, 0, none⟩), .int .i64 most] w fun e w' => ∃ v, e = .returned v ∧ Sl w' v (bytesS S m).1 ∧ Rb w' b B (bytesS S m).2 ∧ Turn (fun i => i = b) w w' := by
  have hn := Lib.hid (rnumB_any w b B S h m)
  rw [bytesS_take]
  have hle := numS_le S m
  have hlb := h.lt
  generalize (numS S m).2 = S1 at *
  generalize (numS S m).1 = N at *
  have hmx : max most 0 = (m : Int) := by omega
  have hm2 : m ≤ 9223372036854775807 := by omega
  have z1 : IntKind.u64.wrap (m : Int) = (m : Int) := by rw [IntKind.wrap_u64]; omega
  clear h
  clear hm
  go_enter Tryd.func23, Tryd.ntmps23
  go_wp2_with fail
  refine hn.out.mono ?_
  rintro e w1 ⟨rfl, hr1, ht1⟩
  have hk := Lib.hid (takeB_any w1 b B S1 hr1 N (by omega))
  have Ht1 := Lib.hid ht1
  have hl1 := hr1.len
  clear ht1 hr1
  go_wp2_with fail
  refine hk.out.mono ?_
  rintro e w2 ⟨v, rfl, hv, hr2, ht2⟩
  obtain ⟨a, c, rfl, hsrc, hz, _⟩ := hv.arg
  have hlen : (takeS S1 N).1.length ≤ 1099511627776 := by have := takeS_len S1 N; omega
  have hcl := Lib.hid (clone_any a _ c _ rfl w2 hsrc hz hlen)
  have Hr2 := Lib.hid hr2
  have Ht2 := Lib.hid (Ht1.out.trans ht2)
  obtain ⟨L, hL⟩ : ∃ L, L = (takeS S1 N).1 := ⟨_, rfl⟩
  rw [← hL] at hv hlen hcl ⊢
  have HL := Lib.hid hL
  clear hL
  obtain ⟨n, hLn⟩ : ∃ n, n = L.length := ⟨_, rfl⟩
  rw [← hLn] at hcl hlen ⊢
  have HLn := Lib.hid hLn
  clear hv hr2 ht2 hsrc hz hk hLn
  go_wp2_with fail
  refine hcl.out.mono ?_
  rintro e w3 ⟨v, rfl, hv, hb⟩
  have hr3 := Hr2.out.below hb
  have ht3 := Ht2.out.trans (Turn.ofBelow hb)
  go_wp2
  go_ret
  exact ⟨_, rfl, by rw [← HL.out]; exact hv, hr3, ht3⟩
end Go.Proofs.YtjlllkdimfkjaaaDoor
