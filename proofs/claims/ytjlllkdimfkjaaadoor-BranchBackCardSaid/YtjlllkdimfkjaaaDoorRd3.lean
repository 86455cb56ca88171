/-
  A reader's Byte, Num, Bytes.
-/
import Derived.Test.YtjlllkdimfkjaaaDoorRd2
namespace Go.Proofs.YtjlllkdimfkjaaaDoor
open Go Go.RowKit

theorem takeS_len (S : RS) (k : Nat) : (takeS S k).1.length ≤ S.l.length := by
  unfold takeS
  split
  · show (S.l.take k).length ≤ _; rw [List.length_take]; omega
  · exact Nat.zero_le _
theorem takeS_one {S : RS} (h : S.wr = true → S.l = []) : (S.l = [] → takeS S 1 = ([], (byteS S).2)) ∧ (S.l ≠ [] → takeS S 1 = ([(byteS S).1], (byteS S).2)) := by
  obtain ⟨l, wr⟩ := S
  constructor
  · intro h0
    dsimp only at h0
    subst h0
    rw [byteS_nil rfl]; rfl
  · intro h0
    rw [byteS_cons h0]
    dsimp only at h h0 ⊢
    cases l with
    | nil => exact absurd rfl h0
    | cons x r =>
      cases wr with
      | true => exact absurd (h rfl) (by simp)
      | false => rfl
theorem bytesS_take (S : RS) (m : Nat) : bytesS S m = takeS (numS S m).2 (numS S m).1 := by
  by_cases hw : (numS S m).2.wr = true
  · rw [bytesS_miss (by rw [hw]; simp)]
    rw [numS_wr hw]; rfl
  · have hw' : (numS S m).2.wr = false := by simpa using hw
    by_cases hl : (numS S m).1 ≤ (numS S m).2.l.length
    · rw [bytesS_hit hw' hl]; unfold takeS; rw [if_pos hl, hw']
    · rw [bytesS_miss (fun h => hl h.2)]; unfold takeS; rw [if_neg hl]
theorem rbyte_nil (w : World) : Calls Tryd.prog 38 #[.pointer none] w fun e w' => e = .returned (.int .u8 0) ∧ w = w' := by
  have h := take_nil w 1
  go_enter Tryd.func38, Tryd.ntmps38
  go_wp2_with (go_at_call 40; refine h.mono ?_; rintro e w' ⟨rfl, rfl⟩)
  go_ret
  exact ⟨rfl, rfl⟩
theorem rbyte_any (w : World) (b : Nat) (S : RS) (h : Rd w b S) :
    Calls Tryd.prog 38 #[.pointer (some ⟨b, 0, none⟩)] w fun e w' => e = .returned (.int .u8 ((byteS S).1 : Nat)) ∧ Rd w' b (byteS S).2 ∧ Turn (fun i => i = b) w w' := by
  have ht := take_any w b S h 1 (by omega)
  have ho := takeS_one h.inv
  by_cases h0 : S.l = []
  · rw [ho.1 h0] at ht
    have e0 : Hid ((byteS S).1 = 0) := by show _ = _; rw [byteS_nil h0]
    clear h ho
    have Ht := Lib.hid ht
    clear ht
    go_enter Tryd.func38, Tryd.ntmps38
    go_wp2_with fail
    refine Ht.out.mono ?_
    rintro e w' ⟨v, rfl, hv, hr, htn⟩
    obtain ⟨a, c, rfl, _⟩ := hv.arg
    rw [show ([] : List Nat).length = 0 from rfl]
    go_wp2
    go_ret
    exact ⟨by rw [e0.out]; rfl, hr, htn⟩
  · rw [ho.2 h0] at ht
    clear h ho
    generalize (byteS S).1 = X at *
    have Ht := Lib.hid ht
    clear ht
    go_enter Tryd.func38, Tryd.ntmps38
    go_wp2_with fail
    refine Ht.out.mono ?_
    rintro e w' ⟨v, rfl, hv, hr, htn⟩
    rcases hv with ⟨_, hv⟩ | ⟨g, o, c, rfl, hc, _⟩
    · cases hv
    have c0 := hc 0 (by simp)
    rw [show ([X] : List Nat).getD 0 0 = X from rfl, Nat.add_zero] at c0
    rw [show ([X] : List Nat).length = 1 from rfl]
    clear hc
    go_wp2
    go_ret
    exact ⟨rfl, hr, htn⟩
theorem rnum_nil (w : World) (m : Int) : Calls Tryd.prog 39 #[.pointer none, .int .u64 m] w fun e w' => e = .returned (.int .u64 0) ∧ w = w' := by
  go_enter Tryd.func39, Tryd.ntmps39
  go_wp2
  go_ret
  exact ⟨rfl, rfl⟩
set_option maxRecDepth 100000 in
theorem rnum_any (w : World) (b : Nat) (S : RS) (h : Rd w b S) (m : Nat) :
    Calls Tryd.prog 39 #[.pointer (some ⟨b, 0, none⟩), .int .u64 m] w fun e w' => e = .returned (.int .u64 ((numS S m).1 : Nat)) ∧ Rd w' b (numS S m).2 ∧ Turn (fun i => i = b) w w' := by
  obtain ⟨v, h1, h2⟩ := h.ex
  have c0 := h1.c0
  obtain ⟨a, c, rfl, hsrc, _⟩ := h2.arg
  have hget := get_any a c S.l w h.b8 (by have := h.len; omega) hsrc
  have H := Lib.hid h
  have Hget := Lib.hid hget
  have hlt := gt_val_lt S.l
  have hgl := gt_len S.l
  have hS : S.l.length ≤ 65536 := h.len
  have hnd : ∀ k, takeS S k = if k ≤ S.l.length then (S.l.take k, ⟨S.l.drop k, S.wr⟩) else ([], ⟨[], true⟩) := fun _ => rfl
  have hwr : (gt S.l).2.2 = 0 → S.wr = false := fun he => by
    cases hw : S.wr with
    | false => rfl
    | true => have := h.inv hw; rw [this, gt_nil] at he; cases he
  by_cases he : (gt S.l).2.2 = 0
  · by_cases hm : (gt S.l).1 ≤ m
    · have hn := numS_hit he hm
      have hg : gotV S.l = .tuple #[.int .u64 ((gt S.l).1 : Nat), .int .i64 ((gt S.l).2.1 : Nat), .nilIface] := by unfold gotV; rw [he]; rfl
      have htk : takeS S (gt S.l).2.1 = (S.l.take (gt S.l).2.1, ⟨S.l.drop (gt S.l).2.1, false⟩) := by rw [hnd, if_pos (hgl he).2.1, hwr he]
      rw [hn]
      have ht := take_any w b S h (gt S.l).2.1 (by have := (hgl he).2.1; omega)
      rw [htk] at ht
      rw [hg] at Hget
      have Ht := Lib.hid ht
      clear h h1 h2 hget hnd hwr hn hg htk ht hsrc hgl he H
      generalize (gt S.l).1 = V at *
      generalize (gt S.l).2.1 = N at *
      have d1 : decide ((m : Int) < (V : Int)) = false := by simp; omega
      generalize S.l.length = n at *
      go_enter Tryd.func39, Tryd.ntmps39
      go_wp2_with fail
      refine Hget.out.mono ?_
      rintro e w' ⟨rfl, rfl⟩
      go_wp2_with fail
      refine Ht.out.mono ?_
      rintro e w' ⟨v, rfl, _, hr, htn⟩
      go_wp2
      go_ret
      exact ⟨rfl, hr, htn⟩
    · have hn := numS_miss (S := S) (most := m) (fun hx => hm hx.2)
      have hg : gotV S.l = .tuple #[.int .u64 ((gt S.l).1 : Nat), .int .i64 ((gt S.l).2.1 : Nat), .nilIface] := by unfold gotV; rw [he]; rfl
      rw [hn]
      have ht := spoil_any w b S h
      rw [hg] at Hget
      have Ht := Lib.hid ht
      clear h h1 h2 hget hnd hwr hn hg ht hsrc hgl he H
      generalize (gt S.l).1 = V at *
      generalize (gt S.l).2.1 = N at *
      have d1 : decide ((m : Int) < (V : Int)) = true := by simp; omega
      generalize S.l.length = n at *
      go_enter Tryd.func39, Tryd.ntmps39
      go_wp2_with fail
      refine Hget.out.mono ?_
      rintro e w' ⟨rfl, rfl⟩
      go_wp2_with fail
      refine Ht.out.mono ?_
      rintro e w' ⟨rfl, hr, htn⟩
      go_wp2
      go_ret
      exact ⟨rfl, hr, htn⟩
  · have hn := numS_miss (S := S) (most := m) (fun hx => he hx.1)
    have hg : gotV S.l = .tuple #[.int .u64 ((gt S.l).1 : Nat), .int .i64 ((gt S.l).2.1 : Nat), .iface 47 (.int .i64 (gt S.l).2.2)] := by unfold gotV errV; rw [if_neg he]
    rw [hn]
    have ht := spoil_any w b S h
    rw [hg] at Hget
    have Ht := Lib.hid ht
    clear h h1 h2 hget hnd hwr hn hg ht hsrc hgl he H
    generalize (gt S.l).1 = V at *
    generalize (gt S.l).2.1 = N at *
    generalize (gt S.l).2.2 = F at *
    generalize S.l.length = n at *
    go_enter Tryd.func39, Tryd.ntmps39
    go_wp2_with fail
    refine Hget.out.mono ?_
    rintro e w' ⟨rfl, rfl⟩
    go_wp2_with fail
    refine Ht.out.mono ?_
    rintro e w' ⟨rfl, hr, htn⟩
    go_wp2
    go_ret
    exact ⟨rfl, hr, htn⟩
theorem clone_nil (w : World) : Calls Tryd.prog 36 #[.slice none 0 0] w fun e w' => e = .returned (.slice none 0 0) ∧ w = w' := by
  have q22 : ∀ (w : World) (a : Option Addr) (n c n' c' : Nat), (binOp .eql 26 (.slice a n c) (.slice none n' c')).run Tryd.prog w = .ok (.bool a.isNone) w := fun w a n c n' c' => Lib.run_eql_slice_nil w _ _ a n c n' c' Tryd.underlying26
  go_enter Tryd.func36, Tryd.ntmps36
  go_wp2
  go_ret
  exact ⟨rfl, rfl⟩
theorem rbytes_nil (w : World) : Calls Tryd.prog 23 #[.pointer none, .int .i64 9] w fun e w' => e = .returned (.slice none 0 0) ∧ w = w' := by
  have h1 := rnum_nil w 9
  have h2 := take_nil w 0
  have h3 := clone_nil w
  go_enter Tryd.func23, Tryd.ntmps23
  go_wp2_with fail
  refine h1.mono ?_
  rintro e w' ⟨rfl, rfl⟩
  go_wp2_with fail
  refine h2.mono ?_
  rintro e w' ⟨rfl, rfl⟩
  go_wp2_with fail
  refine h3.mono ?_
  rintro e w' ⟨rfl, rfl⟩
  go_wp2
  go_ret
  exact ⟨rfl, rfl⟩
set_option maxRecDepth 100000 in
theorem rbytes_any (w : World) (b : Nat) (S : RS) (h : Rd w b S) (most : Int) (m : Nat) (hm : m = most.toNat) (h1 : -9223372036854775808 ≤ most) (h2 : most ≤ 9223372036854775807) :
    Calls Tryd.prog 23 #[.pointer (some ⟨b, 0, none⟩), .int .i64 most] w fun e w' => ∃ v, e = .returned v ∧ Sl w' v (bytesS S m).1 ∧ Rd w' b (bytesS S m).2 ∧ Turn (fun i => i = b) w w' := by
  have hn := Lib.hid (rnum_any w b S h m)
  rw [bytesS_take]
  have hle := numS_le S m
  have hlb := h.lt
  generalize (numS S m).2 = S1 at *
  generalize (numS S m).1 = N at *
  have hmx : max most 0 = (m : Int) := by omega
  have hm2 : m ≤ 9223372036854775807 := by omega
  have z1 : IntKind.u64.wrap (m : Int) = (m : Int) := by rw [IntKind.wrap_u64]; omega
  clear h
  clear hm
  go_enter Tryd.func23, Tryd.ntmps23
  go_wp2_with fail
  refine hn.out.mono ?_
  rintro e w1 ⟨rfl, hr1, ht1⟩
  have hk := Lib.hid (take_any w1 b S1 hr1 N (by omega))
  have Ht1 := Lib.hid ht1
  have hl1 := hr1.len
  clear ht1 hr1
  go_wp2_with fail
  refine hk.out.mono ?_
  rintro e w2 ⟨v, rfl, hv, hr2, ht2⟩
  obtain ⟨a, c, rfl, hsrc, hz, _⟩ := hv.arg
  have hlen : (takeS S1 N).1.length ≤ 1099511627776 := by have := takeS_len S1 N; omega
  have hcl := Lib.hid (clone_any a _ c _ rfl w2 hsrc hz hlen)
  have Hr2 := Lib.hid hr2
  have Ht2 := Lib.hid (Ht1.out.trans ht2)
  obtain ⟨L, hL⟩ : ∃ L, L = (takeS S1 N).1 := ⟨_, rfl⟩
  rw [← hL] at hv hlen hcl ⊢
  have HL := Lib.hid hL
  clear hL
  obtain ⟨n, hLn⟩ : ∃ n, n = L.length := ⟨_, rfl⟩
  rw [← hLn] at hcl hlen ⊢
  have HLn := Lib.hid hLn
  clear hv hr2 ht2 hsrc hz hk hLn
  go_wp2_with fail
  refine hcl.out.mono ?_
  rintro e w3 ⟨v, rfl, hv, hb⟩
  have hr3 := Hr2.out.below hb (Nat.le_refl _)
  have ht3 := Ht2.out.trans (Turn.ofBelow hb)
  go_wp2
  go_ret
  exact ⟨_, rfl, by rw [← HL.out]; exact hv, hr3, ht3⟩
end Go.Proofs.YtjlllkdimfkjaaaDoor
