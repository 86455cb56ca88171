/-
  leaf's Encode.
-/
import Derived.Test.YtmgbdbpknocgjaaDoorLists1
import Derived.Test.YtmgbdbpknocgjaaDoorLeaf3
import Derived.Shelf.GgClosure.Gives
namespace Go.Proofs.YtmgbdbpknocgjaaDoor
open Go Go.RowKit Go.Shelf

theorem notMay_any (k v : ByteArray) (n p : Int) (w : World) : Calls Tryd.prog 20 #[.agg #[.string k, .string v, .int .i64 n, .int .i64 p]] w fun e w' => e = .returned (.bool (!mayB ⟨k, v, n, p⟩)) ∧ Below w.heap.size w w' := by
  have hb0 : Below w.heap.size w (w.alloc (.cells #[.string k, .string v, .int .i64 n, .int .i64 p] CT)) := (Below.refl _ _).alloc (Nat.le_refl _) _
  have hb := Lib.hid hb0
  have hc := Lib.hid (leafCheck_any k v n p (w.alloc (.cells #[.string k, .string v, .int .i64 n, .int .i64 p] CT)))
  clear hb0
  generalize mayB ⟨k, v, n, p⟩ = M at *
  unfold chkC at hc
  cases M
  all_goals
    simp only [Bool.false_eq_true, if_false, if_true] at hc
    go_enter Tryd.func20, Tryd.ntmps20
    go_wp2_with fail
    refine hc.out.mono ?_
    rintro e w' ⟨rfl, hb2⟩
    have hbn := Lib.hid (hb.out.trans (hb2.mono hb.out.size))
    clear hb2
    go_wp2
    go_ret
    exact ⟨rfl, hbn.out⟩
set_option maxRecDepth 100000 in
theorem indexMay_any (a : Option Addr) (n c : Nat) (cs : List Ce) (w : World) (hn : cs.length = n) (hs : CSrc w a cs) (hl : n ≤ 9223372036854775807) :
    Calls Tryd.prog 42 #[.slice a n c, .func (.func 20) #[] #[]] w fun e w' => ∃ R : Int, e = .returned (.int .i64 R) ∧ (decide (0 ≤ R) = true ↔ ¬ allMay cs) ∧ Below w.heap.size w w' := by
  have Hs := Lib.hid hs
  have Hn := Lib.hid hn
  clear hs hn
  have eg : ∀ args w, (callFunc 20 args).run Tryd.prog w = .ok (.enter 20 args) w := enters_of Tryd.func20 (by kernel_rfl) rfl
  go_enter Tryd.func42, Tryd.ntmps42
  go_wp2
  go_loopw [5, 8] (fun _ i wr => ∃ k : Nat, k ≤ n ∧ i = .int .i64 k ∧ Hid (∀ j, j < k → mayB (ca cs j) = true) ∧ Hid (Below w.heap.size w wr)) (fun _ i _ => n - (intOf i).toNat)
  case atStart => exact ⟨0, Nat.zero_le _, rfl, fun j h => by omega, Below.refl _ _⟩
  case round =>
    obtain ⟨k, hk, rfl, hall, hB⟩ := hrel
    by_cases hlt : k < n
    · obtain ⟨g, o, rfl, hcell⟩ := Hs.out.below hB.out (Nat.le_refl _) (by rw [Hn.out]; omega)
      obtain ⟨q0, q1, q2, q3⟩ := hcell k (by rw [Hn.out]; exact hlt)
      have hyes : Hid (mayB (ca cs k) = true → ∀ j, j < k + 1 → mayB (ca cs j) = true) := fun h j hj => by
        rcases Nat.lt_or_ge j k with h1 | h1
        · exact hall.out j h1
        · obtain rfl : j = k := by omega
          exact h
      have hno : Hid (mayB (ca cs k) = false → ¬ allMay cs) := fun h h2 => by
        have := h2 k (by rw [Hn.out]; exact hlt)
        rw [h] at this; cases this
      clear hcell hall
      generalize ca cs k = y at *
      obtain ⟨x0, x1, x2, x3⟩ := y
      dsimp only at q0 q1 q2 q3
      have hcall := Lib.hid (notMay_any x0 x1 x2 x3 wr)
      generalize mayB ⟨x0, x1, x2, x3⟩ = M at *
      cases M with
      | true =>
        have hy := Lib.hid (hyes.out rfl)
        rw [show (!true) = false from rfl] at hcall
        clear hyes hno
        go_wp2_with (go_at_fn 20; refine hcall.out.mono ?_; rintro e w' ⟨rfl, hb⟩)
        have hB2 := Lib.hid (hB.out.trans (hb.mono hB.out.size))
        clear hb
        go_roundw
        case rel => exact ⟨k + 1, by omega, by go_num, hy, hB2⟩
        case measure => simp [intOf]; omega
      | false =>
        have hy := Lib.hid (hno.out rfl)
        rw [show (!false) = true from rfl] at hcall
        clear hyes hno
        go_wp2_with (go_at_fn 20; refine hcall.out.mono ?_; rintro e w' ⟨rfl, hb⟩)
        have hB2 := Lib.hid (hB.out.trans (hb.mono hB.out.size))
        clear hb
        go_ret
        exact ⟨_, rfl, ⟨fun _ => hy.out, fun _ => by simp⟩, hB2.out⟩
    · obtain rfl : k = n := by omega
      have hy : Hid (allMay cs) := fun j hj => hall.out j (by rw [← Hn.out]; exact hj)
      clear hall
      go_wp2
      go_ret
      exact ⟨_, rfl, ⟨fun h => by simp at h, fun h => absurd hy.out h⟩, hB.out⟩
theorem containsNot_any (a : Option Addr) (n c : Nat) (cs : List Ce) (w : World) (hn : cs.length = n) (hs : CSrc w a cs) (hl : n ≤ 9223372036854775807) :
    Calls Tryd.prog 19 #[.slice a n c, .func (.func 20) #[] #[]] w fun e w' => ∃ D, e = .returned (.bool D) ∧ (D = true ↔ ¬ allMay cs) ∧ Below w.heap.size w w' := by
  have hI := Lib.hid (indexMay_any a n c cs w hn hs hl)
  clear hn hs
  go_enter Tryd.func19, Tryd.ntmps19
  go_wp2_with (go_at_call 42; refine hI.out.mono ?_; rintro e w' ⟨R, rfl, hR, hb⟩; have HR := Lib.hid hR; have Hb := Lib.hid hb; clear hR hb)
  go_ret
  exact ⟨_, rfl, HR.out, Hb.out⟩
set_option maxRecDepth 100000 in
set_option maxHeartbeats 1000000 in
theorem encode_any (a : Option Addr) (n c : Nat) (cs : List Ce) (w : World) (hn : cs.length = n) (hs : CSrc w a cs) (hl : n ≤ 65536) :
    Calls Tryd.prog 7 #[.slice a n c] w fun e w' => ∃ v, e = .returned (.tuple #[v, errV (encE cs)]) ∧ Sl w' v (encB cs) ∧ Below w.heap.size w w' := by
  have Hs := Lib.hid hs
  have Hn := Lib.hid hn
  have hC := Lib.hid (containsNot_any a n c cs w hn hs (by omega))
  clear hs hn
  go_enter Tryd.func7, Tryd.ntmps7
  go_wp2_with fail
  refine hC.out.mono ?_
  rintro e w1 ⟨D, rfl, hD, hb1⟩
  have HD := Lib.hid hD
  have Hb1 := Lib.hid hb1
  clear hD hb1 hC
  cases D with
  | true =>
    have he := Lib.hid (enc_1 (HD.out.1 rfl))
    go_wp2
    go_ret2
    exact ⟨.slice none 0 0, by rw [he.out.1]; rfl, by rw [he.out.2]; exact Sl.none _, Hb1.out⟩
  | false =>
    have hall : Hid (allMay cs) := by
      show allMay cs
      by_cases h : allMay cs
      · exact h
      · have := HD.out.2 h; cases this
    clear HD
    have Hs1 := Lib.hid (Hs.out.below Hb1.out (Nat.le_refl _))
    go_wp2_with fail
    refine (ascend_any a n c cs w1 Hn.out Hs1.out (by omega)).mono ?_
    rintro e w2 ⟨D, rfl, hD, hb2⟩
    have HD := Lib.hid hD
    have Hs2 := Lib.hid (Hs1.out.below hb2 (Nat.le_refl _))
    have Hb2 := Lib.hid (Hb1.out.trans (hb2.mono Hb1.out.size))
    clear hD hb2 Hb1 Hs1
    cases D with
    | false =>
      have he := Lib.hid (enc_14 hall.out (fun h => by have := HD.out.2 h; cases this))
      clear HD
      go_wp2
      go_ret2
      exact ⟨.slice none 0 0, by rw [he.out.1]; rfl, by rw [he.out.2]; exact Sl.none _, Hb2.out⟩
    | true =>
      have hasc := Lib.hid (HD.out.1 rfl)
      clear HD
      have hll : Hid ((loadS cs).length = vs n + (body cs).length) := by show _ = _; rw [load_len, Hn.out]
      have hllb : (loadS cs).length ≤ 10 + 124 * n := by
        have h1 := sums_le hall.out cs.length (Nat.le_refl _)
        rw [sums_all cs _ (Nat.le_refl _), Hn.out] at h1
        have h2 := vs_le (show n < 18446744073709551616 by omega)
        rw [hll.out]; omega
      have h5 := Lib.hid (fun h => enc_5 hall.out hasc.out (show 504 < (loadS cs).length from h))
      have h0 := Lib.hid (fun h => enc_0 hall.out hasc.out (show (loadS cs).length ≤ 504 from h))
      have hsz := Lib.hid (leafSizes_any a n c cs w2 Hn.out Hs2.out (by omega) hall.out)
      have hload : Hid (loadS cs = vb n ++ body cs) := by show _ = _; unfold loadS; rw [Hn.out]
      generalize hLL : (loadS cs).length = LL at *
      have HLL := Lib.hid hLL
      clear hLL
      go_wp2_with fail
      refine hsz.out.mono ?_
      rintro e w3 ⟨rfl, hb3⟩
      have Hs3 := Lib.hid (Hs2.out.below hb3 (Nat.le_refl _))
      have Hb3 := Lib.hid (Hb2.out.trans (hb3.mono Hb2.out.size))
      clear hb3 Hb2 Hs2 hsz
      by_cases hlong : 504 < LL
      · have he := Lib.hid (h5.out hlong)
        have d1 : decide (504 < (LL : Int)) = true := by simp; omega
        clear h5 h0
        go_wp2
        go_ret2
        exact ⟨.slice none 0 0, by rw [he.out.1]; rfl, by rw [he.out.2]; exact Sl.none _, Hb3.out⟩
      · have he := Lib.hid (h0.out (by omega))
        have d1 : decide (504 < (LL : Int)) = false := by simp; omega
        clear h5 h0
        go_wp2_with fail
        refine (packNum_any none 0 0 [] rfl n w3 (Src.nil _ _) (by omega) (by omega)).mono ?_
        rintro e w4 ⟨v, rfl, hv, hb4⟩
        have Hs4 := Lib.hid (Hs3.out.below hb4 (Nat.le_refl _))
        have Hb4 := Lib.hid (Hb3.out.trans (hb4.mono Hb3.out.size))
        have Hv := Lib.hid hv
        clear hv hb4 Hb3 Hs3
        go_wp2_with fail
        go_loopw [4, 24] (fun b i wr => ∃ k : Nat, k ≤ n ∧ i = .int .i64 k ∧ Hid (Sl wr b (vb n ++ body (cs.take k))) ∧ Hid (Below w.heap.size w wr)) (fun _ i _ => n - (intOf i).toNat)
        case atStart => exact ⟨0, by omega, rfl, by show Sl _ _ _; have := Hv.out; rw [List.nil_append] at this; rw [List.take_zero, body, List.append_nil]; exact this, Hb4⟩
        case round =>
          obtain ⟨k, hk, rfl, hsl, hB⟩ := hrel
          by_cases hlt : k < n
          · obtain ⟨g, o, rfl, hcell⟩ := Hs.out.below hB.out (Nat.le_refl _) (by rw [Hn.out]; omega)
            obtain ⟨q0, q1, q2, q3⟩ := hcell k (by rw [Hn.out]; exact hlt)
            have hmay := hall.out k (by rw [Hn.out]; exact hlt)
            have hbs := Lib.hid (body_succ cs k (by rw [Hn.out]; exact hlt))
            obtain ⟨ab, cb, rfl, hsb, hzb, _⟩ := hsl.out.arg
            have hlen : (vb n ++ body (cs.take k)).length ≤ 504 := by
              have h1 := sums_mono cs k
              unfold sums at h1
              have h2 := hll.out
              rw [List.length_append]
              show vs n + _ ≤ _
              omega
            generalize ca cs k = y at *
            obtain ⟨x0, x1, x2, x3⟩ := y
            dsimp only at q0 q1 q2 q3
            have hnew : Below wr.heap.size wr (wr.alloc (.cells #[.string x0, .string x1, .int .i64 x2, .int .i64 x3] CT)) := (Below.refl _ _).alloc (Nat.le_refl _) _
            have hput := Lib.hid (leafPut_any ab _ cb _ x0 x1 x2 x3 (wr.alloc (.cells #[.string x0, .string x1, .int .i64 x2, .int .i64 x3] CT)) rfl (hsb.below hnew (Nat.le_refl _)) (by omega) hmay)
            have Hnew := Lib.hid (hB.out.trans (hnew.mono hB.out.size))
            generalize (vb n ++ body (cs.take k)).length = m at *
            clear hcell hmay hsb hzb hnew hsl hB
            go_wp2_with fail
            refine hput.out.mono ?_
            rintro e w5 ⟨v, rfl, hv, hb5⟩
            have hB2 := Lib.hid (Hnew.out.trans (hb5.mono Hnew.out.size))
            have hv2 : Hid (Sl w5 v (vb n ++ body (cs.take (k + 1)))) := by show Sl _ _ _; rw [hbs.out, ← List.append_assoc]; exact hv
            clear hv hb5 Hnew hput
            go_wp2
            go_roundw
            case rel => exact ⟨k + 1, by omega, by go_num, hv2, hB2⟩
            case measure => simp [intOf]; omega
          · obtain rfl : k = n := by omega
            have hsl2 := hsl.out
            rw [List.take_of_length_le (by rw [Hn.out]; exact Nat.le_refl _), ← hload.out] at hsl2
            have Hsl2 := Lib.hid hsl2
            clear hsl hsl2
            go_wp2
            go_ret2
            exact ⟨_, by rw [he.out.1]; rfl, by rw [he.out.2]; exact Hsl2.out, hB.out⟩
end Go.Proofs.YtmgbdbpknocgjaaDoor
