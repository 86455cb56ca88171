/-
  The law TreeOf.
-/
import Derived.Test.YtpcndfdijjabkaaDoorOfsZ
import Derived.Test.YtpcndfdijjabkaaDoorSure12Z
import Derived.Test.YtpcndfdijjabkaaDoorSplZ
namespace Go.Proofs.YtpcndfdijjabkaaDoor
open Go Go.RowKit

set_option maxHeartbeats 2000000 in
set_option maxRecDepth 100000 in
theorem of_law (a : Option Addr) (n c : Nat) (es : List En) (w : World) (hn : es.length = n) (hs : 0 < n → ES entA w a es) (hml : n ≤ 9223372036854775807) (hg : Hg w) :
    Calls Tryd.prog 4 #[.slice a n c] w fun e w' => e = .returned (.bool true) ∧ Below w.heap.size w w' := by
  by_cases h200 : 200 < n
  · have d0 : decide (200 < (n : Int)) = true := decide_eq_true (by omega)
    have Hsu := Lib.hid (sure_any w hg)
    clear hn hs hg
    go_enter Tryd.func4, Tryd.ntmps4
    go_wp2_with fail
    refine Hsu.out.mono ?_
    rintro e w1 ⟨rfl, hb1⟩
    have HB1 := Lib.hid hb1
    clear hb1 Hsu
    go_wp2
    go_ret
    exact ⟨rfl, HB1.out⟩
  · have d0 : decide (200 < (n : Int)) = false := decide_eq_false (by omega)
    have Hn := Lib.hid hn
    have Hs := Lib.hid hs
    have Hg0 : Hid (∀ {w'}, Below w.heap.size w w' → Hg w') := fun x => hg.below x
    clear hn hs hg
    go_enter Tryd.func4, Tryd.ntmps4
    go_wp2_with fail
    go_loopw [3, 4] (fun vv iv wr => ∃ (k : Nat) (v : Value), v = vv ∧ iv = .int .i64 k ∧ k ≤ n ∧ Hid (wr.ownsRow w.heap.size ET entE.sz v k (entE.row (es.take k))) ∧ Hid (Below w.heap.size w wr)) (fun _ iv _ => n - (intOf iv).toNat)
    case atStart => exact ⟨0, _, rfl, rfl, by omega, World.ownsRow_nil _ _ _ _, Below.refl _ _⟩
    case round =>
      obtain ⟨k, v, rfl, rfl, hk, hown, hB⟩ := hrel
      by_cases hlt : k < n
      · obtain ⟨g, o, rfl, hc⟩ := ((Hs.out (by omega)).below hB.out (Nat.le_refl _)).entsA (by rw [Hn.out]; omega)
        obtain ⟨p0, p1⟩ := hc k (by rw [Hn.out]; exact hlt)
        have i1 : (0 : Int) ≤ (k : Int) := by omega
        have i2 : (k : Int) < (n : Int) := by omega
        have htk := take_ea es k (by rw [Hn.out]; exact hlt)
        generalize ea es k = y at *
        obtain ⟨key, val, ch⟩ := y
        dsimp only at p0 p1 htk
        have Hsu := Lib.hid (sure_any wr (Hg0.out hB.out))
        by_cases g2 : 100 < key.size
        · have d2 : decide (100 < (key.size : Int)) = true := decide_eq_true (by omega)
          clear hc htk g2 hown
          go_wp2_with fail
          refine Hsu.out.mono ?_
          rintro e w1 ⟨rfl, hb1⟩
          have HB1 := Lib.hid (hB.out.trans (hb1.mono hB.out.size))
          clear hb1 Hsu
          go_wp2
          go_ret
          exact ⟨rfl, HB1.out⟩
        · have d2 : decide (100 < (key.size : Int)) = false := decide_eq_false (by omega)
          by_cases g3 : 3000 < val.size
          · have d3 : decide (3000 < (val.size : Int)) = true := decide_eq_true (by omega)
            clear hc htk g2 g3 hown
            go_wp2_with fail
            refine Hsu.out.mono ?_
            rintro e w1 ⟨rfl, hb1⟩
            have HB1 := Lib.hid (hB.out.trans (hb1.mono hB.out.size))
            clear hb1 Hsu
            go_wp2
            go_ret
            exact ⟨rfl, HB1.out⟩
          · have d3 : decide (3000 < (val.size : Int)) = false := decide_eq_false (by omega)
            have hba : Below w.heap.size w (wr.alloc (.cells #[.string key, .string val] ET)) := hB.out.alloc hB.out.size _
            have hlit : ES entE (wr.alloc (.cells #[.string key, .string val] ET)) (some ⟨wr.heap.size, 0, none⟩) [⟨key, val, ch⟩] := ES.lit (E := entE) (l := [⟨key, val, ch⟩]) (heap_new wr _ _)
            obtain ⟨v2, w2, hrun, hb2, ho2⟩ := run_app_own (P := Tryd.prog) (w := wr.alloc (.cells #[.string key, .string val] ET)) (E := entE) w.heap.size 49 49 ET Tryd.underlying49 infoE v k (es.take k) (hown.out.alloc _) hba.size (some ⟨wr.heap.size, 0, none⟩) 1 1 [⟨key, val, ch⟩] rfl (fun h => by cases h) hlit (by unfold maxLen; omega) (by show _ * 32 ≤ _; omega)
            rw [← htk] at ho2
            have Ho2 := Lib.hid ho2
            have HB2 := Lib.hid (hba.trans hb2)
            clear hc htk g2 g3 hown hba hlit hb2 ho2 Hsu hB
            go_wp2_with (at_builtin; refine Lib.wpList_append_run _ rfl (.tmp 36) (.tmp 41) _ _ rfl _ _ (by rfl) (by rfl) _ _ hrun ?_)
            go_roundw
            case rel => exact ⟨k + 1, v2, rfl, by go_num, by omega, Ho2, HB2⟩
            case measure => simp [intOf]; omega
      · obtain rfl : k = n := by omega
        have ho := hown.out
        rw [List.take_of_length_le (by rw [Hn.out]; exact Nat.le_refl _)] at ho
        have hev : EV entE wr v es := own_ev (B := w.heap.size) (T := ET) (by rw [Hn.out]; exact ho)
        obtain ⟨av, cv, rfl, sv, _⟩ := hev
        obtain ⟨acc, F, hR⟩ : ∃ acc F, ofT [] es = (acc, F) := ⟨_, _, rfl⟩
        have hal := ofT_len es []
        have hof := of_any av es.length cv es wr rfl (fun _ => sv.loose) (by rw [Hn.out]; omega)
        rw [hR] at hal hof
        dsimp only at hal hof
        have Hof := Lib.hid hof
        have Hrf : Hid (∀ w4 : World, Below w.heap.size w w4 → Calls Tryd.prog 20 #[.slice a k c] w4 fun e w' => ∃ u, e = .returned (.tuple #[u, .int .i64 (F : Nat)]) ∧ EV entE w' u acc ∧ Below w4.heap.size w4 w') := fun w4 hb => by
          have := refOf_any a k c es w4 Hn.out (fun h => (Hs.out h).below hb (Nat.le_refl _)) (by omega)
          rw [hR] at this; exact this
        have Hal : Hid (acc.length ≤ 200) := by show _ ≤ _; have := Hn.out; simp at hal; omega
        have dFF : ((F : Int) == (F : Int)) = true := by simp
        have dLL : ((acc.length : Int) == (acc.length : Int)) = true := by simp
        clear ho sv hR hal hof hown
        go_wp2_with fail
        refine Hof.out.mono ?_
        rintro e w1 ⟨p, H, rfl, ht, hb1⟩
        obtain ⟨W5, hW5, hT5, hb5⟩ := alloc_own w1 TT #[.pointer p, .int .i64 (acc.length : Nat)]
        have hb01 := hB.out.trans (hb1.mono hB.out.size)
        have hb05 := hb01.trans (hb5.mono hb01.size)
        have HW5 := Lib.hid hW5
        have HT5 : Hid (TB W5 w1.heap.size p (acc.length : Nat)) := hT5
        have Ht5 := Lib.hid (ht.ext hb5)
        have Hb05 := Lib.hid hb05
        have Hdoc := Lib.hid (Hrf.out W5 hb05)
        clear hW5 hT5 hb5 hb01 hb05 ht hb1 Hof Hrf hB
        go_wp2_with fail
        rw [HW5.out]
        refine Hdoc.out.mono ?_
        rintro e w2 ⟨u, rfl, hev2, hb2⟩
        have hb02 := Hb05.out.trans (hb2.mono Hb05.out.size)
        have Hnum := Lib.hid (num_any (errC (F : Int)) F w2 (errC_is _) (Hg0.out hb02))
        have Hev2 := Lib.hid hev2
        have Hb02 := Lib.hid hb02
        have HT2 := Lib.hid (HT5.out.ext hb2)
        have Ht2 := Lib.hid (Ht5.out.ext hb2)
        clear hev2 hb2 hb02 Hdoc HT5 Ht5 Hb05 HW5
        go_wp2_with fail
        refine Hnum.out.mono ?_
        rintro e w3 ⟨rfl, hb3⟩
        have t3 := HT2.out.ext hb3
        have c0' := t3.c0
        have c1' := t3.c1
        have Hall := Lib.hid (all_any p acc H w3 (Ht2.out.ext hb3) (by have := Hal.out; omega))
        have HT3 := Lib.hid t3
        have Hev3 := Lib.hid (Hev2.out.ext hb3)
        have Hb03 := Lib.hid (Hb02.out.trans (hb3.mono Hb02.out.size))
        clear t3 hb3 Hnum HT2 Ht2 Hev2 Hb02
        go_wp2_with fail
        refine Hall.out.mono ?_
        rintro e w4 ⟨v4, rfl, ⟨a4, c4, rfl, s4, _⟩, hb4⟩
        obtain ⟨a9, c9, rfl, h9, _⟩ := Hev3.out.ext hb4
        have Ha := Lib.hid (are_yes a4 a9 acc.length c4 c9 acc w4 rfl s4 h9 (by have := Hal.out; omega))
        have HT4 := Lib.hid (HT3.out.ext hb4)
        have Hb04 := Lib.hid (Hb03.out.trans (hb4.mono Hb03.out.size))
        clear hb4 s4 h9 Hall c0' c1' HT3 Hev3 Hb03
        go_wp2_with fail
        refine Ha.out.mono ?_
        rintro e w5 ⟨rfl, hb5⟩
        have t5 := HT4.out.ext hb5
        have c0' := t5.c0
        have c1' := t5.c1
        have Hb05 := Lib.hid (Hb04.out.trans (hb5.mono Hb04.out.size))
        clear t5 hb5 Ha HT4 Hb04
        go_wp2_with fail
        refine (len_any p ((acc.length : Nat) : Int) _).mono ?_
        rintro e w6 ⟨rfl, hb6⟩
        have hb06 := Hb05.out.trans (hb6.mono Hb05.out.size)
        have Hsu := Lib.hid (sure_any w6 (Hg0.out hb06))
        have Hb06 := Lib.hid hb06
        clear hb6 hb06 Hb05
        go_wp2_with fail
        refine Hsu.out.mono ?_
        rintro e w7 ⟨rfl, hb7⟩
        have HB7 := Lib.hid (Hb06.out.trans (hb7.mono Hb06.out.size))
        clear hb7 Hsu
        go_wp2
        go_ret
        exact ⟨rfl, HB7.out⟩
end Go.Proofs.YtpcndfdijjabkaaDoor
