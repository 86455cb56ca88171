/-
  DeviceRuns: the law's walk.
-/
import Derived.Test.YtbkjaifpgknadaaDoorRuns2
import Derived.Deep.CutBlock
import Derived.Deep.DeepCutAuto
namespace Go.Proofs.YtbkjaifpgknadaaDoor
open Go Go.RowKit Go.Maps Go.Sort

theorem rnew_bad2 (w : World) (n : Int) (hn : n < 1 ∨ 1024 < n) : Calls Tryd.prog 17 #[.int .i64 n] w fun e w' => e = .returned (.tuple #[.agg rtz, .int .i64 2]) ∧ Below w.heap.size w w' := by
  by_cases h1 : n < 1
  · clear hn
    go_enter Tryd.func17, Tryd.ntmps17
    go_wp2
    (try simp only [Exit.inBlock, Exit.then])
    refine bodyPost_ret (v := .tuple #[.agg rtz, .int .i64 2]) (by rw [results_cell_tmp rfl]; go_simp; rfl) rfl ⟨rfl, ?_⟩
    exact (Below.refl _ _).alloc (Nat.le_refl _) _
  · have h2 : 1024 < n := by omega
    have d1 : decide (n < 1) = false := by simpa using h1
    clear hn h1
    go_enter Tryd.func17, Tryd.ntmps17
    go_wp2
    (try simp only [Exit.inBlock, Exit.then])
    refine bodyPost_ret (v := .tuple #[.agg rtz, .int .i64 2]) (by rw [results_cell_tmp rfl]; go_simp; rfl) rfl ⟨rfl, ?_⟩
    exact (Below.refl _ _).alloc (Nat.le_refl _) _
/-- Both devices, in one state; the program's lies in new blocks, and away from the document's. -/
structure Two (w wx : World) (yb ps pn pw bd bs bw : Nat) (S : DS) : Prop where
  dev : Dev wx bd bs bw S
  ref : Ref wx yb ps pn pw S
  new : ∀ i, Foot bd bs bw i → w.heap.size ≤ i
  off : ∀ i, Foot bd bs bw i → ¬ FootR yb ps pn pw i
  bel : Below w.heap.size w wx
theorem Two.below {w w1 w2 : World} {yb ps pn pw bd bs bw : Nat} {S : DS} (h : Two w w1 yb ps pn pw bd bs bw S) (hb : Below w1.heap.size w1 w2) : Two w w2 yb ps pn pw bd bs bw S :=
  ⟨h.dev.below hb, h.ref.below hb, h.new, h.off, h.bel.trans (hb.mono h.bel.size)⟩
/-- The program's device was changed, then the document's. -/
theorem Two.step {w w1 w2 w3 w4 : World} {yb ps pn pw bd bs bw : Nat} {S T : DS} (h : Two w w1 yb ps pn pw bd bs bw S) (hR : ∀ i, FootR yb ps pn pw i → w.heap.size ≤ i)
    (hD : Dev w2 bd bs bw T) (t1 : Turn (Foot bd bs bw) w1 w2) (hb : Below w2.heap.size w2 w3) (hF : Ref w4 yb ps pn pw T) (t2 : Turn (FootR yb ps pn pw) w3 w4) : Two w w4 yb ps pn pw bd bs bw T :=
  ⟨(hD.below hb).turn t2 h.off, hF, h.new, h.off, by
    have b2 : Below w.heap.size w w2 := h.bel.trans (t1.below h.bel.size h.new)
    have b3 : Below w.heap.size w w3 := b2.trans (hb.mono b2.size)
    exact b3.trans (t2.below b3.size hR)⟩
theorem Two.refMid {w w1 w2 w3 : World} {yb ps pn pw bd bs bw : Nat} {S : DS} (h : Two w w1 yb ps pn pw bd bs bw S) (t1 : Turn (Foot bd bs bw) w1 w2) (hb : Below w2.heap.size w2 w3) : Ref w3 yb ps pn pw S :=
  (h.ref.turn t1 (fun i hi hf => h.off i hf hi)).below hb
theorem AOk.below {w w' : World} {x : ActD} (h : AOk w x) (hb : Below w.heap.size w w') : AOk w' x :=
  ⟨h.n1, h.n2, src_turn h.bs (Turn.ofBelow (F := fun _ => False) hb) (fun _ _ _ h => h), h.b8, h.bc, h.bm, fun h0 => by
    obtain ⟨b, o, e, hc⟩ := h.ks h0
    exact ⟨b, o, e, fun i hi => by rw [hb.cell (p := ⟨b, o + i, none⟩) (block_lt_of_cell (hc i hi))]; exact hc i hi⟩⟩
theorem src_lt {w : World} {b o : Nat} {l : List Nat} (h : Src w (some ⟨b, o, none⟩) l) (h0 : 0 < l.length) : b < w.heap.size := by
  obtain ⟨b', o', e, hc⟩ := h h0
  cases e
  exact block_lt_of_cell (hc 0 h0)
theorem bsrc_lt {w : World} {b o : Nat} {l : List Bool} (h : BSrc w (some ⟨b, o, none⟩) l) (h0 : 0 < l.length) : b < w.heap.size := by
  obtain ⟨b', o', e, hc⟩ := h h0
  cases e
  exact block_lt_of_cell (hc 0 h0)
set_option maxRecDepth 100000 in
set_option maxHeartbeats 8000000 in
theorem runs_any (pages : Int) (a0 : Option Addr) (l0 : List ActD) (c0 : Nat) (w : World) (hs0 : ASrc w a0 l0) (hm0 : l0.length ≤ 9223372036854775807) (hp1 : -9223372036854775808 ≤ pages) (hp2 : pages ≤ 9223372036854775807) (hg : Hg w) :
    Calls Tryd.prog 3 #[.int .i64 pages, .slice a0 l0.length c0] w fun e w' => e = .returned (.bool true) ∧ Below w.heap.size w w' := by
  have HG := Lib.hid hg
  have HS := Lib.hid hs0
  have fin : ∀ w5 : World, Hid (Below w.heap.size w w5) → Calls Tryd.prog 15 #[] w5 fun e w' => e = .returned (.bool true) ∧ Below w.heap.size w w' := fun w5 h5 =>
    (sure_any w5 (HG.out.below h5.out)).mono fun _ _ h => ⟨h.1, h5.out.trans (h.2.mono h5.out.size)⟩
  have Fin := Lib.hid fin
  have num9 := fun (wx : World) (hb : Below w.heap.size w wx) => num_err 9 wx (HG.out.below hb)
  have Num9 := Lib.hid num9
  have Hr := Lib.hid (And.intro (read_nil w 0) (And.intro (crash_nil w (.slice none 0 0)) (arm_nil w 3)))
  rw [errV_ne (by decide)] at Hr
  have Hn := Lib.hid (And.intro (pages_nil w) (down_nil w))
  clear hg hs0 fin num9
  go_enter Tryd.func3, Tryd.ntmps3
  go_wp2_with fail
  refine Hr.out.2.2.mono ?_; rintro e w' ⟨rfl, rfl⟩
  go_wp2_with fail
  refine Hr.out.2.1.mono ?_; rintro e w' ⟨rfl, rfl⟩
  go_wp2_with fail
  refine Hr.out.1.mono ?_; rintro e w' ⟨rfl, rfl⟩
  clear Hr
  go_wp2_with fail
  refine Hn.out.1.mono ?_; rintro e w' ⟨rfl, rfl⟩
  go_wp2_with fail
  refine Hn.out.2.mono ?_; rintro e w' ⟨rfl, rfl⟩
  clear Hn
  go_wp2_with fail
  refine (Num9.out w (Below.refl _ _)).mono ?_; rintro e w1 ⟨rfl, hb1⟩
  have Hs := sync_nil w1
  rw [errV_ne (by decide)] at Hs
  have Hs1 := Lib.hid Hs
  have HB1 := Lib.hid hb1
  clear Hs hb1
  go_wp2_with fail
  refine Hs1.out.mono ?_; rintro e w' ⟨rfl, rfl⟩
  clear Hs1
  go_wp2_with fail
  refine (Num9.out w1 HB1.out).mono ?_; rintro e w2 ⟨rfl, hb2⟩
  have HB2 : Hid (Below w.heap.size w w2) := HB1.out.trans (hb2.mono HB1.out.size)
  clear hb2 HB1
  go_wp2_with fail
  refine (copy_nil w2).mono ?_; rintro e w' ⟨rfl, rfl⟩
  go_wp2_with fail
  refine (waiting_nil w2).mono ?_; rintro e w' ⟨rfl, rfl⟩
  by_cases hbig : 20 < pages ∧ pages ≤ 1024
  · obtain ⟨hb1, hb2⟩ := hbig
    go_wp2_with fail
    refine (Fin.out _ HB2).mono ?_; rintro e w5 ⟨rfl, hb5⟩
    go_wp2_with fail
    go_ret
    exact ⟨rfl, hb5⟩
  · by_cases h60 : 60 < l0.length
    · have d60 : decide (60 < (l0.length : Int)) = true := by simp; omega
      by_cases hp20 : 20 < pages
      · have d1 : decide (pages ≤ 1024) = false := by simp; omega
        clear hbig
        go_wp2_with fail
        refine (Fin.out _ HB2).mono ?_; rintro e w5 ⟨rfl, hb5⟩
        go_wp2_with fail
        go_ret
        exact ⟨rfl, hb5⟩
      · have d1 : decide (20 < pages) = false := by simp; omega
        clear hbig
        go_wp2_with fail
        refine (Fin.out _ HB2).mono ?_; rintro e w5 ⟨rfl, hb5⟩
        go_wp2_with fail
        go_ret
        exact ⟨rfl, hb5⟩
    · have d60 : decide (60 < (l0.length : Int)) = false := by simp; omega
      by_cases hbad : pages < 1 ∨ 1024 < pages
      · have hnb := new_bad w2 pages hbad
        rw [errV_ne (by decide)] at hnb
        have Hnb := Lib.hid (And.intro hnb (rnew_bad2 w2 pages hbad))
        clear hnb
        have key : ∀ (D E : Bool), decide (20 < pages) = D → decide (pages ≤ 1024) = E → (D = true → E = false) := fun D E h1 h2 h3 => by
          rw [← h2]; subst h3; have := of_decide_eq_true h1; simp; omega
        by_cases hp20 : 20 < pages
        · have d1 : decide (pages ≤ 1024) = false := key true _ (decide_eq_true hp20) rfl rfl
          clear key hbad hbig
          go_wp2_with fail
          refine Hnb.out.1.mono ?_; rintro e w' ⟨rfl, rfl⟩
          as_aux_lemma =>
            have hrb := Hnb.out.2
            have Hrb := Lib.hid hrb
            clear hrb Hnb
            go_wp2_with fail
            refine Hrb.out.mono ?_; rintro e w3 ⟨rfl, hb3⟩
            have HB3 : Hid (Below w.heap.size w w3) := HB2.out.trans (hb3.mono HB2.out.size)
            clear hb3 Hrb HB2
            go_wp2_with (first
              | (refine wpList_alloc_rt rfl rfl ?_; intro yb w4 hyb hr4 hb4)
              | (refine wpList_store_struct RT rfl (.tmp 10) (.tmp 78) rfl yb rtz rtz (by rfl) (by rfl) hr4 (by rw [info_rt]; rfl) rfl rtz_one ?_; intro w5 hr5 ht5))
            have hyw : w.heap.size ≤ yb := Nat.le_trans HB3.out.size hyb
            have HB5 : Hid (Below w.heap.size w w5) := by
              have b4 : Below w.heap.size w w4 := HB3.out.trans (hb4.mono HB3.out.size)
              exact b4.trans (ht5.below b4.size (fun i hi => by rw [hi]; exact hyw))
            have hn2 := num_err 2 w5 (HG.out.below HB5.out)
            have Hn2 := Lib.hid hn2
            clear hyb hr4 hb4 hr5 ht5 hyw HB3 hn2
            go_wp2_with fail
            refine Hn2.out.mono ?_; rintro e w6 ⟨rfl, hb6⟩
            have HB6 : Hid (Below w.heap.size w w6) := HB5.out.trans (hb6.mono HB5.out.size)
            clear hb6 HB5 Hn2
            go_wp2_with fail
            go_loopw [8, 12] (fun d i wr => d = .pointer none ∧ i = .int .i64 0 ∧ Hid (Below w.heap.size w wr)) (fun _ _ _ => 0)
            case atStart => exact ⟨rfl, rfl, HB6⟩
            case round =>
              obtain ⟨rfl, rfl, hB⟩ := hrel
              have Hs := Lib.hid (Fin.out _ hB)
              by_cases hz : 0 < l0.length
              · have dz : decide (0 < l0.length) = true := by simpa using hz
                go_wp2_with fail
                refine Hs.out.mono ?_; rintro e w7 ⟨rfl, hb7⟩
                go_wp2_with fail
                go_ret
                exact ⟨rfl, hb7⟩
              · have dz : decide (0 < l0.length) = false := by simpa using hz
                go_wp2_with fail
                refine Hs.out.mono ?_; rintro e w7 ⟨rfl, hb7⟩
                go_wp2_with fail
                go_ret
                exact ⟨rfl, hb7⟩
        · have d1 : decide (20 < pages) = false := by simp; omega
          clear key hbad hbig hp20
          go_wp2_with fail
          refine Hnb.out.1.mono ?_; rintro e w' ⟨rfl, rfl⟩
          as_aux_lemma =>
            have hrb := Hnb.out.2
            have Hrb := Lib.hid hrb
            clear hrb Hnb
            go_wp2_with fail
            refine Hrb.out.mono ?_; rintro e w3 ⟨rfl, hb3⟩
            have HB3 : Hid (Below w.heap.size w w3) := HB2.out.trans (hb3.mono HB2.out.size)
            clear hb3 Hrb HB2
            go_wp2_with (first
              | (refine wpList_alloc_rt rfl rfl ?_; intro yb w4 hyb hr4 hb4)
              | (refine wpList_store_struct RT rfl (.tmp 10) (.tmp 78) rfl yb rtz rtz (by rfl) (by rfl) hr4 (by rw [info_rt]; rfl) rfl rtz_one ?_; intro w5 hr5 ht5))
            have hyw : w.heap.size ≤ yb := Nat.le_trans HB3.out.size hyb
            have HB5 : Hid (Below w.heap.size w w5) := by
              have b4 : Below w.heap.size w w4 := HB3.out.trans (hb4.mono HB3.out.size)
              exact b4.trans (ht5.below b4.size (fun i hi => by rw [hi]; exact hyw))
            have hn2 := num_err 2 w5 (HG.out.below HB5.out)
            have Hn2 := Lib.hid hn2
            clear hyb hr4 hb4 hr5 ht5 hyw HB3 hn2
            go_wp2_with fail
            refine Hn2.out.mono ?_; rintro e w6 ⟨rfl, hb6⟩
            have HB6 : Hid (Below w.heap.size w w6) := HB5.out.trans (hb6.mono HB5.out.size)
            clear hb6 HB5 Hn2
            go_wp2_with fail
            go_loopw [8, 12] (fun d i wr => d = .pointer none ∧ i = .int .i64 0 ∧ Hid (Below w.heap.size w wr)) (fun _ _ _ => 0)
            case atStart => exact ⟨rfl, rfl, HB6⟩
            case round =>
              obtain ⟨rfl, rfl, hB⟩ := hrel
              have Hs := Lib.hid (Fin.out _ hB)
              by_cases hz : 0 < l0.length
              · have dz : decide (0 < l0.length) = true := by simpa using hz
                go_wp2_with fail
                refine Hs.out.mono ?_; rintro e w7 ⟨rfl, hb7⟩
                go_wp2_with fail
                go_ret
                exact ⟨rfl, hb7⟩
              · have dz : decide (0 < l0.length) = false := by simpa using hz
                go_wp2_with fail
                refine Hs.out.mono ?_; rintro e w7 ⟨rfl, hb7⟩
                go_wp2_with fail
                go_ret
                exact ⟨rfl, hb7⟩
      · obtain ⟨P, rfl⟩ : ∃ P : Nat, pages = (P : Int) := ⟨pages.toNat, by omega⟩
        have hP1 : 1 ≤ P := by omega
        have hP2 : P ≤ 20 := by omega
        have d1 : decide (20 < (P : Int)) = false := by simp; omega
        have hnew := Lib.hid (new_ok w2 P hP1 (by omega))
        clear hbad hbig
        go_wp2_with fail
        refine hnew.out.mono ?_
        rintro e w3 ⟨bd0, bs0, bw0, hbd, hbs, hbw, rfl, hD3, hb3⟩
        have hrn := Lib.hid (rnew_ok w3 P hP1 (by omega))
        have HD3 := Lib.hid (And.intro hD3 (And.intro hb3 (And.intro hbd (And.intro hbs hbw))))
        clear hnew hD3 hb3 hbd hbs hbw
        go_wp2_with fail
        refine hrn.out.mono ?_
        rintro e w4 ⟨ps, pn, pw, hps, hpn, hpw, rfl, hV4, hb4⟩
        have HV4 := Lib.hid (And.intro hV4 (And.intro hb4 (And.intro hps (And.intro hpn hpw))))
        clear hrn hV4 hb4 hps hpn hpw
        go_wp2_with (first
          | (refine wpList_alloc_rt rfl rfl ?_; intro yb w5 hyb hr5 hb5)
          | (refine wpList_store_struct RT rfl (.tmp 10) (.tmp 78) rfl yb (rcs ps pn pw (new0 P)) rtz (by rfl) (by rfl) hr5 (by rw [info_rt]; rfl) rfl (rcs_one ps pn pw (new0 P)) ?_; intro w6 hr6 ht6))
        have hT6 : Two w w6 yb ps pn pw bd0 bs0 bw0 (new0 P) := by
          have hlt3 := HD3.out.1.foot_lt
          have hpl := HV4.out.1.safe.lt
          have hnl := HV4.out.1.now.lt
          have hwl : pw < w4.heap.size := (Array.getElem?_eq_some_iff.1 HV4.out.1.waits).1
          have h34 := HV4.out.2.1.size
          have h23 := HD3.out.2.1.size
          have hw2 := HB2.out.size
          have h45 := hb5.size
          have hV6 : RefV w6 ps pn pw (new0 P) := (HV4.out.1.turn (Turn.ofBelow (F := fun _ => False) hb5) (fun h => h) (fun h => h) (fun h => h)).turn ht6 (by omega) (by omega) (by omega)
          have hD5 : Dev w5 bd0 bs0 bw0 (new0 P) := (HD3.out.1.below HV4.out.2.1).below hb5
          have hF3 : ∀ i, Foot bd0 bs0 bw0 i → w2.heap.size ≤ i := by rintro i (rfl | rfl | rfl); exact HD3.out.2.2.1; exact HD3.out.2.2.2.1; exact HD3.out.2.2.2.2
          have hp3 := HV4.out.2.2.1
          have hn3 := HV4.out.2.2.2.1
          have hw3 := HV4.out.2.2.2.2
          refine ⟨hD5.turn ht6 (fun i hi e => by have := hlt3 i hi; omega), ⟨hr6, hV6⟩, fun i hi => by have := hF3 i hi; omega, fun i hi hj => ?_, ?_⟩
          · have := hlt3 i hi
            rcases hj with e | e | e | e <;> omega
          · have b2 : Below w.heap.size w w3 := HB2.out.trans (HD3.out.2.1.mono hw2)
            have b3 : Below w.heap.size w w4 := b2.trans (HV4.out.2.1.mono b2.size)
            have b4 : Below w.heap.size w w5 := b3.trans (hb5.mono b3.size)
            exact b4.trans (ht6.below b4.size (fun i hi => by rw [hi]; omega))
        have hR : ∀ i, FootR yb ps pn pw i → w.heap.size ≤ i := by
          have h1 := HV4.out.2.2.1
          have h2 := HV4.out.2.2.2.1
          have h3 := HV4.out.2.2.2.2
          have h23 := HD3.out.2.1.size
          have hw2 := HB2.out.size
          have h34 := HV4.out.2.1.size
          rintro i (rfl | rfl | rfl | rfl) <;> omega
        have HR := Lib.hid hR
        have HT6 := Lib.hid hT6
        have hn0 := Lib.hid (num_nil w6)
        clear hr5 hb5 hr6 ht6 hyb HV4 HD3 hT6 hR HB2
        go_wp2_with fail
        refine hn0.out.mono ?_; rintro e w7 ⟨rfl, hb7⟩
        have HT7 : Hid (Two w w7 yb ps pn pw bd0 bs0 bw0 (new0 P)) := HT6.out.below hb7
        clear hn0 hb7 HT6
        go_wp2_with fail
        go_loopw [8, 12] (fun d i wr => ∃ (k : Nat), k ≤ l0.length ∧ i = .int .i64 k ∧ ∃ bd bs bw S, d = .pointer (some ⟨bd, 0, none⟩) ∧ Hid (Two w wr yb ps pn pw bd bs bw S)) (fun _ i _ => l0.length - (intOf i).toNat)
        case atStart => exact ⟨0, Nat.zero_le _, rfl, bd0, bs0, bw0, _, rfl, HT7⟩
        case round =>
          clear HT7
          obtain ⟨k, hk, rfl, bd, bs, bw, S, rfl, hT⟩ := hrel
          by_cases hlt : k < l0.length
          · obtain ⟨b, o, rfl, hall⟩ := HS.out (by omega)
            obtain ⟨x, hx⟩ : ∃ x, l0[k]? = some x := ⟨_, List.getElem?_eq_getElem hlt⟩
            obtain ⟨hA, hc⟩ := hall k x hx
            have HA := Lib.hid hA
            have hcr : ∀ j v, (acs x)[j]? = some v → wr.cell? ⟨b, o + k * 4 + j, none⟩ = some v := fun j v hv => by
              have h1 := hc j v hv
              rw [hT.out.bel.cell (p := ⟨b, o + k * 4 + j, none⟩) (block_lt_of_cell h1)]; exact h1
            have q0 : wr.cell? ⟨b, o + k * 4, none⟩ = some (.int .i64 x.kind) := hcr 0 _ (by simp [acs])
            have q1 := hcr 1 (.int .i64 x.n) (by simp [acs])
            have q2 := hcr 2 (.slice x.ba x.bl.length x.bc) (by simp [acs])
            have q3 := hcr 3 (.slice x.ka x.kl.length x.kc) (by simp [acs])
            clear hall hx hA hc hcr
            by_cases hB : x.bl.length ≤ 600 ∧ x.kl.length ≤ 200
            · obtain ⟨hB1, hB2⟩ := hB
              have dB1 : decide (600 < (x.bl.length : Int)) = false := by simp; omega
              have dB2 : decide (200 < (x.kl.length : Int)) = false := by simp; omega
              obtain ⟨K, hKK⟩ : ∃ K, K = x.kind := ⟨_, rfl⟩
              have HKK := Lib.hid hKK
              clear hKK
              go_upto_block 2 with (first
                | (refine wpList_alloc_ac rfl rfl ?_; intro ga w4 hga hr4 hb4)
                | (refine wpList_store_struct AC rfl (.tmp 13) (.tmp 104) rfl ga (acs x) acz (by rfl) (by rfl) hr4 (by rw [info_ac]; rfl) rfl (acs_one x) ?_; intro w5 hr5 ht5; have k0 := (ack0 hr5).trans (by rw [← HKK.out]); have k1 := ack1 hr5; have k2 := ack2 hr5; have k3 := ack3 hr5))
              have hT4 := hT.out.below hb4
              have hgw : w.heap.size ≤ ga := Nat.le_trans hT.out.bel.size hga
              have hgF : ¬ Foot bd bs bw ga := fun hf => by have := hT.out.dev.foot_lt ga hf; omega
              have hgR : ¬ FootR yb ps pn pw ga := fun hf => by have := hT.out.ref.foot_lt ga hf; omega
              have HT5 : Hid (Two w w5 yb ps pn pw bd bs bw S) := ⟨hT4.dev.turn ht5 (fun i hi e => hgF (by rw [← e]; exact hi)), hT4.ref.turn ht5 (fun i hi e => hgR (by rw [← e]; exact hi)), hT4.new, hT4.off, hT4.bel.trans (ht5.below hT4.bel.size (fun i hi => by rw [hi]; exact hgw))⟩
              have Hrow := Lib.hid hr5
              have Hga := Lib.hid (And.intro hgF hgR)
              have HA5 := Lib.hid (HA.out.below HT5.out.bel)
              clear q0 q1 q2 q3 hT hT4 hgw hgF hgR hga hr4 hb4 hr5 ht5 k0 HKK
              go_cut [8, 14, 15, 16, 17] (fun s8 s14 s15 s16 s17 wx => ∃ (bd bs bw : Nat) (S : DS) (f : Int) (lb : List Nat) (pb : Option Addr) (cb : Nat) (pc : Option Addr) (cc : Nat), s8 = .pointer (some ⟨bd, 0, none⟩) ∧ s14 = errV f ∧ s15 = .int .i64 f ∧ s16 = .slice pb lb.length cb ∧ s17 = .slice pc lb.length cc ∧ Src wx pb lb ∧ Src wx pc lb ∧ (lb = [] → pb = none ∧ cb = 0) ∧ (lb = [] → pc = none ∧ cc = 0) ∧ Two w wx yb ps pn pw bd bs bw S)
              case first =>
                by_cases hK : K = 0
                · subst hK
                  as_aux_lemma =>
                    have h1 := Lib.hid (read_got w5 bd bs bw S x.n HT5.out.dev)
                    clear k1 k2 k3
                    have k1 := ack1 Hrow.out
                    have k2 := ack2 Hrow.out
                    have k3 := ack3 Hrow.out
                    go_wp2_with fail
                    refine h1.out.mono ?_
                    rintro e w6 ⟨p1, c1, rfl, hs1, hz1, hb6⟩
                    have HT6 : Hid (Two w w6 yb ps pn pw bd bs bw S) := HT5.out.below hb6
                    have hrow6 : w6.heap[ga]? = some (.cells (acs x) AC (0, 0)) := (Turn.ofBelow (F := fun _ => False) hb6).hg Hrow.out (fun h => h)
                    have Hs1 := Lib.hid (And.intro hs1 hz1)
                    clear h1 hs1 hz1 hb6 k1 k2 k3
                    have k1 := ack1 hrow6
                    have k2 := ack2 hrow6
                    have k3 := ack3 hrow6
                    have r0 := HT6.out.ref.c0
                    have r1 := HT6.out.ref.c1
                    have r2 := HT6.out.ref.c2
                    have r3 := HT6.out.ref.c3
                    have r4 := HT6.out.ref.c4
                    have r5 := HT6.out.ref.c5
                    have h2 := Lib.hid (rread_got w6 ps pn pw S x.n (wf_dev HT6.out.dev) HT6.out.ref.v)
                    clear hrow6
                    go_wp2_with fail
                    refine h2.out.mono ?_
                    rintro e w7 ⟨p2, c2, rfl, hs2, hz2, hb7⟩
                    have hs1 : Src w7 p1 (rdL S x.n) := src_turn Hs1.out.1 (Turn.ofBelow (F := fun _ => False) hb7) (fun _ _ _ h => h)
                    have Hf := Lib.hid (And.intro hs1 (And.intro hs2 (And.intro hz2 (HT6.out.below hb7))))
                    clear h2 hs1 hs2 hz2 hb7 k1 k2 k3 r0 r1 r2 r3 r4 r5
                    go_wp2_with fail
                    go_meet
                    exact ⟨bd, bs, bw, S, amongE S x.n (8 * S.pages : Nat), rdL S x.n, p1, c1, p2, c2, rfl, rfl, rfl, rfl, rfl, Hf.out.1, Hf.out.2.1, Hs1.out.2, Hf.out.2.2.1, Hf.out.2.2.2⟩
                · have e0 : (K == 0) = false := by simpa using hK
                  clear hK
                  by_cases hK : K = 1
                  · subst hK
                    as_aux_lemma =>
                      have h1 := Lib.hid (write_any w5 bd bs bw S x.n x.ba x.bl x.bc HA5.out.bs HA5.out.b8 HT5.out.dev)
                      clear k1 k2 k3
                      have k1 := ack1 Hrow.out
                      have k2 := ack2 Hrow.out
                      have k3 := ack3 Hrow.out
                      go_wp2_with fail
                      refine h1.out.mono ?_
                      rintro e w6 ⟨rfl, hD6, t6⟩
                      have hr6 : Ref w6 yb ps pn pw S := HT5.out.refMid t6 (Below.refl _ _)
                      have hrow6 : w6.heap[ga]? = some (.cells (acs x) AC (0, 0)) := t6.hg Hrow.out Hga.out.1
                      have hB6 : Below w.heap.size w w6 := HT5.out.bel.trans (t6.below HT5.out.bel.size HT5.out.new)
                      have hA6 := HA.out.below hB6
                      have H6 := Lib.hid (And.intro hD6 t6)
                      clear h1 hD6 t6 k1 k2 k3
                      have k1 := ack1 hrow6
                      have k2 := ack2 hrow6
                      have k3 := ack3 hrow6
                      have h2 := Lib.hid (rwrite_any w6 yb ps pn pw S x.n x.ba x.bl x.bc hA6.bs HA.out.b8 (fun h0 b o e hf => by have h1 := HR.out b hf; have h2 := HA.out.bs; rw [e] at h2; have h3 := src_lt h2 h0; omega) (wf_dev HT5.out.dev) hr6)
                      clear hrow6 hr6 hB6 hA6
                      go_wp2_with fail
                      refine h2.out.mono ?_
                      rintro e w7 ⟨rfl, hR7, t7⟩
                      have hT7 : Two w w7 yb ps pn pw bd bs bw (wrS S x.n x.bl).2 := HT5.out.step HR.out H6.out.1 H6.out.2 (Below.refl _ _) hR7 (t7)
                      have Hf := Lib.hid hT7
                      clear h2 hT7 hR7 t7 H6 k1 k2 k3
                      go_wp2_with fail
                      go_meet
                      exact ⟨bd, bs, bw, (wrS S x.n x.bl).2, (wrS S x.n x.bl).1, [], none, 0, none, 0, rfl, rfl, rfl, rfl, rfl, src_nil _, src_nil _, fun _ => ⟨rfl, rfl⟩, fun _ => ⟨rfl, rfl⟩, Hf.out⟩
                  · have e1 : (K == 1) = false := by simpa using hK
                    clear hK
                    by_cases hK : K = 2
                    · subst hK
                      as_aux_lemma =>
                        have h1 := Lib.hid (readPage_got w5 bd bs bw S x.n HT5.out.dev)
                        clear k1 k2 k3
                        have k1 := ack1 Hrow.out
                        have k2 := ack2 Hrow.out
                        have k3 := ack3 Hrow.out
                        go_wp2_with fail
                        refine h1.out.mono ?_
                        rintro e w6 ⟨p1, c1, rfl, hs1, hz1, hb6⟩
                        have HT6 : Hid (Two w w6 yb ps pn pw bd bs bw S) := HT5.out.below hb6
                        have hrow6 : w6.heap[ga]? = some (.cells (acs x) AC (0, 0)) := (Turn.ofBelow (F := fun _ => False) hb6).hg Hrow.out (fun h => h)
                        have Hs1 := Lib.hid (And.intro hs1 hz1)
                        clear h1 hs1 hz1 hb6 k1 k2 k3
                        have k1 := ack1 hrow6
                        have k2 := ack2 hrow6
                        have k3 := ack3 hrow6
                        have r0 := HT6.out.ref.c0
                        have r1 := HT6.out.ref.c1
                        have r2 := HT6.out.ref.c2
                        have r3 := HT6.out.ref.c3
                        have r4 := HT6.out.ref.c4
                        have r5 := HT6.out.ref.c5
                        have h2 := Lib.hid (rreadPage_got w6 ps pn pw S x.n (wf_dev HT6.out.dev) HT6.out.ref.v)
                        clear hrow6
                        go_wp2_with fail
                        refine h2.out.mono ?_
                        rintro e w7 ⟨p2, c2, rfl, hs2, hz2, hb7⟩
                        have hs1 : Src w7 p1 (rpL S x.n) := src_turn Hs1.out.1 (Turn.ofBelow (F := fun _ => False) hb7) (fun _ _ _ h => h)
                        have Hf := Lib.hid (And.intro hs1 (And.intro hs2 (And.intro hz2 (HT6.out.below hb7))))
                        clear h2 hs1 hs2 hz2 hb7 k1 k2 k3 r0 r1 r2 r3 r4 r5
                        go_wp2_with fail
                        go_meet
                        exact ⟨bd, bs, bw, S, amongE S x.n (S.pages : Nat), rpL S x.n, p1, c1, p2, c2, rfl, rfl, rfl, rfl, rfl, Hf.out.1, Hf.out.2.1, Hs1.out.2, Hf.out.2.2.1, Hf.out.2.2.2⟩
                    · have e2 : (K == 2) = false := by simpa using hK
                      clear hK
                      by_cases hK : K = 3
                      · subst hK
                        as_aux_lemma =>
                          clear k1 k2 k3
                          have k1 := ack1 Hrow.out
                          have k2 := ack2 Hrow.out
                          have k3 := ack3 Hrow.out
                          go_wp2_with fail
                          refine wp_region_gt (F := Foot bd bs bw) [(0, true), (1, true), (2, true), (3, true), (4, true), (5, false), (6, false), (7, true)] (by kernel_rfl) (by kernel_rfl) (by kernel_rfl) (by kernel_rfl) (fun _ _ _ _ _ h => h) ?_
                          have hbd : Below w5.heap.size w5 w5.drew := Ext.drew w5
                          have HT6 : Hid (Two w w5.drew yb ps pn pw bd bs bw S) := HT5.out.below hbd
                          have hrow6 : w5.drew.heap[ga]? = some (.cells (acs x) AC (0, 0)) := (Turn.ofBelow (F := fun _ => False) hbd).hg Hrow.out (fun h => h)
                          have q1 : ∀ w', Turn (Foot bd bs bw) w5.drew w' → w'.cell? ⟨ga, 1, none⟩ = some (.int .i64 x.n) := fun w' t => ack1 (t.hg hrow6 Hga.out.1)
                          have q2 : ∀ w', Turn (Foot bd bs bw) w5.drew w' → w'.cell? ⟨ga, 2, none⟩ = some (.slice x.ba x.bl.length x.bc) := fun w' t => ack2 (t.hg hrow6 Hga.out.1)
                          have Hrow6 := Lib.hid hrow6
                          clear hbd hrow6 k1 k2 k3
                          generalize w5.drew = w6 at *
                          iterate 5 (refine wpGt_read (o := ⟨_, _, _, _, _, _⟩) (v := ?_) rfl (by rfl) ?_ ?_; rotate_left; (intro w' hw'; go_simp; with_reducible rfl); simp only [Act.put, List.setIfInBounds_toArray, List.set_cons_zero, List.set_cons_succ])
                          clear q1 q2
                          refine wpGt_call (o := ⟨_, _, _, _, _, _⟩) rfl (by rfl) (fun K hK => ?_)
                          go_simp
                          refine (page_any w6 x.ba x.bl x.bc (HA.out.below HT6.out.bel).bs HA.out.bc HA.out.bm).mono ?_
                          rintro e w7 ⟨p, c, rfl, hsp, hpc, _, hb7⟩
                          refine hK _ _ (Turn.ofBelow hb7) ?_
                          clear hK K
                          have HT7 : Hid (Two w w7 yb ps pn pw bd bs bw S) := HT6.out.below hb7
                          have hrow7 : w7.heap[ga]? = some (.cells (acs x) AC (0, 0)) := (Turn.ofBelow (F := fun _ => False) hb7).hg Hrow6.out (fun h => h)
                          refine wpGt_call (o := ⟨_, _, _, _, _, _⟩) rfl (by rfl) (fun K hK => ?_)
                          go_simp
                          refine (writePage_any w7 bd bs bw S x.n p (pgOf x.bl) c hsp (pgOf_b8 HA.out.b8) hpc HT7.out.dev).mono ?_
                          rintro e w8 ⟨rfl, hD8, t8⟩
                          refine hK _ _ t8 ?_
                          clear hK K
                          (refine wpGt_read (o := ⟨_, _, _, _, _, _⟩) (v := ?_) rfl (by rfl) ?_ ?_; rotate_left; (intro w' hw'; go_simp; with_reducible rfl); simp only [Act.put, List.setIfInBounds_toArray, List.set_cons_zero, List.set_cons_succ])
                          refine wpGt_done ?_
                          have hrow8 : w8.heap[ga]? = some (.cells (acs x) AC (0, 0)) := t8.hg hrow7 Hga.out.1
                          have H8 := Lib.hid (And.intro hD8 (And.intro t8 hrow8))
                          clear hsp hpc hb7 hrow7 hD8 t8 hrow8
                          go_wp2_with fail
                          refine wp_region_gt (F := FootR yb ps pn pw) [(0, true), (1, true), (2, true), (3, true), (4, false), (5, false), (6, true)] (by kernel_rfl) (by kernel_rfl) (by kernel_rfl) (by kernel_rfl) (fun _ _ _ _ _ h => h) ?_
                          have hbd : Below w8.heap.size w8 w8.drew := Ext.drew w8
                          have hr9 : Ref w8.drew yb ps pn pw S := HT7.out.refMid H8.out.2.1 hbd
                          have hB8 : Below w.heap.size w w8 := HT7.out.bel.trans (H8.out.2.1.below HT7.out.bel.size HT7.out.new)
                          have hB9 : Below w.heap.size w w8.drew := hB8.trans (hbd.mono hB8.size)
                          have hrow9 : w8.drew.heap[ga]? = some (.cells (acs x) AC (0, 0)) := (Turn.ofBelow (F := fun _ => False) hbd).hg H8.out.2.2 (fun h => h)
                          have q1 : ∀ w', Turn (FootR yb ps pn pw) w8.drew w' → w'.cell? ⟨ga, 1, none⟩ = some (.int .i64 x.n) := fun w' t => ack1 (t.hg hrow9 Hga.out.2)
                          have q2 : ∀ w', Turn (FootR yb ps pn pw) w8.drew w' → w'.cell? ⟨ga, 2, none⟩ = some (.slice x.ba x.bl.length x.bc) := fun w' t => ack2 (t.hg hrow9 Hga.out.2)
                          have H9 := Lib.hid (And.intro hbd (And.intro hr9 hB9))
                          clear hbd hr9 hB8 hB9 hrow9
                          generalize w8.drew = w9 at *
                          iterate 4 (refine wpGt_read (o := ⟨_, _, _, _, _, _⟩) (v := ?_) rfl (by rfl) ?_ ?_; rotate_left; (intro w' hw'; go_simp; with_reducible rfl); simp only [Act.put, List.setIfInBounds_toArray, List.set_cons_zero, List.set_cons_succ])
                          clear q1 q2
                          refine wpGt_call (o := ⟨_, _, _, _, _, _⟩) rfl (by rfl) (fun K hK => ?_)
                          go_simp
                          refine (page_any w9 x.ba x.bl x.bc (HA.out.below H9.out.2.2).bs HA.out.bc HA.out.bm).mono ?_
                          rintro e w10 ⟨p2, c2, rfl, hsp, hpc, hpo, hb10⟩
                          refine hK _ _ (Turn.ofBelow hb10) ?_
                          clear hK K
                          have hoff : 0 < (pgOf x.bl).length → Off p2 (FootR yb ps pn pw) := fun _ b o e hf => by
                            rcases hpo b o e with h1 | ⟨h1, o2, h2⟩
                            · have := H9.out.2.1.foot_lt b hf; omega
                            · have h3 := HR.out b hf; have h4 := HA.out.bs; rw [h2] at h4; have h5 := src_lt h4 h1; omega
                          refine wpGt_call (o := ⟨_, _, _, _, _, _⟩) rfl (by rfl) (fun K hK => ?_)
                          go_simp
                          refine (rwritePage_any w10 yb ps pn pw S x.n p2 (pgOf x.bl) c2 hsp (pgOf_b8 HA.out.b8) hpc hoff (wf_dev HT6.out.dev) (H9.out.2.1.below hb10)).mono ?_
                          rintro e w11 ⟨rfl, hR11, t11⟩
                          refine hK _ _ t11 ?_
                          clear hK K
                          (refine wpGt_read (o := ⟨_, _, _, _, _, _⟩) (v := ?_) rfl (by rfl) ?_ ?_; rotate_left; (intro w' hw'; go_simp; with_reducible rfl); simp only [Act.put, List.setIfInBounds_toArray, List.set_cons_zero, List.set_cons_succ])
                          refine wpGt_done ?_
                          have hT11 : Two w w11 yb ps pn pw bd bs bw (wpS S x.n (pgOf x.bl)).2 := HT7.out.step HR.out H8.out.1 H8.out.2.1 (H9.out.1.trans (hb10.mono H9.out.1.size)) hR11 t11
                          have Hf := Lib.hid hT11
                          clear hT11 hR11 t11 hsp hpc hpo hb10 hoff H8 H9
                          go_wp2_with fail
                          go_meet
                          exact ⟨bd, bs, bw, (wpS S x.n (pgOf x.bl)).2, (wpS S x.n (pgOf x.bl)).1, [], none, 0, none, 0, rfl, rfl, rfl, rfl, rfl, src_nil _, src_nil _, fun _ => ⟨rfl, rfl⟩, fun _ => ⟨rfl, rfl⟩, Hf.out⟩
                      · have e3 : (K == 3) = false := by simpa using hK
                        clear hK
                        by_cases hK : K = 4
                        · subst hK
                          as_aux_lemma =>
                            have h1 := Lib.hid (sync_any w5 bd bs bw S HT5.out.dev)
                            clear k1 k2 k3
                            have k1 := ack1 Hrow.out
                            have k2 := ack2 Hrow.out
                            have k3 := ack3 Hrow.out
                            go_wp2_with fail
                            refine h1.out.mono ?_
                            rintro e w6 ⟨rfl, hD6, t6⟩
                            have hr6 : Ref w6 yb ps pn pw S := HT5.out.refMid t6 (Below.refl _ _)
                            have hrow6 : w6.heap[ga]? = some (.cells (acs x) AC (0, 0)) := t6.hg Hrow.out Hga.out.1
                            have hB6 : Below w.heap.size w w6 := HT5.out.bel.trans (t6.below HT5.out.bel.size HT5.out.new)
                            have hA6 := HA.out.below hB6
                            have H6 := Lib.hid (And.intro hD6 t6)
                            clear h1 hD6 t6 k1 k2 k3
                            have k1 := ack1 hrow6
                            have k2 := ack2 hrow6
                            have k3 := ack3 hrow6
                            have h2 := Lib.hid (rsync_any w6 yb ps pn pw S (wf_dev HT5.out.dev) hr6)
                            clear hrow6 hr6 hB6 hA6
                            go_wp2_with fail
                            refine h2.out.mono ?_
                            rintro e w7 ⟨rfl, hR7, t7⟩
                            have hT7 : Two w w7 yb ps pn pw bd bs bw (syS S).2 := HT5.out.step HR.out H6.out.1 H6.out.2 (Below.refl _ _) hR7 (t7)
                            have Hf := Lib.hid hT7
                            clear h2 hT7 hR7 t7 H6 k1 k2 k3
                            go_wp2_with fail
                            go_meet
                            exact ⟨bd, bs, bw, (syS S).2, (syS S).1, [], none, 0, none, 0, rfl, rfl, rfl, rfl, rfl, src_nil _, src_nil _, fun _ => ⟨rfl, rfl⟩, fun _ => ⟨rfl, rfl⟩, Hf.out⟩
                        · have e4 : (K == 4) = false := by simpa using hK
                          clear hK
                          by_cases hK : K = 5
                          · subst hK
                            as_aux_lemma =>
                              have h1 := Lib.hid (arm_any w5 bd bs bw S x.n HA.out.n1 HA.out.n2 HT5.out.dev)
                              clear k1 k2 k3
                              have k1 := ack1 Hrow.out
                              have k2 := ack2 Hrow.out
                              have k3 := ack3 Hrow.out
                              go_wp2_with fail
                              refine h1.out.mono ?_
                              rintro e w6 ⟨rfl, hD6, t6⟩
                              have hr6 : Ref w6 yb ps pn pw S := HT5.out.refMid t6 (Below.refl _ _)
                              have hrow6 : w6.heap[ga]? = some (.cells (acs x) AC (0, 0)) := t6.hg Hrow.out Hga.out.1
                              have hB6 : Below w.heap.size w w6 := HT5.out.bel.trans (t6.below HT5.out.bel.size HT5.out.new)
                              have hA6 := HA.out.below hB6
                              have H6 := Lib.hid (And.intro hD6 t6)
                              clear h1 hD6 t6 k1 k2 k3
                              have k1 := ack1 hrow6
                              have k2 := ack2 hrow6
                              have k3 := ack3 hrow6
                              have h2 := Lib.hid (rarm_any w6 yb ps pn pw S x.n hr6)
                              clear hrow6 hr6 hB6 hA6
                              go_wp2_with fail
                              refine h2.out.mono ?_
                              rintro e w7 ⟨rfl, hR7, t7⟩
                              have hT7 : Two w w7 yb ps pn pw bd bs bw { S with armed := decide (0 ≤ x.n), left := x.n } := HT5.out.step HR.out H6.out.1 H6.out.2 (Below.refl _ _) hR7 (t7.mono (fun i hi _ => .inl hi))
                              have Hf := Lib.hid hT7
                              clear h2 hT7 hR7 t7 H6 k1 k2 k3
                              go_wp2_with fail
                              go_meet
                              exact ⟨bd, bs, bw, { S with armed := decide (0 ≤ x.n), left := x.n }, 0, [], none, 0, none, 0, rfl, rfl, rfl, rfl, rfl, src_nil _, src_nil _, fun _ => ⟨rfl, rfl⟩, fun _ => ⟨rfl, rfl⟩, Hf.out⟩
                          · have e5 : (K == 5) = false := by simpa using hK
                            clear hK
                            by_cases hK : K = 6
                            · subst hK
                              as_aux_lemma =>
                                have h1 := Lib.hid (crash_any w5 bd bs bw S x.ka x.kl x.kc HA5.out.ks HT5.out.dev)
                                clear k1 k2 k3
                                have k1 := ack1 Hrow.out
                                have k2 := ack2 Hrow.out
                                have k3 := ack3 Hrow.out
                                go_wp2_with fail
                                refine h1.out.mono ?_
                                rintro e w6 ⟨rfl, hD6, t6⟩
                                have hr6 : Ref w6 yb ps pn pw S := HT5.out.refMid t6 (Below.refl _ _)
                                have hrow6 : w6.heap[ga]? = some (.cells (acs x) AC (0, 0)) := t6.hg Hrow.out Hga.out.1
                                have hB6 : Below w.heap.size w w6 := HT5.out.bel.trans (t6.below HT5.out.bel.size HT5.out.new)
                                have hA6 := HA.out.below hB6
                                have H6 := Lib.hid (And.intro hD6 t6)
                                clear h1 hD6 t6 k1 k2 k3
                                have k1 := ack1 hrow6
                                have k2 := ack2 hrow6
                                have k3 := ack3 hrow6
                                have h2 := Lib.hid (rcrash_any w6 yb ps pn pw S x.ka x.kl x.kc hA6.ks (fun h0 b o e hf => by have h1 := HR.out b hf; have h2 := HA.out.ks; rw [e] at h2; have h3 := bsrc_lt h2 h0; omega) (wf_dev HT5.out.dev) hr6)
                                clear hrow6 hr6 hB6 hA6
                                go_wp2_with fail
                                refine h2.out.mono ?_
                                rintro e w7 ⟨rfl, hR7, t7⟩
                                have hT7 : Two w w7 yb ps pn pw bd bs bw (crS S x.kl) := HT5.out.step HR.out H6.out.1 H6.out.2 (Below.refl _ _) hR7 (t7)
                                have Hf := Lib.hid hT7
                                clear h2 hT7 hR7 t7 H6 k1 k2 k3
                                go_wp2_with fail
                                go_meet
                                exact ⟨bd, bs, bw, (crS S x.kl), 0, [], none, 0, none, 0, rfl, rfl, rfl, rfl, rfl, src_nil _, src_nil _, fun _ => ⟨rfl, rfl⟩, fun _ => ⟨rfl, rfl⟩, Hf.out⟩
                            · have e6 : (K == 6) = false := by simpa using hK
                              clear hK
                              as_aux_lemma =>
                                have h1 := Lib.hid (copy_any w5 bd bs bw S HT5.out.dev)
                                clear k1 k2 k3
                                have k1 := ack1 Hrow.out
                                have k2 := ack2 Hrow.out
                                have k3 := ack3 Hrow.out
                                go_wp2_with fail
                                refine h1.out.mono ?_
                                rintro e w6 ⟨cd, cs, cw, hcd, hcs, hcw, rfl, hC6, hb6⟩
                                have h2 := Lib.hid (crash_any w6 bd bs bw S none [] 0 (fun h => by cases h) (HT5.out.dev.below hb6))
                                have H6 := Lib.hid (And.intro hC6 (And.intro hb6 (And.intro hcd (And.intro hcs hcw))))
                                clear h1 hC6 hb6 hcd hcs hcw k1 k2 k3
                                go_wp2_with fail
                                refine h2.out.mono ?_
                                rintro e w7 ⟨rfl, hD7, t7⟩
                                have hT7 : Two w w7 yb ps pn pw cd cs cw S := by
                                  have hfc : ∀ i, Foot cd cs cw i → w5.heap.size ≤ i := by
                                    have h1 := H6.out.2.2.1
                                    have h2 := H6.out.2.2.2.1
                                    have h3 := H6.out.2.2.2.2
                                    rintro i (rfl | rfl | rfl) <;> assumption
                                  have hlt := HT5.out.dev.foot_lt
                                  have hrl := HT5.out.ref.foot_lt
                                  have hT6 := HT5.out.below H6.out.2.1
                                  refine ⟨H6.out.1.turn t7 (fun i hi hf => by have := hfc i hi; have := hlt i hf; omega), hT6.ref.turn t7 (fun i hi hf => HT5.out.off i hf hi), fun i hi => Nat.le_trans HT5.out.bel.size (hfc i hi), fun i hi hf => by have := hfc i hi; have := hrl i hf; omega, ?_⟩
                                  exact hT6.bel.trans (t7.below hT6.bel.size HT5.out.new)
                                have Hf := Lib.hid hT7
                                clear h2 hT7 hD7 t7 H6
                                go_wp2_with fail
                                go_meet
                                exact ⟨cd, cs, cw, S, 0, [], none, 0, none, 0, rfl, rfl, rfl, rfl, rfl, src_nil _, src_nil _, fun _ => ⟨rfl, rfl⟩, fun _ => ⟨rfl, rfl⟩, Hf.out⟩
              case rest =>
                obtain ⟨bd, bs, bw, S, f, lb, pb, cb, pc, cc, rfl, rfl, rfl, rfl, rfl, hsb, hsc, hzb, hzc, hT⟩ := hcut
                as_aux_lemma =>
                  go_wp2_with fail
                  refine wp_region_gt (F := fun _ => False) [(0, true), (1, true), (2, true), (3, true), (5, true), (4, false), (6, true), (7, true), (8, true), (9, true), (10, true), (11, true), (12, true), (13, true), (14, true), (15, true), (16, true), (18, true), (19, true), (17, false), (20, true), (21, true), (22, true), (23, true), (25, true), (26, true), (24, false), (27, true), (28, true), (29, true), (30, true), (32, true), (31, false), (33, false), (34, false), (35, true), (36, true)] (by kernel_rfl) (by kernel_rfl) (by kernel_rfl) (by kernel_rfl) (fun _ _ _ _ _ h => h) ?_
                  have hbd : Below wc.heap.size wc wc.drew := Ext.drew wc
                  have HTd := Lib.hid (hT.below hbd)
                  have hsb1 := src_turn hsb (Turn.ofBelow (F := fun _ => False) hbd) (fun _ _ _ h => h)
                  have hsc1 := src_turn hsc (Turn.ofBelow (F := fun _ => False) hbd) (fun _ _ _ h => h)
                  have q5 : ∀ w', Turn (fun _ => False) wc.drew w' → w'.cell? ⟨yb, 5, none⟩ = some (.bool S.down) := fun w' t => (HTd.out.ref.turn t (fun _ _ h => h)).c5
                  have q0 : ∀ w', Turn (fun _ => False) wc.drew w' → w'.cell? ⟨yb, 0, none⟩ = some (.int .i64 (S.pages : Int)) := fun w' t => (HTd.out.ref.turn t (fun _ _ h => h)).c0
                  have cv1 : ∀ w', Turn (fun _ => False) wc.drew w' → (convert BT 9 (.slice pb lb.length cb)).run Tryd.prog w' = .ok (.string (bstr lb)) w' := fun w' t => conv_src (src_turn hsb1 t (fun _ _ _ h => h)) hzb
                  have cv2 : ∀ w', Turn (fun _ => False) wc.drew w' → (convert BT 9 (.slice pc lb.length cc)).run Tryd.prog w' = .ok (.string (bstr lb)) w' := fun w' t => conv_src (src_turn hsc1 t (fun _ _ _ h => h)) hzc
                  clear hbd hT hsb hsc hsb1 hsc1 hzb hzc
                  generalize wc.drew = w3 at *
                  iterate 5 (refine wpGt_read (o := ⟨_, _, _, _, _, _⟩) (v := ?_) rfl (by rfl) ?_ ?_; rotate_left; (intro w' hw'; go_simp; with_reducible rfl); simp only [Act.put, List.setIfInBounds_toArray, List.set_cons_zero, List.set_cons_succ])
                  refine wpGt_call (o := ⟨_, _, _, _, _, _⟩) rfl (by rfl) (fun K hK => ?_)
                  go_simp
                  refine (num_any (errV f) f w3 (errV_is f) (HG.out.below HTd.out.bel)).mono ?_
                  rintro e w4 ⟨rfl, hb4⟩
                  refine hK _ _ (Turn.ofBelow hb4) ?_
                  clear hK K
                  have q5' : ∀ w', Turn (fun _ => False) w4 w' → w'.cell? ⟨yb, 5, none⟩ = some (.bool S.down) := fun w' t => q5 w' ((Turn.ofBelow hb4).trans t)
                  have q0' : ∀ w', Turn (fun _ => False) w4 w' → w'.cell? ⟨yb, 0, none⟩ = some (.int .i64 (S.pages : Int)) := fun w' t => q0 w' ((Turn.ofBelow hb4).trans t)
                  have cv1' : ∀ w', Turn (fun _ => False) w4 w' → (convert BT 9 (.slice pb lb.length cb)).run Tryd.prog w' = .ok (.string (bstr lb)) w' := fun w' t => cv1 w' ((Turn.ofBelow hb4).trans t)
                  have cv2' : ∀ w', Turn (fun _ => False) w4 w' → (convert BT 9 (.slice pc lb.length cc)).run Tryd.prog w' = .ok (.string (bstr lb)) w' := fun w' t => cv2 w' ((Turn.ofBelow hb4).trans t)
                  have HT4 := Lib.hid (HTd.out.below hb4)
                  clear q5 q0 cv1 cv2 hb4 HTd
                  iterate 13 (refine wpGt_read (o := ⟨_, _, _, _, _, _⟩) (v := ?_) rfl (by rfl) ?_ ?_; rotate_left; (intro w' hw'; go_simp; with_reducible rfl); simp only [Act.put, List.setIfInBounds_toArray, List.set_cons_zero, List.set_cons_succ])
                  clear cv1' cv2'
                  refine wpGt_call (o := ⟨_, _, _, _, _, _⟩) rfl (by rfl) (fun K hK => ?_)
                  go_simp
                  refine (down_any w4 bd bs bw S HT4.out.dev).mono ?_
                  rintro e w' ⟨rfl, rfl⟩
                  refine hK _ _ (Turn.refl _ _) ?_
                  clear hK K
                  iterate 6 (refine wpGt_read (o := ⟨_, _, _, _, _, _⟩) (v := ?_) rfl (by rfl) ?_ ?_; rotate_left; (intro w' hw'; go_simp; with_reducible rfl); simp only [Act.put, List.setIfInBounds_toArray, List.set_cons_zero, List.set_cons_succ])
                  clear q5' q0'
                  refine wpGt_call (o := ⟨_, _, _, _, _, _⟩) rfl (by rfl) (fun K hK => ?_)
                  go_simp
                  refine (pages_any w4 bd bs bw S HT4.out.dev).mono ?_
                  rintro e w' ⟨rfl, rfl⟩
                  refine hK _ _ (Turn.refl _ _) ?_
                  clear hK K
                  iterate 4 (refine wpGt_read (o := ⟨_, _, _, _, _, _⟩) (v := ?_) rfl (by rfl) ?_ ?_; rotate_left; (intro w' hw'; go_simp; with_reducible rfl); simp only [Act.put, List.setIfInBounds_toArray, List.set_cons_zero, List.set_cons_succ])
                  refine wpGt_read (o := ⟨_, _, _, _, _, _⟩) (v := .agg (rcs ps pn pw S)) rfl (by rfl) (fun w' hw' => rd_load_rt (.tmp 10) rfl yb (rcs ps pn pw S) (by rfl) (hw'.hg HT4.out.ref.row (fun h => h)) rfl) ?_
                  simp only [Act.put, List.setIfInBounds_toArray, List.set_cons_zero, List.set_cons_succ]
                  refine wpGt_call (o := ⟨_, _, _, _, _, _⟩) rfl (by rfl) (fun K hK => ?_)
                  go_simp
                  refine (waiting_any w4 bd bs bw S HT4.out.dev).mono ?_
                  rintro e w5 ⟨v1, rfl, ho1, hb5⟩
                  obtain ⟨p1, n1, rfl, hi1, _⟩ := own_isrc ho1
                  refine hK _ _ (Turn.ofBelow hb5) ?_
                  clear hK K ho1
                  have HT5 := Lib.hid (HT4.out.below hb5)
                  refine wpGt_call (o := ⟨_, _, _, _, _, _⟩) rfl (by rfl) (fun K hK => ?_)
                  go_simp
                  refine (rwaiting_any w5 ps pn pw S (wf_dev HT5.out.dev) HT5.out.ref.v).mono ?_
                  rintro e w6 ⟨v2, rfl, ho2, hb6⟩
                  obtain ⟨p2, n2, rfl, hi2, _⟩ := own_isrc ho2
                  refine hK _ _ (Turn.ofBelow hb6) ?_
                  clear hK K ho2
                  have HT6 := Lib.hid (HT5.out.below hb6)
                  have hlen : (wl S).length ≤ 65536 := by have := wl_len S; have := HT6.out.dev.p2; omega
                  refine wpGt_call (o := ⟨_, _, _, _, _, _⟩) rfl (by rfl) (fun K hK => ?_)
                  go_simp
                  refine (ints_same w6 p1 p2 (wl S) n1 n2 hlen (hi1.ext hb6) hi2).mono ?_
                  rintro e w7 ⟨rfl, hb7⟩
                  refine hK _ _ (Turn.ofBelow hb7) ?_
                  clear hK K
                  have HT7 : Hid (Two w w7 yb ps pn pw bd bs bw S) := HT6.out.below hb7
                  clear hi1 hi2 hb5 hb6 hb7 HT4 HT5 HT6 hlen
                  iterate 2 (refine wpGt_read (o := ⟨_, _, _, _, _, _⟩) (v := ?_) rfl (by rfl) ?_ ?_; rotate_left; (intro w' hw'; go_simp; with_reducible rfl); simp only [Act.put, List.setIfInBounds_toArray, List.set_cons_zero, List.set_cons_succ])
                  refine wpGt_done ?_
                  go_wp2_with fail
                  go_roundw
                  case rel => exact ⟨k + 1, by omega, by go_num, bd, bs, bw, S, rfl, HT7⟩
                  case measure => simp [intOf]; omega
            · have HTn := hT
              by_cases hB1 : x.bl.length ≤ 600
              · have dB1 : decide (600 < (x.bl.length : Int)) = false := by simp; omega
                have dB2 : decide (200 < (x.kl.length : Int)) = true := by simp; omega
                as_aux_lemma =>
                  go_wp2_with (first
                    | (refine wpList_alloc_ac rfl rfl ?_; intro ga w4 hga hr4 hb4)
                    | (refine wpList_store_struct AC rfl (.tmp 13) (.tmp 104) rfl ga (acs x) acz (by rfl) (by rfl) hr4 (by rw [info_ac]; rfl) rfl (acs_one x) ?_; intro w5 hr5 ht5; have k0 := ack0 hr5; have k1 := ack1 hr5; have k2 := ack2 hr5; have k3 := ack3 hr5))
                  have hT4 := hT.out.below hb4
                  have hgw : w.heap.size ≤ ga := Nat.le_trans hT.out.bel.size hga
                  have hgF : ¬ Foot bd bs bw ga := fun hf => by have := hT.out.dev.foot_lt ga hf; omega
                  have hgR : ¬ FootR yb ps pn pw ga := fun hf => by have := hT.out.ref.foot_lt ga hf; omega
                  have HT5 : Hid (Two w w5 yb ps pn pw bd bs bw S) := ⟨hT4.dev.turn ht5 (fun i hi e => hgF (by rw [← e]; exact hi)), hT4.ref.turn ht5 (fun i hi e => hgR (by rw [← e]; exact hi)), hT4.new, hT4.off, hT4.bel.trans (ht5.below hT4.bel.size (fun i hi => by rw [hi]; exact hgw))⟩
                  clear q0 q1 q2 q3 hT HTn hT4 hgw hgF hgR hga hr4 hb4 hr5 ht5 k0 k1 k2 k3
                  go_roundw
                  case rel => exact ⟨k + 1, by omega, by go_num, bd, bs, bw, S, rfl, HT5⟩
                  case measure => simp [intOf]; omega
              · have dB1 : decide (600 < (x.bl.length : Int)) = true := by simp; omega
                as_aux_lemma =>
                  go_wp2_with (first
                    | (refine wpList_alloc_ac rfl rfl ?_; intro ga w4 hga hr4 hb4)
                    | (refine wpList_store_struct AC rfl (.tmp 13) (.tmp 104) rfl ga (acs x) acz (by rfl) (by rfl) hr4 (by rw [info_ac]; rfl) rfl (acs_one x) ?_; intro w5 hr5 ht5; have k0 := ack0 hr5; have k1 := ack1 hr5; have k2 := ack2 hr5; have k3 := ack3 hr5))
                  have hT4 := hT.out.below hb4
                  have hgw : w.heap.size ≤ ga := Nat.le_trans hT.out.bel.size hga
                  have hgF : ¬ Foot bd bs bw ga := fun hf => by have := hT.out.dev.foot_lt ga hf; omega
                  have hgR : ¬ FootR yb ps pn pw ga := fun hf => by have := hT.out.ref.foot_lt ga hf; omega
                  have HT5 : Hid (Two w w5 yb ps pn pw bd bs bw S) := ⟨hT4.dev.turn ht5 (fun i hi e => hgF (by rw [← e]; exact hi)), hT4.ref.turn ht5 (fun i hi e => hgR (by rw [← e]; exact hi)), hT4.new, hT4.off, hT4.bel.trans (ht5.below hT4.bel.size (fun i hi => by rw [hi]; exact hgw))⟩
                  clear q0 q1 q2 q3 hT HTn hT4 hgw hgF hgR hga hr4 hb4 hr5 ht5 k0 k1 k2 k3
                  go_roundw
                  case rel => exact ⟨k + 1, by omega, by go_num, bd, bs, bw, S, rfl, HT5⟩
                  case measure => simp [intOf]; omega
          · obtain rfl : k = l0.length := by omega
            have HB9 : Hid (Below w.heap.size w wr) := hT.out.bel
            clear hT
            go_wp2_with fail
            refine (Fin.out _ HB9).mono ?_; rintro e w5 ⟨rfl, hb5⟩
            go_wp2_with fail
            go_ret
            exact ⟨rfl, hb5⟩
end Go.Proofs.YtbkjaifpgknadaaDoor
