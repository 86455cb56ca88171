/-
  DeviceCopies: the law's walk.
-/
import Derived.Test.YtbkjaifpgknadaaDoorLawDev
namespace Go.Proofs.YtbkjaifpgknadaaDoor
open Go Go.RowKit Go.Maps

theorem among_four (S : DS) (hd : S.down = false) (hp : S.pages = 4) (n : Nat) (hn : n < 32) : amongE S (n : Int) ((8 * S.pages : Nat) : Int) = 0 := by
  unfold amongE; rw [if_neg (by rw [hd]; simp), if_neg (by rw [hp]; omega)]
/-- A device of four pages on which so much was written. -/
def wD (l : List (Nat × Nat)) : DS := { new0 4 with waits := wsF (fun _ => none) l }
set_option maxRecDepth 100000 in
set_option maxHeartbeats 4000000 in
theorem copies_any (a0 : Option Addr) (l0 : List (Nat × Nat)) (c0 : Nat) (a1 : Option Addr) (l1 : List (Nat × Nat)) (c1 : Nat) (arm : Nat) (w : World) (hs0 : PSrc w a0 l0) (hs1 : PSrc w a1 l1) (h80 : P8 l0) (h81 : P8 l1) (harm : arm < 256)
    (hm0 : l0.length ≤ 9223372036854775807) (hm1 : l1.length ≤ 9223372036854775807) (hg : Hg w) :
    Calls Tryd.prog 5 #[.slice a0 l0.length c0, .slice a1 l1.length c1, .int .u8 (arm : Int)] w fun e w' => e = .returned (.bool true) ∧ Below w.heap.size w w' := by
  have HG := Lib.hid hg
  have hnew := new_ok w 4 (by omega) (by omega)
  rw [show ((4 : Nat) : Int) = 4 from rfl] at hnew
  have Hnew := Lib.hid hnew
  have HS := Lib.hid (And.intro hs0 (And.intro hs1 (And.intro h80 h81)))
  have fin : ∀ w5 : World, Hid (Below w.heap.size w w5) → Calls Tryd.prog 15 #[] w5 fun e w' => e = .returned (.bool true) ∧ Below w.heap.size w w' := fun w5 h5 =>
    (sure_any w5 (HG.out.below h5.out)).mono fun _ _ h => ⟨h.1, h5.out.trans (h.2.mono h5.out.size)⟩
  have Fin := Lib.hid fin
  clear hg hnew hs0 hs1 h80 h81 fin
  by_cases h60 : l0.length ≤ 60 ∧ l1.length ≤ 60
  · obtain ⟨h0, h1⟩ := h60
    have d0 : decide (60 < (l0.length : Int)) = false := by simp; omega
    have d1 : decide (60 < (l1.length : Int)) = false := by simp; omega
    go_enter Tryd.func5, Tryd.ntmps5
    go_wp2_with fail
    refine Hnew.out.mono ?_
    rintro e w1 ⟨bd, bs, bw, hbd, hbs, hbw, rfl, hD1, hb1⟩
    have hfw : ∀ i, Foot bd bs bw i → w.heap.size ≤ i := by rintro i (rfl | rfl | rfl) <;> assumption
    have Hfw := Lib.hid hfw
    have HD1 : Hid (Dev w1 bd bs bw (wD (l0.take 0))) := hD1
    have HB1 : Hid (Below w.heap.size w w1) := hb1
    clear hbd hbs hbw hfw hD1 hb1
    go_wp2
    go_loopw [9] (fun i wr => ∃ k : Nat, k ≤ l0.length ∧ i = .int .i64 k ∧ Hid (Dev wr bd bs bw (wD (l0.take k))) ∧ Hid (Below w.heap.size w wr)) (fun i _ => l0.length - (intOf i).toNat)
    case atStart => exact ⟨0, Nat.zero_le _, rfl, HD1, HB1⟩
    case round =>
      obtain ⟨k, hk, rfl, hD, hB⟩ := hrel
      by_cases hlt : k < l0.length
      · obtain ⟨b, o, rfl, hc⟩ := HS.out.1 (by omega)
        obtain ⟨q0, q1⟩ := hc k hlt
        have hbw : b < w.heap.size := block_lt_of_cell q0
        have hp8 := HS.out.2.2.1.get k
        have hsn := congrArg (wsF (fun _ => none)) (take_snocP l0 k hlt)
        rw [wsF_snoc] at hsn
        generalize l0.getD k (0, 0) = P at *
        obtain ⟨A, C⟩ := P
        simp only at q0 q1 hp8 hsn
        obtain ⟨N, hN⟩ : ∃ N, N = A % 32 := ⟨_, rfl⟩
        have eN : (A : Int).tmod 32 = (N : Int) := by rw [Int.tmod_eq_emod_of_nonneg (by omega)]; omega
        have eW : IntKind.i64.wrap (N : Int) = (N : Int) := IntWalk.i64_in _ (by omega)
        have hNl : N < 32 := by omega
        have hA := hp8.1
        have hC := hp8.2
        rw [← hN] at hsn
        have hwr := wr_free (wD (l0.take k)) rfl rfl N (by show N < 8 * 4; omega) (secOf C) (secOf_len C)
        have HX := Lib.hid (And.intro hsn hwr)
        clear hsn hwr hp8 hN hc
        go_wp2
        refine wp_region_gt (F := Foot bd bs bw) [(0, true), (1, true), (2, true), (3, true), (4, true), (5, true), (6, true), (7, true), (8, true), (9, true), (10, true), (11, true), (12, true), (13, false), (14, false), (15, true)] (by kernel_rfl) (by kernel_rfl) (by kernel_rfl) (by kernel_rfl) (fun _ _ _ _ _ h => h) ?_
        have hbd : Below wr.heap.size wr wr.drew := Ext.drew wr
        have hDd := hD.out.below hbd
        have hBd : Below w.heap.size w wr.drew := hB.out.drew
        have q0 : ∀ w', Turn (Foot bd bs bw) wr.drew w' → w'.cell? ⟨b, o + k * 2, none⟩ = some (.int .u8 (A : Int)) := fun w' t => by
          rw [(hBd.trans (t.below hBd.size Hfw.out)).cell (p := ⟨b, o + k * 2, none⟩) hbw]; exact q0
        have q1 : ∀ w', Turn (Foot bd bs bw) wr.drew w' → w'.cell? ⟨b, o + k * 2 + 1, none⟩ = some (.int .u8 (C : Int)) := fun w' t => by
          rw [(hBd.trans (t.below hBd.size Hfw.out)).cell (p := ⟨b, o + k * 2 + 1, none⟩) hbw]; exact q1
        clear hD hB hbd
        generalize wr.drew = w2 at *
        iterate 13 (refine wpGt_read (o := ⟨_, _, _, _, _, _⟩) (v := ?_) rfl (by rfl) ?_ ?_; rotate_left; (intro w' hw'; go_simp; with_reducible rfl); simp only [Act.put, List.setIfInBounds_toArray, List.set_cons_zero, List.set_cons_succ])
        clear q0 q1 eN eW
        refine wpGt_call (o := ⟨_, _, _, _, _, _⟩) rfl (by rfl) (fun K hK => ?_)
        go_simp
        refine (sector_any C w2).mono ?_
        rintro e w3 ⟨g, hg3, rfl, hr3, hb3⟩
        refine hK _ _ (Turn.ofBelow hb3) ?_
        clear hK K
        have hw := write_any w3 bd bs bw (wD (l0.take k)) (N : Int) (some ⟨g, 0, none⟩) (secOf C) (secOf C).length hr3.src (secOf_b8 C hC) (hDd.below hb3)
        rw [HX.out.2, errV_zero] at hw
        refine wpGt_call (o := ⟨_, _, _, _, _, _⟩) rfl (by rfl) (fun K hK => ?_)
        go_simp
        refine hw.mono ?_
        rintro e w4 ⟨rfl, hD4, hT4⟩
        refine hK _ _ hT4 ?_
        clear hK K hw
        have hD5 : Hid (Dev w4 bd bs bw (wD (l0.take (k + 1)))) := by
          have : wD (l0.take (k + 1)) = { wD (l0.take k) with waits := upd (wD (l0.take k)).waits N (some (secOf C)) } := by unfold wD; rw [HX.out.1]
          rw [this]; exact hD4
        have hB5 : Hid (Below w.heap.size w w4) := by
          have h3 : Below w.heap.size w w3 := hBd.trans (hb3.mono hBd.size)
          exact h3.trans (hT4.below h3.size Hfw.out)
        clear hD4 hT4 hr3 hb3 hg3 hDd hBd HX
        (refine wpGt_read (o := ⟨_, _, _, _, _, _⟩) (v := ?_) rfl (by rfl) ?_ ?_; rotate_left; (intro w' hw'; go_simp; with_reducible rfl); simp only [Act.put, List.setIfInBounds_toArray, List.set_cons_zero, List.set_cons_succ])
        refine wpGt_done ?_
        go_wp2
        go_roundw
        case rel => exact ⟨k + 1, by omega, by go_num, hD5, hB5⟩
        case measure => simp [intOf]; omega
      · obtain rfl : k = l0.length := by omega
        have hDa : Dev wr bd bs bw (wD l0) := by have := hD.out; rwa [List.take_length] at this
        have harm' := arm_any wr bd bs bw (wD l0) (arm : Int) (by omega) (by omega) hDa
        rw [show ({ wD l0 with armed := decide (0 ≤ (arm : Int)), left := (arm : Int) } : DS) = armedS (wD l0) (wD l0).waits arm 0 by unfold armedS; simp; rfl] at harm'
        have Ha := Lib.hid harm'
        have HB := Lib.hid hB.out
        clear hD hDa harm' hB HD1 HB1
        go_wp2_with fail
        refine Ha.out.mono ?_
        rintro e w2 ⟨rfl, hD2, hT2⟩
        have hc := copy_any w2 bd bs bw _ hD2
        have hB2 : Below w.heap.size w w2 := HB.out.trans (hT2.below HB.out.size Hfw.out)
        have H2 := Lib.hid (And.intro hD2 hB2)
        have Hc := Lib.hid hc
        clear hD2 hT2 hc hB2 Ha HB
        go_wp2_with fail
        refine Hc.out.mono ?_
        rintro e w3 ⟨cd, cs, cw, hcd, hcs, hcw, rfl, hC3, hb3⟩
        have hfc : ∀ i, Foot cd cs cw i → w2.heap.size ≤ i := by rintro i (rfl | rfl | rfl) <;> assumption
        have hlt2 := H2.out.1.foot_lt
        have hdc : ∀ i, Foot bd bs bw i → ¬ Foot cd cs cw i := fun i hi hj => by have := hlt2 i hi; have := hfc i hj; omega
        have hD3 := H2.out.1.below hb3
        have hB3 : Below w.heap.size w w3 := H2.out.2.trans (hb3.mono H2.out.2.size)
        have hfcw : ∀ i, Foot cd cs cw i → w.heap.size ≤ i := fun i hi => Nat.le_trans H2.out.2.size (hfc i hi)
        have hwC := waiting_any w3 cd cs cw _ hC3
        have H3 := Lib.hid (And.intro hC3 (And.intro hD3 (And.intro hB3 (And.intro hdc hfcw))))
        have HwC := Lib.hid hwC
        clear hcd hcs hcw hC3 hb3 hfc hlt2 hdc hD3 hB3 hfcw hwC H2 Hc
        go_wp2_with fail
        refine HwC.out.mono ?_
        rintro e w4 ⟨v1, rfl, ho1, hb4⟩
        obtain ⟨p1, n1, rfl, hi1, hx1⟩ := own_isrc ho1
        have hwD := waiting_any w4 bd bs bw _ (H3.out.2.1.below hb4)
        have H4 := Lib.hid (And.intro hi1 hb4)
        have HwD := Lib.hid hwD
        clear ho1 hb4 hi1 hx1 hwD HwC
        go_wp2_with fail
        refine HwD.out.mono ?_
        rintro e w5 ⟨v2, rfl, ho2, hb5⟩
        obtain ⟨p2, n2, rfl, hi2, hx2⟩ := own_isrc ho2
        have hlen : (wl (armedS (wD l0) (wD l0).waits arm 0)).length ≤ 65536 := by
          have := wl_len (armedS (wD l0) (wD l0).waits arm 0)
          have h2 : (armedS (wD l0) (wD l0).waits arm 0).pages = 4 := rfl
          omega
        have hin := ints_same w5 p1 p2 _ n1 n2 hlen (H4.out.1.ext hb5) hi2
        have hb35 : Below w3.heap.size w3 w5 := H4.out.2.trans (hb5.mono H4.out.2.size)
        have Hin := Lib.hid hin
        have H5 := Lib.hid hb35
        clear ho2 hb5 hi2 hx2 hin hlen hb35 H4 HwD
        generalize (wl (armedS (wD l0) (wD l0).waits arm 0)).length = W at *
        go_wp2_with fail
        refine Hin.out.mono ?_
        rintro e w6 ⟨rfl, hb6⟩
        have hb36 := H5.out.trans (hb6.mono H5.out.size)
        have hrel0 : ∃ g, Hid (Dev w6 cd cs cw (armedS (wD l0) g arm 0)) := ⟨_, H3.out.1.below hb36⟩
        have hDe : Hid (Dev w6 bd bs bw (armedS (wD l0) (wD l0).waits arm 0)) := H3.out.2.1.below hb36
        have hBe : Hid (Below w.heap.size w w6) := H3.out.2.2.1.trans (hb36.mono H3.out.2.2.1.size)
        have Hdc := Lib.hid H3.out.2.2.2
        have Hrel0 := Lib.hid hrel0
        clear hb6 hb36 hrel0 H3 H5 Hin
        go_wp2
        go_loopw [11] (fun i wr => ∃ k : Nat, k ≤ l1.length ∧ i = .int .i64 k ∧ (∃ g, Hid (Dev wr cd cs cw (armedS (wD l0) g arm k))) ∧ Hid (Dev wr bd bs bw (armedS (wD l0) (wD l0).waits arm 0)) ∧ Hid (Below w.heap.size w wr)) (fun i _ => l1.length - (intOf i).toNat)
        case atStart => exact ⟨0, Nat.zero_le _, rfl, Hrel0.out, hDe, hBe⟩
        case round =>
          obtain ⟨k, hk, rfl, ⟨gw, hC⟩, hD, hB⟩ := hrel
          by_cases hlt : k < l1.length
          · obtain ⟨b, o, rfl, hc⟩ := HS.out.2.1 (by omega)
            obtain ⟨q0, q1⟩ := hc k hlt
            have hbw : b < w.heap.size := block_lt_of_cell q0
            have hp8 := HS.out.2.2.2.get k
            generalize l1.getD k (0, 0) = P at *
            obtain ⟨A, C⟩ := P
            simp only at q0 q1 hp8
            obtain ⟨N, hN⟩ : ∃ N, N = A % 32 := ⟨_, rfl⟩
            have eN : (A : Int).tmod 32 = (N : Int) := by rw [Int.tmod_eq_emod_of_nonneg (by omega)]; omega
            have eW : IntKind.i64.wrap (N : Int) = (N : Int) := IntWalk.i64_in _ (by omega)
            have hC8 := hp8.2
            obtain ⟨g', hwr⟩ := wr_armed (wD l0) gw arm k N (by show N < 8 * 4; omega) (secOf C) (secOf_len C)
            have HX := Lib.hid hwr
            clear hwr hp8 hN hc
            go_wp2
            refine wp_region_gt (F := Foot cd cs cw) [(0, true), (1, true), (2, true), (3, true), (4, true), (5, true), (6, true), (7, true), (8, true), (9, true), (10, true), (11, true), (12, true), (13, false), (14, false), (15, true)] (by kernel_rfl) (by kernel_rfl) (by kernel_rfl) (by kernel_rfl) (fun _ _ _ _ _ h => h) ?_
            have hbd : Below wr.heap.size wr wr.drew := Ext.drew wr
            have hCd := hC.out.below hbd
            have hDd := hD.out.below hbd
            have hBd : Below w.heap.size w wr.drew := hB.out.drew
            have q0 : ∀ w', Turn (Foot cd cs cw) wr.drew w' → w'.cell? ⟨b, o + k * 2, none⟩ = some (.int .u8 (A : Int)) := fun w' t => by
              rw [(hBd.trans (t.below hBd.size Hdc.out.2)).cell (p := ⟨b, o + k * 2, none⟩) hbw]; exact q0
            have q1 : ∀ w', Turn (Foot cd cs cw) wr.drew w' → w'.cell? ⟨b, o + k * 2 + 1, none⟩ = some (.int .u8 (C : Int)) := fun w' t => by
              rw [(hBd.trans (t.below hBd.size Hdc.out.2)).cell (p := ⟨b, o + k * 2 + 1, none⟩) hbw]; exact q1
            clear hD hB hC hbd
            generalize wr.drew = w2 at *
            iterate 13 (refine wpGt_read (o := ⟨_, _, _, _, _, _⟩) (v := ?_) rfl (by rfl) ?_ ?_; rotate_left; (intro w' hw'; go_simp; with_reducible rfl); simp only [Act.put, List.setIfInBounds_toArray, List.set_cons_zero, List.set_cons_succ])
            clear q0 q1 eN eW
            refine wpGt_call (o := ⟨_, _, _, _, _, _⟩) rfl (by rfl) (fun K hK => ?_)
            go_simp
            refine (sector_any C w2).mono ?_
            rintro e w3 ⟨g, hg3, rfl, hr3, hb3⟩
            refine hK _ _ (Turn.ofBelow hb3) ?_
            clear hK K
            have hw := write_any w3 cd cs cw (armedS (wD l0) gw arm k) (N : Int) (some ⟨g, 0, none⟩) (secOf C) (secOf C).length hr3.src (secOf_b8 C hC8) (hCd.below hb3)
            rw [HX.out] at hw
            have hEv : ∃ Ev, Ev = errV (if k < arm then 0 else 9) := ⟨_, rfl⟩
            obtain ⟨Ev, hEv⟩ := hEv
            simp only [← hEv] at hw
            have HEv : Hid ((k < arm ∧ Ev = .nilIface) ∨ (¬ k < arm ∧ Ev = .iface 73 (.int .i64 9))) := by
              by_cases hka : k < arm
              · exact .inl ⟨hka, by rw [hEv, if_pos hka]; rfl⟩
              · exact .inr ⟨hka, by rw [hEv, if_neg hka]; rfl⟩
            clear hEv
            refine wpGt_call (o := ⟨_, _, _, _, _, _⟩) rfl (by rfl) (fun K hK => ?_)
            go_simp
            refine hw.mono ?_
            rintro e w4 ⟨rfl, hC4, hT4⟩
            refine hK _ _ hT4 ?_
            clear hK K hw
            have hC5 : Hid (Dev w4 cd cs cw (armedS (wD l0) g' arm (k + 1))) := hC4
            have h3 : Below w.heap.size w w3 := hBd.trans (hb3.mono hBd.size)
            have hB5 : Hid (Below w.heap.size w w4) := h3.trans (hT4.below h3.size Hdc.out.2)
            have hD5 : Hid (Dev w4 bd bs bw (armedS (wD l0) (wD l0).waits arm 0)) := (hDd.below hb3).turn hT4 Hdc.out.1
            have hne := num_err 9 w4 (HG.out.below hB5.out)
            have Hne := Lib.hid hne
            clear hC4 hT4 hr3 hb3 hg3 hDd hCd hBd HX h3 hne
            (refine wpGt_read (o := ⟨_, _, _, _, _, _⟩) (v := ?_) rfl (by rfl) ?_ ?_; rotate_left; (intro w' hw'; go_simp; with_reducible rfl); simp only [Act.put, List.setIfInBounds_toArray, List.set_cons_zero, List.set_cons_succ])
            refine wpGt_done ?_
            rcases HEv.out with ⟨hka, rfl⟩ | ⟨hka, rfl⟩
            · go_wp2
              go_roundw
              case rel => exact ⟨k + 1, by omega, by go_num, ⟨g', hC5⟩, hD5, hB5⟩
              case measure => simp [intOf]; omega
            · have dka : decide (k < arm) = false := by simpa using hka
              go_wp2_with fail
              refine Hne.out.mono ?_
              rintro e w5 ⟨rfl, hb5⟩
              have hC6 : Hid (Dev w5 cd cs cw (armedS (wD l0) g' arm (k + 1))) := hC5.out.below hb5
              have hD6 : Hid (Dev w5 bd bs bw (armedS (wD l0) (wD l0).waits arm 0)) := hD5.out.below hb5
              have hB6 : Hid (Below w.heap.size w w5) := hB5.out.trans (hb5.mono hB5.out.size)
              clear hb5
              go_wp2_with fail
              go_roundw
              case rel => exact ⟨k + 1, by omega, by go_num, ⟨g', hC6⟩, hD6, hB6⟩
              case measure => simp [intOf]; omega
          · obtain rfl : k = l1.length := by omega
            have hC9 : Dev wr cd cs cw (armedS (wD l0) gw arm l1.length) := hC.out
            have hdd := down_any wr bd bs bw _ hD.out
            have hdc := down_any wr cd cs cw _ hC9
            rw [show (armedS (wD l0) (wD l0).waits arm 0).down = false by simp [armedS]] at hdd
            obtain ⟨Dn, hDn⟩ : ∃ Dn, decide (arm < l1.length) = Dn := ⟨_, rfl⟩
            rw [show (armedS (wD l0) gw arm l1.length).down = Dn from hDn] at hdc
            have Hdd := Lib.hid (And.intro hdd hdc)
            clear hC hC9 hdd hdc Hrel0 hDe hBe Hdc
            go_wp2_with fail
            refine Hdd.out.1.mono ?_; rintro e w' ⟨rfl, rfl⟩
            go_wp2_with fail
            refine Hdd.out.2.mono ?_; rintro e w' ⟨rfl, rfl⟩
            clear Hdd
            go_wp2_with (refine wpList_alloc_arr rfl rfl ?_; intro ga w2 hga hra hba)
            clear hDn
            have hDa : Hid (Dev w2 bd bs bw (armedS (wD l0) (wD l0).waits arm 0)) := hD.out.below hba
            have hBa : Hid (Below w.heap.size w w2) := hB.out.trans (hba.mono hB.out.size)
            have hRa : Hid (Row w2 ga AT (lbl (List.replicate 32 0) (l0.take 0))) := hra
            have hgw : w.heap.size ≤ ga := Nat.le_trans hB.out.size hga
            have hgf : ∀ i, Foot bd bs bw i → i ≠ ga := fun i hi e => by have := hD.out.foot_lt i hi; omega
            have Hga := Lib.hid (And.intro hgw hgf)
            clear hD hB hba hra hga hgw hgf
            go_loopw [14] (fun i wr => ∃ k : Nat, k ≤ l0.length ∧ i = .int .i64 k ∧ Hid (Row wr ga AT (lbl (List.replicate 32 0) (l0.take k))) ∧ Hid (Dev wr bd bs bw (armedS (wD l0) (wD l0).waits arm 0)) ∧ Hid (Below w.heap.size w wr)) (fun i _ => l0.length - (intOf i).toNat)
            case atStart => exact ⟨0, Nat.zero_le _, rfl, hRa, hDa, hBa⟩
            case round =>
              clear hRa hDa hBa
              obtain ⟨k, hk, rfl, hR, hD, hB⟩ := hrel
              by_cases hlt : k < l0.length
              · obtain ⟨b, o, rfl, hc⟩ := HS.out.1 (by omega)
                obtain ⟨q0, q1⟩ := hc k hlt
                have hbw : b < w.heap.size := block_lt_of_cell q0
                have hp8 := HS.out.2.2.1.get k
                have hsn := congrArg (lbl (List.replicate 32 0)) (take_snocP l0 k hlt)
                rw [lbl_snoc] at hsn
                generalize l0.getD k (0, 0) = P at *
                obtain ⟨A, C⟩ := P
                simp only at q0 q1 hp8 hsn
                obtain ⟨N, hN⟩ : ∃ N, N = A % 32 := ⟨_, rfl⟩
                have eN : (A : Int).tmod 32 = (N : Int) := by rw [Int.tmod_eq_emod_of_nonneg (by omega)]; omega
                have hNl : N < 32 := by omega
                have hNi : (N : Int) < 32 := by omega
                rw [← hN] at hsn
                have HX := Lib.hid hsn
                clear hsn hp8 hN hc
                go_wp2
                refine wp_region_gt (F := fun i => i = ga) [(0, true), (1, true), (2, true), (3, true), (4, true), (5, true), (6, true), (7, true), (8, true), (9, true), (10, true), (11, true), (12, false)] (by kernel_rfl) (by kernel_rfl) (by kernel_rfl) (by kernel_rfl) (fun _ _ _ _ _ h => h) ?_
                have hbd : Below wr.heap.size wr wr.drew := Ext.drew wr
                have hDd := hD.out.below hbd
                have hBd : Below w.heap.size w wr.drew := hB.out.drew
                have hRd : Row wr.drew ga AT (lbl (List.replicate 32 0) (l0.take k)) := Row.ext hR.out hbd
                have q0 : ∀ w', Turn (fun i => i = ga) wr.drew w' → w'.cell? ⟨b, o + k * 2, none⟩ = some (.int .u8 (A : Int)) := fun w' t => by
                  rw [(hBd.trans (t.below hBd.size (fun i hi => by rw [hi]; exact Hga.out.1))).cell (p := ⟨b, o + k * 2, none⟩) hbw]; exact q0
                have q1 : ∀ w', Turn (fun i => i = ga) wr.drew w' → w'.cell? ⟨b, o + k * 2 + 1, none⟩ = some (.int .u8 (C : Int)) := fun w' t => by
                  rw [(hBd.trans (t.below hBd.size (fun i hi => by rw [hi]; exact Hga.out.1))).cell (p := ⟨b, o + k * 2 + 1, none⟩) hbw]; exact q1
                clear hD hB hR hbd
                generalize wr.drew = w3 at *
                iterate 12 (refine wpGt_read (o := ⟨_, _, _, _, _, _⟩) (v := ?_) rfl (by rfl) ?_ ?_; rotate_left; (intro w' hw'; go_simp; with_reducible rfl); simp only [Act.put, List.setIfInBounds_toArray, List.set_cons_zero, List.set_cons_succ])
                clear q0 q1 eN
                have k2 := hRd.cell N (by rw [lbl_len, List.length_replicate]; exact hNl)
                have f2 := hRd.frozen N
                refine wpGt_call (o := ⟨_, _, _, _, _, _⟩) rfl (by rfl) (fun K hK => ?_)
                go_simp
                refine hK _ _ (turn_set w3 ga N _) ?_
                clear hK K k2 f2
                refine wpGt_done ?_
                have hR4 : Hid (Row (w3.setCell ⟨ga, N, none⟩ (.int .u8 (C : Int))) ga AT (lbl (List.replicate 32 0) (l0.take (k + 1)))) := by
                  have := hRd.set N C
                  rw [← HX.out] at this
                  exact this
                have hD4 : Hid (Dev (w3.setCell ⟨ga, N, none⟩ (.int .u8 (C : Int))) bd bs bw (armedS (wD l0) (wD l0).waits arm 0)) := hDd.turn (turn_set w3 ga N _) Hga.out.2
                have hB4 : Hid (Below w.heap.size w (w3.setCell ⟨ga, N, none⟩ (.int .u8 (C : Int)))) := hBd.setCell Hga.out.1 _
                clear hRd hDd hBd HX
                generalize w3.setCell ⟨ga, N, none⟩ (.int .u8 (C : Int)) = w4 at *
                go_wp2
                go_roundw
                case rel => exact ⟨k + 1, by omega, by go_num, hR4, hD4, hB4⟩
                case measure => simp [intOf]; omega
              · obtain rfl : k = l0.length := by omega
                have hR9 := hR.out
                rw [List.take_length] at hR9
                obtain ⟨L, hL⟩ : ∃ L, L = lbl (List.replicate 32 0) l0 := ⟨_, rfl⟩
                have hL8 : B8 L := by rw [hL]; exact lbl_b8 (fun x hx => by have := List.eq_of_mem_replicate hx; omega) HS.out.2.2.1
                have hrl : Rl (wsF (fun _ => none) l0) L := by rw [hL]; exact rl_all rl_start (by simp) l0
                have hLl : L.length = 32 := by rw [hL, lbl_len]; simp
                rw [← hL] at hR9
                have hRb : Hid (Row wr ga AT L) := hR9
                have HL := Lib.hid (And.intro hL8 (And.intro hrl hLl))
                have hDb := Lib.hid hD.out
                have hBb := Lib.hid hB.out
                clear hR9 hL8 hrl hLl hL hR hD hB
                go_wp2
                go_loopw [15] (fun i wr => ∃ n : Nat, n ≤ 32 ∧ i = .int .i64 n ∧ Hid (Row wr ga AT L) ∧ Hid (Dev wr bd bs bw (armedS (wD l0) (wD l0).waits arm 0)) ∧ Hid (Below w.heap.size w wr)) (fun i _ => 32 - (intOf i).toNat)
                case atStart => exact ⟨0, Nat.zero_le _, rfl, hRb, hDb, hBb⟩
                case round =>
                  clear hRb hDb hBb
                  obtain ⟨n, hn, rfl, hR, hD, hB⟩ := hrel
                  by_cases hlt : n < 32
                  · have hread := read_ok wr bd bs bw _ n (among_four (armedS (wD l0) (wD l0).waits arm 0) (by simp [armedS]) rfl n hlt) hD.out
                    have hrd : rd (armedS (wD l0) (wD l0).waits arm 0) n = secOf (L.getD n 0) := HL.out.2.1 n hlt
                    rw [hrd] at hread
                    have hV := HL.out.1.get n
                    have k0 := hR.out.cell n (by rw [HL.out.2.2]; exact hlt)
                    have hgal := hR.out.lt
                    generalize L.getD n 0 = V at *
                    have Hread := Lib.hid hread
                    have hni : (n : Int) < 32 := by omega
                    clear hrd hread
                    go_wp2_with fail
                    refine Hread.out.mono ?_
                    rintro e w2 ⟨g, hg2, rfl, hr2, hb2⟩
                    clear Hread
                    have k1 : w2.cell? ⟨ga, n, none⟩ = some (.int .u8 (V : Int)) := by rw [hb2.cell (p := ⟨ga, n, none⟩) hgal]; exact k0
                    have hR2 : Row w2 ga AT L := Row.ext hR.out hb2
                    have hD2 := hD.out.below hb2
                    have hB2 : Below w.heap.size w w2 := hB.out.trans (hb2.mono hB.out.size)
                    clear k0 hgal hR hD hB hb2
                    go_wp2_with fail
                    refine wp_region_gt (F := fun _ => False) [(0, true), (1, true), (2, true), (3, true), (4, true), (5, true), (6, true), (7, true), (8, false), (9, true), (10, true), (11, true)] (by kernel_rfl) (by kernel_rfl) (by kernel_rfl) (by kernel_rfl) (fun _ _ _ _ _ h => h) ?_
                    have hbd : Below w2.heap.size w2 w2.drew := Ext.drew w2
                    have k2 : ∀ w', Turn (fun _ => False) w2.drew w' → w'.cell? ⟨ga, n, none⟩ = some (.int .u8 (V : Int)) := fun w' t => by
                      rw [t.cell (p := ⟨ga, n, none⟩) (block_lt_of_cell k1) (fun h => h)]; exact k1
                    have hcv : ∀ w', Turn (fun _ => False) w2.drew w' → (convert BT 9 (.slice (some ⟨g, 0, none⟩) 64 64)).run Tryd.prog w' = .ok (.string (bstr (secOf V))) w' := fun w' t =>
                      conv_any w' g 64 64 (secOf V) (secOf_len V) (Row.turn (Row.ext hr2 hbd) t (fun h => h))
                    have hR3 := Row.ext hR2 hbd
                    have hD3 := hD2.below hbd
                    have hB3 : Below w.heap.size w w2.drew := hB2.drew
                    clear k1 hR2 hD2 hB2 hbd hr2
                    generalize w2.drew = w3 at *
                    iterate 8 (refine wpGt_read (o := ⟨_, _, _, _, _, _⟩) (v := ?_) rfl (by rfl) ?_ ?_; rotate_left; (intro w' hw'; go_simp; with_reducible rfl); simp only [Act.put, List.setIfInBounds_toArray, List.set_cons_zero, List.set_cons_succ])
                    clear k2 hcv
                    refine wpGt_call (o := ⟨_, _, _, _, _, _⟩) rfl (by rfl) (fun K hK => ?_)
                    go_simp
                    refine (sector_any V w3).mono ?_
                    rintro e w4 ⟨g4, hg4, rfl, hr4, hb4⟩
                    refine hK _ _ (Turn.ofBelow hb4) ?_
                    clear hK K
                    have hcv : ∀ w', Turn (fun _ => False) w4 w' → (convert BT 9 (.slice (some ⟨g4, 0, none⟩) (secOf V).length (secOf V).length)).run Tryd.prog w' = .ok (.string (bstr (secOf V))) w' := fun w' t =>
                      conv_any w' g4 _ _ (secOf V) rfl (Row.turn hr4 t (fun h => h))
                    iterate 3 (refine wpGt_read (o := ⟨_, _, _, _, _, _⟩) (v := ?_) rfl (by rfl) ?_ ?_; rotate_left; (intro w' hw'; go_simp; with_reducible rfl); simp only [Act.put, List.setIfInBounds_toArray, List.set_cons_zero, List.set_cons_succ])
                    refine wpGt_done ?_
                    have hR5 : Hid (Row w4 ga AT L) := Row.ext hR3 hb4
                    have hD5 : Hid (Dev w4 bd bs bw (armedS (wD l0) (wD l0).waits arm 0)) := hD3.below hb4
                    have hB5 : Hid (Below w.heap.size w w4) := hB3.trans (hb4.mono hB3.size)
                    clear hcv hr4 hb4 hg4 hR3 hD3 hB3
                    go_wp2
                    go_roundw
                    case rel => exact ⟨n + 1, by omega, by go_num, hR5, hD5, hB5⟩
                    case measure => simp [intOf]; omega
                  · obtain rfl : n = 32 := by omega
                    have hf := Fin.out wr hB
                    have Hf := Lib.hid hf
                    clear hf hR hD hB
                    go_wp2_with fail
                    refine Hf.out.mono ?_
                    rintro e w9 ⟨rfl, hb9⟩
                    go_wp2_with fail
                    go_ret
                    exact ⟨rfl, hb9⟩
  · by_cases h0 : l0.length ≤ 60
    · have d0 : decide (60 < (l0.length : Int)) = false := by simp; omega
      have d1 : decide (60 < (l1.length : Int)) = true := by simp; omega
      go_enter Tryd.func5, Tryd.ntmps5
      go_wp2_with fail
      refine Hnew.out.mono ?_
      rintro e w1 ⟨bd, bs, bw, hbd, hbs, hbw, rfl, hD1, hb1⟩
      have hf := Fin.out w1 hb1
      have Hf := Lib.hid hf
      clear hf hD1 hb1 hbd hbs hbw
      go_wp2_with fail
      refine Hf.out.mono ?_
      rintro e w9 ⟨rfl, hb9⟩
      go_wp2_with fail
      go_ret
      exact ⟨rfl, hb9⟩
    · have d0 : decide (60 < (l0.length : Int)) = true := by simp; omega
      go_enter Tryd.func5, Tryd.ntmps5
      go_wp2_with fail
      refine Hnew.out.mono ?_
      rintro e w1 ⟨bd, bs, bw, hbd, hbs, hbw, rfl, hD1, hb1⟩
      have hf := Fin.out w1 hb1
      have Hf := Lib.hid hf
      clear hf hD1 hb1 hbd hbs hbw
      go_wp2_with fail
      refine Hf.out.mono ?_
      rintro e w9 ⟨rfl, hb9⟩
      go_wp2_with fail
      go_ret
      exact ⟨rfl, hb9⟩
end Go.Proofs.YtbkjaifpgknadaaDoor
