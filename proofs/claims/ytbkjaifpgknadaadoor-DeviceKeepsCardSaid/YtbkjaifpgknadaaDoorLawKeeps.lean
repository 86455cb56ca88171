/-
  DeviceKeeps: the law's walk.
-/
import Derived.Test.YtbkjaifpgknadaaDoorKeep2
namespace Go.Proofs.YtbkjaifpgknadaaDoor
open Go Go.RowKit Go.Maps

theorem among_four' (S : DS) (hd : S.down = false) (hp : S.pages = 4) (n : Nat) (hn : n < 32) : amongE S (n : Int) ((8 * S.pages : Nat) : Int) = 0 := by
  unfold amongE; rw [if_neg (by rw [hd]; simp), if_neg (by rw [hp]; omega)]
def z32 : List Nat := List.replicate 32 0
theorem z32_len : z32.length = 32 := by unfold z32; simp
theorem z32_b8 : B8 z32 := by intro x hx; have := List.eq_of_mem_replicate hx; omega
/-- A device of four pages on which so much was written. -/
def vD (l : List (Nat × Nat)) : DS := { new0 4 with waits := wsF (fun _ => none) l }
set_option maxRecDepth 100000 in
set_option maxHeartbeats 4000000 in
theorem keeps_any (a0 : Option Addr) (l0 : List (Nat × Nat)) (c0 : Nat) (a1 : Option Addr) (l1 : List (Nat × Nat)) (c1 : Nat) (a2 : Option Addr) (kb : List Bool) (c2 : Nat) (w : World) (hs0 : PSrc w a0 l0) (hs1 : PSrc w a1 l1) (hs2 : BSrc w a2 kb) (h80 : P8 l0) (h81 : P8 l1)
    (hm0 : l0.length ≤ 9223372036854775807) (hm1 : l1.length ≤ 9223372036854775807) (hm2 : kb.length ≤ 9223372036854775807) (hg : Hg w) :
    Calls Tryd.prog 4 #[.slice a0 l0.length c0, .slice a1 l1.length c1, .slice a2 kb.length c2] w fun e w' => e = .returned (.bool true) ∧ Below w.heap.size w w' := by
  have HG := Lib.hid hg
  have hnew := new_ok w 4 (by omega) (by omega)
  rw [show ((4 : Nat) : Int) = 4 from rfl] at hnew
  have Hnew := Lib.hid hnew
  have HS := Lib.hid (And.intro hs0 (And.intro hs1 (And.intro h80 (And.intro h81 hs2))))
  have fin : ∀ w5 : World, Hid (Below w.heap.size w w5) → Calls Tryd.prog 15 #[] w5 fun e w' => e = .returned (.bool true) ∧ Below w.heap.size w w' := fun w5 h5 =>
    (sure_any w5 (HG.out.below h5.out)).mono fun _ _ h => ⟨h.1, h5.out.trans (h.2.mono h5.out.size)⟩
  have Fin := Lib.hid fin
  clear hg hnew hs0 hs1 hs2 h80 h81 fin
  by_cases h60 : l0.length ≤ 60 ∧ l1.length ≤ 60
  · obtain ⟨h0, h1⟩ := h60
    have d0 : decide (60 < (l0.length : Int)) = false := by simp; omega
    have d1 : decide (60 < (l1.length : Int)) = false := by simp; omega
    go_enter Tryd.func4, Tryd.ntmps4
    go_wp2_with fail
    refine Hnew.out.mono ?_
    rintro e w1 ⟨bd, bs, bw, hbd, hbs, hbw, rfl, hD1, hb1⟩
    have hfw : ∀ i, Foot bd bs bw i → w.heap.size ≤ i := by rintro i (rfl | rfl | rfl) <;> assumption
    have Hfw := Lib.hid hfw
    have hlt1 := hD1.foot_lt
    clear hbd hbs hbw hfw
    go_wp2_with (first
      | (show wpList _ _ _ (⟨some 9, _, _, _, _, _⟩ :: _) _ _; refine wpList_alloc_arr rfl rfl ?_; intro ga w2 hga hra hba)
      | (show wpList _ _ _ (⟨some 10, _, _, _, _, _⟩ :: _) _ _; refine wpList_alloc_arr rfl rfl ?_; intro gb w3 hgb hrb hbb))
    have hab : ga ≠ gb := by have := hra.lt; omega
    have hb12 : Below w1.heap.size w1 w3 := hba.trans (hbb.mono hba.size)
    have HD1 : Hid (Dev w3 bd bs bw (vD (l0.take 0))) := hD1.below hb12
    have HB1 : Hid (Below w.heap.size w w3) := hb1.trans (hb12.mono hb1.size)
    have HR1 : Hid (Row w3 ga AT (lbl z32 (l0.take 0))) := Row.ext hra hbb
    have HQ1 : Hid (Row w3 gb AT z32) := hrb
    have hfa : ∀ i, Foot bd bs bw i → i ≠ ga := fun i hi e => by have := hlt1 i hi; omega
    have hfb : ∀ i, Foot bd bs bw i → i ≠ gb := fun i hi e => by have := hlt1 i hi; have := hba.size; omega
    have Hgab := Lib.hid (And.intro hab (And.intro hfa (And.intro hfb (And.intro (Nat.le_trans hb1.size hga) (Nat.le_trans hb1.size (Nat.le_trans hba.size hgb))))))
    clear hD1 hb1 hlt1 hra hba hrb hbb hab hb12 hfa hfb hga hgb
    go_loopw [11] (fun i wr => ∃ k : Nat, k ≤ l0.length ∧ i = .int .i64 k ∧ Hid (Dev wr bd bs bw (vD (l0.take k))) ∧ Hid (Row wr ga AT (lbl z32 (l0.take k))) ∧ Hid (Row wr gb AT z32) ∧ Hid (Below w.heap.size w wr)) (fun i _ => l0.length - (intOf i).toNat)
    case atStart => exact ⟨0, Nat.zero_le _, rfl, HD1, HR1, HQ1, HB1⟩
    case round =>
      clear HD1 HR1 HQ1 HB1
      obtain ⟨k, hk, rfl, hD, hR, hQ, hB⟩ := hrel
      by_cases hlt : k < l0.length
      · obtain ⟨b, o, rfl, hc⟩ := HS.out.1 (by omega)
        obtain ⟨q0, q1⟩ := hc k hlt
        have hbw : b < w.heap.size := block_lt_of_cell q0
        have hp8 := HS.out.2.2.1.get k
        have hsn := congrArg (wsF (fun _ => none)) (take_snocP l0 k hlt)
        rw [wsF_snoc] at hsn
        have hsl := congrArg (lbl z32) (take_snocP l0 k hlt)
        rw [lbl_snoc] at hsl
        generalize l0.getD k (0, 0) = P at *
        obtain ⟨A, C⟩ := P
        simp only at q0 q1 hp8 hsn hsl
        obtain ⟨N, hN⟩ : ∃ N, N = A % 32 := ⟨_, rfl⟩
        have eN : (A : Int) % 32 = (N : Int) := by omega
        have hNl : N < 32 := by omega
        have hNi : (N : Int) < 32 := by omega
        have hA := hp8.1
        have hC := hp8.2
        rw [← hN] at hsn hsl
        have hwr := wr_free (vD (l0.take k)) rfl rfl N (by show N < 8 * 4; omega) (secOf C) (secOf_len C)
        have HX := Lib.hid (And.intro hsn (And.intro hwr (And.intro hsl (And.intro q1 (And.intro hA hC)))))
        have q0r : wr.cell? ⟨b, o + k * 2, none⟩ = some (.int .u8 (A : Int)) := by rw [hB.out.cell (p := ⟨b, o + k * 2, none⟩) hbw]; exact q0
        have q1r : wr.cell? ⟨b, o + k * 2 + 1, none⟩ = some (.int .u8 (C : Int)) := by rw [hB.out.cell (p := ⟨b, o + k * 2 + 1, none⟩) hbw]; exact q1
        clear hsn hsl hwr hp8 hN hc q0 q1
        go_wp2_with fail
        refine (sector_any C wr).mono ?_
        rintro e w3 ⟨g, hg3, rfl, hr3, hb3⟩
        have hw := write_any w3 bd bs bw (vD (l0.take k)) (N : Int) (some ⟨g, 0, none⟩) (secOf C) (secOf C).length hr3.src (secOf_b8 C hC) (hD.out.below hb3)
        rw [HX.out.2.1, errV_zero] at hw
        have hB3 : Below w.heap.size w w3 := hB.out.trans (hb3.mono hB.out.size)
        have hR3 := Row.ext hR.out hb3
        have hQ3 := Row.ext hQ.out hb3
        have Hw := Lib.hid hw
        clear hw hr3 hb3 hg3 q0r q1r hD hR hQ hB
        go_wp2_with fail
        refine Hw.out.mono ?_
        rintro e w4 ⟨rfl, hD4, hT4⟩
        have hB4 : Below w.heap.size w w4 := hB3.trans (hT4.below hB3.size Hfw.out)
        have hR4 := Row.turn hR3 hT4 (fun h => Hgab.out.2.1 _ h rfl)
        have hQ4 := Row.turn hQ3 hT4 (fun h => Hgab.out.2.2.1 _ h rfl)
        have q1r : w4.cell? ⟨b, o + k * 2 + 1, none⟩ = some (.int .u8 (C : Int)) := by rw [hB4.cell (p := ⟨b, o + k * 2 + 1, none⟩) hbw]; exact HX.out.2.2.2.1
        have k2 := hR4.cell N (by rw [lbl_len, z32_len]; exact hNl)
        have f2 := hR4.frozen N
        have hD5 : Hid (Dev (w4.setCell ⟨ga, N, none⟩ (.int .u8 (C : Int))) bd bs bw (vD (l0.take (k + 1)))) := by
          have e : vD (l0.take (k + 1)) = { vD (l0.take k) with waits := upd (vD (l0.take k)).waits N (some (secOf C)) } := by unfold vD; rw [HX.out.1]
          rw [e]; exact Dev.turn hD4 (turn_set w4 ga N _) Hgab.out.2.1
        have hR5 : Hid (Row (w4.setCell ⟨ga, N, none⟩ (.int .u8 (C : Int))) ga AT (lbl z32 (l0.take (k + 1)))) := by
          have := hR4.set N C
          rw [← HX.out.2.2.1] at this
          exact this
        have hQ5 : Hid (Row (w4.setCell ⟨ga, N, none⟩ (.int .u8 (C : Int))) gb AT z32) := Row.turn hQ4 (turn_set w4 ga N _) (fun e => Hgab.out.1 e.symm)
        have hB5 : Hid (Below w.heap.size w (w4.setCell ⟨ga, N, none⟩ (.int .u8 (C : Int)))) := hB4.setCell Hgab.out.2.2.2.1 _
        clear hD4 hT4 hB3 hR3 hQ3 hR4 hQ4 hB4 HX Hw
        go_wp2_with fail
        generalize w4.setCell ⟨ga, N, none⟩ (.int .u8 (C : Int)) = w5 at *
        go_roundw
        case rel => exact ⟨k + 1, by omega, by go_num, hD5, hR5, hQ5, hB5⟩
        case measure => simp [intOf]; omega
      · obtain rfl : k = l0.length := by omega
        have hD := hD.out
        have hR := hR.out
        rw [List.take_length] at hD hR
        have hsy := sync_any wr bd bs bw (vD l0) hD
        rw [sy_free (vD l0) rfl rfl, errV_zero] at hsy
        have Hsy := Lib.hid hsy
        have HB := Lib.hid hB.out
        have HRQ := Lib.hid (And.intro hR hQ.out)
        clear hD hR hQ hB hsy
        go_wp2_with fail
        refine Hsy.out.mono ?_
        rintro e w2 ⟨rfl, hD2, hT2⟩
        have hB2 : Below w.heap.size w w2 := HB.out.trans (hT2.below HB.out.size Hfw.out)
        have hR2 := Row.turn HRQ.out.1 hT2 (fun h => Hgab.out.2.1 _ h rfl)
        have hQ2 := Row.turn HRQ.out.2 hT2 (fun h => Hgab.out.2.2.1 _ h rfl)
        have hwt := waiting_any w2 bd bs bw _ hD2
        have H2 := Lib.hid (And.intro hD2 (And.intro hB2 (And.intro hR2 hQ2)))
        have Hwt := Lib.hid hwt
        clear hD2 hT2 hB2 hR2 hQ2 hwt Hsy HB HRQ
        go_wp2_with fail
        refine Hwt.out.mono ?_
        rintro e w3 ⟨v, rfl, ho3, hb3⟩
        obtain ⟨p3, n3, rfl, _, _⟩ := own_isrc ho3
        have hR3 := Row.ext H2.out.2.2.1 hb3
        have hQ3 := Row.ext H2.out.2.2.2 hb3
        have hD3 : Dev w3 bd bs bw (kD l0 (l1.take 0)) := H2.out.1.below hb3
        have hB3 : Below w.heap.size w w3 := H2.out.2.1.trans (hb3.mono H2.out.2.1.size)
        have H3 := Lib.hid (And.intro hD3 hB3)
        have hwf : (wl (flat (vD l0))).length = 0 := by rw [wl_flat]; rfl
        rw [show (wl ((0 : Int), flat (vD l0)).2).length = 0 from hwf]
        clear ho3 hb3 H2 Hwt hwf hD3 hB3
        go_wp2_with (first
          | (refine wpList_load_arr rfl (.tmp 9) rfl ga (lbl z32 l0) (by rfl) hR3 (by rw [lbl_len, z32_len]) ?_)
          | (refine wpList_store_arr rfl (.tmp 10) (.tmp 89) rfl gb (lbl z32 l0) z32 (by rfl) (by rfl) hQ3 (by rw [lbl_len, z32_len]) z32_len ?_; intro w4 hQ4 hT4))

        have HD2 : Hid (Dev w4 bd bs bw (kD l0 (l1.take 0))) := Dev.turn H3.out.1 hT4 Hgab.out.2.2.1
        have HB2 : Hid (Below w.heap.size w w4) := H3.out.2.trans (hT4.below H3.out.2.size (fun i hi => by rw [hi]; exact Hgab.out.2.2.2.2))
        have HQ2 : Hid (Row w4 ga AT (lbl z32 l0)) := Row.turn hR3 hT4 Hgab.out.1
        have HR2 : Hid (Row w4 gb AT (lbl (lbl z32 l0) (l1.take 0))) := hQ4
        clear hR3 hQ3 hQ4 hT4 H3
        go_wp2
        go_loopw [13] (fun i wr => ∃ k : Nat, k ≤ l1.length ∧ i = .int .i64 k ∧ Hid (Dev wr bd bs bw (kD l0 (l1.take k))) ∧ Hid (Row wr gb AT (lbl (lbl z32 l0) (l1.take k))) ∧ Hid (Row wr ga AT (lbl z32 l0)) ∧ Hid (Below w.heap.size w wr)) (fun i _ => l1.length - (intOf i).toNat)
        case atStart => exact ⟨0, Nat.zero_le _, rfl, HD2, HR2, HQ2, HB2⟩
        case round =>
          clear HD2 HR2 HQ2 HB2
          obtain ⟨k, hk, rfl, hD, hR, hQ, hB⟩ := hrel
          by_cases hlt : k < l1.length
          · obtain ⟨b, o, rfl, hc⟩ := HS.out.2.1 (by omega)
            obtain ⟨q0, q1⟩ := hc k hlt
            have hbw : b < w.heap.size := block_lt_of_cell q0
            have hp8 := HS.out.2.2.2.1.get k
            have hsn := congrArg (wsF (fun _ => none)) (take_snocP l1 k hlt)
            rw [wsF_snoc] at hsn
            have hsl := congrArg (lbl (lbl z32 l0)) (take_snocP l1 k hlt)
            rw [lbl_snoc] at hsl
            generalize l1.getD k (0, 0) = P at *
            obtain ⟨A, C⟩ := P
            simp only at q0 q1 hp8 hsn hsl
            obtain ⟨N, hN⟩ : ∃ N, N = A % 32 := ⟨_, rfl⟩
            have eN : (A : Int) % 32 = (N : Int) := by omega
            have hNl : N < 32 := by omega
            have hNi : (N : Int) < 32 := by omega
            have hA := hp8.1
            have hC := hp8.2
            rw [← hN] at hsn hsl
            have hwr := wr_free (kD l0 (l1.take k)) rfl rfl N (by show N < 8 * 4; omega) (secOf C) (secOf_len C)
            have HX := Lib.hid (And.intro hsn (And.intro hwr (And.intro hsl (And.intro q1 (And.intro hA hC)))))
            have q0r : wr.cell? ⟨b, o + k * 2, none⟩ = some (.int .u8 (A : Int)) := by rw [hB.out.cell (p := ⟨b, o + k * 2, none⟩) hbw]; exact q0
            have q1r : wr.cell? ⟨b, o + k * 2 + 1, none⟩ = some (.int .u8 (C : Int)) := by rw [hB.out.cell (p := ⟨b, o + k * 2 + 1, none⟩) hbw]; exact q1
            clear hsn hsl hwr hp8 hN hc q0 q1
            go_wp2_with fail
            refine (sector_any C wr).mono ?_
            rintro e w3 ⟨g, hg3, rfl, hr3, hb3⟩
            have hw := write_any w3 bd bs bw (kD l0 (l1.take k)) (N : Int) (some ⟨g, 0, none⟩) (secOf C) (secOf C).length hr3.src (secOf_b8 C hC) (hD.out.below hb3)
            rw [HX.out.2.1, errV_zero] at hw
            have hB3 : Below w.heap.size w w3 := hB.out.trans (hb3.mono hB.out.size)
            have hR3 := Row.ext hR.out hb3
            have hQ3 := Row.ext hQ.out hb3
            have Hw := Lib.hid hw
            clear hw hr3 hb3 hg3 q0r q1r hD hR hQ hB
            go_wp2_with fail
            refine Hw.out.mono ?_
            rintro e w4 ⟨rfl, hD4, hT4⟩
            have hB4 : Below w.heap.size w w4 := hB3.trans (hT4.below hB3.size Hfw.out)
            have hR4 := Row.turn hR3 hT4 (fun h => Hgab.out.2.2.1 _ h rfl)
            have hQ4 := Row.turn hQ3 hT4 (fun h => Hgab.out.2.1 _ h rfl)
            have q1r : w4.cell? ⟨b, o + k * 2 + 1, none⟩ = some (.int .u8 (C : Int)) := by rw [hB4.cell (p := ⟨b, o + k * 2 + 1, none⟩) hbw]; exact HX.out.2.2.2.1
            have k2 := hR4.cell N (by rw [lbl_len, lbl_len, z32_len]; exact hNl)
            have f2 := hR4.frozen N
            have hD5 : Hid (Dev (w4.setCell ⟨gb, N, none⟩ (.int .u8 (C : Int))) bd bs bw (kD l0 (l1.take (k + 1)))) := by
              have e : kD l0 (l1.take (k + 1)) = { kD l0 (l1.take k) with waits := upd (kD l0 (l1.take k)).waits N (some (secOf C)) } := by unfold kD; rw [HX.out.1]
              rw [e]; exact Dev.turn hD4 (turn_set w4 gb N _) Hgab.out.2.2.1
            have hR5 : Hid (Row (w4.setCell ⟨gb, N, none⟩ (.int .u8 (C : Int))) gb AT (lbl (lbl z32 l0) (l1.take (k + 1)))) := by
              have := hR4.set N C
              rw [← HX.out.2.2.1] at this
              exact this
            have hQ5 : Hid (Row (w4.setCell ⟨gb, N, none⟩ (.int .u8 (C : Int))) ga AT (lbl z32 l0)) := Row.turn hQ4 (turn_set w4 gb N _) (fun e => Hgab.out.1 e)
            have hB5 : Hid (Below w.heap.size w (w4.setCell ⟨gb, N, none⟩ (.int .u8 (C : Int)))) := hB4.setCell Hgab.out.2.2.2.2 _
            clear hD4 hT4 hB3 hR3 hQ3 hR4 hQ4 hB4 HX Hw
            go_wp2_with fail
            generalize w4.setCell ⟨gb, N, none⟩ (.int .u8 (C : Int)) = w5 at *
            go_roundw
            case rel => exact ⟨k + 1, by omega, by go_num, hD5, hR5, hQ5, hB5⟩
            case measure => simp [intOf]; omega
          · obtain rfl : k = l1.length := by omega
            have hD := hD.out
            have hR := hR.out
            rw [List.take_length] at hD hR
            have hwt := waiting_any wr bd bs bw _ hD
            have hlt := hD.foot_lt
            have HD := Lib.hid hD
            have HB := Lib.hid hB.out
            have HRQ := Lib.hid (And.intro hR hQ.out)
            have Hlt := Lib.hid hlt
            have Hwt := Lib.hid hwt
            clear hD hR hQ hB hwt hlt
            go_wp2_with fail
            refine Hwt.out.mono ?_
            rintro e w3 ⟨v, rfl, ho3, hb3⟩
            obtain ⟨p3, n3, rfl, hi3, hx3⟩ := own_isrc ho3
            have hB3 : Below w.heap.size w w3 := HB.out.trans (hb3.mono HB.out.size)
            have hD3 := HD.out.below hb3
            have hcr := crash_any w3 bd bs bw (kD l0 l1) a2 kb c2 (HS.out.2.2.2.2.below hB3) hD3
            have H3 := Lib.hid (And.intro hB3 (And.intro hi3 (And.intro hx3 (And.intro (Row.ext HRQ.out.1 hb3) (Row.ext HRQ.out.2 hb3)))))
            have Hcr := Lib.hid hcr
            clear hB3 hi3 hx3 hb3 ho3 hcr hD3 Hwt HRQ HB HD
            obtain ⟨W, hW⟩ : ∃ W, W = (wl (kD l0 l1)).length := ⟨_, rfl⟩
            have hWl : W ≤ 32 := by have := wl_len (kD l0 l1); have h2 : (kD l0 l1).pages = 4 := rfl; omega
            have HW := Lib.hid hW
            rw [← hW]
            clear hW
            go_wp2_with fail
            refine Hcr.out.mono ?_
            rintro e w4 ⟨rfl, hD4, hT4⟩
            have hpf : ∀ a, p3 = some a → ¬ Foot bd bs bw a.block := fun a ha hf => by have := H3.out.2.2.1 a ha; have := Hlt.out _ hf; omega
            have HB4 : Hid (Below w.heap.size w w4) := H3.out.1.trans (hT4.below H3.out.1.size Hfw.out)
            have HD4 : Hid (Dev w4 bd bs bw (crS (kD l0 l1) kb)) := hD4
            have HR4 : Hid (Row w4 gb AT (lbl (lbl z32 l0) l1)) := Row.turn H3.out.2.2.2.1 hT4 (fun h => Hgab.out.2.2.1 _ h rfl)
            have HQ4 : Hid (Row w4 ga AT (lbl z32 l0)) := Row.turn H3.out.2.2.2.2 hT4 (fun h => Hgab.out.2.1 _ h rfl)
            have HI4 : Hid (ISrc w4 p3 (wl (kD l0 l1))) := H3.out.2.1.turn hT4 hpf
            have h8w : B8 (lbl z32 l0) := lbl_b8 z32_b8 HS.out.2.2.1
            have h8i : B8 (lbl (lbl z32 l0) l1) := lbl_b8 h8w HS.out.2.2.2.1
            have hrl : Rl (wsF (fun _ => none) l0) (lbl z32 l0) := rl_all rl_start z32_len l0
            have hrw : Rw (wsF (fun _ => none) l1) (lbl (lbl z32 l0) l1) := by
              have := rw_take (rw_start (lbl z32 l0)) (by rw [lbl_len, z32_len]) l1 l1.length
              rwa [List.take_length] at this
            have hlw : (lbl z32 l0).length = 32 := by rw [lbl_len, z32_len]
            have hli : (lbl (lbl z32 l0) l1).length = 32 := by rw [lbl_len, lbl_len, z32_len]
            have HL := Lib.hid (And.intro h8w (And.intro h8i (And.intro (fun n hn => kD_safe l0 l1 _ hrl n hn) (And.intro (fun i hi => kD_waits l0 l1 _ hrw i hi) (And.intro hlw hli)))))
            generalize lbl (lbl z32 l0) l1 = IS at *
            generalize lbl z32 l0 = WA at *
            clear hD4 hT4 hpf H3 Hcr Hlt h8w h8i hrl hrw hlw hli
            go_wp2
            go_loopw [16, 17] (fun av nv wr => ∃ q n : Nat, n ≤ 32 ∧ q ≤ 32 ∧ av = .int .i64 q ∧ nv = .int .i64 n ∧ Hid (AtN (kD l0 l1) q n) ∧ Hid (Dev wr bd bs bw (crS (kD l0 l1) kb)) ∧ Hid (Row wr ga AT WA) ∧ Hid (Row wr gb AT IS) ∧ Hid (ISrc wr p3 (wl (kD l0 l1))) ∧ Hid (Below w.heap.size w wr)) (fun _ nv _ => 32 - (intOf nv).toNat)
            case atStart => exact ⟨0, 0, Nat.zero_le _, Nat.zero_le _, rfl, rfl, atN_start _, HD4, HQ4, HR4, HI4, HB4⟩
            case round =>
              clear HD4 HQ4 HR4 HI4 HB4
              obtain ⟨q, n, hn, hq, rfl, rfl, hat, hD, hQ, hR, hI, hB⟩ := hrel
              by_cases hlt : n < 32
              · have hread := fun V (hV : rd (crS (kD l0 l1) kb) n = secOf V) => (show Calls Tryd.prog 8 #[.pointer (some ⟨bd, 0, none⟩), .int .i64 (n : Int)] wr (NewSec wr (secOf V) .nilIface) from by
                  rw [← hV]; exact read_ok wr bd bs bw _ n (among_four' (crS (kD l0 l1) kb) rfl rfl n hlt) hD.out)
                have Hread := Lib.hid hread
                have kw : wr.cell? ⟨ga, n, none⟩ = some (.int .u8 ((WA.getD n 0 : Nat) : Int)) := hQ.out.cell n (by rw [HL.out.2.2.2.2.1]; exact hlt)
                have ki : wr.cell? ⟨gb, n, none⟩ = some (.int .u8 ((IS.getD n 0 : Nat) : Int)) := hR.out.cell n (by rw [HL.out.2.2.2.2.2]; exact hlt)
                have hni : (n : Int) < 32 := by omega
                have hwa := HL.out.1.get n
                have hia := HL.out.2.1.get n
                clear hread
                by_cases hit : q < W ∧ (wl (kD l0 l1)).getD q 0 = n
                · obtain ⟨hqW, hqn⟩ := hit
                  have hqi := hqW
                  rw [HW.out] at hqi
                  have HAT : Hid (AtN (kD l0 l1) (q + 1) (n + 1)) := atN_hit hat.out hqi hqn
                  obtain ⟨ib, io, rfl, hic⟩ := hI.out (by omega)
                  have kq := hic q hqi
                  rw [hqn] at kq
                  have hrd := rd_crash_at (kD l0 l1) kb q hqi
                  rw [hqn] at hrd
                  have hsw := HL.out.2.2.2.1 q hqi
                  rw [hqn] at hsw
                  rw [hsw, HL.out.2.2.1 n hlt] at hrd
                  have hqW' : (q : Int) < (W : Int) := by omega
                  clear hic hqn hsw hqi
                  by_cases hqk : q < kb.length
                  · obtain ⟨jb, jo, rfl, hjc⟩ := HS.out.2.2.2.2.below hB.out (by omega)
                    have kk := hjc q hqk
                    clear hjc
                    by_cases hkp : kp kb q = true
                    · rw [hkp] at kk
                      rw [if_pos hkp] at hrd
                      have Hr := Lib.hid (Hread.out _ hrd)
                      generalize WA.getD n 0 = V0 at *
                      generalize IS.getD n 0 = V at *
                      have hV8 : V < 256 := hia
                      clear hkp hrd Hread
                      go_wp2_with fail
                      refine Hr.out.mono ?_
                      rintro e w2 ⟨g, hg2, rfl, hr2, hb2⟩
                      have hQ2 : Row w2 ga AT WA := Row.ext hQ.out hb2
                      have hR2 : Row w2 gb AT IS := Row.ext hR.out hb2
                      have hD2 := hD.out.below hb2
                      have hI2 := hI.out.ext hb2
                      have hB2 : Below w.heap.size w w2 := hB.out.trans (hb2.mono hB.out.size)
                      clear hR hQ hD hB hI hb2 Hr hat
                      go_wp2_with fail
                      refine wp_region_gt (F := fun _ => False) [(0, true), (1, true), (2, true), (3, true), (4, true), (5, true), (6, false), (7, true), (8, true), (9, true)] (by kernel_rfl) (by kernel_rfl) (by kernel_rfl) (by kernel_rfl) (fun _ _ _ _ _ h => h) ?_
                      have hbd : Below w2.heap.size w2 w2.drew := Ext.drew w2
                      have hcv : ∀ w', Turn (fun _ => False) w2.drew w' → (convert BT 9 (.slice (some ⟨g, 0, none⟩) 64 64)).run Tryd.prog w' = .ok (.string (bstr (secOf V))) w' := fun w' t =>
                        conv_any w' g 64 64 (secOf V) (secOf_len V) (Row.turn (Row.ext hr2 hbd) t (fun h => h))
                      have hR3 := Row.ext hR2 hbd
                      have hQ3 := Row.ext hQ2 hbd
                      have hD3 := hD2.below hbd
                      have hI3 := hI2.ext hbd
                      have hB3 : Below w.heap.size w w2.drew := hB2.drew
                      clear hR2 hQ2 hD2 hB2 hI2 hbd hr2
                      generalize w2.drew = w3 at *
                      iterate 6 (refine wpGt_read (o := ⟨_, _, _, _, _, _⟩) (v := ?_) rfl (by rfl) ?_ ?_; rotate_left; (intro w' hw'; go_simp; with_reducible rfl); simp only [Act.put, List.setIfInBounds_toArray, List.set_cons_zero, List.set_cons_succ])
                      clear hcv
                      refine wpGt_call (o := ⟨_, _, _, _, _, _⟩) rfl (by rfl) (fun K hK => ?_)
                      go_simp
                      refine (sector_any V w3).mono ?_
                      rintro e w4 ⟨g4, hg4, rfl, hr4, hb4⟩
                      refine hK _ _ (Turn.ofBelow hb4) ?_
                      clear hK K
                      have hcv : ∀ w', Turn (fun _ => False) w4 w' → (convert BT 9 (.slice (some ⟨g4, 0, none⟩) (secOf V).length (secOf V).length)).run Tryd.prog w' = .ok (.string (bstr (secOf V))) w' := fun w' t =>
                        conv_any w' g4 _ _ (secOf V) rfl (Row.turn hr4 t (fun h => h))
                      iterate 3 (refine wpGt_read (o := ⟨_, _, _, _, _, _⟩) (v := ?_) rfl (by rfl) ?_ ?_; rotate_left; (intro w' hw'; go_simp; with_reducible rfl); simp only [Act.put, List.setIfInBounds_toArray, List.set_cons_zero, List.set_cons_succ])
                      refine wpGt_done ?_
                      have hR5 : Hid (Row w4 gb AT IS) := Row.ext hR3 hb4
                      have hQ5 : Hid (Row w4 ga AT WA) := Row.ext hQ3 hb4
                      have hD5 : Hid (Dev w4 bd bs bw (crS (kD l0 l1) kb)) := hD3.below hb4
                      have hI5 : Hid (ISrc w4 _ (wl (kD l0 l1))) := hI3.ext hb4
                      have hB5 : Hid (Below w.heap.size w w4) := hB3.trans (hb4.mono hB3.size)
                      clear hcv hr4 hb4 hg4 hR3 hQ3 hD3 hB3 hI3
                      go_wp2
                      go_roundw
                      case rel => exact ⟨q + 1, n + 1, by omega, by omega, by go_num, by go_num, HAT, hD5, hQ5, hR5, hI5, hB5⟩
                      case measure => simp [intOf]; omega
                    · have hkf : kp kb q = false := by cases hx : kp kb q <;> simp_all
                      rw [hkf] at kk
                      rw [if_neg hkp] at hrd
                      have Hr := Lib.hid (Hread.out _ hrd)
                      generalize WA.getD n 0 = V at *
                      generalize IS.getD n 0 = V0 at *
                      have hV8 : V < 256 := hwa
                      clear hkp hkf hrd Hread
                      go_wp2_with fail
                      refine Hr.out.mono ?_
                      rintro e w2 ⟨g, hg2, rfl, hr2, hb2⟩
                      have hQ2 : Row w2 ga AT WA := Row.ext hQ.out hb2
                      have hR2 : Row w2 gb AT IS := Row.ext hR.out hb2
                      have hD2 := hD.out.below hb2
                      have hI2 := hI.out.ext hb2
                      have hB2 : Below w.heap.size w w2 := hB.out.trans (hb2.mono hB.out.size)
                      clear hR hQ hD hB hI hb2 Hr hat
                      go_wp2_with fail
                      refine wp_region_gt (F := fun _ => False) [(0, true), (1, true), (2, true), (3, true), (4, true), (5, true), (6, false), (7, true), (8, true), (9, true)] (by kernel_rfl) (by kernel_rfl) (by kernel_rfl) (by kernel_rfl) (fun _ _ _ _ _ h => h) ?_
                      have hbd : Below w2.heap.size w2 w2.drew := Ext.drew w2
                      have hcv : ∀ w', Turn (fun _ => False) w2.drew w' → (convert BT 9 (.slice (some ⟨g, 0, none⟩) 64 64)).run Tryd.prog w' = .ok (.string (bstr (secOf V))) w' := fun w' t =>
                        conv_any w' g 64 64 (secOf V) (secOf_len V) (Row.turn (Row.ext hr2 hbd) t (fun h => h))
                      have hR3 := Row.ext hR2 hbd
                      have hQ3 := Row.ext hQ2 hbd
                      have hD3 := hD2.below hbd
                      have hI3 := hI2.ext hbd
                      have hB3 : Below w.heap.size w w2.drew := hB2.drew
                      clear hR2 hQ2 hD2 hB2 hI2 hbd hr2
                      generalize w2.drew = w3 at *
                      iterate 6 (refine wpGt_read (o := ⟨_, _, _, _, _, _⟩) (v := ?_) rfl (by rfl) ?_ ?_; rotate_left; (intro w' hw'; go_simp; with_reducible rfl); simp only [Act.put, List.setIfInBounds_toArray, List.set_cons_zero, List.set_cons_succ])
                      clear hcv
                      refine wpGt_call (o := ⟨_, _, _, _, _, _⟩) rfl (by rfl) (fun K hK => ?_)
                      go_simp
                      refine (sector_any V w3).mono ?_
                      rintro e w4 ⟨g4, hg4, rfl, hr4, hb4⟩
                      refine hK _ _ (Turn.ofBelow hb4) ?_
                      clear hK K
                      have hcv : ∀ w', Turn (fun _ => False) w4 w' → (convert BT 9 (.slice (some ⟨g4, 0, none⟩) (secOf V).length (secOf V).length)).run Tryd.prog w' = .ok (.string (bstr (secOf V))) w' := fun w' t =>
                        conv_any w' g4 _ _ (secOf V) rfl (Row.turn hr4 t (fun h => h))
                      iterate 3 (refine wpGt_read (o := ⟨_, _, _, _, _, _⟩) (v := ?_) rfl (by rfl) ?_ ?_; rotate_left; (intro w' hw'; go_simp; with_reducible rfl); simp only [Act.put, List.setIfInBounds_toArray, List.set_cons_zero, List.set_cons_succ])
                      refine wpGt_done ?_
                      have hR5 : Hid (Row w4 gb AT IS) := Row.ext hR3 hb4
                      have hQ5 : Hid (Row w4 ga AT WA) := Row.ext hQ3 hb4
                      have hD5 : Hid (Dev w4 bd bs bw (crS (kD l0 l1) kb)) := hD3.below hb4
                      have hI5 : Hid (ISrc w4 _ (wl (kD l0 l1))) := hI3.ext hb4
                      have hB5 : Hid (Below w.heap.size w w4) := hB3.trans (hb4.mono hB3.size)
                      clear hcv hr4 hb4 hg4 hR3 hQ3 hD3 hB3 hI3
                      go_wp2
                      go_roundw
                      case rel => exact ⟨q + 1, n + 1, by omega, by omega, by go_num, by go_num, HAT, hD5, hQ5, hR5, hI5, hB5⟩
                      case measure => simp [intOf]; omega
                  · rw [if_neg (by rw [kp_out hqk]; simp)] at hrd
                    have Hr := Lib.hid (Hread.out _ hrd)
                    generalize WA.getD n 0 = V at *
                    generalize IS.getD n 0 = V0 at *
                    have hV8 : V < 256 := hwa
                    clear hrd Hread
                    go_wp2_with fail
                    refine Hr.out.mono ?_
                    rintro e w2 ⟨g, hg2, rfl, hr2, hb2⟩
                    have hQ2 : Row w2 ga AT WA := Row.ext hQ.out hb2
                    have hR2 : Row w2 gb AT IS := Row.ext hR.out hb2
                    have hD2 := hD.out.below hb2
                    have hI2 := hI.out.ext hb2
                    have hB2 : Below w.heap.size w w2 := hB.out.trans (hb2.mono hB.out.size)
                    clear hR hQ hD hB hI hb2 Hr hat
                    go_wp2_with fail
                    refine wp_region_gt (F := fun _ => False) [(0, true), (1, true), (2, true), (3, true), (4, true), (5, true), (6, false), (7, true), (8, true), (9, true)] (by kernel_rfl) (by kernel_rfl) (by kernel_rfl) (by kernel_rfl) (fun _ _ _ _ _ h => h) ?_
                    have hbd : Below w2.heap.size w2 w2.drew := Ext.drew w2
                    have hcv : ∀ w', Turn (fun _ => False) w2.drew w' → (convert BT 9 (.slice (some ⟨g, 0, none⟩) 64 64)).run Tryd.prog w' = .ok (.string (bstr (secOf V))) w' := fun w' t =>
                      conv_any w' g 64 64 (secOf V) (secOf_len V) (Row.turn (Row.ext hr2 hbd) t (fun h => h))
                    have hR3 := Row.ext hR2 hbd
                    have hQ3 := Row.ext hQ2 hbd
                    have hD3 := hD2.below hbd
                    have hI3 := hI2.ext hbd
                    have hB3 : Below w.heap.size w w2.drew := hB2.drew
                    clear hR2 hQ2 hD2 hB2 hI2 hbd hr2
                    generalize w2.drew = w3 at *
                    iterate 6 (refine wpGt_read (o := ⟨_, _, _, _, _, _⟩) (v := ?_) rfl (by rfl) ?_ ?_; rotate_left; (intro w' hw'; go_simp; with_reducible rfl); simp only [Act.put, List.setIfInBounds_toArray, List.set_cons_zero, List.set_cons_succ])
                    clear hcv
                    refine wpGt_call (o := ⟨_, _, _, _, _, _⟩) rfl (by rfl) (fun K hK => ?_)
                    go_simp
                    refine (sector_any V w3).mono ?_
                    rintro e w4 ⟨g4, hg4, rfl, hr4, hb4⟩
                    refine hK _ _ (Turn.ofBelow hb4) ?_
                    clear hK K
                    have hcv : ∀ w', Turn (fun _ => False) w4 w' → (convert BT 9 (.slice (some ⟨g4, 0, none⟩) (secOf V).length (secOf V).length)).run Tryd.prog w' = .ok (.string (bstr (secOf V))) w' := fun w' t =>
                      conv_any w' g4 _ _ (secOf V) rfl (Row.turn hr4 t (fun h => h))
                    iterate 3 (refine wpGt_read (o := ⟨_, _, _, _, _, _⟩) (v := ?_) rfl (by rfl) ?_ ?_; rotate_left; (intro w' hw'; go_simp; with_reducible rfl); simp only [Act.put, List.setIfInBounds_toArray, List.set_cons_zero, List.set_cons_succ])
                    refine wpGt_done ?_
                    have hR5 : Hid (Row w4 gb AT IS) := Row.ext hR3 hb4
                    have hQ5 : Hid (Row w4 ga AT WA) := Row.ext hQ3 hb4
                    have hD5 : Hid (Dev w4 bd bs bw (crS (kD l0 l1) kb)) := hD3.below hb4
                    have hI5 : Hid (ISrc w4 _ (wl (kD l0 l1))) := hI3.ext hb4
                    have hB5 : Hid (Below w.heap.size w w4) := hB3.trans (hb4.mono hB3.size)
                    clear hcv hr4 hb4 hg4 hR3 hQ3 hD3 hB3 hI3
                    go_wp2
                    go_roundw
                    case rel => exact ⟨q + 1, n + 1, by omega, by omega, by go_num, by go_num, HAT, hD5, hQ5, hR5, hI5, hB5⟩
                    case measure => simp [intOf]; omega
                · obtain ⟨hat2, hne⟩ := atN_miss hat.out (fun h => hit ⟨by rw [HW.out]; exact h.1, h.2⟩)
                  have HAT : Hid (AtN (kD l0 l1) q (n + 1)) := hat2
                  have hrd := rd_crash_out (kD l0 l1) kb n hne
                  rw [HL.out.2.2.1 n hlt] at hrd
                  have Hr := Lib.hid (Hread.out _ hrd)
                  clear hrd Hread hat2
                  by_cases hqW : q < W
                  · have hqi := hqW
                    rw [HW.out] at hqi
                    obtain ⟨ib, io, rfl, hic⟩ := hI.out (by omega)
                    have kq := hic q hqi
                    have hnq := hne q hqi
                    generalize (wl (kD l0 l1)).getD q 0 = X at *
                    have dX : ((X : Int) == (n : Int)) = false := by simp; omega
                    generalize WA.getD n 0 = V at *
                    generalize IS.getD n 0 = V0 at *
                    have hV8 : V < 256 := hwa
                    clear hic hne hqi hnq hit
                    go_wp2_with fail
                    refine Hr.out.mono ?_
                    rintro e w2 ⟨g, hg2, rfl, hr2, hb2⟩
                    have hQ2 : Row w2 ga AT WA := Row.ext hQ.out hb2
                    have hR2 : Row w2 gb AT IS := Row.ext hR.out hb2
                    have hD2 := hD.out.below hb2
                    have hI2 := hI.out.ext hb2
                    have hB2 : Below w.heap.size w w2 := hB.out.trans (hb2.mono hB.out.size)
                    clear hR hQ hD hB hI hb2 Hr hat
                    go_wp2_with fail
                    refine wp_region_gt (F := fun _ => False) [(0, true), (1, true), (2, true), (3, true), (4, true), (5, true), (6, false), (7, true), (8, true), (9, true)] (by kernel_rfl) (by kernel_rfl) (by kernel_rfl) (by kernel_rfl) (fun _ _ _ _ _ h => h) ?_
                    have hbd : Below w2.heap.size w2 w2.drew := Ext.drew w2
                    have hcv : ∀ w', Turn (fun _ => False) w2.drew w' → (convert BT 9 (.slice (some ⟨g, 0, none⟩) 64 64)).run Tryd.prog w' = .ok (.string (bstr (secOf V))) w' := fun w' t =>
                      conv_any w' g 64 64 (secOf V) (secOf_len V) (Row.turn (Row.ext hr2 hbd) t (fun h => h))
                    have hR3 := Row.ext hR2 hbd
                    have hQ3 := Row.ext hQ2 hbd
                    have hD3 := hD2.below hbd
                    have hI3 := hI2.ext hbd
                    have hB3 : Below w.heap.size w w2.drew := hB2.drew
                    clear hR2 hQ2 hD2 hB2 hI2 hbd hr2
                    generalize w2.drew = w3 at *
                    iterate 6 (refine wpGt_read (o := ⟨_, _, _, _, _, _⟩) (v := ?_) rfl (by rfl) ?_ ?_; rotate_left; (intro w' hw'; go_simp; with_reducible rfl); simp only [Act.put, List.setIfInBounds_toArray, List.set_cons_zero, List.set_cons_succ])
                    clear hcv
                    refine wpGt_call (o := ⟨_, _, _, _, _, _⟩) rfl (by rfl) (fun K hK => ?_)
                    go_simp
                    refine (sector_any V w3).mono ?_
                    rintro e w4 ⟨g4, hg4, rfl, hr4, hb4⟩
                    refine hK _ _ (Turn.ofBelow hb4) ?_
                    clear hK K
                    have hcv : ∀ w', Turn (fun _ => False) w4 w' → (convert BT 9 (.slice (some ⟨g4, 0, none⟩) (secOf V).length (secOf V).length)).run Tryd.prog w' = .ok (.string (bstr (secOf V))) w' := fun w' t =>
                      conv_any w' g4 _ _ (secOf V) rfl (Row.turn hr4 t (fun h => h))
                    iterate 3 (refine wpGt_read (o := ⟨_, _, _, _, _, _⟩) (v := ?_) rfl (by rfl) ?_ ?_; rotate_left; (intro w' hw'; go_simp; with_reducible rfl); simp only [Act.put, List.setIfInBounds_toArray, List.set_cons_zero, List.set_cons_succ])
                    refine wpGt_done ?_
                    have hR5 : Hid (Row w4 gb AT IS) := Row.ext hR3 hb4
                    have hQ5 : Hid (Row w4 ga AT WA) := Row.ext hQ3 hb4
                    have hD5 : Hid (Dev w4 bd bs bw (crS (kD l0 l1) kb)) := hD3.below hb4
                    have hI5 : Hid (ISrc w4 _ (wl (kD l0 l1))) := hI3.ext hb4
                    have hB5 : Hid (Below w.heap.size w w4) := hB3.trans (hb4.mono hB3.size)
                    clear hcv hr4 hb4 hg4 hR3 hQ3 hD3 hB3 hI3
                    go_wp2
                    go_roundw
                    case rel => exact ⟨q, n + 1, by omega, by omega, by go_num, by go_num, HAT, hD5, hQ5, hR5, hI5, hB5⟩
                    case measure => simp [intOf]; omega
                  · generalize WA.getD n 0 = V at *
                    generalize IS.getD n 0 = V0 at *
                    have hV8 : V < 256 := hwa
                    clear hne hit
                    go_wp2_with fail
                    refine Hr.out.mono ?_
                    rintro e w2 ⟨g, hg2, rfl, hr2, hb2⟩
                    have hQ2 : Row w2 ga AT WA := Row.ext hQ.out hb2
                    have hR2 : Row w2 gb AT IS := Row.ext hR.out hb2
                    have hD2 := hD.out.below hb2
                    have hI2 := hI.out.ext hb2
                    have hB2 : Below w.heap.size w w2 := hB.out.trans (hb2.mono hB.out.size)
                    clear hR hQ hD hB hI hb2 Hr hat
                    go_wp2_with fail
                    refine wp_region_gt (F := fun _ => False) [(0, true), (1, true), (2, true), (3, true), (4, true), (5, true), (6, false), (7, true), (8, true), (9, true)] (by kernel_rfl) (by kernel_rfl) (by kernel_rfl) (by kernel_rfl) (fun _ _ _ _ _ h => h) ?_
                    have hbd : Below w2.heap.size w2 w2.drew := Ext.drew w2
                    have hcv : ∀ w', Turn (fun _ => False) w2.drew w' → (convert BT 9 (.slice (some ⟨g, 0, none⟩) 64 64)).run Tryd.prog w' = .ok (.string (bstr (secOf V))) w' := fun w' t =>
                      conv_any w' g 64 64 (secOf V) (secOf_len V) (Row.turn (Row.ext hr2 hbd) t (fun h => h))
                    have hR3 := Row.ext hR2 hbd
                    have hQ3 := Row.ext hQ2 hbd
                    have hD3 := hD2.below hbd
                    have hI3 := hI2.ext hbd
                    have hB3 : Below w.heap.size w w2.drew := hB2.drew
                    clear hR2 hQ2 hD2 hB2 hI2 hbd hr2
                    generalize w2.drew = w3 at *
                    iterate 6 (refine wpGt_read (o := ⟨_, _, _, _, _, _⟩) (v := ?_) rfl (by rfl) ?_ ?_; rotate_left; (intro w' hw'; go_simp; with_reducible rfl); simp only [Act.put, List.setIfInBounds_toArray, List.set_cons_zero, List.set_cons_succ])
                    clear hcv
                    refine wpGt_call (o := ⟨_, _, _, _, _, _⟩) rfl (by rfl) (fun K hK => ?_)
                    go_simp
                    refine (sector_any V w3).mono ?_
                    rintro e w4 ⟨g4, hg4, rfl, hr4, hb4⟩
                    refine hK _ _ (Turn.ofBelow hb4) ?_
                    clear hK K
                    have hcv : ∀ w', Turn (fun _ => False) w4 w' → (convert BT 9 (.slice (some ⟨g4, 0, none⟩) (secOf V).length (secOf V).length)).run Tryd.prog w' = .ok (.string (bstr (secOf V))) w' := fun w' t =>
                      conv_any w' g4 _ _ (secOf V) rfl (Row.turn hr4 t (fun h => h))
                    iterate 3 (refine wpGt_read (o := ⟨_, _, _, _, _, _⟩) (v := ?_) rfl (by rfl) ?_ ?_; rotate_left; (intro w' hw'; go_simp; with_reducible rfl); simp only [Act.put, List.setIfInBounds_toArray, List.set_cons_zero, List.set_cons_succ])
                    refine wpGt_done ?_
                    have hR5 : Hid (Row w4 gb AT IS) := Row.ext hR3 hb4
                    have hQ5 : Hid (Row w4 ga AT WA) := Row.ext hQ3 hb4
                    have hD5 : Hid (Dev w4 bd bs bw (crS (kD l0 l1) kb)) := hD3.below hb4
                    have hI5 : Hid (ISrc w4 _ (wl (kD l0 l1))) := hI3.ext hb4
                    have hB5 : Hid (Below w.heap.size w w4) := hB3.trans (hb4.mono hB3.size)
                    clear hcv hr4 hb4 hg4 hR3 hQ3 hD3 hB3 hI3
                    go_wp2
                    go_roundw
                    case rel => exact ⟨q, n + 1, by omega, by omega, by go_num, by go_num, HAT, hD5, hQ5, hR5, hI5, hB5⟩
                    case measure => simp [intOf]; omega
              · obtain rfl : n = 32 := by omega
                obtain rfl : q = W := by rw [HW.out]; exact atN_end hat.out (by show 8 * 4 ≤ 32; omega)
                have hf := Fin.out wr hB
                have Hf := Lib.hid hf
                clear hf hat hD hQ hR hI hB
                go_wp2_with fail
                refine Hf.out.mono ?_
                rintro e w9 ⟨rfl, hb9⟩
                go_wp2_with fail
                go_ret
                exact ⟨rfl, hb9⟩
  · by_cases h0 : l0.length ≤ 60
    · have d0 : decide (60 < (l0.length : Int)) = false := by simp; omega
      have d1 : decide (60 < (l1.length : Int)) = true := by simp; omega
      go_enter Tryd.func4, Tryd.ntmps4
      go_wp2_with fail
      refine Hnew.out.mono ?_
      rintro e w1 ⟨bd, bs, bw, hbd, hbs, hbw, rfl, hD1, hb1⟩
      have hf := Fin.out w1 hb1
      have Hf := Lib.hid hf
      clear hf hD1 hb1 hbd hbs hbw
      go_wp2_with fail
      refine Hf.out.mono ?_
      rintro e w9 ⟨rfl, hb9⟩
      go_wp2_with fail
      go_ret
      exact ⟨rfl, hb9⟩
    · have d0 : decide (60 < (l0.length : Int)) = true := by simp; omega
      go_enter Tryd.func4, Tryd.ntmps4
      go_wp2_with fail
      refine Hnew.out.mono ?_
      rintro e w1 ⟨bd, bs, bw, hbd, hbs, hbw, rfl, hD1, hb1⟩
      have hf := Fin.out w1 hb1
      have Hf := Lib.hid hf
      clear hf hD1 hb1 hbd hbs hbw
      go_wp2_with fail
      refine Hf.out.mono ?_
      rintro e w9 ⟨rfl, hb9⟩
      go_wp2_with fail
      go_ret
      exact ⟨rfl, hb9⟩
end Go.Proofs.YtbkjaifpgknadaaDoor
