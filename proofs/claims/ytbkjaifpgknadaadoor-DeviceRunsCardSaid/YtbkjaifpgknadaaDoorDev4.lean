/-
  Write.
-/
import Derived.Test.YtbkjaifpgknadaaDoorDev3
namespace Go.Proofs.YtbkjaifpgknadaaDoor
open Go Go.RowKit Go.Maps

theorem cs_foot {w : World} {bd bs bw b o : Nat} {S : DS} {l : List Nat} (h : Dev w bd bs bw S) (hc : Cs w b o l) (h0 : 0 < l.length) : ¬ Foot bd bs bw b := by
  have h1 := hc 0 h0
  rintro (rfl | rfl | rfl)
  · rw [h.cell] at h1
    rcases ho : o + 0 with _ | _ | _ | _ | _ | _ | k <;> rw [ho] at h1 <;> simp [dcs] at h1
  · obtain ⟨es, c, hb⟩ := om_obj h.safe
    simp [World.cell?, hb] at h1
  · obtain ⟨es, c, hb⟩ := om_obj h.waits
    simp [World.cell?, hb] at h1
/-- Write: the error's number, and what the device is then. -/
def wrS (S : DS) (n : Int) (l : List Nat) : Int × DS :=
  if amongE S n (8 * S.pages : Nat) = 0 then
    if l.length = 64 then
      if (stepS S).1 = 0 then (0, { (stepS S).2 with waits := upd (stepS S).2.waits n.toNat (some l) }) else stepS S
    else (1, S)
  else (amongE S n (8 * S.pages : Nat), S)
theorem step_pages (S : DS) : (stepS S).2.pages = S.pages := by unfold stepS; split <;> (try split) <;> rfl
theorem step_ne (S : DS) : (stepS S).1 = 0 ∨ (stepS S).1 = 9 := by unfold stepS; split <;> (try split) <;> simp
theorem among_ne (S : DS) (n m : Int) : amongE S n m = 0 ∧ S.down = false ∧ 0 ≤ n ∧ n < m ∨ amongE S n m = 2 ∨ amongE S n m = 9 := by
  unfold amongE
  cases hd : S.down
  · by_cases h : n < 0 ∨ m ≤ n
    · rw [if_neg (by simp), if_pos h]; exact .inr (.inl rfl)
    · rw [if_neg (by simp), if_neg h]; exact .inl ⟨rfl, rfl, by omega, by omega⟩
  · rw [if_pos rfl]; exact .inr (.inr rfl)
theorem errV_ne {f : Int} (h : f ≠ 0) : errV f = .iface 73 (.int .i64 f) := by unfold errV; rw [if_neg h]
theorem errV_zero : errV 0 = .nilIface := rfl
set_option maxRecDepth 100000 in
set_option maxHeartbeats 1000000 in
theorem write_any (w : World) (bd bs bw : Nat) (S : DS) (n : Int) (a : Option Addr) (l : List Nat) (c : Nat) (hs : Src w a l) (h8 : B8 l) (h : Dev w bd bs bw S) :
    Calls Tryd.prog 19 #[.pointer (some ⟨bd, 0, none⟩), .int .i64 n, .slice a l.length c] w fun e w' => e = .returned (errV (wrS S n l).1) ∧ Dev w' bd bs bw (wrS S n l).2 ∧ Turn (Foot bd bs bw) w w' := by
  have hp1 := h.p1
  have hp2 := h.p2
  have hpg := pages_any w bd bs bw S h
  have hmul : (S.pages : Int) * 8 = ((8 * S.pages : Nat) : Int) := by omega
  have ham := among_any w bd bs bw S n ((8 * S.pages : Nat) : Int) h
  have HP := Lib.hid (And.intro hpg ham)
  have H := Lib.hid h
  have Hs := Lib.hid hs
  generalize hM : 8 * S.pages = M at *
  have hMl : M ≤ 8192 := by omega
  clear hpg ham h hs
  rcases among_ne S n (M : Int) with ⟨he, hdn, hn0, hnM⟩ | he
  · by_cases hl : l.length = 64
    · have d0 : ((l.length : Int) != 64) = false := by simp [hl]
      obtain ⟨b, o, rfl, hcs⟩ := Hs.out (by omega)
      have hst := step_any w bd bs bw S H.out
      rw [he, errV_zero] at HP
      rcases step_ne S with hse | hse
      · have ew : wrS S n l = (0, { (stepS S).2 with waits := upd (stepS S).2.waits n.toNat (some l) }) := by unfold wrS; rw [hM, if_pos he, if_pos hl, if_pos hse]
        rw [ew, errV_zero]
        rw [hse, errV_zero] at hst
        have hpp := step_pages S
        have hpl := fun w' => placed_any n.toNat w' (by omega)
        rw [Int.toNat_of_nonneg hn0] at hpl
        generalize stepS S = T at *
        obtain ⟨f, T⟩ := T
        simp only at hpp hst hse ⊢
        have hnk : n.toNat < 8 * T.pages := by rw [hpp, hM]; omega
        have hnf := cs_foot H.out hcs (by omega)
        generalize n.toNat = k at *
        have HX := Lib.hid (And.intro hl (And.intro hcs (And.intro hnk hnf)))
        have Hst := Lib.hid hst
        have Hpl := Lib.hid hpl
        clear ew hse hst hpp hnk hpl hl hcs he hM hnf Hs hdn
        go_enter Tryd.func19, Tryd.ntmps19
        go_wp2_with fail
        refine HP.out.1.mono ?_; rintro e w' ⟨rfl, rfl⟩
        go_wp2_with fail
        refine HP.out.2.mono ?_; rintro e w' ⟨rfl, rfl⟩
        go_wp2_with fail
        refine Hst.out.mono ?_; rintro e w1 ⟨rfl, hD1, hT1⟩
        go_wp2_with fail
        refine wp_region_gt (F := fun i => i = bw) [(0, true), (1, true), (2, true), (3, true), (4, true), (6, true), (7, true), (8, true), (5, false), (9, false)] (by kernel_rfl) (by kernel_rfl) (by kernel_rfl) (by kernel_rfl) (fun _ _ _ _ _ h => h) ?_
        have hbd : Below w1.heap.size w1 w1.drew := Ext.drew w1
        have hD := hD1.below hbd
        have hc := HX.out.2.1.turn (hT1.trans (Turn.ofBelow hbd)) HX.out.2.2.2
        have hT : Turn (Foot bd bs bw) w w1.drew := hT1.trans (Turn.ofBelow hbd)
        clear hbd hD1 hT1
        generalize w1.drew = w2 at *
        have hbw : b ≠ bw := fun e => HX.out.2.2.2 (.inr (.inr e))
        have hc2 : ∀ w', Turn (fun i => i = bw) w2 w' → w'.cell? ⟨bd, 2, none⟩ = some (.map (some bw)) := fun w' he => (cell_of_row w' bd 2 _ _ _ (he.hg hD.row hD.nw))
        iterate 6 (refine wpGt_read (o := ⟨_, _, _, _, _, _⟩) (v := ?_) rfl (by rfl) ?_ ?_; rotate_left; (intro w' hw'; go_simp; with_reducible rfl); simp only [Act.put, List.setIfInBounds_toArray, List.set_cons_zero, List.set_cons_succ])
        refine wpGt_read (o := ⟨_, _, _, _, _, _⟩) (v := .pointer (some ⟨b, o, none⟩)) rfl (by rfl) (fun w' hw' => rd_s2ap (.tmp 33) rfl _ l.length c (by rfl) (by rw [HX.out.1]; exact Nat.le_refl _)) ?_
        simp only [Act.put, List.setIfInBounds_toArray, List.set_cons_zero, List.set_cons_succ]
        refine wpGt_read (o := ⟨_, _, _, _, _, _⟩) (v := sec l) rfl (by rfl) (fun w' hw' => rd_load_src (.tmp 34) rfl b o l (by rfl) (hc.turn hw' hbw) HX.out.1) ?_
        simp only [Act.put, List.setIfInBounds_toArray, List.set_cons_zero, List.set_cons_succ]
        refine wpGt_call (o := ⟨_, _, _, _, _, _⟩) rfl (by rfl) (fun K hK => ?_)
        go_simp
        refine (Hpl.out w2).mono ?_; rintro e w3 ⟨rfl, hb3⟩
        refine hK _ _ (Turn.ofBelow hb3) ?_
        clear hK K
        refine wpGt_call (o := ⟨_, _, _, _, _, _⟩) rfl (by rfl) (fun K hK => ?_)
        have hD3 := hD.below hb3
        refine wp_put (.tmp 30) (.tmp 32) (.tmp 35) rfl bw (8 * T.pages) T.waits k l (by rfl) (by rfl) (by rfl) hD3.waits HX.out.2.2.1 HX.out.1 h8 ?_
        intro w4 ho4 hg4
        refine hK _ _ (Turn.ofGrown hg4) ?_
        clear hK K
        simp only [Act.put]
        refine wpGt_done ?_
        have hfin : Dev w4 bd bs bw { T with waits := upd T.waits k (some l) } := hD3.waitsTo hg4 ho4
        have hturn : Turn (Foot bd bs bw) w w4 := (hT.trans (Turn.ofBelow hb3)).trans ((Turn.ofGrown hg4).mono (fun i hi _ => .inr (.inr hi)))
        have Hf := Lib.hid (And.intro hfin hturn)
        clear hfin hturn hg4 ho4 hc2 hD hD3 hb3 hT hc
        go_wp2
        go_ret
        exact ⟨rfl, Hf.out.1, Hf.out.2⟩
      · have ew : wrS S n l = stepS S := by unfold wrS; rw [hM, if_pos he, if_pos hl, if_neg (by rw [hse]; decide)]
        rw [ew]
        rw [hse, errV_ne (by decide)] at hst
        rw [hse, errV_ne (by decide)]
        generalize stepS S = T at *
        have Hst := Lib.hid hst
        clear ew hse hst hl hcs he hM Hs
        go_enter Tryd.func19, Tryd.ntmps19
        go_wp2_with fail
        refine HP.out.1.mono ?_; rintro e w' ⟨rfl, rfl⟩
        go_wp2_with fail
        refine HP.out.2.mono ?_; rintro e w' ⟨rfl, rfl⟩
        go_wp2_with fail
        refine Hst.out.mono ?_; rintro e w1 ⟨rfl, hD1, hT1⟩
        go_wp2_with fail
        go_ret
        exact ⟨rfl, hD1, hT1⟩
    · have d0 : ((l.length : Int) != 64) = true := by rw [bne_iff_ne]; omega
      have ew : wrS S n l = (1, S) := by unfold wrS; rw [hM, if_pos he, if_neg hl]
      rw [ew, errV_ne (f := (1, S).1) (by show (1 : Int) ≠ 0; decide)]
      rw [he, errV_zero] at HP
      clear ew hM he hl
      go_enter Tryd.func19, Tryd.ntmps19
      go_wp2_with fail
      refine HP.out.1.mono ?_; rintro e w' ⟨rfl, rfl⟩
      go_wp2_with fail
      refine HP.out.2.mono ?_; rintro e w' ⟨rfl, rfl⟩
      go_wp2_with fail
      go_ret
      exact ⟨rfl, H.out, Turn.refl _ _⟩
  · have hE : ∃ f : Int, amongE S n (M : Int) = f ∧ f ≠ 0 := ⟨_, rfl, by rcases he with h | h <;> rw [h] <;> decide⟩
    obtain ⟨f, hf, hf0⟩ := hE
    have ew : wrS S n l = (f, S) := by unfold wrS; rw [hM, if_neg (by rw [hf]; exact hf0), hf]
    rw [ew]
    rw [hf, errV_ne hf0] at HP
    rw [errV_ne hf0]
    clear ew hf he hM
    go_enter Tryd.func19, Tryd.ntmps19
    go_wp2_with fail
    refine HP.out.1.mono ?_; rintro e w' ⟨rfl, rfl⟩
    go_wp2_with fail
    refine HP.out.2.mono ?_; rintro e w' ⟨rfl, rfl⟩
    go_wp2_with fail
    go_ret
    exact ⟨rfl, H.out, Turn.refl _ _⟩
end Go.Proofs.YtbkjaifpgknadaaDoor
