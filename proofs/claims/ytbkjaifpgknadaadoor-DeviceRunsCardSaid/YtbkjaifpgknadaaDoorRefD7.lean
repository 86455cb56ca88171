/-
  The document's device: Crash.
-/
import Derived.Test.YtbkjaifpgknadaaDoorRefD6
namespace Go.Proofs.YtbkjaifpgknadaaDoor
open Go Go.RowKit Go.Maps Go.Sort

theorem upto_same {α : Type} {j : Nat} {f g : Nat → α} (h : f j = g j) : upto (j + 1) f g = upto j f g := by
  funext m; unfold upto
  by_cases e : m = j
  · subst e; rw [if_pos (by omega), if_neg (by omega), h]
  · by_cases hm : m < j
    · rw [if_pos hm, if_pos (by omega)]
    · rw [if_neg hm, if_neg (by omega)]
theorem upto_self {α : Type} (j : Nat) (f g : Nat → α) : upto j f g j = g j := by unfold upto; rw [if_neg (by omega)]
theorem upto_last {α : Type} (j : Nat) (f g : Nat → α) : upto (j + 1) f g j = f j := by unfold upto; rw [if_pos (by omega)]
set_option maxRecDepth 100000 in
set_option maxHeartbeats 4000000 in
theorem rcrash_any (w : World) (yb ps pn pw : Nat) (S : DS) (a : Option Addr) (ks : List Bool) (c : Nat) (hk : BSrc w a ks) (hoff : 0 < ks.length → Off a (FootR yb ps pn pw)) (hw : WfS S) (h : Ref w yb ps pn pw S) :
    Calls Tryd.prog 28 #[.pointer (some ⟨yb, 0, none⟩), .slice a ks.length c] w fun e w' => e = .returned (.tuple #[]) ∧ Ref w' yb ps pn pw (crS S ks) ∧ Turn (FootR yb ps pn pw) w w' := by
  have hp1 := hw.p1
  have hp2 := hw.p2
  have hLc := crN_L hw.rd hw.sf ks
  obtain ⟨M, hM⟩ : ∃ M, M = 8 * S.pages := ⟨_, rfl⟩
  have hM1 : M ≤ 8192 := by omega
  have HX := Lib.hid (And.intro hw.rd (And.intro hw.sf (And.intro hLc (And.intro hM (And.intro h (And.intro hk hoff))))))
  have hrows : Rows3 w ps pn pw M (upto 0 (crN S ks) (sfS S)) (upto 0 (crN S ks) (rd S)) (upto 0 (fun _ => false) (wtS S)) := by
    rw [upto_zero, upto_zero, upto_zero, hM]; exact h.v.rows
  have hrows0 := Lib.hid hrows
  have q1 := h.c1
  have q2 := h.c2
  have q3 := h.c3
  rw [← hM] at q1 q2 q3
  have HQ := Lib.hid (And.intro q1 (And.intro q2 q3))
  have hwl0 : (wlk S 0).length = 0 := rfl
  have Hwl0 := Lib.hid hwl0
  clear hLc h hk hoff hw hrows hp1 hp2 q1 q2 q3 hM hwl0
  go_enter Tryd.func28, Tryd.ntmps28
  go_wp2
  go_loopw [4, 5] (fun r i wr => ∃ j : Nat, j ≤ M ∧ r = .int .i64 ((wlk S j).length : Nat) ∧ i = .int .i64 j ∧ Hid (Rows3 wr ps pn pw M (upto j (crN S ks) (sfS S)) (upto j (crN S ks) (rd S)) (upto j (fun _ => false) (wtS S))) ∧ Hid (Turn (FootV ps pn pw) w wr)) (fun _ i _ => M - (intOf i).toNat)
  case atStart => exact ⟨0, Nat.zero_le _, rfl, rfl, hrows0, Turn.refl _ _⟩
  case round =>
    clear hrows0
    obtain ⟨j, hj, rfl, rfl, hrow, ht⟩ := hrel
    have ho := HX.out.2.2.2.2.1.out
    have hns : ps ≠ pn := HX.out.2.2.2.2.1.v.sn
    have hnw := HX.out.2.2.2.2.1.v.nw
    have hsw := HX.out.2.2.2.2.1.v.sw
    have hyb : ¬ FootV ps pn pw yb := fun h => by rcases h with h | h | h; exact ho.1 h; exact ho.2.1 h; exact ho.2.2 h
    have hybl : yb < w.heap.size := block_lt_of_cell HQ.out.1
    have q2 : wr.cell? ⟨yb, 2, none⟩ = some (.slice (some ⟨pn, 0, none⟩) M M) := by rw [ht.out.cell (p := ⟨yb, 2, none⟩) hybl hyb]; exact HQ.out.2.1
    by_cases hlt : j < M
    · have hjI : (j : Int) < (M : Int) := by omega
      have q3 : wr.cell? ⟨yb, 3, none⟩ = some (.slice (some ⟨pw, 0, none⟩) M M) := by rw [ht.out.cell (p := ⟨yb, 3, none⟩) hybl hyb]; exact HQ.out.2.2
      have kw := hrow.out.waits.cell j hlt
      rw [upto_self] at kw
      have hrl := wlk_len S j
      have hsucc : ((wlk S (j + 1)).length : Nat) = if wtS S j = true then (wlk S j).length + 1 else (wlk S j).length := by
        cases hx : wtS S j with
        | true => rw [wlk_yes hx, List.length_append, if_pos rfl]; rfl
        | false => rw [wlk_no hx, if_neg (by simp)]
      have hcr : crN S ks j = if wtS S j = true ∧ kp ks (wlk S j).length = true then rd S j else sfS S j := rfl
      have HS := Lib.hid (And.intro hsucc hcr)
      generalize (wlk S j).length = R at *
      clear hsucc hcr
      by_cases hx : wtS S j = true
      · rw [hx] at kw
        by_cases hR : R < ks.length
        · obtain ⟨b, o, rfl, hcb⟩ := HX.out.2.2.2.2.2.1 (by omega)
          have hbF : ¬ FootR yb ps pn pw b := HX.out.2.2.2.2.2.2 (by omega) b o rfl
          have hc0 := hcb R hR
          have hcR : wr.cell? ⟨b, o + R, none⟩ = some (.bool (kp ks R)) := by
            rw [ht.out.cell (p := ⟨b, o + R, none⟩) (block_lt_of_cell hc0) (fun h => hbF (.inr h))]; exact hc0
          clear hcb hc0
          by_cases hkp : kp ks R = true
          · rw [hkp] at hcR
            have ecr : crN S ks j = rd S j := by rw [HS.out.2, if_pos ⟨hx, hkp⟩]
            have esu : ((wlk S (j + 1)).length : Nat) = R + 1 := by rw [HS.out.1, if_pos hx]
            have Hcr := Lib.hid (And.intro ecr esu)
            clear hkp hx ecr esu HS
            go_wp2
            have hrow6 := hrow
            have ht6 := ht
            have hcrj := Hcr
            clear hrow ht
            refine wp_region_gt (F := fun i => i = ps) [(0, true), (1, true), (2, true), (3, true), (4, true), (5, true), (6, true), (7, true), (8, true), (9, true), (10, true), (11, true), (12, true), (13, false)] (by kernel_rfl) (by kernel_rfl) (by kernel_rfl) (by kernel_rfl) (fun _ _ _ _ _ h => h) ?_
            have hbd6 : Below wr.heap.size wr wr.drew := Ext.drew wr
            have td6 : Turn (FootV ps pn pw) w wr.drew := ht6.out.trans (Turn.ofBelow hbd6)
            have q16 : ∀ w', Turn (fun i => i = ps) wr.drew w' → w'.cell? ⟨yb, 1, none⟩ = some (.slice (some ⟨ps, 0, none⟩) M M) := fun w' t => by
              rw [(td6.trans (t.mono (fun i hi _ => .inl hi))).cell (p := ⟨yb, 1, none⟩) hybl hyb]; exact HQ.out.1
            have q26 : ∀ w', Turn (fun i => i = ps) wr.drew w' → w'.cell? ⟨yb, 2, none⟩ = some (.slice (some ⟨pn, 0, none⟩) M M) := fun w' t => by
              rw [(td6.trans (t.mono (fun i hi _ => .inl hi))).cell (p := ⟨yb, 2, none⟩) hybl hyb]; exact HQ.out.2.1
            have hcs6 : ∀ w', Turn (fun i => i = ps) wr.drew w' → Cs w' pn (j * 64) (rd S j) := fun w' t => by
              have := flat_cs (upto_L HX.out.2.2.1 HX.out.1) (Row.turn (Row.ext hrow6.out.now hbd6) t (fun e => hns e.symm)) hlt
              rwa [upto_self] at this
            have hsf6 : Row wr.drew ps A64 (flatS (upto j (crN S ks) (sfS S)) M) := Row.ext hrow6.out.safe hbd6
            have hfl6 : (flatS (upto j (crN S ks) (sfS S)) M).length = M * 64 := flat_len (upto_L HX.out.2.2.1 HX.out.2.1) _
            have hput6 := flat_put (f := upto j (crN S ks) (sfS S)) (upto_L HX.out.2.2.1 HX.out.2.1) hlt (crN S ks j) (HX.out.2.2.1 j)
            rw [upto_at1, Hcr.out.1] at hput6
            have HR6 := Lib.hid (And.intro hcs6 (And.intro hsf6 (And.intro hfl6 (And.intro hput6 (And.intro (Row.ext hrow6.out.now hbd6) (And.intro (hrow6.out.waits.below hbd6) td6))))))
            clear hcs6 hsf6 hfl6 hput6
            clear hbd6 td6 hrow6 ht6
            generalize wr.drew = wr1 at *
            iterate 11 (refine wpGt_read (o := ⟨_, _, _, _, _, _⟩) (v := ?_) rfl (by rfl) ?_ ?_; rotate_left; (intro w' hw'; go_simp; with_reducible rfl); simp only [Act.put, List.setIfInBounds_toArray, List.set_cons_zero, List.set_cons_succ])
            refine wpGt_read (o := ⟨_, _, _, _, _, _⟩) (v := sec (rd S j)) rfl (by rfl) (fun w' hw' => rd_load_a64 (.tmp 42) rfl pn (j * 64) (rd S j) (by rfl) (HR6.out.1 w' hw') (HX.out.1 j)) ?_
            simp only [Act.put, List.setIfInBounds_toArray, List.set_cons_zero, List.set_cons_succ]
            (refine wpGt_read (o := ⟨_, _, _, _, _, _⟩) (v := ?_) rfl (by rfl) ?_ ?_; rotate_left; (intro w' hw'; go_simp; with_reducible rfl); simp only [Act.put, List.setIfInBounds_toArray, List.set_cons_zero, List.set_cons_succ])
            clear q16 q26
            refine wpGt_call (o := ⟨_, _, _, _, _, _⟩) rfl (by rfl) (fun K hK => ?_)
            refine wp_store_a64 (.tmp 44) (.tmp 43) rfl ps (j * 64) (rd S j) (flatS (upto j (crN S ks) (sfS S)) M) (by rfl) (by rfl) HR6.out.2.1 (HX.out.1 j) (by rw [HR6.out.2.2.1]; omega) ?_
            intro w6 hr62 ht62
            refine hK _ _ ht62 ?_
            clear hK K
            refine wpGt_done ?_
            rw [HR6.out.2.2.2.1] at hr62
            have hrowS : Hid (Rows3 w6 ps pn pw M (upto (j + 1) (crN S ks) (sfS S)) (upto j (crN S ks) (rd S)) (upto j (fun _ => false) (wtS S))) := ⟨hr62, Row.turn HR6.out.2.2.2.2.1 ht62 (fun e => hns e.symm), ht62.hg HR6.out.2.2.2.2.2.1 (fun e => hsw e.symm)⟩
            have htS : Hid (Turn (FootV ps pn pw) w w6) := HR6.out.2.2.2.2.2.2.trans (ht62.mono (fun i hi _ => .inl hi))
            have esu := Hcr.out.2
            have Hesu := Lib.hid esu
            clear hr62 ht62 HR6 Hcr hcrj hcR esu
            generalize hwx : w6 = wx at *
            clear hwx
            go_wp2
            have hrow8 := hrowS
            have ht8 := htS
            clear hrowS htS
            refine wp_region_gt (F := fun i => i = pn) [(0, true), (1, true), (2, true), (3, true), (4, true), (5, true), (6, true), (7, true), (8, true), (9, true), (10, true), (11, true), (12, true), (13, false)] (by kernel_rfl) (by kernel_rfl) (by kernel_rfl) (by kernel_rfl) (fun _ _ _ _ _ h => h) ?_
            have hbd8 : Below wx.heap.size wx wx.drew := Ext.drew wx
            have td8 : Turn (FootV ps pn pw) w wx.drew := ht8.out.trans (Turn.ofBelow hbd8)
            have q18 : ∀ w', Turn (fun i => i = pn) wx.drew w' → w'.cell? ⟨yb, 1, none⟩ = some (.slice (some ⟨ps, 0, none⟩) M M) := fun w' t => by
              rw [(td8.trans (t.mono (fun i hi _ => .inr (.inl hi)))).cell (p := ⟨yb, 1, none⟩) hybl hyb]; exact HQ.out.1
            have q28 : ∀ w', Turn (fun i => i = pn) wx.drew w' → w'.cell? ⟨yb, 2, none⟩ = some (.slice (some ⟨pn, 0, none⟩) M M) := fun w' t => by
              rw [(td8.trans (t.mono (fun i hi _ => .inr (.inl hi)))).cell (p := ⟨yb, 2, none⟩) hybl hyb]; exact HQ.out.2.1
            have hcs8 : ∀ w', Turn (fun i => i = pn) wx.drew w' → Cs w' ps (j * 64) (crN S ks j) := fun w' t => by
              have := flat_cs (upto_L HX.out.2.2.1 HX.out.2.1) (Row.turn (Row.ext hrow8.out.safe hbd8) t hns) hlt
              rwa [upto_last] at this
            have hsf8 : Row wx.drew pn A64 (flatS (upto j (crN S ks) (rd S)) M) := Row.ext hrow8.out.now hbd8
            have hfl8 : (flatS (upto j (crN S ks) (rd S)) M).length = M * 64 := flat_len (upto_L HX.out.2.2.1 HX.out.1) _
            have hput8 := flat_put (f := upto j (crN S ks) (rd S)) (upto_L HX.out.2.2.1 HX.out.1) hlt (crN S ks j) (HX.out.2.2.1 j)
            rw [upto_at1] at hput8
            have HR8 := Lib.hid (And.intro hcs8 (And.intro hsf8 (And.intro hfl8 (And.intro hput8 (And.intro (Row.ext hrow8.out.safe hbd8) (And.intro (hrow8.out.waits.below hbd8) td8))))))
            clear hcs8 hsf8 hfl8 hput8
            clear hbd8 td8 hrow8 ht8
            generalize wx.drew = wy at *
            iterate 11 (refine wpGt_read (o := ⟨_, _, _, _, _, _⟩) (v := ?_) rfl (by rfl) ?_ ?_; rotate_left; (intro w' hw'; go_simp; with_reducible rfl); simp only [Act.put, List.setIfInBounds_toArray, List.set_cons_zero, List.set_cons_succ])
            refine wpGt_read (o := ⟨_, _, _, _, _, _⟩) (v := sec (crN S ks j)) rfl (by rfl) (fun w' hw' => rd_load_a64 (.tmp 57) rfl ps (j * 64) (crN S ks j) (by rfl) (HR8.out.1 w' hw') (HX.out.2.2.1 j)) ?_
            simp only [Act.put, List.setIfInBounds_toArray, List.set_cons_zero, List.set_cons_succ]
            (refine wpGt_read (o := ⟨_, _, _, _, _, _⟩) (v := ?_) rfl (by rfl) ?_ ?_; rotate_left; (intro w' hw'; go_simp; with_reducible rfl); simp only [Act.put, List.setIfInBounds_toArray, List.set_cons_zero, List.set_cons_succ])
            clear q18 q28
            refine wpGt_call (o := ⟨_, _, _, _, _, _⟩) rfl (by rfl) (fun K hK => ?_)
            refine wp_store_a64 (.tmp 59) (.tmp 58) rfl pn (j * 64) (crN S ks j) (flatS (upto j (crN S ks) (rd S)) M) (by rfl) (by rfl) HR8.out.2.1 (HX.out.2.2.1 j) (by rw [HR8.out.2.2.1]; omega) ?_
            intro w8 hr82 ht82
            refine hK _ _ ht82 ?_
            clear hK K
            refine wpGt_done ?_
            rw [HR8.out.2.2.2.1] at hr82
            have t8 : Turn (FootV ps pn pw) w w8 := HR8.out.2.2.2.2.2.2.trans (ht82.mono (fun i hi _ => .inr (.inl hi)))
            have hw8 : BRow w8 pw (upto j (fun _ => false) (wtS S)) M := ht82.hg HR8.out.2.2.2.2.2.1 (fun e => hnw e.symm)
            have hs8 : Row w8 ps A64 (flatS (upto (j + 1) (crN S ks) (sfS S)) M) := Row.turn HR8.out.2.2.2.2.1 ht82 hns
            have q3 : w8.cell? ⟨yb, 3, none⟩ = some (.slice (some ⟨pw, 0, none⟩) M M) := by rw [t8.cell (p := ⟨yb, 3, none⟩) hybl hyb]; exact HQ.out.2.2
            have f3 := hw8.frozen j
            have k3 := hw8.cell j hlt
            have hset := hw8.set j hlt false
            have eb : bat (upto j (fun _ => false) (wtS S)) j false = upto (j + 1) (fun _ => false) (wtS S) := upto_bat j (fun _ => false) (wtS S)
            rw [eb] at hset
            have t9 := turn_set w8 pw j (.bool false)
            have hrow9 : Rows3 (w8.setCell ⟨pw, j, none⟩ (.bool false)) ps pn pw M (upto (j + 1) (crN S ks) (sfS S)) (upto (j + 1) (crN S ks) (rd S)) (upto (j + 1) (fun _ => false) (wtS S)) := ⟨Row.turn hs8 t9 hsw, Row.turn hr82 t9 hnw, hset⟩
            have t10 : Turn (FootV ps pn pw) w (w8.setCell ⟨pw, j, none⟩ (.bool false)) := t8.trans (t9.mono (fun i hi _ => .inr (.inr hi)))
            have H9 := Lib.hid (And.intro hrow9 t10)
            clear hrow9 t10 t9 eb hset hs8 hw8 t8 hr82 ht82 HR8
            go_wp2
            go_roundw
            case rel => exact ⟨j + 1, by omega, by rw [Hesu.out] <;> go_num, by go_num, H9.out.1, H9.out.2⟩
            case measure => simp [intOf]; omega
          · have hkf : kp ks R = false := by cases hq : kp ks R <;> simp_all
            rw [hkf] at hcR
            have ecr : crN S ks j = sfS S j := by rw [HS.out.2, if_neg (fun h => hkp h.2)]
            have esu : ((wlk S (j + 1)).length : Nat) = R + 1 := by rw [HS.out.1, if_pos hx]
            have hrowS : Hid (Rows3 wr ps pn pw M (upto (j + 1) (crN S ks) (sfS S)) (upto j (crN S ks) (rd S)) (upto j (fun _ => false) (wtS S))) := by rw [upto_same ecr]; exact hrow
            have htS : Hid (Turn (FootV ps pn pw) w wr) := ht
            have Hesu := Lib.hid esu
            clear hkp hkf hx ecr HS hrow esu
            go_wp2
            have hrow8 := hrowS
            have ht8 := htS
            clear hrowS htS
            refine wp_region_gt (F := fun i => i = pn) [(0, true), (1, true), (2, true), (3, true), (4, true), (5, true), (6, true), (7, true), (8, true), (9, true), (10, true), (11, true), (12, true), (13, false)] (by kernel_rfl) (by kernel_rfl) (by kernel_rfl) (by kernel_rfl) (fun _ _ _ _ _ h => h) ?_
            have hbd8 : Below wr.heap.size wr wr.drew := Ext.drew wr
            have td8 : Turn (FootV ps pn pw) w wr.drew := ht8.out.trans (Turn.ofBelow hbd8)
            have q18 : ∀ w', Turn (fun i => i = pn) wr.drew w' → w'.cell? ⟨yb, 1, none⟩ = some (.slice (some ⟨ps, 0, none⟩) M M) := fun w' t => by
              rw [(td8.trans (t.mono (fun i hi _ => .inr (.inl hi)))).cell (p := ⟨yb, 1, none⟩) hybl hyb]; exact HQ.out.1
            have q28 : ∀ w', Turn (fun i => i = pn) wr.drew w' → w'.cell? ⟨yb, 2, none⟩ = some (.slice (some ⟨pn, 0, none⟩) M M) := fun w' t => by
              rw [(td8.trans (t.mono (fun i hi _ => .inr (.inl hi)))).cell (p := ⟨yb, 2, none⟩) hybl hyb]; exact HQ.out.2.1
            have hcs8 : ∀ w', Turn (fun i => i = pn) wr.drew w' → Cs w' ps (j * 64) (crN S ks j) := fun w' t => by
              have := flat_cs (upto_L HX.out.2.2.1 HX.out.2.1) (Row.turn (Row.ext hrow8.out.safe hbd8) t hns) hlt
              rwa [upto_last] at this
            have hsf8 : Row wr.drew pn A64 (flatS (upto j (crN S ks) (rd S)) M) := Row.ext hrow8.out.now hbd8
            have hfl8 : (flatS (upto j (crN S ks) (rd S)) M).length = M * 64 := flat_len (upto_L HX.out.2.2.1 HX.out.1) _
            have hput8 := flat_put (f := upto j (crN S ks) (rd S)) (upto_L HX.out.2.2.1 HX.out.1) hlt (crN S ks j) (HX.out.2.2.1 j)
            rw [upto_at1] at hput8
            have HR8 := Lib.hid (And.intro hcs8 (And.intro hsf8 (And.intro hfl8 (And.intro hput8 (And.intro (Row.ext hrow8.out.safe hbd8) (And.intro (hrow8.out.waits.below hbd8) td8))))))
            clear hcs8 hsf8 hfl8 hput8
            clear hbd8 td8 hrow8 ht8
            generalize wr.drew = wy at *
            iterate 11 (refine wpGt_read (o := ⟨_, _, _, _, _, _⟩) (v := ?_) rfl (by rfl) ?_ ?_; rotate_left; (intro w' hw'; go_simp; with_reducible rfl); simp only [Act.put, List.setIfInBounds_toArray, List.set_cons_zero, List.set_cons_succ])
            refine wpGt_read (o := ⟨_, _, _, _, _, _⟩) (v := sec (crN S ks j)) rfl (by rfl) (fun w' hw' => rd_load_a64 (.tmp 57) rfl ps (j * 64) (crN S ks j) (by rfl) (HR8.out.1 w' hw') (HX.out.2.2.1 j)) ?_
            simp only [Act.put, List.setIfInBounds_toArray, List.set_cons_zero, List.set_cons_succ]
            (refine wpGt_read (o := ⟨_, _, _, _, _, _⟩) (v := ?_) rfl (by rfl) ?_ ?_; rotate_left; (intro w' hw'; go_simp; with_reducible rfl); simp only [Act.put, List.setIfInBounds_toArray, List.set_cons_zero, List.set_cons_succ])
            clear q18 q28
            refine wpGt_call (o := ⟨_, _, _, _, _, _⟩) rfl (by rfl) (fun K hK => ?_)
            refine wp_store_a64 (.tmp 59) (.tmp 58) rfl pn (j * 64) (crN S ks j) (flatS (upto j (crN S ks) (rd S)) M) (by rfl) (by rfl) HR8.out.2.1 (HX.out.2.2.1 j) (by rw [HR8.out.2.2.1]; omega) ?_
            intro w8 hr82 ht82
            refine hK _ _ ht82 ?_
            clear hK K
            refine wpGt_done ?_
            rw [HR8.out.2.2.2.1] at hr82
            have t8 : Turn (FootV ps pn pw) w w8 := HR8.out.2.2.2.2.2.2.trans (ht82.mono (fun i hi _ => .inr (.inl hi)))
            have hw8 : BRow w8 pw (upto j (fun _ => false) (wtS S)) M := ht82.hg HR8.out.2.2.2.2.2.1 (fun e => hnw e.symm)
            have hs8 : Row w8 ps A64 (flatS (upto (j + 1) (crN S ks) (sfS S)) M) := Row.turn HR8.out.2.2.2.2.1 ht82 hns
            have q3 : w8.cell? ⟨yb, 3, none⟩ = some (.slice (some ⟨pw, 0, none⟩) M M) := by rw [t8.cell (p := ⟨yb, 3, none⟩) hybl hyb]; exact HQ.out.2.2
            have f3 := hw8.frozen j
            have k3 := hw8.cell j hlt
            have hset := hw8.set j hlt false
            have eb : bat (upto j (fun _ => false) (wtS S)) j false = upto (j + 1) (fun _ => false) (wtS S) := upto_bat j (fun _ => false) (wtS S)
            rw [eb] at hset
            have t9 := turn_set w8 pw j (.bool false)
            have hrow9 : Rows3 (w8.setCell ⟨pw, j, none⟩ (.bool false)) ps pn pw M (upto (j + 1) (crN S ks) (sfS S)) (upto (j + 1) (crN S ks) (rd S)) (upto (j + 1) (fun _ => false) (wtS S)) := ⟨Row.turn hs8 t9 hsw, Row.turn hr82 t9 hnw, hset⟩
            have t10 : Turn (FootV ps pn pw) w (w8.setCell ⟨pw, j, none⟩ (.bool false)) := t8.trans (t9.mono (fun i hi _ => .inr (.inr hi)))
            have H9 := Lib.hid (And.intro hrow9 t10)
            clear hrow9 t10 t9 eb hset hs8 hw8 t8 hr82 ht82 HR8
            go_wp2
            go_roundw
            case rel => exact ⟨j + 1, by omega, by rw [Hesu.out] <;> go_num, by go_num, H9.out.1, H9.out.2⟩
            case measure => simp [intOf]; omega
        · have ecr : crN S ks j = sfS S j := by rw [HS.out.2, if_neg (fun h => by rw [kp_out hR] at h; cases h.2)]
          have esu : ((wlk S (j + 1)).length : Nat) = R + 1 := by rw [HS.out.1, if_pos hx]
          have hrowS : Hid (Rows3 wr ps pn pw M (upto (j + 1) (crN S ks) (sfS S)) (upto j (crN S ks) (rd S)) (upto j (fun _ => false) (wtS S))) := by rw [upto_same ecr]; exact hrow
          have htS : Hid (Turn (FootV ps pn pw) w wr) := ht
          have Hesu := Lib.hid esu
          clear hx ecr HS hrow esu
          go_wp2
          have hrow8 := hrowS
          have ht8 := htS
          clear hrowS htS
          refine wp_region_gt (F := fun i => i = pn) [(0, true), (1, true), (2, true), (3, true), (4, true), (5, true), (6, true), (7, true), (8, true), (9, true), (10, true), (11, true), (12, true), (13, false)] (by kernel_rfl) (by kernel_rfl) (by kernel_rfl) (by kernel_rfl) (fun _ _ _ _ _ h => h) ?_
          have hbd8 : Below wr.heap.size wr wr.drew := Ext.drew wr
          have td8 : Turn (FootV ps pn pw) w wr.drew := ht8.out.trans (Turn.ofBelow hbd8)
          have q18 : ∀ w', Turn (fun i => i = pn) wr.drew w' → w'.cell? ⟨yb, 1, none⟩ = some (.slice (some ⟨ps, 0, none⟩) M M) := fun w' t => by
            rw [(td8.trans (t.mono (fun i hi _ => .inr (.inl hi)))).cell (p := ⟨yb, 1, none⟩) hybl hyb]; exact HQ.out.1
          have q28 : ∀ w', Turn (fun i => i = pn) wr.drew w' → w'.cell? ⟨yb, 2, none⟩ = some (.slice (some ⟨pn, 0, none⟩) M M) := fun w' t => by
            rw [(td8.trans (t.mono (fun i hi _ => .inr (.inl hi)))).cell (p := ⟨yb, 2, none⟩) hybl hyb]; exact HQ.out.2.1
          have hcs8 : ∀ w', Turn (fun i => i = pn) wr.drew w' → Cs w' ps (j * 64) (crN S ks j) := fun w' t => by
            have := flat_cs (upto_L HX.out.2.2.1 HX.out.2.1) (Row.turn (Row.ext hrow8.out.safe hbd8) t hns) hlt
            rwa [upto_last] at this
          have hsf8 : Row wr.drew pn A64 (flatS (upto j (crN S ks) (rd S)) M) := Row.ext hrow8.out.now hbd8
          have hfl8 : (flatS (upto j (crN S ks) (rd S)) M).length = M * 64 := flat_len (upto_L HX.out.2.2.1 HX.out.1) _
          have hput8 := flat_put (f := upto j (crN S ks) (rd S)) (upto_L HX.out.2.2.1 HX.out.1) hlt (crN S ks j) (HX.out.2.2.1 j)
          rw [upto_at1] at hput8
          have HR8 := Lib.hid (And.intro hcs8 (And.intro hsf8 (And.intro hfl8 (And.intro hput8 (And.intro (Row.ext hrow8.out.safe hbd8) (And.intro (hrow8.out.waits.below hbd8) td8))))))
          clear hcs8 hsf8 hfl8 hput8
          clear hbd8 td8 hrow8 ht8
          generalize wr.drew = wy at *
          iterate 11 (refine wpGt_read (o := ⟨_, _, _, _, _, _⟩) (v := ?_) rfl (by rfl) ?_ ?_; rotate_left; (intro w' hw'; go_simp; with_reducible rfl); simp only [Act.put, List.setIfInBounds_toArray, List.set_cons_zero, List.set_cons_succ])
          refine wpGt_read (o := ⟨_, _, _, _, _, _⟩) (v := sec (crN S ks j)) rfl (by rfl) (fun w' hw' => rd_load_a64 (.tmp 57) rfl ps (j * 64) (crN S ks j) (by rfl) (HR8.out.1 w' hw') (HX.out.2.2.1 j)) ?_
          simp only [Act.put, List.setIfInBounds_toArray, List.set_cons_zero, List.set_cons_succ]
          (refine wpGt_read (o := ⟨_, _, _, _, _, _⟩) (v := ?_) rfl (by rfl) ?_ ?_; rotate_left; (intro w' hw'; go_simp; with_reducible rfl); simp only [Act.put, List.setIfInBounds_toArray, List.set_cons_zero, List.set_cons_succ])
          clear q18 q28
          refine wpGt_call (o := ⟨_, _, _, _, _, _⟩) rfl (by rfl) (fun K hK => ?_)
          refine wp_store_a64 (.tmp 59) (.tmp 58) rfl pn (j * 64) (crN S ks j) (flatS (upto j (crN S ks) (rd S)) M) (by rfl) (by rfl) HR8.out.2.1 (HX.out.2.2.1 j) (by rw [HR8.out.2.2.1]; omega) ?_
          intro w8 hr82 ht82
          refine hK _ _ ht82 ?_
          clear hK K
          refine wpGt_done ?_
          rw [HR8.out.2.2.2.1] at hr82
          have t8 : Turn (FootV ps pn pw) w w8 := HR8.out.2.2.2.2.2.2.trans (ht82.mono (fun i hi _ => .inr (.inl hi)))
          have hw8 : BRow w8 pw (upto j (fun _ => false) (wtS S)) M := ht82.hg HR8.out.2.2.2.2.2.1 (fun e => hnw e.symm)
          have hs8 : Row w8 ps A64 (flatS (upto (j + 1) (crN S ks) (sfS S)) M) := Row.turn HR8.out.2.2.2.2.1 ht82 hns
          have q3 : w8.cell? ⟨yb, 3, none⟩ = some (.slice (some ⟨pw, 0, none⟩) M M) := by rw [t8.cell (p := ⟨yb, 3, none⟩) hybl hyb]; exact HQ.out.2.2
          have f3 := hw8.frozen j
          have k3 := hw8.cell j hlt
          have hset := hw8.set j hlt false
          have eb : bat (upto j (fun _ => false) (wtS S)) j false = upto (j + 1) (fun _ => false) (wtS S) := upto_bat j (fun _ => false) (wtS S)
          rw [eb] at hset
          have t9 := turn_set w8 pw j (.bool false)
          have hrow9 : Rows3 (w8.setCell ⟨pw, j, none⟩ (.bool false)) ps pn pw M (upto (j + 1) (crN S ks) (sfS S)) (upto (j + 1) (crN S ks) (rd S)) (upto (j + 1) (fun _ => false) (wtS S)) := ⟨Row.turn hs8 t9 hsw, Row.turn hr82 t9 hnw, hset⟩
          have t10 : Turn (FootV ps pn pw) w (w8.setCell ⟨pw, j, none⟩ (.bool false)) := t8.trans (t9.mono (fun i hi _ => .inr (.inr hi)))
          have H9 := Lib.hid (And.intro hrow9 t10)
          clear hrow9 t10 t9 eb hset hs8 hw8 t8 hr82 ht82 HR8
          go_wp2
          go_roundw
          case rel => exact ⟨j + 1, by omega, by rw [Hesu.out] <;> go_num, by go_num, H9.out.1, H9.out.2⟩
          case measure => simp [intOf]; omega
      · have hxf : wtS S j = false := by cases hq : wtS S j <;> simp_all
        rw [hxf] at kw
        have ecr : crN S ks j = sfS S j := by rw [HS.out.2, if_neg (fun h => hx h.1)]
        have esu : ((wlk S (j + 1)).length : Nat) = R := by rw [HS.out.1, if_neg hx]
        have hrowS : Hid (Rows3 wr ps pn pw M (upto (j + 1) (crN S ks) (sfS S)) (upto j (crN S ks) (rd S)) (upto j (fun _ => false) (wtS S))) := by rw [upto_same ecr]; exact hrow
        have htS : Hid (Turn (FootV ps pn pw) w wr) := ht
        have Hesu := Lib.hid esu
        clear hx hxf ecr HS hrow esu
        go_wp2
        have hrow8 := hrowS
        have ht8 := htS
        clear hrowS htS
        refine wp_region_gt (F := fun i => i = pn) [(0, true), (1, true), (2, true), (3, true), (4, true), (5, true), (6, true), (7, true), (8, true), (9, true), (10, true), (11, true), (12, true), (13, false)] (by kernel_rfl) (by kernel_rfl) (by kernel_rfl) (by kernel_rfl) (fun _ _ _ _ _ h => h) ?_
        have hbd8 : Below wr.heap.size wr wr.drew := Ext.drew wr
        have td8 : Turn (FootV ps pn pw) w wr.drew := ht8.out.trans (Turn.ofBelow hbd8)
        have q18 : ∀ w', Turn (fun i => i = pn) wr.drew w' → w'.cell? ⟨yb, 1, none⟩ = some (.slice (some ⟨ps, 0, none⟩) M M) := fun w' t => by
          rw [(td8.trans (t.mono (fun i hi _ => .inr (.inl hi)))).cell (p := ⟨yb, 1, none⟩) hybl hyb]; exact HQ.out.1
        have q28 : ∀ w', Turn (fun i => i = pn) wr.drew w' → w'.cell? ⟨yb, 2, none⟩ = some (.slice (some ⟨pn, 0, none⟩) M M) := fun w' t => by
          rw [(td8.trans (t.mono (fun i hi _ => .inr (.inl hi)))).cell (p := ⟨yb, 2, none⟩) hybl hyb]; exact HQ.out.2.1
        have hcs8 : ∀ w', Turn (fun i => i = pn) wr.drew w' → Cs w' ps (j * 64) (crN S ks j) := fun w' t => by
          have := flat_cs (upto_L HX.out.2.2.1 HX.out.2.1) (Row.turn (Row.ext hrow8.out.safe hbd8) t hns) hlt
          rwa [upto_last] at this
        have hsf8 : Row wr.drew pn A64 (flatS (upto j (crN S ks) (rd S)) M) := Row.ext hrow8.out.now hbd8
        have hfl8 : (flatS (upto j (crN S ks) (rd S)) M).length = M * 64 := flat_len (upto_L HX.out.2.2.1 HX.out.1) _
        have hput8 := flat_put (f := upto j (crN S ks) (rd S)) (upto_L HX.out.2.2.1 HX.out.1) hlt (crN S ks j) (HX.out.2.2.1 j)
        rw [upto_at1] at hput8
        have HR8 := Lib.hid (And.intro hcs8 (And.intro hsf8 (And.intro hfl8 (And.intro hput8 (And.intro (Row.ext hrow8.out.safe hbd8) (And.intro (hrow8.out.waits.below hbd8) td8))))))
        clear hcs8 hsf8 hfl8 hput8
        clear hbd8 td8 hrow8 ht8
        generalize wr.drew = wy at *
        iterate 11 (refine wpGt_read (o := ⟨_, _, _, _, _, _⟩) (v := ?_) rfl (by rfl) ?_ ?_; rotate_left; (intro w' hw'; go_simp; with_reducible rfl); simp only [Act.put, List.setIfInBounds_toArray, List.set_cons_zero, List.set_cons_succ])
        refine wpGt_read (o := ⟨_, _, _, _, _, _⟩) (v := sec (crN S ks j)) rfl (by rfl) (fun w' hw' => rd_load_a64 (.tmp 57) rfl ps (j * 64) (crN S ks j) (by rfl) (HR8.out.1 w' hw') (HX.out.2.2.1 j)) ?_
        simp only [Act.put, List.setIfInBounds_toArray, List.set_cons_zero, List.set_cons_succ]
        (refine wpGt_read (o := ⟨_, _, _, _, _, _⟩) (v := ?_) rfl (by rfl) ?_ ?_; rotate_left; (intro w' hw'; go_simp; with_reducible rfl); simp only [Act.put, List.setIfInBounds_toArray, List.set_cons_zero, List.set_cons_succ])
        clear q18 q28
        refine wpGt_call (o := ⟨_, _, _, _, _, _⟩) rfl (by rfl) (fun K hK => ?_)
        refine wp_store_a64 (.tmp 59) (.tmp 58) rfl pn (j * 64) (crN S ks j) (flatS (upto j (crN S ks) (rd S)) M) (by rfl) (by rfl) HR8.out.2.1 (HX.out.2.2.1 j) (by rw [HR8.out.2.2.1]; omega) ?_
        intro w8 hr82 ht82
        refine hK _ _ ht82 ?_
        clear hK K
        refine wpGt_done ?_
        rw [HR8.out.2.2.2.1] at hr82
        have t8 : Turn (FootV ps pn pw) w w8 := HR8.out.2.2.2.2.2.2.trans (ht82.mono (fun i hi _ => .inr (.inl hi)))
        have hw8 : BRow w8 pw (upto j (fun _ => false) (wtS S)) M := ht82.hg HR8.out.2.2.2.2.2.1 (fun e => hnw e.symm)
        have hs8 : Row w8 ps A64 (flatS (upto (j + 1) (crN S ks) (sfS S)) M) := Row.turn HR8.out.2.2.2.2.1 ht82 hns
        have q3 : w8.cell? ⟨yb, 3, none⟩ = some (.slice (some ⟨pw, 0, none⟩) M M) := by rw [t8.cell (p := ⟨yb, 3, none⟩) hybl hyb]; exact HQ.out.2.2
        have f3 := hw8.frozen j
        have k3 := hw8.cell j hlt
        have hset := hw8.set j hlt false
        have eb : bat (upto j (fun _ => false) (wtS S)) j false = upto (j + 1) (fun _ => false) (wtS S) := upto_bat j (fun _ => false) (wtS S)
        rw [eb] at hset
        have t9 := turn_set w8 pw j (.bool false)
        have hrow9 : Rows3 (w8.setCell ⟨pw, j, none⟩ (.bool false)) ps pn pw M (upto (j + 1) (crN S ks) (sfS S)) (upto (j + 1) (crN S ks) (rd S)) (upto (j + 1) (fun _ => false) (wtS S)) := ⟨Row.turn hs8 t9 hsw, Row.turn hr82 t9 hnw, hset⟩
        have t10 : Turn (FootV ps pn pw) w (w8.setCell ⟨pw, j, none⟩ (.bool false)) := t8.trans (t9.mono (fun i hi _ => .inr (.inr hi)))
        have H9 := Lib.hid (And.intro hrow9 t10)
        clear hrow9 t10 t9 eb hset hs8 hw8 t8 hr82 ht82 HR8
        go_wp2
        go_roundw
        case rel => exact ⟨j + 1, by omega, by rw [Hesu.out] <;> go_num, by go_num, H9.out.1, H9.out.2⟩
        case measure => simp [intOf]; omega
    · obtain rfl : j = M := by omega
      have hrw : wr.heap[yb]? = some (.cells (rcs ps pn pw S) RT (0, 0)) := ht.out.hg HX.out.2.2.2.2.1.row hyb
      have f4 := frozen_of_row wr yb 4 _ _ hrw
      have f5 := frozen_of_row wr yb 5 _ _ hrw
      have k4 := cell_of_row wr yb 4 _ _ _ hrw
      have k5 := cell_of_row wr yb 5 _ _ _ hrw
      have t9 : Turn (fun i => i = yb) wr ((wr.setCell ⟨yb, 4, none⟩ (.int .i64 (-1))).setCell ⟨yb, 5, none⟩ (.bool false)) := (turn_set wr yb 4 _).trans (turn_set _ yb 5 _)
      have hfin : Ref ((wr.setCell ⟨yb, 4, none⟩ (.int .i64 (-1))).setCell ⟨yb, 5, none⟩ (.bool false)) yb ps pn pw (crS S ks) := by
        have hv : RefV wr ps pn pw (crS S ks) := by
          refine hrow.out.ref hns HX.out.2.2.2.1.symm (fun m hm => ?_) (fun m hm => ?_) (fun m hm => ?_)
          · rw [sf_crash S ks m (by rw [← HX.out.2.2.2.1]; exact hm)]; unfold upto; rw [if_pos hm]
          · rw [rd_crash S ks m (by rw [← HX.out.2.2.2.1]; exact hm)]; unfold upto; rw [if_pos hm]
          · rw [wt_crash]; unfold upto; rw [if_pos hm]
        refine ⟨?_, hv.turn t9 (fun e => ho.1 e.symm) (fun e => ho.2.1 e.symm) (fun e => ho.2.2 e.symm)⟩
        rw [set2_same wr yb 4 5 _ _ _ _ hrw]
        simp [rcs, crS, lfS]
      have ht9 : Turn (FootR yb ps pn pw) w ((wr.setCell ⟨yb, 4, none⟩ (.int .i64 (-1))).setCell ⟨yb, 5, none⟩ (.bool false)) := (ht.out.mono (fun i hi _ => .inr hi)).trans (t9.mono (fun i hi _ => .inl hi))
      have Hf := Lib.hid (And.intro hfin ht9)
      clear hfin ht9 hrw hrow ht t9
      go_wp2
      go_end0
      have hx := Hf.out
      exact ⟨rfl, hx.1, hx.2⟩
end Go.Proofs.YtbkjaifpgknadaaDoor
