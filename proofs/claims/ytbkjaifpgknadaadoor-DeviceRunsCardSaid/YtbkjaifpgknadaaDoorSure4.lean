/-
  The laws' own sector, and what must come whatever the input is.
-/
import Derived.Test.YtbkjaifpgknadaaDoorDev9
import Derived.Test.YtbkjaifpgknadaaDoorDev6
namespace Go.Proofs.YtbkjaifpgknadaaDoor
open Go Go.RowKit Go.Maps

/-- A byte, and noughts. -/
def secOf (c : Nat) : List Nat := zeros.set 5 c
theorem secOf_len (c : Nat) : (secOf c).length = 64 := by unfold secOf; rw [List.length_set, zeros_len]
theorem secOf_b8 (c : Nat) (h : c < 256) : B8 (secOf c) := by
  intro x hx
  rcases List.mem_or_eq_of_mem_set hx with h1 | h1
  · have := List.eq_of_mem_replicate h1; omega
  · omega
theorem secOf_zero : secOf 0 = zeros := by decide
/-- A new row of bytes. -/
def NewRow (w : World) (l : List Nat) (e : Ending) (w' : World) : Prop := ∃ g, w.heap.size ≤ g ∧ e = .returned (.slice (some ⟨g, 0, none⟩) l.length l.length) ∧ Row w' g U8 l ∧ Below w.heap.size w w'
theorem rep_cell {w : World} {g : Nat} (h : Row w g U8 (List.replicate 64 0)) : w.cell? ⟨g, 5, none⟩ = some (.int .u8 0) := h.cell 5 (by simp)
set_option maxRecDepth 100000 in
theorem sector_any (c : Nat) (w : World) : Calls Tryd.prog 31 #[.int .u8 (c : Int)] w (NewRow w (secOf c)) := by
  go_enter Tryd.func31, Tryd.ntmps31
  go_wp2_with (refine wpList_make_bytes rfl (.const (.int .i64 64)) (.const (.int .i64 64)) BT rfl U8 Tryd.underlying26 (by kernel_rfl) .i64 .i64 64 64 64 (by rfl) (by rfl) rfl rfl (by omega) ?_; intro w1 hr1 hb1; have k1 := rep_cell hr1.out; have f1 := hr1.out.frozen 5)
  have hset := hr1.out.set 5 c
  have hfin : Row (w1.setCell ⟨w.heap.size, 5, none⟩ (.int .u8 (c : Int))) w.heap.size U8 (secOf c) := by unfold secOf zeros; exact hset
  have hb : Below w.heap.size w (w1.setCell ⟨w.heap.size, 5, none⟩ (.int .u8 (c : Int))) := hb1.setCell (Nat.le_refl _) _
  go_ret
  exact ⟨w.heap.size, Nat.le_refl _, by rw [secOf_len]; rfl, hfin, hb⟩
theorem Row.src {w : World} {g E : Nat} {l : List Nat} (h : Row w g E l) : Src w (some ⟨g, 0, none⟩) l := fun _ => ⟨g, 0, rfl, fun i hi => by rw [Nat.zero_add]; exact h.cell i hi⟩
theorem Row.turn {F : Nat → Prop} {w w' : World} {g E : Nat} {l : List Nat} (h : Row w g E l) (t : Turn F w w') (hF : ¬ F g) : Row w' g E l := t.hg h hF
theorem crF_none (S : DS) : ∀ n, crF S [] n = S.safe
  | 0 => rfl
  | n + 1 => by
    have : kp [] n = false := by unfold kp; simp
    rw [crF, this, if_neg (by simp), crF_none S n]
theorem bsrc_nil (w : World) (a : Option Addr) : BSrc w a [] := fun h => by cases h
theorem rd_upd (S : DS) (n : Nat) (l : List Nat) : rd { S with waits := upd S.waits n (some l) } n = l := by simp [rd, upd]
/-- What the small play of 'sure' goes through. -/
def s1 : DS := { new0 2 with waits := upd (new0 2).waits 9 (some (secOf 7)) }
def s2 : DS := { s1 with armed := true, left := 0 }
def s3 : DS := { s2 with down := true }
theorem wr_s1 : wrS (new0 2) 9 (secOf 7) = (0, s1) := by
  unfold wrS
  rw [if_pos (by rfl), if_pos (secOf_len 7), if_pos (by rfl)]
  rfl
theorem rd_s1 : rd s1 9 = secOf 7 := rd_upd (new0 2) 9 (secOf 7)
theorem pg_s1 : (pgL s1 1 8).getD 69 0 = 7 := by decide +kernel
theorem pg_s1_len : (pgL s1 1 8).length = 512 := by decide +kernel
theorem sy_s2 : syS s2 = (9, s3) := by rfl
theorem cr_s3 : rd (crS s3 []) 9 = zeros := by
  have : (crS s3 []).safe = (new0 2).safe := crF_none s3 _
  unfold rd
  rw [this]
  rfl
set_option maxRecDepth 100000 in
set_option maxHeartbeats 2000000 in
theorem sure_any (w : World) (hg : Hg w) : Calls Tryd.prog 15 #[] w fun e w' => e = .returned (.bool true) ∧ Below w.heap.size w w' := by
  have HG := Lib.hid hg
  clear hg
  go_enter Tryd.func15, Tryd.ntmps15
  go_wp2_with fail
  refine (new_ok w 2 (by omega) (by omega)).mono ?_
  rintro e w1 ⟨bd, bs, bw, hbd, hbs, hbw, rfl, hD1, hb1⟩
  have hfw : ∀ i, Foot bd bs bw i → w.heap.size ≤ i := by rintro i (rfl | rfl | rfl) <;> assumption
  have Hfw := Lib.hid hfw
  have hf1 := hD1.foot_lt
  have Hf1 := Lib.hid hf1
  have H1 := Lib.hid (And.intro hD1 hb1)
  clear hbd hbs hbw hfw hf1 hD1 hb1
  go_wp2_with fail
  refine (sector_any 7 w1).mono ?_
  rintro e w2 ⟨g, hg2, rfl, hr2, hb2⟩
  have hw := write_any w2 bd bs bw (new0 2) 9 (some ⟨g, 0, none⟩) (secOf 7) (secOf 7).length hr2.src (secOf_b8 7 (by omega)) (H1.out.1.below hb2)
  rw [wr_s1, errV_zero] at hw
  have Hb2 := Lib.hid (H1.out.2.trans (hb2.mono H1.out.2.size))
  have Hs2 := Lib.hid hb2.size
  have Hw := Lib.hid hw
  clear hr2 hb2 hg2 H1 hw
  generalize (secOf 7).length = L7 at *
  go_wp2_with fail
  refine Hw.out.mono ?_
  rintro e w3 ⟨rfl, hD3, hT3⟩
  have hft : ∀ i, Foot bd bs bw i → w.heap.size ≤ i := Hfw.out
  have hb3 : Below w.heap.size w w3 := Hb2.out.trans (hT3.below Hb2.out.size hft)
  have hr := read_ok w3 bd bs bw s1 9 (by rfl) hD3
  rw [show ((9 : Nat) : Int) = 9 from rfl, rd_s1] at hr
  have hf3 := hD3.foot_lt
  have H3 := Lib.hid (And.intro hD3 (And.intro hb3 hf3))
  have Hr := Lib.hid hr
  clear hD3 hT3 hb3 hr hf3 Hb2 Hs2 Hw hft Hf1
  go_wp2_with fail
  refine Hr.out.mono ?_
  rintro e w4 ⟨g1, hg1, rfl, hr1, hb4⟩
  have hD4 := H3.out.1.below hb4
  have hp := readPage_ok w4 bd bs bw s1 1 (by rfl) hD4
  rw [show ((1 : Nat) : Int) = 1 from rfl] at hp
  have HP := Lib.hid hp
  have H4 := Lib.hid (And.intro hD4 (And.intro (H3.out.2.1.trans (hb4.mono H3.out.2.1.size)) (And.intro hr1 (And.intro hD4.foot_lt (And.intro hg1 H3.out.2.2)))))
  clear hD4 hp hr1 hb4 hg1 Hr H3
  go_wp2_with fail
  refine HP.out.mono ?_
  rintro e w5 ⟨g2, hg2, rfl, hr2, hb5⟩
  have hD5 := H4.out.1.below hb5
  have ha := arm_any w5 bd bs bw s1 0 (by omega) (by omega) hD5
  have Ha := Lib.hid ha
  have H5 := Lib.hid (And.intro (H4.out.2.1.trans (hb5.mono H4.out.2.1.size)) (And.intro (Row.ext H4.out.2.2.1 hb5) (And.intro hr2 (And.intro (fun i hi => (fun e => by have := H4.out.2.2.2.2.2 i hi; have := H4.out.2.2.2.2.1; omega : i ≠ g1)) (fun i hi => (fun e => by have := H4.out.2.2.2.1 i hi; omega : i ≠ g2) : ∀ i, Foot bd bs bw i → i ≠ g2)))))
  clear hD5 ha hr2 hb5 hg2 HP H4
  rw [pg_s1_len]
  go_wp2_with fail
  refine Ha.out.mono ?_
  rintro e w6 ⟨rfl, hD6, hT6⟩
  have hD6' : Dev w6 bd bs bw s2 := hD6
  have hs := sync_any w6 bd bs bw s2 hD6'
  rw [sy_s2, errV_ne (f := (9, s3).1) (by show (9 : Int) ≠ 0; decide)] at hs
  have Hs := Lib.hid hs
  clear hD6 hD6' hs Ha
  go_wp2_with fail
  refine Hs.out.mono ?_
  rintro e w7 ⟨rfl, hD7, hT7⟩
  have hd := down_any w7 bd bs bw s3 hD7
  rw [show s3.down = true from rfl] at hd
  have hc := crash_any w7 bd bs bw s3 none [] 0 (bsrc_nil _ _) hD7
  have Hd := Lib.hid hd
  have Hc := Lib.hid hc
  have ht7 := Lib.hid (hT6.trans hT7)
  clear hD7 hd hc hT6 hT7 Hs
  go_wp2_with fail
  refine Hd.out.mono ?_; rintro e w' ⟨rfl, rfl⟩
  go_wp2_with fail
  refine Hc.out.mono ?_
  rintro e w8 ⟨rfl, hD8, hT8⟩
  have hr := read_ok w8 bd bs bw (crS s3 []) 9 (by rfl) hD8
  rw [show ((9 : Nat) : Int) = 9 from rfl, cr_s3] at hr
  have Hr := Lib.hid hr
  have ht8 := Lib.hid (ht7.out.trans hT8)
  clear hD8 hr hT8 Hc ht7 Hd
  go_wp2_with fail
  refine Hr.out.mono ?_
  rintro e w9 ⟨g3, hg3, rfl, hr3, hb9⟩
  have ht9 : Turn (Foot bd bs bw) w5 w9 := ht8.out.trans (Turn.ofBelow hb9)
  have hb9' : Below w.heap.size w w9 := H5.out.1.trans (ht9.below H5.out.1.size Hfw.out)
  have hq1 := Row.turn H5.out.2.1 ht9 (fun h => H5.out.2.2.2.1 _ h rfl)
  have hq2 := Row.turn H5.out.2.2.1 ht9 (fun h => H5.out.2.2.2.2 _ h rfl)
  have k1 : w9.cell? ⟨g1, 5, none⟩ = some (.int .u8 7) := hq1.cell 5 (by rw [secOf_len]; omega)
  have k2 : w9.cell? ⟨g2, 69, none⟩ = some (.int .u8 7) := by have := hq2.cell 69 (by rw [pg_s1_len]; omega); rwa [pg_s1] at this
  have Hr3 := Lib.hid hr3
  have Hb9 := Lib.hid hb9'
  have hn := num_err 9 w9 (HG.out.below hb9')
  have Hn := Lib.hid hn
  clear ht9 hb9' hq1 hq2 hr3 hb9 hn hg3 H5 ht8 Hr
  go_wp2_with fail
  refine Hn.out.mono ?_
  rintro e w10 ⟨rfl, hb10⟩
  have k3 : w10.cell? ⟨g3, 5, none⟩ = some (.int .u8 0) := (Row.ext Hr3.out hb10).cell 5 (by rw [zeros_len]; omega)
  have Hb10 := Lib.hid (Hb9.out.trans (hb10.mono Hb9.out.size))
  clear hb10 k1 k2
  go_wp2_with fail
  go_ret
  exact ⟨rfl, Hb10.out⟩
end Go.Proofs.YtbkjaifpgknadaaDoor
