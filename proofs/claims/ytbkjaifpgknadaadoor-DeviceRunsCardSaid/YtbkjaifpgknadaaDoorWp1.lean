/-
  WritePage: what it does; the program's.
-/
import Derived.Test.YtbkjaifpgknadaaDoorRefD7
namespace Go.Proofs.YtbkjaifpgknadaaDoor
open Go Go.RowKit Go.Maps

/-- One of the eight parts of a page. -/
def part (l : List Nat) (k : Nat) : List Nat := (l.drop (64 * k)).take 64
theorem part_len {l : List Nat} (hl : l.length = 512) {k : Nat} (hk : k < 8) : (part l k).length = 64 := by
  unfold part; rw [List.length_take, List.length_drop]; omega
theorem part_b8 {l : List Nat} (h : B8 l) (k : Nat) : B8 (part l k) := fun x hx => h x (List.mem_of_mem_drop (List.mem_of_mem_take hx))
theorem part_cs {w : World} {b o : Nat} {l : List Nat} (hl : l.length = 512) {k : Nat} (hk : k < 8) (h : Cs w b o l) : Cs w b (o + 64 * k) (part l k) := by
  intro i hi
  rw [part_len hl hk] at hi
  have := h (64 * k + i) (by omega)
  rw [Nat.add_assoc, this]
  congr 3
  unfold part
  rw [List.getD_eq_getElem?_getD, List.getD_eq_getElem?_getD, List.getElem?_take_of_lt hi, List.getElem?_drop]
/-- The first k parts written: the error's number, and what the device is then. -/
def wpK (S : DS) (n : Nat) (l : List Nat) : Nat → Int × DS
  | 0 => (0, S)
  | k + 1 => if (wpK S n l k).1 = 0 then (if part l k = rd S (8 * n + k) then wpK S n l k else wrS (wpK S n l k).2 ((8 * n + k : Nat) : Int) (part l k)) else wpK S n l k
def wpS (S : DS) (n : Int) (l : List Nat) : Int × DS :=
  if amongE S n (S.pages : Nat) = 0 then (if l.length = 512 then wpK S n.toNat l 8 else (1, S)) else (amongE S n (S.pages : Nat), S)
theorem wpK_same {S : DS} {n k : Nat} {l : List Nat} (h0 : (wpK S n l k).1 = 0) (he : part l k = rd S (8 * n + k)) : wpK S n l (k + 1) = wpK S n l k := by rw [wpK, if_pos h0, if_pos he]
theorem wpK_wr {S : DS} {n k : Nat} {l : List Nat} (h0 : (wpK S n l k).1 = 0) (he : part l k ≠ rd S (8 * n + k)) : wpK S n l (k + 1) = wrS (wpK S n l k).2 ((8 * n + k : Nat) : Int) (part l k) := by rw [wpK, if_pos h0, if_neg he]
theorem wpK_stuck {S : DS} {n k : Nat} {l : List Nat} (h : (wpK S n l k).1 ≠ 0) : ∀ d, wpK S n l (k + d) = wpK S n l k
  | 0 => rfl
  | d + 1 => by rw [← Nat.add_assoc, wpK, wpK_stuck h d, if_neg h]
theorem rd_step (S : DS) : rd (stepS S).2 = rd S := by
  unfold stepS; split
  · rfl
  · split <;> rfl
theorem rd_wr (S : DS) (j m : Nat) (l : List Nat) (h : m ≠ j) : rd (wrS S (j : Int) l).2 m = rd S m := by
  unfold wrS
  split
  · split
    · split
      · simp only
        rw [rd_write, rd_step, Int.toNat_natCast]; unfold at1; rw [if_neg h]
      · rw [rd_step]
    · rfl
  · rfl
theorem wr_pages (S : DS) (n : Int) (l : List Nat) : (wrS S n l).2.pages = S.pages := by
  unfold wrS
  split
  · split
    · split
      · exact step_pages S
      · exact step_pages S
    · rfl
  · rfl
theorem wpK_pages (S : DS) (n : Nat) (l : List Nat) : ∀ k, (wpK S n l k).2.pages = S.pages
  | 0 => rfl
  | k + 1 => by
    rw [wpK]; split
    · split
      · exact wpK_pages S n l k
      · rw [wr_pages]; exact wpK_pages S n l k
    · exact wpK_pages S n l k
theorem wpK_rd (S : DS) (n : Nat) (l : List Nat) : ∀ k m, 8 * n + k ≤ m → rd (wpK S n l k).2 m = rd S m
  | 0, _, _ => rfl
  | k + 1, m, h => by
    have ih := wpK_rd S n l k m (by omega)
    rw [wpK]; split
    · split
      · exact ih
      · rw [rd_wr _ _ _ _ (by omega)]; exact ih
    · exact ih
theorem wf_same {S T : DS} (h : WfS S) (e0 : T.pages = S.pages) (e1 : T.safe = S.safe) (e2 : T.waits = S.waits) (h1 : -9223372036854775808 ≤ T.left) (h2 : T.left ≤ 9223372036854775807) (h3 : T.armed = true → 0 ≤ T.left) : WfS T := by
  have r1 : rd T = rd S := by unfold rd; rw [e1, e2]
  have r2 : sfS T = sfS S := by unfold sfS; rw [e1]
  exact ⟨by rw [e0]; exact h.p1, by rw [e0]; exact h.p2, by rw [r1]; exact h.rd, by rw [r2]; exact h.sf, by rw [r1]; exact h.rd8, by rw [e0, e2]; exact h.wt, h1, h2, h3⟩
theorem wf_step {S : DS} (h : WfS S) : WfS (stepS S).2 := by
  have a1 := h.l1
  have a2 := h.l2
  have a3 := h.arm
  unfold stepS
  split
  · exact h
  · split
    · exact wf_same h rfl rfl rfl a1 a2 a3
    · rename_i n1 n2
      exact wf_same h rfl rfl rfl (by simp only; have := a3 (by cases hq : S.armed <;> simp_all); omega) (by simp only; omega) (by simp only; intro ha; have := a3 ha; omega)
theorem wf_wr {S : DS} (h : WfS S) (n : Nat) (l : List Nat) (h8 : B8 l) : WfS (wrS S (n : Int) l).2 := by
  unfold wrS
  split
  · rename_i ha
    split
    · rename_i hl
      have hn : n < 8 * S.pages := by
        rcases among_ne S n ((8 * S.pages : Nat) : Int) with ⟨_, _, _, h4⟩ | he | he
        · omega
        · rw [he] at ha; cases ha
        · rw [he] at ha; cases ha
      have hs := wf_step h
      have hp := step_pages S
      split
      · simp only [Int.toNat_natCast]
        refine ⟨hs.p1, hs.p2, by rw [rd_write]; exact at1_len hs.rd hl, hs.sf, fun m => ?_, fun m x hx => ?_, hs.l1, hs.l2, hs.arm⟩
        · rw [rd_write]; unfold at1; split
          · exact h8
          · exact hs.rd8 m
        · unfold upd at hx
          simp only at hx ⊢
          rw [hp]
          by_cases e : m = n
          · rw [e]; exact hn
          · rw [if_neg e] at hx; have := hs.wt m x hx; rwa [hp] at this
      · exact hs
    · exact h
  · exact h
theorem wf_wpK {S : DS} (h : WfS S) (n : Nat) (l : List Nat) (h8 : B8 l) : ∀ k, WfS (wpK S n l k).2
  | 0 => h
  | k + 1 => by
    have ih := wf_wpK h n l h8 k
    rw [wpK]; split
    · split
      · exact ih
      · exact wf_wr ih _ _ (part_b8 h8 k)
    · exact ih
set_option maxRecDepth 100000 in
set_option maxHeartbeats 2000000 in
theorem writePage_any (w : World) (bd bs bw : Nat) (S : DS) (n : Int) (a : Option Addr) (l : List Nat) (c : Nat) (hs : Src w a l) (h8 : B8 l) (hc : l.length ≤ c) (h : Dev w bd bs bw S) :
    Calls Tryd.prog 23 #[.pointer (some ⟨bd, 0, none⟩), .int .i64 n, .slice a l.length c] w fun e w' => e = .returned (errV (wpS S n l).1) ∧ Dev w' bd bs bw (wpS S n l).2 ∧ Turn (Foot bd bs bw) w w' := by
  have hp1 := h.p1
  have hp2 := h.p2
  have hpg := pages_any w bd bs bw S h
  have ham := among_any w bd bs bw S n (S.pages : Int) h
  have H := Lib.hid (And.intro h hs)
  rcases among_ne S n (S.pages : Int) with ⟨he, hdn, hn0, hnM⟩ | he
  · obtain ⟨N, rfl⟩ := Int.eq_ofNat_of_zero_le hn0
    have hNM : N < S.pages := by omega
    rw [he, errV_zero] at ham
    have HP := Lib.hid (And.intro hpg ham)
    by_cases hl : l.length = 512
    · have ew : wpS S (N : Int) l = wpK S N l 8 := by unfold wpS; rw [if_pos he, if_pos hl]; rfl
      rw [ew]
      obtain ⟨b, o, rfl, hcs⟩ := hs (by omega)
      have hbF := cs_foot h hcs (by omega)
      have hst0 : Hid (Dev w bd bs bw (wpK S N l 0).2) := h
      have hk0 : Hid ((wpK S N l 0).1 = 0) := rfl
      have hc' : 512 ≤ c := by omega
      have HX := Lib.hid (And.intro hl (And.intro hcs (And.intro hbF h8)))
      rw [hl]
      have hN1 : N ≤ 1023 := by omega
      clear ew he hdn hn0 hnM hpg ham hl hcs hbF h hs hc h8
      go_enter Tryd.func23, Tryd.ntmps23
      go_wp2_with fail
      refine HP.out.1.mono ?_; rintro e w' ⟨rfl, rfl⟩
      go_wp2_with fail
      refine HP.out.2.mono ?_; rintro e w' ⟨rfl, rfl⟩
      go_wp2_with fail
      go_loopw [23] (fun i wr => ∃ k : Nat, k ≤ 8 ∧ i = .int .i64 k ∧ Hid ((wpK S N l k).1 = 0) ∧ Hid (Dev wr bd bs bw (wpK S N l k).2) ∧ Hid (Turn (Foot bd bs bw) w wr)) (fun i _ => 8 - (intOf i).toNat)
      case atStart => exact ⟨0, Nat.zero_le _, rfl, hk0, hst0, Turn.refl _ _⟩
      case round =>
        clear hst0 hk0
        obtain ⟨k, hk, rfl, hz, hD, hT⟩ := hrel
        by_cases hlt : k < 8
        · obtain ⟨q, hq⟩ : ∃ q, q = 64 * k := ⟨_, rfl⟩
          have hq1 : q ≤ 448 := by omega
          have hqc : (q : Int) ≤ (c : Int) := by omega
          have hqn : ¬ c = q := by omega
          have hq5 : ¬ 512 = q := by omega
          have hq64 : (64 : Int) ≤ (c : Int) - (q : Int) := by omega
          have hq65 : 64 ≤ c - q := by omega
          have e1 : IntKind.i64.wrap ((k : Int) * 64) = (q : Int) := by rw [IntWalk.i64_in _ (by omega)]; omega
          obtain ⟨m, hm⟩ : ∃ m, m = 8 * N + k := ⟨_, rfl⟩
          have e2 : (N : Int) * 8 + (k : Int) = (m : Int) := by omega
          have hmM : m < 8 * S.pages := by omega
          have hpl := part_len HX.out.1 hlt
          have hcs := (part_cs HX.out.1 hlt HX.out.2.1)
          rw [← hq] at hcs
          have hp8 := part_b8 HX.out.2.2.2 k
          have hrd := wpK_rd S N l k m (by omega)
          have hat := fun (wx : World) (hx : Dev wx bd bs bw (wpK S N l k).2) => at_any wx bd bs bw (wpK S N l k).2 m (by rw [wpK_pages]; exact hmM) hx
          have hrl := rd_len hD.out m
          have hr8 := rd_b8 hD.out m
          rw [hrd] at hrl hr8
          have h2 := plc_two N k hlt
          rw [← hm] at h2
          have hsm : part l k = rd S m → wpK S N l (k + 1) = wpK S N l k := fun e => wpK_same hz.out (by rw [← hm]; exact e)
          have hwr : part l k ≠ rd S m → wpK S N l (k + 1) = wrS (wpK S N l k).2 (m : Int) (part l k) := fun e => by
            have := wpK_wr hz.out (l := l) (k := k) (n := N) (S := S) (by rw [← hm]; exact e)
            rw [← hm] at this; exact this
          have HK := Lib.hid (And.intro hpl (And.intro hcs (And.intro hp8 (And.intro hrl (And.intro hr8 (And.intro hsm hwr))))))
          have Hat := Lib.hid (And.intro hat (And.intro hrd h2))
          clear hpl hcs hp8 hrl hr8 hsm hwr hat hrd h2 hq hm
          go_wp2_with fail
          refine wp_region_gt (F := fun _ => False) [(0, true), (1, true), (2, true), (3, true), (4, true), (5, true), (6, true), (7, false), (8, true)] (by kernel_rfl) (by kernel_rfl) (by kernel_rfl) (by kernel_rfl) (fun _ _ _ _ _ h => h) ?_
          have hbd : Below wr.heap.size wr wr.drew := Ext.drew wr
          have hDd := hD.out.below hbd
          have hTd : Turn (Foot bd bs bw) w wr.drew := hT.out.trans (Turn.ofBelow hbd)
          have hcd : Cs wr.drew b (o + q) (part l k) := HK.out.2.1.turn hTd HX.out.2.2.1
          have Hd := Lib.hid (And.intro hDd (And.intro hTd hcd))
          clear hbd hDd hTd hcd hD hT
          generalize wr.drew = w3 at *
          have He2 := Lib.hid e2
          clear e2
          (refine wpGt_read (o := ⟨_, _, _, _, _, _⟩) (v := ?_) rfl (by rfl) ?_ ?_; rotate_left; (intro w' hw'; go_simp; with_reducible rfl); simp only [Act.put, List.setIfInBounds_toArray, List.set_cons_zero, List.set_cons_succ])
          refine wpGt_read (o := ⟨_, _, _, _, _, _⟩) (v := .pointer (some ⟨b, o + q, none⟩)) rfl (by rfl) (fun w' hw' => rd_s2ap (.tmp 31) rfl _ 64 (c - q) (by rfl) (Nat.le_refl _)) ?_
          simp only [Act.put, List.setIfInBounds_toArray, List.set_cons_zero, List.set_cons_succ]
          refine wpGt_read (o := ⟨_, _, _, _, _, _⟩) (v := sec (part l k)) rfl (by rfl) (fun w' hw' => rd_load_src (.tmp 32) rfl b (o + q) (part l k) (by rfl) (Hd.out.2.2.turn hw' (fun h => h)) HK.out.1) ?_
          simp only [Act.put, List.setIfInBounds_toArray, List.set_cons_zero, List.set_cons_succ]
          iterate 4 (refine wpGt_read (o := ⟨_, _, _, _, _, _⟩) (v := ?_) rfl (by rfl) ?_ ?_; rotate_left; (intro w' hw'; go_simp; with_reducible rfl); simp only [Act.put, List.setIfInBounds_toArray, List.set_cons_zero, List.set_cons_succ])
          have hat := Hat.out.1 w3 Hd.out.1
          rw [Hat.out.2.1, Hat.out.2.2] at hat
          refine wpGt_call (o := ⟨_, _, _, _, _, _⟩) rfl (by rfl) (fun K hK => ?_)
          go_simp
          refine hat.mono ?_; rintro e w4 ⟨rfl, hb4⟩
          refine hK _ _ (Turn.ofBelow hb4) ?_
          clear hK K hat
          obtain ⟨D, hDD⟩ : ∃ D, D = decide (part l k = rd S m) := ⟨_, rfl⟩
          refine wpGt_read (o := ⟨_, _, _, _, _, _⟩) (v := .bool D) rfl (by rfl) (fun w' hw' => by rw [hDD]; exact rd_eql_sec (.tmp 33) (.tmp 38) _ rfl (part l k) (rd S m) (by rfl) (by rfl) HK.out.1 HK.out.2.2.2.1 HK.out.2.2.1 HK.out.2.2.2.2.1) ?_
          simp only [Act.put, List.setIfInBounds_toArray, List.set_cons_zero, List.set_cons_succ]
          refine wpGt_done ?_
          have hD4 := Hd.out.1.below hb4
          have hT4 : Turn (Foot bd bs bw) w w4 := Hd.out.2.1.trans (Turn.ofBelow hb4)
          have hs4 : Src w4 (some ⟨b, o + q, none⟩) (part l k) := fun _ => ⟨_, _, rfl, Hd.out.2.2.below hb4 (block_lt_of_cell (Hd.out.2.2 0 (by rw [HK.out.1]; omega)))⟩
          have H4 := Lib.hid (And.intro hD4 (And.intro hT4 hs4))
          clear hD4 hT4 hs4 hb4 Hd e1
          by_cases hE : part l k = rd S m
          · obtain rfl : D = true := by rw [hDD]; simpa using hE
            clear hDD
            have hn := HK.out.2.2.2.2.2.1 hE
            have Hn := Lib.hid (And.intro (show (wpK S N l (k + 1)).1 = 0 by rw [hn]; exact hz.out) (And.intro (show Dev w4 bd bs bw (wpK S N l (k + 1)).2 by rw [hn]; exact H4.out.1) H4.out.2.1))
            clear hE hn HK H4
            go_wp2
            go_roundw
            case rel => exact ⟨k + 1, by omega, by go_num, Hn.out.1, Hn.out.2.1, Hn.out.2.2⟩
            case measure => simp [intOf]; omega
          · obtain rfl : D = false := by rw [hDD]; simpa using hE
            clear hDD
            have hn := HK.out.2.2.2.2.2.2 hE
            have hwr := write_any w4 bd bs bw (wpK S N l k).2 (m : Int) (some ⟨b, o + q, none⟩) (part l k) (c - q) H4.out.2.2 HK.out.2.2.1 H4.out.1
            rw [HK.out.1, ← hn] at hwr
            have e2 : (N : Int) * 8 + (k : Int) = (m : Int) := He2.out
            by_cases hf : (wpK S N l (k + 1)).1 = 0
            · rw [hf, errV_zero] at hwr
              have Hwr := Lib.hid hwr
              have Hf := Lib.hid hf
              clear hE hn hwr hf
              go_wp2_with fail
              refine Hwr.out.mono ?_; rintro e w5 ⟨rfl, hD5, hT5⟩
              have Hn := Lib.hid (And.intro Hf.out (And.intro hD5 (H4.out.2.1.trans hT5)))
              clear e2 hD5 hT5 Hwr Hf HK H4
              go_wp2
              go_roundw
              case rel => exact ⟨k + 1, by omega, by go_num, Hn.out.1, Hn.out.2.1, Hn.out.2.2⟩
              case measure => simp [intOf]; omega
            · have e8 : wpK S N l 8 = wpK S N l (k + 1) := by
                have := wpK_stuck hf (7 - k)
                rw [show k + 1 + (7 - k) = 8 by omega] at this
                exact this
              have hfe := errV_ne hf
              rw [hfe] at hwr
              have Hwr := Lib.hid hwr
              have Hf := Lib.hid (And.intro e8 hfe)
              clear hE hn hwr hf e8 hfe
              go_wp2_with fail
              refine Hwr.out.mono ?_; rintro e w5 ⟨rfl, hD5, hT5⟩
              have Hn := Lib.hid (And.intro hD5 (H4.out.2.1.trans hT5))
              clear e2 hD5 hT5 Hwr HK H4
              go_wp2_with fail
              go_ret
              refine ⟨?_, ?_, Hn.out.2⟩
              · rw [Hf.out.1, Hf.out.2]; rfl
              · rw [Hf.out.1]; exact Hn.out.1
        · obtain rfl : k = 8 := by omega
          go_wp2
          go_ret
          refine ⟨?_, hD.out, hT.out⟩
          rw [hz.out]; rfl
    · have d0 : ((l.length : Int) != 512) = true := by rw [bne_iff_ne]; omega
      have ew : wpS S (N : Int) l = (1, S) := by unfold wpS; rw [if_pos he, if_neg hl]
      rw [ew, errV_ne (f := (1, S).1) (by show (1 : Int) ≠ 0; decide)]
      clear ew he hdn hn0 hnM hpg ham hl h hs hc h8
      go_enter Tryd.func23, Tryd.ntmps23
      go_wp2_with fail
      refine HP.out.1.mono ?_; rintro e w' ⟨rfl, rfl⟩
      go_wp2_with fail
      refine HP.out.2.mono ?_; rintro e w' ⟨rfl, rfl⟩
      go_wp2_with fail
      go_ret
      exact ⟨rfl, H.out.1, Turn.refl _ _⟩
  · have hE : ∃ f : Int, amongE S n (S.pages : Int) = f ∧ f ≠ 0 := ⟨_, rfl, by rcases he with h | h <;> rw [h] <;> decide⟩
    obtain ⟨f, hf, hf0⟩ := hE
    have ew : wpS S n l = (f, S) := by unfold wpS; rw [if_neg (by rw [hf]; exact hf0), hf]
    rw [ew]
    rw [hf, errV_ne hf0] at ham
    rw [errV_ne hf0]
    have HP := Lib.hid (And.intro hpg ham)
    clear ew hf he hpg ham h hs hc h8
    go_enter Tryd.func23, Tryd.ntmps23
    go_wp2_with fail
    refine HP.out.1.mono ?_; rintro e w' ⟨rfl, rfl⟩
    go_wp2_with fail
    refine HP.out.2.mono ?_; rintro e w' ⟨rfl, rfl⟩
    go_wp2_with fail
    go_ret
    exact ⟨rfl, H.out.1, Turn.refl _ _⟩
end Go.Proofs.YtbkjaifpgknadaaDoor
