/-
  WritePage: the document's.
-/
import Derived.Test.YtbkjaifpgknadaaDoorWp1
import Derived.Test.YtbkjaifpgknadaaDoorRefD3
namespace Go.Proofs.YtbkjaifpgknadaaDoor
open Go Go.RowKit Go.Maps

theorem bstr_inj {l m : List Nat} (hl : B8 l) (hm : B8 m) (h : (bstr l).toList = (bstr m).toList) : l = m := by
  have h1 := h
  rw [ByteArray.toList_eq, ByteArray.toList_eq] at h1
  unfold bstr at h1
  rw [strOfNums_data, strOfNums_data, List.map_map, List.map_map] at h1
  have h2 := congrArg (List.map UInt8.toNat) h1
  rw [List.map_map, List.map_map] at h2
  have e : ∀ k : List Nat, B8 k → k.map (UInt8.toNat ∘ ((fun n : Int => UInt8.ofNat n.toNat) ∘ fun x : Nat => (x : Int))) = k := fun k hk => by
    conv => rhs; rw [← List.map_id k]
    apply List.map_congr_left
    intro x hx
    have := hk x hx
    simp [Nat.mod_eq_of_lt this]
  rw [e l hl, e m hm] at h2
  exact h2
theorem bstr_same {l m : List Nat} (hl : B8 l) (hm : B8 m) : ((bstr l).toList == (bstr m).toList) = decide (m = l) := by
  by_cases h : m = l
  · subst h; simp
  · rw [decide_eq_false h]
    rw [beq_eq_false_iff_ne]
    exact fun e => h (bstr_inj hl hm e).symm
theorem conv_cs {w : World} {b o n c : Nat} {l : List Nat} (hn : l.length = n) (h : Cs w b o l) : (convert BT 9 (.slice (some ⟨b, o, none⟩) n c)).run Tryd.prog w = .ok (.string (bstr l)) w :=
  run_convert_bytes_arg w BT U8 Tryd.underlying26 Tryd.underlying5 b o n c _ (by simpa using hn) (fun i hi => by
    rw [h i (by omega)]
    simp [show i < l.length by omega]) 9 Tryd.underlying9
theorem pgL_part {S : DS} (h : WfS S) (n k : Nat) : ∀ j, k < j → part (pgL S n j) k = rd S (8 * n + k)
  | 0, hj => by omega
  | j + 1, hj => by
    have hl := pgL_lenW h n j
    unfold part
    rw [pgL]
    by_cases e : k = j
    · subst e
      rw [List.drop_append_of_le_length (by rw [hl]; exact Nat.le_refl _), List.drop_of_length_le (by rw [hl]; exact Nat.le_refl _), List.nil_append, List.take_of_length_le (by rw [h.rd]; exact Nat.le_refl _)]
    · rw [List.drop_append_of_le_length (by rw [hl]; omega), List.take_append_of_le_length (by rw [List.length_drop, hl]; omega)]
      exact pgL_part h n k j (by omega)
set_option maxRecDepth 100000 in
set_option maxHeartbeats 2000000 in
theorem rwritePage_any (w : World) (yb ps pn pw : Nat) (S : DS) (n : Int) (a : Option Addr) (l : List Nat) (c : Nat) (hs : Src w a l) (h8 : B8 l) (hc : l.length ≤ c) (hoff : 0 < l.length → Off a (FootR yb ps pn pw)) (hw : WfS S) (h : Ref w yb ps pn pw S) :
    Calls Tryd.prog 25 #[.pointer (some ⟨yb, 0, none⟩), .int .i64 n, .slice a l.length c] w fun e w' => e = .returned (.int .i64 (wpS S n l).1) ∧ Ref w' yb ps pn pw (wpS S n l).2 ∧ Turn (FootR yb ps pn pw) w w' := by
  have hp1 := hw.p1
  have hp2 := hw.p2
  have c0 := h.c0
  have c1 := h.c1
  have c2 := h.c2
  have c3 := h.c3
  have c4 := h.c4
  have c5 := h.c5
  have H := Lib.hid (And.intro h (And.intro hw (And.intro hs hoff)))
  rcases among_ne S n (S.pages : Int) with ⟨he, hdn, hn0, hnM⟩ | he
  · obtain ⟨N, rfl⟩ := Int.eq_ofNat_of_zero_le hn0
    have hNM : N < S.pages := by omega
    have hrd := rreadPage_ok w ps pn pw S N he hw h.v
    have Hrd := Lib.hid hrd
    by_cases hl : l.length = 512
    · have ew : wpS S (N : Int) l = wpK S N l 8 := by unfold wpS; rw [if_pos he, if_pos hl]; rfl
      rw [ew]
      obtain ⟨b, o, rfl, hcs⟩ := hs (by omega)
      have hbF := hoff (by omega) b o rfl
      have hc' : 512 ≤ c := by omega
      have hpl8 := pgL_lenW hw N 8
      have HX := Lib.hid (And.intro hl (And.intro hcs (And.intro hbF (And.intro h8 (And.intro hw hpl8)))))
      have hN1 : N ≤ 1023 := by omega
      rw [hl]
      clear ew he hdn hn0 hnM hl hcs hbF h hs hc h8 hw hoff hrd hpl8
      go_enter Tryd.func25, Tryd.ntmps25
      go_wp2_with fail
      refine Hrd.out.mono ?_
      rintro e w1 ⟨v, rfl, hown, hb1⟩
      have hown1 := hown
      rw [HX.out.2.2.2.2.2] at hown1
      obtain ⟨g, cp, rfl, hcp, hcm, hBg, hgl⟩ := own_form hown1 (by omega)
      clear hown1
      have hR1 := H.out.1.below hb1
      have hgF : ¬ FootR yb ps pn pw g := fun hf => by have := H.out.1.foot_lt g hf; omega
      have hcg : Cs w1 g 0 (pgL S N 8) := by
        obtain ⟨a2, c2, e2, hsr⟩ := own_src hown
        obtain ⟨b2, o2, e3, hc2⟩ := hsr (by rw [HX.out.2.2.2.2.2]; omega)
        rw [e3] at e2
        simp only [Value.slice.injEq, Option.some.injEq, Addr.mk.injEq] at e2
        obtain ⟨⟨e4, e5, _⟩, _, _⟩ := e2
        rw [e4, e5]; exact hc2
      have hb1' : Turn (FootR yb ps pn pw) w w1 := Turn.ofBelow hb1
      have hcb1 : Cs w1 b o l := HX.out.2.1.turn hb1' HX.out.2.2.1
      have H1 := Lib.hid (And.intro hcg (And.intro hb1' (And.intro hgF hcb1)))
      have hst0 : Hid (Ref w1 yb ps pn pw (wpK S N l 0).2) := hR1
      have hk0 : Hid ((wpK S N l 0).1 = 0) := rfl
      clear hown hb1 hR1 hgF hcg hb1' hcb1 hBg hgl hcm Hrd c0 c1 c2 c3 c4 c5
      go_wp2_with fail
      go_loopw [9] (fun i wr => ∃ k : Nat, k ≤ 8 ∧ i = .int .i64 k ∧ Hid ((wpK S N l k).1 = 0) ∧ Hid (Ref wr yb ps pn pw (wpK S N l k).2) ∧ Hid (Turn (FootR yb ps pn pw) w1 wr)) (fun i _ => 8 - (intOf i).toNat)
      case atStart => exact ⟨0, Nat.zero_le _, rfl, hk0, hst0, Turn.refl _ _⟩
      case round =>
        clear hst0 hk0
        obtain ⟨k, hk, rfl, hz, hR, hT⟩ := hrel
        by_cases hlt : k < 8
        · obtain ⟨q, hq⟩ : ∃ q, q = 64 * k := ⟨_, rfl⟩
          have hq1 : q ≤ 448 := by omega
          obtain ⟨q2, hq2⟩ : ∃ q2, q2 = q + 64 := ⟨_, rfl⟩
          have e1 : IntKind.i64.wrap (64 * (k : Int)) = (q : Int) := by rw [IntWalk.i64_in _ (by omega)]; omega
          have e3 : IntKind.i64.wrap ((q : Int) + 64) = (q2 : Int) := by rw [IntWalk.i64_in _ (by omega)]; omega
          have e4 : (q2 : Int) ≤ (cp : Int) := by omega
          have e5 : (q2 : Int) ≤ (c : Int) := by omega
          have e6 : (q : Int) ≤ (q2 : Int) := by omega
          have e7 : ¬ cp = q := by omega
          have e8 : ¬ c = q := by omega
          have e9 : q2 - q = 64 := by omega
          obtain ⟨m, hm⟩ : ∃ m, m = 8 * N + k := ⟨_, rfl⟩
          have hmM : m < 8 * S.pages := by omega
          have He2 := Lib.hid (show 8 * (N : Int) + (k : Int) = (m : Int) by omega)
          have hpl := part_len HX.out.1 hlt
          have hcb : Cs wr b (o + q) (part l k) := by
            have := (part_cs HX.out.1 hlt (H1.out.2.2.2)).turn hT.out HX.out.2.2.1
            rwa [← hq] at this
          have hcg : Cs wr g q (rd S m) := by
            have := (part_cs (by rw [HX.out.2.2.2.2.2]) hlt (H1.out.1)).turn hT.out H1.out.2.2.1
            rw [pgL_part HX.out.2.2.2.2.1 N k 8 hlt, ← hq, ← hm, Nat.zero_add] at this
            exact this
          have hp8 := part_b8 HX.out.2.2.2.1 k
          have hrl := HX.out.2.2.2.2.1.rd m
          have hr8 := HX.out.2.2.2.2.1.rd8 m
          have hsm : part l k = rd S m → wpK S N l (k + 1) = wpK S N l k := fun e => wpK_same hz.out (by rw [← hm]; exact e)
          have hwr : part l k ≠ rd S m → wpK S N l (k + 1) = wrS (wpK S N l k).2 (m : Int) (part l k) := fun e => by
            have := wpK_wr hz.out (l := l) (k := k) (n := N) (S := S) (by rw [← hm]; exact e)
            rw [← hm] at this; exact this
          have hwf := wf_wpK HX.out.2.2.2.2.1 N l HX.out.2.2.2.1 k
          have HK := Lib.hid (And.intro hpl (And.intro hcb (And.intro hp8 (And.intro hrl (And.intro hr8 (And.intro hsm (And.intro hwr hwf)))))))
          obtain ⟨D, hDD⟩ : ∃ D, D = decide (part l k = rd S m) := ⟨_, rfl⟩
          have hse : ((bstr (rd S m)).toList == (bstr (part l k)).toList) = D := by rw [hDD]; exact bstr_same hr8 hp8
          have HD := Lib.hid hDD
          clear hpl hcb hp8 hrl hr8 hsm hwr hwf hq hm hq2 hDD
          go_wp2_with fail
          refine wp_region_gt (F := fun _ => False) [(0, true), (1, true), (2, true), (3, true), (4, true), (5, true), (6, true), (7, true), (8, true), (9, true), (10, true), (11, true), (12, true), (13, true), (14, true), (15, true), (16, true)] (by kernel_rfl) (by kernel_rfl) (by kernel_rfl) (by kernel_rfl) (fun _ _ _ _ _ h => h) ?_
          have hbd : Below wr.heap.size wr wr.drew := Ext.drew wr
          have hRd := hR.out.below hbd
          have hTd : Turn (FootR yb ps pn pw) w1 wr.drew := hT.out.trans (Turn.ofBelow hbd)
          have hcv1 : ∀ w', Turn (fun _ => False) wr.drew w' → (convert BT 9 (.slice (some ⟨g, q, none⟩) 64 (cp - q))).run Tryd.prog w' = .ok (.string (bstr (rd S m))) w' := fun w' t =>
            conv_cs HK.out.2.2.2.1 ((hcg.turn (Turn.ofBelow (F := fun _ => False) hbd) (fun h => h)).turn t (fun h => h))
          have hcv2 : ∀ w', Turn (fun _ => False) wr.drew w' → (convert BT 9 (.slice (some ⟨b, o + q, none⟩) 64 (c - q))).run Tryd.prog w' = .ok (.string (bstr (part l k))) w' := fun w' t =>
            conv_cs HK.out.1 ((HK.out.2.1.turn (Turn.ofBelow (F := fun _ => False) hbd) (fun h => h)).turn t (fun h => h))
          have hs4 : Src wr.drew (some ⟨b, o + q, none⟩) (part l k) := fun _ => ⟨_, _, rfl, HK.out.2.1.turn (Turn.ofBelow (F := fun _ => False) hbd) (fun h => h)⟩
          have Hd := Lib.hid (And.intro hRd (And.intro hTd hs4))
          clear hbd hRd hTd hs4 hR hT hcg
          generalize wr.drew = w3 at *
          generalize bstr (rd S m) = B1 at *
          generalize bstr (part l k) = B2 at *
          iterate 17 (refine wpGt_read (o := ⟨_, _, _, _, _, _⟩) (v := ?_) rfl (by rfl) ?_ ?_; rotate_left; (intro w' hw'; go_simp; with_reducible rfl); simp only [Act.put, List.setIfInBounds_toArray, List.set_cons_zero, List.set_cons_succ])
          refine wpGt_done ?_
          clear hcv1 hcv2 hse
          by_cases hE : part l k = rd S m
          · obtain rfl : D = true := by rw [HD.out]; simpa using hE
            have hn := HK.out.2.2.2.2.2.1 hE
            have Hn := Lib.hid (And.intro (show (wpK S N l (k + 1)).1 = 0 by rw [hn]; exact hz.out) (And.intro (show Ref w3 yb ps pn pw (wpK S N l (k + 1)).2 by rw [hn]; exact Hd.out.1) Hd.out.2.1))
            clear hE hn HK Hd HD e1 e3 e9
            go_wp2
            go_roundw
            case rel => exact ⟨k + 1, by omega, by go_num, Hn.out.1, Hn.out.2.1, Hn.out.2.2⟩
            case measure => simp [intOf]; omega
          · obtain rfl : D = false := by rw [HD.out]; simpa using hE
            have hn := HK.out.2.2.2.2.2.2.1 hE
            have hwr := rwrite_any w3 yb ps pn pw (wpK S N l k).2 (m : Int) (some ⟨b, o + q, none⟩) (part l k) (c - q) Hd.out.2.2 HK.out.2.2.1 (fun _ b' o' e => by cases e; exact HX.out.2.2.1) HK.out.2.2.2.2.2.2.2 Hd.out.1
            rw [HK.out.1, ← hn] at hwr
            have e2 : 8 * (N : Int) + (k : Int) = (m : Int) := He2.out
            by_cases hf : (wpK S N l (k + 1)).1 = 0
            · rw [hf] at hwr
              have Hwr := Lib.hid hwr
              have Hf := Lib.hid hf
              clear hE hn hwr hf
              go_wp2_with fail
              refine Hwr.out.mono ?_; rintro e w5 ⟨rfl, hR5, hT5⟩
              have Hn := Lib.hid (And.intro Hf.out (And.intro hR5 (Hd.out.2.1.trans hT5)))
              clear e2 hR5 hT5 Hwr Hf HK Hd e1 e3 e9
              go_wp2
              go_roundw
              case rel => exact ⟨k + 1, by omega, by go_num, Hn.out.1, Hn.out.2.1, Hn.out.2.2⟩
              case measure => simp [intOf]; omega
            · have ee : wpK S N l 8 = wpK S N l (k + 1) := by
                have := wpK_stuck hf (7 - k)
                rw [show k + 1 + (7 - k) = 8 by omega] at this
                exact this
              have Ee := Lib.hid ee
              have Hwr := Lib.hid hwr
              obtain ⟨f, hff⟩ : ∃ f, f = (wpK S N l (k + 1)).1 := ⟨_, rfl⟩
              have hfb : (f != 0) = true := by rw [bne_iff_ne, hff]; exact hf
              rw [← hff] at Hwr
              have Hff := Lib.hid hff
              clear hE hn hwr hf ee hff
              go_wp2_with fail
              refine Hwr.out.mono ?_; rintro e w5 ⟨rfl, hR5, hT5⟩
              have Hn := Lib.hid (And.intro hR5 (H1.out.2.1.trans (Hd.out.2.1.trans hT5)))
              clear e2 hR5 hT5 Hwr HK Hd
              go_wp2_with fail
              go_ret
              refine ⟨?_, ?_, Hn.out.2⟩
              · rw [Ee.out, ← Hff.out]; rfl
              · rw [Ee.out]; exact Hn.out.1
        · obtain rfl : k = 8 := by omega
          go_wp2
          go_ret
          refine ⟨?_, hR.out, H1.out.2.1.trans hT.out⟩
          rw [hz.out]; rfl
    · have d0 : ((l.length : Int) != 512) = true := by rw [bne_iff_ne]; omega
      have ew : wpS S (N : Int) l = (1, S) := by unfold wpS; rw [if_pos he, if_neg hl]
      rw [ew]
      clear ew he hdn hn0 hnM hl h hs hc h8 hw hoff hrd
      go_enter Tryd.func25, Tryd.ntmps25
      go_wp2_with fail
      refine Hrd.out.mono ?_
      rintro e w1 ⟨v, rfl, hown, hb1⟩
      have Hf := Lib.hid (And.intro (H.out.1.below hb1) (Turn.ofBelow (F := FootR yb ps pn pw) hb1))
      clear hown hb1
      go_wp2_with fail
      go_ret
      exact ⟨rfl, Hf.out.1, Hf.out.2⟩
  · have hE : ∃ f : Int, amongE S n (S.pages : Int) = f ∧ f ≠ 0 := ⟨_, rfl, by rcases he with h | h <;> rw [h] <;> decide⟩
    obtain ⟨f, hf, hf0⟩ := hE
    have ew : wpS S n l = (f, S) := by unfold wpS; rw [if_neg (by rw [hf]; exact hf0), hf]
    rw [ew]
    have hrd := rreadPage_bad w ps pn pw S n f hf hf0 hw
    have hfb : (f != 0) = true := by rw [bne_iff_ne]; exact hf0
    have Hrd := Lib.hid hrd
    clear h hw hs hoff ew he hf hrd hf0 hc h8
    go_enter Tryd.func25, Tryd.ntmps25
    go_wp2_with fail
    refine Hrd.out.mono ?_
    rintro e w1 ⟨rfl, hb1⟩
    have Hf := Lib.hid (And.intro (H.out.1.below hb1) (Turn.ofBelow (F := FootR yb ps pn pw) hb1))
    clear hb1
    go_wp2_with fail
    go_ret
    exact ⟨rfl, Hf.out.1, Hf.out.2⟩
end Go.Proofs.YtbkjaifpgknadaaDoor
