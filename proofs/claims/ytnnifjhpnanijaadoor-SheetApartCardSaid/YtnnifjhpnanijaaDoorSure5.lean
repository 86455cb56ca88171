/-
  The law's own sure, of layer 5.
-/
import Derived.Test.YtnnifjhpnanijaaDoorSheet2
import Derived.Test.YtnnifjhpnanijaaDoorSheet3
import Derived.Lib.SlBytesConst
namespace Go.Proofs.YtnnifjhpnanijaaDoor
open Go Go.RowKit

theorem errV_zero : errV 0 = .nilIface := rfl
theorem errV_pos (n : Nat) (h : n ≠ 0) : errV n = .iface 44 (.int .i64 n) := by unfold errV; rw [if_neg h]
/-- Seal of a literal's new row. -/
theorem seal_new (w : World) (E : TypeId) (fr : Nat × Nat) (g n : Nat) (arr : Array Value) (k : Nat) (l : List Nat) (hg : g = w.heap.size) (ha : arr = (bv l).toArray) (hn : l.length = n) (hk1 : 1 ≤ k) (hk5 : k ≤ 5) (hl : n ≤ 504) (hb : B8 l) (hT : WorthIn w) :
    Calls Tryd.prog 7 #[.int .u8 k, .slice (some ⟨g, 0, none⟩) n n] (w.alloc (.cells arr E fr)) fun e w' => ∃ g', w.heap.size ≤ g' ∧ e = .returned (.tuple #[.slice (some ⟨g', 0, none⟩) 512 512, .nilIface]) ∧ Row w' g' 5 (pageL k l) ∧ Below w.heap.size w w' := by
  subst hg ha
  have hbw : Below w.heap.size w (w.alloc (.cells (bv l).toArray E fr)) := (Below.refl _ _).alloc (Nat.le_refl _) _
  refine (seal_in k (some ⟨w.heap.size, 0, none⟩) n n l hn _ hk1 hk5 hl hb (src_new w E fr l).src (hT.below hbw)).mono ?_
  rintro e w' ⟨rfl, hr, hb'⟩
  exact ⟨_, hbw.size, rfl, hr, hbw.trans (hb'.mono hbw.size)⟩
/-- Open of a row, where it is known what it tells. -/
theorem open_row (w : World) (g n c : Nat) (L : List Nat) (hn : L.length = n) (hlc : n ≤ c) (hcm : c ≤ 140737488355328) (hb : B8 L) (hr : Row w g 5 L) (hT : WorthIn w) (K : Nat) (M : List Nat) (V : Value) (F : Nat) (hS : opS L = (K, M, F)) (hV : errV F = V) :
    Calls Tryd.prog 9 #[.slice (some ⟨g, 0, none⟩) n c] w fun e w' => ∃ v, e = .returned (.tuple #[.int .u8 K, v, V]) ∧ Reads w' v M ∧ Below w.heap.size w w' := by
  have h := open_any (some ⟨g, 0, none⟩) n c L hn w hb hlc hcm (row_src hr) hT
  rw [hS] at h
  subst hV
  exact h
theorem blank_row (w : World) (g n c : Nat) (L : List Nat) (hn : L.length = n) (hl : n ≤ 9223372036854775807) (hr : Row w g 5 L) (D : Bool) (hD : allZero L = D) :
    Calls Tryd.prog 13 #[.slice (some ⟨g, 0, none⟩) n c] w fun e w' => e = .returned (.bool D) ∧ w = w' := by
  subst hD
  exact blank_any (some ⟨g, 0, none⟩) n c L hn w hl (row_src hr)
theorem opS_noughts : opS (List.replicate 512 0) = (0, [], 4) := by
  refine opS_sum List.length_replicate ?_
  rw [List.drop_replicate, List.take_replicate]
  decide +kernel
theorem room_four (w : World) : Calls Tryd.prog 11 #[.int .i64 500] w fun e w' => e = .returned (.tuple #[.int .i64 4, .nilIface]) ∧ w = w' := room_in 500 w (by omega)
theorem blank_nil (w : World) : Calls Tryd.prog 13 #[.slice none 0 0] w fun e w' => e = .returned (.bool true) ∧ w = w' := blank_any none 0 0 [] rfl w (by omega) (Src.nil _ _)
theorem b8_of (l : List Nat) (h : (l.all fun x => decide (x < 256)) = true) : B8 l := fun x hx => of_decide_eq_true (List.all_eq_true.1 h x hx)
set_option maxRecDepth 100000 in
set_option maxHeartbeats 1000000 in
theorem sure_any (w : World) (hg : Hg w) (hT : WorthIn w) : Calls Tryd.prog 6 #[] w fun e w' => e = .returned (.bool true) ∧ Below w.heap.size w w' := by
  have kc := fun (w : World) (C : Array Value) (n c : Nat) => Lib.run_convert_bytes_const (P := Tryd.prog) w 22 5 C n c Tryd.underlying22 Tryd.underlying5
  obtain ⟨L, hL⟩ : ∃ L, L = pageL 1 [120] := ⟨_, rfl⟩
  have hLl : L.length = 512 := by rw [hL]; exact pageL_length (by simp)
  have hLb : B8 L := by rw [hL]; exact pageL_b8 (by omega) (by simp) (b8_of _ (by decide))
  have hLo : opS L = (1, [120], 0) := by rw [hL]; exact opS_page (by omega) (by omega) (by simp)
  have hLz : allZero L = false := by rw [hL]; exact page_blank (by omega)
  have HL := Lib.hid (And.intro hL (And.intro hLl (And.intro hLb (And.intro hLo hLz))))
  obtain ⟨Z, hZ⟩ : ∃ Z, Z = List.replicate 512 0 := ⟨_, rfl⟩
  have hZl : Z.length = 512 := by rw [hZ]; exact List.length_replicate
  have hZo : opS Z = (0, [], 4) := by rw [hZ]; exact opS_noughts
  have hZb : B8 Z := by rw [hZ]; exact B8.zeros _
  have HZ := Lib.hid (And.intro hZ (And.intro hZl (And.intro hZb hZo)))
  have HG := Lib.hid hg
  have HT := Lib.hid hT
  clear hL hLl hLb hLo hLz hZ hZl hZo hZb hg hT
  go_enter Tryd.func6, Tryd.ntmps6
  go_wp2_with fail
  refine (seal_new w _ _ _ 1 _ 1 [120] rfl rfl rfl (by omega) (by omega) (by omega) (b8_of _ (by decide)) HT.out).mono ?_
  rintro e w1 ⟨g, hgw, rfl, hr1, hb1⟩
  rw [← HL.out.1] at hr1
  clear kc
  go_wp2_with fail
  refine (open_row w1 g 512 512 L HL.out.2.1 (by omega) (by omega) HL.out.2.2.1 hr1 (HT.out.below hb1) 1 [120] .nilIface 0 HL.out.2.2.2.1 errV_zero).mono ?_
  rintro e w2 ⟨v, rfl, hv, hb2⟩
  have hr2 := hr1.below hb2 hr1.lt
  have hbw2 := hb1.trans (hb2.mono hb1.size)
  clear hr1 hb1 hb2
  go_wp2_with (at_make; refine wpList_make_bytes rfl _ _ 22 rfl 5 Tryd.underlying22 infoByte _ _ _ _ 512 rfl rfl rfl rfl (by omega) ?_; intro w3 hr3 hb3; rw [← HZ.out.1] at hr3)
  have hv3 := hv.below hb3 (Nat.le_refl _)
  have hr23 := hr2.below hb3 hr2.lt
  have hbw3 := hbw2.trans (hb3.mono hbw2.size)
  clear hv hr2 hbw2 hb3
  refine (open_row w3 w2.heap.size 512 512 Z HZ.out.2.1 (by omega) (by omega) HZ.out.2.2.1 hr3.out (HT.out.below hbw3) 0 [] _ 4 HZ.out.2.2.2 (errV_pos 4 (by decide))).mono ?_
  rintro e w4 ⟨v', rfl, _, hb4⟩
  have hv4 := Lib.hid (hv3.below hb4 (Nat.le_refl _))
  have hr4 := Lib.hid (hr23.below hb4 hr23.lt)
  have hbw4 := Lib.hid (hbw3.trans (hb4.mono hbw3.size))
  clear hv3 hr3 hr23 hbw3 hb4
  go_wp2_with fail
  refine (room_four w4).mono ?_
  rintro e w' ⟨rfl, rfl⟩
  have hcv := hv4.out.conv
  rw [show bstr [120] = ⟨#[120]⟩ from rfl] at hcv
  go_wp2_with fail
  refine (num_err 4 w4 (HG.out.below hbw4.out)).mono ?_
  rintro e w5 ⟨rfl, hb5⟩
  have hr5 := Lib.hid (hr4.out.below hb5 hr4.out.lt)
  have hbw5 := Lib.hid (hbw4.out.trans (hb5.mono hbw4.out.size))
  clear hr4 hbw4 hb5 hcv hv4
  go_wp2_with fail
  refine (blank_nil w5).mono ?_
  rintro e w' ⟨rfl, rfl⟩
  go_wp2_with fail
  refine (blank_row w5 g 512 512 L HL.out.2.1 (by omega) hr5.out false HL.out.2.2.2.2).mono ?_
  rintro e w' ⟨rfl, rfl⟩
  go_wp2_with fail
  go_ret
  exact ⟨rfl, hbw5.out⟩
end Go.Proofs.YtnnifjhpnanijaaDoor
