/-
  The document's Delete.
-/
import Derived.Test.YtpcndfdijjabkaaDoorRefTreeZ
import Derived.Test.YtpcndfdijjabkaaDoorSplZ
namespace Go.Proofs.YtpcndfdijjabkaaDoor
open Go Go.RowKit

set_option maxRecDepth 100000 in
theorem refDelete_all (a : Option Addr) (n c : Nat) (es : List En) (key : ByteArray) (w : World) (hn : es.length = n) (hs : ES entE w a es) (hl : n ≤ 100000) (hz : a = none → c = 0) (hnc : n ≤ c) (hcm : c ≤ maxLen) :
    Calls Tryd.prog 12 #[.slice a n c, .string key] w fun e w' => ∃ u, e = .returned (.tuple #[u, .bool (isE es key)]) ∧ EV entE w' u (tdL es key) ∧ Below w.heap.size w w' := by
  have Hat := Lib.hid (refAt_any a n c es key w hn hs hl)
  have hle := fE_le es key
  have hgo : goneE es key = if isE es key = true then 1 else 0 := rfl
  have hcm' : c ≤ 9223372036854775807 := by unfold maxLen at hcm; omega
  cases hI : isE es key with
  | false =>
    rw [hI] at Hat
    have ht : tdL es key = es := by unfold tdL; rw [hI]; rfl
    have Hev : Hid (EV entE w (.slice a n c) es) := ⟨a, c, by rw [hn], hs, hz, by omega, hcm⟩
    rw [ht]
    clear hs hl hz hnc hcm hcm' hle hgo ht hI hn
    go_enter Tryd.func12, Tryd.ntmps12
    go_wp2_with fail
    refine Hat.out.mono ?_
    rintro e w1 ⟨rfl, hb1⟩
    have HB := Lib.hid hb1
    have Hev1 := Lib.hid (Hev.out.ext hb1)
    clear hb1 Hat Hev
    go_wp2
    go_ret2
    exact ⟨_, rfl, Hev1.out, HB.out⟩
  | true =>
    rw [hI] at Hat
    rcases hs with ⟨rfl, rfl⟩ | ⟨g, o, rfl, hc⟩
    · cases hI
    · have hs : ES entE w (some ⟨g, o, none⟩) es := .inr ⟨g, o, rfl, hc⟩
      have hgo1 : goneE es key = 1 := by rw [hgo, hI]; rfl
      have hF : fE es key ≤ n := by omega
      have hs2 := hs.take (fE es key)
      have z0 : IntKind.i64.wrap ((fE es key : Nat) : Int) = ((fE es key : Nat) : Int) := by rw [IntKind.wrap_i64]; omega
      obtain ⟨r, hr⟩ : ∃ r, r = fE es key + 1 := ⟨_, rfl⟩
      have hrn : r ≤ n := by omega
      obtain ⟨A3, hA3, hs3, hz3⟩ := drop_slice hs hn hrn hnc
      have ht : tdL es key = [] ++ (es.take (fE es key) ++ es.drop r) := by unfold tdL rep; rw [if_pos hI, hgo1, hr]; simp
      have K1 : Hid (∀ w1, Below w.heap.size w w1 → ∃ v1 w2 v2 w3, (Builtin.append_ #[SRET, SRET] SRET #[.slice none (0 : Nat) (0 : Nat), .slice (some ⟨g, o, none⟩) (fE es key) c]).run Tryd.prog w1.drew = .ok v1 w2 ∧ Below w1.drew.heap.size w1.drew w2 ∧
          (Builtin.append_ #[SRET, SRET] SRET #[v1, .slice A3 (n - r) (c - r)]).run Tryd.prog w2 = .ok v2 w3 ∧ Below w1.drew.heap.size w2 w3 ∧ EV entE w3 v2 (tdL es key) ∧ Below w.heap.size w w3) := fun w1 hb1 => by
        have hbd : Below w.heap.size w w1.drew := hb1.drew
        obtain ⟨v1, w2, v2, w3, h1, hb2, h2, hb12, hb3, hev⟩ := run_app_two (P := Tryd.prog) (w := w1.drew) (E := entE) SRET SRET SRET RET Tryd.underlying28 infoRE none 0 [] rfl (ES.nil _) (some ⟨g, o, none⟩) (fE es key) c (es.take (fE es key)) (by rw [List.length_take]; omega) (fun h => by cases h) (hs2.below hbd (Nat.le_refl _)) A3 (n - r) (c - r) (es.drop r) (by rw [List.length_drop, hn]) hz3 (hs3.below hbd (Nat.le_refl _)) (by unfold maxLen; omega) (by show _ * 32 ≤ _; omega)
        exact ⟨v1, w2, v2, w3, h1, hb2, h2, hb12, by rw [ht]; exact hev, hbd.trans (hb3.mono hbd.size)⟩
      have z1 : IntKind.i64.wrap (((fE es key : Nat) : Int) + 1) = (r : Int) := by rw [IntKind.wrap_i64]; omega
      have z2 : IntKind.i64.wrap (r : Int) = (r : Int) := by rw [IntKind.wrap_i64]; omega
      have z3 : ((fE es key : Nat) : Int) + 1 = (r : Int) := by omega
      have i1 : (0 : Int) ≤ ((fE es key : Nat) : Int) := by omega
      have i2 : ((fE es key : Nat) : Int) ≤ (c : Int) := by omega
      have i3 : ((fE es key : Nat) : Int) ≤ (n : Int) := by omega
      have i5 : (n : Int) ≤ (c : Int) := by omega
      have i6 : (r : Int) ≤ (n : Int) := by omega
      have i7 : (0 : Int) ≤ (r : Int) := by omega
      have j2 : fE es key ≤ c := by omega
      have j3 : r ≤ n := hrn
      have z00 : IntKind.i64.wrap 0 = 0 := by decide
      generalize tdL es key = TD at *
      clear hle hgo hcm hl hz hn hI hgo1 hs hs2 hs3 hz3 hc hr ht hrn
      generalize fE es key = F at *
      go_enter Tryd.func12, Tryd.ntmps12
      go_wp2_with fail
      refine Hat.out.mono ?_
      rintro e w1 ⟨rfl, hb1⟩
      obtain ⟨v1, w2, v2, w3, h1, hb2, h2, hb12, hev, hb⟩ := K1.out w1 hb1
      have Hev := Lib.hid (And.intro hev hb)
      have e1 := Lib.hid (turn_of_below hb2)
      have e2 := Lib.hid (turn_of_below hb12)
      clear hev hb hb1 hb2 hb12 K1 Hat
      go_wp2_with fail
      refine wp_region_gt (F := fun i => w1.heap.size ≤ i) [(0, true), (1, true), (2, true), (3, true), (5, true), (6, true), (7, true), (8, true), (4, false), (9, false), (10, true), (11, true)] (by kernel_rfl) (by kernel_rfl) (by kernel_rfl) (by kernel_rfl) (fun _ _ _ _ _ h => h) ?_
      iterate 8 (refine wpGt_read (o := ⟨_, _, _, _, _, _⟩) (v := ?_) rfl (by rfl) ?_ ?_; rotate_left; (intro w' hw'; go_simp; with_reducible rfl); simp only [Act.put, List.setIfInBounds_toArray, List.set_cons_zero, List.set_cons_succ])
      refine wpGt_call (o := ⟨_, _, _, _, _, _⟩) rfl (by rfl) (fun K hK => ?_)
      refine wp_app_run (.tmp 18) (.tmp 21) SRET rfl (by rfl) (by rfl) h1 ?_
      refine hK _ _ e1.out ?_
      simp only [Act.put, List.setIfInBounds_toArray, List.set_cons_zero, List.set_cons_succ]
      clear hK K h1
      refine wpGt_call (o := ⟨_, _, _, _, _, _⟩) rfl (by rfl) (fun K hK => ?_)
      refine wp_app_run (.tmp 22) (.tmp 26) SRET rfl (by rfl) (by rfl) h2 ?_
      refine hK _ _ e2.out ?_
      simp only [Act.put, List.setIfInBounds_toArray, List.set_cons_zero, List.set_cons_succ]
      clear hK K h2
      iterate 2 (refine wpGt_read (o := ⟨_, _, _, _, _, _⟩) (v := ?_) rfl (by rfl) ?_ ?_; rotate_left; (intro w' hw'; go_simp; with_reducible rfl); simp only [Act.put, List.setIfInBounds_toArray, List.set_cons_zero, List.set_cons_succ])
      refine wpGt_done ?_
      go_wp2_with fail
      go_ret2
      exact ⟨_, rfl, Hev.out.1, Hev.out.2⟩
end Go.Proofs.YtpcndfdijjabkaaDoor
