/-
  The law's sure.
-/
import Derived.Test.YtcimhcibkbbkdaaDoorExt3
import Derived.Test.YtcimhcibkbbkdaaDoorExt4
import Derived.Test.YtcimhcibkbbkdaaDoorExt5
import Derived.Test.YtcimhcibkbbkdaaDoorNum2
namespace Go.Proofs.YtcimhcibkbbkdaaDoor
open Go Go.RowKit

def xsl : List Xt := [⟨0, 3⟩, ⟨5, 5⟩]
theorem xsl_res : xrsE xsl 4 = 0 ∧ xrsA xsl 4 = [⟨0, 3⟩, ⟨5, 1⟩] ∧ xrsB xsl 4 = [⟨6, 4⟩] := ⟨by decide, by rfl, by rfl⟩
theorem xsl_pg : xpgV xsl 3 = 5 ∧ xpgE xsl 3 = 0 ∧ xpgE xsl 8 = 2 ∧ xnuV xsl 6 = 4 ∧ xnuE xsl 6 = 0 ∧ xmanS xsl = 8 := by decide
theorem xsl_free : xfreE xsl 12 = 0 ∧ xfreV xsl 12 = [⟨3, 2⟩, ⟨10, 2⟩] := ⟨by decide, by rfl⟩
theorem xsl_ok : ∀ x ∈ xsl, XOK x := fun x hx => by
  simp only [xsl, List.mem_cons, List.not_mem_nil, or_false] at hx
  rcases hx with rfl | rfl <;> exact ⟨by decide, by decide, by decide, by decide⟩
set_option maxRecDepth 100000 in
set_option maxHeartbeats 4000000 in
theorem xsure_any (w : World) (hg : Hg w) : Calls Tryd.prog 6 #[] w fun e w' => e = .returned (.bool true) ∧ Below w.heap.size w w' := by
  have hb0 : Below w.heap.size w (w.alloc (.cells #[.int .i64 0, .int .i64 3, .int .i64 5, .int .i64 5] XT)) := (Below.refl _ _).alloc (Nat.le_refl _) _
  have hev : EV xtE (w.alloc (.cells #[.int .i64 0, .int .i64 3, .int .i64 5, .int .i64 5] XT)) (.slice (some ⟨w.heap.size, 0, none⟩) (2 : Nat) (2 : Nat)) xsl := lit_ev (E := xtE) (l := xsl) (heap_new w XT _) (by decide) rfl
  obtain ⟨W, hW⟩ : ∃ W, w.alloc (.cells #[.int .i64 0, .int .i64 3, .int .i64 5, .int .i64 5] XT) = W := ⟨_, rfl⟩
  rw [hW] at hb0 hev
  have HW := Lib.hid hW
  have Hev := Lib.hid hev
  have Hg0 := Lib.hid hg
  have HB0 := Lib.hid hb0
  have H1 := Lib.hid (xreserve_any _ xsl 4 W hev (by decide) xsl_ok (by decide))
  rw [xsl_res.1, xsl_res.2.1, xsl_res.2.2] at H1
  clear hW hb0 hev hg
  go_enter Tryd.func6, Tryd.ntmps6
  go_wp2_with fail
  rw [HW.out]
  refine H1.out.mono ?_
  rintro e w1 ⟨a, b, E, rfl, rfl, ha, hb, hb1⟩
  rw [errC_0]
  have HB1 : Hid (Below w.heap.size w w1) := HB0.out.trans (hb1.mono HB0.out.size)
  have He1 : Hid (EV xtE w1 _ xsl) := Hev.out.ext hb1
  have H2 := Lib.hid (xpage_any _ xsl 3 w1 He1.out (by decide) xsl_ok (by decide))
  rw [xsl_pg.1, xsl_pg.2.1, errC_0] at H2
  have Hab := Lib.hid (And.intro ha hb)
  clear ha hb hb1 H1 Hev HB0 HW
  go_wp2_with fail
  refine H2.out.mono ?_
  rintro e w2 ⟨rfl, hb2⟩
  have HB2 : Hid (Below w.heap.size w w2) := HB1.out.trans (hb2.mono HB1.out.size)
  have He2 : Hid (EV xtE w2 _ xsl) := He1.out.ext hb2
  have Hab2 := Lib.hid (And.intro (Hab.out.1.ext hb2) (Hab.out.2.ext hb2))
  have H3 := Lib.hid (xnumber_any _ xsl 6 w2 He2.out (by decide) xsl_ok)
  rw [xsl_pg.2.2.2.1, xsl_pg.2.2.2.2.1, errC_0] at H3
  clear hb2 H2 He1 HB1 Hab
  go_wp2_with fail
  refine H3.out.mono ?_
  rintro e w3 ⟨rfl, hb3⟩
  have HB3 : Hid (Below w.heap.size w w3) := HB2.out.trans (hb3.mono HB2.out.size)
  have He3 : Hid (EV xtE w3 _ xsl) := He2.out.ext hb3
  have Hab3 := Lib.hid (And.intro (Hab2.out.1.ext hb3) (Hab2.out.2.ext hb3))
  have H4 := Lib.hid (xpage_any _ xsl 8 w3 He3.out (by decide) xsl_ok (by decide))
  rw [xsl_pg.2.2.1] at H4
  clear hb3 H3 He2 HB2 Hab2
  go_wp2_with fail
  refine H4.out.mono ?_
  rintro e w4 ⟨rfl, hb4⟩
  have HB4 : Hid (Below w.heap.size w w4) := HB3.out.trans (hb4.mono HB3.out.size)
  have He4 : Hid (EV xtE w4 _ xsl) := He3.out.ext hb4
  have Hab4 := Lib.hid (And.intro (Hab3.out.1.ext hb4) (Hab3.out.2.ext hb4))
  have H5 := Lib.hid (xfree_any _ xsl 12 w4 He4.out (by decide) xsl_ok)
  rw [xsl_free.1, xsl_free.2, errC_0] at H5
  clear hb4 H4 He3 HB3 Hab3
  go_wp2_with fail
  refine H5.out.mono ?_
  rintro e w5 ⟨u, rfl, hu, hb5⟩
  have HB5 : Hid (Below w.heap.size w w5) := HB4.out.trans (hb5.mono HB4.out.size)
  have He5 : Hid (EV xtE w5 _ xsl) := He4.out.ext hb5
  obtain ⟨aa, ca, rfl, hsa, _, _, _⟩ := Hab4.out.1.ext hb5
  obtain ⟨ab, cb, rfl, hsb, _, _, _⟩ := Hab4.out.2.ext hb5
  obtain ⟨ga, oa, rfl, hca⟩ := hsa.xts (by decide)
  obtain ⟨gb, ob, rfl, hcb⟩ := hsb.xts (by decide)
  have k1 := hca 1 (by decide)
  have k2 := hcb 0 (by decide)
  obtain ⟨k10, k11⟩ : w5.cell? ⟨ga, oa + 2, none⟩ = some (.int .i64 5) ∧ w5.cell? ⟨ga, oa + 2 + 1, none⟩ = some (.int .i64 1) := k1
  have k12 : w5.cell? ⟨ga, oa + 3, none⟩ = some (.int .i64 1) := k11
  have k21 : w5.cell? ⟨gb, ob + 1, none⟩ = some (.int .i64 4) := k2.2
  have H6 := Lib.hid (num_any (errC 2) 2 w5 (errC_is 2) (Hg0.out.below HB5.out))
  have Hu := Lib.hid hu
  clear hb5 hu H5 He4 HB4 Hab4 hsa hsb hca hcb k2
  rw [show ([(⟨0, 3⟩ : Xt), ⟨5, 1⟩]).length = 2 from rfl, show ([(⟨6, 4⟩ : Xt)]).length = 1 from rfl]
  go_wp2_with fail
  refine H6.out.mono ?_
  rintro e w6 ⟨rfl, hb6⟩
  have HB6 : Hid (Below w.heap.size w w6) := HB5.out.trans (hb6.mono HB5.out.size)
  have He6 : Hid (EV xtE w6 _ xsl) := He5.out.ext hb6
  obtain ⟨au, cu, rfl, hsu, _, _, _⟩ := Hu.out.ext hb6
  obtain ⟨gu, ou, rfl, hcu⟩ := hsu.xts (by decide)
  have k3 := hcu 1 (by decide)
  have k31 : w6.cell? ⟨gu, ou + 2 + 1, none⟩ = some (.int .i64 2) := k3.2
  have k32 : w6.cell? ⟨gu, ou + 3, none⟩ = some (.int .i64 2) := k3.2
  have H7 := Lib.hid (xmany_any _ xsl w6 He6.out (by decide) xsl_ok)
  rw [xsl_pg.2.2.2.2.2] at H7
  clear hb6 H6 He5 HB5 Hu hsu hcu k3
  rw [show ([(⟨3, 2⟩ : Xt), ⟨10, 2⟩]).length = 2 from rfl]
  go_wp2_with fail
  refine H7.out.mono ?_
  rintro e w7 ⟨rfl, hb7⟩
  have HB7 : Hid (Below w.heap.size w w7) := HB6.out.trans (hb7.mono HB6.out.size)
  clear hb7 H7 HB6
  go_wp2
  go_ret
  exact ⟨rfl, HB7.out⟩
end Go.Proofs.YtcimhcibkbbkdaaDoor
