/-
  shape's must, lookCells.
  shape's lookKids.
  shape's look.
-/
import Derived.Test.YtbgkjniagedcnaaGreatDoorCloneZ
import Derived.Test.YtbgkjniagedcnaaGreatDoorChCountZ
import Derived.Test.YtbgkjniagedcnaaGreatDoorHasPZ
import Derived.Test.YtbgkjniagedcnaaGreatDoorTurnZ
import Derived.Test.YtbgkjniagedcnaaGreatDoorFill1Z
namespace Go.Proofs.YtbgkjniagedcnaaGreatDoor
open Go Go.RowKit

theorem must_yes (w : World) : Calls Tryz.prog 62 #[.bool true] w fun e w' => e = .returned (.tuple #[]) ∧ w = w' := by
  go_enter Tryz.func62, Tryz.ntmps62
  go_wp2
  go_end0
  exact ⟨rfl, rfl⟩
theorem has_next {s : Sp} {x y : ByteArray} (h : blt x y = true) (hs : hasS s y = true) : hasS ⟨nextS x, s.hi, s.op⟩ y = true := by
  have h1 := next_none x y
  rw [h, Bool.true_and] at h1
  unfold hasS at hs ⊢
  rw [Bool.and_eq_true] at hs
  dsimp only
  rw [h1, hs.2]; rfl
set_option maxRecDepth 100000 in
theorem lookCells_any (a : Option Addr) (n c : Nat) (es : List En) (s : Sp) (w : World) (hn : es.length = n) (hs : ES entE w a es) (h0 : 0 < n) (hok : ∀ x ∈ es, okE x) (hsr : srt es) (hin : ∀ x ∈ es, hasS s x.k = true) (hl : n ≤ 1000000) :
    Calls Tryz.prog 65 #[.slice a n c, s.v] w fun e w' => e = .returned (.tuple #[]) ∧ Below w.heap.size w w' := by
  have Hs := Lib.hid hs
  have Hn := Lib.hid hn
  have Hok := Lib.hid hok
  have Hsr := Lib.hid hsr
  obtain ⟨W, hW, hS, hbW⟩ : ∃ W, w.alloc (.cells #[.string s.lo, .string s.hi, .bool s.op] SPT) = W ∧ SpIn W w.heap.size SPT s ∧ Below w.heap.size w W := ⟨_, rfl, SpIn.new w SPT s, (Below.refl _ _).alloc (Nat.le_refl _) _⟩
  have HW := Lib.hid hW
  have HS := Lib.hid hS
  have HB := Lib.hid hbW
  have Hin : Hid (∀ j, 0 ≤ j → j < n → hasS ⟨s.lo, s.hi, s.op⟩ (ea es j).k = true) := fun j _ hj => hin _ (ea_mem (by omega))
  have d1 : decide (0 < (n : Int)) = true := decide_eq_true (by omega)
  have d1' : decide (0 < n) = true := decide_eq_true h0
  have Hm := Lib.hid must_yes
  obtain ⟨slo, shi, sop⟩ := s
  unfold Sp.v
  dsimp only at HW HS Hin
  clear hs hn hok hsr hW hS hbW hin
  go_enter Tryz.func65, Tryz.ntmps65
  go_wp2_with fail
  rw [HW.out]
  refine (Hm.out _).mono ?_
  rintro e w1 ⟨rfl, rfl⟩
  go_wp2_with fail
  go_loopw [5, 12] (fun _ i wr => ∃ (k : Nat) (lo : ByteArray), i = .int .i64 k ∧ k ≤ n ∧ Hid (SpIn wr w.heap.size SPT ⟨lo, shi, sop⟩) ∧ Hid (∀ j, k ≤ j → j < n → hasS ⟨lo, shi, sop⟩ (ea es j).k = true) ∧ Hid (Below w.heap.size w wr)) (fun _ i _ => n - (intOf i).toNat)
  case atStart => exact ⟨0, slo, rfl, by omega, HS, Hin, HB⟩
  case round =>
    obtain ⟨k, lo, rfl, hk, hS, hI, hB⟩ := hrel
    by_cases hlt : k < n
    · obtain ⟨g, o, rfl, hcell⟩ := (Hs.out.below hB.out (Nat.le_refl _)).ents (by rw [Hn.out]; omega)
      obtain ⟨p0, p1⟩ := hcell k (by rw [Hn.out]; exact hlt)
      have hoke := Hok.out (ea es k) (ea_mem (by rw [Hn.out]; exact hlt))
      have hks := okK_size hoke.1
      have hvs := hoke.2
      obtain ⟨W1, hW1, hnew, hb1⟩ : ∃ W1, wr.alloc (.cells #[.string (ea es k).k, .string (ea es k).v] ET) = W1 ∧ W1.heap[wr.heap.size]? = some (.cells #[.string (ea es k).k, .string (ea es k).v] ET (0, 0)) ∧ Below wr.heap.size wr W1 := ⟨_, rfl, heap_new _ _ _, (Below.refl _ _).alloc (Nat.le_refl _) _⟩
      have Hml := Lib.hid (mayLie_any (ea es k) W1 (by omega) (by omega))
      have e1 : Hid (okB (ea es k) = true) := (okB_iff _).2 hoke
      rw [e1.out] at Hml
      have Hhas := Lib.hid (fun x => has_any ⟨lo, shi, sop⟩ (ea es k).k x)
      rw [hI.out k (Nat.le_refl _) hlt] at Hhas
      unfold Sp.v at Hhas
      have Hnx := Lib.hid (fun x => next_any (ea es k).k x (by omega))
      have HI2 : Hid (∀ j, k + 1 ≤ j → j < n → hasS ⟨nextS (ea es k).k, shi, sop⟩ (ea es j).k = true) := fun j h1 h2 => has_next (s := ⟨lo, shi, sop⟩) (srt_at Hsr.out (by omega) (by rw [Hn.out]; exact h2)) (hI.out j (by omega) h2)
      have HW1 := Lib.hid hW1
      have Hnew := Lib.hid hnew
      have HB1 := Lib.hid (hB.out.trans (hb1.mono hB.out.size))
      have HS1 := Lib.hid (hS.out.ext hb1)
      generalize nextS (ea es k).k = nx at *
      generalize ea es k = y at *
      obtain ⟨yk, yv⟩ := y
      dsimp only at p0 p1 Hml hks hvs HW1 Hnew Hhas Hnx
      clear hcell hoke e1 hB hI hS hW1 hnew hb1
      have c0 : W1.cell? ⟨wr.heap.size, 0, none⟩ = some (.string yk) := by simp [World.cell?, Hnew.out]
      have c1 : W1.cell? ⟨wr.heap.size, 1, none⟩ = some (.string yv) := by simp [World.cell?, Hnew.out]
      rw [← HW1.out] at c0 c1
      go_wp2_with fail
      rw [HW1.out]
      refine Hml.out.mono ?_
      rintro e w2 ⟨rfl, hb2⟩
      have hnew2 := (hb2.block _ (Array.getElem?_eq_some_iff.1 Hnew.out).1).trans Hnew.out
      have hS2 := HS1.out.ext hb2
      have HB2 := Lib.hid (HB1.out.trans (hb2.mono HB1.out.size))
      have HS2 := Lib.hid hS2
      have Hn2 := Lib.hid hnew2
      clear c0 c1 Hml hb2 Hnew HS1 HB1
      have c0 : w2.cell? ⟨wr.heap.size, 0, none⟩ = some (.string yk) := by simp [World.cell?, hnew2]
      have s0 := hS2.c0
      have s1 := hS2.c1
      have s2 := hS2.c2
      dsimp only at s0 s1 s2
      clear hnew2 hS2
      go_wp2_with fail
      refine (Hhas.out w2).mono ?_
      rintro e w3 ⟨rfl, hb3⟩
      have hnew3 := (hb3.block _ (Array.getElem?_eq_some_iff.1 Hn2.out).1).trans Hn2.out
      have HB3 := Lib.hid (HB2.out.trans (hb3.mono HB2.out.size))
      have HS3 := Lib.hid (HS2.out.ext hb3)
      clear c0 s0 s1 s2 Hhas hb3 HB2 HS2
      go_wp2_with fail
      refine (Hm.out _).mono ?_
      rintro e w4 ⟨rfl, rfl⟩
      have c0 : w3.cell? ⟨wr.heap.size, 0, none⟩ = some (.string yk) := by simp [World.cell?, hnew3]
      have s0 := HS3.out.c0
      have f0 := HS3.out.fz 0
      dsimp only at s0
      clear hnew3
      go_wp2_with fail
      refine (Hnx.out _).mono ?_
      rintro e w5 ⟨rfl, rfl⟩
      have HS4 := Lib.hid (HS3.out.set0 nx)
      have HB4 := Lib.hid (HB3.out.setCell (p := ⟨w.heap.size, 0, none⟩) (Nat.le_refl _) (.string nx))
      go_wp2_with fail
      go_roundw
      case rel => exact ⟨k + 1, nx, by go_num, by omega, HS4, HI2, HB4⟩
      case measure => simp [intOf]; omega
    · obtain rfl : k = n := by omega
      go_wp2
      go_end0
      exact ⟨rfl, hB.out⟩
end Go.Proofs.YtbgkjniagedcnaaGreatDoor
namespace Go.Proofs.YtbgkjniagedcnaaGreatDoor
open Go Go.RowKit

def lowO (lo : SB) : ByteArray := match lo with | some k => k | none => ByteArray.empty
/-- The span between two bounds. -/
def spO (lo hi : SB) : Sp := ⟨lowO lo, lowO hi, hi.isNone⟩
theorem blt_low (k : ByteArray) : blt k ByteArray.empty = false := by
  have h := blt_not (a := k) (b := ByteArray.empty)
  rw [h]
  show bl ByteArray.empty ≤ bl k
  exact List.nil_le _
theorem has_ins {lo hi : SB} {k : ByteArray} (h : ins lo hi k) : hasS (spO lo hi) k = true := by
  obtain ⟨h1, h2⟩ := h
  unfold hasS spO
  have e1 : blt k (lowO lo) = false := by
    cases lo with
    | none => exact blt_low k
    | some a => exact h1
  have e2 : (hi.isNone || blt k (lowO hi)) = true := by
    cases hi with
    | none => rfl
    | some a => exact h2
  dsimp only
  rw [e1, e2]; rfl
/-- The keys between kids lie where they must. -/
def KeysIn (ks : List ByteArray) (lo hi : SB) : Prop := ∀ i, i < ks.length → okK (sa ks i) = true ∧ ins (lob lo ks i) hi (sa ks i)
theorem keysIn_of {w : World} {h : Nat} {ks : List ByteArray} {lo hi : SB} {ps : List Nat} {ess : List (List En)} (hr : KRow (Good w h) ks lo hi ps ess) : KeysIn ks lo hi := fun i hi' => by
  have h1 := hr.split hi'
  have h2 := (h1.2.2.facts Good.facts).1
  obtain ⟨s, h3, _⟩ := hr.kid (d := ([] : List En)) (m := i) (by omega)
  have h4 := (Nd.facts h h3).1
  refine ⟨h1.2.1, ?_, ?_⟩
  · have h5 : hib hi ks i = some (sa ks i) := by unfold hib; rw [if_pos hi']
    rw [h5] at h4
    cases hl : lob lo ks i with
    | none => trivial
    | some a => rw [hl] at h4; exact blt_asym h4
  · cases hi with
    | none => trivial
    | some b => exact h2
theorem GoodV.ne {w : World} {h : Nat} {lo hi : SB} {v : NoV} {e : List En} (hg : GoodV w h lo hi v e) : e ≠ [] := by
  obtain ⟨s, hn, h1, _⟩ := hg
  rintro rfl
  cases h with
  | zero =>
    obtain ⟨_, _, _, _, h5⟩ := hn
    have : leafSz [] = 1 := by unfold leafSz szs; rw [List.length_nil, vs_small (by omega)]; rfl
    omega
  | succ h =>
    obtain ⟨ks, ps, ess, _, hr, he, _⟩ := hn
    have h7 := KRow.count (m := 2 * 4 ^ h) (fun lo hi p e hg => Good.count h lo hi p e hg) hr
    rw [← he] at h7
    have h8 : 0 < 4 ^ h := Nat.pow_pos (by omega)
    have h9 : 2 * 4 ^ h * 1 ≤ 2 * 4 ^ h * (ks.length + 1) := Nat.mul_le_mul_left _ (by omega)
    simp at h7
    omega
theorem turn_set {F : Nat → Prop} {X w : World} {b j : Nat} {v : Value} (h : Turn F X w) (hb : F b) : Turn F X (w.setCell ⟨b, j, none⟩ v) := h.setCell (p := ⟨b, j, none⟩) v (fun _ => hb)
/-- look's contract at a height. -/
def LookC (h : Nat) : Prop := ∀ (lo hi : SB) (v : NoV) (es : List En) (s : Nat) (w : World), NdV w h lo hi v es s → s ≤ 504 → (0 < h → 3 ≤ s) → es ≠ [] → es.length ≤ 100000 →
  Calls Tryz.prog 41 #[v.v, (spO lo hi).v, .int .i64 ((h + 1 : Nat) : Int)] w fun e w' => e = .returned (.tuple #[]) ∧ Below w.heap.size w w'
set_option maxHeartbeats 4000000 in
set_option maxRecDepth 100000 in
theorem lookKids_any {h : Nat} (ih : LookC h) (a a2 : Option Addr) (m c n c2 : Nat) (ks : List ByteArray) (vs : List NoV) (ess : List (List En)) (lo hi : SB) (w : World) (hm : ks.length = m) (hn : vs.length = n) (hks : ES strE w a ks) (hvs : ES nodE w a2 vs)
    (hk : KidsV w h ks lo hi vs ess) (hki : KeysIn ks lo hi) (hm0 : 0 < m) (hm9 : m ≤ 100000) (hl : ess.flatten.length ≤ 100000) (hh : h ≤ 100000) :
    Calls Tryz.prog 67 #[.slice a m c, .slice a2 n c2, (spO lo hi).v, .int .i64 ((h + 1 + 1 : Nat) : Int)] w fun e w' => e = .returned (.tuple #[]) ∧ Below w.heap.size w w' := by
  have hnm : n = m + 1 := by rw [← hn, ← hm]; exact hk.1
  have Hks := Lib.hid hks
  have Hvs := Lib.hid hvs
  have Hk := Lib.hid hk
  have Hki := Lib.hid hki
  have HM := Lib.hid hm
  have HN := Lib.hid hn
  have Hl := Lib.hid hl
  have Hih := Lib.hid ih
  obtain ⟨g1, o1, rfl, hc1⟩ := hks.texts (by omega)
  have Hc1 := Lib.hid hc1
  obtain ⟨W, hW, hS, hbW⟩ : ∃ W, w.alloc (.cells #[.string (spO lo hi).lo, .string (spO lo hi).hi, .bool (spO lo hi).op] SPT) = W ∧ SpIn W w.heap.size SPT (spO lo hi) ∧ Below w.heap.size w W := ⟨_, rfl, SpIn.new w SPT (spO lo hi), (Below.refl _ _).alloc (Nat.le_refl _) _⟩
  have HW := Lib.hid hW
  have HS : Hid (SpIn W w.heap.size SPT (spO (lob lo ks 0) hi)) := hS
  have HB := Lib.hid hbW
  have d1 : decide (0 < (m : Int)) = true := decide_eq_true (by omega)
  have d1' : decide (0 < m) = true := decide_eq_true hm0
  have Hm := Lib.hid must_yes
  have d2 : ((n : Int) == (m : Int) + 1) = true := by rw [beq_iff_eq]; omega
  obtain ⟨D, hD⟩ : ∃ D, D = h + 1 := ⟨_, rfl⟩
  have zD : IntKind.i64.wrap (((D + 1 : Nat) : Int) - 1) = (D : Int) := by rw [IntKind.wrap_i64]; omega
  obtain ⟨D1, hD1⟩ : ∃ D1, D1 = D + 1 := ⟨_, rfl⟩
  rw [← hD1] at zD
  rw [← hD, ← hD1]
  have HD := Lib.hid hD
  obtain ⟨q0, q1, q2⟩ : ∃ x y z, spO lo hi = ⟨x, y, z⟩ := ⟨_, _, _, rfl⟩
  obtain ⟨q2, hq⟩ := q2
  have Hnm := Lib.hid hnm
  have hn9 : n ≤ 100001 := by omega
  unfold Sp.v
  rw [hq] at HW ⊢
  dsimp only at HW ⊢
  clear hks hvs hk hki hm hn hl ih hc1 hW hS hbW hD hD1 hq hm0 hnm
  go_enter Tryz.func67, Tryz.ntmps67
  go_wp2_with fail
  rw [HW.out]
  refine (Hm.out _).mono ?_
  rintro e w1 ⟨rfl, rfl⟩
  go_wp2_with fail
  go_loopw [8, 9, 10, 25] (fun _ _ _ i wr => ∃ k : Nat, i = .int .i64 k ∧ k ≤ n ∧ Hid (k ≤ m → SpIn wr w.heap.size SPT (spO (lob lo ks k) hi)) ∧ Hid (Below w.heap.size w wr)) (fun _ _ _ i _ => n - (intOf i).toNat)
  case atStart => exact ⟨0, rfl, by omega, fun _ => HS.out, HB⟩
  case round =>
    obtain ⟨k, rfl, hk, hS, hB⟩ := hrel
    by_cases hlt : k < n
    · obtain ⟨g2, o2, rfl, hcell⟩ := (Hvs.out.below hB.out (Nat.le_refl _)).nods (by rw [HN.out]; omega)
      obtain ⟨p0, p1, p2, p3⟩ := hcell k (by rw [HN.out]; exact hlt)
      have hg := Hk.out.2.2 k (by rw [HN.out]; exact hlt)
      have hne := hg.ne
      obtain ⟨sk, hk1, hk2, hk3⟩ := hg
      obtain ⟨W1, hW1, hV1, hb1⟩ := NV.of wr (va vs k)
      have HB1 := Lib.hid (hB.out.trans (hb1.mono hB.out.size))
      have Hsz := Lib.hid (nsize_any W1 (hk1.ext HB1.out) (by omega))
      have Hen : Hid (∀ x, Calls Tryz.prog 83 #[.int .i64 (sk : Nat)] x fun e w' => e = .returned (.bool true) ∧ x = w') := fun x => by
        have := enough_any (sk : Int) x
        rw [decide_eq_true (by omega)] at this; exact this
      have hlk : (ess.getD k []).length ≤ 100000 := by
        have het := ess_take (ess := ess) (i := k) (by have := Hk.out.2.1; have := HM.out; have := Hnm.out; omega)
        have hsum : (ess.take (k + 1)).flatten.length ≤ ess.flatten.length := by
          conv => rhs; rw [← List.take_append_drop (k + 1) ess, List.flatten_append, List.length_append]
          omega
        rw [het, List.length_append] at hsum; have := Hl.out; omega
      have Hlook : Hid (∀ x, Below w.heap.size w x → Calls Tryz.prog 41 #[(va vs k).v, (spO (lob lo ks k) (hib hi ks k)).v, .int .i64 (D : Int)] x fun e w' => e = .returned (.tuple #[]) ∧ Below x.heap.size x w') := fun x hx => by
        have := Hih.out (lob lo ks k) (hib hi ks k) (va vs k) (ess.getD k []) sk x (hk1.ext hx) hk3 (fun _ => by omega) hne hlk
        rw [← HD.out] at this; exact this
      have hSk := hS.out (by have := Hnm.out; omega)
      obtain ⟨L0, hL0⟩ : ∃ x, lowO (lob lo ks k) = x := ⟨_, rfl⟩
      obtain ⟨H0, hH0⟩ : ∃ x, lowO hi = x := ⟨_, rfl⟩
      obtain ⟨O0, hO0⟩ : ∃ x, hi.isNone = x := ⟨_, rfl⟩
      unfold spO at hSk
      rw [hL0, hH0, hO0] at hSk
      have HL := Lib.hid (And.intro hL0 (And.intro hH0 hO0))
      have HS1 := Lib.hid (hSk.ext hb1)
      have HW1 := Lib.hid hW1
      have HV1 := Lib.hid hV1
      obtain ⟨K, hK0⟩ : ∃ K, wr.heap.size = K := ⟨_, rfl⟩
      have HK0 : Hid (K = wr.heap.size ∧ w.heap.size < K) := ⟨hK0.symm, by rw [← hK0]; exact hSk.lt⟩
      rw [hK0] at HV1
      generalize va vs k = x at *
      obtain ⟨xg, xa, xn, xc, ya, yn, yc, za, zn, zc⟩ := x
      dsimp only [NoV.c, NoV.k, NoV.p, NoV.v] at *
      clear hcell hk1 hk2 hk3 hne hlk hW1 hV1 hb1 hSk hL0 hH0 hO0 hS hB
      go_wp2_with fail
      rw [HW1.out]
      clear hK0
      refine Hsz.out.mono ?_
      rintro e w2 ⟨rfl, hb2⟩
      have HV2 := Lib.hid (HV1.out.ext hb2)
      have HS2 := Lib.hid (HS1.out.ext hb2)
      have HB2 := Lib.hid (HB1.out.trans (hb2.mono HB1.out.size))
      clear hb2 Hsz HV1 HS1 HB1 p0 p1 p2 p3
      go_wp2_with fail
      refine (Hen.out _).mono ?_
      rintro e w3 ⟨rfl, rfl⟩
      go_wp2_with fail
      refine (Hm.out _).mono ?_
      rintro e w3 ⟨rfl, rfl⟩
      have s0 := HS2.out.c0
      have s1 := HS2.out.c1
      have s2 := HS2.out.c2
      dsimp only at s0 s1 s2
      obtain ⟨W3, hW3, hP3, hb3⟩ : ∃ W3, w2.alloc (.cells #[.string L0, .string H0, .bool O0] SPT) = W3 ∧ SpIn W3 w2.heap.size SPT ⟨L0, H0, O0⟩ ∧ Below w2.heap.size w2 W3 := ⟨_, rfl, SpIn.new w2 SPT ⟨L0, H0, O0⟩, (Below.refl _ _).alloc (Nat.le_refl _) _⟩
      obtain ⟨PB, hPB⟩ : ∃ PB, w2.heap.size = PB := ⟨_, rfl⟩
      have HPB : Hid (K < PB) := by show _ < _; rw [← hPB]; exact HV2.out.lt
      have HB3 := Lib.hid (HB2.out.trans (hb3.mono HB2.out.size))
      have HV3 := Lib.hid (HV2.out.ext hb3)
      have HS3 := Lib.hid (HS2.out.ext hb3)
      rw [hPB] at hP3
      have HP3 := Lib.hid hP3
      by_cases hkm : k < m
      · have d3 : decide ((k : Int) < (m : Int)) = true := decide_eq_true (by omega)
        have d3' : decide (k < m) = true := decide_eq_true hkm
        obtain ⟨X1, hX1⟩ : ∃ X1, W3.drew = X1 := ⟨_, rfl⟩
        have hbx : Below W3.heap.size W3 X1 := by rw [← hX1]; exact (Below.refl _ _).drew
        have HX1 : Hid ((w2.alloc (.cells #[.string L0, .string H0, .bool O0] SPT)).drew = X1) := by show _ = _; rw [hW3, hX1]
        have HBx := Lib.hid (HB3.out.trans (hbx.mono HB3.out.size))
        have HSx := Lib.hid (HS3.out.ext hbx)
        have HVx := Lib.hid (HV3.out.ext hbx)
        have HPx := Lib.hid (HP3.out.ext hbx)
        have hkk := Hki.out k (by rw [HM.out]; exact hkm)
        have hkc := Hc1.out k (by rw [HM.out]; exact hkm)
        obtain ⟨Q, hQ⟩ : ∃ Q, sa ks k = Q := ⟨_, rfl⟩
        have Hlk2 : Hid (∀ x, Below w.heap.size w x → Calls Tryz.prog 41 #[.agg #[.int .i64 (xg : Nat), .slice xa xn xc, .slice ya yn yc, .slice za zn zc], .agg #[.string L0, .string Q, .bool false], .int .i64 (D : Int)] x fun e w' => e = .returned (.tuple #[]) ∧ Below x.heap.size x w') := fun x hx => by
          have := Hlook.out x hx
          rw [show hib hi ks k = some Q by unfold hib; rw [if_pos (by rw [HM.out]; exact hkm), hQ]] at this
          unfold spO Sp.v at this
          rw [HL.out.1] at this
          exact this
        have Hck : Hid (∀ x, Calls Tryz.prog 37 #[.string Q] x fun e w' => e = .returned .nilIface ∧ x = w') := fun x => by
          have := check_any Q x
          unfold chkV at this
          rw [← hQ, hkk.1, hQ] at this
          exact this
        have Hhs : Hid (∀ x, Calls Tryz.prog 60 #[.agg #[.string L0, .string H0, .bool O0], .string Q] x fun e w' => e = .returned (.bool true) ∧ Below x.heap.size x w') := fun x => by
          have := has_any (spO (lob lo ks k) hi) (sa ks k) x
          rw [has_ins hkk.2, hQ] at this
          unfold spO Sp.v at this
          rw [HL.out.1, HL.out.2.1, HL.out.2.2] at this
          exact this
        have Hnxt : Hid (spO (lob lo ks (k + 1)) hi = ⟨Q, H0, O0⟩) := by
          show _ = _
          unfold spO
          rw [HL.out.2.1, HL.out.2.2, show lob lo ks (k + 1) = some Q by unfold lob; rw [if_neg (by omega), Nat.add_sub_cancel, hQ]]; rfl
        rw [hQ] at hkc
        have lkc := block_lt_of_cell hkc
        have r3 : ∀ w', Ext X1 w' → w'.cell? ⟨g1, o1 + k, none⟩ = some (.string Q) := fun w' hx => by
          rw [(HBx.out.trans (hx.mono HBx.out.size)).cell (p := ⟨g1, o1 + k, none⟩) lkc]; exact hkc
        have t0 : ∀ w', Ext X1 w' → w'.cell? ⟨w.heap.size, 0, none⟩ = some (.string L0) := fun w' hx => (HSx.out.ext hx).c0
        have t1 : ∀ w', Ext X1 w' → w'.cell? ⟨w.heap.size, 1, none⟩ = some (.string H0) := fun w' hx => (HSx.out.ext hx).c1
        have t2 : ∀ w', Ext X1 w' → w'.cell? ⟨w.heap.size, 2, none⟩ = some (.bool O0) := fun w' hx => (HSx.out.ext hx).c2
        have i1 : (0 : Int) ≤ (k : Int) := by omega
        have i2 : (k : Int) < (m : Int) := by omega
        have z0 : IntKind.i64.wrap (k : Int) = (k : Int) := by rw [IntKind.wrap_i64]; omega
        have Hkc := Lib.hid (And.intro hkc lkc)
        clear hW3 hP3 hb3 HB3 HV3 HS3 HP3 hX1 hbx hkk hkc lkc hQ Hlook HB2 HV2 HS2 Hen
        go_wp2_with fail
        refine wp_region_gr [(0, true), (1, true), (2, true), (3, true), (4, false), (5, true), (6, true), (7, true), (8, true), (9, true), (10, true), (11, true), (12, false), (13, true), (14, false)] (by kernel_rfl) (by kernel_rfl) (by kernel_rfl) (by kernel_rfl) (fun _ _ _ _ _ h => h) ?_
        rw [HX1.out]
        clear hPB s0 s1 s2
        iterate 4 (refine wpGr_read (o := ⟨_, _, _, _, _, _⟩) (v := ?_) rfl (by rfl) ?_ ?_; rotate_left; (intro w' hw'; go_simp; with_reducible rfl); simp only [Act.put, List.setIfInBounds_toArray, List.set_cons_zero, List.set_cons_succ])
        refine wpGr_call (o := ⟨_, _, _, _, _, _⟩) rfl (by rfl) (fun K hK => ?_)
        go_simp
        refine (Hck.out _).mono ?_
        rintro e w3 ⟨rfl, rfl⟩
        refine hK _ _ (Ext.refl _) ?_
        clear hK K Hck
        iterate 7 (refine wpGr_read (o := ⟨_, _, _, _, _, _⟩) (v := ?_) rfl (by rfl) ?_ ?_; rotate_left; (intro w' hw'; go_simp; with_reducible rfl); simp only [Act.put, List.setIfInBounds_toArray, List.set_cons_zero, List.set_cons_succ])
        clear r3 t0 t1 t2
        refine wpGr_call (o := ⟨_, _, _, _, _, _⟩) rfl (by rfl) (fun K hK => ?_)
        go_simp
        refine (Hhs.out _).mono ?_
        rintro e w4 ⟨rfl, hb4⟩
        refine hK _ _ hb4 ?_
        clear hK K Hhs
        replace HBx := Lib.hid (HBx.out.trans (hb4.mono HBx.out.size))
        replace HSx := Lib.hid (HSx.out.ext hb4)
        replace HVx := Lib.hid (HVx.out.ext hb4)
        replace HPx := Lib.hid (HPx.out.ext hb4)
        clear hb4
        iterate 1 (refine wpGr_read (o := ⟨_, _, _, _, _, _⟩) (v := ?_) rfl (by rfl) ?_ ?_; rotate_left; (intro w' hw'; go_simp; with_reducible rfl); simp only [Act.put, List.setIfInBounds_toArray, List.set_cons_zero, List.set_cons_succ])
        refine wpGr_call (o := ⟨_, _, _, _, _, _⟩) rfl (by rfl) (fun K hK => ?_)
        go_simp
        refine (Hm.out _).mono ?_
        rintro e w5 ⟨rfl, rfl⟩
        refine hK _ _ (Ext.refl _) ?_
        clear hK K
        refine wpGr_done ?_
        obtain ⟨X3, hX3⟩ : ∃ X3, w4.drew = X3 := ⟨_, rfl⟩
        have hbx : Below w4.heap.size w4 X3 := by rw [← hX3]; exact (Below.refl _ _).drew
        have HX3 := Lib.hid hX3
        replace HBx := Lib.hid (HBx.out.trans (hbx.mono HBx.out.size))
        replace HSx := Lib.hid (HSx.out.ext hbx)
        replace HVx := Lib.hid (HVx.out.ext hbx)
        replace HPx := Lib.hid (HPx.out.ext hbx)
        have hne1 : ¬ PB = w.heap.size := by have := HPB.out; have := HK0.out.2; omega
        have hne2 : ¬ w.heap.size = PB := by have := HPB.out; have := HK0.out.2; omega
        have hne3 : ¬ K = w.heap.size := by have := HK0.out.2; omega
        have hne4 : ¬ w.heap.size = K := by have := HK0.out.2; omega
        have hne5 : ¬ K = PB := by have := HPB.out; omega
        have t0 : ∀ w', Turn (fun i => i = PB) X3 w' → w'.cell? ⟨w.heap.size, 0, none⟩ = some (.string L0) := fun w' hx => SpIn.c0 (s := ⟨L0, H0, O0⟩) (T := SPT) (hx.hg HSx.out hne2)
        have r3 : ∀ w', Turn (fun i => i = PB) X3 w' → w'.cell? ⟨g1, o1 + k, none⟩ = some (.string Q) := fun w' hx => by
          have h1 : X3.cell? ⟨g1, o1 + k, none⟩ = some (.string Q) := by rw [HBx.out.cell (p := ⟨g1, o1 + k, none⟩) Hkc.out.2]; exact Hkc.out.1
          rw [hx.cell (p := ⟨g1, o1 + k, none⟩) (block_lt_of_cell h1) (by have := Hkc.out.2; have := HPB.out; have := HK0.out.2; show ¬ g1 = PB; omega)]; exact h1
        clear hX3 hbx
        go_wp2_with fail
        refine wp_region_gt (F := fun i => i = PB) [(0, true), (1, true), (2, true), (3, true), (4, true), (5, true), (6, true), (7, false)] (by kernel_rfl) (by kernel_rfl) (by kernel_rfl) (by kernel_rfl) (fun _ _ _ _ _ h => h) ?_
        rw [HX3.out]
        iterate 7 (refine wpGt_read (o := ⟨_, _, _, _, _, _⟩) (v := ?_) rfl (by rfl) ?_ ?_; rotate_left; (intro w' hw'; go_simp; with_reducible rfl); simp only [Act.put, List.setIfInBounds_toArray, List.set_cons_zero, List.set_cons_succ])
        clear t0 r3
        have f0 := HPx.out.fz 0
        have f1 := HPx.out.fz 1
        have f2 := HPx.out.fz 2
        have e0 := HPx.out.c0
        have e1 := HPx.out.c1
        have e2 := HPx.out.c2
        refine wpGt_call (o := ⟨_, _, _, _, _, _⟩) rfl (by rfl) (fun K hK => ?_)
        go_simp
        have hst : Turn (fun i => i = PB) X3 (((X3.setCell ⟨PB, 0, none⟩ (.string L0)).setCell ⟨PB, 1, none⟩ (.string Q)).setCell ⟨PB, 2, none⟩ (.bool false)) := turn_set (turn_set (turn_set (Turn.refl _ X3) rfl) rfl) rfl
        refine hK _ _ hst ?_
        clear hK K
        have hP4 : SpIn (((X3.setCell ⟨PB, 0, none⟩ (.string L0)).setCell ⟨PB, 1, none⟩ (.string Q)).setCell ⟨PB, 2, none⟩ (.bool false)) PB SPT ⟨L0, Q, false⟩ := heap_setCell_same _ PB 2 _ _ _ (heap_setCell_same _ PB 1 _ _ _ (heap_setCell_same X3 PB 0 _ _ _ HPx.out))
        have hS4 : SpIn (((X3.setCell ⟨PB, 0, none⟩ (.string L0)).setCell ⟨PB, 1, none⟩ (.string Q)).setCell ⟨PB, 2, none⟩ (.bool false)) w.heap.size SPT ⟨L0, H0, O0⟩ := hst.hg HSx.out hne2
        have hV4 : NP (((X3.setCell ⟨PB, 0, none⟩ (.string L0)).setCell ⟨PB, 1, none⟩ (.string Q)).setCell ⟨PB, 2, none⟩ (.bool false)) K xg (.slice xa xn xc) (.slice ya yn yc) (.slice za zn zc) := (HVx.out).elim fun T h => ⟨T, h.1, hst.hg h.2 hne5⟩
        have hB4 : Below w.heap.size w (((X3.setCell ⟨PB, 0, none⟩ (.string L0)).setCell ⟨PB, 1, none⟩ (.string Q)).setCell ⟨PB, 2, none⟩ (.bool false)) := HBx.out.trans (hst.below HBx.out.size (fun i hi => by have := HPB.out; have := HK0.out.2; omega))
        clear f0 f1 f2 e0 e1 e2 hst HPx HSx HVx HBx HX3
        generalize (((X3.setCell ⟨PB, 0, none⟩ (.string L0)).setCell ⟨PB, 1, none⟩ (.string Q)).setCell ⟨PB, 2, none⟩ (.bool false)) = X4 at *
        refine wpGt_done ?_
        have q4 : X4.cell? ⟨g1, o1 + k, none⟩ = some (.string Q) := by rw [hB4.cell (p := ⟨g1, o1 + k, none⟩) Hkc.out.2]; exact Hkc.out.1
        have hS5 := hS4.set0 Q
        have hb5 : Turn (fun i => i = w.heap.size) X4 (X4.setCell ⟨w.heap.size, 0, none⟩ (.string Q)) := turn_set (Turn.refl _ X4) rfl
        have hP5 : SpIn (X4.setCell ⟨w.heap.size, 0, none⟩ (.string Q)) PB SPT ⟨L0, Q, false⟩ := hb5.hg hP4 hne1
        have hV5 : NP (X4.setCell ⟨w.heap.size, 0, none⟩ (.string Q)) K xg (.slice xa xn xc) (.slice ya yn yc) (.slice za zn zc) := (hV4).elim fun T h => ⟨T, h.1, hb5.hg h.2 hne3⟩
        have hB5 : Below w.heap.size w (X4.setCell ⟨w.heap.size, 0, none⟩ (.string Q)) := hB4.setCell (p := ⟨w.heap.size, 0, none⟩) (Nat.le_refl _) _
        have a0 := hP4.c0
        have a1 := hP4.c1
        have a2 := hP4.c2
        have b0 := hV4.c0
        have b1 := hV4.c1
        have b2 := hV4.c2
        have b2' := hV4.c3
        have a3 := hP5.c0
        have a4 := hP5.c1
        have a5 := hP5.c2
        have b3 := hV5.c0
        have b4 := hV5.c1
        have b5 := hV5.c2
        have b5' := hV5.c3
        have c0 := hS4.c0
        have f0 := hS4.fz 0
        dsimp only at a0 a1 a2 a3 a4 a5 c0
        have Hlk3 := Lib.hid (Hlk2.out _ hB5)
        have HS5 := Lib.hid hS5
        have HB5 := Lib.hid hB5
        clear hP4 hV4 hP5 hV5 hS4 hS5 hB4 hB5 hb5 Hlk2
        go_wp2_with fail
        refine Hlk3.out.mono ?_
        rintro e w6 ⟨rfl, hb6⟩
        have HS6 : Hid (k + 1 ≤ m → SpIn w6 w.heap.size SPT (spO (lob lo ks (k + 1)) hi)) := fun _ => by rw [Hnxt.out]; exact HS5.out.ext hb6
        have HB6 := Lib.hid (HB5.out.trans (hb6.mono HB5.out.size))
        clear hb6 HS5 HB5 Hlk3 a0 a1 a2 a3 a4 a5 b0 b1 b2 b2' b3 b4 b5 b5' c0 f0 q4 hne1 hne2 hne3 hne4 hne5
        go_wp2_with fail
        go_roundw
        case rel => exact ⟨k + 1, by go_num, by omega, HS6, HB6⟩
        case measure => simp [intOf]; omega
      · have d3 : decide ((k : Int) < (m : Int)) = false := decide_eq_false (by omega)
        have d3' : decide (k < m) = false := decide_eq_false hkm
        have Hlk2 : Hid (Calls Tryz.prog 41 #[.agg #[.int .i64 (xg : Nat), .slice xa xn xc, .slice ya yn yc, .slice za zn zc], .agg #[.string L0, .string H0, .bool O0], .int .i64 (D : Int)] W3 fun e w' => e = .returned (.tuple #[]) ∧ Below W3.heap.size W3 w') := by
          have := Hlook.out W3 HB3.out
          rw [show hib hi ks k = hi by unfold hib; rw [if_neg (by rw [HM.out]; exact hkm)]] at this
          unfold spO Sp.v at this
          rw [HL.out.1, HL.out.2.1, HL.out.2.2] at this
          exact this
        have b0 := HV2.out.c0
        have b1 := HV2.out.c1
        have b2 := HV2.out.c2
        have b2' := HV2.out.c3
        have b3 := HV3.out.c0
        have b4 := HV3.out.c1
        have b5 := HV3.out.c2
        have b5' := HV3.out.c3
        dsimp only [NoV.c, NoV.k, NoV.p] at b0 b1 b2 b2' b3 b4 b5 b5'
        rw [← hW3] at b3 b4 b5 b5'
        have HW3 := Lib.hid hW3
        have HPe := Lib.hid hPB
        have Hge : Hid (m ≤ k) := by show _ ≤ _; omega
        clear hW3 hP3 hb3 HV3 HS3 HP3 hPB Hlook HB2 HV2 HS2 Hen hkm
        go_wp2_with fail
        rw [HW3.out]
        refine Hlk2.out.mono ?_
        rintro e w6 ⟨rfl, hb6⟩
        have HB6 := Lib.hid (HB3.out.trans (hb6.mono HB3.out.size))
        have HS6 : Hid (k + 1 ≤ m → SpIn w6 w.heap.size SPT (spO (lob lo ks (k + 1)) hi)) := fun h => by have := Hge.out; omega
        clear hb6 Hlk2 b0 b1 b2 b2' b3 b4 b5 b5' s0 s1 s2
        go_wp2_with fail
        go_roundw
        case rel => exact ⟨k + 1, by go_num, by omega, HS6, HB6⟩
        case measure => simp [intOf]; omega
    · obtain rfl : k = n := by omega
      go_wp2
      go_end0
      exact ⟨rfl, hB.out⟩
end Go.Proofs.YtbgkjniagedcnaaGreatDoor
namespace Go.Proofs.YtbgkjniagedcnaaGreatDoor
open Go Go.RowKit

theorem two_vs (w : World) (v : NoV) (s : Sp) : ∃ W, (w.alloc (.cells #[.int .i64 (v.pg : Nat), v.c, v.k, v.p] VT)).alloc (.cells #[.string s.lo, .string s.hi, .bool s.op] SPT) = W ∧ NPv W w.heap.size v ∧ SpIn W (w.heap.size + 1) SPT s ∧ Below w.heap.size w W := by
  refine ⟨_, rfl, NP.ext (NP.newV w v.pg _ _ _) ((Below.refl _ _).alloc (Nat.le_refl _) _), ?_, ((Below.refl w.heap.size w).alloc (Nat.le_refl _) _).alloc (by simp) _⟩
  have h := SpIn.new (w.alloc (.cells #[.int .i64 (v.pg : Nat), v.c, v.k, v.p] VT)) SPT s
  rw [show (w.alloc (.cells #[.int .i64 (v.pg : Nat), v.c, v.k, v.p] VT)).heap.size = w.heap.size + 1 by simp] at h
  exact h
theorem fits_yes (s : Nat) (h : s ≤ 504) (x : World) : Calls Tryz.prog 63 #[.int .i64 (s : Nat)] x fun e w' => e = .returned (.bool true) ∧ x = w' := by
  have := fits_any (s : Int) x
  rw [show fiB (s : Int) = true by unfold fiB; simp; omega] at this
  exact this
set_option maxHeartbeats 4000000 in
set_option maxRecDepth 100000 in
theorem look_leaf : LookC 0 := by
  intro lo hi v es s w hn hs hs3 hne hl
  have hf := hn.facts
  have hin : ∀ y ∈ es, hasS (spO lo hi) y.k = true := fun y hy => has_ins (hf.2.2 y hy).2
  obtain ⟨S0, hS0⟩ : ∃ S0, spO lo hi = S0 := ⟨_, rfl⟩
  rw [hS0] at hin ⊢
  obtain ⟨W, hW, hV, hS, hb⟩ := two_vs w v S0
  have hn' := hn.ext hb
  have Hsz := Lib.hid (nsize_any W hn' (by omega))
  have Hft := Lib.hid (fun x => fits_yes s hs x)
  have Hm := Lib.hid must_yes
  have Hlf : Hid (∀ x, Below W.heap.size W x → Calls Tryz.prog 48 #[v.v] x fun e w' => e = .returned (.bool true) ∧ Below x.heap.size x w') := fun x hx => nleaf_yes x (hn'.ext hx)
  have Hcl : Hid (∀ x, Below W.heap.size W x → Calls Tryz.prog 66 #[v.v] x fun e w' => ∃ u, e = .returned u ∧ EV entE w' u es ∧ Below x.heap.size x w') := fun x hx => ncells_any x (hn'.ext hx) (by omega)
  have hpos : 0 < es.length := List.length_pos_iff.2 hne
  have Hlc : Hid (∀ x a c, ES entE x a es → Calls Tryz.prog 65 #[.slice a es.length c, S0.v] x fun e w' => e = .returned (.tuple #[]) ∧ Below x.heap.size x w') := fun x a c h => lookCells_any a es.length c es S0 x rfl h hpos (fun y hy => (hf.2.2 y hy).1) hf.2.1 hin (by omega)
  obtain ⟨L0, H0, O0⟩ := S0
  unfold Sp.v at Hlc ⊢
  dsimp only at hW Hlc
  have q0 := hV.c0
  have q1 := hV.c1
  have q2 := hV.c2
  have q3 := hV.c3
  rw [← hW] at q0 q1 q2 q3
  have HV := Lib.hid hV
  have HS := Lib.hid hS
  have HW := Lib.hid hW
  have HB := Lib.hid hb
  obtain ⟨pg, ca, cn, cc, ka, kn, kc, pa, pn, pc⟩ := v
  dsimp only [NoV.c, NoV.k, NoV.p, NoV.v] at *
  obtain ⟨E1, hE1⟩ : ∃ E1, ((0 + 1 : Nat) : Int) = E1 := ⟨_, rfl⟩
  have d1 : (E1 == 1) = true := by rw [← hE1]; rfl
  rw [hE1]
  clear hn hn' hS0 hS hV hW hb hf hne hs hs3 hpos hE1 hin
  go_enter Tryz.func41, Tryz.ntmps41
  go_wp2_with fail
  rw [HW.out]
  refine Hsz.out.mono ?_
  rintro e w1 ⟨rfl, hb1⟩
  have HX1 := Lib.hid hb1
  have HV1 := Lib.hid (HV.out.ext hb1)
  have HS1 := Lib.hid (HS.out.ext hb1)
  clear hb1 q0 q1 q2 q3 Hsz
  go_wp2_with fail
  refine (Hft.out _).mono ?_
  rintro e w2 ⟨rfl, rfl⟩
  go_wp2_with fail
  refine (Hm.out _).mono ?_
  rintro e w2 ⟨rfl, rfl⟩
  have q0 := HV1.out.c0
  have q1 := HV1.out.c1
  have q2 := HV1.out.c2
  have q3 := HV1.out.c3
  have Hlf1 := Lib.hid (Hlf.out w1 HX1.out)
  clear Hlf
  go_wp2_with fail
  refine Hlf1.out.mono ?_
  rintro e w2 ⟨rfl, hb2⟩
  have HX2 := Lib.hid (HX1.out.trans (hb2.mono HX1.out.size))
  have HV2 := Lib.hid (HV1.out.ext hb2)
  have HS2 := Lib.hid (HS1.out.ext hb2)
  clear hb2 q0 q1 q2 q3 Hlf1 HX1 HV1 HS1
  go_wp2_with fail
  refine (Hm.out _).mono ?_
  rintro e w3 ⟨rfl, rfl⟩
  obtain ⟨X, hX⟩ : ∃ X, w2.drew = X := ⟨_, rfl⟩
  have hbx : Below w2.heap.size w2 X := by rw [← hX]; exact (Below.refl _ _).drew
  have HX := Lib.hid hX
  have HX3 := Lib.hid (HX2.out.trans (hbx.mono HX2.out.size))
  have hV3 := HV2.out.ext hbx
  have hS3 := HS2.out.ext hbx
  have r0 : ∀ w', Ext X w' → w'.cell? ⟨w.heap.size, 0, none⟩ = some (.int .i64 (pg : Nat)) := fun w' hx => (NP.ext hV3 hx).c0
  have r1 : ∀ w', Ext X w' → w'.cell? ⟨w.heap.size, 1, none⟩ = some (.slice ca cn cc) := fun w' hx => (NP.ext hV3 hx).c1
  have r2 : ∀ w', Ext X w' → w'.cell? ⟨w.heap.size, 2, none⟩ = some (.slice ka kn kc) := fun w' hx => (NP.ext hV3 hx).c2
  have r3 : ∀ w', Ext X w' → w'.cell? ⟨w.heap.size, 3, none⟩ = some (.slice pa pn pc) := fun w' hx => (NP.ext hV3 hx).c3
  have t0 : ∀ w', Ext X w' → w'.cell? ⟨w.heap.size + 1, 0, none⟩ = some (.string L0) := fun w' hx => (hS3.ext hx).c0
  have t1 : ∀ w', Ext X w' → w'.cell? ⟨w.heap.size + 1, 1, none⟩ = some (.string H0) := fun w' hx => (hS3.ext hx).c1
  have t2 : ∀ w', Ext X w' → w'.cell? ⟨w.heap.size + 1, 2, none⟩ = some (.bool O0) := fun w' hx => (hS3.ext hx).c2
  have Hcl1 := Lib.hid (Hcl.out X HX3.out)
  clear hX hbx hV3 hS3 HX2 HV2 HS2 Hcl
  go_wp2_with fail
  refine wp_region_gr [(0, true), (2, true), (1, false), (3, false)] (by kernel_rfl) (by kernel_rfl) (by kernel_rfl) (by kernel_rfl) (fun _ _ _ _ _ h => h) ?_
  rw [HX.out]
  iterate 2 (refine wpGr_read (o := ⟨_, _, _, _, _, _⟩) (v := ?_) rfl (by rfl) ?_ ?_; rotate_left; (intro w' hw'; go_simp; with_reducible rfl); simp only [Act.put, List.setIfInBounds_toArray, List.set_cons_zero, List.set_cons_succ])
  clear r0 r1 r2 r3 t0 t1 t2
  refine wpGr_call (o := ⟨_, _, _, _, _, _⟩) rfl (by rfl) (fun K hK => ?_)
  go_simp
  refine Hcl1.out.mono ?_
  rintro e w4 ⟨u, rfl, ⟨a4, c4, rfl, hs4, _⟩, hb4⟩
  refine hK _ _ hb4 ?_
  clear hK K Hcl1
  have HX4 := Lib.hid (HX3.out.trans (hb4.mono HX3.out.size))
  have Hlc4 := Lib.hid (Hlc.out w4 a4 c4 hs4)
  clear hb4 hs4 Hlc
  refine wpGr_call (o := ⟨_, _, _, _, _, _⟩) rfl (by rfl) (fun K hK => ?_)
  go_simp
  refine Hlc4.out.mono ?_
  rintro e w5 ⟨rfl, hb5⟩
  refine hK _ _ hb5 ?_
  clear hK K Hlc4
  have HX5 := Lib.hid (HB.out.trans ((HX4.out.trans (hb5.mono HX4.out.size)).mono HB.out.size))
  clear hb5
  refine wpGr_done ?_
  go_wp2_with fail
  go_end0
  exact ⟨rfl, HX5.out⟩
set_option maxHeartbeats 4000000 in
set_option maxRecDepth 100000 in
theorem look_bran {h : Nat} (ih : LookC h) (hh : h ≤ 100000) : LookC (h + 1) := by
  intro lo hi v es s w hn hs hs3 hne hl
  obtain ⟨S0, hS0⟩ : ∃ S0, spO lo hi = S0 := ⟨_, rfl⟩
  rw [hS0]
  obtain ⟨W, hW, hV, hS, hb⟩ := two_vs w v S0
  have hn' := hn.ext hb
  have Hsz := Lib.hid (nsize_any W hn' (by omega))
  have Hft := Lib.hid (fun x => fits_yes s hs x)
  have Hm := Lib.hid must_yes
  have Hlf : Hid (∀ x, Below W.heap.size W x → Calls Tryz.prog 48 #[v.v] x fun e w' => e = .returned (.bool false) ∧ Below x.heap.size x w') := fun x hx => nleaf_no x (hn'.ext hx)
  obtain ⟨ks, ps, ess, ⟨k1, k2, k3⟩, hr, rfl, hsz⟩ := hn'
  have hgk := kss_range (hr.facts Good.facts).2.2.2
  have hkl : ks.length ≤ 1000 := by unfold brSz at hsz; omega
  have hk0 : 0 < ks.length := by
    rcases Nat.eq_zero_or_pos ks.length with h0 | h0
    · have := hs3 (by omega)
      unfold brSz at hsz
      omega
    · exact h0
  have hki := keysIn_of hr
  have Hke : Hid (∀ x, Below W.heap.size W x → Calls Tryz.prog 68 #[v.v] x fun e w' => ∃ u, e = .returned u ∧ EV strE w' u ks ∧ Below x.heap.size x w') := fun x hx => nkeys_any v ks x (k2.ext hx) (by omega)
  have Hkd : Hid (∀ x, Below W.heap.size W x → Calls Tryz.prog 49 #[v.v] x fun e w' => ∃ u vs, e = .returned u ∧ EV nodE w' u vs ∧ KidsV w' h ks lo hi vs ess ∧ Below x.heap.size x w') := fun x hx => nkids_any v ks ps ess x (k3.ext hx) (hr.mono (fun _ _ _ _ h5 => h5.ext hx)) (by omega)
  obtain ⟨m, hm⟩ : ∃ m, ks.length = m := ⟨_, rfl⟩
  have Hlk : Hid (∀ x a c a2 n c2 vs, ES strE x a ks → ES nodE x a2 vs → vs.length = n → KidsV x h ks lo hi vs ess → Calls Tryz.prog 67 #[.slice a m c, .slice a2 n c2, S0.v, .int .i64 ((h + 1 + 1 : Nat) : Int)] x fun e w' => e = .returned (.tuple #[]) ∧ Below x.heap.size x w') := fun x a c a2 n c2 vs h1 h2 h3 h4 => by
    rw [← hS0]
    exact lookKids_any ih a a2 m c n c2 ks vs ess lo hi x hm h3 h1 h2 h4 hki (by omega) (by omega) hl hh
  have HM := Lib.hid hm
  obtain ⟨L0, H0, O0⟩ := S0
  unfold Sp.v at Hlk ⊢
  dsimp only at hW Hlk
  have q0 := hV.c0
  have q1 := hV.c1
  have q2 := hV.c2
  have q3 := hV.c3
  rw [← hW] at q0 q1 q2 q3
  have HV := Lib.hid hV
  have HS := Lib.hid hS
  have HW := Lib.hid hW
  have HB := Lib.hid hb
  obtain ⟨pg, ca, cn, cc, ka, kn, kc, pa, pn, pc⟩ := v
  dsimp only [NoV.c, NoV.k, NoV.p, NoV.v] at *
  obtain ⟨E1, hE1⟩ : ∃ E1, ((h + 1 + 1 : Nat) : Int) = E1 := ⟨_, rfl⟩
  rw [hE1] at Hlk ⊢
  clear hn hS0 hS hV hW hb hne hs hs3 hE1 k1 k2 k3 hr hsz hgk hk0 hki hm hkl ih
  go_enter Tryz.func41, Tryz.ntmps41
  go_wp2_with fail
  rw [HW.out]
  refine Hsz.out.mono ?_
  rintro e w1 ⟨rfl, hb1⟩
  have HX1 := Lib.hid hb1
  have HV1 := Lib.hid (HV.out.ext hb1)
  have HS1 := Lib.hid (HS.out.ext hb1)
  clear hb1 q0 q1 q2 q3 Hsz
  go_wp2_with fail
  refine (Hft.out _).mono ?_
  rintro e w2 ⟨rfl, rfl⟩
  go_wp2_with fail
  refine (Hm.out _).mono ?_
  rintro e w2 ⟨rfl, rfl⟩
  have q0 := HV1.out.c0
  have q1 := HV1.out.c1
  have q2 := HV1.out.c2
  have q3 := HV1.out.c3
  have Hlf1 := Lib.hid (Hlf.out w1 HX1.out)
  clear Hlf
  go_wp2_with fail
  refine Hlf1.out.mono ?_
  rintro e w2 ⟨rfl, hb2⟩
  obtain ⟨X, hX⟩ : ∃ X, w2.drew = X := ⟨_, rfl⟩
  have hbx : Below w2.heap.size w2 X := by rw [← hX]; exact (Below.refl _ _).drew
  have HX := Lib.hid hX
  have hx2 := HX1.out.trans (hb2.mono HX1.out.size)
  have HX3 := Lib.hid (hx2.trans (hbx.mono hx2.size))
  have hV3 := (HV1.out.ext hb2).ext hbx
  have hS3 := (HS1.out.ext hb2).ext hbx
  have r0 : ∀ w', Ext X w' → w'.cell? ⟨w.heap.size, 0, none⟩ = some (.int .i64 (pg : Nat)) := fun w' hx => (NP.ext hV3 hx).c0
  have r1 : ∀ w', Ext X w' → w'.cell? ⟨w.heap.size, 1, none⟩ = some (.slice ca cn cc) := fun w' hx => (NP.ext hV3 hx).c1
  have r2 : ∀ w', Ext X w' → w'.cell? ⟨w.heap.size, 2, none⟩ = some (.slice ka kn kc) := fun w' hx => (NP.ext hV3 hx).c2
  have r3 : ∀ w', Ext X w' → w'.cell? ⟨w.heap.size, 3, none⟩ = some (.slice pa pn pc) := fun w' hx => (NP.ext hV3 hx).c3
  have t0 : ∀ w', Ext X w' → w'.cell? ⟨w.heap.size + 1, 0, none⟩ = some (.string L0) := fun w' hx => (hS3.ext hx).c0
  have t1 : ∀ w', Ext X w' → w'.cell? ⟨w.heap.size + 1, 1, none⟩ = some (.string H0) := fun w' hx => (hS3.ext hx).c1
  have t2 : ∀ w', Ext X w' → w'.cell? ⟨w.heap.size + 1, 2, none⟩ = some (.bool O0) := fun w' hx => (hS3.ext hx).c2
  have Hke1 := Lib.hid (Hke.out X HX3.out)
  clear hX hbx hV3 hS3 hx2 hb2 Hke q0 q1 q2 q3 Hlf1 HX1 HV1 HS1
  go_wp2_with fail
  refine wp_region_gr [(0, true), (2, true), (4, true), (5, true), (1, false), (3, false), (6, false)] (by kernel_rfl) (by kernel_rfl) (by kernel_rfl) (by kernel_rfl) (fun _ _ _ _ _ h => h) ?_
  rw [HX.out]
  iterate 4 (refine wpGr_read (o := ⟨_, _, _, _, _, _⟩) (v := ?_) rfl (by rfl) ?_ ?_; rotate_left; (intro w' hw'; go_simp; with_reducible rfl); simp only [Act.put, List.setIfInBounds_toArray, List.set_cons_zero, List.set_cons_succ])
  clear r0 r1 r2 r3 t0 t1 t2
  refine wpGr_call (o := ⟨_, _, _, _, _, _⟩) rfl (by rfl) (fun K hK => ?_)
  go_simp
  refine Hke1.out.mono ?_
  rintro e w4 ⟨u, rfl, ⟨a4, c4, rfl, hs4, _⟩, hb4⟩
  refine hK _ _ hb4 ?_
  clear hK K Hke1
  have HX4 := Lib.hid (HX3.out.trans (hb4.mono HX3.out.size))
  have Hs4 := Lib.hid hs4
  have Hkd4 := Lib.hid (Hkd.out w4 HX4.out)
  rw [HM.out]
  clear hb4 hs4 Hkd
  refine wpGr_call (o := ⟨_, _, _, _, _, _⟩) rfl (by rfl) (fun K hK => ?_)
  go_simp
  refine Hkd4.out.mono ?_
  rintro e w5 ⟨u, vs, rfl, ⟨a5, c5, rfl, hs5, _⟩, hkv, hb5⟩
  refine hK _ _ hb5 ?_
  clear hK K Hkd4
  have HX5 := Lib.hid (HX4.out.trans (hb5.mono HX4.out.size))
  obtain ⟨n, hn⟩ : ∃ n, vs.length = n := ⟨_, rfl⟩
  have Hlk5 := Lib.hid (Hlk.out w5 a4 c4 a5 n c5 vs (Hs4.out.below hb5 (Nat.le_refl _)) hs5 hn hkv)
  rw [hn]
  clear hb5 hs5 Hlk Hs4 hkv hn
  refine wpGr_call (o := ⟨_, _, _, _, _, _⟩) rfl (by rfl) (fun K hK => ?_)
  go_simp
  refine Hlk5.out.mono ?_
  rintro e w6 ⟨rfl, hb6⟩
  refine hK _ _ hb6 ?_
  clear hK K Hlk5
  have HX6 := Lib.hid (HB.out.trans ((HX5.out.trans (hb6.mono HX5.out.size)).mono HB.out.size))
  clear hb6
  refine wpGr_done ?_
  go_wp2_with fail
  go_end0
  exact ⟨rfl, HX6.out⟩
theorem look_any : ∀ (h : Nat), h ≤ 100000 → LookC h
  | 0, _ => look_leaf
  | h + 1, hh => look_bran (look_any h (by omega)) (by omega)
end Go.Proofs.YtbgkjniagedcnaaGreatDoor
