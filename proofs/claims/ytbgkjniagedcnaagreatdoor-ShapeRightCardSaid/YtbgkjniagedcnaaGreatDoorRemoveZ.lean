/-
  cut's Remove.
  keys.Of.
-/
import Derived.Test.YtbgkjniagedcnaaGreatDoorEachZ
import Derived.Test.YtbgkjniagedcnaaGreatDoorPutTZ
import Derived.Test.YtbgkjniagedcnaaGreatDoorTurnZ
import Derived.Test.YtbgkjniagedcnaaGreatDoorHasPZ
import Derived.Test.YtbgkjniagedcnaaGreatDoorByZ
import Derived.Lib.ConvBytes
namespace Go.Proofs.YtbgkjniagedcnaaGreatDoor
open Go Go.RowKit Go.Shelf

/-- What Remove's closure has: the tree without what it was handed. -/
structure DJ (W : World) (bl : Nat) (es acc : List En) (w : World) : Prop where
  t : ∃ p H, TB w bl p ((delS es acc).length : Nat) ∧ TreeP w p (delS es acc) H
  f : Turn (fun i => i = bl) W w
theorem DJ.ok (w0 W : World) (bl : Nat) (es : List En) (hb : Below w0.heap.size w0 W) (h0 : w0.heap.size ≤ bl) : JOk w0 (DJ W bl es) :=
  ⟨fun h => hb.trans (h.f.below hb.size (fun i hi => hi ▸ h0)), fun h hb => ⟨by obtain ⟨p, H, h1, h2⟩ := h.t; exact ⟨p, H, h1.ext hb, h2.ext hb⟩, h.f.trans (Turn.ofBelow hb)⟩⟩
set_option maxRecDepth 100000 in
theorem remove1_any (W0 : World) (M bl N : Nat) (es : List En) (hes : es.length ≤ 60000) (hM : bl < M) : Inn M 36 #[.pointer (some ⟨bl, 0, none⟩)] N (fun _ => true) (DJ W0 bl es) := by
  intro acc e w hlen hj
  obtain ⟨W, hW, hnew, hbW⟩ := alloc_own w ET #[.string e.k, .string e.v]
  obtain ⟨⟨p, H, ht, htr⟩, hf0⟩ := hj
  have t1 := ht.ext hbW
  have c0 := t1.c0
  have c1 := t1.c1
  have n0 : W.cell? ⟨w.heap.size, 0, none⟩ = some (.string e.k) := by simp [World.cell?, hnew]
  have hdl := delS_len acc es
  have hcall := delete_all p (delS es acc) H e.k W (htr.ext hbW) (by omega)
  rw [← delS_one] at hcall
  have Hcall := Lib.hid hcall
  obtain ⟨DI, hDI⟩ : ∃ DI, isE (delS es acc) e.k = DI := ⟨_, rfl⟩
  rw [hDI] at Hcall
  obtain ⟨k, hk⟩ : ∃ k, (delS es acc).length = k := ⟨_, rfl⟩
  obtain ⟨m, hm⟩ : ∃ m, (delS es (acc ++ [e])).length = m := ⟨_, rfl⟩
  rw [hk] at c1 Hcall
  rw [hm] at Hcall
  have HW := Lib.hid hW
  have Ht := Lib.hid t1
  have Hb := Lib.hid (And.intro hf0 hbW)
  have Hm := Lib.hid hm
  rw [← hW] at c0 c1 n0
  clear hW hnew hbW ht htr hf0 t1 hdl hcall hDI hk hm hlen
  go_enter Tryz.func36, Tryz.ntmps36
  go_wp2_with fail
  rw [HW.out]
  refine Hcall.out.mono ?_
  rintro e' w2 ⟨p2, H2, rfl, ht2, hb2⟩
  have t2 := Ht.out.ext hb2
  have f0 := t2.fz 0
  have f1 := t2.fz 1
  have c0' := t2.c0
  have c1' := t2.c1
  have hp := t2.put p2 (m : Int)
  have htp := turn_put w2 bl (.pointer p2) (.int .i64 (m : Int))
  have ht3 := ht2.turn htp (TF.one t2)
  have hbx := Hb.out.2.trans (hb2.mono Hb.out.2.size)
  have hJ : Hid (DJ W0 bl es (acc ++ [e]) ((w2.setCell ⟨bl, 0, none⟩ (.pointer p2)).setCell ⟨bl, 1, none⟩ (.int .i64 (m : Int)))) := ⟨⟨p2, H2, by rw [Hm.out]; exact hp, ht3⟩, Hb.out.1.trans ((Turn.ofBelow hbx).trans htp)⟩
  have hK : Hid (Keeps M w ((w2.setCell ⟨bl, 0, none⟩ (.pointer p2)).setCell ⟨bl, 1, none⟩ (.int .i64 (m : Int)))) := ((Keeps.ofBelow hbx).set _ hM).set _ hM
  clear ht2 hb2 t2 hp htp ht3 hbx Hcall Ht Hb c0 c1 n0
  go_wp2_with fail
  go_ret
  exact ⟨rfl, hJ.out, hK.out⟩
set_option maxRecDepth 100000 in
theorem remove_any (p : Option Addr) (es : List En) (H : Nat) (s : Sp) (w : World) (ht : TreeP w p es H) (hl : es.length ≤ 60000) :
    Calls Tryz.prog 16 #[.agg #[.pointer p, .int .i64 es.length], s.v] w fun e w' => ∃ p' H', e = .returned (.tuple #[.agg #[.pointer p', .int .i64 ((outS s es).length : Nat)], .int .i64 ((inS s es).length : Nat)]) ∧ TreeP w' p' (outS s es) H' ∧ Below w.heap.size w w' := by
  obtain ⟨W3, hW3, h1, h2, h3, hb3, hz3⟩ := three_own w #[.pointer p, .int .i64 es.length] #[.string s.lo, .string s.hi, .bool s.op] #[.pointer none, .int .i64 0] TT SPT TT
  obtain ⟨W, hW, h4, hb4⟩ := alloc_own W3 TT #[.pointer p, .int .i64 es.length]
  have hzW : W.heap.size = w.heap.size + 4 := by rw [← hW, alloc_size, hz3]
  rw [show W3.heap.size = w.heap.size + 1 + 1 + 1 by rw [hz3]] at h4
  have k1 : TB W w.heap.size p es.length := (show TB W3 w.heap.size p es.length from h1).ext hb4
  have k2 : SpIn W (w.heap.size + 1) SPT s := (show SpIn W3 (w.heap.size + 1) SPT s from h2).ext hb4
  have k3 : TB W (w.heap.size + 1 + 1) none 0 := (show TB W3 (w.heap.size + 1 + 1) none 0 from h3).ext hb4
  have k4 : TB W (w.heap.size + 1 + 1 + 1) p es.length := h4
  have hb := hb3.trans (hb4.mono (by omega))
  have hsr := ht.facts.1
  have e30 : ∀ args w, (callFunc 36 args).run Tryz.prog w = .ok (.enter 36 args) w := enters_of Tryz.func36 (by kernel_rfl) rfl
  have hcall := each_any w p es.length es H ht hl s _ _ es.length (fun _ => true) (DJ W (w.heap.size + 1 + 1 + 1) es) (DJ.ok w W _ es hb (by omega)) e30 (Nat.le_refl _) W (remove1_any W W.heap.size (w.heap.size + 1 + 1 + 1) es.length es hl (by omega)) ⟨⟨p, H, k4, ht.ext hb⟩, Turn.refl _ _⟩
  rw [goS_all (fun _ => true) (fun _ => rfl), List.nil_append] at hcall
  have hpost : Hid (∀ x, DJ W (w.heap.size + 1 + 1 + 1) es (inS s es) x → ∃ p' H', TB x (w.heap.size + 1 + 1 + 1) p' ((outS s es).length : Nat) ∧ TreeP x p' (outS s es) H' ∧ TB x w.heap.size p es.length ∧ TB x (w.heap.size + 1 + 1) none 0 ∧ Below w.heap.size w x) := fun x hx => by
    obtain ⟨⟨p', H', h5, h6⟩, hf⟩ := hx
    rw [del_in s hsr] at h5 h6
    exact ⟨p', H', h5, h6, k1.turn hf (by omega), k3.turn hf (by omega), hb.trans (hf.below (by omega) (fun i hi => by omega))⟩
  have Hcall := Lib.hid hcall
  have Hio := Lib.hid (in_out s es)
  obtain ⟨n, hn⟩ : ∃ n, es.length = n := ⟨_, rfl⟩
  obtain ⟨m, hm⟩ : ∃ m, (outS s es).length = m := ⟨_, rfl⟩
  obtain ⟨i, hi⟩ : ∃ i, (inS s es).length = i := ⟨_, rfl⟩
  rw [hn, hm, hi] at Hio
  have hio := Hio.out
  rw [hn] at hW3 hW k1 k4 Hcall hl hpost ⊢
  rw [hm] at hpost ⊢
  rw [hi]
  have HW : Hid ((((w.alloc (.cells #[.pointer p, .int .i64 n] TT)).alloc (.cells #[.string s.lo, .string s.hi, .bool s.op] SPT)).alloc (.cells #[.pointer none, .int .i64 0] TT)).alloc (.cells #[.pointer p, .int .i64 n] TT) = W) := by show _ = _; rw [hW3, hW]
  have c0 := k1.c0
  have c1 := k1.c1
  have d0 := k2.c0
  have d1 := k2.c1
  have d2 := k2.c2
  rw [← HW.out] at c0 c1 d0 d1 d2
  have hmf : ∀ (fn : Fn) (first cap : Array Value) (w : World), (Instr.makeFunc fn first cap).run Tryz.prog w = .ok (.func fn first cap) w := fun _ _ _ _ => rfl
  have z0 : IntKind.i64.wrap ((n : Int) - (m : Int)) = (i : Int) := by rw [IntKind.wrap_i64]; omega
  unfold Sp.v at Hcall ⊢
  clear hW3 h1 h2 h3 hb3 hz3 hW h4 hb4 hzW k1 k2 k3 k4 hb hsr hcall hn hm hi hio Hio ht
  go_enter Tryz.func16, Tryz.ntmps16
  go_wp2_with fail
  rw [HW.out]
  refine Hcall.out.mono ?_
  rintro e w2 ⟨rfl, hj⟩
  obtain ⟨p', H', h5, h6, h7, h8, hb2⟩ := hpost.out w2 hj
  clear hj Hcall c0 c1 d0 d1 d2 hpost
  obtain ⟨W2, hW2⟩ : ∃ W2, w2.drew = W2 := ⟨_, rfl⟩
  have hbd : Below w2.heap.size w2 W2 := by rw [← hW2]; exact (Below.refl _ _).drew
  have lW : w.heap.size + 1 + 1 + 1 < w2.heap.size := h5.lt
  have a0 : ∀ w', Turn (fun j => j = w.heap.size + 1 + 1) W2 w' → w'.cell? ⟨w.heap.size + 1 + 1 + 1, 0, none⟩ = some (.pointer p') := fun w' hx => ((h5.ext hbd).turn hx (by omega)).c0
  have a1 : ∀ w', Turn (fun j => j = w.heap.size + 1 + 1) W2 w' → w'.cell? ⟨w.heap.size + 1 + 1 + 1, 1, none⟩ = some (.int .i64 m) := fun w' hx => ((h5.ext hbd).turn hx (by omega)).c1
  have b0 : ∀ w', Turn (fun j => j = w.heap.size + 1 + 1) W2 w' → w'.cell? ⟨w.heap.size, 0, none⟩ = some (.pointer p) := fun w' hx => ((h7.ext hbd).turn hx (by omega)).c0
  have b1 : ∀ w', Turn (fun j => j = w.heap.size + 1 + 1) W2 w' → w'.cell? ⟨w.heap.size, 1, none⟩ = some (.int .i64 n) := fun w' hx => ((h7.ext hbd).turn hx (by omega)).c1
  have H6 := Lib.hid (h6.ext hbd)
  have H8 := Lib.hid (h8.ext hbd)
  have HB := Lib.hid (hb2.trans (hbd.mono hb2.size))
  have HW2 := Lib.hid hW2
  have Hl1 := Lib.hid (fun (n : Int) (x : World) => len_any p n x)
  have Hl2 := Lib.hid (fun (n : Int) (x : World) => len_any p' n x)
  clear h5 h6 h7 h8 hb2 hW2 hbd lW
  go_wp2_with fail
  refine wp_region_gt (F := fun j => j = w.heap.size + 1 + 1) [(0, true), (1, true), (3, true), (2, false), (4, false), (5, true), (6, false), (7, true)] (by kernel_rfl) (by kernel_rfl) (by kernel_rfl) (by kernel_rfl) (fun _ _ _ _ _ h => h) ?_
  rw [HW2.out]
  iterate 3 (refine wpGt_read (o := ⟨_, _, _, _, _, _⟩) (v := ?_) rfl (by rfl) ?_ ?_; rotate_left; (intro w' hw'; go_simp; with_reducible rfl); simp only [Act.put, List.setIfInBounds_toArray, List.set_cons_zero, List.set_cons_succ])
  clear a0 a1 b0 b1
  refine wpGt_call (o := ⟨_, _, _, _, _, _⟩) rfl (by rfl) (fun K hK => ?_)
  go_simp
  refine (Hl1.out _ _).mono ?_
  rintro e w3 ⟨rfl, hb3⟩
  refine hK _ _ (Turn.ofBelow hb3) ?_
  clear hK K
  have H63 := Lib.hid (H6.out.ext hb3)
  have H83 := Lib.hid (H8.out.ext hb3)
  have HB3 := Lib.hid (HB.out.trans (hb3.mono HB.out.size))
  clear hb3
  refine wpGt_call (o := ⟨_, _, _, _, _, _⟩) rfl (by rfl) (fun K hK => ?_)
  go_simp
  refine (Hl2.out _ _).mono ?_
  rintro e w4 ⟨rfl, hb4⟩
  refine hK _ _ (Turn.ofBelow hb4) ?_
  clear hK K
  have t8 := H83.out.ext hb4
  have f0 := t8.fz 0
  have f1 := t8.fz 1
  have c0 := t8.c0
  have c1 := t8.c1
  have htp := turn_put w4 (w.heap.size + 1 + 1) (.pointer p') (.int .i64 (m : Int))
  have Hp := Lib.hid (t8.put p' (m : Int))
  have Htr := Lib.hid ((H63.out.ext hb4).turn htp (TF.one t8))
  have HB4 := Lib.hid (below_put (b := w.heap.size + 1 + 1) (u := .pointer p') (v := .int .i64 (m : Int)) (HB3.out.trans (hb4.mono HB3.out.size)) (by omega))
  have Htp := Lib.hid htp
  clear hb4 t8 htp
  (refine wpGt_read (o := ⟨_, _, _, _, _, _⟩) (v := ?_) rfl (by rfl) ?_ ?_; rotate_left; (intro w' hw'; go_simp; with_reducible rfl); simp only [Act.put, List.setIfInBounds_toArray, List.set_cons_zero, List.set_cons_succ])
  refine wpGt_call (o := ⟨_, _, _, _, _, _⟩) rfl (by rfl) (fun K hK => ?_)
  go_simp
  refine hK _ _ Htp.out ?_
  clear hK K f0 f1 c0 c1
  have e0 := Hp.out.c0
  have e1 := Hp.out.c1
  (refine wpGt_read (o := ⟨_, _, _, _, _, _⟩) (v := ?_) rfl (by rfl) ?_ ?_; rotate_left; (intro w' hw'; go_simp; with_reducible rfl); simp only [Act.put, List.setIfInBounds_toArray, List.set_cons_zero, List.set_cons_succ])
  refine wpGt_done ?_
  go_wp2_with fail
  refine bodyPost_ret (v := .tuple #[.agg #[.pointer p', .int .i64 (m : Int)], .int .i64 (i : Int)]) (by rw [results_cell_tmp rfl]; go_simp) rfl ⟨p', H', rfl, Htr.out, HB4.out⟩
end Go.Proofs.YtbgkjniagedcnaaGreatDoor
namespace Go.Proofs.YtbgkjniagedcnaaGreatDoor
open Go Go.RowKit

theorem nxt_all : ∀ l : List UInt8, (∀ x ∈ l, x = 255) → nxt l = none
  | [], _ => rfl
  | c :: r, h => by
    rw [nxt_cons, nxt_all r (fun x hx => h x (List.mem_cons_of_mem _ hx)), h c List.mem_cons_self]; rfl
theorem nxt_cut : ∀ (l : List UInt8) (m : Nat), m < l.length → (∀ x ∈ l.drop (m + 1), x = 255) → l.getD m 0 ≠ 255 → nxt l = some (l.take m ++ [l.getD m 0 + 1])
  | [], _, h, _, _ => by simp at h
  | c :: r, 0, _, h, hc => by
    rw [nxt_cons, nxt_all r (fun x hx => h x (by simpa using hx))]
    simp at hc ⊢
    exact hc
  | c :: r, m + 1, hm, h, hc => by
    rw [nxt_cons, nxt_cut r m (by simpa using hm) (fun x hx => h x (by simpa using hx)) (by simpa using hc)]
    rfl
theorem ofS_open {p : ByteArray} (h : nxt (bl p) = none) : ofS p = ⟨p, ⟨#[]⟩, true⟩ := by unfold ofS; rw [h]; rfl
theorem ofS_cut {p : ByteArray} {h : List UInt8} (e : nxt (bl p) = some h) : ofS p = ⟨p, strL h, false⟩ := by unfold ofS; rw [e]
abbrev BTY : TypeId := 64
abbrev U8T : TypeId := 5
/-- Bytes as numbers. -/
def nat8 (l : List UInt8) : List Nat := l.map UInt8.toNat
theorem bstr_nat8 (l : List UInt8) : bstr (nat8 l) = strL l := by
  apply bl_inj
  show (bstr (nat8 l)).data.toList = _
  unfold bstr nat8
  rw [strOfNums_data, List.map_map, List.map_map, bl_strL]
  conv => rhs; rw [← List.map_id l]
  apply List.map_congr_left
  intro x _
  simp
theorem nat8_getD (l : List UInt8) (i : Nat) : (nat8 l).getD i 0 = (l.getD i 0).toNat := by
  unfold nat8
  by_cases h : i < l.length
  · simp [List.getD, h]
  · simp [List.getD, h]
theorem Cs.set {w : World} {g : Nat} {l : List Nat} {A : Array Value} {E : TypeId} {fr : Nat × Nat} (h : Cs w g 0 l) (hg : w.heap[g]? = some (.cells A E fr)) (m x : Nat) (hm : m < l.length) : Cs (w.setCell ⟨g, m, none⟩ (.int .u8 (x : Int))) g 0 (l.set m x) := fun i hi => by
  rw [List.length_set] at hi
  have hc := h i hi
  have hcm := h m hm
  rw [Nat.zero_add] at hc hcm ⊢
  have hrow : (w.setCell ⟨g, m, none⟩ (.int .u8 (x : Int))).heap[g]? = some (.cells (A.setIfInBounds m (.int .u8 (x : Int))) E fr) := by
    rw [setCell_eq_setRow w g m A E fr _ hg]
    exact setRow_heap w g A _ E fr hg
  have hAi : A[i]? = some (.int .u8 ((l.getD i 0 : Nat) : Int)) := by simpa [World.cell?, hg] using hc
  have hAm : m < A.size := by
    have : A[m]? = some (.int .u8 ((l.getD m 0 : Nat) : Int)) := by simpa [World.cell?, hg] using hcm
    exact (Array.getElem?_eq_some_iff.1 this).1
  have hr : (w.setCell ⟨g, m, none⟩ (.int .u8 (x : Int))).cell? ⟨g, i, none⟩ = (A.setIfInBounds m (.int .u8 (x : Int)))[i]? := by simp [World.cell?, hrow]
  rw [hr, Array.getElem?_setIfInBounds]
  by_cases e : m = i
  · subst e
    rw [if_pos rfl, if_pos hAm]
    simp [List.getD, hm]
  · rw [if_neg e, hAi]
    simp [List.getD, e]
/-- The bytes of the first part of a text, as a new row. -/
theorem of_conv (p : ByteArray) (m : Nat) (w : World) (hm : m < p.size) : ∃ w2 C,
    (convert STR BTY (.string (p.extract 0 (m + 1)))).run Tryz.prog w = .ok (.slice (some ⟨w.heap.size, 0, none⟩) ((m + 1 : Nat)) C) w2 ∧
    Below w.heap.size w w2 ∧ w2.cell? ⟨w.heap.size, m, none⟩ = some (.int .u8 (byteAt p m)) ∧ w2.frozen? ⟨w.heap.size, m, none⟩ = false ∧
    (∀ x : Nat, (convert BTY STR (.slice (some ⟨w.heap.size, 0, none⟩) ((m + 1 : Nat)) C)).run Tryz.prog (w2.setCell ⟨w.heap.size, m, none⟩ (.int .u8 (x : Int))) = .ok (.string (bstr ((nat8 ((bl p).take (m + 1))).set m x))) (w2.setCell ⟨w.heap.size, m, none⟩ (.int .u8 (x : Int)))) := by
  have ex : (p.extract 0 (m + 1)).data.toList = (bl p).take (m + 1) := by
    rw [ByteArray.data_extract, Array.toList_extract]; simp [bl, List.extract_eq_take_drop]
  have hsz : (p.extract 0 (m + 1)).size = m + 1 := by
    rw [← bl_len]; show ((p.extract 0 (m + 1)).data.toList).length = _; rw [ex, List.length_take, bl_len]; omega
  have hlen : (nat8 ((bl p).take (m + 1))).length = m + 1 := by
    unfold nat8; rw [List.length_map, List.length_take, bl_len]; omega
  have hcs : Cs (Lib.bytesWorld w U8T (p.extract 0 (m + 1))) w.heap.size 0 (nat8 ((bl p).take (m + 1))) := fun i hi => by
    rw [hlen] at hi
    rw [Nat.zero_add, Lib.bytesWorld_cell w U8T _ i (by omega), ex, nat8_getD]
  have hnew := Lib.bytesWorld_at_new w U8T (p.extract 0 (m + 1))
  refine ⟨Lib.bytesWorld w U8T (p.extract 0 (m + 1)), grownCap w (m + 1) 0 U8T, ?_, ⟨rfl, rfl, rfl, by rw [Lib.bytesWorld_size]; omega, fun j hj => Lib.bytesWorld_at_old w U8T _ j hj⟩, ?_, ?_, fun x => ?_⟩
  · have := Lib.run_convert_string_bytes (P := Tryz.prog) w STR BTY U8T (p.extract 0 (m + 1)) Tryz.underlying9 Tryz.underlying64 Tryz.underlying5
    rw [hsz] at this
    exact this
  · have := hcs m (by omega)
    rw [Nat.zero_add, nat8_getD] at this
    rw [this]
    unfold byteAt
    congr 3
    simp [List.getD]
  · have hs : m < (Lib.bytesCells w U8T (p.extract 0 (m + 1))).size := by unfold Lib.bytesCells; simp; omega
    simp [World.frozen?, hnew]
    omega
  · exact conv_src BTY U8T STR Tryz.underlying64 Tryz.underlying5 Tryz.underlying9 _ _ _ _ (by rw [List.length_set, hlen]) _ (hcs.set hnew m x (by omega)).src
/-- What is above all that begin with it, in bytes. -/
theorem of_hi (p : ByteArray) (m : Nat) (hm : m < p.size) (h : ∀ x ∈ (bl p).drop (m + 1), x = 255) (hc : byteAt p m ≠ 255) : ofS p = ⟨p, bstr ((nat8 ((bl p).take (m + 1))).set m (byteAt p m + 1)), false⟩ := by
  have hm' : m < (bl p).length := by rw [bl_len]; exact hm
  have hc' : (bl p).getD m 0 ≠ 255 := fun e => hc (by unfold byteAt; rw [e]; rfl)
  rw [ofS_cut (nxt_cut (bl p) m hm' h hc'), ← bstr_nat8]
  congr 2
  unfold nat8
  rw [List.map_append, List.take_succ_eq_append_getElem hm', List.map_append, List.set_append_right _ _ (by simp; omega)]
  have e : m - (List.map UInt8.toNat (List.take m (bl p))).length = 0 := by simp; omega
  rw [e]
  have := UInt8.toNat_lt ((bl p).getD m 0)
  have hc2 : ((bl p).getD m 0).toNat ≠ 255 := hc
  show nat8 ((bl p).take m) ++ [((bl p).getD m 0 + 1).toNat] = nat8 ((bl p).take m) ++ [((bl p).getD m 0).toNat + 1]
  rw [UInt8.toNat_add]
  congr 2
  show (((bl p).getD m 0).toNat + 1) % 256 = _
  omega
theorem all_step {p : ByteArray} {m : Nat} (hm : m < p.size) (h : ∀ x ∈ (bl p).drop (m + 1), x = 255) (hc : byteAt p m = 255) : ∀ x ∈ (bl p).drop m, x = 255 := by
  have hm' : m < (bl p).length := by rw [bl_len]; exact hm
  rw [List.drop_eq_getElem_cons hm']
  intro x hx
  rcases List.mem_cons.1 hx with rfl | hx
  · apply UInt8.toNat_inj.1
    rw [← getD_len hm']
    exact hc
  · exact h x hx
set_option maxRecDepth 100000 in
theorem kof_any (p : ByteArray) (w : World) (hp : p.size ≤ 1000000) : Calls Tryz.prog 17 #[.string p] w fun e w' => e = .returned (ofS p).v ∧ Below w.heap.size w w' := by
  have hw1 := Lib.hid ((Below.refl w.heap.size w).alloc (Nat.le_refl _) (.cells #[.string ⟨#[]⟩, .string ⟨#[]⟩, .bool false] SPT))
  have hsp := Lib.hid (SpIn.new w SPT Z0)
  have hopn : Hid (∀ v, Below w.heap.size w (w.alloc (.cells #[.string p, .string ⟨#[]⟩, .bool true] v))) := fun v => (Below.refl w.heap.size w).alloc (Nat.le_refl _) _
  go_enter Tryz.func17, Tryz.ntmps17
  go_wp2_with fail
  go_loop [3] (fun i => ∃ k : Nat, k ≤ p.size ∧ i = .int .i64 k ∧ Hid (∀ x ∈ (bl p).drop k, x = 255)) (fun i => (intOf i).toNat)
  case atStart => exact ⟨p.size, Nat.le_refl _, by first | trivial | rfl, by show ∀ _, _; rw [List.drop_of_length_le (by rw [bl_len]; exact Nat.le_refl _)]; simp⟩
  case round =>
    obtain ⟨k, hk, rfl, hall⟩ := hrel
    rcases k with _ | m
    · have e := Lib.hid (ofS_open (nxt_all (bl p) (by simpa using hall.out)))
      go_wp2_with fail
      refine bodyPost_ret (v := .agg #[.string p, .string ⟨#[]⟩, .bool true]) (by rw [results_cell_one rfl]; go_simp) rfl ⟨by rw [e.out]; rfl, hopn.out _⟩
    · have hm : m < p.size := by omega
      have i1 := index_str p m hm
      have x1 := byteAt_lt p m
      by_cases hc : byteAt p m = 255
      · have Hn := Lib.hid (all_step hm hall.out hc)
        rw [hc] at i1
        clear hc x1
        go_wp2_with fail
        go_round
        case rel => exact ⟨m, by omega, by first | trivial | rfl, Hn⟩
        case measure => simp [intOf]
      · have e := Lib.hid (of_hi p m hm hall.out hc)
        obtain ⟨w2, C, hc1, hb2, hcell, hfr, hback⟩ := of_conv p m (w.alloc (.cells #[.string ⟨#[]⟩, .string ⟨#[]⟩, .bool false] SPT)) hm
        have hback := hback (byteAt p m + 1)
        rw [show (w.alloc (.cells #[.string ⟨#[]⟩, .string ⟨#[]⟩, .bool false] SPT)).heap.size = w.heap.size + 1 by simp] at hc1 hb2 hcell hfr hback
        obtain ⟨X, hX⟩ : ∃ X, byteAt p m = X := ⟨_, rfl⟩
        rw [hX] at i1 x1 hc hcell hback e
        obtain ⟨HI, hHI⟩ : ∃ HI, bstr ((nat8 ((bl p).take (m + 1))).set m (X + 1)) = HI := ⟨_, rfl⟩
        rw [hHI, show ((X + 1 : Nat) : Int) = (X : Int) + 1 by omega] at hback
        rw [hHI] at e
        have hs2 := (hsp.out.below hb2 (by simp))
        have hb3 := Lib.hid (hw1.out.trans (hb2.mono (by omega)))
        have z0 := hs2.c0
        have z1 := hs2.c1
        have z2 := hs2.c2
        have zf := hs2.fz
        unfold Z0 at z0 z1 z2
        dsimp only at z0 z1 z2
        have hX2 : X < 255 := by omega
        clear hX hHI hs2 hb2 hsp hw1 hopn hall
        go_wp2_with fail
        refine bodyPost_ret (v := .agg #[.string p, .string HI, .bool false]) (by rw [results_cell_one rfl]; go_simp) rfl ⟨by rw [e.out]; rfl, ?_⟩
        repeat refine Below.setCell ?_ (by dsimp only; omega) _
        exact hb3.out
end Go.Proofs.YtbgkjniagedcnaaGreatDoor
