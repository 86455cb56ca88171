/-
  keys.Of.
-/
import Derived.Test.YtimdlgjgoggaiaaDoorHasPZ
import Derived.Test.YtimdlgjgoggaiaaDoorTurnZ
import Derived.Test.YtimdlgjgoggaiaaDoorByZ
import Derived.Lib.ConvBytes
namespace Go.Proofs.YtimdlgjgoggaiaaDoor
open Go Go.RowKit

theorem nxt_all : ∀ l : List UInt8, (∀ x ∈ l, x = 255) → nxt l = none
  | [], _ => rfl
  | c :: r, h => by
    rw [nxt_cons, nxt_all r (fun x hx => h x (List.mem_cons_of_mem _ hx)), h c List.mem_cons_self]; rfl
theorem nxt_cut : ∀ (l : List UInt8) (m : Nat), m < l.length → (∀ x ∈ l.drop (m + 1), x = 255) → l.getD m 0 ≠ 255 → nxt l = some (l.take m ++ [l.getD m 0 + 1])
  | [], _, h, _, _ => by simp at h
  | c :: r, 0, _, h, hc => by
    rw [nxt_cons, nxt_all r (fun x hx => h x (by simpa using hx))]
    simp at hc ⊢
    exact hc
  | c :: r, m + 1, hm, h, hc => by
    rw [nxt_cons, nxt_cut r m (by simpa using hm) (fun x hx => h x (by simpa using hx)) (by simpa using hc)]
    rfl
theorem ofS_open {p : ByteArray} (h : nxt (bl p) = none) : ofS p = ⟨p, ⟨#[]⟩, true⟩ := by unfold ofS; rw [h]; rfl
theorem ofS_cut {p : ByteArray} {h : List UInt8} (e : nxt (bl p) = some h) : ofS p = ⟨p, strL h, false⟩ := by unfold ofS; rw [e]
abbrev BTY : TypeId := 62
abbrev U8T : TypeId := 5
/-- Bytes as numbers. -/
def nat8 (l : List UInt8) : List Nat := l.map UInt8.toNat
theorem bstr_nat8 (l : List UInt8) : bstr (nat8 l) = strL l := by
  apply bl_inj
  show (bstr (nat8 l)).data.toList = _
  unfold bstr nat8
  rw [strOfNums_data, List.map_map, List.map_map, bl_strL]
  conv => rhs; rw [← List.map_id l]
  apply List.map_congr_left
  intro x _
  simp
theorem nat8_getD (l : List UInt8) (i : Nat) : (nat8 l).getD i 0 = (l.getD i 0).toNat := by
  unfold nat8
  by_cases h : i < l.length
  · simp [List.getD, h]
  · simp [List.getD, h]
theorem Cs.set {w : World} {g : Nat} {l : List Nat} {A : Array Value} {E : TypeId} {fr : Nat × Nat} (h : Cs w g 0 l) (hg : w.heap[g]? = some (.cells A E fr)) (m x : Nat) (hm : m < l.length) : Cs (w.setCell ⟨g, m, none⟩ (.int .u8 (x : Int))) g 0 (l.set m x) := fun i hi => by
  rw [List.length_set] at hi
  have hc := h i hi
  have hcm := h m hm
  rw [Nat.zero_add] at hc hcm ⊢
  have hrow : (w.setCell ⟨g, m, none⟩ (.int .u8 (x : Int))).heap[g]? = some (.cells (A.setIfInBounds m (.int .u8 (x : Int))) E fr) := by
    rw [setCell_eq_setRow w g m A E fr _ hg]
    exact setRow_heap w g A _ E fr hg
  have hAi : A[i]? = some (.int .u8 ((l.getD i 0 : Nat) : Int)) := by simpa [World.cell?, hg] using hc
  have hAm : m < A.size := by
    have : A[m]? = some (.int .u8 ((l.getD m 0 : Nat) : Int)) := by simpa [World.cell?, hg] using hcm
    exact (Array.getElem?_eq_some_iff.1 this).1
  have hr : (w.setCell ⟨g, m, none⟩ (.int .u8 (x : Int))).cell? ⟨g, i, none⟩ = (A.setIfInBounds m (.int .u8 (x : Int)))[i]? := by simp [World.cell?, hrow]
  rw [hr, Array.getElem?_setIfInBounds]
  by_cases e : m = i
  · subst e
    rw [if_pos rfl, if_pos hAm]
    simp [List.getD, hm]
  · rw [if_neg e, hAi]
    simp [List.getD, e]
/-- The bytes of the first part of a text, as a new row. -/
theorem of_conv (p : ByteArray) (m : Nat) (w : World) (hm : m < p.size) : ∃ w2 C,
    (convert STR BTY (.string (p.extract 0 (m + 1)))).run Tryd.prog w = .ok (.slice (some ⟨w.heap.size, 0, none⟩) ((m + 1 : Nat)) C) w2 ∧
    Below w.heap.size w w2 ∧ w2.cell? ⟨w.heap.size, m, none⟩ = some (.int .u8 (byteAt p m)) ∧ w2.frozen? ⟨w.heap.size, m, none⟩ = false ∧
    (∀ x : Nat, (convert BTY STR (.slice (some ⟨w.heap.size, 0, none⟩) ((m + 1 : Nat)) C)).run Tryd.prog (w2.setCell ⟨w.heap.size, m, none⟩ (.int .u8 (x : Int))) = .ok (.string (bstr ((nat8 ((bl p).take (m + 1))).set m x))) (w2.setCell ⟨w.heap.size, m, none⟩ (.int .u8 (x : Int)))) := by
  have ex : (p.extract 0 (m + 1)).data.toList = (bl p).take (m + 1) := by
    rw [ByteArray.data_extract, Array.toList_extract]; simp [bl, List.extract_eq_take_drop]
  have hsz : (p.extract 0 (m + 1)).size = m + 1 := by
    rw [← bl_len]; show ((p.extract 0 (m + 1)).data.toList).length = _; rw [ex, List.length_take, bl_len]; omega
  have hlen : (nat8 ((bl p).take (m + 1))).length = m + 1 := by
    unfold nat8; rw [List.length_map, List.length_take, bl_len]; omega
  have hcs : Cs (Lib.bytesWorld w U8T (p.extract 0 (m + 1))) w.heap.size 0 (nat8 ((bl p).take (m + 1))) := fun i hi => by
    rw [hlen] at hi
    rw [Nat.zero_add, Lib.bytesWorld_cell w U8T _ i (by omega), ex, nat8_getD]
  have hnew := Lib.bytesWorld_at_new w U8T (p.extract 0 (m + 1))
  refine ⟨Lib.bytesWorld w U8T (p.extract 0 (m + 1)), grownCap w (m + 1) 0 U8T, ?_, ⟨rfl, rfl, rfl, by rw [Lib.bytesWorld_size]; omega, fun j hj => Lib.bytesWorld_at_old w U8T _ j hj⟩, ?_, ?_, fun x => ?_⟩
  · have := Lib.run_convert_string_bytes (P := Tryd.prog) w STR BTY U8T (p.extract 0 (m + 1)) Tryd.underlying9 Tryd.underlying62 Tryd.underlying5
    rw [hsz] at this
    exact this
  · have := hcs m (by omega)
    rw [Nat.zero_add, nat8_getD] at this
    rw [this]
    unfold byteAt
    congr 3
    simp [List.getD]
  · have hs : m < (Lib.bytesCells w U8T (p.extract 0 (m + 1))).size := by unfold Lib.bytesCells; simp; omega
    simp [World.frozen?, hnew]
    omega
  · exact conv_src BTY U8T STR Tryd.underlying62 Tryd.underlying5 Tryd.underlying9 _ _ _ _ (by rw [List.length_set, hlen]) _ (hcs.set hnew m x (by omega)).src
/-- What is above all that begin with it, in bytes. -/
theorem of_hi (p : ByteArray) (m : Nat) (hm : m < p.size) (h : ∀ x ∈ (bl p).drop (m + 1), x = 255) (hc : byteAt p m ≠ 255) : ofS p = ⟨p, bstr ((nat8 ((bl p).take (m + 1))).set m (byteAt p m + 1)), false⟩ := by
  have hm' : m < (bl p).length := by rw [bl_len]; exact hm
  have hc' : (bl p).getD m 0 ≠ 255 := fun e => hc (by unfold byteAt; rw [e]; rfl)
  rw [ofS_cut (nxt_cut (bl p) m hm' h hc'), ← bstr_nat8]
  congr 2
  unfold nat8
  rw [List.map_append, List.take_succ_eq_append_getElem hm', List.map_append, List.set_append_right _ _ (by simp; omega)]
  have e : m - (List.map UInt8.toNat (List.take m (bl p))).length = 0 := by simp; omega
  rw [e]
  have := UInt8.toNat_lt ((bl p).getD m 0)
  have hc2 : ((bl p).getD m 0).toNat ≠ 255 := hc
  show nat8 ((bl p).take m) ++ [((bl p).getD m 0 + 1).toNat] = nat8 ((bl p).take m) ++ [((bl p).getD m 0).toNat + 1]
  rw [UInt8.toNat_add]
  congr 2
  show (((bl p).getD m 0).toNat + 1) % 256 = _
  omega
theorem all_step {p : ByteArray} {m : Nat} (hm : m < p.size) (h : ∀ x ∈ (bl p).drop (m + 1), x = 255) (hc : byteAt p m = 255) : ∀ x ∈ (bl p).drop m, x = 255 := by
  have hm' : m < (bl p).length := by rw [bl_len]; exact hm
  rw [List.drop_eq_getElem_cons hm']
  intro x hx
  rcases List.mem_cons.1 hx with rfl | hx
  · apply UInt8.toNat_inj.1
    rw [← getD_len hm']
    exact hc
  · exact h x hx
set_option maxRecDepth 100000 in
theorem kof_any (p : ByteArray) (w : World) (hp : p.size ≤ 1000000) : Calls Tryd.prog 25 #[.string p] w fun e w' => e = .returned (ofS p).v ∧ Below w.heap.size w w' := by
  have hw1 := Lib.hid ((Below.refl w.heap.size w).alloc (Nat.le_refl _) (.cells #[.string ⟨#[]⟩, .string ⟨#[]⟩, .bool false] SPT))
  have hsp := Lib.hid (SpIn.new w SPT Z0)
  have hopn : Hid (∀ v, Below w.heap.size w (w.alloc (.cells #[.string p, .string ⟨#[]⟩, .bool true] v))) := fun v => (Below.refl w.heap.size w).alloc (Nat.le_refl _) _
  go_enter Tryd.func25, Tryd.ntmps25
  go_wp2_with fail
  go_loop [3] (fun i => ∃ k : Nat, k ≤ p.size ∧ i = .int .i64 k ∧ Hid (∀ x ∈ (bl p).drop k, x = 255)) (fun i => (intOf i).toNat)
  case atStart => exact ⟨p.size, Nat.le_refl _, by first | trivial | rfl, by show ∀ _, _; rw [List.drop_of_length_le (by rw [bl_len]; exact Nat.le_refl _)]; simp⟩
  case round =>
    obtain ⟨k, hk, rfl, hall⟩ := hrel
    rcases k with _ | m
    · have e := Lib.hid (ofS_open (nxt_all (bl p) (by simpa using hall.out)))
      go_wp2_with fail
      refine bodyPost_ret (v := .agg #[.string p, .string ⟨#[]⟩, .bool true]) (by rw [results_cell_one rfl]; go_simp) rfl ⟨by rw [e.out]; rfl, hopn.out _⟩
    · have hm : m < p.size := by omega
      have i1 := index_str p m hm
      have x1 := byteAt_lt p m
      by_cases hc : byteAt p m = 255
      · have Hn := Lib.hid (all_step hm hall.out hc)
        rw [hc] at i1
        clear hc x1
        go_wp2_with fail
        go_round
        case rel => exact ⟨m, by omega, by first | trivial | rfl, Hn⟩
        case measure => simp [intOf]
      · have e := Lib.hid (of_hi p m hm hall.out hc)
        obtain ⟨w2, C, hc1, hb2, hcell, hfr, hback⟩ := of_conv p m (w.alloc (.cells #[.string ⟨#[]⟩, .string ⟨#[]⟩, .bool false] SPT)) hm
        have hback := hback (byteAt p m + 1)
        rw [show (w.alloc (.cells #[.string ⟨#[]⟩, .string ⟨#[]⟩, .bool false] SPT)).heap.size = w.heap.size + 1 by simp] at hc1 hb2 hcell hfr hback
        obtain ⟨X, hX⟩ : ∃ X, byteAt p m = X := ⟨_, rfl⟩
        rw [hX] at i1 x1 hc hcell hback e
        obtain ⟨HI, hHI⟩ : ∃ HI, bstr ((nat8 ((bl p).take (m + 1))).set m (X + 1)) = HI := ⟨_, rfl⟩
        rw [hHI, show ((X + 1 : Nat) : Int) = (X : Int) + 1 by omega] at hback
        rw [hHI] at e
        have hs2 := (hsp.out.below hb2 (by simp))
        have hb3 := Lib.hid (hw1.out.trans (hb2.mono (by omega)))
        have z0 := hs2.c0
        have z1 := hs2.c1
        have z2 := hs2.c2
        have zf := hs2.fz
        unfold Z0 at z0 z1 z2
        dsimp only at z0 z1 z2
        have hX2 : X < 255 := by omega
        clear hX hHI hs2 hb2 hsp hw1 hopn hall
        go_wp2_with fail
        refine bodyPost_ret (v := .agg #[.string p, .string HI, .bool false]) (by rw [results_cell_one rfl]; go_simp) rfl ⟨by rw [e.out]; rfl, ?_⟩
        repeat refine Below.setCell ?_ (by dsimp only; omega) _
        exact hb3.out
end Go.Proofs.YtimdlgjgoggaiaaDoor
