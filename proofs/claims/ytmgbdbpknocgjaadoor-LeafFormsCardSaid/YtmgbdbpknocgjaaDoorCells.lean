/-
  A slice of cells in memory.
-/
import Derived.Test.YtmgbdbpknocgjaaDoorLeaf1
import Derived.Test.YtmgbdbpknocgjaaDoorBy
import Derived.Test.YtmgbdbpknocgjaaDoorGr
import Derived.Laws.Cover1
namespace Go.Proofs.YtmgbdbpknocgjaaDoor
open Go Go.RowKit

/-- A cell lies at a place. -/
structure CAt (w : World) (g o : Nat) (c : Ce) : Prop where
  c0 : w.cell? ⟨g, o, none⟩ = some (.string c.k)
  c1 : w.cell? ⟨g, o + 1, none⟩ = some (.string c.v)
  c2 : w.cell? ⟨g, o + 2, none⟩ = some (.int .i64 c.n)
  c3 : w.cell? ⟨g, o + 3, none⟩ = some (.int .i64 c.p)
theorem CAt.lt {w : World} {g o : Nat} {c : Ce} (h : CAt w g o c) : g < w.heap.size := block_lt_of_cell h.c0
theorem CAt.below {w w' : World} {g o B : Nat} {c : Ce} (h : CAt w g o c) (hb : Below B w w') (hB : g < B) : CAt w' g o c :=
  ⟨by rw [hb.cell (p := ⟨g, o, none⟩) hB]; exact h.c0, by rw [hb.cell (p := ⟨g, o + 1, none⟩) hB]; exact h.c1, by rw [hb.cell (p := ⟨g, o + 2, none⟩) hB]; exact h.c2, by rw [hb.cell (p := ⟨g, o + 3, none⟩) hB]; exact h.c3⟩
theorem CAt.ext {w w' : World} {g o : Nat} {c : Ce} (h : CAt w g o c) (hb : Ext w.drew w') : CAt w' g o c :=
  h.below (B := w.heap.size) ((Below.refl _ w).drew.trans hb) h.lt
/-- A slice that reads as these cells. -/
def CSrc (w : World) (a : Option Addr) (cs : List Ce) : Prop := 0 < cs.length → ∃ g o, a = some ⟨g, o, none⟩ ∧ ∀ i, i < cs.length → CAt w g (o + i * 4) (ca cs i)
theorem CSrc.below {w w' : World} {a : Option Addr} {cs : List Ce} {B : Nat} (h : CSrc w a cs) (hb : Below B w w') (hB : w.heap.size ≤ B) : CSrc w' a cs := fun h0 => by
  obtain ⟨g, o, rfl, hc⟩ := h h0
  exact ⟨g, o, rfl, fun i hi => (hc i hi).below hb (Nat.lt_of_lt_of_le (hc i hi).lt hB)⟩
theorem CSrc.nil (w : World) (a : Option Addr) : CSrc w a [] := fun h => by cases h
/-- The first ones. -/
theorem CSrc.take {w : World} {a : Option Addr} {cs : List Ce} (h : CSrc w a cs) (k : Nat) : CSrc w a (cs.take k) := fun h0 => by
  rw [List.length_take] at h0
  obtain ⟨g, o, rfl, hc⟩ := h (by omega)
  refine ⟨g, o, rfl, fun i hi => ?_⟩
  rw [List.length_take] at hi
  have e : ca (cs.take k) i = ca cs i := by unfold ca; simp [List.getD, show i < k by omega]
  rw [e]; exact hc i (by omega)
/-- The cells, one value behind the other. -/
def cvs : List Ce → List Value
  | [] => []
  | c :: r => .string c.k :: .string c.v :: .int .i64 c.n :: .int .i64 c.p :: cvs r
theorem cvs_len : ∀ cs : List Ce, (cvs cs).length = cs.length * 4
  | [] => rfl
  | c :: r => by simp only [cvs, List.length_cons, cvs_len r]; omega
theorem cvs_app (a b : List Ce) : cvs (a ++ b) = cvs a ++ cvs b := by
  induction a with
  | nil => rfl
  | cons c r ih => simp only [List.cons_append, cvs, ih]
theorem cvs_one : ∀ cs : List Ce, ∀ u ∈ cvs cs, u.oneCell' = true
  | [], u, h => by cases h
  | c :: r, u, h => by
    simp only [cvs, List.mem_cons] at h
    rcases h with rfl | rfl | rfl | rfl | h
    · rfl
    · rfl
    · rfl
    · rfl
    · exact cvs_one r u h
theorem cvs_get : ∀ (cs : List Ce) (i j : Nat), i < cs.length → j < 4 → (cvs cs)[i * 4 + j]? = [Value.string (ca cs i).k, .string (ca cs i).v, .int .i64 (ca cs i).n, .int .i64 (ca cs i).p][j]?
  | [], i, j, h, _ => by simp at h
  | c :: r, 0, j, _, hj => by
    have e : ca (c :: r) 0 = c := rfl
    rw [e]
    rcases j with _ | _ | _ | _ | j
    · rfl
    · rfl
    · rfl
    · rfl
    · omega
  | c :: r, i + 1, j, h, hj => by
    have e : ca (c :: r) (i + 1) = ca r i := rfl
    rw [e, show (i + 1) * 4 + j = (i * 4 + j) + 4 by omega, cvs]
    simp only [List.getElem?_cons_succ]
    exact cvs_get r i j (by simpa using h) hj
/-- An owned row of cells, as a slice. -/
theorem own_cells {w : World} {B E : Nat} {v : Value} {cs : List Ce} (h : w.ownsRow B E 4 v cs.length (cvs cs)) :
    ∃ a c, v = .slice a cs.length c ∧ CSrc w a cs ∧ (a = none → c = 0) ∧ cs.length ≤ c ∧ c ≤ maxLen := by
  have h' := h
  obtain ⟨_, h2⟩ := h
  rcases h2 with ⟨rfl, h0⟩ | ⟨g, cap, cur, rfl, hb, hg, hnc, hcm, _⟩
  · have : cs = [] := List.eq_nil_of_length_eq_zero h0
    subst this
    exact ⟨none, 0, rfl, CSrc.nil _ _, fun _ => rfl, Nat.le_refl _, by unfold maxLen; omega⟩
  · refine ⟨_, cap, rfl, fun _ => ⟨g, 0, rfl, fun i hi => ?_⟩, (fun h => by cases h), hnc, hcm⟩
    have hcell : ∀ j, j < 4 → w.cell? ⟨g, 0 + i * 4 + j, none⟩ = [Value.string (ca cs i).k, .string (ca cs i).v, .int .i64 (ca cs i).n, .int .i64 (ca cs i).p][j]? := fun j hj => by
      have := h'.cellAt (i * 4 + j) (by omega)
      rw [cvs_get cs i j hi hj] at this
      rw [Nat.zero_add]; exact this
    exact ⟨hcell 0 (by omega), hcell 1 (by omega), hcell 2 (by omega), hcell 3 (by omega)⟩
/-- A slice of cells, nil or at a place of a row, with its reach. -/
def Cl (w : World) (v : Value) (cs : List Ce) : Prop := ∃ a c, v = .slice a cs.length c ∧ CSrc w a cs ∧ (a = none → c = 0) ∧ cs.length ≤ c ∧ c ≤ maxLen
theorem Cl.below {w w' : World} {v : Value} {cs : List Ce} {B : Nat} (h : Cl w v cs) (hb : Below B w w') (hB : w.heap.size ≤ B) : Cl w' v cs := by
  obtain ⟨a, c, rfl, hs, h1⟩ := h
  exact ⟨a, c, rfl, hs.below hb hB, h1⟩
theorem Cl.none (w : World) : Cl w (.slice none 0 0) [] := ⟨Option.none, 0, rfl, CSrc.nil _ _, fun _ => rfl, Nat.le_refl _, by unfold maxLen; omega⟩
theorem infoC : (Tryd.prog.info? CT).map (fun i => (i.zero, i.size, i.bytes)) = some (some (.agg #[.string ⟨#[]⟩, .string ⟨#[]⟩, .int .i64 0, .int .i64 0]), 4, 48) := by kernel_rfl
theorem infoRC : (Tryd.prog.info? RCT).map (fun i => (i.zero, i.size, i.bytes)) = some (some (.agg #[.string ⟨#[]⟩, .string ⟨#[]⟩, .int .i64 0, .int .i64 0]), 4, 48) := by kernel_rfl
section
variable {P : Program} {w : World} {ops : Array Oper} {rest : List Oper} {o : Oper} {a : Act} {Q : Exit → Act → World → Prop}
/-- append of one new cell. -/
theorem wpList_append_cell (hgd : o.guard = none) (s x : Operand) (t : TypeId)
    (ho : o.op = .call { callee := .builtin .append, args := #[s, x], argTypes := #[t, t] })
    (base : Nat) (e : TypeId) (ht : P.underlying t = some (.slice e)) (h2 : (P.info? e).map (fun i => (i.zero, i.size, i.bytes)) = some (some (.agg #[.string ⟨#[]⟩, .string ⟨#[]⟩, .int .i64 0, .int .i64 0]), 4, 48))
    (v : Value) (cs : List Ce) (hs : a.eval s = v) (hown : Hid (w.ownsRow base e 4 v cs.length (cvs cs)))
    (g c : Nat) (y : Ce) (hx : a.eval x = .slice (some ⟨g, 0, none⟩) 1 c) (hy : CAt w g 0 y)
    (hlen : (cs.length + 1) * 48 ≤ 140737488355328) (hbase : base ≤ w.heap.size)
    (h : ∀ v' w', Hid (w'.ownsRow base e 4 v' (cs ++ [y]).length (cvs (cs ++ [y]))) → Hid (w.grownBy w' v.ownBlock) → wpList P ops Q rest (a.put o.dst v') w') :
    wpList P ops Q (o :: rest) a w := by
  obtain ⟨i0, hi, hz0, hz1, hz2⟩ := info_parts h2
  refine wpList_append_near hgd s x t ho base e i0 (.agg #[.string ⟨#[]⟩, .string ⟨#[]⟩, .int .i64 0, .int .i64 0]) 4 48 ht hi hz0 hz1 hz2 rfl (by decide) v cs.length (cvs cs) hs hown.out ⟨g, 0, none⟩ 1 c (cvs [y]) hx (by simp [cvs]) ?_ (cvs_one [y]) (by unfold maxLen; omega) hlen hbase ?_
  · intro j u hj
    have hj4 : j < 4 := by
      rcases Nat.lt_or_ge j 4 with h1 | h1
      · exact h1
      · rw [List.getElem?_eq_none (by rw [cvs_len]; simpa using h1)] at hj; cases hj
    rw [addr_add, Nat.zero_add]
    have h0 := hy.c0
    have h1 := hy.c1
    have h2 := hy.c2
    have h3 := hy.c3
    rw [Nat.zero_add] at h1 h2 h3
    rcases j with _ | _ | _ | _ | j
    · rw [h0, ← hj]; rfl
    · rw [h1, ← hj]; rfl
    · rw [h2, ← hj]; rfl
    · rw [h3, ← hj]; rfl
    · omega
  · intro v' w' hown' hg _
    refine h v' w' ?_ hg
    show w'.ownsRow _ _ _ _ _ _
    rw [cvs_app, List.length_append]; exact hown'
end
/-- A cell's new row. -/
theorem cat_new (w : World) (E : TypeId) (c : Ce) : CAt (w.alloc (.cells #[.string c.k, .string c.v, .int .i64 c.n, .int .i64 c.p] E)) w.heap.size 0 c := ⟨by simp, by simp, by simp, by simp⟩
set_option maxRecDepth 100000 in
theorem ascend_any (a : Option Addr) (n c : Nat) (cs : List Ce) (w : World) (hn : cs.length = n) (hs : CSrc w a cs) (hl : n ≤ 9223372036854775807) :
    Calls Tryd.prog 21 #[.slice a n c] w fun e w' => ∃ D, e = .returned (.bool D) ∧ (D = true ↔ asc cs) ∧ Below w.heap.size w w' := by
  have Hs := Lib.hid hs
  have Hn := Lib.hid hn
  clear hs hn
  go_enter Tryd.func21, Tryd.ntmps21
  go_wp2_with fail
  go_loopw [3] (fun i wr => ∃ k : Nat, i = .int .i64 k ∧ 1 ≤ k ∧ (k ≤ n ∨ k = 1) ∧ Hid (ascTo cs k) ∧ Hid (Below w.heap.size w wr)) (fun i _ => n - (intOf i).toNat)
  case atStart => exact ⟨1, rfl, by omega, .inr rfl, fun i h0 hi => by omega, Below.refl _ _⟩
  case round =>
    obtain ⟨k, rfl, hk1, hkn, ht, hB⟩ := hrel
    by_cases hlt : k < n
    · obtain ⟨j, rfl⟩ : ∃ j, k = j + 1 := ⟨k - 1, by omega⟩
      obtain ⟨g, o, rfl, hcell⟩ := Hs.out.below hB.out (Nat.le_refl _) (by rw [Hn.out]; omega)
      have hA := hcell (j + 1) (by rw [Hn.out]; omega)
      have hC := hcell j (by rw [Hn.out]; omega)
      have hle := ble_eq (ca cs (j + 1)).k (ca cs j).k
      have hyes : Hid (blt (ca cs j).k (ca cs (j + 1)).k = true → ascTo cs (j + 1 + 1)) := fun h => ascTo_succ ht.out (fun _ => by rw [Nat.add_sub_cancel]; exact h)
      have hno : Hid (blt (ca cs j).k (ca cs (j + 1)).k = false → ¬ asc cs) := fun h => not_asc (k := j + 1) (by omega) (by rw [Hn.out]; exact hlt) (by rw [Nat.add_sub_cancel]; exact h)
      have q1 : ∀ w', Ext wr.drew w' → w'.cell? ⟨g, o + (j + 1) * 4, none⟩ = some (.string (ca cs (j + 1)).k) := fun w' hw => (hA.ext hw).c0
      have q2 : ∀ w', Ext wr.drew w' → w'.cell? ⟨g, o + j * 4, none⟩ = some (.string (ca cs j).k) := fun w' hw => (hC.ext hw).c0
      generalize blt (ca cs j).k (ca cs (j + 1)).k = D at *
      have i1 : (0 : Int) ≤ (j : Int) + 1 := by omega
      have i2 : (j : Int) + 1 < (n : Int) := by omega
      have i3 : (j : Int) < (n : Int) := by omega
      have i4 : IntKind.i64.wrap (j : Int) = (j : Int) := by rw [IntKind.wrap_i64]; omega
      clear hA hC hcell
      go_wp2_with fail
      refine wp_region_gr [(0, true), (1, true), (2, true), (3, true), (4, true), (5, true), (6, true), (7, true), (8, true), (9, true), (10, true), (11, true)] (by kernel_rfl) (by kernel_rfl) (by kernel_rfl) (by kernel_rfl) (fun _ _ _ _ _ h => h) ?_
      iterate 12 (refine wpGr_read (o := ⟨_, _, _, _, _, _⟩) (v := ?_) rfl (by rfl) ?_ ?_; rotate_left; (intro w' hw'; go_simp; with_reducible rfl); simp only [Act.put, List.setIfInBounds_toArray, List.set_cons_zero, List.set_cons_succ])
      refine wpGr_done ?_
      have hB2 : Hid (Below w.heap.size w wr.drew) := hB.out.drew
      clear q1 q2 hB ht
      cases D with
      | true =>
        have hy := Lib.hid (hyes.out rfl)
        clear hyes hno
        go_wp2_with fail
        go_roundw
        case rel => exact ⟨j + 1 + 1, by go_num, by omega, .inl (by omega), hy, hB2⟩
        case measure => simp [intOf]; omega
      | false =>
        have hy := Lib.hid (hno.out rfl)
        clear hyes hno
        go_wp2_with fail
        go_ret
        exact ⟨_, rfl, ⟨(fun h => by cases h), fun h => absurd h hy.out⟩, hB2.out⟩
    · have hasc : Hid (asc cs) := by
        show ascTo cs cs.length
        rw [Hn.out]
        rcases hkn with h | h
        · obtain rfl : k = n := by omega
          exact ht.out
        · intro i h0 hi; omega
      clear ht hkn
      go_wp2
      go_ret
      exact ⟨_, rfl, ⟨fun _ => hasc.out, fun _ => rfl⟩, hB.out⟩
end Go.Proofs.YtmgbdbpknocgjaaDoor
