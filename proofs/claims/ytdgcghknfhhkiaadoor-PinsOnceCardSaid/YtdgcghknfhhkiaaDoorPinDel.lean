/-
  slices.Delete of one reader.
-/
import Derived.Test.YtdgcghknfhhkiaaDoorPinApp
namespace Go.Proofs.YtdgcghknfhhkiaaDoor
open Go Go.RowKit

/-- A row stays where other blocks turn. -/
theorem ES.turnP {F : Nat → Prop} {w w' : World} {g o : Nat} {l : List Pn} (h : ES pinE w (some ⟨g, o, none⟩) l) (ht : Turn F w w') (hF : ¬ F g) : ES pinE w' (some ⟨g, o, none⟩) l := by
  rcases h with ⟨h, _⟩ | ⟨g', o', e, ⟨A, T, fz, h1, h2⟩, hc⟩
  · cases h
  · cases e
    exact .inr ⟨g, o, rfl, ⟨A, T, fz, ht.hg h1 hF, h2⟩, fun j u hu => by have := hc j u hu; rw [ht.cell (p := ⟨g, o + j, none⟩) (block_lt_of_cell this) hF]; exact this⟩
theorem zcells_one {z : Array Value} (hz : ∀ v ∈ z, v.oneCell' = true) (n : Nat) : ∀ v ∈ (Builtin.zeroCells z n).toList, v.oneCell' = true := by
  intro v hv
  simp only [Builtin.zeroCells, Array.toList_map, List.mem_map] at hv
  obtain ⟨i, hi, rfl⟩ := hv
  have hi2 : i < n * z.size := by simpa using hi
  have h0 : 0 < z.size := by
    rcases Nat.eq_zero_or_pos z.size with h | h
    · rw [h] at hi2; omega
    · exact h
  rw [getElem!_pos z (i % z.size) (Nat.mod_lt _ h0)]
  exact hz _ (Array.getElem_mem _)
theorem zcells_len (z : Array Value) (n : Nat) : (Builtin.zeroCells z n).toList.length = n * z.size := by simp [Builtin.zeroCells]
theorem run_clear_pins (w : World) (ty : TypeId) (b o n c : Nat) (hn : 0 < n)
    (hc : ∀ j, j < n * 18 → (w.cell? ⟨b, o + j, none⟩).isSome = true) (hf : ∀ j, j < n * 18 → w.frozen? ⟨b, o + j, none⟩ = false) :
    (Builtin.clear_ #[SPT] ty #[.slice (some ⟨b, o, none⟩) n c]).run Tryd.prog w = .ok (.tuple #[]) (w.setCells b o (Builtin.zeroCells (pv pn0) n).toList) := by
  have hl : (Builtin.zeroCells (pv pn0) n).toList.length = n * 18 := by rw [zcells_len, pv_size]
  have h1 := pv_one pn0
  rw [Array.all_eq_true_iff_forall_mem] at h1
  have hst := run_storeCells_cells (P := Tryd.prog) b o (Builtin.zeroCells (pv pn0) n).toList 0 w (by rw [hl]; simpa using hc) (by rw [hl]; simpa using hf) (zcells_one h1 n)
  simp only [Nat.add_zero] at hst
  have hzv : (Value.agg #[.int .u64 0, .int .u64 0, .int .u64 0, .int .u64 0, .int .u64 0, .int .u64 0, .int .u64 0, .int .u64 0, .int .u64 0, .int .u64 0, .int .u64 0, .int .u64 0, .int .u64 0, .int .u64 0, .int .u64 0, .int .u64 0, .int .u64 0, .int .u64 0]).cells = pv pn0 := by kernel_rfl
  obtain ⟨m, rfl⟩ : ∃ m, n = m + 1 := ⟨n - 1, by omega⟩
  simp [Builtin.clear_, run_underlying Tryd.underlying28, hzv, hst]
theorem Below.setCells {B : Nat} {a : World} : ∀ (vs : List Value) (b o : Nat) (w : World), B ≤ b → Below B a w → Below B a (w.setCells b o vs)
  | [], _, _, _, _, h => h
  | v :: r, b, o, _, hb, h => Below.setCells r b (o + 1) _ hb (h.setCell (p := ⟨b, o, none⟩) hb v)
theorem rt_setCells {g : Nat} {t : TypeId} : ∀ (vs : List Value) (o : Nat) (w : World), (∃ A, w.heap[g]? = some (.cells A t (0, 0))) → ∃ A, (w.setCells g o vs).heap[g]? = some (.cells A t (0, 0))
  | [], _, _, h => h
  | v :: r, o, w, ⟨A, h⟩ => rt_setCells r (o + 1) _ ⟨_, heap_setCell_same w g o A t v h⟩
set_option maxRecDepth 100000 in
set_option maxHeartbeats 1000000 in
theorem pdel_any (v : Value) (l : List Pn) (i B : Nat) (w : World) (hi : i < l.length) (ho : w.ownsRow B PT 18 v l.length (pinE.row l)) :
    Calls Tryd.prog 26 #[v, .int .i64 (i : Nat), .int .i64 ((i + 1 : Nat) : Int)] w fun e w' => ∃ g c, e = .returned (.slice (some ⟨g, 0, none⟩) (pdel l i).length c) ∧ B ≤ g ∧ EV pinE w' (.slice (some ⟨g, 0, none⟩) (pdel l i).length c) (pdel l i) ∧ Below B w w' := by
  obtain ⟨i0, hi0, hz0, hz1, hz2⟩ := info_parts pinfo
  have ho' := ho
  rcases ho.2 with ⟨_, h0⟩ | ⟨g, cap, cur, rfl, hBg, hg, hnc, hcm, hcs, htk⟩
  · omega
  obtain ⟨n, hn⟩ : ∃ n, l.length = n := ⟨_, rfl⟩
  obtain ⟨J, hJ⟩ : ∃ J, i + 1 = J := ⟨_, rfl⟩
  rw [hn] at hi hnc ho' htk ⊢
  rw [hJ]
  have hcap9 : cap ≤ 9223372036854775807 := by unfold maxLen at hcm; omega
  have hcell : ∀ t, t < n * 18 → w.cell? ⟨g, t, none⟩ = (pinE.row l)[t]? := fun t ht => ho'.cellAt t ht
  have hfz : ∀ t, w.frozen? ⟨g, t, none⟩ = false := fun t => ho'.frozenAt t
  have hrow : (pinE.row l).length = n * 18 := by rw [Elt.row_len, hn]; rfl
  have hsz : pinE.sz = 18 := rfl
  -- the cells that are moved to the left
  obtain ⟨news, hnews⟩ : ∃ news, news = pinE.row (l.drop J) := ⟨_, rfl⟩
  have hlen : news.length = (n - J) * 18 := by rw [hnews, Elt.row_len, List.length_drop, hn]; rfl
  have hget : ∀ t, t < (n - J) * 18 → w.cell? ⟨g, J * 18 + t, none⟩ = news[t]? := by
    intro t ht
    rw [hcell _ (by omega)]
    have ht2 : t < news.length := by rw [hlen]; exact ht
    have := pinE.row_drop l J t (by omega) news[t] (by rw [← hnews]; exact List.getElem?_eq_getElem ht2)
    rw [hsz] at this
    rw [this, List.getElem?_eq_getElem ht2]
  obtain ⟨A, hA, hsrc⟩ : ∃ A : Addr, (if cap = J then some (⟨g, 0, none⟩ : Addr) else some ⟨g, J * 18, none⟩) = some A ∧ Hid (∀ t u, news[t]? = some u → w.drew.cell? (A.add t) = some u) := by
    by_cases h : cap = J
    · refine ⟨⟨g, 0, none⟩, by simp [h], fun t u hu => ?_⟩
      have h0 : news.length = 0 := by rw [hlen]; omega
      rw [List.length_eq_zero_iff.1 h0] at hu
      simp at hu
    · refine ⟨⟨g, J * 18, none⟩, by simp [h], fun t u hu => ?_⟩
      have ht : t < (n - J) * 18 := by
        have := (List.getElem?_eq_some_iff.1 hu).1
        rwa [hlen] at this
      rw [Addr.add_lit]
      exact (hget t ht).trans hu
  have s1 : Hid (news.length = (n - J) * 18) := hlen
  have s2 : Hid (∀ u ∈ news, u.oneCell' = true) := by rw [hnews]; exact pinE.row_one _
  have s3 : Hid (∀ t, t < news.length → (w.drew.cell? ⟨g, 0 + i * 18 + t, none⟩).isSome = true ∧ w.drew.frozen? ⟨g, 0 + i * 18 + t, none⟩ = false) := by
    intro t ht
    rw [hlen] at ht
    refine ⟨?_, hfz _⟩
    show (w.cell? _).isSome = true
    rw [hcell _ (by omega), List.getElem?_eq_getElem (by rw [hrow]; omega)]; rfl
  obtain ⟨W1, hW1⟩ : ∃ W1, W1 = w.drew.setCells g (0 + i * 18) news := ⟨_, rfl⟩
  have hset : ∀ x, W1.cell? x = (w.drew.setCells g (0 + i * 18) news).cell? x := fun x => by rw [hW1]
  have hsome1 : ∀ t, t < n * 18 → (W1.cell? ⟨g, t, none⟩).isSome = true := by
    intro t ht
    rw [hW1]
    refine World.isSome_setCells g news _ _ _ ?_
    show (w.cell? _).isSome = true
    rw [hcell _ ht, List.getElem?_eq_getElem (by rw [hrow]; exact ht)]; rfl
  have hfz1 : ∀ t, W1.frozen? ⟨g, t, none⟩ = false := by
    intro t
    rw [hW1, World.frozen?_setCells]; exact hfz t
  have hcl : ∀ ty, (Builtin.clear_ #[SPT] ty #[.slice (some ⟨g, (i + (n - J)) * 18, none⟩) (n - (i + (n - J))) (cap - (i + (n - J)))]).run Tryd.prog W1 = .ok (.tuple #[]) (W1.setCells g ((i + (n - J)) * 18) (Builtin.zeroCells (pv pn0) (n - (i + (n - J)))).toList) :=
    fun ty => run_clear_pins W1 ty g _ _ _ (by omega) (fun t ht => hsome1 _ (by omega)) (fun t _ => hfz1 _)
  obtain ⟨W2, hW2⟩ : ∃ W2, W2 = W1.setCells g ((i + (n - J)) * 18) (Builtin.zeroCells (pv pn0) (n - (i + (n - J)))).toList := ⟨_, rfl⟩
  rw [← hW2] at hcl
  have hzl : (Builtin.zeroCells (pv pn0) (n - (i + (n - J)))).toList.length = (n - (i + (n - J))) * 18 := by rw [zcells_len, pv_size]
  have hB2 : Below B w W2 := by rw [hW2, hW1]; exact Below.setCells _ _ _ _ hBg (Below.setCells _ _ _ _ hBg (Below.refl _ _).drew)
  have hlen2 : (pdel l i).length = n - 1 := by rw [pdel_len l i (by rw [hn]; exact hi), hn]
  have hrow2 : pinE.row (pdel l i) = (pinE.row (l.take i)) ++ news := by unfold pdel; rw [Elt.row_app, hnews, ← hJ]
  have htl : (pinE.row (l.take i)).length = i * 18 := by rw [Elt.row_len, List.length_take, Nat.min_eq_left (by omega)]; rfl
  have hES : ES pinE W2 (some ⟨g, 0, none⟩) (pdel l i) := by
    refine .inr ⟨g, 0, rfl, ?_, fun j u hu => ?_⟩
    · obtain ⟨A2, hA2⟩ := rt_setCells (t := PT) (Builtin.zeroCells (pv pn0) (n - (i + (n - J)))).toList ((i + (n - J)) * 18) W1 (by rw [hW1]; exact rt_setCells (t := PT) news (0 + i * 18) w.drew ⟨cur, hg⟩)
      exact ⟨A2, PT, (0, 0), by rw [hW2]; exact hA2, rfl⟩
    · have hj : j < (n - 1) * 18 := by have := (List.getElem?_eq_some_iff.1 hu).1; rw [Elt.row_len, hlen2] at this; exact this
      rw [Nat.zero_add, hW2, World.cell?_setCells_out g _ _ _ _ (fun _ _ => Or.inl (by show j < _; omega)), hW1]
      rw [hrow2] at hu
      by_cases hji : j < i * 18
      · rw [World.cell?_setCells_out g _ _ _ _ (fun _ _ => Or.inl (by show j < _; omega))]
        rw [List.getElem?_append_left (by rw [htl]; exact hji)] at hu
        show w.cell? _ = _
        rw [hcell _ (by omega)]
        exact pinE.row_take l i j u hu
      · rw [List.getElem?_append_right (by rw [htl]; omega), htl] at hu
        have hjn : j - i * 18 < news.length := (List.getElem?_eq_some_iff.1 hu).1
        have h3 := World.cell?_setCells_in g news (0 + i * 18) w.drew (fun t ht => (s3.out t ht).1) (j - i * 18) hjn
        rw [show 0 + i * 18 + (j - i * 18) = j by omega] at h3
        rw [h3]
        rw [List.getElem?_eq_getElem hjn] at hu
        exact hu
  have HE := Lib.hid (And.intro hES hB2)
  have mixed : Tryd.prog.follows .mixedOrders = true := by kernel_rfl
  have hW : Hid (W1 = w.drew.setCells g (0 + i * 18) news) := hW1
  have hic : i ≤ cap := by omega
  have hne : ¬ cap = i + (n - J) := by omega
  have hJc : J ≤ cap := by omega
  have hiJ : i ≤ J := by omega
  have hJn : J ≤ n := by omega
  have d1 : ((i : Int) == (J : Int)) = false := by rw [beq_eq_false_iff_ne]; omega
  have HL : Hid ((pdel l i).length = i + (n - J)) := by show _ = _; omega
  have Hcm := Lib.hid hcm
  have HBg := Lib.hid hBg
  have hjj := Lib.hid hJ
  clear hW1 hset hsome1 hfz1 hW2 hzl hB2 hlen2 hrow2 htl hES hcell hfz hrow hget hnews hlen ho ho' hg hcs htk hBg hn hJ hsz
  go_enter Tryd.func26, Tryd.ntmps26
  go_wp2_with fail
  go_region_law_o (refine step_append_room rfl (.tmp 22) (.tmp 25) SPT rfl PT i0 18 Tryd.underlying28 hi0 hz1 g 0 i cap (by simp [Act.eval, Act.put]) A (n - J) (cap - J) news (by simp [Act.eval, Act.put]) s1.out hsrc.out s2.out (by omega) s3.out ?_; rw [← hW.out])
  go_wp2
  go_ret
  exact ⟨g, cap, by rw [HL.out]; rfl, HBg.out, ⟨_, cap, rfl, HE.out.1, (fun h => by cases h), by rw [HL.out]; omega, Hcm.out⟩, HE.out.2⟩
end Go.Proofs.YtdgcghknfhhkiaaDoor
