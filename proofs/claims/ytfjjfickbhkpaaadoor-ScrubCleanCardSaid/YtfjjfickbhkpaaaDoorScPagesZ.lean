/-
  The pages that ScrubClean lays: what they are, and where.
-/
import Derived.Test.YtfjjfickbhkpaaaDoorScrubMathZ
import Derived.Test.YtfjjfickbhkpaaaDoorBAZ
import Derived.Test.YtfjjfickbhkpaaaDoorElsZ
import Derived.Test.YtfjjfickbhkpaaaDoorSure22Z
namespace Go.Proofs.YtfjjfickbhkpaaaDoor
open Go Go.RowKit

theorem dirL_nil {f : Nat → Bool} {P : List (List Nat)} : ∀ m, (∀ k, k < m → dirB f P k = false) → dirL f P m = []
  | 0, _ => rfl
  | m + 1, h => by rw [dirL_no (h m (by omega)), dirL_nil m (fun k hk => h k (by omega))]
theorem dirL_one {f : Nat → Bool} {P : List (List Nat)} {n0 : Nat} (h1 : dirB f P n0 = true) : ∀ m, n0 < m → (∀ k, k < m → k ≠ n0 → dirB f P k = false) → dirL f P m = [(n0 : Int)]
  | 0, h0, _ => by omega
  | m + 1, h0, h => by
    by_cases e : m = n0
    · subst e
      rw [dirL_yes h1, dirL_nil m (fun k hk => h k (by omega) (by omega))]; rfl
    · rw [dirL_no (h m (by omega) e), dirL_one h1 m (by omega) (fun k hk => h k (by omega))]
theorem clnL_all {f : Nat → Bool} {P : List (List Nat)} : ∀ m, (∀ k, k < m → clnB f P k = true) → clnL f P m = true
  | 0, _ => rfl
  | m + 1, h => clnL_yes (clnL_all m (fun k hk => h k (by omega))) (h m (by omega))
theorem slW_all {f : Nat → Bool} {P : List (List Nat)} : ∀ m, (∀ k, k < m → slB f P k = true → nzK (behL (pgK P k)) (behL (pgK P k)).length = 0) → slW f P m = 0
  | 0, _ => rfl
  | m + 1, h => by
    cases hb : slB f P m
    · rw [(sl_no hb).2]; exact slW_all m (fun k hk => h k (by omega))
    · rw [(sl_yes hb).2, h m (by omega) hb, slW_all m (fun k hk => h k (by omega))]
theorem nz_az {l : List Nat} (h : allZero l = true) : ∀ k, nzK l k = 0
  | 0 => rfl
  | k + 1 => by
    have : l.getD k 0 = 0 := by
      rw [List.getD_eq_getElem?_getD]
      rcases Nat.lt_or_ge k l.length with h1 | h1
      · rw [List.getElem?_eq_getElem h1]
        unfold allZero at h
        rw [List.all_eq_true] at h
        simpa using h _ (List.getElem_mem h1)
      · rw [List.getElem?_eq_none h1]; rfl
    rw [nzK_yes this, nz_az h k]
/-- SC2: a page has no slack that is not 0. -/
theorem opS_slack {l : List Nat} (h : (opS l).2.2 = 0) : allZero (behL l) = true := by
  unfold opS at h
  split at h
  · exact absurd h (by simp)
  · split at h
    · exact absurd h (by simp)
    · split at h
      · rename_i hg
        unfold behL ldN
        rw [Nat.min_eq_left hg.2.2.1]; exact hg.2.2.2
      · exact absurd h (by simp)
/-- 512 noughts. -/
def ZP : List Nat := List.replicate 512 0
theorem zs_get (n b : Nat) : (List.replicate n 0).getD b 0 = 0 := by
  rw [List.getD_eq_getElem?_getD, List.getElem?_replicate]; split <;> rfl
theorem ZP_get (b : Nat) : ZP.getD b 0 = 0 := zs_get 512 b
theorem ZP_len : ZP.length = 512 := List.length_replicate
theorem ZP_b8 : B8 ZP := B8.zeros _
theorem ZP_az : allZero ZP = true := az_zs 512
/-- Page j + 2 of the law. -/
def scP (f : Nat → Bool) (L : List (List Nat)) (j : Nat) : List Nat := if inB f ((j + 2 : Nat) : Int) then pageL 1 ((pgK L j).take 504) else ZP
def scPs (f : Nat → Bool) (L : List (List Nat)) (i : Nat) : List (List Nat) := [] :: [] :: (List.range i).map (scP f L)
theorem scPs_len (f : Nat → Bool) (L : List (List Nat)) (i : Nat) : (scPs f L i).length = i + 2 := by simp [scPs]
theorem scPs_succ (f : Nat → Bool) (L : List (List Nat)) (i : Nat) : scPs f L (i + 1) = scPs f L i ++ [scP f L i] := by
  unfold scPs
  rw [List.range_succ, List.map_append]; rfl
theorem scPs_at (f : Nat → Bool) (L : List (List Nat)) (i k : Nat) (h2 : 2 ≤ k) (h : k < i + 2) : pgK (scPs f L i) k = scP f L (k - 2) := by
  obtain ⟨j, rfl⟩ : ∃ j, k = j + 2 := ⟨k - 2, by omega⟩
  unfold pgK scPs
  rw [List.getD_eq_getElem?_getD, List.getElem?_cons_succ, List.getElem?_cons_succ, List.getElem?_map, List.getElem?_range (by omega), Option.map_some, Option.getD_some, show j + 2 - 2 = j by omega]
theorem take504 (l : List Nat) : (l.take 504).length ≤ 504 := by rw [List.length_take]; omega
theorem B8.take' {l : List Nat} (h : B8 l) (k : Nat) : B8 (l.take k) := fun x hx => h x (List.mem_of_mem_take hx)
theorem scP_len (f : Nat → Bool) (L : List (List Nat)) (j : Nat) : (scP f L j).length = 512 := by
  unfold scP
  split
  · exact pageL_length (take504 _)
  · exact ZP_len
theorem scP_b8 (f : Nat → Bool) (L : List (List Nat)) (j : Nat) (h : B8 (pgK L j)) : B8 (scP f L j) := by
  unfold scP
  split
  · exact pageL_b8 (by omega) (take504 _) (h.take' 504)
  · exact ZP_b8
/-- The pages that the law lays are clean. -/
theorem sc_clean (f : Nat → Bool) (L : List (List Nat)) (i : Nat) : dirL f (scPs f L i) (i + 2) = [] ∧ clnS f (scPs f L i) (i + 2) = true ∧ slW f (scPs f L i) (i + 2) = 0 := by
  have hd : dirL f (scPs f L i) (i + 2) = [] := dirL_nil _ (fun k hk => by
    unfold dirB
    by_cases h2 : 2 ≤ k
    · rw [scPs_at f L i k h2 hk]
      unfold scP
      rw [show k - 2 + 2 = k by omega]
      cases inB f (k : Nat)
      · rw [if_neg (by decide), ZP_az]; simp
      · simp
    · rw [decide_eq_false h2]; rfl)
  refine ⟨hd, ?_, slW_all _ (fun k hk hb => ?_)⟩
  · unfold clnS
    rw [hd, clnL_all _ (fun k hk => ?_)]
    · rfl
    · unfold clnB
      by_cases h2 : 2 ≤ k
      · rw [scPs_at f L i k h2 hk]
        unfold scP
        rw [show k - 2 + 2 = k by omega]
        cases inB f (k : Nat)
        · simp
        · rw [if_pos rfl]
          unfold isPg
          rw [opS_page (by omega) (by omega) (take504 _)]; simp
      · rw [decide_eq_false h2]; rfl
  · unfold slB at hb
    by_cases h2 : 2 ≤ k
    · rw [scPs_at f L i k h2 hk] at hb ⊢
      unfold scP at hb ⊢
      rw [show k - 2 + 2 = k by omega] at hb ⊢
      cases hi : inB f (k : Nat)
      · rw [hi, Bool.false_and, Bool.and_false] at hb; cases hb
      · rw [if_pos rfl]
        exact nz_az (opS_slack (by rw [opS_page (by omega) (by omega) (take504 _)])) _
    · rw [decide_eq_false h2, Bool.false_and] at hb; cases hb
theorem pgK_set (P : List (List Nat)) (n k : Nat) (x : List Nat) (h : n < P.length) : pgK (P.set n x) k = if k = n then x else pgK P k := by
  unfold pgK
  rw [List.getD_eq_getElem?_getD, List.getD_eq_getElem?_getD, List.getElem?_set]
  by_cases e : n = k
  · subst e; rw [if_pos rfl, if_pos rfl, if_pos h]; rfl
  · rw [if_neg e, if_neg (fun h => e h.symm)]
theorem az_set (b y : Nat) (hb : b < 512) (h0 : y ≠ 0) : allZero (ZP.set b y) = false := by
  rw [Bool.eq_false_iff]
  intro h
  unfold allZero at h
  rw [List.all_eq_true] at h
  have := h y (List.mem_set (by rw [ZP_len]; exact hb) y)
  exact h0 (by simpa using this)
/-- With a byte in a page that is not used they are not. -/
theorem sc_dirty (f : Nat → Bool) (L : List (List Nat)) (i n b y : Nat) (h2 : 2 ≤ n) (hn : n < i + 2) (hu : inB f (n : Nat) = false) (hb : b < 512) (h0 : y ≠ 0) :
    dirL f ((scPs f L i).set n (ZP.set b y)) (i + 2) = [(n : Int)] ∧ clnS f ((scPs f L i).set n (ZP.set b y)) (i + 2) = false := by
  have hd : dirL f ((scPs f L i).set n (ZP.set b y)) (i + 2) = [(n : Int)] := by
    refine dirL_one ?_ _ hn (fun k hk hne => ?_)
    · unfold dirB
      rw [pgK_set _ _ _ _ (by rw [scPs_len]; exact hn), if_pos rfl, hu, decide_eq_true h2, az_set b y hb h0]; rfl
    · unfold dirB
      rw [pgK_set _ _ _ _ (by rw [scPs_len]; exact hn), if_neg hne]
      by_cases h2 : 2 ≤ k
      · rw [scPs_at f L i k h2 hk]
        unfold scP
        rw [show k - 2 + 2 = k by omega]
        cases inB f (k : Nat)
        · rw [if_neg (by decide), ZP_az]; simp
        · simp
      · rw [decide_eq_false h2]; rfl
  refine ⟨hd, ?_⟩
  unfold clnS
  rw [hd]; exact Bool.and_false _

abbrev PQT : TypeId := 26
/-- A row of slices: none, or a row of 512 bytes with its reach. -/
def pqE : Elt (Option (Nat × Nat)) := ⟨1, 24, .slice none 0 0, fun x => [match x with | none => .slice none 0 0 | some y => .slice (some ⟨y.1, 0, none⟩) 512 y.2], fun _ => rfl, fun e u hu => by
  simp only [List.mem_cons, List.not_mem_nil, or_false] at hu; subst hu; cases e <;> rfl, by decide, rfl, fun T => T == PQT⟩
theorem infoPq : (Tryd.prog.info? PQT).map (fun i => (i.zero, i.size, i.bytes)) = some (some pqE.zero, pqE.sz, pqE.by_) := by kernel_rfl
/-- A page in a block. -/
def PgO (w : World) (g c : Nat) (l : List Nat) : Prop := l.length = 512 ∧ B8 l ∧ 512 ≤ c ∧ c ≤ 9223372036854775807 ∧ ∃ A, w.heap[g]? = some (.cells A 5 (0, 0)) ∧ ∀ i, i < 512 → A[i]? = some (.int .u8 (l.getD i 0 : Nat))
theorem PgO.lt {w : World} {g c : Nat} {l : List Nat} (h : PgO w g c l) : g < w.heap.size := by
  obtain ⟨_, _, _, _, A, h1, _⟩ := h
  exact (Array.getElem?_eq_some_iff.1 h1).1
theorem PgO.hg {w w' : World} {g c : Nat} {l : List Nat} (h : PgO w g c l) (e : w'.heap[g]? = w.heap[g]?) : PgO w' g c l := by
  obtain ⟨h1, h2, h3, h4, A, h5, h6⟩ := h
  exact ⟨h1, h2, h3, h4, A, by rw [e]; exact h5, h6⟩
theorem PgO.below {w w' : World} {B g c : Nat} {l : List Nat} (h : PgO w g c l) (hb : Below B w w') (hB : w.heap.size ≤ B) : PgO w' g c l := h.hg (hb.block g (Nat.lt_of_lt_of_le h.lt hB))
theorem PgO.tur {w w' : World} {F : Nat → Prop} {g c : Nat} {l : List Nat} (h : PgO w g c l) (ht : Turn F w w') (hF : ¬ F g) : PgO w' g c l := h.hg (ht.block g h.lt hF)
theorem PgO.cs {w : World} {g c : Nat} {l : List Nat} (h : PgO w g c l) : Cs w g 0 l := fun i hi => by
  obtain ⟨h1, _, _, _, A, h5, h6⟩ := h
  rw [Nat.zero_add]
  simp [World.cell?, h5, h6 i (by omega)]
theorem PgO.bw {w : World} {g c : Nat} {l : List Nat} (h : PgO w g c l) : BW w (.slice (some ⟨g, 0, none⟩) 512 c) l :=
  ⟨⟨_, c, by rw [h.1], h.cs.src, by rw [h.1]; exact h.2.2.1, h.2.2.2.1⟩, h.2.1⟩
theorem PgO.set {w : World} {g c : Nat} {l : List Nat} (h : PgO w g c l) (i y : Nat) (hi : i < 512) (hy : y < 256) : PgO (w.setCell ⟨g, i, none⟩ (.int .u8 (y : Int))) g c (l.set i y) := by
  obtain ⟨h1, h2, h3, h4, A, h5, h6⟩ := h
  refine ⟨by rw [List.length_set, h1], fun x hx => ?_, h3, h4, _, heap_setCell_same w g i A _ _ h5, fun j hj => ?_⟩
  · rcases List.mem_or_eq_of_mem_set hx with h | h
    · exact h2 x h
    · omega
  · have hA : i < A.size := (Array.getElem?_eq_some_iff.1 (h6 i hi)).1
    rw [Array.getElem?_setIfInBounds]
    by_cases e : i = j
    · subst e
      rw [if_pos rfl, if_pos hA]
      simp [List.getD, h1, hi]
    · rw [if_neg e, h6 j hj]
      congr 3
      simp [List.getD, e]
theorem PgO.fz {w : World} {g c : Nat} {l : List Nat} (h : PgO w g c l) (i : Nat) : w.frozen? ⟨g, i, none⟩ = false := by
  obtain ⟨_, _, _, _, A, h5, _⟩ := h
  simp [World.frozen?, h5]
theorem PgO.row {w : World} {g : Nat} {l : List Nat} (h : Row w g 5 l) (hl : l.length = 512) (hb : B8 l) : PgO w g 512 l :=
  ⟨hl, hb, Nat.le_refl _, by decide, _, h, fun i hi => by simp [bv, List.getD, hl, hi]⟩
theorem PgO.own {w : World} {B g c : Nat} {l : List Nat} (h : w.ownsRow B 5 1 (.slice (some ⟨g, 0, none⟩) 512 c) 512 (bv l)) (hl : l.length = 512) (hb : B8 l) : PgO w g c l := by
  have h' := h
  rcases h.2 with ⟨h2, _⟩ | ⟨g', cap, cur, h2, _, hg, hnc, hcm, hcs, htake⟩
  · cases h2
  · cases h2
    refine ⟨hl, hb, hnc, by unfold maxLen at hcm; omega, cur, hg, fun i hi => ?_⟩
    have h3 : (cur.toList.take (512 * 1))[i]? = (bv l)[i]? := by rw [htake]
    rw [List.getElem?_take_of_lt (by omega)] at h3
    rw [← Array.getElem?_toList, h3]
    simp [bv, List.getD, hl, hi]
/-- The law's pages in memory, as far as they are laid. -/
structure ScI (w0 w : World) (v : Value) (f : Nat → Bool) (L : List (List Nat)) (i : Nat) (gs : List (Nat × Nat)) : Prop where
  own : w.ownsRow w0.heap.size PQT pqE.sz v (i + 2) (pqE.row (none :: none :: gs.map some))
  len : gs.length = i
  pgs : ∀ (j : Nat) (x : Nat × Nat), gs[j]? = some x → PgO w x.1 x.2 (scP f L j)
  asc : ∀ (j k : Nat) (x y : Nat × Nat), j < k → gs[j]? = some x → gs[k]? = some y → x.1 < y.1
  below : Below w0.heap.size w0 w
  new : ∀ x ∈ gs, w0.heap.size ≤ x.1
theorem ScI.ext {w0 w w' : World} {v : Value} {f : Nat → Bool} {L : List (List Nat)} {i : Nat} {gs : List (Nat × Nat)} (h : ScI w0 w v f L i gs) (hb : Below w.heap.size w w') : ScI w0 w' v f L i gs :=
  ⟨own_below h.own hb (Nat.le_refl _), h.len, fun j x hx => (h.pgs j x hx).below hb (Nat.le_refl _), h.asc, h.below.trans (hb.mono h.below.size), h.new⟩
/-- One page more. -/
theorem ScI.snoc {w0 w w' : World} {v v' : Value} {f : Nat → Bool} {L : List (List Nat)} {i g c : Nat} {gs : List (Nat × Nat)} (h : ScI w0 w v f L i gs) (hp : PgO w g c (scP f L i)) (hg : ∀ x ∈ gs, x.1 < g) (h0 : w0.heap.size ≤ g)
    (hb : Below w0.heap.size w w') (ht : Turn (fun k => v.ownBlock = some k) w w') (ho : w'.ownsRow w0.heap.size PQT pqE.sz v' (i + 2 + 1) (pqE.row ((none :: none :: gs.map some) ++ [some (g, c)]))) : ScI w0 w' v' f L (i + 1) (gs ++ [(g, c)]) := by
  have hT := TyF.own h.own
  have hk : ∀ g c l, PgO w g c l → PgO w' g c l := fun g c l hp => by
    refine hp.tur ht (fun hF => ?_)
    obtain ⟨_, _, _, _, A, h5, _⟩ := hp
    exact hT.not h5 (by decide) hF
  refine ⟨?_, by rw [List.length_append, h.len]; rfl, fun j x hx => ?_, fun j k x y hjk hx hy => ?_, h.below.trans hb, fun x hx => ?_⟩
  · rw [List.map_append]; exact ho
  · rcases Nat.lt_or_ge j gs.length with h1 | h1
    · rw [List.getElem?_append_left h1] at hx
      exact hk _ _ _ (h.pgs j x hx)
    · rw [List.getElem?_append_right h1] at hx
      have e : j - gs.length = 0 := by
        rcases Nat.eq_zero_or_pos (j - gs.length) with h2 | h2
        · exact h2
        · rw [List.getElem?_eq_none (by rw [List.length_singleton]; omega)] at hx; cases hx
      rw [e] at hx
      cases hx
      have : j = i := by have := h.len; omega
      rw [this]
      exact hk _ _ _ hp
  · rcases Nat.lt_or_ge k gs.length with h1 | h1
    · rw [List.getElem?_append_left h1] at hy
      rw [List.getElem?_append_left (by omega)] at hx
      exact h.asc j k x y hjk hx hy
    · rw [List.getElem?_append_right h1] at hy
      have e : k - gs.length = 0 := by
        rcases Nat.eq_zero_or_pos (k - gs.length) with h2 | h2
        · exact h2
        · rw [List.getElem?_eq_none (by rw [List.length_singleton]; omega)] at hy; cases hy
      rw [e] at hy
      cases hy
      rw [List.getElem?_append_left (by omega)] at hx
      exact hg x (List.mem_of_getElem? hx)
  · rcases List.mem_append.1 hx with h1 | h1
    · exact h.new x h1
    · rw [List.mem_singleton.1 h1]; exact h0
theorem ScI.lt {w0 w : World} {v : Value} {f : Nat → Bool} {L : List (List Nat)} {i : Nat} {gs : List (Nat × Nat)} (h : ScI w0 w v f L i gs) : ∀ x ∈ gs, x.1 < w.heap.size := fun x hx => by
  obtain ⟨j, hj⟩ := List.getElem?_of_mem hx
  exact (h.pgs j x hj).lt
/-- As an argument. -/
theorem pq_pgw {w : World} {a : Option Addr} {gs : List (Nat × Nat)} {P : List (List Nat)} (hs : ES pqE w a (none :: none :: gs.map some)) (hl : P.length = gs.length + 2) (h0 : pgK P 0 = []) (h1 : pgK P 1 = []) (hp : ∀ j x, gs[j]? = some x → BW w (.slice (some ⟨x.1, 0, none⟩) 512 x.2) (pgK P (j + 2))) : PgW w a P := fun i hi => by
  obtain ⟨g, o, rfl, hc⟩ := hs.at (by simp)
  have hat : ∀ y, (none :: none :: gs.map some)[i]? = some y → w.cell? ⟨g, o + i, none⟩ = some (match y with | none => .slice none 0 0 | some y => .slice (some ⟨y.1, 0, none⟩) 512 y.2) := fun y hy => by
    have := hc (i * 1) _ (pqE.row_at (none :: none :: gs.map some) i 0 y hy (by decide))
    rwa [Nat.mul_one] at this
  have hnil : BW w (.slice none 0 0) [] := (BA.none w).bw
  match i, hi, hat with
  | 0, _, hat => exact ⟨g, o, _, rfl, hat none rfl, by show BW w _ (pgK P 0); rw [h0]; exact hnil⟩
  | 1, _, hat => exact ⟨g, o, _, rfl, hat none rfl, by show BW w _ (pgK P 1); rw [h1]; exact hnil⟩
  | j + 2, hj, hat =>
    have hjl : j < gs.length := by omega
    have e : gs[j]? = some gs[j] := List.getElem?_eq_getElem hjl
    exact ⟨g, o, _, rfl, hat (some gs[j]) (by rw [List.getElem?_cons_succ, List.getElem?_cons_succ, List.getElem?_map, e]; rfl), hp j _ e⟩
theorem scPs_0 (f : Nat → Bool) (L : List (List Nat)) (i : Nat) : pgK (scPs f L i) 0 = [] ∧ pgK (scPs f L i) 1 = [] := ⟨rfl, rfl⟩
theorem ScI.pgw {w0 w : World} {v : Value} {f : Nat → Bool} {L : List (List Nat)} {i : Nat} {gs : List (Nat × Nat)} (h : ScI w0 w v f L i gs) : ∃ g c, v = .slice (some ⟨g, 0, none⟩) (i + 2) c ∧ ES pqE w (some ⟨g, 0, none⟩) (none :: none :: gs.map some) ∧ PgW w (some ⟨g, 0, none⟩) (scPs f L i) := by
  have ho := h.own
  have hlen := h.len
  obtain ⟨g, c, rfl, _⟩ := own_form (E := PQT) ho (by omega)
  have hs : ES pqE w (some ⟨g, 0, none⟩) (none :: none :: gs.map some) := by
    have ho2 : w.ownsRow w0.heap.size PQT pqE.sz (.slice (some ⟨g, 0, none⟩) (i + 2) c) (none :: none :: gs.map some).length (pqE.row (none :: none :: gs.map some)) := by
      rw [show (none :: none :: gs.map some).length = i + 2 by simp [hlen]]; exact ho
    obtain ⟨a, c2, e, h2, _⟩ := own_ev ho2 (by simp [pqE])
    cases e
    exact h2
  refine ⟨g, c, rfl, hs, pq_pgw hs (by rw [scPs_len, hlen]) rfl rfl (fun j x hx => ?_)⟩
  have hj : j < gs.length := (List.getElem?_eq_some_iff.1 hx).1
  rw [scPs_at f L i (j + 2) (by omega) (by omega), show j + 2 - 2 = j by omega]
  exact (h.pgs j x hx).bw
/-- A byte in a page that is not used. -/
theorem ScI.store {w0 w : World} {v : Value} {f : Nat → Bool} {L : List (List Nat)} {i n b y : Nat} {gs : List (Nat × Nat)} {ga ca : Nat} (h : ScI w0 w v f L i gs) (hv : v = .slice (some ⟨ga, 0, none⟩) (i + 2) ca) (h2 : 2 ≤ n) (hn : n < i + 2) (hu : inB f (n : Nat) = false) (hb : b < 512) (hy : y < 256) :
    ∃ g c, w.cell? ⟨ga, n, none⟩ = some (.slice (some ⟨g, 0, none⟩) 512 c) ∧ w.cell? ⟨g, b, none⟩ = some (.int .u8 (0 : Nat)) ∧ w.frozen? ⟨g, b, none⟩ = false ∧ w0.heap.size ≤ g ∧ g < w.heap.size ∧
      PgW (w.setCell ⟨g, b, none⟩ (.int .u8 (y : Int))) (some ⟨ga, 0, none⟩) ((scPs f L i).set n (ZP.set b y)) := by
  obtain ⟨ga', ca', hv', hs, _⟩ := h.pgw
  rw [hv] at hv'
  cases hv'
  obtain ⟨j, rfl⟩ : ∃ j, n = j + 2 := ⟨n - 2, by omega⟩
  have hlen := h.len
  have hjl : j < gs.length := by omega
  have e : gs[j]? = some gs[j] := List.getElem?_eq_getElem hjl
  have hpj := h.pgs j _ e
  have hz : scP f L j = ZP := by unfold scP; rw [hu]; rfl
  rw [hz] at hpj
  obtain ⟨g0, o0, e0, hc⟩ := hs.at (by simp)
  cases e0
  have hcell : w.cell? ⟨ga, j + 2, none⟩ = some (.slice (some ⟨gs[j].1, 0, none⟩) 512 gs[j].2) := by
    have := hc ((j + 2) * 1) _ (pqE.row_at (none :: none :: gs.map some) (j + 2) 0 (some gs[j]) (by rw [List.getElem?_cons_succ, List.getElem?_cons_succ, List.getElem?_map, e]; rfl) (by decide))
    rwa [Nat.mul_one, Nat.zero_add] at this
  have ht : Turn (fun k => k = gs[j].1) w (w.setCell ⟨gs[j].1, b, none⟩ (.int .u8 (y : Int))) := (Turn.refl _ _).setCell _ (fun _ => rfl)
  have hpj' := hpj
  obtain ⟨_, _, _, _, A, hA, hA2⟩ := hpj'
  refine ⟨gs[j].1, gs[j].2, hcell, ?_, hpj.fz b, h.new _ (List.getElem_mem hjl), hpj.lt, ?_⟩
  · have := hpj.cs b (by rw [ZP_len]; exact hb)
    rw [Nat.zero_add] at this
    rw [this, ZP_get]
  · refine pq_pgw (hs.tur ht (TyF.one hA) (by decide)) (by rw [List.length_set, scPs_len, hlen]) ?_ ?_ (fun k x hx => ?_)
    · rw [pgK_set _ _ _ _ (by rw [scPs_len]; omega), if_neg (by omega)]; rfl
    · rw [pgK_set _ _ _ _ (by rw [scPs_len]; omega), if_neg (by omega)]; rfl
    · have hk : k < gs.length := (List.getElem?_eq_some_iff.1 hx).1
      rw [pgK_set _ _ _ _ (by rw [scPs_len]; omega)]
      by_cases ek : k = j
      · subst ek
        rw [e] at hx
        cases hx
        rw [if_pos rfl]
        exact (hpj.set b y hb hy).bw
      · rw [if_neg (by omega), scPs_at f L i (k + 2) (by omega) (by omega), show k + 2 - 2 = k by omega]
        refine ((h.pgs k x hx).tur ht (fun e2 => ?_)).bw
        rcases Nat.lt_or_ge k j with h3 | h3
        · have := h.asc k j x gs[j] h3 hx e; omega
        · have := h.asc j k gs[j] x (by omega) e hx; omega
theorem ScI.app {w0 w : World} {v : Value} {f : Nat → Bool} {L : List (List Nat)} {i g c : Nat} {gs : List (Nat × Nat)} (h : ScI w0 w v f L i gs) (hp : PgO w g c (scP f L i)) (hg : ∀ x ∈ gs, x.1 < g) (h0 : w0.heap.size ≤ g) (hi : i ≤ 1000) :
    ∃ v' w', (Builtin.append_ #[22, 22] 22 #[v, .slice (some ⟨w.heap.size, 0, none⟩) 1 1]).run Tryd.prog (w.alloc (.cells #[.slice (some ⟨g, 0, none⟩) 512 c] PQT)) = .ok v' w' ∧ ScI w0 w' v' f L (i + 1) (gs ++ [(g, c)]) := by
  have hba : Below w.heap.size w (w.alloc (.cells #[.slice (some ⟨g, 0, none⟩) 512 c] PQT)) := (Below.refl _ _).alloc (Nat.le_refl _) _
  have h1 := h.ext hba
  have hp1 := hp.below hba (Nat.le_refl _)
  have hlit : ES pqE (w.alloc (.cells #[.slice (some ⟨g, 0, none⟩) 512 c] PQT)) (some ⟨w.heap.size, 0, none⟩) [some (g, c)] := ES.lit (heap_new w PQT #[.slice (some ⟨g, 0, none⟩) 512 c]) (by simp [pqE])
  obtain ⟨v1, w4, hrun, hb4, ht4, ho4⟩ := run_app_turn (P := Tryd.prog) (E := pqE) (w := w.alloc (.cells #[.slice (some ⟨g, 0, none⟩) 512 c] PQT)) w0.heap.size 22 22 PQT Tryd.underlying22 infoPq v (i + 2) _ h1.own h1.below.size (some ⟨w.heap.size, 0, none⟩) 1 1 [some (g, c)] rfl (by omega) hlit (by unfold maxLen; omega) (by show _ * 24 ≤ _; omega)
  exact ⟨v1, w4, hrun, h1.snoc hp1 hg h0 hb4 ht4 ho4⟩
theorem ScI.start (w : World) (f : Nat → Bool) (L : List (List Nat)) : ScI w (w.alloc (.cells #[.slice none 0 0, .slice none 0 0] PQT)) (.slice (some ⟨w.heap.size, 0, none⟩) 2 2) f L 0 [] :=
  ⟨⟨rfl, .inr ⟨w.heap.size, 2, #[.slice none 0 0, .slice none 0 0], rfl, Nat.le_refl _, heap_new w PQT _, Nat.le_refl _, by unfold maxLen; omega, rfl, rfl⟩⟩, rfl, fun j x hx => by simp at hx, fun j k x y _ hx _ => by simp at hx, (Below.refl _ _).alloc (Nat.le_refl _) _, fun x hx => by cases hx⟩
end Go.Proofs.YtfjjfickbhkpaaaDoor
