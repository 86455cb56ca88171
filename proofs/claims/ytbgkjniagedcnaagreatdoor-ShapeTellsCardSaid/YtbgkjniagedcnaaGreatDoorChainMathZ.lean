/-
  Pieces of a value and loads of pieces, as functions: what both sides answer. No program.
  What shape tells of entries alone, and how many leaves and branches there may be. No program.
-/
import Derived.Test.YtbgkjniagedcnaaGreatDoorTextsZ
import Derived.Test.YtbgkjniagedcnaaGreatDoorKeysMathZ
import Derived.Test.YtbgkjniagedcnaaGreatDoorBranchMathZ
import Derived.Test.YtbgkjniagedcnaaGreatDoorMendMathZ
namespace Go.Proofs.YtbgkjniagedcnaaGreatDoor
open Go Go.RowKit

/-- A value's piece at a place; how many there are of so many bytes; the first k of them; all. -/
def cutS (V : ByteArray) (k : Nat) : ByteArray := V.extract (502 * k) (min (502 * k + 502) V.size)
def nP (n : Nat) : Nat := (n + 501) / 502
def pcT (V : ByteArray) (k : Nat) : List ByteArray := (List.range k).map (cutS V)
def chs (V : ByteArray) : List ByteArray := pcT V (nP V.size)
/-- What stands behind the first k pieces. -/
def restS (V : ByteArray) (k : Nat) : ByteArray := V.extract (502 * k) V.size
theorem pcT_zero (V : ByteArray) : pcT V 0 = [] := rfl
theorem pcT_succ (V : ByteArray) (k : Nat) : pcT V (k + 1) = pcT V k ++ [cutS V k] := by simp [pcT, List.range_succ]
theorem pcT_len (V : ByteArray) (k : Nat) : (pcT V k).length = k := by simp [pcT]
theorem chs_len (V : ByteArray) : (chs V).length = nP V.size := pcT_len V _
theorem sa_pcT (V : ByteArray) (k i : Nat) (h : i < k) : sa (pcT V k) i = cutS V i := by
  unfold sa pcT; simp [List.getD, h]
theorem sa_chs (V : ByteArray) (i : Nat) (h : i < nP V.size) : sa (chs V) i = cutS V i := sa_pcT V _ i h
theorem nP_lt {n k : Nat} : k < nP n ↔ 502 * k < n := by unfold nP; omega
theorem nP_zero : nP 0 = 0 := rfl
theorem cut_size (V : ByteArray) (k : Nat) : (cutS V k).size = min (502 * k + 502) V.size - 502 * k := by
  unfold cutS; rw [ByteArray.size_extract]; omega
theorem cut_full {V : ByteArray} {k : Nat} (h : k + 1 < nP V.size) : (cutS V k).size = 502 := by
  have := nP_lt.1 h
  rw [cut_size]; omega
theorem cut_some {V : ByteArray} {k : Nat} (h : k < nP V.size) : 1 ≤ (cutS V k).size ∧ (cutS V k).size ≤ 502 := by
  have := nP_lt.1 h
  rw [cut_size]; omega
theorem rest_zero (V : ByteArray) : restS V 0 = V := by
  unfold restS; rw [Nat.mul_zero]; exact ByteArray.extract_zero_size
theorem rest_size (V : ByteArray) (k : Nat) : (restS V k).size = V.size - 502 * k := by
  unfold restS; rw [ByteArray.size_extract]; omega
theorem rest_cut (V : ByteArray) (k : Nat) : (restS V k).extract 0 502 = cutS V k := by
  unfold restS cutS; rw [ByteArray.extract_extract, Nat.add_zero]
theorem rest_rest (V : ByteArray) (k : Nat) (h : 502 * k + 502 ≤ V.size) : (restS V k).extract 502 (restS V k).size = restS V (k + 1) := by
  rw [rest_size]
  unfold restS
  rw [ByteArray.extract_extract]
  congr 1; omega
theorem rest_last (V : ByteArray) (k : Nat) (h : V.size ≤ 502 * k + 502) : restS V k = cutS V k := by
  unfold restS cutS; rw [Nat.min_eq_right h]
/-- All pieces together: the first bytes. -/
def headS (V : ByteArray) (k : Nat) : ByteArray := V.extract 0 (min (502 * k) V.size)
theorem head_zero (V : ByteArray) : headS V 0 = ByteArray.empty := by
  unfold headS; rw [Nat.mul_zero, Nat.zero_min, ByteArray.extract_eq_empty_iff]; omega
theorem head_succ (V : ByteArray) (k : Nat) (h : 502 * k ≤ V.size) : headS V k ++ cutS V k = headS V (k + 1) := by
  unfold headS cutS
  rw [Nat.min_eq_left h, ByteArray.extract_append_extract]
  congr 1 <;> omega
theorem head_all (V : ByteArray) : headS V (nP V.size) = V := by
  unfold headS
  rw [Nat.min_eq_right (by unfold nP; omega)]; exact ByteArray.extract_zero_size

/-! ### Loads -/
/-- May a value go on at a page; may a piece have so many bytes. -/
def nextB (p : Int) : Bool := decide (p = 0) || decide (2 ≤ p) && decide (p < 1024)
def sizeB (n : Int) : Bool := decide (1 ≤ n) && decide (n ≤ 502)
def chOk (p : Int) (V : ByteArray) : Bool := nextB p && sizeB V.size
/-- What Encode answers: the number of the error, the bytes. -/
def chE (p : Int) (V : ByteArray) : Int := if chOk p V then 0 else 1
def chB (p : Int) (V : ByteArray) : List Nat := if chOk p V then beL p.toNat 2 ++ bn V else []
/-- What Decode answers: the page, the piece, the number of the error. -/
def chP (l : List Nat) : Nat := numL (l.take 2)
def dcOk (l : List Nat) : Bool := sizeB ((l.length : Int) - 2) && nextB (chP l)
def dcN (l : List Nat) : Int := if dcOk l then (chP l : Int) else 0
def dcV (l : List Nat) : ByteArray := if dcOk l then bstr (l.drop 2) else ByteArray.empty
def dcE (l : List Nat) : Int := if dcOk l then 0 else 3
/-- What Count answers. -/
def cntS (x : Int) : Int := if x < 1 then 0 else (x - 1) / 502 + 1
theorem cnt_np (n : Nat) : cntS n = (nP n : Int) := by
  unfold cntS nP
  rcases Nat.eq_zero_or_pos n with rfl | h
  · rfl
  · rw [if_neg (by omega)]; omega
theorem pl_len (p : Nat) (V : ByteArray) : (beL p 2 ++ bn V).length = V.size + 2 := by
  rw [List.length_append, beL_length, bn_len]; omega
theorem pl_page (p : Nat) (V : ByteArray) (hp : p < 1024) : chP (beL p 2 ++ bn V) = p := by
  unfold chP
  rw [List.take_append_of_le_length (by rw [beL_length]; omega), List.take_of_length_le (by rw [beL_length]; omega), numL_beL, Nat.mod_eq_of_lt (by omega)]
theorem pl_rest (p : Nat) (V : ByteArray) : (beL p 2 ++ bn V).drop 2 = bn V := by
  rw [List.drop_append_of_le_length (by rw [beL_length]; omega), List.drop_of_length_le (by rw [beL_length]; omega)]; rfl
theorem pl_b8 (p : Nat) (V : ByteArray) : B8 (beL p 2 ++ bn V) := (beL_b8 _ _).append (bn_b8 _)
/-- A piece comes back. -/
theorem pl_back (p : Nat) (V : ByteArray) (h : chOk p V = true) : dcN (beL p 2 ++ bn V) = p ∧ dcV (beL p 2 ++ bn V) = V ∧ dcE (beL p 2 ++ bn V) = 0 := by
  have hp : p < 1024 := by
    unfold chOk nextB at h; simp at h; omega
  have ho : dcOk (beL p 2 ++ bn V) = true := by
    unfold dcOk; rw [pl_page p V hp, pl_len]
    unfold chOk at h
    rw [show (((V.size + 2 : Nat) : Int) - 2) = (V.size : Int) by omega, Bool.and_comm]; exact h
  unfold dcN dcV dcE
  rw [ho, pl_page p V hp, pl_rest, bstr_bn]
  exact ⟨rfl, rfl, rfl⟩
theorem chP_lt {l : List Nat} (h : B8 l) : chP l < 65536 := by
  have h1 := numL_lt (h.take 2)
  rw [List.length_take] at h1
  have h2 : min 2 l.length = 0 ∨ min 2 l.length = 1 ∨ min 2 l.length = 2 := by omega
  unfold chP
  rcases h2 with e | e | e <;> rw [e] at h1 <;> omega
theorem chP_two {l : List Nat} (h : 2 ≤ l.length) : chP l = l.getD 0 0 * 256 + l.getD 1 0 := by
  unfold chP
  match l, h with
  | a :: b :: r, _ => simp [numL]
end Go.Proofs.YtbgkjniagedcnaaGreatDoor
namespace Go.Proofs.YtbgkjniagedcnaaGreatDoor
open Go Go.RowKit

/-- How many pages a long value takes. -/
def pnE (e : En) : Nat := if 64 < e.v.size then nP e.v.size else 0
def pgs (es : List En) : Nat := (es.map pnE).sum
theorem pgs_app (a b : List En) : pgs (a ++ b) = pgs a + pgs b := by unfold pgs; rw [List.map_append, List.sum_append]
theorem pgs_cons (e : En) (b : List En) : pgs (e :: b) = pnE e + pgs b := by unfold pgs; simp
theorem pgE_le {e : En} (h : okE e) : pnE e ≤ 5 := by
  have := h.2
  unfold pnE nP
  split <;> omega
theorem pgs_le : ∀ {es : List En}, (∀ e ∈ es, okE e) → pgs es ≤ 5 * es.length
  | [], _ => by simp [pgs]
  | e :: r, h => by
    have h1 := pgE_le (h e (by simp))
    have h2 := pgs_le (es := r) (fun x hx => h x (by simp [hx]))
    rw [pgs_cons, List.length_cons]; omega
theorem szs_succ (es : List En) (k : Nat) (h : k < es.length) : szs (es.take (k + 1)) = szs (es.take k) + szE (ea es k) := by
  rw [ea_take es k h, szs_app]; unfold szs; simp
theorem pgs_succ (es : List En) (k : Nat) (h : k < es.length) : pgs (es.take (k + 1)) = pgs (es.take k) + pnE (ea es k) := by
  rw [ea_take es k h, pgs_app]; unfold pgs; simp
theorem szs_part (es : List En) (k : Nat) : szs (es.take k) ≤ szs es := by
  conv => rhs; rw [← List.take_append_drop k es, szs_app]
  omega
theorem pgs_part (es : List En) (k : Nat) : pgs (es.take k) ≤ pgs es := by
  conv => rhs; rw [← List.take_append_drop k es, pgs_app]
  omega
/-- May a leaf have it? -/
def okB (e : En) : Bool := okK e.k && decide (e.v.size ≤ 2048)
theorem okB_iff (e : En) : okB e = true ↔ okE e := by unfold okB okE; simp
def stepB (es : List En) (k : Nat) : Bool := okB (ea es k) && (decide (k = 0) || blt (ea es (k - 1)).k (ea es k).k)
/-- May a tree have the first k, in that order? -/
def mbB (es : List En) : Nat → Bool
  | 0 => true
  | k + 1 => mbB es k && stepB es k
theorem mbB_no (es : List En) (k : Nat) (h : stepB es k = false) : ∀ n, k < n → mbB es n = false
  | 0, h0 => by omega
  | n + 1, h0 => by
    rw [mbB]
    rcases Nat.lt_or_ge k n with h1 | h1
    · rw [mbB_no es k h n h1]; rfl
    · obtain rfl : k = n := by omega
      rw [h]; simp
theorem mbB_at {es : List En} : ∀ {n : Nat}, mbB es n = true → ∀ i, i < n → stepB es i = true
  | 0, _, i, hi => by omega
  | n + 1, h, i, hi => by
    rw [mbB, Bool.and_eq_true] at h
    rcases Nat.lt_or_ge i n with h1 | h1
    · exact mbB_at h.1 i h1
    · obtain rfl : i = n := by omega
      exact h.2
theorem mbB_all {es : List En} (hs : srt es) (ho : ∀ x ∈ es, okE x) : ∀ n, n ≤ es.length → mbB es n = true
  | 0, _ => rfl
  | n + 1, h => by
    rw [mbB, mbB_all hs ho n (by omega)]
    unfold stepB
    rw [(okB_iff _).2 (ho _ (ea_mem (by omega)))]
    by_cases h0 : n = 0
    · subst h0; rfl
    · rw [srt_at hs (show n - 1 < n by omega) (by omega)]; simp
def mayS (es : List En) : Bool := decide (es.length ≤ 4096) && mbB es es.length
theorem mayS_ok {es : List En} (h : mayS es = true) : es.length ≤ 4096 ∧ ∀ x ∈ es, okE x := by
  unfold mayS at h
  rw [Bool.and_eq_true, decide_eq_true_iff] at h
  refine ⟨h.1, fun x hx => ?_⟩
  obtain ⟨i, hi, rfl⟩ := List.getElem_of_mem hx
  have h1 := mbB_at h.2 i hi
  unfold stepB at h1
  rw [Bool.and_eq_true, okB_iff] at h1
  have : ea es i = es[i] := by unfold ea; simp [List.getD, hi]
  rw [← this]; exact h1.1
theorem mayS_yes {es : List En} (hs : srt es) (ho : ∀ x ∈ es, okE x) (hl : es.length ≤ 4096) : mayS es = true := by
  unfold mayS
  rw [mbB_all hs ho _ (Nat.le_refl _)]; simp [hl]
/-- Most's answer. -/
def mosN (es : List En) : Nat := if mayS es = true then (if es.length = 0 then 0 else 2 * (szs es / 126 + 1) + pgs es) else 0
def mosE (es : List En) : Nat := if mayS es = true then 0 else 1

/-! ### Leaves and branches -/
/-- What is known of how many leaves and branches a node has, itself among them. -/
def CG (h : Nat) (es : List En) (s L B : Nat) : Prop :=
  (h = 0 → L = 1 ∧ B = 0 ∧ s = leafSz es) ∧ (0 < h → ∃ c, s ≤ 2 + 43 * c ∧ (c = 0 → s = 2) ∧ 3 * B + c ≤ L + 2 ∧ h ≤ B ∧ L ≤ es.length ∧ 125 * L ≤ szs es)
/-- .. of a kid. -/
def CK (h : Nat) (es : List En) (L B : Nat) : Prop := 3 * B + 1 ≤ L ∧ h ≤ B ∧ L ≤ es.length ∧ 125 * L ≤ szs es
theorem leaf_125 {es : List En} (ho : ∀ x ∈ es, okE x) (h : 126 ≤ leafSz es) : 125 ≤ szs es ∧ 1 ≤ es.length := by
  have h1 := szs_range ho
  unfold leafSz at h
  rcases Nat.lt_or_ge es.length 128 with h2 | h2
  · have h3 : vs es.length = 1 := vs_small h2
    omega
  · omega
theorem CG.kid {h : Nat} {es : List En} {s L B : Nat} (hc : CG h es s L B) (ho : ∀ x ∈ es, okE x) (hs : 126 ≤ s) : CK h es L B := by
  rcases Nat.eq_zero_or_pos h with h0 | h0
  · obtain ⟨rfl, rfl, rfl⟩ := hc.1 h0
    have := leaf_125 ho hs
    exact ⟨by omega, by omega, by omega, by omega⟩
  · obtain ⟨c, h1, h2, h3, h4, h5, h6⟩ := hc.2 h0
    exact ⟨by omega, h4, h5, h6⟩
/-- .. of a tree. -/
def CT0 (H : Nat) (es : List En) (L B : Nat) : Prop :=
  (H = 0 → L = 0 ∧ B = 0 ∧ es = []) ∧ (H = 1 → L = 1 ∧ B = 0) ∧ (2 ≤ H → 2 ≤ L ∧ H ≤ B + 1 ∧ 3 * B ≤ L + 1 ∧ 125 * L ≤ szs es) ∧ L ≤ es.length ∧ (1 ≤ H → es ≠ [])
theorem CG.root {h : Nat} {es : List En} {s L B : Nat} (hc : CG h es s L B) (hs : 0 < h → 3 ≤ s) (he : es ≠ []) : CT0 (h + 1) es L B := by
  have hl : 1 ≤ es.length := by
    cases es with
    | nil => exact absurd rfl he
    | cons a r => simp
  rcases Nat.eq_zero_or_pos h with h0 | h0
  · obtain ⟨rfl, rfl, _⟩ := hc.1 h0
    exact ⟨fun h => by omega, fun _ => ⟨rfl, rfl⟩, fun h => by omega, hl, fun _ => he⟩
  · obtain ⟨c, h1, h2, h3, h4, h5, h6⟩ := hc.2 h0
    have := hs h0
    exact ⟨fun h => by omega, fun h => by omega, fun _ => ⟨by omega, by omega, by omega, h6⟩, h5, fun _ => he⟩
theorem CT0.nil : CT0 0 [] 0 0 := ⟨fun _ => ⟨rfl, rfl, rfl⟩, fun h => by omega, fun h => by omega, by simp, fun h => by omega⟩
/-- No more nodes than Most says. -/
theorem CT0.few {H : Nat} {es : List En} {L B : Nat} (h : CT0 H es L B) : L + B ≤ 2 * (szs es / 126 + 1) := by
  obtain ⟨h1, h2, h3, h4, _⟩ := h
  rcases Nat.lt_or_ge H 2 with h5 | h5
  · rcases Nat.eq_zero_or_pos H with h6 | h6
    · have := h1 h6; omega
    · have := h2 (by omega); omega
  · have := h3 h5
    omega
end Go.Proofs.YtbgkjniagedcnaaGreatDoor
