/-
  What was encoded is decoded; no load begins another one; a key's place. What the program's reader takes. No program.
-/
import Derived.Test.YtjlllkdimfkjaaaDoorLeafMath
namespace Go.Proofs.YtjlllkdimfkjaaaDoor
open Go Go.RowKit

/-! ### More bytes behind -/
theorem lead_app : ∀ (l x : List Nat), lead l ≤ lead (l ++ x)
  | [], _ => Nat.zero_le _
  | y :: r, x => by
    have := lead_app r x
    rw [List.cons_append]
    unfold lead
    split <;> omega
theorem gt_ext {l : List Nat} (x : List Nat) (h : (gt l).2.2 = 0) : gt (l ++ x) = gt l := by
  have hl := gt_len l h
  have hc : ¬ (9 ≤ lead l ∧ 1 < l.getD 9 0) := fun hx => by rw [gt_range hx.1 hx.2] at h; cases h
  have h2 : ¬ l.length ≤ lead l := fun hx => by
    have h3 : (gt l).2.2 = 6 := by unfold gt; rw [if_neg hc, if_pos hx]
    omega
  have h3 : ¬ (0 < lead l ∧ l.getD (lead l) 0 = 0) := fun hx => by
    have h3 : (gt l).2.2 = 3 := by unfold gt; rw [if_neg hc, if_neg h2, if_pos hx]
    omega
  have e : gt l = (valR (l.take (lead l + 1)), lead l + 1, 0) := by unfold gt; rw [if_neg hc, if_neg h2, if_neg h3]
  have h9 : lead l ≤ 9 := by
    rcases Nat.lt_or_ge 9 (lead l) with h4 | h4
    · have := lead_ge l 9 h4; omega
    · exact h4
  rw [e]
  have g := getD_left l x (lead l) (by omega)
  have := lead_at l (by omega)
  have e2 := gt_hit (l := l ++ x) (k := lead l) (lead_app l x) (by rw [List.length_append]; omega) h9 (by rw [g]; exact this) (fun hk => by rw [g]; rw [hk] at hc ⊢; omega) (fun h0 => by rw [g]; omega)
  rw [e2, List.take_append_of_le_length (by omega)]
theorem numS_ext {S : RS} {m : Nat} (x : List Nat) (b : Bool) (h : (numS S m).2.wr = false) : numS ⟨S.l ++ x, b⟩ m = ((numS S m).1, ⟨(numS S m).2.l ++ x, false⟩) := by
  obtain ⟨e, h1, h2⟩ := numS_ok h
  have e2 := gt_ext x h1
  have hl := gt_len _ h1
  rw [numS_hit (by show (gt (S.l ++ x)).2.2 = 0; rw [e2]; exact h1) (by show (gt (S.l ++ x)).1 ≤ m; rw [e2]; exact h2), e]
  show ((gt (S.l ++ x)).1, RS.mk ((S.l ++ x).drop (gt (S.l ++ x)).2.1) false) = _
  rw [e2, List.drop_append_of_le_length hl.2.1]
theorem bytesS_ok {S : RS} {m : Nat} (h : (bytesS S m).2.wr = false) : (numS S m).2.wr = false ∧ (numS S m).1 ≤ (numS S m).2.l.length ∧ bytesS S m = ((numS S m).2.l.take (numS S m).1, ⟨(numS S m).2.l.drop (numS S m).1, false⟩) := by
  by_cases hc : (numS S m).2.wr = false ∧ (numS S m).1 ≤ (numS S m).2.l.length
  · exact ⟨hc.1, hc.2, bytesS_hit hc.1 hc.2⟩
  · rw [bytesS_miss hc] at h; cases h
theorem bytesS_wr {S : RS} {m : Nat} (h : (bytesS S m).2.wr = true) : bytesS S m = ([], ⟨[], true⟩) := by
  by_cases hc : (numS S m).2.wr = false ∧ (numS S m).1 ≤ (numS S m).2.l.length
  · rw [bytesS_hit hc.1 hc.2] at h; cases h
  · exact bytesS_miss hc
theorem bytesS_ext {S : RS} {m : Nat} (x : List Nat) (b : Bool) (h : (bytesS S m).2.wr = false) : bytesS ⟨S.l ++ x, b⟩ m = ((bytesS S m).1, ⟨(bytesS S m).2.l ++ x, false⟩) := by
  obtain ⟨h1, h2, e⟩ := bytesS_ok h
  have e2 := numS_ext x b h1
  rw [bytesS_hit (by rw [e2]) (by rw [e2]; show _ ≤ (_ ++ x).length; rw [List.length_append]; omega), e, e2]
  show ((_ ++ x).take _, RS.mk ((_ ++ x).drop _) false) = _
  rw [List.take_append_of_le_length h2, List.drop_append_of_le_length h2]
theorem cellS_bytes {l r : List Nat} {c : Ce} (h : cellS l = some (c, r)) : (bytesS ⟨l, false⟩ 40).2.wr = false ∧ (numS (bytesS ⟨l, false⟩ 40).2 2048).2.wr = false := by
  have h2 : (numS (bytesS ⟨l, false⟩ 40).2 2048).2.wr = false := by
    cases hw : (numS (bytesS ⟨l, false⟩ 40).2 2048).2.wr with
    | false => rfl
    | true => unfold cellS at h; simp only [hw, if_true] at h; cases h
  refine ⟨?_, h2⟩
  cases hw : (bytesS ⟨l, false⟩ 40).2.wr with
  | false => rfl
  | true =>
    rw [bytesS_wr hw] at h2
    have := numS_nil 2048 (S := ⟨[], true⟩) rfl
    rw [this] at h2
    cases h2
theorem getD_app (l x : List Nat) (i : Nat) (h : i < l.length) : (l ++ x).getD i 0 = l.getD i 0 := getD_left l x i h
theorem cellS_ext {l r : List Nat} {c : Ce} (x : List Nat) (h : cellS l = some (c, r)) : cellS (l ++ x) = some (c, r ++ x) := by
  obtain ⟨h1, h2⟩ := cellS_bytes h
  have e1 := bytesS_ext x false h1
  have e2 := numS_ext x false h2
  unfold cellS at h ⊢
  simp only at e1 e2 h ⊢
  rw [h2] at h
  rw [e1]
  simp only at e2 ⊢
  rw [e2]
  simp only [Bool.false_eq_true, if_false] at h ⊢
  generalize (numS (bytesS ⟨l, false⟩ 40).2 2048).1 = n at *
  generalize (numS (bytesS ⟨l, false⟩ 40).2 2048).2.l = q at *
  by_cases hn : n ≤ 64
  · rw [if_pos hn] at h ⊢
    by_cases hq : n ≤ q.length
    · rw [if_pos hq] at h
      cases h
      rw [if_pos (by rw [List.length_append]; omega), List.take_append_of_le_length hq, List.drop_append_of_le_length hq]
    · rw [if_neg hq] at h; cases h
  · rw [if_neg hn] at h ⊢
    by_cases hq : 2 ≤ q.length
    · rw [if_pos hq] at h
      cases h
      rw [if_pos (by rw [List.length_append]; omega), List.drop_append_of_le_length hq, getD_app _ _ _ (by omega), getD_app _ _ _ (by omega)]
    · rw [if_neg hq] at h; cases h
theorem decN_ext {n : Nat} {l r : List Nat} {cs : List Ce} (x : List Nat) (h : decN n l = some (cs, r)) : decN n (l ++ x) = some (cs, r ++ x) := by
  induction n generalizing cs r with
  | zero => rw [decN] at h ⊢; cases h; rfl
  | succ n ih =>
    rw [decN] at h
    split at h
    · cases h
    · rename_i cs1 r1 h1
      split at h
      · cases h
      · rename_i c r2 h2
        split at h
        · rename_i hm
          cases h
          exact decN_succ (ih h1) (cellS_ext x h2) hm
        · cases h
theorem decS_ext {l x : List Nat} {cs : List Ce} (h : decS l = some cs) (hx : x ≠ []) : decS (l ++ x) = none := by
  obtain ⟨h1, h2, h3, _⟩ := decS_some h
  rcases Nat.lt_or_ge 504 (l ++ x).length with h4 | h4
  · exact decS_long h4
  · have e := numS_ext x false h2
    have e3 := decN_ext x h3
    simp only at e
    have := decS_end (l := l ++ x) h4 (by rw [e]) (by rw [e]; exact e3)
    exact this.2.1 (by simpa using hx)

/-! ### What was encoded is decoded -/
theorem empty_of (s : ByteArray) (h : s.size = 0) : s = ByteArray.empty := by
  apply bl_inj
  have := bl_size s
  rw [h] at this
  rw [List.eq_nil_of_length_eq_zero this]; rfl
theorem cellS_put {c : Ce} (h : mayB c = true) (r : List Nat) : cellS (oneS c ++ r) = some (c, r) := by
  obtain ⟨k, v, n, p⟩ := c
  have hk := may_k h
  have hn0 := may_n0 h
  have hn := may_n h
  have e : oneS ⟨k, v, n, p⟩ ++ r = vb (bn k).length ++ (bn k ++ (vb n.toNat ++ (tailS ⟨k, v, n, p⟩ ++ r))) := by
    unfold oneS; rw [bn_len]; simp only [List.append_assoc]
  have e1 := bytesS_put (bn k) (vb n.toNat ++ (tailS ⟨k, v, n, p⟩ ++ r)) false 40 (by rw [bn_len]; simp only at hk; omega) (by rw [bn_len]; simp only at hk; omega)
  have e2 := numS_put n.toNat 2048 (tailS ⟨k, v, n, p⟩ ++ r) false (by simp only at hn; omega) (by simp only at hn; omega)
  rw [e]
  unfold cellS
  simp only [e1, e2, Bool.false_eq_true, if_false]
  simp only at hn0 hn
  by_cases h1 : n ≤ 64
  · have h2 := may_in h h1
    simp only at h2
    have et : tailS ⟨k, v, n, p⟩ = bn v := by unfold tailS; rw [if_pos h1]
    have el : (bn v).length = n.toNat := by rw [bn_len]; omega
    rw [et, if_pos (by omega), if_pos (by rw [List.length_append]; omega), ← el, List.take_left, List.drop_left, bstr_bn, bstr_bn]
    have e3 : (((bn v).length : Nat) : Int) = n := by rw [el]; omega
    rw [e3, h2.2]
  · have h2 := may_out h h1
    simp only at h2
    have et : tailS ⟨k, v, n, p⟩ = [p.toNat / 256 % 256, p.toNat % 256] := by unfold tailS; rw [if_neg h1]
    rw [et, if_neg (by omega), if_pos (by simp), bstr_bn, empty_of v h2.1]
    have e3 : (([p.toNat / 256 % 256, p.toNat % 256] ++ r).getD 0 0 * 256 + ([p.toNat / 256 % 256, p.toNat % 256] ++ r).getD 1 0 : Nat) = p.toNat := by
      show p.toNat / 256 % 256 * 256 + p.toNat % 256 = _; omega
    have e4 : ((p.toNat : Nat) : Int) = p := by omega
    have e5 : ((n.toNat : Nat) : Int) = n := by omega
    rw [e3, e4, e5]
    rfl
theorem drop_ca (cs : List Ce) (k : Nat) (h : k < cs.length) : cs.drop k = ca cs k :: cs.drop (k + 1) := by
  rw [List.drop_eq_getElem_cons h]; simp [ca, List.getD, h]
theorem decN_put {cs : List Ce} (h : allMay cs) (r : List Nat) (k : Nat) (hk : k ≤ cs.length) : decN k (body cs ++ r) = some (cs.take k, body (cs.drop k) ++ r) := by
  induction k with
  | zero => rw [decN]; rfl
  | succ k ih =>
    have h1 := ih (by omega)
    have e : body (cs.drop k) ++ r = oneS (ca cs k) ++ (body (cs.drop (k + 1)) ++ r) := by rw [drop_ca cs k (by omega), body, List.append_assoc]
    rw [take_ca cs k (by omega)]
    exact decN_succ h1 (by rw [e]; exact cellS_put (h k (by omega)) _) (h k (by omega))
theorem decS_load {cs : List Ce} (h : allMay cs) (ha : asc cs) (hl : (loadS cs).length ≤ 504) : decS (loadS cs) = some cs := by
  have hb := body_pos cs
  have hll := load_len cs
  have e := numS_put cs.length 504 (body cs) false (by omega) (by omega)
  have e2 := decN_put h [] cs.length (Nat.le_refl _)
  rw [List.append_nil, List.append_nil, List.take_of_length_le (Nat.le_refl _), List.drop_of_length_le (Nat.le_refl _)] at e2
  have := decS_end (l := loadS cs) (r := []) (cs := cs) hl (by unfold loadS; rw [e]) (by unfold loadS; rw [e]; exact e2)
  exact this.1 rfl ha
theorem decS_cut {l : List Nat} {cs : List Ce} (h : decS l = some cs) (h0 : 0 < l.length) : decS (l.take (l.length - 1)) = none := by
  cases h1 : decS (l.take (l.length - 1)) with
  | none => rfl
  | some cs2 =>
    have h2 := decS_ext (x := l.drop (l.length - 1)) h1 (fun hx => by have := congrArg List.length hx; rw [List.length_drop] at this; simp at this; omega)
    rw [List.take_append_drop, h] at h2
    cases h2
theorem load_pos (cs : List Ce) : 0 < (loadS cs).length := by
  have := load_len cs
  have := vs_pos cs.length
  omega

/-! ### A key's place -/
theorem blt_trans {a b c : ByteArray} (h : blt a b = true) (k : blt b c = true) : blt a c = true := by
  rw [blt_iff] at *; grind
theorem blt_self (a : ByteArray) : blt a a = false := by rw [blt_not]; grind
def findS : List Ce → ByteArray → Nat
  | [], _ => 0
  | c :: r, key => if blt c.k key = true then findS r key + 1 else 0
theorem findS_le : ∀ (cs : List Ce) (key : ByteArray), findS cs key ≤ cs.length
  | [], _ => Nat.le_refl _
  | c :: r, key => by
    have := findS_le r key
    unfold findS
    split
    · rw [List.length_cons]; omega
    · exact Nat.zero_le _
theorem findS_lt : ∀ (cs : List Ce) (key : ByteArray) (i : Nat), i < findS cs key → blt (ca cs i).k key = true
  | [], _, i, h => by simp [findS] at h
  | c :: r, key, i, h => by
    unfold findS at h
    split at h
    · rename_i h1
      cases i with
      | zero => exact h1
      | succ i => exact findS_lt r key i (by omega)
    · omega
theorem findS_at : ∀ (cs : List Ce) (key : ByteArray), findS cs key < cs.length → blt (ca cs (findS cs key)).k key = false
  | [], _, h => by simp at h
  | c :: r, key, h => by
    unfold findS at h ⊢
    split
    · rename_i h1
      rw [if_pos h1, List.length_cons] at h
      exact findS_at r key (by omega)
    · rename_i h1
      have : ca (c :: r) 0 = c := rfl
      rw [this]; simpa using h1
theorem asc_lt {cs : List Ce} (ha : asc cs) : ∀ (j i : Nat), i < j → j < cs.length → blt (ca cs i).k (ca cs j).k = true
  | 0, i, h, _ => by omega
  | j + 1, i, h, hj => by
    have h1 := ha (j + 1) (by omega) hj
    rw [Nat.add_sub_cancel] at h1
    rcases Nat.lt_or_ge i j with h2 | h2
    · exact blt_trans (asc_lt ha j i h2 (by omega)) h1
    · obtain rfl : i = j := by omega
      exact h1
theorem findS_ge {cs : List Ce} (ha : asc cs) (key : ByteArray) (i : Nat) (hi : findS cs key ≤ i) (hl : i < cs.length) : blt (ca cs i).k key = false := by
  have h1 := findS_at cs key (by omega)
  rcases Nat.lt_or_ge (findS cs key) i with h2 | h2
  · have h3 := asc_lt ha i _ h2 hl
    cases h4 : blt (ca cs i).k key with
    | false => rfl
    | true => rw [blt_trans h3 h4] at h1; cases h1
  · obtain rfl : i = findS cs key := by omega
    exact h1
theorem findS_key {cs : List Ce} (ha : asc cs) (i : Nat) (hi : i < cs.length) : findS cs (ca cs i).k = i := by
  rcases Nat.lt_or_ge (findS cs (ca cs i).k) i with h | h
  · have h1 := findS_at cs (ca cs i).k (by omega)
    rw [asc_lt ha i _ h hi] at h1; cases h1
  · rcases Nat.lt_or_ge i (findS cs (ca cs i).k) with h2 | h2
    · have h1 := findS_lt cs (ca cs i).k i h2
      rw [blt_self] at h1; cases h1
    · omega
def isAt (cs : List Ce) (key : ByteArray) : Bool := decide (findS cs key < cs.length) && ((ca cs (findS cs key)).k.toList == key.toList)
theorem isAt_key {cs : List Ce} (ha : asc cs) (i : Nat) (hi : i < cs.length) : isAt cs (ca cs i).k = true := by
  unfold isAt; rw [findS_key ha i hi]; simp [hi]
theorem asc_nil : asc [] := fun i _ h => by simp at h

/-! ### What the program's reader takes -/
def plainS (S : RS) : Nat → List Nat × RS
  | 0 => ([], S)
  | n + 1 => ((plainS S n).1 ++ [(byteS (plainS S n).2).1], (byteS (plainS S n).2).2)
theorem plainS_len (S : RS) : ∀ n, (plainS S n).1.length = n
  | 0 => rfl
  | n + 1 => by rw [plainS, List.length_append, plainS_len S n]; rfl
theorem plainS_ok (l : List Nat) : ∀ n, n ≤ l.length → plainS ⟨l, false⟩ n = (l.take n, ⟨l.drop n, false⟩)
  | 0, _ => rfl
  | n + 1, h => by
    have h1 := plainS_ok l n (by omega)
    have hne : l.drop n ≠ [] := fun hx => by have := congrArg List.length hx; rw [List.length_drop] at this; simp at this; omega
    rw [plainS, h1, byteS_cons hne]
    simp only
    rw [List.drop_drop, List.take_succ_eq_append_getElem (by omega : n < l.length)]
    simp [List.getD, List.getElem?_drop, show n < l.length by omega]
theorem plainS_short (S : RS) : ∀ n, S.l.length < n → (plainS S n).2 = ⟨[], true⟩
  | 0, h => by omega
  | n + 1, h => by
    have key : ∀ m, S.l.length ≤ m → (plainS S m).2.l = [] := by
      intro m
      induction m with
      | zero => intro hm; show S.l = []; exact List.eq_nil_of_length_eq_zero (by omega)
      | succ m ih =>
        intro hm
        rw [plainS]
        by_cases h0 : (plainS S m).2.l = []
        · rw [byteS_nil h0]
        · rw [byteS_cons h0]
          show (plainS S m).2.l.drop 1 = []
          have hd : ∀ m, m ≤ S.l.length → (plainS S m).2.l = S.l.drop m := by
            intro m
            induction m with
            | zero => intro _; rfl
            | succ m ih2 =>
              intro hm
              rw [plainS]
              have h3 := ih2 (by omega)
              have hne : (plainS S m).2.l ≠ [] := fun hx => by rw [h3] at hx; have := congrArg List.length hx; rw [List.length_drop] at this; simp at this; omega
              rw [byteS_cons hne]
              show (plainS S m).2.l.drop 1 = _
              rw [h3, List.drop_drop]
          rcases Nat.lt_or_ge m S.l.length with h4 | h4
          · rw [hd m (by omega), List.drop_drop]
            exact List.drop_of_length_le (by omega)
          · exact absurd (ih h4) h0
    rw [plainS, byteS_nil (key n (by omega))]
def tkS (S : RS) : Ce × RS :=
  let B := bytesS S 40
  let N := numS B.2 2048
  if N.1 ≤ 64 then (⟨bstr B.1, bstr (plainS N.2 N.1).1, N.1, 0⟩, (plainS N.2 N.1).2)
  else (⟨bstr B.1, ByteArray.empty, N.1, (numL (plainS N.2 2).1 : Nat)⟩, (plainS N.2 2).2)
theorem tk_some {l r : List Nat} {c : Ce} (h : cellS l = some (c, r)) : tkS ⟨l, false⟩ = (c, ⟨r, false⟩) := by
  obtain ⟨_, h2⟩ := cellS_bytes h
  unfold cellS at h
  unfold tkS
  simp only at h ⊢
  rw [h2] at h
  have rs : ∀ x : RS, x.wr = false → x = ⟨x.l, false⟩ := by rintro ⟨a, b⟩ h; cases h; rfl
  have e := rs _ h2
  rw [e]
  generalize (numS (bytesS ⟨l, false⟩ 40).2 2048).1 = n at *
  generalize (numS (bytesS ⟨l, false⟩ 40).2 2048).2.l = q at *
  simp only [Bool.false_eq_true, if_false] at h
  by_cases hn : n ≤ 64
  · rw [if_pos hn] at h ⊢
    by_cases hq : n ≤ q.length
    · rw [if_pos hq] at h
      cases h
      rw [plainS_ok q n hq]
    · rw [if_neg hq] at h; cases h
  · rw [if_neg hn] at h ⊢
    by_cases hq : 2 ≤ q.length
    · rw [if_pos hq] at h
      cases h
      rw [plainS_ok q 2 hq]
      have : numL (q.take 2) = q.getD 0 0 * 256 + q.getD 1 0 := by
        match q, hq with
        | a :: b :: t, _ => show (0 * 256 + a) * 256 + b = _; simp
      rw [this]
    · rw [if_neg hq] at h; cases h
theorem tk_none {l : List Nat} (h : cellS l = none) : (tkS ⟨l, false⟩).2.wr = true := by
  unfold cellS at h
  unfold tkS
  simp only at h ⊢
  cases hw : (numS (bytesS ⟨l, false⟩ 40).2 2048).2.wr with
  | true =>
    rw [numS_wr hw]
    rfl
  | false =>
    rw [hw] at h
    simp only [Bool.false_eq_true, if_false] at h
    by_cases hn : (numS (bytesS ⟨l, false⟩ 40).2 2048).1 ≤ 64
    · rw [if_pos hn] at h ⊢
      by_cases hq : (numS (bytesS ⟨l, false⟩ 40).2 2048).1 ≤ (numS (bytesS ⟨l, false⟩ 40).2 2048).2.l.length
      · rw [if_pos hq] at h; cases h
      · simp only; rw [plainS_short _ _ (by omega)]
    · rw [if_neg hn] at h ⊢
      by_cases hq : 2 ≤ (numS (bytesS ⟨l, false⟩ 40).2 2048).2.l.length
      · rw [if_pos hq] at h; cases h
      · simp only; rw [plainS_short _ _ (by omega)]
theorem tk_wr (b : Bool) : mayB (tkS ⟨[], b⟩).1 = false := by
  have e : bytesS ⟨[], b⟩ 40 = ([], ⟨[], true⟩) := bytesS_miss (fun h => by rw [numS_nil 40 (S := ⟨[], b⟩) rfl] at h; cases h.1)
  unfold tkS mayB
  simp only [e]
  have : ∀ c : Ce, c.k = bstr [] → okK c.k = false := fun c h => by rw [h]; rfl
  split <;> rw [this _ rfl] <;> rfl
end Go.Proofs.YtjlllkdimfkjaaaDoor
