/-
  Where Decode stands; branch's take; appends in a drawn region.
-/
import Derived.Test.YtjlllkdimfkjaaaDoorBranch2
import Derived.Test.YtjlllkdimfkjaaaDoorGet
import Derived.Test.YtjlllkdimfkjaaaDoorRdLeft
import Derived.Test.YtjlllkdimfkjaaaDoorGx
import Derived.Test.YtjlllkdimfkjaaaDoorShare
import Derived.Laws.ResultCell
namespace Go.Proofs.YtjlllkdimfkjaaaDoor
open Go Go.RowKit

/-- Two bytes as a number, and what is left. -/
def tk2 (S : RS) : Nat × RS := ((byteS S).1 * 256 + (byteS (byteS S).2).1, (byteS (byteS S).2).2)
theorem tk2_wr : tk2 ⟨[], true⟩ = (0, ⟨[], true⟩) := rfl
theorem tk2_ok {l : List Nat} (b : Bool) (h : 2 ≤ l.length) : tk2 ⟨l, b⟩ = (l.getD 0 0 * 256 + l.getD 1 0, ⟨l.drop 2, false⟩) := by
  match l, h with
  | x :: y :: r, _ => rfl
theorem tk2_short {l : List Nat} (b : Bool) (h : l.length < 2) : (tk2 ⟨l, b⟩).2 = ⟨[], true⟩ := by
  match l, h with
  | [], _ => rfl
  | [x], _ => rfl
  | _ :: _ :: _, h => simp at h; omega
theorem tk2_b8 {S : RS} (h : B8 S.l) : (tk2 S).1 ≤ 65535 := by
  have h1 := byteS_b8 h
  have h2 := byteS_b8 h1.2
  show (byteS S).1 * 256 + (byteS (byteS S).2).1 ≤ _; omega
/-- Where Decode stands. -/
def StF (l : List Nat) (ks : List ByteArray) (is : List Int) (S : RS) : Prop :=
  (S.wr = false ∧ 2 ≤ l.length ∧ ∃ ps, is = firstP l :: ps ∧ decR (l.drop 2) = (decR S.l).map fun x => (ks ++ x.1, ps ++ x.2)) ∨ (S.wr = true ∧ S.l = [] ∧ decFS l = none)
theorem stF_start (l : List Nat) : StF l [] [((tk2 ⟨l, false⟩).1 : Int)] (tk2 ⟨l, false⟩).2 := by
  rcases Nat.lt_or_ge l.length 2 with h | h
  · rw [tk2_short false h]
    exact .inr ⟨rfl, rfl, decFS_out (.inr h)⟩
  · rw [tk2_ok false h]
    refine .inl ⟨rfl, h, [], rfl, ?_⟩
    show decR (l.drop 2) = (decR (l.drop 2)).map _
    cases decR (l.drop 2) <;> rfl
theorem stF_next {l : List Nat} {ks : List ByteArray} {is : List Int} {S : RS} (h : StF l ks is S) (h0 : S.l ≠ []) :
    StF l (ks ++ [bstr (bytesS S 40).1]) (is ++ [((tk2 (bytesS S 40).2).1 : Int)]) (tk2 (bytesS S 40).2).2 ∧ (tk2 (bytesS S 40).2).2.l.length < S.l.length := by
  have hpos : 0 < S.l.length := List.length_pos_iff.2 h0
  rcases h with ⟨hw, h2, ps, rfl, hd⟩ | ⟨_, hl, _⟩
  · obtain ⟨L, b⟩ := S
    dsimp only at hw hd h0 hpos
    subst hw
    cases hw1 : (bytesS ⟨L, false⟩ 40).2.wr with
    | true =>
      rw [bytesS_wr hw1, tk2_wr]
      refine ⟨.inr ⟨rfl, rfl, ?_⟩, hpos⟩
      rw [decR_none h0 (piece_wr hw1)] at hd
      exact decFS_none hd
    | false =>
      have hlt := bytesS_left hw1
      have e := rs_eta (S := (bytesS ⟨L, false⟩ 40).2) rfl hw1
      rcases Nat.lt_or_ge (bytesS ⟨L, false⟩ 40).2.l.length 2 with h3 | h3
      · have ht := tk2_short false h3
        rw [← e] at ht
        rw [ht]
        refine ⟨.inr ⟨rfl, rfl, ?_⟩, hpos⟩
        rw [decR_none h0 (piece_short h3)] at hd
        exact decFS_none hd
      · have ht := tk2_ok false h3
        rw [← e] at ht
        rw [ht]
        have hp := piece_ok hw1 h3
        rw [decR_step hp] at hd
        refine ⟨.inl ⟨rfl, h2, ps ++ [(((bytesS ⟨L, false⟩ 40).2.l.getD 0 0 * 256 + (bytesS ⟨L, false⟩ 40).2.l.getD 1 0 : Nat) : Int)], rfl, ?_⟩, ?_⟩
        · rw [hd]
          show Option.map _ (Option.map _ (decR (List.drop 2 _))) = Option.map _ (decR (List.drop 2 _))
          cases decR (List.drop 2 (bytesS ⟨L, false⟩ 40).2.l) with
          | none => rfl
          | some x => simp only [Option.map_some, List.append_assoc, List.cons_append, List.nil_append]
        · show (List.drop 2 _).length < _
          rw [List.length_drop]
          show _ < L.length
          have : (bytesS ⟨L, false⟩ 40).2.l.length < L.length := hlt
          omega
  · exact absurd hl h0
theorem stF_end {l : List Nat} {ks : List ByteArray} {is : List Int} {S : RS} (h : StF l ks is S) (h0 : S.l = []) (hl : l.length ≤ 504) :
    (okS S = false → decFS l = none) ∧ (okS S = true → ¬ mayF ks is → decFS l = none) ∧ (okS S = true → mayF ks is → decFS l = some (ks, is)) := by
  rcases h with ⟨hw, h2, ps, rfl, hd⟩ | ⟨hw, _, hn⟩
  · rw [h0, decR_nil] at hd
    have e : decR (l.drop 2) = some (ks, ps) := by rw [hd]; simp
    refine ⟨fun ho => ?_, fun _ hm => decFS_not e hm, fun _ hm => decFS_some hl h2 e hm⟩
    unfold okS at ho; rw [hw, h0] at ho; cases ho
  · have : okS S = false := by unfold okS; rw [hw]; rfl
    exact ⟨fun _ => hn, (fun ho => by rw [this] at ho; cases ho), (fun ho => by rw [this] at ho; cases ho)⟩
theorem bytesS_shorter {S : RS} (h0 : S.l ≠ []) : (bytesS S 40).2.l.length < S.l.length := by
  have hpos : 0 < S.l.length := List.length_pos_iff.2 h0
  cases hw1 : (bytesS S 40).2.wr with
  | true => rw [bytesS_wr hw1]; exact hpos
  | false => exact bytesS_left hw1
set_option maxRecDepth 100000 in
theorem brTake_any (w : World) (b B : Nat) (S : RS) (h : Rb w b B S) :
    Calls Tryd.prog 21 #[.pointer (some ⟨b, 0, none⟩)] w fun e w' => e = .returned (.int .i64 ((tk2 S).1 : Nat)) ∧ Rb w' b B (tk2 S).2 ∧ Turn (fun i => i = b) w w' := by
  have h1 := Lib.hid (rbyteB_any w b B S h)
  have h81 := byteS_b8 h.b8
  have h82 := byteS_b8 h81.2
  have ht : Hid (tk2 S = ((byteS S).1 * 256 + (byteS (byteS S).2).1, (byteS (byteS S).2).2)) := rfl
  obtain ⟨⟨X0, Z1⟩, hX⟩ : ∃ X, X = byteS S := ⟨_, rfl⟩
  rw [← hX] at h1 h81 h82 ht
  dsimp only at h1 h81 h82 ht
  obtain ⟨⟨Y0, Z2⟩, hY⟩ : ∃ X, X = byteS Z1 := ⟨_, rfl⟩
  rw [← hY] at h82 ht
  dsimp only at h82 ht
  have hYs := Lib.hid hY.symm
  generalize tk2 S = T at *
  have hT1 : Hid (T.1 = X0 * 256 + Y0 ∧ T.2 = Z2) := by show _ ∧ _; rw [ht.out]; exact ⟨rfl, rfl⟩
  clear ht h hX hY
  obtain ⟨T1, T2⟩ := T
  dsimp only at hT1 ⊢
  have x0 : X0 < 256 := h81.1
  have y0 : Y0 < 256 := h82.1
  have hB8 : Hid (B8 [X0, Y0]) := (B8.one x0).append (B8.one y0)
  have hnum : Hid (numL [X0, Y0] = T1) := by
    show _ = _
    rw [hT1.out.1]
    show (0 * 256 + X0) * 256 + Y0 = _; omega
  have hT65 : T1 ≤ 65535 := by have := hT1.out.1; omega
  have z1 : IntKind.i64.wrap (T1 : Int) = (T1 : Int) := by rw [IntKind.wrap_i64]; omega
  clear h81 h82 x0 y0
  go_enter Tryd.func21, Tryd.ntmps21
  go_wp2_with fail
  refine h1.out.mono ?_
  rintro e w1 ⟨rfl, hr1, ht1⟩
  have h2 := Lib.hid (rbyteB_any w1 b B Z1 hr1)
  rw [hYs.out] at h2
  have Ht1 := Lib.hid ht1
  clear hr1 ht1 h1
  go_wp2_with fail
  refine h2.out.mono ?_
  rintro e w2 ⟨rfl, hr2, ht2⟩
  have hnew : Below w2.heap.size w2 (w2.alloc (.cells #[.int .u8 (X0 : Int), .int .u8 (Y0 : Int)] 5)) := (Below.refl _ _).alloc (Nat.le_refl _) _
  have hg := Lib.hid (get_in w2.heap.size 0 2 [X0, Y0] (w2.alloc (.cells #[.int .u8 (X0 : Int), .int .u8 (Y0 : Int)] 5)) (by simp) (by simp) (src_new w2 _ (0, 0) [X0, Y0]) hB8.out)
  rw [hnum.out, show [X0, Y0].length = 2 from rfl] at hg
  have Hr2 := Lib.hid (hr2.below hnew)
  have Ht2 := Lib.hid ((Ht1.out.trans ht2).alloc (.cells #[.int .u8 (X0 : Int), .int .u8 (Y0 : Int)] 5))
  clear hr2 ht2 h2 Ht1 hnew
  go_wp2_with fail
  refine hg.out.mono ?_
  rintro e w' ⟨rfl, rfl⟩
  go_wp2
  go_ret
  exact ⟨rfl, by rw [hT1.out.2]; exact Hr2.out, Ht2.out⟩
section
variable {P : Program} {w : World} {o : Oper} {a : Act} {K : Act → World → Prop} {Q : Exit → Act → World → Prop}
/-- append of one new text, in a drawn region. -/
theorem wp_append_text (s x : Operand) (t : TypeId)
    (ho : o.op = .call { callee := .builtin .append, args := #[s, x], argTypes := #[t, t] })
    (base : Nat) (e : TypeId) (ht : P.underlying t = some (.slice e)) (h2 : (P.info? e).map (fun i => (i.zero, i.size, i.bytes)) = some (some (.string ⟨#[]⟩), 1, 16))
    (v : Value) (ks : List ByteArray) (hs : a.eval s = v) (hown : Hid (w.ownsRow base e 1 v ks.length (sv ks)))
    (g c : Nat) (y : ByteArray) (hx : a.eval x = .slice (some ⟨g, 0, none⟩) 1 c) (hy : w.cell? ⟨g, 0, none⟩ = some (.string y))
    (hlen : (ks.length + 1) * 16 ≤ 140737488355328) (hbase : base ≤ w.heap.size)
    (h : ∀ v' w', Hid (w'.ownsRow base e 1 v' (ks ++ [y]).length (sv (ks ++ [y]))) → Hid (w.grownBy w' v.ownBlock) → K (a.put o.dst v') w') :
    Oper.wp P o a w K Q := by
  obtain ⟨i0, hi, hz0, hz1, hz2⟩ := info_parts h2
  obtain ⟨v', w', hr, h3, h4, _⟩ := run_append_near (P := P) (w := w) base t o.type e i0 (.string ⟨#[]⟩) 1 16 ht hi hz0 hz1 hz2 rfl (by decide) v ks.length (sv ks) hown.out ⟨g, 0, none⟩ 1 c (sv [y]) rfl (by
    intro j u hj
    rcases j with _ | j
    · rw [addr_add, Nat.zero_add, hy, ← hj]; rfl
    · cases hj) (by
    intro u hu
    simp only [sv, List.map_cons, List.map_nil, List.mem_singleton] at hu
    subst hu; rfl) (by unfold maxLen; omega) hlen hbase
  unfold Oper.wp
  simp [execOp, ho, resolve, invoke, builtin, hs, hx, hr, Result.andThen]
  have e1 : sv (ks ++ [y]) = sv ks ++ sv [y] := List.map_append
  exact h v' w' (by show w'.ownsRow _ _ _ _ _ _; rw [e1, List.length_append]; exact h3) h4
/-- append of one new int, in a drawn region. -/
theorem wp_append_page (s x : Operand) (t : TypeId)
    (ho : o.op = .call { callee := .builtin .append, args := #[s, x], argTypes := #[t, t] })
    (base : Nat) (e : TypeId) (ht : P.underlying t = some (.slice e)) (h2 : (P.info? e).map (fun i => (i.zero, i.size, i.bytes)) = some (some (.int .i64 0), 1, 8))
    (v : Value) (is : List Int) (hs : a.eval s = v) (hown : Hid (w.ownsRow base e 1 v is.length (iv is)))
    (g c : Nat) (y : Int) (hx : a.eval x = .slice (some ⟨g, 0, none⟩) 1 c) (hy : w.cell? ⟨g, 0, none⟩ = some (.int .i64 y))
    (hlen : (is.length + 1) * 8 ≤ 140737488355328) (hbase : base ≤ w.heap.size)
    (h : ∀ v' w', Hid (w'.ownsRow base e 1 v' (is ++ [y]).length (iv (is ++ [y]))) → Hid (w.grownBy w' v.ownBlock) → K (a.put o.dst v') w') :
    Oper.wp P o a w K Q := by
  obtain ⟨i0, hi, hz0, hz1, hz2⟩ := info_parts h2
  obtain ⟨v', w', hr, h3, h4, _⟩ := run_append_near (P := P) (w := w) base t o.type e i0 (.int .i64 0) 1 8 ht hi hz0 hz1 hz2 rfl (by decide) v is.length (iv is) hown.out ⟨g, 0, none⟩ 1 c (iv [y]) rfl (by
    intro j u hj
    rcases j with _ | j
    · rw [addr_add, Nat.zero_add, hy, ← hj]; rfl
    · cases hj) (by
    intro u hu
    simp only [iv, List.map_cons, List.map_nil, List.mem_singleton] at hu
    subst hu; rfl) (by unfold maxLen; omega) hlen hbase
  unfold Oper.wp
  simp [execOp, ho, resolve, invoke, builtin, hs, hx, hr, Result.andThen]
  have e1 : iv (is ++ [y]) = iv is ++ iv [y] := List.map_append
  exact h v' w' (by show w'.ownsRow _ _ _ _ _ _; rw [e1, List.length_append]; exact h3) h4
end
/-- A row's block is none of another type. -/
theorem own_other {w : World} {B E T b sz n : Nat} {v : Value} {xs : List Value} {A : Array Value} (h : w.ownsRow B E sz v n xs) (hb : w.heap[b]? = some (.cells A T (0, 0))) (hET : E ≠ T) : ∀ i, v.ownBlock = some i → i ≠ b := fun i hi e => by
  subst e
  rcases h.2 with ⟨h1, _⟩ | ⟨g, cap, cur, h1, h2, h3, h4⟩
  · subst h1; cases hi
  · subst h1
    simp only [Value.ownBlock, Option.some.injEq] at hi
    subst hi
    rw [h3] at hb
    exact hET (by cases hb; rfl)
/-- Rows of two types are two blocks. -/
theorem own_apart {w : World} {B E T sz sz2 n m : Nat} {u v : Value} {xs ys : List Value} (h : w.ownsRow B E sz u n xs) (k : w.ownsRow B T sz2 v m ys) (hET : E ≠ T) : ∀ i, u.ownBlock = some i → v.ownBlock ≠ some i := fun i hi hj => by
  rcases k.2 with ⟨h1, _⟩ | ⟨g, cap, cur, h1, h2, h3, h4⟩
  · subst h1; cases hj
  · subst h1
    simp only [Value.ownBlock, Option.some.injEq] at hj
    subst hj
    exact own_other h h3 hET g hi rfl
theorem own_ge {w : World} {B E sz n : Nat} {v : Value} {xs : List Value} (h : w.ownsRow B E sz v n xs) : ∀ i, v.ownBlock = some i → B ≤ i := fun i hi => (h.lt i hi).1
end Go.Proofs.YtjlllkdimfkjaaaDoor
