/-
  What the law on parts of a tree asks of lists. No program.
-/
import Derived.Test.YtimdlgjgoggaiaaDoorCutLawZ
namespace Go.Proofs.YtimdlgjgoggaiaaDoor
open Go Go.RowKit

theorem in_out0 (s : Sp) (es : List En) : inS s (outS s es) = [] := by
  unfold inS outS
  rw [List.filter_filter, List.filter_eq_nil_iff]
  intro x _
  cases hasS s x.k <;> simp
theorem get_mem {es : List En} (hs : srt es) {x : En} (hx : x ∈ es) : isE es x.k = true ∧ getE es x.k = x.v := by
  have h := (isE_iff hs x.k).2 ⟨x, hx, rfl⟩
  refine ⟨h, ?_⟩
  unfold getE
  rw [if_pos h]
  have h1 := (isE_eq es x.k).symm.trans h
  rw [Bool.and_eq_true, decide_eq_true_iff] at h1
  rw [srt_key hs (ea_mem h1.1) hx (beq_bytes h1.2)]
theorem get_gone {es : List En} (hs : srt es) {x : En} (s : Sp) (hx : x ∈ inS s es) : isE (outS s es) x.k = false := by
  cases h : isE (outS s es) x.k with
  | false => rfl
  | true =>
    obtain ⟨y, hy, e⟩ := (isE_iff (srt_out s hs) x.k).1 h
    have h1 := (outS_mem.1 hy).2
    rw [e, (inS_mem.1 hx).2] at h1; cases h1
theorem part_one {s : Sp} {m : ByteArray} (hm : hasS s m = true) (k : ByteArray) :
    (hasS ⟨s.lo, m, false⟩ k = true ∧ hasS ⟨m, s.hi, s.op⟩ k = false ∧ hasS s k = true) ∨ (hasS ⟨s.lo, m, false⟩ k = false ∧ hasS ⟨m, s.hi, s.op⟩ k = true ∧ hasS s k = true) ∨
    (hasS ⟨s.lo, m, false⟩ k = false ∧ hasS ⟨m, s.hi, s.op⟩ k = false ∧ hasS s k = false) := by
  unfold hasS at *
  dsimp only
  rw [Bool.and_eq_true, Bool.or_eq_true, Bool.not_eq_true'] at hm
  obtain ⟨h1, h2⟩ := hm
  cases hk : blt k m with
  | true =>
    have h3 : (s.op || blt k s.hi) = true := by
      rcases h2 with h2 | h2
      · rw [h2]; rfl
      · rw [blt_trans hk h2]; simp
    rw [h3]
    cases blt k s.lo <;> simp
  | false =>
    have h3 : blt k s.lo = false := ble_trans h1 hk
    rw [h3]
    cases s.op <;> cases blt k s.hi <;> simp
theorem part_len {s : Sp} {m : ByteArray} (hm : hasS s m = true) : ∀ es : List En, (inS ⟨s.lo, m, false⟩ es).length + (inS ⟨m, s.hi, s.op⟩ es).length = (inS s es).length
  | [] => rfl
  | e :: r => by
    have ih := part_len hm r
    rw [inS_cons, inS_cons, inS_cons]
    rcases part_one hm e.k with ⟨h1, h2, h3⟩ | ⟨h1, h2, h3⟩ | ⟨h1, h2, h3⟩ <;> rw [h1, h2, h3] <;> simp <;> omega
abbrev AR3 : TypeId := 56
/-- A block that holds three numbers. -/
def A3 (w : World) (b x y z : Nat) : Prop := w.heap[b]? = some (.cells #[.int .u16 x, .int .u16 y, .int .u16 z] AR3 (0, 0))
section
variable {w : World} {b x y z : Nat}
theorem A3.c0 (h : A3 w b x y z) : w.cell? ⟨b, 0, none⟩ = some (.int .u16 x) := by
  have h' : w.heap[b]? = _ := h
  simp [World.cell?, h']
theorem A3.c1 (h : A3 w b x y z) : w.cell? ⟨b, 1, none⟩ = some (.int .u16 y) := by
  have h' : w.heap[b]? = _ := h
  simp [World.cell?, h']
theorem A3.c2 (h : A3 w b x y z) : w.cell? ⟨b, 2, none⟩ = some (.int .u16 z) := by
  have h' : w.heap[b]? = _ := h
  simp [World.cell?, h']
theorem A3.lt (h : A3 w b x y z) : b < w.heap.size := (Array.getElem?_eq_some_iff.1 h).1
theorem A3.ext {w' : World} (h : A3 w b x y z) (hb : Below w.heap.size w w') : A3 w' b x y z := (hb.block b h.lt).trans h
end
theorem alloc_sp13 (w : World) : ∃ b W, w.heap.size = b ∧ w.alloc (.cells #[.string ⟨#[]⟩, .string ⟨#[]⟩, .bool false] SPT) = W ∧ SpIn W b SPT Z0 ∧ Below w.heap.size w W := by
  obtain ⟨W, hW, h, hb⟩ := alloc_own w SPT #[.string ⟨#[]⟩, .string ⟨#[]⟩, .bool false]
  exact ⟨_, W, rfl, hW, h, hb⟩
theorem SpIn.turn {w w' : World} {b : Nat} {T : TypeId} {s : Sp} {F : Nat → Prop} (h : SpIn w b T s) (t : Turn F w w') (hF : ¬ F b) : SpIn w' b T s := t.hg h hF
end Go.Proofs.YtimdlgjgoggaiaaDoor
