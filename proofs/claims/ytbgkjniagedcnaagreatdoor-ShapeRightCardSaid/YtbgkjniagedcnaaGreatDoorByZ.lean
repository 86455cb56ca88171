/-
  Rows of bytes as strings, and as arguments.
-/
import Derived.Test.YtbgkjniagedcnaaGreatDoorProg
import Derived.Test.YtbgkjniagedcnaaGreatDoorMemZ
import Derived.WalkKit
namespace Go.Proofs.YtbgkjniagedcnaaGreatDoor
open Go Go.RowKit

theorem bstr_inj {l m : List Nat} (hl : B8 l) (hm : B8 m) (h : (bstr l).toList = (bstr m).toList) : l = m := by
  have h1 := h
  rw [ByteArray.toList_eq, ByteArray.toList_eq] at h1
  unfold bstr at h1
  rw [strOfNums_data, strOfNums_data, List.map_map, List.map_map] at h1
  have h2 := congrArg (List.map UInt8.toNat) h1
  rw [List.map_map, List.map_map] at h2
  have e : ∀ k : List Nat, B8 k → k.map (UInt8.toNat ∘ ((fun n : Int => UInt8.ofNat n.toNat) ∘ fun x : Nat => (x : Int))) = k := fun k hk => by
    conv => rhs; rw [← List.map_id k]
    apply List.map_congr_left
    intro x hx
    have := hk x hx
    simp [Nat.mod_eq_of_lt this]
  rw [e l hl, e m hm] at h2
  exact h2
theorem bstr_eq {l m : List Nat} (hl : B8 l) (hm : B8 m) : ((bstr l).toList == (bstr m).toList) = decide (l = m) := by
  rw [Bool.eq_iff_iff, beq_iff_eq, decide_eq_true_iff]
  exact ⟨bstr_inj hl hm, fun h => by rw [h]⟩
/-- A slice that reads as bytes, as a string. -/
theorem conv_src {P : Program} (src e dst : TypeId) (hs : P.underlying src = some (.slice e)) (he : P.underlying e = some (.int .u8)) (hd : P.underlying dst = some .string) (a : Option Addr) (n c : Nat) (l : List Nat) (hn : l.length = n) (w : World) (h : Src w a l) :
    (convert src dst (.slice a n c)).run P w = .ok (.string (bstr l)) w := by
  subst hn
  cases a with
  | none =>
    obtain rfl : l = [] := by
      cases l with
      | nil => rfl
      | cons x r => obtain ⟨_, _, h0, _⟩ := h (by simp); cases h0
    exact run_convert_bytes_nil w src e hs he 0 c dst hd
  | some x =>
    rcases Nat.eq_zero_or_pos l.length with h0 | h0
    · obtain rfl := List.eq_nil_of_length_eq_zero h0
      have hl : (loadCells x 0).run P w = .ok (([] : List Int).map (Value.int .u8)).toArray w := by
        have := run_loadCells_list (P := P) w x [] (fun j v hj => by simp at hj)
        simpa using this
      rw [show ([] : List Nat).length = 0 from rfl, run_convert_bytes_string w src dst e _ 0 c hs he hd, run_bytesToString w _ 0 c [] hl]
      rfl
    · obtain ⟨b, o, hx, hc⟩ := h h0
      cases hx
      refine run_convert_bytes_arg w src e hs he b o l.length c _ (by simp) (fun i hi => ?_) dst hd
      rw [hc i hi]
      simp [hi]
theorem row_src {w : World} {g E : Nat} {L : List Nat} (h : Row w g E L) : Src w (some ⟨g, 0, none⟩) L := fun _ => ⟨g, 0, rfl, fun i hi => by rw [Nat.zero_add]; exact h.cell i hi⟩
theorem own_empty (w : World) (E : TypeId) : (w.alloc (.cells #[] E)).ownsRow w.heap.size E 1 (.slice (some ⟨w.heap.size, 0, none⟩) 0 0) 0 [] :=
  own_of_row (l := []) (by unfold Row; show (w.heap.push _)[w.heap.size]? = _; rw [Array.getElem?_push_size]; rfl) (Nat.le_refl _) (by unfold maxLen; simp)
theorem own_nil (w : World) (B E : TypeId) : w.ownsRow B E 1 (.slice none 0 0) 0 (bv []) := World.ownsRow_nil w B E 1
theorem own_of_src {w : World} {B E : Nat} {a : Option Addr} {c : Nat} {l : List Nat} (h : w.ownsRow B E 1 (.slice a l.length c) l.length (bv l)) : Src w a l := by
  obtain ⟨a', c', he, hs⟩ := own_src h
  simp only [Value.slice.injEq, true_and] at he
  obtain ⟨rfl, rfl⟩ := he
  exact hs
theorem getD_drop (l : List Nat) (k i : Nat) : (l.drop k).getD i 0 = l.getD (k + i) 0 := by simp [List.getD, List.getElem?_drop]
theorem getD_take (l : List Nat) (k i : Nat) (h : i < k) : (l.take k).getD i 0 = l.getD i 0 := by simp [List.getD, h]
/-- A piece of a slice. -/
theorem Cs.cut {w : World} {b o : Nat} {l : List Nat} (h : Cs w b o l) (k n : Nat) : Cs w b (o + k) ((l.drop k).take n) := fun i hi => by
  rw [List.length_take, List.length_drop] at hi
  have := h (k + i) (by omega)
  rwa [getD_take _ _ _ (by omega), getD_drop, Nat.add_assoc]
theorem Cs.rest {w : World} {b o : Nat} {l : List Nat} (h : Cs w b o l) (k : Nat) : Cs w b (o + k) (l.drop k) := fun i hi => by
  rw [List.length_drop] at hi
  have := h (k + i) (by omega)
  rwa [getD_drop, Nat.add_assoc]
theorem Cs.start {w : World} {b o : Nat} {l : List Nat} (h : Cs w b o l) (n : Nat) : Cs w b o (l.take n) := fun i hi => by
  rw [List.length_take] at hi
  rw [getD_take _ _ _ (by omega)]; exact h i (by omega)
theorem Cs.src {w : World} {b o : Nat} {l : List Nat} (h : Cs w b o l) : Src w (some ⟨b, o, none⟩) l := fun _ => ⟨b, o, rfl, h⟩
theorem Row.cs {w : World} {g E : Nat} {l : List Nat} (h : Row w g E l) : Cs w g 0 l := fun i hi => by rw [Nat.zero_add]; exact h.cell i hi
theorem src_new (w : World) (E : TypeId) (fr : Nat × Nat) (l : List Nat) : Cs (w.alloc (.cells (bv l).toArray E fr)) w.heap.size 0 l := fun i hi => by
  have := bv_get l i hi
  rw [Nat.zero_add, World.cell?_alloc_mark]
  simpa using this
theorem row_new (w : World) (E : TypeId) (l : List Nat) : Row (w.alloc (.cells (bv l).toArray E)) w.heap.size E l := by
  unfold Row; show (w.heap.push _)[w.heap.size]? = _; rw [Array.getElem?_push_size]
theorem own_new (w : World) (E : TypeId) (l : List Nat) (hm : l.length ≤ maxLen) : (w.alloc (.cells (bv l).toArray E)).ownsRow w.heap.size E 1 (.slice (some ⟨w.heap.size, 0, none⟩) l.length l.length) l.length (bv l) :=
  own_of_row (row_new w E l) (Nat.le_refl _) hm
theorem beL_four (v : Nat) : beL v 4 = [v / 16777216 % 256, v / 65536 % 256, v / 256 % 256, v % 256] := by
  show [v / 256 / 256 / 256 % 256, v / 256 / 256 % 256, v / 256 % 256, v % 256] = _
  rw [show v / 256 / 256 / 256 = v / 16777216 by omega, show v / 256 / 256 = v / 65536 by omega]
def sliceLen : Value → Nat
  | .slice _ n _ => n
  | _ => 0
end Go.Proofs.YtbgkjniagedcnaaGreatDoor
