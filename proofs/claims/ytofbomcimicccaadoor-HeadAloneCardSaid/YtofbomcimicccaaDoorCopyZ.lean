/-
  copy of bytes, in a region that draws its order; the least steps of numbers as bytes.
-/
import Derived.Test.YtofbomcimicccaaDoorTurnZ
import Derived.Test.YtofbomcimicccaaDoorByZ
import Derived.Test.YtofbomcimicccaaDoorPutZ
namespace Go.Proofs.YtofbomcimicccaaDoor
open Go Go.RowKit

theorem turn_setRow (w : World) (g : Nat) (cs : Array Value) : Turn (fun i => i = g) w (w.setRow g cs) :=
  ⟨rfl, rfl, rfl, by simp [World.setRow], fun i _ hne => setRow_other w g i cs hne⟩
theorem wp_copy_bytes {P : Program} {w : World} {o : Oper} {a : Act} {K : Act → World → Prop} {Q : Exit → Act → World → Prop} (d s : Operand) (dT sT : TypeId)
    (ho : o.op = .call { callee := .builtin .copy, args := #[d, s], argTypes := #[dT, sT] }) (e : TypeId) (hu : P.underlying dT = some (.slice e)) (hsz : (P.info? e).map (·.size) = some 1)
    (g off dLen dCap : Nat) (sp : Option Addr) (sLen sCap : Nat) (cur l : List Nat) (hl : l.length = sLen) (hd : a.eval d = .slice (some ⟨g, off, none⟩) dLen dCap) (hs : a.eval s = .slice sp sLen sCap)
    (hrow : Row w g e cur) (hsrc : Src w sp l) (hfit : off + sLen ≤ cur.length) (hlen : sLen ≤ dLen) (hpos : 0 < sLen)
    (h : ∀ w', Row w' g e (splice cur off l) → Turn (fun i => i = g) w w' → K (a.put o.dst (goInt sLen)) w') : Oper.wp P o a w K Q := by
  subst hl
  obtain ⟨ad, rfl, hcs⟩ := hsrc.cells hpos
  have hmin : (bv l).length = Nat.min l.length dLen := by rw [bv_length]; exact (Nat.min_eq_left hlen).symm
  have hrun := run_copy_row (P := P) w dT sT o.type e g off dLen dCap ad l.length sCap (bv cur).toArray e (bv l) hu hsz hrow hmin hcs (by simpa [bv_length] using hfit) (bv_one l)
  rw [bv_length] at hrun
  unfold Oper.wp
  simp only [execOp, ho, resolve, invoke, builtin]
  simp [hd, hs, hrun, Result.andThen]
  refine h _ ?_ (turn_setRow _ _ _)
  show _ = _
  have := setRow_heap w g (bv cur).toArray ((bv cur).take off ++ (bv l ++ (bv cur).drop (off + l.length))).toArray e (0, 0) hrow
  rw [← bv_splice]
  simpa [splice, bv_length] using this
theorem put_none (v s : Nat) (w : World) (hs1 : 1 ≤ s) (hs : s ≤ 64) (hv : v < 18446744073709551616) :
    Calls Tryd.prog 34 #[.slice none 0 0, .int .u64 v, .int .i64 s] w fun e w' => e = .returned (.slice (some ⟨w.heap.size, 0, none⟩) s s) ∧ Row w' w.heap.size 5 (beL v s) ∧ Below w.heap.size w w' := by
  have h := put_in none 0 [] v s w (by simp) hs1 hs hv (Src.nil _ _)
  simpa using h
end Go.Proofs.YtofbomcimicccaaDoor
