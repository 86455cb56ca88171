/-
  copy of bytes, in a region that draws its order; the least steps of numbers as bytes.
-/
import Derived.Test.YtfjjfickbhkpaaaDoorTurnZ
import Derived.Test.YtfjjfickbhkpaaaDoorByZ
import Derived.Test.YtfjjfickbhkpaaaDoorByteInfo
import Derived.Test.YtfjjfickbhkpaaaDoorProg
import Derived.Test.YtfjjfickbhkpaaaDoorMemZ
import Derived.WalkKit
import Derived.OwnWalk
import Derived.Laws.CopyOwn
import Derived.Below
import Derived.Lib.Hide
import Derived.Outline
namespace Go.Proofs.YtfjjfickbhkpaaaDoor
open Go Go.RowKit

theorem turn_setRow (w : World) (g : Nat) (cs : Array Value) : Turn (fun i => i = g) w (w.setRow g cs) :=
  ⟨rfl, rfl, rfl, by simp [World.setRow], fun i _ hne => setRow_other w g i cs hne⟩
theorem wp_copy_bytes {P : Program} {w : World} {o : Oper} {a : Act} {K : Act → World → Prop} {Q : Exit → Act → World → Prop} (d s : Operand) (dT sT : TypeId)
    (ho : o.op = .call { callee := .builtin .copy, args := #[d, s], argTypes := #[dT, sT] }) (e : TypeId) (hu : P.underlying dT = some (.slice e)) (hsz : (P.info? e).map (·.size) = some 1)
    (g off dLen dCap : Nat) (sp : Option Addr) (sLen sCap : Nat) (cur l : List Nat) (hl : l.length = sLen) (hd : a.eval d = .slice (some ⟨g, off, none⟩) dLen dCap) (hs : a.eval s = .slice sp sLen sCap)
    (hrow : Row w g e cur) (hsrc : Src w sp l) (hfit : off + sLen ≤ cur.length) (hlen : sLen ≤ dLen) (hpos : 0 < sLen)
    (h : ∀ w', Row w' g e (splice cur off l) → Turn (fun i => i = g) w w' → K (a.put o.dst (goInt sLen)) w') : Oper.wp P o a w K Q := by
  subst hl
  obtain ⟨ad, rfl, hcs⟩ := hsrc.cells hpos
  have hmin : (bv l).length = Nat.min l.length dLen := by rw [bv_length]; exact (Nat.min_eq_left hlen).symm
  have hrun := run_copy_row (P := P) w dT sT o.type e g off dLen dCap ad l.length sCap (bv cur).toArray e (bv l) hu hsz hrow hmin hcs (by simpa [bv_length] using hfit) (bv_one l)
  rw [bv_length] at hrun
  unfold Oper.wp
  simp only [execOp, ho, resolve, invoke, builtin]
  simp [hd, hs, hrun, Result.andThen]
  refine h _ ?_ (turn_setRow _ _ _)
  show _ = _
  have := setRow_heap w g (bv cur).toArray ((bv cur).take off ++ (bv l ++ (bv cur).drop (off + l.length))).toArray e (0, 0) hrow
  rw [← bv_splice]
  simpa [splice, bv_length] using this
end Go.Proofs.YtfjjfickbhkpaaaDoor
