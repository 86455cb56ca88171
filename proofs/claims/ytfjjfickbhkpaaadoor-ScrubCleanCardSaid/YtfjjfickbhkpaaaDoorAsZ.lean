/-
  errors.As at the target '*api.Errno', and the laws' own 'num': nil tells 0; an Errno tells its number. (Filled by name: the numbers are the seat's own.)
  An error, nil or an Errno, and its number.
  An error's value by its number, 0 for none.
-/
import Derived.Test.YtfjjfickbhkpaaaDoorProg
import Derived.WalkKit
import Derived.LaidEql
import Derived.Stop.Asserts
import Derived.RowKitTokens
import Derived.Below
namespace Go.Proofs.YtfjjfickbhkpaaaDoor
open Go.RowKit Go.Extern.Stop Go.Stop Go.Extern

/-! Closed facts on the entries for internal/reflectlite at this program's types. -/
theorem As.kindE (w : World) : ((ReflectliteType.abiMethod fun t => (fun a : Nat => Value.int IntKind.u8 (a : Int)) <$> Rtype.kind t) #[.pointer (some ⟨1, 61, none⟩)]).run Tryd.prog w = .ok (.int .u8 2) w := by kernel_rfl

theorem As.rlm (z : Sem Value) (f : TypeId → Addr → Nat → Nat → Sem Value) (v : Value) :
    ReflectliteValue.method z f #[v] = (do match ← ReflectliteValue.parts v with | none => z | some (t, a, fl) => f t a fl (fl % 32)) := rfl
theorem As.valueOfE (n : Int) (w : World) : (ReflectliteValue.unpack (.iface 61 (.int .i64 n))).run Tryd.prog w
    = .ok (.agg #[.pointer (some ⟨1, 61, none⟩), .pointer (some ⟨w.heap.size, 0, none⟩), .int .u64 130]) (w.alloc (.cells #[.int .i64 n] 61)) := by kernel_rfl

theorem As.mkE (p : Addr) (w : World) : (ReflectliteValue.mk 61 p ReflectliteValue.flagAddr).run Tryd.prog w = .ok (.agg #[.pointer (some ⟨1, 61, none⟩), .pointer (some p), .int .u64 386]) w := by kernel_rfl
theorem As.partsEa (a : Addr) (w : World) : (ReflectliteValue.parts (.agg #[.pointer (some ⟨1, 61, none⟩), .pointer (some a), .int .u64 386])).run Tryd.prog w = .ok (some (61, a, 386)) w := by kernel_rfl
theorem As.partsE (a : Addr) (w : World) : (ReflectliteValue.parts (.agg #[.pointer (some ⟨1, 61, none⟩), .pointer (some a), .int .u64 130])).run Tryd.prog w = .ok (some (61, a, 130)) w := by kernel_rfl
theorem As.directE (w : World) : (Rtype.directlyAssignable 61 61).run Tryd.prog w = .ok true w := by kernel_rfl
theorem As.sizeE (w : World) : (sizeOf 61).run Tryd.prog w = .ok 1 w := by kernel_rfl
theorem As.setRun (ta b : Addr) (W : World) :
    (ReflectliteValue.set #[.agg #[.pointer (some ⟨1, 61, none⟩), .pointer (some ta), .int .u64 386], .agg #[.pointer (some ⟨1, 61, none⟩), .pointer (some b), .int .u64 130]]).run Tryd.prog W
      = (do let val ← loadVar 61 b; storeVar 61 ta val; pure (.tuple #[]) : Sem Value).run Tryd.prog W := by kernel_rfl
theorem As.setE (ta b : Addr) (n : Int) (old : Value) (W : World) (hb : W.cell? b = some (.int .i64 n)) (ht : W.cell? ta = some old) (hf : W.frozen? ta = false) :
    (ReflectliteValue.set #[.agg #[.pointer (some ⟨1, 61, none⟩), .pointer (some ta), .int .u64 386], .agg #[.pointer (some ⟨1, 61, none⟩), .pointer (some b), .int .u64 130]]).run Tryd.prog W
      = .ok (.tuple #[]) (W.setCell ta (.int .i64 n)) := by
  rw [As.setRun]
  simp [loadVar, isAgg, underlying, Tryd.underlying61, hb, Result.andThen, storeVar, Value.cells, storeCells, Addr.add]
  rw [run_store Tryd.prog W ta _ _ (by rfl)]
  simp [ht, hf]

end Go.Proofs.YtfjjfickbhkpaaaDoor
namespace Go.Proofs.YtfjjfickbhkpaaaDoor
open Go.RowKit

def NumIs (e : Value) (f : Int) : Prop := (e = .nilIface ∧ f = 0) ∨ (e = .iface 61 (.int .i64 f))
end Go.Proofs.YtfjjfickbhkpaaaDoor
namespace Go.Proofs.YtfjjfickbhkpaaaDoor
open Go Go.RowKit

/-- An error's value. -/
def errC (f : Int) : Value := if f = 0 then .nilIface else .iface 61 (.int .i64 f)
theorem errC_0 : errC 0 = .nilIface := rfl
theorem errC_1 : errC 1 = .iface 61 (.int .i64 1) := rfl
theorem errC_3 : errC 3 = .iface 61 (.int .i64 3) := rfl
theorem errC_5 : errC 5 = .iface 61 (.int .i64 5) := rfl
theorem errC_is (f : Int) : NumIs (errC f) f := by
  unfold errC
  by_cases h : f = 0
  · rw [if_pos h]; exact .inl ⟨rfl, h⟩
  · rw [if_neg h]; exact .inr rfl
end Go.Proofs.YtfjjfickbhkpaaaDoor
