/-
  Steps.
-/
import Derived.Test.YtdgladhfibfdlaaGreatDoorQPSs01
import Derived.Test.YtdgladhfibfdlaaGreatDoorProg
import Derived.Lib.Hide
namespace Go.Proofs.YtdgladhfibfdlaaGreatDoor
open Go.RowKit Tryz
theorem z8e (w:World):Calls prog 15 #[.nilIface] w fun e w'=>e=.returned (.int .i64 0)∧zB w w':=by
 go_enter func15,ntmps15
 go_wp2;go_ret;exact⟨rfl,(zbr _ _).alloc (zlr _) _⟩
theorem y3q {w:World}(h:Hg w)(o:Obj):Hg (w.alloc o):=by
 have h':w.cell? ⟨0,0,none⟩=some (.iface 193 (.agg #[.pointer (some ⟨3,38,none⟩)])):=h;have hlt:0<w.heap.size:=by
  rcases zng 0 w.heap.size with h1|h1
  ·exact h1
  ·simp[World.cell?,Array.getElem?_eq_none h1] at h'
 show(w.alloc o).cell? _=_;rw[World.cell?_alloc_lt _ _ ⟨0,0,none⟩ hlt];exact h'
set_option maxHeartbeats 1000000 in
theorem y7x (n:Int)(w:World)(hg:Hg w):Calls prog 15 #[.iface 110 (.int .i64 n)] w fun e w'=>e=.returned (.int .i64 n)∧zB w w':=by
 have hgA:=y3q hg (.cells #[.int .i64 0] 110);have htA:(w.alloc (.cells #[.int .i64 0] 110)).cell? ⟨w.heap.size,0,none⟩=some (.int .i64 0):=by simp
 have hfA:(w.alloc (.cells #[.int .i64 0] 110)).frozen? ⟨w.heap.size,0,none⟩=false:=by simp
 go_enter func15,ntmps15
 go_wp2_with (go_at_call 50;refine(x0u n _ (.int .i64 0) _ hgA htA hfA).mono ?_;rintro e w' ⟨rfl,rfl⟩)
 go_ret;refine⟨rfl,?_⟩;exact(((((zbr _ _).alloc (zlr _) _).alloc (by simp) _).alloc (by simp;omega) _).alloc (by simp;omega) _).alloc (by simp;omega) _
theorem Hg.below {w w':World}(h:Hg w)(hb:zB w w'):Hg w':=by
 have h':w.cell? ⟨0,0,none⟩=some (.iface 193 (.agg #[.pointer (some ⟨3,38,none⟩)])):=h;have hlt:0<w.heap.size:=by
  rcases zng 0 w.heap.size with h1|h1
  ·exact h1
  ·simp[World.cell?,Array.getElem?_eq_none h1] at h'
 show w'.cell? _=_;rw[hb.cell (p:=⟨0,0,none⟩) hlt];exact h'
end Go.Proofs.YtdgladhfibfdlaaGreatDoor
namespace Go.Proofs.YtdgladhfibfdlaaGreatDoor
open Go.RowKit Tryz
def x0v (e:Value)(f:Int):Prop:=(e=.nilIface∧f=0)∨(e=.iface 110 (.int .i64 f))
theorem z8f (e:Value)(f:Int)(w:World)(h:x0v e f)(hg:Hg w):Calls prog 15 #[e] w fun e' w'=>e'=.returned (.int .i64 f)∧zB w w':=by
 rcases h with ⟨rfl,rfl⟩|rfl
 ·exact z8e w
 ·exact y7x f w hg
end Go.Proofs.YtdgladhfibfdlaaGreatDoor
namespace Go.Proofs.YtdgladhfibfdlaaGreatDoor
open Go Go.RowKit Tryz
def XY (f:Int):Value:=if f=0 then .nilIface else .iface 110 (.int .i64 f)
theorem z8g:XY 0=.nilIface:=rfl
theorem x0w:XY 1=.iface 110 (.int .i64 1):=rfl
theorem x0x:XY 5=.iface 110 (.int .i64 5):=rfl
theorem z8h (f:Int):x0v (XY f) f:=by
 unfold XY
 by_cases h:f=0
 ·rw[if_pos h];exact .inl ⟨rfl,h⟩
 ·rw[if_neg h];exact .inr rfl
def xS (k:ByteArray):Value:=if okK k then .nilIface else .iface 110 (.int .i64 1)
theorem I6 (k:ByteArray)(w:World):Calls prog 60 #[.string k] w fun e w'=>e=.returned (xS k)∧w=w':=by
 by_cases h1:k.size<1
 ·have e:Hid (xS k=.iface 110 (.int .i64 1)):=by show _=_;unfold xS okK;rw[if_neg (by simp;omega)]
  have d1:decide ((k.size:Int)<1)=true:=by simp;omega
  clear h1;generalize xS k=V at*
  go_enter func60,ntmps60
  go_wp2;go_ret;exact⟨by rw[e.out];rfl,rfl⟩
 ·by_cases h2:40<k.size
  ·have e:Hid (xS k=.iface 110 (.int .i64 1)):=by show _=_;unfold xS okK;rw[if_neg (by simp;omega)]
   have d1:decide ((k.size:Int)<1)=false:=by simp;omega
   have d2:decide (40<(k.size:Int))=true:=by simp;omega
   clear h1 h2;generalize xS k=V at*
   go_enter func60,ntmps60
   go_wp2;go_ret;exact⟨by rw[e.out];rfl,rfl⟩
  ·have e:Hid (xS k=.nilIface):=by show _=_;unfold xS okK;rw[if_pos (by simp;omega)]
   have d1:decide ((k.size:Int)<1)=false:=by simp;omega
   have d2:decide (40<(k.size:Int))=false:=by simp;omega
   clear h1 h2;generalize xS k=V at*
   go_enter func60,ntmps60
   go_wp2;go_ret;exact⟨by rw[e.out];rfl,rfl⟩
end Go.Proofs.YtdgladhfibfdlaaGreatDoor
