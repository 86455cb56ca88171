/-
  Steps.
-/
import Derived.Test.YtdgladhfibfdlaaGreatDoorQPLs01
import Derived.Test.YtdgladhfibfdlaaGreatDoorProg
import Derived.Lib.Hide
namespace Go.Proofs.YtdgladhfibfdlaaGreatDoor
open Go.RowKit
theorem x17 (w:World):Calls Tryz.prog 15 #[.nilIface] w fun e w'=>e=.returned (.int .i64 0)∧Below w.heap.size w w':=by
 go_enter Tryz.func15,Tryz.ntmps15
 go_wp2;go_ret;exact⟨rfl,(zbr _ _).alloc (zlr _) _⟩
theorem x64 {w:World}(h:Hg w)(o:Obj):Hg (w.alloc o):=by
 have h':w.cell? ⟨0,0,none⟩=some (.iface 193 (.agg #[.pointer (some ⟨3,38,none⟩)])):=h;have hlt:0<w.heap.size:=by
  rcases zng 0 w.heap.size with h1|h1
  ·exact h1
  ·simp[World.cell?,Array.getElem?_eq_none h1] at h'
 show(w.alloc o).cell? _=_;rw[World.cell?_alloc_lt _ _ ⟨0,0,none⟩ hlt];exact h'
set_option maxHeartbeats 1000000 in
theorem q06 (n:Int)(w:World)(hg:Hg w):Calls Tryz.prog 15 #[.iface 110 (.int .i64 n)] w fun e w'=>e=.returned (.int .i64 n)∧Below w.heap.size w w':=by
 have hgA:=x64 hg (.cells #[.int .i64 0] 110);have htA:(w.alloc (.cells #[.int .i64 0] 110)).cell? ⟨w.heap.size,0,none⟩=some (.int .i64 0):=by simp
 have hfA:(w.alloc (.cells #[.int .i64 0] 110)).frozen? ⟨w.heap.size,0,none⟩=false:=by simp
 go_enter Tryz.func15,Tryz.ntmps15
 go_wp2_with (go_at_call 50;refine(q3z n _ (.int .i64 0) _ hgA htA hfA).mono ?_;rintro e w' ⟨rfl,rfl⟩)
 go_ret;refine⟨rfl,?_⟩;exact(((((zbr _ _).alloc (zlr _) _).alloc (by simp) _).alloc (by simp;omega) _).alloc (by simp;omega) _).alloc (by simp;omega) _
theorem Hg.below {w w':World}(h:Hg w)(hb:Below w.heap.size w w'):Hg w':=by
 have h':w.cell? ⟨0,0,none⟩=some (.iface 193 (.agg #[.pointer (some ⟨3,38,none⟩)])):=h;have hlt:0<w.heap.size:=by
  rcases zng 0 w.heap.size with h1|h1
  ·exact h1
  ·simp[World.cell?,Array.getElem?_eq_none h1] at h'
 show w'.cell? _=_;rw[hb.cell (p:=⟨0,0,none⟩) hlt];exact h'
end Go.Proofs.YtdgladhfibfdlaaGreatDoor
namespace Go.Proofs.YtdgladhfibfdlaaGreatDoor
open Go.RowKit
def q30 (e:Value)(f:Int):Prop:=(e=.nilIface∧f=0)∨(e=.iface 110 (.int .i64 f))
theorem x18 (e:Value)(f:Int)(w:World)(h:q30 e f)(hg:Hg w):Calls Tryz.prog 15 #[e] w fun e' w'=>e'=.returned (.int .i64 f)∧Below w.heap.size w w':=by
 rcases h with ⟨rfl,rfl⟩|rfl
 ·exact x17 w
 ·exact q06 f w hg
end Go.Proofs.YtdgladhfibfdlaaGreatDoor
namespace Go.Proofs.YtdgladhfibfdlaaGreatDoor
open Go Go.RowKit
def errC (f:Int):Value:=if f=0 then .nilIface else .iface 110 (.int .i64 f)
theorem x19:errC 0=.nilIface:=rfl
theorem q31:errC 1=.iface 110 (.int .i64 1):=rfl
theorem q32:errC 5=.iface 110 (.int .i64 5):=rfl
theorem x2a (f:Int):q30 (errC f) f:=by
 unfold errC
 by_cases h:f=0
 ·rw[if_pos h];exact .inl ⟨rfl,h⟩
 ·rw[if_neg h];exact .inr rfl
def chkV (k:ByteArray):Value:=if okK k then .nilIface else .iface 110 (.int .i64 1)
theorem z57 (k:ByteArray)(w:World):Calls Tryz.prog 60 #[.string k] w fun e w'=>e=.returned (chkV k)∧w=w':=by
 by_cases h1:k.size<1
 ·have e:Hid (chkV k=.iface 110 (.int .i64 1)):=by show _=_;unfold chkV okK;rw[if_neg (by simp;omega)]
  have d1:decide ((k.size:Int)<1)=true:=by simp;omega
  clear h1;generalize chkV k=V at*
  go_enter Tryz.func60,Tryz.ntmps60
  go_wp2;go_ret;exact⟨by rw[e.out];rfl,rfl⟩
 ·by_cases h2:40<k.size
  ·have e:Hid (chkV k=.iface 110 (.int .i64 1)):=by show _=_;unfold chkV okK;rw[if_neg (by simp;omega)]
   have d1:decide ((k.size:Int)<1)=false:=by simp;omega
   have d2:decide (40<(k.size:Int))=true:=by simp;omega
   clear h1 h2;generalize chkV k=V at*
   go_enter Tryz.func60,Tryz.ntmps60
   go_wp2;go_ret;exact⟨by rw[e.out];rfl,rfl⟩
  ·have e:Hid (chkV k=.nilIface):=by show _=_;unfold chkV okK;rw[if_pos (by simp;omega)]
   have d1:decide ((k.size:Int)<1)=false:=by simp;omega
   have d2:decide (40<(k.size:Int))=false:=by simp;omega
   clear h1 h2;generalize chkV k=V at*
   go_enter Tryz.func60,Tryz.ntmps60
   go_wp2;go_ret;exact⟨by rw[e.out];rfl,rfl⟩
end Go.Proofs.YtdgladhfibfdlaaGreatDoor
