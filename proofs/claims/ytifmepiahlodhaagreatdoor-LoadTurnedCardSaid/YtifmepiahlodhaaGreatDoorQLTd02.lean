/-
  Steps.
-/
import Derived.Test.YtifmepiahlodhaaGreatDoorProg
import Derived.LaidEql
import Derived.Stop.Asserts
import Derived.RowKitTokens
import Derived.Test.YtifmepiahlodhaaGreatDoorQLTd01
import Derived.Lib.Hide
import Derived.Deep.Grids
import Derived.Deep.Slices
import Derived.OpenShut
import Derived.ProofKit
namespace Go.Proofs.YtifmepiahlodhaaGreatDoor
open Go.RowKit Go.Extern.Stop Go.Stop Go.Extern
theorem q6m (t:Addr)(w:World):(ReflectliteValue.unpack (.iface 98 (.pointer (some t)))).run Tryz.prog w
  =.ok (.agg #[.pointer (some ⟨3,98,none⟩),.pointer (some ⟨w.heap.size,0,none⟩),.int .u64 150]) (w.alloc (.cells #[.pointer (some t)] 98)):=by kernel_rfl
theorem q6x (a : Addr) (w : World) : (ReflectliteValue.methodAny (ReflectliteValue.valueError "reflectlite.Value.Type" 0) (fun t _ _ _ => ReflectliteType.toType t) #[.agg #[.pointer (some ⟨3, 98, none⟩), .pointer (some a), .int .u64 150]]).run Tryz.prog w
  =.ok (.iface 184 (.agg #[.pointer (some ⟨3,98,none⟩)])) w:=by kernel_rfl
theorem q6j (h : Value) (w : World) : (Go.method 431 184 (.agg #[h]) "Kind").run Tryz.prog w = .ok (215, h) w := by kernel_rfl
theorem q6y (w:World):((ReflectliteType.abiMethod fun t=>(fun a:Nat=>Value.int IntKind.u8 (a:Int))<$>Rtype.kind t) #[.pointer (some ⟨3,98,none⟩)]).run Tryz.prog w=.ok (.int .u8 22) w:=by kernel_rfl
theorem q6z (w:World):((ReflectliteType.abiMethod fun t=>(fun a:Nat=>Value.int IntKind.u8 (a:Int))<$>Rtype.kind t) #[.pointer (some ⟨3,96,none⟩)]).run Tryz.prog w=.ok (.int .u8 2) w:=by kernel_rfl
theorem q63 (z:Sem Value)(f:TypeId→Addr→Nat→Nat→Sem Value)(v:Value):
  ReflectliteValue.method z f #[v]=(do match←ReflectliteValue.parts v with|none=>z|some (t,a,fl)=>f t a fl (fl%32)):=rfl
theorem q6l (a:Addr)(w:World):(ReflectliteValue.parts (.agg #[.pointer (some ⟨3,98,none⟩),.pointer (some a),.int .u64 150])).run Tryz.prog w=.ok (some (98,a,150)) w:=by kernel_rfl
theorem q6u (a p:Addr)(W:World)(ha:W.cell? a=some (.pointer (some p))):
  (ReflectliteValue.method (ReflectliteValue.valueError "reflectlite.Value.IsNil" 0) ReflectliteValue.isNil #[.agg #[.pointer (some ⟨3, 98, none⟩), .pointer (some a), .int .u64 150]]).run Tryz.prog W = .ok (.bool false) W := by
 rw[q63];simp only[Sem.run_bind,q6l,Result.andThen];simp[ReflectliteValue.isNil,loadVar,isAgg,underlying,Tryz.underlying98,ha,Result.andThen]
theorem q6k (h : Value) (w : World) : (Go.method 431 184 (.agg #[h]) "Elem").run Tryz.prog w = .ok (225, .agg #[h]) w := by kernel_rfl
theorem q6d (h : Value) (w : World) : (Go.method 431 184 (.agg #[h]) "Implements").run Tryz.prog w = .ok (226, .agg #[h]) w := by kernel_rfl
theorem q6c (h : Value) (w : World) : (Go.method 431 184 (.agg #[h]) "AssignableTo").run Tryz.prog w = .ok (223, .agg #[h]) w := by kernel_rfl
theorem q60 (w:World):(ReflectliteType.method ReflectliteType.elem #[.agg #[.pointer (some ⟨3,98,none⟩)]]).run Tryz.prog w=.ok (.iface 184 (.agg #[.pointer (some ⟨3,96,none⟩)])) w:=by kernel_rfl
theorem q6g (w : World) : (ReflectliteType.relation "Implements" ReflectliteType.implements_ #[.agg #[.pointer (some ⟨3, 96, none⟩)], .iface 184 (.agg #[.pointer (some ⟨3, 34, none⟩)])]).run Tryz.prog w = .ok (.bool true) w := by kernel_rfl
theorem q6p (v:Value)(w:World):(ReflectliteType.typeOf #[.iface 96 v]).run Tryz.prog w=.ok (.iface 184 (.agg #[.pointer (some ⟨3,96,none⟩)])) w:=by kernel_rfl
theorem q6h (w : World) : (ReflectliteType.relation "AssignableTo" ReflectliteType.assignableTo #[.agg #[.pointer (some ⟨3, 96, none⟩)], .iface 184 (.agg #[.pointer (some ⟨3, 96, none⟩)])]).run Tryz.prog w = .ok (.bool true) w := by kernel_rfl
theorem q6n (n:Int)(w:World):(ReflectliteValue.unpack (.iface 96 (.int .i64 n))).run Tryz.prog w
  =.ok (.agg #[.pointer (some ⟨3,96,none⟩),.pointer (some ⟨w.heap.size,0,none⟩),.int .u64 130]) (w.alloc (.cells #[.int .i64 n] 96)):=by kernel_rfl
theorem q6q (w:World):(Rtype.elem? 98).run Tryz.prog w=.ok (some 96) w:=by kernel_rfl
theorem As.mkE (p:Addr)(w:World):(ReflectliteValue.mk 96 p ReflectliteValue.flagAddr).run Tryz.prog w=.ok (.agg #[.pointer (some ⟨3,96,none⟩),.pointer (some p),.int .u64 386]) w:=by kernel_rfl
theorem q6v (a p:Addr)(W:World)(ha:W.cell? a=some (.pointer (some p))):
  (ReflectliteValue.method (ReflectliteValue.valueError "reflectlite.Value.Elem" 0) ReflectliteValue.elem #[.agg #[.pointer (some ⟨3, 98, none⟩), .pointer (some a), .int .u64 150]]).run Tryz.prog W
   =.ok (.agg #[.pointer (some ⟨3,96,none⟩),.pointer (some p),.int .u64 386]) W:=by
 rw[q63];simp only[Sem.run_bind,q6l,Result.andThen];simp[ReflectliteValue.elem,loadVar,isAgg,underlying,Tryz.underlying98,ha,Result.andThen,q6q,As.mkE]
theorem q6w (ta b:Addr)(W:World):
  (ReflectliteValue.set #[.agg #[.pointer (some ⟨3,96,none⟩),.pointer (some ta),.int .u64 386],.agg #[.pointer (some ⟨3,96,none⟩),.pointer (some b),.int .u64 130]]).run Tryz.prog W
   =(do let val←loadVar 96 b;storeVar 96 ta val;pure (.tuple #[]):Sem Value).run Tryz.prog W:=by kernel_rfl
theorem q64 (ta b:Addr)(n:Int)(old:Value)(W:World)(hb:W.cell? b=some (.int .i64 n))(ht:W.cell? ta=some old)(hf:W.frozen? ta=false):
  (ReflectliteValue.set #[.agg #[.pointer (some ⟨3,96,none⟩),.pointer (some ta),.int .u64 386],.agg #[.pointer (some ⟨3,96,none⟩),.pointer (some b),.int .u64 130]]).run Tryz.prog W
   =.ok (.tuple #[]) (W.setCell ta (.int .i64 n)):=by
 rw[q6w];simp[loadVar,isAgg,underlying,Tryz.underlying96,hb,Result.andThen,storeVar,Value.cells,storeCells,Addr.add];rw[run_store Tryz.prog W ta _ _ (by rfl)];simp[ht,hf]
def Hg (w:World):Prop:=w.cell? ⟨0,0,none⟩=some (.iface 184 (.agg #[.pointer (some ⟨3,34,none⟩)]))
set_option maxHeartbeats 4000000 in
theorem q3y (n:Int)(t:Addr)(old:Value)(w:World)(hg':Hg w)(ht0:w.cell? t=some old)(hf0:w.frozen? t=false):
  Calls Tryz.prog 36 #[.iface 96 (.int .i64 n),.iface 98 (.pointer (some t))] w fun ev w'=>ev=.returned (.bool true)∧w'=((((w.alloc (.cells #[.pointer (some t)] 98)).alloc (.cells #[.pointer (some ⟨3,98,none⟩),.pointer (some ⟨w.heap.size,0,none⟩),.int .u64 150] 138)).alloc (.cells #[.pointer (some ⟨3,98,none⟩),.pointer (some ⟨w.heap.size,0,none⟩),.int .u64 150] 138)).alloc (.cells #[.int .i64 n] 96)).setCell t (.int .i64 n):=by
 have hg:w.cell? ⟨0,0,none⟩=some (.iface 184 (.agg #[.pointer (some ⟨3,34,none⟩)])):=hg';have h6:= @run_callFunc_extern Tryz.prog 63 _ (fun args=>ReflectliteValue.unpack (args.getD 0 (.tuple #[]))) Tryz.func63 (by kernel_rfl) (by kernel_rfl) (by kernel_rfl) (by kernel_rfl);have h7 := @run_callFunc_extern Tryz.prog 64 _ (ReflectliteValue.methodAny (ReflectliteValue.valueError "reflectlite.Value.Type" 0) (fun t _ _ _ => ReflectliteType.toType t)) Tryz.func64 (by kernel_rfl) (by kernel_rfl) (by kernel_rfl) (by kernel_rfl)
 have h8 := @run_callFunc_extern Tryz.prog 65 _ (ReflectliteValue.method (ReflectliteValue.valueError "reflectlite.Value.IsNil" 0) ReflectliteValue.isNil) Tryz.func65 (by kernel_rfl) (by kernel_rfl) (by kernel_rfl) (by kernel_rfl)
 have h27:= @run_callFunc_extern Tryz.prog 215 _ (ReflectliteType.abiMethod fun t=>do pure (.int .u8 (←Rtype.kind t))) Tryz.func215 (by kernel_rfl) (by kernel_rfl) (by kernel_rfl) (by kernel_rfl);have h37:= @run_callFunc_extern Tryz.prog 225 _ (ReflectliteType.method ReflectliteType.elem) Tryz.func225 (by kernel_rfl) (by kernel_rfl) (by kernel_rfl) (by kernel_rfl);have h38 := @run_callFunc_extern Tryz.prog 226 _ (ReflectliteType.relation "Implements" ReflectliteType.implements_) Tryz.func226 (by kernel_rfl) (by kernel_rfl) (by kernel_rfl) (by kernel_rfl)
 have h10:= @run_callFunc_extern Tryz.prog 92 _ ReflectliteType.typeOf Tryz.func92 (by kernel_rfl) (by kernel_rfl) (by kernel_rfl) (by kernel_rfl);have h35 := @run_callFunc_extern Tryz.prog 223 _ (ReflectliteType.relation "AssignableTo" ReflectliteType.assignableTo) Tryz.func223 (by kernel_rfl) (by kernel_rfl) (by kernel_rfl) (by kernel_rfl)
 have h11 := @run_callFunc_extern Tryz.prog 93 _ (ReflectliteValue.method (ReflectliteValue.valueError "reflectlite.Value.Elem" 0) ReflectliteValue.elem) Tryz.func93 (by kernel_rfl) (by kernel_rfl) (by kernel_rfl) (by kernel_rfl)
 have h12:= @run_callFunc_extern Tryz.prog 94 _ ReflectliteValue.set Tryz.func94 (by kernel_rfl) (by kernel_rfl) (by kernel_rfl) (by kernel_rfl);have tO:=q6p;have mA:=q6c;have a25:=q6h;have v25:=q6n;have f6:=q6m;have f7:=q6x;have mK:=q6j;have mE:=q6k;have mI:=q6d;have k27:=q6y;have k25:=q6z;have e27:=q60;have i25:=q6g;have n8:=q6u ⟨w.heap.size,0,none⟩ t ((w.alloc (.cells #[.pointer (some t)] 98)).alloc (.cells #[.pointer (some ⟨3,98,none⟩),.pointer (some ⟨w.heap.size,0,none⟩),.int .u64 150] 138)) (by simp);have hlt:0<w.heap.size:=by
  rcases zng 0 w.heap.size with h|h
  ·exact h
  ·simp[World.cell?,Array.getElem?_eq_none h] at hg
 have hg2:((w.alloc (.cells #[.pointer (some t)] 98)).alloc (.cells #[.pointer (some ⟨3,98,none⟩),.pointer (some ⟨w.heap.size,0,none⟩),.int .u64 150] 138)).cell? ⟨0,0,none⟩=some (.iface 184 (.agg #[.pointer (some ⟨3,34,none⟩)])):=by
  rw[World.cell?_alloc_lt _ _ ⟨0,0,none⟩ (by simp<;>omega),World.cell?_alloc_lt _ _ ⟨0,0,none⟩ hlt];exact hg
 have htl:t.block<w.heap.size:=by
  rcases zng t.block w.heap.size with h|h
  ·exact h
  ·simp[World.cell?,Array.getElem?_eq_none h] at ht0
 have el:=q6v ⟨w.heap.size,0,none⟩ t (((w.alloc (.cells #[.pointer (some t)] 98)).alloc (.cells #[.pointer (some ⟨3,98,none⟩),.pointer (some ⟨w.heap.size,0,none⟩),.int .u64 150] 138)).alloc (.cells #[.pointer (some ⟨3,98,none⟩),.pointer (some ⟨w.heap.size,0,none⟩),.int .u64 150] 138)) (by rw[World.cell?_alloc_lt _ _ ⟨w.heap.size,0,none⟩ (by simp<;>omega)];simp);have st:=q64 t ⟨w.heap.size+1+1+1,0,none⟩ n old ((((w.alloc (.cells #[.pointer (some t)] 98)).alloc (.cells #[.pointer (some ⟨3,98,none⟩),.pointer (some ⟨w.heap.size,0,none⟩),.int .u64 150] 138)).alloc (.cells #[.pointer (some ⟨3,98,none⟩),.pointer (some ⟨w.heap.size,0,none⟩),.int .u64 150] 138)).alloc (.cells #[.int .i64 n] 96))
  (by rw[World.cell?_alloc_at _ _ _ _ (by simp)];rfl)
  (by rw[World.cell?_alloc_lt _ _ t (by simp<;>omega),World.cell?_alloc_lt _ _ t (by simp<;>omega),World.cell?_alloc_lt _ _ t (by simp<;>omega),World.cell?_alloc_lt _ _ t htl];exact ht0)
  (by rw[World.frozen?_alloc_old _ _ t (by simp<;>omega),World.frozen?_alloc_old _ _ t (by simp<;>omega),World.frozen?_alloc_old _ _ t (by simp<;>omega),World.frozen?_alloc_old _ _ t (Nat.ne_of_lt htl)];exact hf0)
 go_enter Tryz.func36,Tryz.ntmps36
 go_wp2;refine wp_loop_rounds 1 ?_;rw[rounds_succ];go_wp2;go_ret;exact⟨rfl,rfl⟩
end Go.Proofs.YtifmepiahlodhaaGreatDoor
namespace Go.Proofs.YtifmepiahlodhaaGreatDoor
open Go.RowKit
theorem x1v (w:World):Calls Tryz.prog 9 #[.nilIface] w fun e w'=>e=.returned (.int .i64 0)∧Below w.heap.size w w':=by
 go_enter Tryz.func9,Tryz.ntmps9
 go_wp2;go_ret;exact⟨rfl,(zbr _ _).alloc (zlr _) _⟩
theorem x6y {w:World}(h:Hg w)(o:Obj):Hg (w.alloc o):=by
 have h':w.cell? ⟨0,0,none⟩=some (.iface 184 (.agg #[.pointer (some ⟨3,34,none⟩)])):=h;have hlt:0<w.heap.size:=by
  rcases zng 0 w.heap.size with h1|h1
  ·exact h1
  ·simp[World.cell?,Array.getElem?_eq_none h1] at h'
 show(w.alloc o).cell? _=_;rw[World.cell?_alloc_lt _ _ ⟨0,0,none⟩ hlt];exact h'
set_option maxHeartbeats 1000000 in
theorem q03 (n:Int)(w:World)(hg:Hg w):Calls Tryz.prog 9 #[.iface 96 (.int .i64 n)] w fun e w'=>e=.returned (.int .i64 n)∧Below w.heap.size w w':=by
 have hgA:=x6y hg (.cells #[.int .i64 0] 96);have htA:(w.alloc (.cells #[.int .i64 0] 96)).cell? ⟨w.heap.size,0,none⟩=some (.int .i64 0):=by simp
 have hfA:(w.alloc (.cells #[.int .i64 0] 96)).frozen? ⟨w.heap.size,0,none⟩=false:=by simp
 go_enter Tryz.func9,Tryz.ntmps9
 go_wp2_with (go_at_call 36;refine(q3y n _ (.int .i64 0) _ hgA htA hfA).mono ?_;rintro e w' ⟨rfl,rfl⟩)
 go_ret;refine⟨rfl,?_⟩;exact(((((zbr _ _).alloc (zlr _) _).alloc (by simp) _).alloc (by simp;omega) _).alloc (by simp;omega) _).alloc (by simp;omega) _
theorem Hg.below {w w':World}(h:Hg w)(hb:Below w.heap.size w w'):Hg w':=by
 have h':w.cell? ⟨0,0,none⟩=some (.iface 184 (.agg #[.pointer (some ⟨3,34,none⟩)])):=h;have hlt:0<w.heap.size:=by
  rcases zng 0 w.heap.size with h1|h1
  ·exact h1
  ·simp[World.cell?,Array.getElem?_eq_none h1] at h'
 show w'.cell? _=_;rw[hb.cell (p:=⟨0,0,none⟩) hlt];exact h'
end Go.Proofs.YtifmepiahlodhaaGreatDoor
namespace Go.Proofs.YtifmepiahlodhaaGreatDoor
open Go.RowKit
def q3z (e:Value)(f:Int):Prop:=(e=.nilIface∧f=0)∨(e=.iface 96 (.int .i64 f))
theorem y54 (e:Value)(f:Int)(w:World)(h:q3z e f)(hg:Hg w):Calls Tryz.prog 9 #[e] w fun e' w'=>e'=.returned (.int .i64 f)∧Below w.heap.size w w':=by
 rcases h with ⟨rfl,rfl⟩|rfl
 ·exact x1v w
 ·exact q03 f w hg
end Go.Proofs.YtifmepiahlodhaaGreatDoor
namespace Go.Proofs.YtifmepiahlodhaaGreatDoor
open Go Go.RowKit
def errC (f:Int):Value:=if f=0 then .nilIface else .iface 96 (.int .i64 f)
theorem x1w:errC 0=.nilIface:=rfl
theorem q30:errC 1=.iface 96 (.int .i64 1):=rfl
theorem q31:errC 5=.iface 96 (.int .i64 5):=rfl
theorem y55 (f:Int):q3z (errC f) f:=by
 unfold errC
 by_cases h:f=0
 ·rw[if_pos h];exact .inl ⟨rfl,h⟩
 ·rw[if_neg h];exact .inr rfl
def chkV (k:ByteArray):Value:=if okK k then .nilIface else .iface 96 (.int .i64 1)
theorem z5x (k:ByteArray)(w:World):Calls Tryz.prog 48 #[.string k] w fun e w'=>e=.returned (chkV k)∧w=w':=by
 by_cases h1:k.size<1
 ·have e:Hid (chkV k=.iface 96 (.int .i64 1)):=by show _=_;unfold chkV okK;rw[if_neg (by simp;omega)]
  have d1:decide ((k.size:Int)<1)=true:=by simp;omega
  clear h1;generalize chkV k=V at*
  go_enter Tryz.func48,Tryz.ntmps48
  go_wp2;go_ret;exact⟨by rw[e.out];rfl,rfl⟩
 ·by_cases h2:40<k.size
  ·have e:Hid (chkV k=.iface 96 (.int .i64 1)):=by show _=_;unfold chkV okK;rw[if_neg (by simp;omega)]
   have d1:decide ((k.size:Int)<1)=false:=by simp;omega
   have d2:decide (40<(k.size:Int))=true:=by simp;omega
   clear h1 h2;generalize chkV k=V at*
   go_enter Tryz.func48,Tryz.ntmps48
   go_wp2;go_ret;exact⟨by rw[e.out];rfl,rfl⟩
  ·have e:Hid (chkV k=.nilIface):=by show _=_;unfold chkV okK;rw[if_pos (by simp;omega)]
   have d1:decide ((k.size:Int)<1)=false:=by simp;omega
   have d2:decide (40<(k.size:Int))=false:=by simp;omega
   clear h1 h2;generalize chkV k=V at*
   go_enter Tryz.func48,Tryz.ntmps48
   go_wp2;go_ret;exact⟨by rw[e.out];rfl,rfl⟩
end Go.Proofs.YtifmepiahlodhaaGreatDoor
namespace Go.Proofs.YtifmepiahlodhaaGreatDoor
open Go.ChangeShapes Go.WideShapes Go.RowKit
theorem q04:laidOutB Tryz.prog=true:=by kernel_rfl
end Go.Proofs.YtifmepiahlodhaaGreatDoor
