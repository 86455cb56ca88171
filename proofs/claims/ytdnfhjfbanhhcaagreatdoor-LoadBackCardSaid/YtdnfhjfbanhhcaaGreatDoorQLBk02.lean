/-
  Steps.
-/
import Derived.Test.YtdnfhjfbanhhcaaGreatDoorProg
import Derived.LaidEql
import Derived.Stop.Asserts
import Derived.RowKitTokens
import Derived.Test.YtdnfhjfbanhhcaaGreatDoorQLBk01
import Derived.Lib.Hide
import Derived.Deep.Grids
import Derived.Deep.Slices
import Derived.OpenShut
import Derived.ProofKit
namespace Go.Proofs.YtdnfhjfbanhhcaaGreatDoor
open Go.RowKit Go.Extern.Stop Go.Stop Go.Extern
theorem q57 (t:Addr)(w:World):(ReflectliteValue.unpack (.iface 96 (.pointer (some t)))).run Tryz.prog w
  =.ok (.agg #[.pointer (some ⟨3,96,none⟩),.pointer (some ⟨w.heap.size,0,none⟩),.int .u64 150]) (w.alloc (.cells #[.pointer (some t)] 96)):=by kernel_rfl
theorem q6i (a : Addr) (w : World) : (ReflectliteValue.methodAny (ReflectliteValue.valueError "reflectlite.Value.Type" 0) (fun t _ _ _ => ReflectliteType.toType t) #[.agg #[.pointer (some ⟨3, 96, none⟩), .pointer (some a), .int .u64 150]]).run Tryz.prog w
  =.ok (.iface 182 (.agg #[.pointer (some ⟨3,96,none⟩)])) w:=by kernel_rfl
theorem q54 (h : Value) (w : World) : (Go.method 429 182 (.agg #[h]) "Kind").run Tryz.prog w = .ok (213, h) w := by kernel_rfl
theorem q6j (w:World):((ReflectliteType.abiMethod fun t=>(fun a:Nat=>Value.int IntKind.u8 (a:Int))<$>Rtype.kind t) #[.pointer (some ⟨3,96,none⟩)]).run Tryz.prog w=.ok (.int .u8 22) w:=by kernel_rfl
theorem q6k (w:World):((ReflectliteType.abiMethod fun t=>(fun a:Nat=>Value.int IntKind.u8 (a:Int))<$>Rtype.kind t) #[.pointer (some ⟨3,94,none⟩)]).run Tryz.prog w=.ok (.int .u8 2) w:=by kernel_rfl
theorem q6o (z:Sem Value)(f:TypeId→Addr→Nat→Nat→Sem Value)(v:Value):
  ReflectliteValue.method z f #[v]=(do match←ReflectliteValue.parts v with|none=>z|some (t,a,fl)=>f t a fl (fl%32)):=rfl
theorem q56 (a:Addr)(w:World):(ReflectliteValue.parts (.agg #[.pointer (some ⟨3,96,none⟩),.pointer (some a),.int .u64 150])).run Tryz.prog w=.ok (some (96,a,150)) w:=by kernel_rfl
theorem q6f (a p:Addr)(W:World)(ha:W.cell? a=some (.pointer (some p))):
  (ReflectliteValue.method (ReflectliteValue.valueError "reflectlite.Value.IsNil" 0) ReflectliteValue.isNil #[.agg #[.pointer (some ⟨3, 96, none⟩), .pointer (some a), .int .u64 150]]).run Tryz.prog W = .ok (.bool false) W := by
 rw[q6o];simp only[Sem.run_bind,q56,Result.andThen];simp[ReflectliteValue.isNil,loadVar,isAgg,underlying,Tryz.underlying96,ha,Result.andThen]
theorem q55 (h : Value) (w : World) : (Go.method 429 182 (.agg #[h]) "Elem").run Tryz.prog w = .ok (223, .agg #[h]) w := by kernel_rfl
theorem q5z (h : Value) (w : World) : (Go.method 429 182 (.agg #[h]) "Implements").run Tryz.prog w = .ok (224, .agg #[h]) w := by kernel_rfl
theorem q5y (h : Value) (w : World) : (Go.method 429 182 (.agg #[h]) "AssignableTo").run Tryz.prog w = .ok (221, .agg #[h]) w := by kernel_rfl
theorem q6l (w:World):(ReflectliteType.method ReflectliteType.elem #[.agg #[.pointer (some ⟨3,96,none⟩)]]).run Tryz.prog w=.ok (.iface 182 (.agg #[.pointer (some ⟨3,94,none⟩)])) w:=by kernel_rfl
theorem q52 (w : World) : (ReflectliteType.relation "Implements" ReflectliteType.implements_ #[.agg #[.pointer (some ⟨3, 94, none⟩)], .iface 182 (.agg #[.pointer (some ⟨3, 34, none⟩)])]).run Tryz.prog w = .ok (.bool true) w := by kernel_rfl
theorem q6a (v:Value)(w:World):(ReflectliteType.typeOf #[.iface 94 v]).run Tryz.prog w=.ok (.iface 182 (.agg #[.pointer (some ⟨3,94,none⟩)])) w:=by kernel_rfl
theorem q53 (w : World) : (ReflectliteType.relation "AssignableTo" ReflectliteType.assignableTo #[.agg #[.pointer (some ⟨3, 94, none⟩)], .iface 182 (.agg #[.pointer (some ⟨3, 94, none⟩)])]).run Tryz.prog w = .ok (.bool true) w := by kernel_rfl
theorem q58 (n:Int)(w:World):(ReflectliteValue.unpack (.iface 94 (.int .i64 n))).run Tryz.prog w
  =.ok (.agg #[.pointer (some ⟨3,94,none⟩),.pointer (some ⟨w.heap.size,0,none⟩),.int .u64 130]) (w.alloc (.cells #[.int .i64 n] 94)):=by kernel_rfl
theorem q6b (w:World):(Rtype.elem? 96).run Tryz.prog w=.ok (some 94) w:=by kernel_rfl
theorem As.mkE (p:Addr)(w:World):(ReflectliteValue.mk 94 p ReflectliteValue.flagAddr).run Tryz.prog w=.ok (.agg #[.pointer (some ⟨3,94,none⟩),.pointer (some p),.int .u64 386]) w:=by kernel_rfl
theorem q6g (a p:Addr)(W:World)(ha:W.cell? a=some (.pointer (some p))):
  (ReflectliteValue.method (ReflectliteValue.valueError "reflectlite.Value.Elem" 0) ReflectliteValue.elem #[.agg #[.pointer (some ⟨3, 96, none⟩), .pointer (some a), .int .u64 150]]).run Tryz.prog W
   =.ok (.agg #[.pointer (some ⟨3,94,none⟩),.pointer (some p),.int .u64 386]) W:=by
 rw[q6o];simp only[Sem.run_bind,q56,Result.andThen];simp[ReflectliteValue.elem,loadVar,isAgg,underlying,Tryz.underlying96,ha,Result.andThen,q6b,As.mkE]
theorem q6h (ta b:Addr)(W:World):
  (ReflectliteValue.set #[.agg #[.pointer (some ⟨3,94,none⟩),.pointer (some ta),.int .u64 386],.agg #[.pointer (some ⟨3,94,none⟩),.pointer (some b),.int .u64 130]]).run Tryz.prog W
   =(do let val←loadVar 94 b;storeVar 94 ta val;pure (.tuple #[]):Sem Value).run Tryz.prog W:=by kernel_rfl
theorem q6p (ta b:Addr)(n:Int)(old:Value)(W:World)(hb:W.cell? b=some (.int .i64 n))(ht:W.cell? ta=some old)(hf:W.frozen? ta=false):
  (ReflectliteValue.set #[.agg #[.pointer (some ⟨3,94,none⟩),.pointer (some ta),.int .u64 386],.agg #[.pointer (some ⟨3,94,none⟩),.pointer (some b),.int .u64 130]]).run Tryz.prog W
   =.ok (.tuple #[]) (W.setCell ta (.int .i64 n)):=by
 rw[q6h];simp[loadVar,isAgg,underlying,Tryz.underlying94,hb,Result.andThen,storeVar,Value.cells,storeCells,Addr.add];rw[run_store Tryz.prog W ta _ _ (by rfl)];simp[ht,hf]
def Hg (w:World):Prop:=w.cell? ⟨0,0,none⟩=some (.iface 182 (.agg #[.pointer (some ⟨3,34,none⟩)]))
set_option maxHeartbeats 4000000 in
theorem q3p (n:Int)(t:Addr)(old:Value)(w:World)(hg':Hg w)(ht0:w.cell? t=some old)(hf0:w.frozen? t=false):
  Calls Tryz.prog 34 #[.iface 94 (.int .i64 n),.iface 96 (.pointer (some t))] w fun ev w'=>ev=.returned (.bool true)∧w'=((((w.alloc (.cells #[.pointer (some t)] 96)).alloc (.cells #[.pointer (some ⟨3,96,none⟩),.pointer (some ⟨w.heap.size,0,none⟩),.int .u64 150] 135)).alloc (.cells #[.pointer (some ⟨3,96,none⟩),.pointer (some ⟨w.heap.size,0,none⟩),.int .u64 150] 135)).alloc (.cells #[.int .i64 n] 94)).setCell t (.int .i64 n):=by
 have hg:w.cell? ⟨0,0,none⟩=some (.iface 182 (.agg #[.pointer (some ⟨3,34,none⟩)])):=hg';have h6:= @run_callFunc_extern Tryz.prog 59 _ (fun args=>ReflectliteValue.unpack (args.getD 0 (.tuple #[]))) Tryz.func59 (by kernel_rfl) (by kernel_rfl) (by kernel_rfl) (by kernel_rfl);have h7 := @run_callFunc_extern Tryz.prog 60 _ (ReflectliteValue.methodAny (ReflectliteValue.valueError "reflectlite.Value.Type" 0) (fun t _ _ _ => ReflectliteType.toType t)) Tryz.func60 (by kernel_rfl) (by kernel_rfl) (by kernel_rfl) (by kernel_rfl)
 have h8 := @run_callFunc_extern Tryz.prog 61 _ (ReflectliteValue.method (ReflectliteValue.valueError "reflectlite.Value.IsNil" 0) ReflectliteValue.isNil) Tryz.func61 (by kernel_rfl) (by kernel_rfl) (by kernel_rfl) (by kernel_rfl)
 have h27:= @run_callFunc_extern Tryz.prog 213 _ (ReflectliteType.abiMethod fun t=>do pure (.int .u8 (←Rtype.kind t))) Tryz.func213 (by kernel_rfl) (by kernel_rfl) (by kernel_rfl) (by kernel_rfl);have h37:= @run_callFunc_extern Tryz.prog 223 _ (ReflectliteType.method ReflectliteType.elem) Tryz.func223 (by kernel_rfl) (by kernel_rfl) (by kernel_rfl) (by kernel_rfl);have h38 := @run_callFunc_extern Tryz.prog 224 _ (ReflectliteType.relation "Implements" ReflectliteType.implements_) Tryz.func224 (by kernel_rfl) (by kernel_rfl) (by kernel_rfl) (by kernel_rfl)
 have h10:= @run_callFunc_extern Tryz.prog 90 _ ReflectliteType.typeOf Tryz.func90 (by kernel_rfl) (by kernel_rfl) (by kernel_rfl) (by kernel_rfl);have h35 := @run_callFunc_extern Tryz.prog 221 _ (ReflectliteType.relation "AssignableTo" ReflectliteType.assignableTo) Tryz.func221 (by kernel_rfl) (by kernel_rfl) (by kernel_rfl) (by kernel_rfl)
 have h11 := @run_callFunc_extern Tryz.prog 91 _ (ReflectliteValue.method (ReflectliteValue.valueError "reflectlite.Value.Elem" 0) ReflectliteValue.elem) Tryz.func91 (by kernel_rfl) (by kernel_rfl) (by kernel_rfl) (by kernel_rfl)
 have h12:= @run_callFunc_extern Tryz.prog 92 _ ReflectliteValue.set Tryz.func92 (by kernel_rfl) (by kernel_rfl) (by kernel_rfl) (by kernel_rfl);have tO:=q6a;have mA:=q5y;have a25:=q53;have v25:=q58;have f6:=q57;have f7:=q6i;have mK:=q54;have mE:=q55;have mI:=q5z;have k27:=q6j;have k25:=q6k;have e27:=q6l;have i25:=q52;have n8:=q6f ⟨w.heap.size,0,none⟩ t ((w.alloc (.cells #[.pointer (some t)] 96)).alloc (.cells #[.pointer (some ⟨3,96,none⟩),.pointer (some ⟨w.heap.size,0,none⟩),.int .u64 150] 135)) (by simp);have hlt:0<w.heap.size:=by
  rcases zng 0 w.heap.size with h|h
  ·exact h
  ·simp[World.cell?,Array.getElem?_eq_none h] at hg
 have hg2:((w.alloc (.cells #[.pointer (some t)] 96)).alloc (.cells #[.pointer (some ⟨3,96,none⟩),.pointer (some ⟨w.heap.size,0,none⟩),.int .u64 150] 135)).cell? ⟨0,0,none⟩=some (.iface 182 (.agg #[.pointer (some ⟨3,34,none⟩)])):=by
  rw[World.cell?_alloc_lt _ _ ⟨0,0,none⟩ (by simp<;>omega),World.cell?_alloc_lt _ _ ⟨0,0,none⟩ hlt];exact hg
 have htl:t.block<w.heap.size:=by
  rcases zng t.block w.heap.size with h|h
  ·exact h
  ·simp[World.cell?,Array.getElem?_eq_none h] at ht0
 have el:=q6g ⟨w.heap.size,0,none⟩ t (((w.alloc (.cells #[.pointer (some t)] 96)).alloc (.cells #[.pointer (some ⟨3,96,none⟩),.pointer (some ⟨w.heap.size,0,none⟩),.int .u64 150] 135)).alloc (.cells #[.pointer (some ⟨3,96,none⟩),.pointer (some ⟨w.heap.size,0,none⟩),.int .u64 150] 135)) (by rw[World.cell?_alloc_lt _ _ ⟨w.heap.size,0,none⟩ (by simp<;>omega)];simp);have st:=q6p t ⟨w.heap.size+1+1+1,0,none⟩ n old ((((w.alloc (.cells #[.pointer (some t)] 96)).alloc (.cells #[.pointer (some ⟨3,96,none⟩),.pointer (some ⟨w.heap.size,0,none⟩),.int .u64 150] 135)).alloc (.cells #[.pointer (some ⟨3,96,none⟩),.pointer (some ⟨w.heap.size,0,none⟩),.int .u64 150] 135)).alloc (.cells #[.int .i64 n] 94))
  (by rw[World.cell?_alloc_at _ _ _ _ (by simp)];rfl)
  (by rw[World.cell?_alloc_lt _ _ t (by simp<;>omega),World.cell?_alloc_lt _ _ t (by simp<;>omega),World.cell?_alloc_lt _ _ t (by simp<;>omega),World.cell?_alloc_lt _ _ t htl];exact ht0)
  (by rw[World.frozen?_alloc_old _ _ t (by simp<;>omega),World.frozen?_alloc_old _ _ t (by simp<;>omega),World.frozen?_alloc_old _ _ t (by simp<;>omega),World.frozen?_alloc_old _ _ t (Nat.ne_of_lt htl)];exact hf0)
 go_enter Tryz.func34,Tryz.ntmps34
 go_wp2;refine wp_loop_rounds 1 ?_;rw[rounds_succ];go_wp2;go_ret;exact⟨rfl,rfl⟩
end Go.Proofs.YtdnfhjfbanhhcaaGreatDoor
namespace Go.Proofs.YtdnfhjfbanhhcaaGreatDoor
open Go.RowKit
theorem x1o (w:World):Calls Tryz.prog 8 #[.nilIface] w fun e w'=>e=.returned (.int .i64 0)∧Below w.heap.size w w':=by
 go_enter Tryz.func8,Tryz.ntmps8
 go_wp2;go_ret;exact⟨rfl,(zbr _ _).alloc (zlr _) _⟩
theorem x6t {w:World}(h:Hg w)(o:Obj):Hg (w.alloc o):=by
 have h':w.cell? ⟨0,0,none⟩=some (.iface 182 (.agg #[.pointer (some ⟨3,34,none⟩)])):=h;have hlt:0<w.heap.size:=by
  rcases zng 0 w.heap.size with h1|h1
  ·exact h1
  ·simp[World.cell?,Array.getElem?_eq_none h1] at h'
 show(w.alloc o).cell? _=_;rw[World.cell?_alloc_lt _ _ ⟨0,0,none⟩ hlt];exact h'
set_option maxHeartbeats 1000000 in
theorem q0y (n:Int)(w:World)(hg:Hg w):Calls Tryz.prog 8 #[.iface 94 (.int .i64 n)] w fun e w'=>e=.returned (.int .i64 n)∧Below w.heap.size w w':=by
 have hgA:=x6t hg (.cells #[.int .i64 0] 94);have htA:(w.alloc (.cells #[.int .i64 0] 94)).cell? ⟨w.heap.size,0,none⟩=some (.int .i64 0):=by simp
 have hfA:(w.alloc (.cells #[.int .i64 0] 94)).frozen? ⟨w.heap.size,0,none⟩=false:=by simp
 go_enter Tryz.func8,Tryz.ntmps8
 go_wp2_with (go_at_call 34;refine(q3p n _ (.int .i64 0) _ hgA htA hfA).mono ?_;rintro e w' ⟨rfl,rfl⟩)
 go_ret;refine⟨rfl,?_⟩;exact(((((zbr _ _).alloc (zlr _) _).alloc (by simp) _).alloc (by simp;omega) _).alloc (by simp;omega) _).alloc (by simp;omega) _
theorem Hg.below {w w':World}(h:Hg w)(hb:Below w.heap.size w w'):Hg w':=by
 have h':w.cell? ⟨0,0,none⟩=some (.iface 182 (.agg #[.pointer (some ⟨3,34,none⟩)])):=h;have hlt:0<w.heap.size:=by
  rcases zng 0 w.heap.size with h1|h1
  ·exact h1
  ·simp[World.cell?,Array.getElem?_eq_none h1] at h'
 show w'.cell? _=_;rw[hb.cell (p:=⟨0,0,none⟩) hlt];exact h'
end Go.Proofs.YtdnfhjfbanhhcaaGreatDoor
namespace Go.Proofs.YtdnfhjfbanhhcaaGreatDoor
open Go.RowKit
def q3q (e:Value)(f:Int):Prop:=(e=.nilIface∧f=0)∨(e=.iface 94 (.int .i64 f))
theorem q0z (e:Value)(f:Int)(w:World)(h:q3q e f)(hg:Hg w):Calls Tryz.prog 8 #[e] w fun e' w'=>e'=.returned (.int .i64 f)∧Below w.heap.size w w':=by
 rcases h with ⟨rfl,rfl⟩|rfl
 ·exact x1o w
 ·exact q0y f w hg
end Go.Proofs.YtdnfhjfbanhhcaaGreatDoor
namespace Go.Proofs.YtdnfhjfbanhhcaaGreatDoor
open Go Go.RowKit
def errC (f:Int):Value:=if f=0 then .nilIface else .iface 94 (.int .i64 f)
theorem x1p:errC 0=.nilIface:=rfl
theorem q3r:errC 1=.iface 94 (.int .i64 1):=rfl
theorem q3s:errC 5=.iface 94 (.int .i64 5):=rfl
theorem q00 (f:Int):q3q (errC f) f:=by
 unfold errC
 by_cases h:f=0
 ·rw[if_pos h];exact .inl ⟨rfl,h⟩
 ·rw[if_neg h];exact .inr rfl
def chkV (k:ByteArray):Value:=if okK k then .nilIface else .iface 94 (.int .i64 1)
theorem z54 (k:ByteArray)(w:World):Calls Tryz.prog 46 #[.string k] w fun e w'=>e=.returned (chkV k)∧w=w':=by
 by_cases h1:k.size<1
 ·have e:Hid (chkV k=.iface 94 (.int .i64 1)):=by show _=_;unfold chkV okK;rw[if_neg (by simp;omega)]
  have d1:decide ((k.size:Int)<1)=true:=by simp;omega
  clear h1;generalize chkV k=V at*
  go_enter Tryz.func46,Tryz.ntmps46
  go_wp2;go_ret;exact⟨by rw[e.out];rfl,rfl⟩
 ·by_cases h2:40<k.size
  ·have e:Hid (chkV k=.iface 94 (.int .i64 1)):=by show _=_;unfold chkV okK;rw[if_neg (by simp;omega)]
   have d1:decide ((k.size:Int)<1)=false:=by simp;omega
   have d2:decide (40<(k.size:Int))=true:=by simp;omega
   clear h1 h2;generalize chkV k=V at*
   go_enter Tryz.func46,Tryz.ntmps46
   go_wp2;go_ret;exact⟨by rw[e.out];rfl,rfl⟩
  ·have e:Hid (chkV k=.nilIface):=by show _=_;unfold chkV okK;rw[if_pos (by simp;omega)]
   have d1:decide ((k.size:Int)<1)=false:=by simp;omega
   have d2:decide (40<(k.size:Int))=false:=by simp;omega
   clear h1 h2;generalize chkV k=V at*
   go_enter Tryz.func46,Tryz.ntmps46
   go_wp2;go_ret;exact⟨by rw[e.out];rfl,rfl⟩
end Go.Proofs.YtdnfhjfbanhhcaaGreatDoor
namespace Go.Proofs.YtdnfhjfbanhhcaaGreatDoor
open Go.ChangeShapes Go.WideShapes Go.RowKit
theorem q01:laidOutB Tryz.prog=true:=by kernel_rfl
end Go.Proofs.YtdnfhjfbanhhcaaGreatDoor
