/-
  Steps.
-/
import Derived.Test.YtdnfhjfbanhhcaaGreatDoorQLBk00
import Derived.Test.YtdnfhjfbanhhcaaGreatDoorProg
import Derived.WalkKit
import Derived.Below
import Derived.OwnWalk
import Derived.Laws.AppendOwnNone
import Derived.Laws.ResultCell
import Derived.OrdersHeld
import Derived.Deep.RegionHeld
import Derived.Sort.Walk0
import Derived.Lib.MinMaxS
namespace Go.Proofs.YtdnfhjfbanhhcaaGreatDoor
open Go Go.RowKit
theorem z8g:(Tryz.prog.info? 5).map (fun i=>(i.zero,i.size,i.bytes))=some (some (.int .u8 0),1,1):=by kernel_rfl
theorem z41:(Tryz.prog.info? 5).map (·.size)=some 1:=by kernel_rfl
structure Turn (F:Nat→Prop) (w w':World):Prop where
 os:w'.os=w.os
 tape:w'.tape=w.tape
 output:w'.output=w.output
 size:w.heap.size≤w'.heap.size
 block:∀i,i<w.heap.size→¬F i→w'.heap[i]? =w.heap[i]?
theorem Turn.refl (F:Nat→Prop)(w:World):Turn F w w:=⟨rfl,rfl,rfl,zlr _,fun _ _ _=>rfl⟩
theorem Turn.step {F G:Nat→Prop}{a b c:World}(h:Turn F a b)(k:Turn G b c)(hs:∀i,G i→i<a.heap.size→F i):Turn F a c:=
 ⟨k.os.trans h.os,k.tape.trans h.tape,k.output.trans h.output,znt h.size k.size,fun i hi hF=>
  (k.block i (Nat.lt_of_lt_of_le hi h.size) (fun hg=>hF (hs i hg hi))).trans (h.block i hi hF)⟩
theorem Turn.trans {F:Nat→Prop}{a b c:World}(h:Turn F a b)(k:Turn F b c):Turn F a c:=h.step k (fun _ hg _=>hg)
theorem Turn.mono {F G:Nat→Prop}{a b:World}(h:Turn F a b)(hs:∀i,F i→i<a.heap.size→G i):Turn G a b:=
 ⟨h.os,h.tape,h.output,h.size,fun i hi hG=>h.block i hi (fun hf=>hG (hs i hf hi))⟩
theorem q5w {F:Nat→Prop}{a b:World}(h:Below a.heap.size a b):Turn F a b:=⟨h.os,h.tape,h.output,h.size,fun i hi _=>h.block i hi⟩
theorem Turn.below {F:Nat→Prop}{a b:World}(h:Turn F a b){B:Nat}(hB:B≤a.heap.size)(hF:∀i,F i→B≤i):Below B a b:=
 ⟨h.os,h.tape,h.output,h.size,fun i hi=>h.block i (Nat.lt_of_lt_of_le hi hB) (fun hf=>by have:=hF i hf;omega)⟩
theorem Turn.alloc {F:Nat→Prop}{a b:World}(h:Turn F a b)(o:Obj):Turn F a (b.alloc o):=
 h.step (G:=fun _=>False) (q5w ((zbr _ _).alloc (zlr _) _)) (fun _ hg _=>hg.elim)
theorem Turn.setCell {F:Nat→Prop}{a b:World}(h:Turn F a b){p:Addr}(u:Value)(hp:p.block<a.heap.size→F p.block):Turn F a (b.setCell p u):=
 h.step (G:=fun i=>i=p.block) ⟨rfl,rfl,rfl,by simp[World.setCell],fun i _ hne=>Below.heap_setCell _ _ _ _ hne⟩ (fun i hi hl=>by subst hi;exact hp hl)
theorem Turn.cell {F:Nat→Prop}{a b:World}(h:Turn F a b){p:Addr}(hp:p.block<a.heap.size)(hF:¬F p.block):b.cell? p=a.cell? p:=World.cell?_of_block (w:=a) (h.block p.block hp hF)
theorem Turn.hg {F:Nat→Prop}{a b:World}(h:Turn F a b){k:Nat}{o:Obj}(ho:a.heap[k]? =some o)(hF:¬F k):b.heap[k]? =some o:=
 (h.block k (zag.1 ho).1 hF).trans ho
theorem q51 {w w':World}{b:Nat}(hg:w.grownBy w' (some b)):Turn (fun i=>i=b) w w':=
 ⟨hg.os,hg.tape,hg.output,hg.size,fun i hi hne=>hg.block i hi (fun e=>hne (Option.some.inj e))⟩
end Go.Proofs.YtdnfhjfbanhhcaaGreatDoor
namespace Go.Proofs.YtdnfhjfbanhhcaaGreatDoor
open Go.RowKit
def Near (w:World)(v v':Value):Prop:=v'.ownBlock=v.ownBlock∨∀k,v'.ownBlock=some k→w.heap.size≤k
section
variable {P:Program} {w:World}
theorem z2b (base:Nat)(t ty e:TypeId)(i:TypeInfo)(z:Value)(size bytes:Nat)(ht:P.underlying t=some (.slice e))(hi:P.info? e=some i)(hz:i.zero=some z)
  (hsize:i.size=size) (hby:i.bytes=bytes) (hzs:z.cells.size=size) (hsz:0<size)
  (v:Value) (n:Nat) (xs:List Value) (hown:w.ownsRow base e size v n xs)
  (a:Addr) (m c:Nat) (news:List Value) (hl:news.length=m*size) (hnews:∀j u,news[j]? =some u→w.cell? (a.add j)=some u) (h1:∀u∈news,u.oneCell'=true)
  (h63:n+m≤maxLen) (hbytes:(n+m)*bytes≤140737488355328) (hbase:base≤w.heap.size):
  ∃v' w',(Builtin.append_ #[t,t] ty #[v,.slice (some a) m c]).run P w=.ok v' w'∧w'.ownsRow base e size v' (n+m) (xs++news)∧w.grownBy w' v.ownBlock∧Near w v v':=by
 obtain⟨v',w',hr,h2,h3,h4⟩:=run_append_own (w:=w) base t ty e i z size bytes ht hi hz hsize hby hzs hsz v n xs hown a m c news hl hnews h1 h63 hbytes hbase;refine⟨v',w',hr,h2,h3,?_⟩;subst hsize;subst hby;have hsmall:n+m≤9223372036854775807:=by simp only[maxLen] at h63;omega
 rcases hown.2 with ⟨rfl,rfl⟩|⟨g,cap,cur,rfl,hbg,hg,hnc,hcm,hcs,htake⟩
 ·by_cases hm:m=0
  ·left
   rw[h4.2 ⟨rfl,hm⟩]
  ·have hr2:=run_append_nil (P:=P) w t ty e i z ht hi hz a m c news hl hnews (by omega) (by omega) (by have hb:=hbytes;simp only[Nat.zero_add] at hb;omega);rw[hr] at hr2
   cases hr2
   right
   intro k hk;simp only[Value.ownBlock,Option.some.injEq] at hk;omega
 ·by_cases hroom:n+m≤cap
  ·have hfit:n*i.size+news.length≤cur.size:=by rw[hl,hcs,←Nat.add_mul];exact Nat.mul_le_mul_right _ hroom
   have hr2:=run_append_room (P:=P) w t ty e i ht hi g n cap cur hg a m c news hl hnews h1 hroom hfit;rw[hr] at hr2
   cases hr2
   left
   rfl
  ·have holds:∀j u,xs[j]? =some u→w.cell? ((⟨g,0,none⟩:Addr).add j)=some u:=hown.cells (g:=g) rfl;have hr2:=run_append_grow (P:=P) w t ty e i z ht hi hz ⟨g,0,none⟩ n cap xs hown.1 holds a m c news hl hnews (by omega) (by omega) (growslice_fits (by omega) hbytes);rw[hr] at hr2
   cases hr2
   right
   intro k hk;simp only[Value.ownBlock,Option.some.injEq] at hk;omega
theorem z2c {ops:Array Oper}{rest:List Oper}{o:Oper}{a:Act}{Q:Exit→Act→World→Prop}(hgd:o.guard=none)(s x:Operand)(t:TypeId)
  (ho:o.op=.call {callee:=.builtin .append,args:= #[s,x],argTypes:= #[t,t]})
  (base:Nat) (e:TypeId) (i:TypeInfo) (z:Value) (size bytes:Nat) (ht:P.underlying t=some (.slice e)) (hi:P.info? e=some i) (hz:i.zero=some z)
  (hsize:i.size=size) (hby:i.bytes=bytes) (hzs:z.cells.size=size) (hsz:0<size)
  (v:Value) (n:Nat) (xs:List Value) (hs:a.eval s=v) (hown:w.ownsRow base e size v n xs)
  (ad:Addr) (m c:Nat) (news:List Value) (hx:a.eval x=.slice (some ad) m c) (hl:news.length=m*size) (hnews:∀j u,news[j]? =some u→w.cell? (ad.add j)=some u) (h1:∀u∈news,u.oneCell'=true)
  (h63:n+m≤maxLen) (hbytes:(n+m)*bytes≤140737488355328) (hbase:base≤w.heap.size)
  (h:∀v' w',w'.ownsRow base e size v' (n+m) (xs++news)→w.grownBy w' v.ownBlock→Near w v v'→wpList P ops Q rest (a.put o.dst v') w'):wpList P ops Q (o::rest) a w:=by
 obtain⟨v',w',hr,h2,h3,h4⟩:=z2b (P:=P) (w:=w) base t o.type e i z size bytes ht hi hz hsize hby hzs hsz v n xs hown ad m c news hl hnews h1 h63 hbytes hbase;refine wpList_plain hgd fun K hK=> ?_
 unfold Oper.wp;simp[execOp,ho,resolve,invoke,builtin,hs,hx,hr,Result.andThen];exact hK _ _ (h v' w' h2 h3 h4)
end
theorem z0p {w w':World}{B E sz n B1:Nat}{v:Value}{xs:List Value}(h:w.ownsRow B E sz v n xs)(hb:Below B1 w w')(hB:w.heap.size≤B1):w'.ownsRow B E sz v n xs:=by
 refine⟨h.1,?_⟩
 rcases h.2 with h2|⟨g,cap,cur,hv,hg,hh,r⟩
 ·exact .inl h2
 ·refine .inr ⟨g,cap,cur,hv,hg,?_,r⟩;have hl:g<w.heap.size:=by
   rcases zng g w.heap.size with h1|h1
   ·exact h1
   ·rw[Array.getElem?_eq_none h1] at hh;cases hh
  rw[hb.block g (by omega)];exact hh
end Go.Proofs.YtdnfhjfbanhhcaaGreatDoor
namespace Go.Proofs.YtdnfhjfbanhhcaaGreatDoor
open Go Go.RowKit
theorem q0x {G T:Prop}(k:G)(h:G→T):T:=h k
theorem z0c {fn:Func}{p:Tmp}{ty:TypeId}(h:fn.results= #[.cell p ty])(tmps:Array Value)(P:Program)(w:World):
  (results fn tmps).run P w=((asAddr (tmps.getD p undef)).run P w).andThen fun a w₁=>(loadVar ty a).run P w₁:=by
 simp only[results,h];simp[Sem.run_bind]
theorem Turn.own {w w1 w2:World}{b B:Nat}(hb:Below B w w1)(t:Turn (fun i=>i=b) w1 w2)(hB:B≤b)(hz:B≤w.heap.size):Below B w w2:=
 hb.trans (t.below (znt hz hb.size) (fun i hi=>by rw[hi];exact hB))
section
variable {P:Program} {ops:Array Oper} {Q:Exit→Act→World→Prop} {md:Region.Mode}
def Ext (w w':World):Prop:=Below w.heap.size w w'
theorem Ext.refl (w:World):Ext w w:=zbr _ _
theorem Ext.trans {a b c:World}(h:Ext a b)(k:Ext b c):Ext a c:=Below.trans h (Below.mono k h.size)
theorem z2d {S T:World→Prop}(hST:∀w,S w→T w):∀(fuel:Nat) (listed:Array Bool) (a:Act) (w:World),wpAnyH P md ops Q S fuel listed a w→wpAnyH P md ops Q T fuel listed a w
 | 0,_,_,_,h=>h
 | fuel+1,_,_,_,h=>⟨h.1,fun i hi=>wpOp_mono (fun a' w' h'=>⟨hST _ h'.1,z2d hST fuel _ a' w' h'.2⟩) (h.2 i hi)⟩
def wpGr (P:Program)(ops:Array Oper)(Q:Exit→Act→World→Prop):List (Nat×Bool)→Act→World→Prop
 | [],a,w=>Q .normal a w
 | (i,true)::rest,a,w=>∃o v,ops[i]? =some o∧YieldsIf P ops (Ext w) o v a∧wpGr P ops Q rest (a.put o.dst v) w
 | (i,false)::rest,a,w=>∃o,ops[i]? =some o∧(if Region.wanted o (yielded ops a.tmps)=true then Oper.wp P o a w (fun a' w'=>Ext w w'∧wpGr P ops Q rest a' w') Q else wpGr P ops Q rest (a.put o.dst undef) w)
def z2e (md:Region.Mode)(ops:Array Oper):List (Nat×Bool)→Array Bool→Bool
 | [],listed=>(Region.ready md ops listed).isEmpty
 | (i,true)::rest,listed=>Region.free md ops listed i&&((Region.ready md ops listed).contains i&&z2e md ops rest (listed.setIfInBounds i true))
 | (i,false)::rest,listed=>(Region.ready md ops listed==[i])&&z2e md ops rest (listed.setIfInBounds i true)
theorem z52 (hQ:∀t v c a w,Q (.panic c) (Act.put a (some t) v) w→Q (.panic c) a w):∀d v c a w,Q (.panic c) (Act.put a d v) w→Q (.panic c) a w
 | none,_,_,_,_,h=>h
 | some t,v,c,a,w,h=>hQ t v c a w h
theorem z25 (hs:Region.noSelect ops=true)(hQ:∀t v c a w,Q (.panic c) (Act.put a (some t) v) w→Q (.panic c) a w):
  ∀(sc:List (Nat×Bool)) (fuel:Nat) (listed:Array Bool) (a:Act) (w:World),sc.length≤fuel→z2e md ops sc listed=true→wpGr P ops Q sc a w→wpAnyH P md ops Q (Ext w) fuel listed a w
 | [],fuel,listed,a,w,_,hc,h=>wpAnyH_done (by simpa [z2e] using hc) h fuel
 | (i,true)::rest,0,_,_,_,hl,_,_=>by simp at hl
 | (i,false)::rest,0,_,_,_,hl,_,_=>by simp at hl
 | (i,true)::rest,fuel+1,listed,a,w,hl,hc,h=>by
  obtain⟨o,v,ho,hy,hr⟩:=h;simp only[z2e,Bool.and_eq_true] at hc;exact wpAnyH_take ho hs hc.1 hc.2.1 (fun c a w=>z52 hQ _ _ c a w) hy (Ext.refl w) (z25 hs hQ rest fuel _ _ w (by simpa using hl) hc.2.2 hr)
 | (i,false)::rest,fuel+1,listed,a,w,hl,hc,h=>by
  obtain⟨o,ho,hr⟩:=h;simp only[z2e,Bool.and_eq_true,beq_iff_eq] at hc;refine wpAnyH_all hc.1 (by simp) (fun j hj=> ?_);obtain rfl:=List.mem_singleton.1 hj;unfold wpOp;simp only[ho]
  by_cases hw:Region.wanted o (yielded ops a.tmps)=true
  ·rw[if_pos hw] at hr⊢
   refine .inl (Oper.wp_mono (fun a' w' h'=>⟨h'.1,?_⟩) hr);exact z2d (fun w'' hx=>h'.1.trans hx) _ _ _ _ (z25 hs hQ rest fuel _ a' w' (by simpa using hl) hc.2 h'.2)
  ·rw[if_neg hw] at hr⊢
   exact⟨Ext.refl w,z25 hs hQ rest fuel _ _ w (by simpa using hl) hc.2 hr⟩
theorem z0n (sc:List (Nat×Bool)){id:Nat}{a:Act}{w:World}(hm:P.follows .mixedOrders=true)(hs:Region.noSelect ops=true)(hlen:decide (sc.length≤ops.size)=true)
  (hc:z2e .any ops sc (Array.replicate ops.size false)=true) (hQ:∀t v c a w,Q (.panic c) (Act.put a (some t) v) w→Q (.panic c) a w)
  (h:wpGr P ops Q sc a w.drew):(Code.region id ops true).wp P Q a w:=
 wp_region_held hm (z25 hs hQ sc _ _ a w.drew (of_decide_eq_true hlen) hc h)
theorem rgr (sc:List (Nat×Bool)){id:Nat}{a:Act}{w:World}(hm:P.follows .mixedOrders=true:=by kernel_rfl)(hs:Region.noSelect ops=true:=by kernel_rfl)(hlen:decide (sc.length≤ops.size)=true:=by kernel_rfl)
  (hc:z2e .any ops sc (Array.replicate ops.size false)=true:=by kernel_rfl) (hQ:∀t v c a w,Q (.panic c) (Act.put a (some t) v) w→Q (.panic c) a w:=by exact fun _ _ _ _ _ h=>h)
  (h:wpGr P ops Q sc a w.drew):(Code.region id ops true).wp P Q a w:=z0n sc hm hs hlen hc hQ h
theorem z07 {a:Act}{w:World}(h:Q .normal a w):wpGr P ops Q [] a w:=h
theorem z53 {i:Nat}{rest:List (Nat×Bool)}{o:Oper}{a:Act}{w:World}(ho:ops[i]? =some o)(hw:Region.wanted o (yielded ops a.tmps)=false)
  (h:wpGr P ops Q rest (a.put o.dst undef) w):wpGr P ops Q ((i,true)::rest) a w:=⟨o,undef,ho,.inr ⟨hw,rfl⟩,h⟩
theorem x1h {i:Nat}{rest:List (Nat×Bool)}{o:Oper}{v:Value}{a:Act}{w:World}(ho:ops[i]? =some o)(hw:Region.wanted o (yielded ops a.tmps)=true)
  (hy:∀w',Ext w w'→(execOp a.eval o).run P w'=.ok (.value v) w') (h:wpGr P ops Q rest (a.put o.dst v) w):wpGr P ops Q ((i,true)::rest) a w:=⟨o,v,ho,.inl ⟨hw,hy⟩,h⟩
theorem x1i {i:Nat}{rest:List (Nat×Bool)}{o:Oper}{a:Act}{w:World}(ho:ops[i]? =some o)(hw:Region.wanted o (yielded ops a.tmps)=true)
  (h:∀K:Act→World→Prop,(∀a' w',Ext w w'→wpGr P ops Q rest a' w'→K a' w')→Oper.wp P o a w K Q):wpGr P ops Q ((i,false)::rest) a w:=
 ⟨o,ho,by rw[if_pos hw];exact h _ fun _ _ h1 h2=>⟨h1,h2⟩⟩
theorem grr {i:Nat}{rest:List (Nat×Bool)}{d:_}{op:_}{ty:_}{ps:_}{af:_}{gd:_}{v:Value}{a:Act}{w:World}(ho:ops[i]? =some (⟨d,op,ty,ps,af,gd⟩:Oper))(hw:Region.wanted (⟨d,op,ty,ps,af,gd⟩:Oper) (yielded ops a.tmps)=true)
  (hy:∀w',Ext w w'→(execOp a.eval (⟨d,op,ty,ps,af,gd⟩:Oper)).run P w'=.ok (.value v) w') (h:wpGr P ops Q rest (a.put d v) w):wpGr P ops Q ((i,true)::rest) a w:=x1h ho hw hy h
theorem grc {i:Nat}{rest:List (Nat×Bool)}{d:_}{op:_}{ty:_}{ps:_}{af:_}{gd:_}{a:Act}{w:World}(ho:ops[i]? =some (⟨d,op,ty,ps,af,gd⟩:Oper))(hw:Region.wanted (⟨d,op,ty,ps,af,gd⟩:Oper) (yielded ops a.tmps)=true)
  (h:∀K:Act→World→Prop,(∀a' w',Ext w w'→wpGr P ops Q rest a' w'→K a' w')→Oper.wp P (⟨d,op,ty,ps,af,gd⟩:Oper) a w K Q):wpGr P ops Q ((i,false)::rest) a w:=x1i ho hw h
end
end Go.Proofs.YtdnfhjfbanhhcaaGreatDoor
namespace Go.Proofs.YtdnfhjfbanhhcaaGreatDoor
open Go
def blt (a b:ByteArray):Bool:=Op.bytesLess a.toList b.toList
abbrev bl (s:ByteArray):List UInt8:=s.data.toList
theorem x1j (a b:ByteArray):blt a b=decide (bl a<bl b):=by
 unfold blt;rw[bytesLess_eq,Lib.toList_data,Lib.toList_data]
theorem z4h (a b:ByteArray):blt a b=true↔bl a<bl b:=by rw[x1j];simp
theorem z5m (a b:ByteArray):blt a b=false↔¬bl a<bl b:=by rw[x1j];simp
theorem y7w {a b:ByteArray}(h:bl a=bl b):a=b:=by
 obtain⟨⟨x⟩⟩:=a;obtain⟨⟨y⟩⟩:=b;simp at h;rw[h]
theorem x1k (a b:ByteArray):(Op.bytesLess a.toList b.toList||a.toList==b.toList)= !blt b a:=by
 rw[x1j,bytesLess_eq,Lib.toList_data,Lib.toList_data,Bool.eq_iff_iff];simp;constructor
 ·rintro(h|h)<;>grind
 ·intro h
  by_cases h2:a.data.toList<b.data.toList
  ·exact .inl h2
  ·right
   have:a.data.toList=b.data.toList:=by grind
   exact(congrArg ByteArray.data (y7w this):_)
structure Sp where
 lo:ByteArray
 hi:ByteArray
 op:Bool
def Sp.v (s:Sp):Value:=.agg #[.string s.lo,.string s.hi,.bool s.op]
def hasS (s:Sp)(k:ByteArray):Bool:= !blt k s.lo&&(s.op||blt k s.hi)
def okK (k:ByteArray):Bool:=decide (1≤k.size∧k.size≤40)
end Go.Proofs.YtdnfhjfbanhhcaaGreatDoor
namespace Go.Proofs.YtdnfhjfbanhhcaaGreatDoor
open Go Go.RowKit
section
variable {F:Nat→Prop} {P:Program} {ops:Array Oper} {Q:Exit→Act→World→Prop} {md:Region.Mode}
def wpGt (F:Nat→Prop)(P:Program)(ops:Array Oper)(Q:Exit→Act→World→Prop):List (Nat×Bool)→Act→World→Prop
 | [],a,w=>Q .normal a w
 | (i,true)::rest,a,w=>∃o v,ops[i]? =some o∧YieldsIf P ops (Turn F w) o v a∧wpGt F P ops Q rest (a.put o.dst v) w
 | (i,false)::rest,a,w=>∃o,ops[i]? =some o∧(if Region.wanted o (yielded ops a.tmps)=true then Oper.wp P o a w (fun a' w'=>Turn F w w'∧wpGt F P ops Q rest a' w') Q else wpGt F P ops Q rest (a.put o.dst undef) w)
theorem z26 (hs:Region.noSelect ops=true)(hQ:∀t v c a w,Q (.panic c) (Act.put a (some t) v) w→Q (.panic c) a w):
  ∀(sc:List (Nat×Bool)) (fuel:Nat) (listed:Array Bool) (a:Act) (w:World),sc.length≤fuel→z2e md ops sc listed=true→wpGt F P ops Q sc a w→wpAnyH P md ops Q (Turn F w) fuel listed a w
 | [],fuel,listed,a,w,_,hc,h=>wpAnyH_done (by simpa [z2e] using hc) h fuel
 | (i,true)::rest,0,_,_,_,hl,_,_=>by simp at hl
 | (i,false)::rest,0,_,_,_,hl,_,_=>by simp at hl
 | (i,true)::rest,fuel+1,listed,a,w,hl,hc,h=>by
  obtain⟨o,v,ho,hy,hr⟩:=h;simp only[z2e,Bool.and_eq_true] at hc;exact wpAnyH_take ho hs hc.1 hc.2.1 (fun c a w=>z52 hQ _ _ c a w) hy (Turn.refl F w) (z26 hs hQ rest fuel _ _ w (by simpa using hl) hc.2.2 hr)
 | (i,false)::rest,fuel+1,listed,a,w,hl,hc,h=>by
  obtain⟨o,ho,hr⟩:=h;simp only[z2e,Bool.and_eq_true,beq_iff_eq] at hc;refine wpAnyH_all hc.1 (by simp) (fun j hj=> ?_);obtain rfl:=List.mem_singleton.1 hj;unfold wpOp;simp only[ho]
  by_cases hw:Region.wanted o (yielded ops a.tmps)=true
  ·rw[if_pos hw] at hr⊢
   refine .inl (Oper.wp_mono (fun a' w' h'=>⟨h'.1,?_⟩) hr);exact z2d (fun w'' hx=>h'.1.trans hx) _ _ _ _ (z26 hs hQ rest fuel _ a' w' (by simpa using hl) hc.2 h'.2)
  ·rw[if_neg hw] at hr⊢
   exact⟨Turn.refl F w,z26 hs hQ rest fuel _ _ w (by simpa using hl) hc.2 hr⟩
theorem z0k (sc:List (Nat×Bool)){id:Nat}{a:Act}{w:World}(hm:P.follows .mixedOrders=true)(hs:Region.noSelect ops=true)(hlen:decide (sc.length≤ops.size)=true)
  (hc:z2e .any ops sc (Array.replicate ops.size false)=true) (hQ:∀t v c a w,Q (.panic c) (Act.put a (some t) v) w→Q (.panic c) a w)
  (h:wpGt F P ops Q sc a w.drew):(Code.region id ops true).wp P Q a w:=
 wp_region_held hm (z26 hs hQ sc _ _ a w.drew (of_decide_eq_true hlen) hc h)
theorem rgt (sc:List (Nat×Bool)){id:Nat}{a:Act}{w:World}(hm:P.follows .mixedOrders=true:=by kernel_rfl)(hs:Region.noSelect ops=true:=by kernel_rfl)(hlen:decide (sc.length≤ops.size)=true:=by kernel_rfl)
  (hc:z2e .any ops sc (Array.replicate ops.size false)=true:=by kernel_rfl) (hQ:∀t v c a w,Q (.panic c) (Act.put a (some t) v) w→Q (.panic c) a w:=by exact fun _ _ _ _ _ h=>h)
  (h:wpGt F P ops Q sc a w.drew):(Code.region id ops true).wp P Q a w:=z0k sc hm hs hlen hc hQ h
theorem z0z {a:Act}{w:World}(h:Q .normal a w):wpGt F P ops Q [] a w:=h
theorem x1l {i:Nat}{rest:List (Nat×Bool)}{o:Oper}{v:Value}{a:Act}{w:World}(ho:ops[i]? =some o)(hw:Region.wanted o (yielded ops a.tmps)=true)
  (hy:∀w',Turn F w w'→(execOp a.eval o).run P w'=.ok (.value v) w') (h:wpGt F P ops Q rest (a.put o.dst v) w):wpGt F P ops Q ((i,true)::rest) a w:=⟨o,v,ho,.inl ⟨hw,hy⟩,h⟩
theorem x1m {i:Nat}{rest:List (Nat×Bool)}{o:Oper}{a:Act}{w:World}(ho:ops[i]? =some o)(hw:Region.wanted o (yielded ops a.tmps)=true)
  (h:∀K:Act→World→Prop,(∀a' w',Turn F w w'→wpGt F P ops Q rest a' w'→K a' w')→Oper.wp P o a w K Q):wpGt F P ops Q ((i,false)::rest) a w:=
 ⟨o,ho,by rw[if_pos hw];exact h _ fun _ _ h1 h2=>⟨h1,h2⟩⟩
theorem gtr {i:Nat}{rest:List (Nat×Bool)}{d:_}{op:_}{ty:_}{ps:_}{af:_}{gd:_}{v:Value}{a:Act}{w:World}(ho:ops[i]? =some (⟨d,op,ty,ps,af,gd⟩:Oper))(hw:Region.wanted (⟨d,op,ty,ps,af,gd⟩:Oper) (yielded ops a.tmps)=true)
  (hy:∀w',Turn F w w'→(execOp a.eval (⟨d,op,ty,ps,af,gd⟩:Oper)).run P w'=.ok (.value v) w') (h:wpGt F P ops Q rest (a.put d v) w):wpGt F P ops Q ((i,true)::rest) a w:=x1l ho hw hy h
theorem gtc {i:Nat}{rest:List (Nat×Bool)}{d:_}{op:_}{ty:_}{ps:_}{af:_}{gd:_}{a:Act}{w:World}(ho:ops[i]? =some (⟨d,op,ty,ps,af,gd⟩:Oper))(hw:Region.wanted (⟨d,op,ty,ps,af,gd⟩:Oper) (yielded ops a.tmps)=true)
  (h:∀K:Act→World→Prop,(∀a' w',Turn F w w'→wpGt F P ops Q rest a' w'→K a' w')→Oper.wp P (⟨d,op,ty,ps,af,gd⟩:Oper) a w K Q):wpGt F P ops Q ((i,false)::rest) a w:=x1m ho hw h
end
inductive Sch where
 | done
 | rd (i:Nat) (r:Sch)
 | call (i:Nat) (r:Sch)
 | two (i:Nat) (r:Sch) (j:Nat) (s:Sch)
 | three (i:Nat) (r:Sch) (j:Nat) (s:Sch) (k:Nat) (t:Sch)
def Sch.len:Sch→Nat
 | .done=>0
 | .rd _ r=>r.len+1
 | .call _ r=>r.len+1
 | .two _ r _ s=>max r.len s.len+1
 | .three _ r _ s _ t=>max r.len (max s.len t.len)+1
section
variable {F:Nat→Prop} {P:Program} {ops:Array Oper} {Q:Exit→Act→World→Prop} {md:Region.Mode}
def y1m (F:Nat→Prop)(P:Program)(ops:Array Oper)(Q:Exit→Act→World→Prop)(i:Nat)(K:Act→World→Prop)(a:Act)(w:World):Prop:=
 ∃o,ops[i]? =some o∧(if Region.wanted o (yielded ops a.tmps)=true then Oper.wp P o a w (fun a' w'=>Turn F w w'∧K a' w') Q else K (a.put o.dst undef) w)
def wpGs (F:Nat→Prop)(P:Program)(ops:Array Oper)(Q:Exit→Act→World→Prop):Sch→Act→World→Prop
 | .done,a,w=>Q .normal a w
 | .rd i r,a,w=>∃o v,ops[i]? =some o∧YieldsIf P ops (Turn F w) o v a∧wpGs F P ops Q r (a.put o.dst v) w
 | .call i r,a,w=>y1m F P ops Q i (wpGs F P ops Q r) a w
 | .two i r j s,a,w=>y1m F P ops Q i (wpGs F P ops Q r) a w∧y1m F P ops Q j (wpGs F P ops Q s) a w
 | .three i r j s k t,a,w=>y1m F P ops Q i (wpGs F P ops Q r) a w∧y1m F P ops Q j (wpGs F P ops Q s) a w∧y1m F P ops Q k (wpGs F P ops Q t) a w
def z05 (md:Region.Mode)(ops:Array Oper):Sch→Array Bool→Bool
 | .done,listed=>(Region.ready md ops listed).isEmpty
 | .rd i r,listed=>Region.free md ops listed i&&((Region.ready md ops listed).contains i&&z05 md ops r (listed.setIfInBounds i true))
 | .call i r,listed=>(Region.ready md ops listed==[i])&&z05 md ops r (listed.setIfInBounds i true)
 | .two i r j s,listed=>(Region.ready md ops listed==[i,j])&&(z05 md ops r (listed.setIfInBounds i true)&&z05 md ops s (listed.setIfInBounds j true))
 | .three i r j s k t,listed=>(Region.ready md ops listed==[i,j,k])&&(z05 md ops r (listed.setIfInBounds i true)&&(z05 md ops s (listed.setIfInBounds j true)&&z05 md ops t (listed.setIfInBounds k true)))
theorem z19 {fuel i:Nat}{listed:Array Bool}{a:Act}{w:World}{K:Act→World→Prop}(h:y1m F P ops Q i K a w)
  (ih:∀a' w',K a' w'→wpAnyH P md ops Q (Turn F w') fuel listed a' w'):wpOp P ops Q i (fun a' w'=>Turn F w w'∧wpAnyH P md ops Q (Turn F w) fuel listed a' w') a w:=by
 obtain⟨o,ho,hr⟩:=h;unfold wpOp;simp only[ho]
 by_cases hw:Region.wanted o (yielded ops a.tmps)=true
 ·rw[if_pos hw] at hr⊢
  refine .inl (Oper.wp_mono (fun a' w' h'=>⟨h'.1,?_⟩) hr);exact z2d (fun w'' hx=>h'.1.trans hx) _ _ _ _ (ih a' w' h'.2)
 ·rw[if_neg hw] at hr⊢
  exact⟨Turn.refl F w,ih _ w hr⟩
theorem z1n (hs:Region.noSelect ops=true)(hQ:∀t v c a w,Q (.panic c) (Act.put a (some t) v) w→Q (.panic c) a w):
  ∀(sc:Sch) (fuel:Nat) (listed:Array Bool) (a:Act) (w:World),sc.len≤fuel→z05 md ops sc listed=true→wpGs F P ops Q sc a w→wpAnyH P md ops Q (Turn F w) fuel listed a w
 | .done,fuel,listed,a,w,_,hc,h=>wpAnyH_done (by simpa [z05] using hc) h fuel
 | .rd i r,0,_,_,_,hl,_,_=>by simp[Sch.len] at hl
 | .call i r,0,_,_,_,hl,_,_=>by simp[Sch.len] at hl
 | .two i r j s,0,_,_,_,hl,_,_=>by simp[Sch.len] at hl
 | .three i r j s k t,0,_,_,_,hl,_,_=>by simp[Sch.len] at hl
 | .rd i r,fuel+1,listed,a,w,hl,hc,h=>by
  obtain⟨o,v,ho,hy,hr⟩:=h;simp only[z05,Bool.and_eq_true] at hc;exact wpAnyH_take ho hs hc.1 hc.2.1 (fun c a w=>z52 hQ _ _ c a w) hy (Turn.refl F w) (z1n hs hQ r fuel _ _ w (by simpa [Sch.len] using hl) hc.2.2 hr)
 | .call i r,fuel+1,listed,a,w,hl,hc,h=>by
  simp only[z05,Bool.and_eq_true,beq_iff_eq] at hc;refine wpAnyH_all hc.1 (by simp) (fun j hj=> ?_);obtain rfl:=List.mem_singleton.1 hj;exact z19 h (fun a' w'=>z1n hs hQ r fuel _ a' w' (by simpa [Sch.len] using hl) hc.2)
 | .two i r j s,fuel+1,listed,a,w,hl,hc,h=>by
  simp only[z05,Bool.and_eq_true,beq_iff_eq] at hc;have hl':max r.len s.len≤fuel:=by simpa [Sch.len] using hl
  refine wpAnyH_all hc.1 (by simp) (fun x hx=> ?_);simp only[List.mem_cons,List.not_mem_nil,or_false] at hx
  rcases hx with rfl|rfl
  ·exact z19 h.1 (fun a' w'=>z1n hs hQ r fuel _ a' w' (by omega) hc.2.1)
  ·exact z19 h.2 (fun a' w'=>z1n hs hQ s fuel _ a' w' (by omega) hc.2.2)
 | .three i r j s k t,fuel+1,listed,a,w,hl,hc,h=>by
  simp only[z05,Bool.and_eq_true,beq_iff_eq] at hc;have hl':max r.len (max s.len t.len)≤fuel:=by simpa [Sch.len] using hl
  refine wpAnyH_all hc.1 (by simp) (fun x hx=> ?_);simp only[List.mem_cons,List.not_mem_nil,or_false] at hx
  rcases hx with rfl|rfl|rfl
  ·exact z19 h.1 (fun a' w'=>z1n hs hQ r fuel _ a' w' (by omega) hc.2.1)
  ·exact z19 h.2.1 (fun a' w'=>z1n hs hQ s fuel _ a' w' (by omega) hc.2.2.1)
  ·exact z19 h.2.2 (fun a' w'=>z1n hs hQ t fuel _ a' w' (by omega) hc.2.2.2)
theorem z0l (sc:Sch){id:Nat}{a:Act}{w:World}(hm:P.follows .mixedOrders=true)(hs:Region.noSelect ops=true)(hlen:decide (sc.len≤ops.size)=true)
  (hc:z05 .any ops sc (Array.replicate ops.size false)=true) (hQ:∀t v c a w,Q (.panic c) (Act.put a (some t) v) w→Q (.panic c) a w)
  (h:wpGs F P ops Q sc a w.drew):(Code.region id ops true).wp P Q a w:=
 wp_region_held hm (z1n hs hQ sc _ _ a w.drew (of_decide_eq_true hlen) hc h)
theorem rgs (sc:Sch){id:Nat}{a:Act}{w:World}(hm:P.follows .mixedOrders=true:=by kernel_rfl)(hs:Region.noSelect ops=true:=by kernel_rfl)(hlen:decide (sc.len≤ops.size)=true:=by kernel_rfl)
  (hc:z05 .any ops sc (Array.replicate ops.size false)=true:=by kernel_rfl) (hQ:∀t v c a w,Q (.panic c) (Act.put a (some t) v) w→Q (.panic c) a w:=by exact fun _ _ _ _ _ h=>h)
  (h:wpGs F P ops Q sc a w.drew):(Code.region id ops true).wp P Q a w:=z0l sc hm hs hlen hc hQ h
theorem z0a {a:Act}{w:World}(h:Q .normal a w):wpGs F P ops Q .done a w:=h
theorem x1n {i:Nat}{rest:Sch}{o:Oper}{v:Value}{a:Act}{w:World}(ho:ops[i]? =some o)(hw:Region.wanted o (yielded ops a.tmps)=true)
  (hy:∀w',Turn F w w'→(execOp a.eval o).run P w'=.ok (.value v) w') (h:wpGs F P ops Q rest (a.put o.dst v) w):wpGs F P ops Q (.rd i rest) a w:=⟨o,v,ho,.inl ⟨hw,hy⟩,h⟩
theorem y91 {K:Act→World→Prop}{i:Nat}{o:Oper}{a:Act}{w:World}(ho:ops[i]? =some o)(hw:Region.wanted o (yielded ops a.tmps)=true)
  (h:∀K':Act→World→Prop,(∀a' w',Turn F w w'→K a' w'→K' a' w')→Oper.wp P o a w K' Q):y1m F P ops Q i K a w:=
 ⟨o,ho,by rw[if_pos hw];exact h _ fun _ _ h1 h2=>⟨h1,h2⟩⟩
theorem gsr {i:Nat}{rest:Sch}{d:_}{op:_}{ty:_}{ps:_}{af:_}{gd:_}{v:Value}{a:Act}{w:World}(ho:ops[i]? =some (⟨d,op,ty,ps,af,gd⟩:Oper))(hw:Region.wanted (⟨d,op,ty,ps,af,gd⟩:Oper) (yielded ops a.tmps)=true)
  (hy:∀w',Turn F w w'→(execOp a.eval (⟨d,op,ty,ps,af,gd⟩:Oper)).run P w'=.ok (.value v) w') (h:wpGs F P ops Q rest (a.put d v) w):wpGs F P ops Q (.rd i rest) a w:=x1n ho hw hy h
theorem gsc {K:Act→World→Prop}{i:Nat}{d:_}{op:_}{ty:_}{ps:_}{af:_}{gd:_}{a:Act}{w:World}(ho:ops[i]? =some (⟨d,op,ty,ps,af,gd⟩:Oper))(hw:Region.wanted (⟨d,op,ty,ps,af,gd⟩:Oper) (yielded ops a.tmps)=true)
  (h:∀K':Act→World→Prop,(∀a' w',Turn F w w'→K a' w'→K' a' w')→Oper.wp P (⟨d,op,ty,ps,af,gd⟩:Oper) a w K' Q):y1m F P ops Q i K a w:=y91 ho hw h
end
section
variable {P:Program} {ops:Array Oper} {Q:Exit→Act→World→Prop} {md:Region.Mode}
def y3i (P:Program)(ops:Array Oper)(Q:Exit→Act→World→Prop)(F:Nat→Prop)(i:Nat)(K:(Nat→Prop)→Act→World→Prop)(a:Act)(w:World):Prop:=
 ∃o,ops[i]? =some o∧(if Region.wanted o (yielded ops a.tmps)=true then Oper.wp P o a w (fun a' w'=>Turn F w w'∧∃F':Nat→Prop,(∀j,F' j→j<w.heap.size→F j)∧K F' a' w') Q else K F (a.put o.dst undef) w)
def wpGx (P:Program)(ops:Array Oper)(Q:Exit→Act→World→Prop):Sch→(Nat→Prop)→Act→World→Prop
 | .done,_,a,w=>Q .normal a w
 | .rd i r,F,a,w=>∃o v,ops[i]? =some o∧YieldsIf P ops (Turn F w) o v a∧wpGx P ops Q r F (a.put o.dst v) w
 | .call i r,F,a,w=>y3i P ops Q F i (wpGx P ops Q r) a w
 | .two i r j s,F,a,w=>y3i P ops Q F i (wpGx P ops Q r) a w∧y3i P ops Q F j (wpGx P ops Q s) a w
 | .three i r j s k t,F,a,w=>y3i P ops Q F i (wpGx P ops Q r) a w∧y3i P ops Q F j (wpGx P ops Q s) a w∧y3i P ops Q F k (wpGx P ops Q t) a w
theorem z1w {F:Nat→Prop}{fuel i:Nat}{listed:Array Bool}{a:Act}{w:World}{K:(Nat→Prop)→Act→World→Prop}(h:y3i P ops Q F i K a w)
  (ih:∀F' a' w',K F' a' w'→wpAnyH P md ops Q (Turn F' w') fuel listed a' w'):wpOp P ops Q i (fun a' w'=>Turn F w w'∧wpAnyH P md ops Q (Turn F w) fuel listed a' w') a w:=by
 obtain⟨o,ho,hr⟩:=h;unfold wpOp;simp only[ho]
 by_cases hw:Region.wanted o (yielded ops a.tmps)=true
 ·rw[if_pos hw] at hr⊢
  refine .inl (Oper.wp_mono (fun a' w' h'=>⟨h'.1,?_⟩) hr);obtain⟨ht,F',hF,hk⟩:=h';exact z2d (fun w'' hx=>ht.step hx hF) _ _ _ _ (ih F' a' w' hk)
 ·rw[if_neg hw] at hr⊢
  exact⟨Turn.refl F w,ih _ _ w hr⟩
theorem z1o (hs:Region.noSelect ops=true)(hQ:∀t v c a w,Q (.panic c) (Act.put a (some t) v) w→Q (.panic c) a w):
  ∀(sc:Sch) (F:Nat→Prop) (fuel:Nat) (listed:Array Bool) (a:Act) (w:World),sc.len≤fuel→z05 md ops sc listed=true→wpGx P ops Q sc F a w→wpAnyH P md ops Q (Turn F w) fuel listed a w
 | .done,F,fuel,listed,a,w,_,hc,h=>wpAnyH_done (by simpa [z05] using hc) h fuel
 | .rd i r,_,0,_,_,_,hl,_,_=>by simp[Sch.len] at hl
 | .call i r,_,0,_,_,_,hl,_,_=>by simp[Sch.len] at hl
 | .two i r j s,_,0,_,_,_,hl,_,_=>by simp[Sch.len] at hl
 | .three i r j s k t,_,0,_,_,_,hl,_,_=>by simp[Sch.len] at hl
 | .rd i r,F,fuel+1,listed,a,w,hl,hc,h=>by
  obtain⟨o,v,ho,hy,hr⟩:=h;simp only[z05,Bool.and_eq_true] at hc;exact wpAnyH_take ho hs hc.1 hc.2.1 (fun c a w=>z52 hQ _ _ c a w) hy (Turn.refl F w) (z1o hs hQ r F fuel _ _ w (by simpa [Sch.len] using hl) hc.2.2 hr)
 | .call i r,F,fuel+1,listed,a,w,hl,hc,h=>by
  simp only[z05,Bool.and_eq_true,beq_iff_eq] at hc;refine wpAnyH_all hc.1 (by simp) (fun j hj=> ?_);obtain rfl:=List.mem_singleton.1 hj;exact z1w h (fun F' a' w'=>z1o hs hQ r F' fuel _ a' w' (by simpa [Sch.len] using hl) hc.2)
 | .two i r j s,F,fuel+1,listed,a,w,hl,hc,h=>by
  simp only[z05,Bool.and_eq_true,beq_iff_eq] at hc;have hl':max r.len s.len≤fuel:=by simpa [Sch.len] using hl
  refine wpAnyH_all hc.1 (by simp) (fun x hx=> ?_);simp only[List.mem_cons,List.not_mem_nil,or_false] at hx
  rcases hx with rfl|rfl
  ·exact z1w h.1 (fun F' a' w'=>z1o hs hQ r F' fuel _ a' w' (by omega) hc.2.1)
  ·exact z1w h.2 (fun F' a' w'=>z1o hs hQ s F' fuel _ a' w' (by omega) hc.2.2)
 | .three i r j s k t,F,fuel+1,listed,a,w,hl,hc,h=>by
  simp only[z05,Bool.and_eq_true,beq_iff_eq] at hc;have hl':max r.len (max s.len t.len)≤fuel:=by simpa [Sch.len] using hl
  refine wpAnyH_all hc.1 (by simp) (fun x hx=> ?_);simp only[List.mem_cons,List.not_mem_nil,or_false] at hx
  rcases hx with rfl|rfl|rfl
  ·exact z1w h.1 (fun F' a' w'=>z1o hs hQ r F' fuel _ a' w' (by omega) hc.2.1)
  ·exact z1w h.2.1 (fun F' a' w'=>z1o hs hQ s F' fuel _ a' w' (by omega) hc.2.2.1)
  ·exact z1w h.2.2 (fun F' a' w'=>z1o hs hQ t F' fuel _ a' w' (by omega) hc.2.2.2)
theorem z4i (F:Nat→Prop)(sc:Sch){id:Nat}{a:Act}{w:World}(hm:P.follows .mixedOrders=true)(hs:Region.noSelect ops=true)(hlen:decide (sc.len≤ops.size)=true)
  (hc:z05 .any ops sc (Array.replicate ops.size false)=true) (hQ:∀t v c a w,Q (.panic c) (Act.put a (some t) v) w→Q (.panic c) a w)
  (h:wpGx P ops Q sc F a w.drew):(Code.region id ops true).wp P Q a w:=
 wp_region_held hm (z1o hs hQ sc F _ _ a w.drew (of_decide_eq_true hlen) hc h)
variable {F:Nat→Prop}
theorem z4j {a:Act}{w:World}(h:Q .normal a w):wpGx P ops Q .done F a w:=h
theorem z11 {i:Nat}{rest:Sch}{o:Oper}{v:Value}{a:Act}{w:World}(ho:ops[i]? =some o)(hw:Region.wanted o (yielded ops a.tmps)=true)
  (hy:∀w',Turn F w w'→(execOp a.eval o).run P w'=.ok (.value v) w') (h:wpGx P ops Q rest F (a.put o.dst v) w):wpGx P ops Q (.rd i rest) F a w:=⟨o,v,ho,.inl ⟨hw,hy⟩,h⟩
theorem z0d {K:(Nat→Prop)→Act→World→Prop}{i:Nat}{o:Oper}{a:Act}{w:World}(ho:ops[i]? =some o)(hw:Region.wanted o (yielded ops a.tmps)=true)
  (h:∀K':Act→World→Prop,(∀F':Nat→Prop,(∀j,F' j→j<w.heap.size→F j)→∀a' w',Turn F w w'→K F' a' w'→K' a' w')→Oper.wp P o a w K' Q):y3i P ops Q F i K a w:=
 ⟨o,ho,by rw[if_pos hw];exact h _ fun F' hF _ _ h1 h2=>⟨h1,F',hF,h2⟩⟩
end
end Go.Proofs.YtdnfhjfbanhhcaaGreatDoor
