/-
  Steps.
-/
import Derived.Test.YtdgladhfibfdlaaGreatDoorQPSs00
import Derived.Test.YtdgladhfibfdlaaGreatDoorProg
import Derived.WalkKit
import Derived.Below
import Derived.OwnWalk
import Derived.Laws.AppendOwnNone
import Derived.Laws.ResultCell
import Derived.OrdersHeld
import Derived.Deep.RegionHeld
import Derived.Sort.Walk0
import Derived.Lib.MinMaxS
import Derived.LaidEql
import Derived.Stop.Asserts
import Derived.RowKitTokens
namespace Go.Proofs.YtdgladhfibfdlaaGreatDoor
open Go Go.RowKit Tryz
theorem KC:(prog.info? 5).map (fun i=>(i.zero,i.size,i.bytes))=some (some (.int .u8 0),1,1):=by kernel_rfl
theorem I4:(prog.info? 5).map (·.size)=some 1:=by kernel_rfl
structure Zx (F:Nat→Prop) (w w':World):Prop where
 os:w'.os=w.os
 tape:w'.tape=w.tape
 output:w'.output=w.output
 size:w.heap.size≤w'.heap.size
 block:∀i,i<w.heap.size→¬F i→w'.heap[i]? =w.heap[i]?
theorem Zx.refl (F:Nat→Prop)(w:World):Zx F w w:=⟨rfl,rfl,rfl,zlr _,fun _ _ _=>rfl⟩
theorem Zx.step {F G:Nat→Prop}{a b c:World}(h:Zx F a b)(k:Zx G b c)(hs:∀i,G i→i<a.heap.size→F i):Zx F a c:=
 ⟨k.os.trans h.os,k.tape.trans h.tape,k.output.trans h.output,znt h.size k.size,fun i hi hF=>
  (k.block i (Nat.lt_of_lt_of_le hi h.size) (fun hg=>hF (hs i hg hi))).trans (h.block i hi hF)⟩
theorem Zx.trans {F:Nat→Prop}{a b c:World}(h:Zx F a b)(k:Zx F b c):Zx F a c:=h.step k (fun _ hg _=>hg)
theorem Zx.mono {F G:Nat→Prop}{a b:World}(h:Zx F a b)(hs:∀i,F i→i<a.heap.size→G i):Zx G a b:=
 ⟨h.os,h.tape,h.output,h.size,fun i hi hG=>h.block i hi (fun hf=>hG (hs i hf hi))⟩
theorem x3x {F:Nat→Prop}{a b:World}(h:zB a b):Zx F a b:=⟨h.os,h.tape,h.output,h.size,fun i hi _=>h.block i hi⟩
theorem Zx.below {F:Nat→Prop}{a b:World}(h:Zx F a b){B:Nat}(hB:B≤a.heap.size)(hF:∀i,F i→B≤i):Below B a b:=
 ⟨h.os,h.tape,h.output,h.size,fun i hi=>h.block i (Nat.lt_of_lt_of_le hi hB) (fun hf=>by have:=hF i hf;omega)⟩
theorem Zx.alloc {F:Nat→Prop}{a b:World}(h:Zx F a b)(o:Obj):Zx F a (b.alloc o):=
 h.step (G:=fun _=>False) (x3x ((zbr _ _).alloc (zlr _) _)) (fun _ hg _=>hg.elim)
theorem Zx.drew {F:Nat→Prop}{a b:World}(h:Zx F a b):Zx F a b.drew:=⟨h.os,h.tape,h.output,h.size,h.block⟩
theorem Zx.setCell {F:Nat→Prop}{a b:World}(h:Zx F a b){p:Addr}(u:Value)(hp:p.block<a.heap.size→F p.block):Zx F a (b.setCell p u):=
 h.step (G:=fun i=>i=p.block) ⟨rfl,rfl,rfl,by simp[World.setCell],fun i _ hne=>Below.heap_setCell _ _ _ _ hne⟩ (fun i hi hl=>by subst hi;exact hp hl)
theorem Zx.grown {F:Nat→Prop}{a b c:World}{row:Option Nat}(h:Zx F a b)(hg:b.grownBy c row)(hr:∀k,row=some k→k<a.heap.size→F k):Zx F a c:=
 h.step (G:=fun i=>row=some i) ⟨hg.os,hg.tape,hg.output,hg.size,fun i hi hne=>hg.block i hi (fun e=>hne e.symm)⟩ hr
theorem Zx.cell {F:Nat→Prop}{a b:World}(h:Zx F a b){p:Addr}(hp:p.block<a.heap.size)(hF:¬F p.block):b.cell? p=a.cell? p:=World.cell?_of_block (w:=a) (h.block p.block hp hF)
theorem Zx.hg {F:Nat→Prop}{a b:World}(h:Zx F a b){k:Nat}{o:Obj}(ho:a.heap[k]? =some o)(hF:¬F k):b.heap[k]? =some o:=
 (h.block k (zag.1 ho).1 hF).trans ho
theorem x3z {w w':World}{b:Nat}(hg:w.grownBy w' (some b)):Zx (fun i=>i=b) w w':=
 ⟨hg.os,hg.tape,hg.output,hg.size,fun i hi hne=>hg.block i hi (fun e=>hne (Option.some.inj e))⟩
end Go.Proofs.YtdgladhfibfdlaaGreatDoor
namespace Go.Proofs.YtdgladhfibfdlaaGreatDoor
open Go.RowKit Tryz
def x20 (w:World)(v v':Value):Prop:=v'.ownBlock=v.ownBlock∨∀k,v'.ownBlock=some k→w.heap.size≤k
section
variable {P:Program} {w:World}
theorem Q3 (base:Nat)(t ty e:TypeId)(i:TypeInfo)(z:Value)(size bytes:Nat)(ht:P.underlying t=some (.slice e))(hi:P.info? e=some i)(hz:i.zero=some z)
  (hsize:i.size=size) (hby:i.bytes=bytes) (hzs:z.cells.size=size) (hsz:0<size)
  (v:Value) (n:Nat) (xs:List Value) (hown:w.ownsRow base e size v n xs)
  (a:Addr) (m c:Nat) (news:List Value) (hl:news.length=m*size) (hnews:∀j u,news[j]? =some u→w.cell? (a.add j)=some u) (h1:∀u∈news,u.oneCell'=true)
  (h63:n+m≤maxLen) (hbytes:(n+m)*bytes≤140737488355328) (hbase:base≤w.heap.size):
  ∃v' w',(Builtin.append_ #[t,t] ty #[v,.slice (some a) m c]).run P w=.ok v' w'∧w'.ownsRow base e size v' (n+m) (xs++news)∧w.grownBy w' v.ownBlock∧x20 w v v':=by
 obtain⟨v',w',hr,h2,h3,h4⟩:=run_append_own (w:=w) base t ty e i z size bytes ht hi hz hsize hby hzs hsz v n xs hown a m c news hl hnews h1 h63 hbytes hbase;refine⟨v',w',hr,h2,h3,?_⟩;subst hsize;subst hby;have hsmall:n+m≤9223372036854775807:=by simp only[maxLen] at h63;omega
 rcases hown.2 with ⟨rfl,rfl⟩|⟨g,cap,cur,rfl,hbg,hg,hnc,hcm,hcs,htake⟩
 ·by_cases hm:m=0
  ·left
   rw[h4.2 ⟨rfl,hm⟩]
  ·have hr2:=run_append_nil (P:=P) w t ty e i z ht hi hz a m c news hl hnews (by omega) (by omega) (by have hb:=hbytes;simp only[Nat.zero_add] at hb;omega);rw[hr] at hr2
   cases hr2
   right
   intro k hk;simp only[Value.ownBlock,Option.some.injEq] at hk;omega
 ·by_cases hroom:n+m≤cap
  ·have hfit:n*i.size+news.length≤cur.size:=by rw[hl,hcs,←Nat.add_mul];exact Nat.mul_le_mul_right _ hroom
   have hr2:=run_append_room (P:=P) w t ty e i ht hi g n cap cur hg a m c news hl hnews h1 hroom hfit;rw[hr] at hr2
   cases hr2
   left
   rfl
  ·have holds:∀j u,xs[j]? =some u→w.cell? ((⟨g,0,none⟩:Addr).add j)=some u:=hown.cells (g:=g) rfl;have hr2:=run_append_grow (P:=P) w t ty e i z ht hi hz ⟨g,0,none⟩ n cap xs hown.1 holds a m c news hl hnews (by omega) (by omega) (growslice_fits (by omega) hbytes);rw[hr] at hr2
   cases hr2
   right
   intro k hk;simp only[Value.ownBlock,Option.some.injEq] at hk;omega
theorem Uz {ops:Array Oper}{rest:List Oper}{o:Oper}{a:Act}{Q:Exit→Act→World→Prop}(hgd:o.guard=none)(s x:Operand)(t:TypeId)
  (ho:o.op=.call {callee:=.builtin .append,args:= #[s,x],argTypes:= #[t,t]})
  (base:Nat) (e:TypeId) (i:TypeInfo) (z:Value) (size bytes:Nat) (ht:P.underlying t=some (.slice e)) (hi:P.info? e=some i) (hz:i.zero=some z)
  (hsize:i.size=size) (hby:i.bytes=bytes) (hzs:z.cells.size=size) (hsz:0<size)
  (v:Value) (n:Nat) (xs:List Value) (hs:a.eval s=v) (hown:w.ownsRow base e size v n xs)
  (ad:Addr) (m c:Nat) (news:List Value) (hx:a.eval x=.slice (some ad) m c) (hl:news.length=m*size) (hnews:∀j u,news[j]? =some u→w.cell? (ad.add j)=some u) (h1:∀u∈news,u.oneCell'=true)
  (h63:n+m≤maxLen) (hbytes:(n+m)*bytes≤140737488355328) (hbase:base≤w.heap.size)
  (h:∀v' w',w'.ownsRow base e size v' (n+m) (xs++news)→w.grownBy w' v.ownBlock→x20 w v v'→wpList P ops Q rest (a.put o.dst v') w'):wpList P ops Q (o::rest) a w:=by
 obtain⟨v',w',hr,h2,h3,h4⟩:=Q3 (P:=P) (w:=w) base t o.type e i z size bytes ht hi hz hsize hby hzs hsz v n xs hown ad m c news hl hnews h1 h63 hbytes hbase;refine wpList_plain hgd fun K hK=> ?_
 unfold Oper.wp;simp[execOp,ho,resolve,invoke,builtin,hs,hx,hr,Result.andThen];exact hK _ _ (h v' w' h2 h3 h4)
end
theorem Y4 {w w':World}{B E sz n B1:Nat}{v:Value}{xs:List Value}(h:w.ownsRow B E sz v n xs)(hb:Below B1 w w')(hB:w.heap.size≤B1):w'.ownsRow B E sz v n xs:=by
 refine⟨h.1,?_⟩
 rcases h.2 with h2|⟨g,cap,cur,hv,hg,hh,r⟩
 ·exact .inl h2
 ·refine .inr ⟨g,cap,cur,hv,hg,?_,r⟩;have hl:g<w.heap.size:=by
   rcases zng g w.heap.size with h1|h1
   ·exact h1
   ·rw[Array.getElem?_eq_none h1] at hh;cases hh
  rw[hb.block g (by omega)];exact hh
end Go.Proofs.YtdgladhfibfdlaaGreatDoor
namespace Go.Proofs.YtdgladhfibfdlaaGreatDoor
open Go Go.RowKit Tryz
theorem x0t {G T:Prop}(k:G)(h:G→T):T:=h k
theorem Yk {fn:Func}{p:Tmp}{ty:TypeId}(h:fn.results= #[.cell p ty])(tmps:Array Value)(P:Program)(w:World):
  (results fn tmps).run P w=((asAddr (tmps.getD p undef)).run P w).andThen fun a w₁=>(loadVar ty a).run P w₁:=by
 simp only[results,h];simp[Sem.run_bind]
section
variable {P:Program} {ops:Array Oper} {Q:Exit→Act→World→Prop} {md:Region.Mode}
def Ext (w w':World):Prop:=zB w w'
theorem Ext.refl (w:World):Ext w w:=zbr _ _
theorem Ext.trans {a b c:World}(h:Ext a b)(k:Ext b c):Ext a c:=Below.trans h (Below.mono k h.size)
theorem Ext.drew (w:World):Ext w w.drew:=(zbr _ w).drew
theorem Sv {S T:World→Prop}(hST:∀w,S w→T w):∀(fuel:Nat) (listed:Array Bool) (a:Act) (w:World),wpAnyH P md ops Q S fuel listed a w→wpAnyH P md ops Q T fuel listed a w
 | 0,_,_,_,h=>h
 | fuel+1,_,_,_,h=>⟨h.1,fun i hi=>wpOp_mono (fun a' w' h'=>⟨hST _ h'.1,Sv hST fuel _ a' w' h'.2⟩) (h.2 i hi)⟩
def KD (P:Program)(ops:Array Oper)(Q:Exit→Act→World→Prop):List (Nat×Bool)→Act→World→Prop
 | [],a,w=>Q .normal a w
 | (i,true)::rest,a,w=>∃o v,ops[i]? =some o∧YieldsIf P ops (Ext w) o v a∧KD P ops Q rest (a.put o.dst v) w
 | (i,false)::rest,a,w=>∃o,ops[i]? =some o∧(if Region.wanted o (yielded ops a.tmps)=true then Oper.wp P o a w (fun a' w'=>Ext w w'∧KD P ops Q rest a' w') Q else KD P ops Q rest (a.put o.dst undef) w)
def Sy (md:Region.Mode)(ops:Array Oper):List (Nat×Bool)→Array Bool→Bool
 | [],listed=>(Region.ready md ops listed).isEmpty
 | (i,true)::rest,listed=>Region.free md ops listed i&&((Region.ready md ops listed).contains i&&Sy md ops rest (listed.setIfInBounds i true))
 | (i,false)::rest,listed=>(Region.ready md ops listed==[i])&&Sy md ops rest (listed.setIfInBounds i true)
theorem I5 (hQ:∀t v c a w,Q (.panic c) (Act.put a (some t) v) w→Q (.panic c) a w):∀d v c a w,Q (.panic c) (Act.put a d v) w→Q (.panic c) a w
 | none,_,_,_,_,h=>h
 | some t,v,c,a,w,h=>hQ t v c a w h
theorem Py (hs:Region.noSelect ops=true)(hQ:∀t v c a w,Q (.panic c) (Act.put a (some t) v) w→Q (.panic c) a w):
  ∀(sc:List (Nat×Bool)) (fuel:Nat) (listed:Array Bool) (a:Act) (w:World),sc.length≤fuel→Sy md ops sc listed=true→KD P ops Q sc a w→wpAnyH P md ops Q (Ext w) fuel listed a w
 | [],fuel,listed,a,w,_,hc,h=>wpAnyH_done (by simpa [Sy] using hc) h fuel
 | (i,true)::rest,0,_,_,_,hl,_,_=>by simp at hl
 | (i,false)::rest,0,_,_,_,hl,_,_=>by simp at hl
 | (i,true)::rest,fuel+1,listed,a,w,hl,hc,h=>by
  obtain⟨o,v,ho,hy,hr⟩:=h;simp only[Sy,Bool.and_eq_true] at hc;exact wpAnyH_take ho hs hc.1 hc.2.1 (fun c a w=>I5 hQ _ _ c a w) hy (Ext.refl w) (Py hs hQ rest fuel _ _ w (by simpa using hl) hc.2.2 hr)
 | (i,false)::rest,fuel+1,listed,a,w,hl,hc,h=>by
  obtain⟨o,ho,hr⟩:=h;simp only[Sy,Bool.and_eq_true,beq_iff_eq] at hc;refine wpAnyH_all hc.1 (by simp) (fun j hj=> ?_);obtain rfl:=List.mem_singleton.1 hj;unfold wpOp;simp only[ho]
  by_cases hw:Region.wanted o (yielded ops a.tmps)=true
  ·rw[if_pos hw] at hr⊢
   refine .inl (Oper.wp_mono (fun a' w' h'=>⟨h'.1,?_⟩) hr);exact Sv (fun w'' hx=>h'.1.trans hx) _ _ _ _ (Py hs hQ rest fuel _ a' w' (by simpa using hl) hc.2 h'.2)
  ·rw[if_neg hw] at hr⊢
   exact⟨Ext.refl w,Py hs hQ rest fuel _ _ w (by simpa using hl) hc.2 hr⟩
theorem xW (sc:List (Nat×Bool)){id:Nat}{a:Act}{w:World}(hm:P.follows .mixedOrders=true)(hs:Region.noSelect ops=true)(hlen:decide (sc.length≤ops.size)=true)
  (hc:Sy .any ops sc (Array.replicate ops.size false)=true) (hQ:∀t v c a w,Q (.panic c) (Act.put a (some t) v) w→Q (.panic c) a w)
  (h:KD P ops Q sc a w.drew):(Code.region id ops true).wp P Q a w:=
 wp_region_held hm (Py hs hQ sc _ _ a w.drew (of_decide_eq_true hlen) hc h)
theorem rgr (sc:List (Nat×Bool)){id:Nat}{a:Act}{w:World}(hm:P.follows .mixedOrders=true:=by kernel_rfl)(hs:Region.noSelect ops=true:=by kernel_rfl)(hlen:decide (sc.length≤ops.size)=true:=by kernel_rfl)
  (hc:Sy .any ops sc (Array.replicate ops.size false)=true:=by kernel_rfl) (hQ:∀t v c a w,Q (.panic c) (Act.put a (some t) v) w→Q (.panic c) a w:=by exact fun _ _ _ _ _ h=>h)
  (h:KD P ops Q sc a w.drew):(Code.region id ops true).wp P Q a w:=xW sc hm hs hlen hc hQ h
theorem Yq {a:Act}{w:World}(h:Q .normal a w):KD P ops Q [] a w:=h
theorem Xx {i:Nat}{rest:List (Nat×Bool)}{o:Oper}{a:Act}{w:World}(ho:ops[i]? =some o)(hw:Region.wanted o (yielded ops a.tmps)=false)
  (h:KD P ops Q rest (a.put o.dst undef) w):KD P ops Q ((i,true)::rest) a w:=⟨o,undef,ho,.inr ⟨hw,rfl⟩,h⟩
theorem Qy {i:Nat}{rest:List (Nat×Bool)}{o:Oper}{a:Act}{w:World}(ho:ops[i]? =some o)(hw:Region.wanted o (yielded ops a.tmps)=false)
  (h:KD P ops Q rest (a.put o.dst undef) w):KD P ops Q ((i,false)::rest) a w:=⟨o,ho,by rw[hw];exact h⟩
theorem z78 {i:Nat}{rest:List (Nat×Bool)}{o:Oper}{v:Value}{a:Act}{w:World}(ho:ops[i]? =some o)(hw:Region.wanted o (yielded ops a.tmps)=true)
  (hy:∀w',Ext w w'→(execOp a.eval o).run P w'=.ok (.value v) w') (h:KD P ops Q rest (a.put o.dst v) w):KD P ops Q ((i,true)::rest) a w:=⟨o,v,ho,.inl ⟨hw,hy⟩,h⟩
theorem z79 {i:Nat}{rest:List (Nat×Bool)}{o:Oper}{a:Act}{w:World}(ho:ops[i]? =some o)(hw:Region.wanted o (yielded ops a.tmps)=true)
  (h:∀K:Act→World→Prop,(∀a' w',Ext w w'→KD P ops Q rest a' w'→K a' w')→Oper.wp P o a w K Q):KD P ops Q ((i,false)::rest) a w:=
 ⟨o,ho,by rw[if_pos hw];exact h _ fun _ _ h1 h2=>⟨h1,h2⟩⟩
theorem grr {i:Nat}{rest:List (Nat×Bool)}{d:_}{op:_}{ty:_}{ps:_}{af:_}{gd:_}{v:Value}{a:Act}{w:World}(ho:ops[i]? =some (⟨d,op,ty,ps,af,gd⟩:Oper))(hw:Region.wanted (⟨d,op,ty,ps,af,gd⟩:Oper) (yielded ops a.tmps)=true)
  (hy:∀w',Ext w w'→(execOp a.eval (⟨d,op,ty,ps,af,gd⟩:Oper)).run P w'=.ok (.value v) w') (h:KD P ops Q rest (a.put d v) w):KD P ops Q ((i,true)::rest) a w:=z78 ho hw hy h
theorem grc {i:Nat}{rest:List (Nat×Bool)}{d:_}{op:_}{ty:_}{ps:_}{af:_}{gd:_}{a:Act}{w:World}(ho:ops[i]? =some (⟨d,op,ty,ps,af,gd⟩:Oper))(hw:Region.wanted (⟨d,op,ty,ps,af,gd⟩:Oper) (yielded ops a.tmps)=true)
  (h:∀K:Act→World→Prop,(∀a' w',Ext w w'→KD P ops Q rest a' w'→K a' w')→Oper.wp P (⟨d,op,ty,ps,af,gd⟩:Oper) a w K Q):KD P ops Q ((i,false)::rest) a w:=z79 ho hw h
end
end Go.Proofs.YtdgladhfibfdlaaGreatDoor
namespace Go.Proofs.YtdgladhfibfdlaaGreatDoor
open Go Tryz
def blt (a b:ByteArray):Bool:=Op.bytesLess a.toList b.toList
abbrev bl (s:ByteArray):List UInt8:=s.data.toList
theorem xX (a b:ByteArray):blt a b=decide (bl a<bl b):=by
 unfold blt;rw[bytesLess_eq,Lib.toList_data,Lib.toList_data]
theorem Jk (a b:ByteArray):blt a b=true↔bl a<bl b:=by rw[xX];simp
theorem Jv (a b:ByteArray):blt a b=false↔¬bl a<bl b:=by rw[xX];simp
theorem z3x {a b:ByteArray}(h:bl a=bl b):a=b:=by
 obtain⟨⟨x⟩⟩:=a;obtain⟨⟨y⟩⟩:=b;simp at h;rw[h]
theorem z8a (a b:ByteArray):(Op.bytesLess a.toList b.toList||a.toList==b.toList)= !blt b a:=by
 rw[xX,bytesLess_eq,Lib.toList_data,Lib.toList_data,Bool.eq_iff_iff];simp;constructor
 ·rintro(h|h)<;>grind
 ·intro h
  by_cases h2:a.data.toList<b.data.toList
  ·exact .inl h2
  ·right
   have:a.data.toList=b.data.toList:=by grind
   exact(congrArg ByteArray.data (z3x this):_)
structure Sp where
 lo:ByteArray
 hi:ByteArray
 op:Bool
def Sp.v (s:Sp):Value:=.agg #[.string s.lo,.string s.hi,.bool s.op]
def xR (s:Sp)(k:ByteArray):Bool:= !blt k s.lo&&(s.op||blt k s.hi)
theorem z1r (a b:UInt8)(x y:List UInt8):a::x<b::y↔a<b∨a=b∧x<y:=List.cons_lt_cons_iff
def okK (k:ByteArray):Bool:=decide (1≤k.size∧k.size≤40)
end Go.Proofs.YtdgladhfibfdlaaGreatDoor
namespace Go.Proofs.YtdgladhfibfdlaaGreatDoor
open Go Go.RowKit Tryz
section
variable {F:Nat→Prop} {P:Program} {ops:Array Oper} {Q:Exit→Act→World→Prop} {md:Region.Mode}
def KE (F:Nat→Prop)(P:Program)(ops:Array Oper)(Q:Exit→Act→World→Prop):List (Nat×Bool)→Act→World→Prop
 | [],a,w=>Q .normal a w
 | (i,true)::rest,a,w=>∃o v,ops[i]? =some o∧YieldsIf P ops (Zx F w) o v a∧KE F P ops Q rest (a.put o.dst v) w
 | (i,false)::rest,a,w=>∃o,ops[i]? =some o∧(if Region.wanted o (yielded ops a.tmps)=true then Oper.wp P o a w (fun a' w'=>Zx F w w'∧KE F P ops Q rest a' w') Q else KE F P ops Q rest (a.put o.dst undef) w)
theorem Pu (hs:Region.noSelect ops=true)(hQ:∀t v c a w,Q (.panic c) (Act.put a (some t) v) w→Q (.panic c) a w):
  ∀(sc:List (Nat×Bool)) (fuel:Nat) (listed:Array Bool) (a:Act) (w:World),sc.length≤fuel→Sy md ops sc listed=true→KE F P ops Q sc a w→wpAnyH P md ops Q (Zx F w) fuel listed a w
 | [],fuel,listed,a,w,_,hc,h=>wpAnyH_done (by simpa [Sy] using hc) h fuel
 | (i,true)::rest,0,_,_,_,hl,_,_=>by simp at hl
 | (i,false)::rest,0,_,_,_,hl,_,_=>by simp at hl
 | (i,true)::rest,fuel+1,listed,a,w,hl,hc,h=>by
  obtain⟨o,v,ho,hy,hr⟩:=h;simp only[Sy,Bool.and_eq_true] at hc;exact wpAnyH_take ho hs hc.1 hc.2.1 (fun c a w=>I5 hQ _ _ c a w) hy (Zx.refl F w) (Pu hs hQ rest fuel _ _ w (by simpa using hl) hc.2.2 hr)
 | (i,false)::rest,fuel+1,listed,a,w,hl,hc,h=>by
  obtain⟨o,ho,hr⟩:=h;simp only[Sy,Bool.and_eq_true,beq_iff_eq] at hc;refine wpAnyH_all hc.1 (by simp) (fun j hj=> ?_);obtain rfl:=List.mem_singleton.1 hj;unfold wpOp;simp only[ho]
  by_cases hw:Region.wanted o (yielded ops a.tmps)=true
  ·rw[if_pos hw] at hr⊢
   refine .inl (Oper.wp_mono (fun a' w' h'=>⟨h'.1,?_⟩) hr);exact Sv (fun w'' hx=>h'.1.trans hx) _ _ _ _ (Pu hs hQ rest fuel _ a' w' (by simpa using hl) hc.2 h'.2)
  ·rw[if_neg hw] at hr⊢
   exact⟨Zx.refl F w,Pu hs hQ rest fuel _ _ w (by simpa using hl) hc.2 hr⟩
theorem xY (sc:List (Nat×Bool)){id:Nat}{a:Act}{w:World}(hm:P.follows .mixedOrders=true)(hs:Region.noSelect ops=true)(hlen:decide (sc.length≤ops.size)=true)
  (hc:Sy .any ops sc (Array.replicate ops.size false)=true) (hQ:∀t v c a w,Q (.panic c) (Act.put a (some t) v) w→Q (.panic c) a w)
  (h:KE F P ops Q sc a w.drew):(Code.region id ops true).wp P Q a w:=
 wp_region_held hm (Pu hs hQ sc _ _ a w.drew (of_decide_eq_true hlen) hc h)
theorem rgt (sc:List (Nat×Bool)){id:Nat}{a:Act}{w:World}(hm:P.follows .mixedOrders=true:=by kernel_rfl)(hs:Region.noSelect ops=true:=by kernel_rfl)(hlen:decide (sc.length≤ops.size)=true:=by kernel_rfl)
  (hc:Sy .any ops sc (Array.replicate ops.size false)=true:=by kernel_rfl) (hQ:∀t v c a w,Q (.panic c) (Act.put a (some t) v) w→Q (.panic c) a w:=by exact fun _ _ _ _ _ h=>h)
  (h:KE F P ops Q sc a w.drew):(Code.region id ops true).wp P Q a w:=xY sc hm hs hlen hc hQ h
theorem Yj {a:Act}{w:World}(h:Q .normal a w):KE F P ops Q [] a w:=h
theorem xZ {i:Nat}{rest:List (Nat×Bool)}{o:Oper}{a:Act}{w:World}(ho:ops[i]? =some o)(hw:Region.wanted o (yielded ops a.tmps)=false)
  (h:KE F P ops Q rest (a.put o.dst undef) w):KE F P ops Q ((i,true)::rest) a w:=⟨o,undef,ho,.inr ⟨hw,rfl⟩,h⟩
theorem KF {i:Nat}{rest:List (Nat×Bool)}{o:Oper}{a:Act}{w:World}(ho:ops[i]? =some o)(hw:Region.wanted o (yielded ops a.tmps)=false)
  (h:KE F P ops Q rest (a.put o.dst undef) w):KE F P ops Q ((i,false)::rest) a w:=⟨o,ho,by rw[hw];exact h⟩
theorem z8b {i:Nat}{rest:List (Nat×Bool)}{o:Oper}{v:Value}{a:Act}{w:World}(ho:ops[i]? =some o)(hw:Region.wanted o (yielded ops a.tmps)=true)
  (hy:∀w',Zx F w w'→(execOp a.eval o).run P w'=.ok (.value v) w') (h:KE F P ops Q rest (a.put o.dst v) w):KE F P ops Q ((i,true)::rest) a w:=⟨o,v,ho,.inl ⟨hw,hy⟩,h⟩
theorem z8c {i:Nat}{rest:List (Nat×Bool)}{o:Oper}{a:Act}{w:World}(ho:ops[i]? =some o)(hw:Region.wanted o (yielded ops a.tmps)=true)
  (h:∀K:Act→World→Prop,(∀a' w',Zx F w w'→KE F P ops Q rest a' w'→K a' w')→Oper.wp P o a w K Q):KE F P ops Q ((i,false)::rest) a w:=
 ⟨o,ho,by rw[if_pos hw];exact h _ fun _ _ h1 h2=>⟨h1,h2⟩⟩
theorem gtr {i:Nat}{rest:List (Nat×Bool)}{d:_}{op:_}{ty:_}{ps:_}{af:_}{gd:_}{v:Value}{a:Act}{w:World}(ho:ops[i]? =some (⟨d,op,ty,ps,af,gd⟩:Oper))(hw:Region.wanted (⟨d,op,ty,ps,af,gd⟩:Oper) (yielded ops a.tmps)=true)
  (hy:∀w',Zx F w w'→(execOp a.eval (⟨d,op,ty,ps,af,gd⟩:Oper)).run P w'=.ok (.value v) w') (h:KE F P ops Q rest (a.put d v) w):KE F P ops Q ((i,true)::rest) a w:=z8b ho hw hy h
theorem gtc {i:Nat}{rest:List (Nat×Bool)}{d:_}{op:_}{ty:_}{ps:_}{af:_}{gd:_}{a:Act}{w:World}(ho:ops[i]? =some (⟨d,op,ty,ps,af,gd⟩:Oper))(hw:Region.wanted (⟨d,op,ty,ps,af,gd⟩:Oper) (yielded ops a.tmps)=true)
  (h:∀K:Act→World→Prop,(∀a' w',Zx F w w'→KE F P ops Q rest a' w'→K a' w')→Oper.wp P (⟨d,op,ty,ps,af,gd⟩:Oper) a w K Q):KE F P ops Q ((i,false)::rest) a w:=z8c ho hw h
end
inductive Sch where
 | done
 | rd (i:Nat) (r:Sch)
 | call (i:Nat) (r:Sch)
 | two (i:Nat) (r:Sch) (j:Nat) (s:Sch)
 | three (i:Nat) (r:Sch) (j:Nat) (s:Sch) (k:Nat) (t:Sch)
def Sch.len:Sch→Nat
 | .done=>0
 | .rd _ r=>r.len+1
 | .call _ r=>r.len+1
 | .two _ r _ s=>max r.len s.len+1
 | .three _ r _ s _ t=>max r.len (max s.len t.len)+1
section
variable {F:Nat→Prop} {P:Program} {ops:Array Oper} {Q:Exit→Act→World→Prop} {md:Region.Mode}
def KG (F:Nat→Prop)(P:Program)(ops:Array Oper)(Q:Exit→Act→World→Prop)(i:Nat)(K:Act→World→Prop)(a:Act)(w:World):Prop:=
 ∃o,ops[i]? =some o∧(if Region.wanted o (yielded ops a.tmps)=true then Oper.wp P o a w (fun a' w'=>Zx F w w'∧K a' w') Q else K (a.put o.dst undef) w)
def z1s (F:Nat→Prop)(P:Program)(ops:Array Oper)(Q:Exit→Act→World→Prop):Sch→Act→World→Prop
 | .done,a,w=>Q .normal a w
 | .rd i r,a,w=>∃o v,ops[i]? =some o∧YieldsIf P ops (Zx F w) o v a∧z1s F P ops Q r (a.put o.dst v) w
 | .call i r,a,w=>KG F P ops Q i (z1s F P ops Q r) a w
 | .two i r j s,a,w=>KG F P ops Q i (z1s F P ops Q r) a w∧KG F P ops Q j (z1s F P ops Q s) a w
 | .three i r j s k t,a,w=>KG F P ops Q i (z1s F P ops Q r) a w∧KG F P ops Q j (z1s F P ops Q s) a w∧KG F P ops Q k (z1s F P ops Q t) a w
def Xq (md:Region.Mode)(ops:Array Oper):Sch→Array Bool→Bool
 | .done,listed=>(Region.ready md ops listed).isEmpty
 | .rd i r,listed=>Region.free md ops listed i&&((Region.ready md ops listed).contains i&&Xq md ops r (listed.setIfInBounds i true))
 | .call i r,listed=>(Region.ready md ops listed==[i])&&Xq md ops r (listed.setIfInBounds i true)
 | .two i r j s,listed=>(Region.ready md ops listed==[i,j])&&(Xq md ops r (listed.setIfInBounds i true)&&Xq md ops s (listed.setIfInBounds j true))
 | .three i r j s k t,listed=>(Region.ready md ops listed==[i,j,k])&&(Xq md ops r (listed.setIfInBounds i true)&&(Xq md ops s (listed.setIfInBounds j true)&&Xq md ops t (listed.setIfInBounds k true)))
theorem Sx {fuel i:Nat}{listed:Array Bool}{a:Act}{w:World}{K:Act→World→Prop}(h:KG F P ops Q i K a w)
  (ih:∀a' w',K a' w'→wpAnyH P md ops Q (Zx F w') fuel listed a' w'):wpOp P ops Q i (fun a' w'=>Zx F w w'∧wpAnyH P md ops Q (Zx F w) fuel listed a' w') a w:=by
 obtain⟨o,ho,hr⟩:=h;unfold wpOp;simp only[ho]
 by_cases hw:Region.wanted o (yielded ops a.tmps)=true
 ·rw[if_pos hw] at hr⊢
  refine .inl (Oper.wp_mono (fun a' w' h'=>⟨h'.1,?_⟩) hr);exact Sv (fun w'' hx=>h'.1.trans hx) _ _ _ _ (ih a' w' h'.2)
 ·rw[if_neg hw] at hr⊢
  exact⟨Zx.refl F w,ih _ w hr⟩
theorem V9 (hs:Region.noSelect ops=true)(hQ:∀t v c a w,Q (.panic c) (Act.put a (some t) v) w→Q (.panic c) a w):
  ∀(sc:Sch) (fuel:Nat) (listed:Array Bool) (a:Act) (w:World),sc.len≤fuel→Xq md ops sc listed=true→z1s F P ops Q sc a w→wpAnyH P md ops Q (Zx F w) fuel listed a w
 | .done,fuel,listed,a,w,_,hc,h=>wpAnyH_done (by simpa [Xq] using hc) h fuel
 | .rd i r,0,_,_,_,hl,_,_=>by simp[Sch.len] at hl
 | .call i r,0,_,_,_,hl,_,_=>by simp[Sch.len] at hl
 | .two i r j s,0,_,_,_,hl,_,_=>by simp[Sch.len] at hl
 | .three i r j s k t,0,_,_,_,hl,_,_=>by simp[Sch.len] at hl
 | .rd i r,fuel+1,listed,a,w,hl,hc,h=>by
  obtain⟨o,v,ho,hy,hr⟩:=h;simp only[Xq,Bool.and_eq_true] at hc;exact wpAnyH_take ho hs hc.1 hc.2.1 (fun c a w=>I5 hQ _ _ c a w) hy (Zx.refl F w) (V9 hs hQ r fuel _ _ w (by simpa [Sch.len] using hl) hc.2.2 hr)
 | .call i r,fuel+1,listed,a,w,hl,hc,h=>by
  simp only[Xq,Bool.and_eq_true,beq_iff_eq] at hc;refine wpAnyH_all hc.1 (by simp) (fun j hj=> ?_);obtain rfl:=List.mem_singleton.1 hj;exact Sx h (fun a' w'=>V9 hs hQ r fuel _ a' w' (by simpa [Sch.len] using hl) hc.2)
 | .two i r j s,fuel+1,listed,a,w,hl,hc,h=>by
  simp only[Xq,Bool.and_eq_true,beq_iff_eq] at hc;have hl':max r.len s.len≤fuel:=by simpa [Sch.len] using hl
  refine wpAnyH_all hc.1 (by simp) (fun x hx=> ?_);simp only[List.mem_cons,List.not_mem_nil,or_false] at hx
  rcases hx with rfl|rfl
  ·exact Sx h.1 (fun a' w'=>V9 hs hQ r fuel _ a' w' (by omega) hc.2.1)
  ·exact Sx h.2 (fun a' w'=>V9 hs hQ s fuel _ a' w' (by omega) hc.2.2)
 | .three i r j s k t,fuel+1,listed,a,w,hl,hc,h=>by
  simp only[Xq,Bool.and_eq_true,beq_iff_eq] at hc;have hl':max r.len (max s.len t.len)≤fuel:=by simpa [Sch.len] using hl
  refine wpAnyH_all hc.1 (by simp) (fun x hx=> ?_);simp only[List.mem_cons,List.not_mem_nil,or_false] at hx
  rcases hx with rfl|rfl|rfl
  ·exact Sx h.1 (fun a' w'=>V9 hs hQ r fuel _ a' w' (by omega) hc.2.1)
  ·exact Sx h.2.1 (fun a' w'=>V9 hs hQ s fuel _ a' w' (by omega) hc.2.2.1)
  ·exact Sx h.2.2 (fun a' w'=>V9 hs hQ t fuel _ a' w' (by omega) hc.2.2.2)
theorem qA (sc:Sch){id:Nat}{a:Act}{w:World}(hm:P.follows .mixedOrders=true)(hs:Region.noSelect ops=true)(hlen:decide (sc.len≤ops.size)=true)
  (hc:Xq .any ops sc (Array.replicate ops.size false)=true) (hQ:∀t v c a w,Q (.panic c) (Act.put a (some t) v) w→Q (.panic c) a w)
  (h:z1s F P ops Q sc a w.drew):(Code.region id ops true).wp P Q a w:=
 wp_region_held hm (V9 hs hQ sc _ _ a w.drew (of_decide_eq_true hlen) hc h)
theorem rgs (sc:Sch){id:Nat}{a:Act}{w:World}(hm:P.follows .mixedOrders=true:=by kernel_rfl)(hs:Region.noSelect ops=true:=by kernel_rfl)(hlen:decide (sc.len≤ops.size)=true:=by kernel_rfl)
  (hc:Xq .any ops sc (Array.replicate ops.size false)=true:=by kernel_rfl) (hQ:∀t v c a w,Q (.panic c) (Act.put a (some t) v) w→Q (.panic c) a w:=by exact fun _ _ _ _ _ h=>h)
  (h:z1s F P ops Q sc a w.drew):(Code.region id ops true).wp P Q a w:=qA sc hm hs hlen hc hQ h
theorem Zy {a:Act}{w:World}(h:Q .normal a w):z1s F P ops Q .done a w:=h
theorem z8d {i:Nat}{rest:Sch}{o:Oper}{v:Value}{a:Act}{w:World}(ho:ops[i]? =some o)(hw:Region.wanted o (yielded ops a.tmps)=true)
  (hy:∀w',Zx F w w'→(execOp a.eval o).run P w'=.ok (.value v) w') (h:z1s F P ops Q rest (a.put o.dst v) w):z1s F P ops Q (.rd i rest) a w:=⟨o,v,ho,.inl ⟨hw,hy⟩,h⟩
theorem z58 {K:Act→World→Prop}{i:Nat}{o:Oper}{a:Act}{w:World}(ho:ops[i]? =some o)(hw:Region.wanted o (yielded ops a.tmps)=true)
  (h:∀K':Act→World→Prop,(∀a' w',Zx F w w'→K a' w'→K' a' w')→Oper.wp P o a w K' Q):KG F P ops Q i K a w:=
 ⟨o,ho,by rw[if_pos hw];exact h _ fun _ _ h1 h2=>⟨h1,h2⟩⟩
theorem gsr {i:Nat}{rest:Sch}{d:_}{op:_}{ty:_}{ps:_}{af:_}{gd:_}{v:Value}{a:Act}{w:World}(ho:ops[i]? =some (⟨d,op,ty,ps,af,gd⟩:Oper))(hw:Region.wanted (⟨d,op,ty,ps,af,gd⟩:Oper) (yielded ops a.tmps)=true)
  (hy:∀w',Zx F w w'→(execOp a.eval (⟨d,op,ty,ps,af,gd⟩:Oper)).run P w'=.ok (.value v) w') (h:z1s F P ops Q rest (a.put d v) w):z1s F P ops Q (.rd i rest) a w:=z8d ho hw hy h
theorem gsc {K:Act→World→Prop}{i:Nat}{d:_}{op:_}{ty:_}{ps:_}{af:_}{gd:_}{a:Act}{w:World}(ho:ops[i]? =some (⟨d,op,ty,ps,af,gd⟩:Oper))(hw:Region.wanted (⟨d,op,ty,ps,af,gd⟩:Oper) (yielded ops a.tmps)=true)
  (h:∀K':Act→World→Prop,(∀a' w',Zx F w w'→K a' w'→K' a' w')→Oper.wp P (⟨d,op,ty,ps,af,gd⟩:Oper) a w K' Q):KG F P ops Q i K a w:=z58 ho hw h
end
section
variable {P:Program} {ops:Array Oper} {Q:Exit→Act→World→Prop} {md:Region.Mode}
def qB (P:Program)(ops:Array Oper)(Q:Exit→Act→World→Prop)(F:Nat→Prop)(i:Nat)(K:(Nat→Prop)→Act→World→Prop)(a:Act)(w:World):Prop:=
 ∃o,ops[i]? =some o∧(if Region.wanted o (yielded ops a.tmps)=true then Oper.wp P o a w (fun a' w'=>Zx F w w'∧∃F':Nat→Prop,(∀j,F' j→j<w.heap.size→F j)∧K F' a' w') Q else K F (a.put o.dst undef) w)
def qC (P:Program)(ops:Array Oper)(Q:Exit→Act→World→Prop):Sch→(Nat→Prop)→Act→World→Prop
 | .done,_,a,w=>Q .normal a w
 | .rd i r,F,a,w=>∃o v,ops[i]? =some o∧YieldsIf P ops (Zx F w) o v a∧qC P ops Q r F (a.put o.dst v) w
 | .call i r,F,a,w=>qB P ops Q F i (qC P ops Q r) a w
 | .two i r j s,F,a,w=>qB P ops Q F i (qC P ops Q r) a w∧qB P ops Q F j (qC P ops Q s) a w
 | .three i r j s k t,F,a,w=>qB P ops Q F i (qC P ops Q r) a w∧qB P ops Q F j (qC P ops Q s) a w∧qB P ops Q F k (qC P ops Q t) a w
theorem U8 {F:Nat→Prop}{fuel i:Nat}{listed:Array Bool}{a:Act}{w:World}{K:(Nat→Prop)→Act→World→Prop}(h:qB P ops Q F i K a w)
  (ih:∀F' a' w',K F' a' w'→wpAnyH P md ops Q (Zx F' w') fuel listed a' w'):wpOp P ops Q i (fun a' w'=>Zx F w w'∧wpAnyH P md ops Q (Zx F w) fuel listed a' w') a w:=by
 obtain⟨o,ho,hr⟩:=h;unfold wpOp;simp only[ho]
 by_cases hw:Region.wanted o (yielded ops a.tmps)=true
 ·rw[if_pos hw] at hr⊢
  refine .inl (Oper.wp_mono (fun a' w' h'=>⟨h'.1,?_⟩) hr);obtain⟨ht,F',hF,hk⟩:=h';exact Sv (fun w'' hx=>ht.step hx hF) _ _ _ _ (ih F' a' w' hk)
 ·rw[if_neg hw] at hr⊢
  exact⟨Zx.refl F w,ih _ _ w hr⟩
theorem Uq (hs:Region.noSelect ops=true)(hQ:∀t v c a w,Q (.panic c) (Act.put a (some t) v) w→Q (.panic c) a w):
  ∀(sc:Sch) (F:Nat→Prop) (fuel:Nat) (listed:Array Bool) (a:Act) (w:World),sc.len≤fuel→Xq md ops sc listed=true→qC P ops Q sc F a w→wpAnyH P md ops Q (Zx F w) fuel listed a w
 | .done,F,fuel,listed,a,w,_,hc,h=>wpAnyH_done (by simpa [Xq] using hc) h fuel
 | .rd i r,_,0,_,_,_,hl,_,_=>by simp[Sch.len] at hl
 | .call i r,_,0,_,_,_,hl,_,_=>by simp[Sch.len] at hl
 | .two i r j s,_,0,_,_,_,hl,_,_=>by simp[Sch.len] at hl
 | .three i r j s k t,_,0,_,_,_,hl,_,_=>by simp[Sch.len] at hl
 | .rd i r,F,fuel+1,listed,a,w,hl,hc,h=>by
  obtain⟨o,v,ho,hy,hr⟩:=h;simp only[Xq,Bool.and_eq_true] at hc;exact wpAnyH_take ho hs hc.1 hc.2.1 (fun c a w=>I5 hQ _ _ c a w) hy (Zx.refl F w) (Uq hs hQ r F fuel _ _ w (by simpa [Sch.len] using hl) hc.2.2 hr)
 | .call i r,F,fuel+1,listed,a,w,hl,hc,h=>by
  simp only[Xq,Bool.and_eq_true,beq_iff_eq] at hc;refine wpAnyH_all hc.1 (by simp) (fun j hj=> ?_);obtain rfl:=List.mem_singleton.1 hj;exact U8 h (fun F' a' w'=>Uq hs hQ r F' fuel _ a' w' (by simpa [Sch.len] using hl) hc.2)
 | .two i r j s,F,fuel+1,listed,a,w,hl,hc,h=>by
  simp only[Xq,Bool.and_eq_true,beq_iff_eq] at hc;have hl':max r.len s.len≤fuel:=by simpa [Sch.len] using hl
  refine wpAnyH_all hc.1 (by simp) (fun x hx=> ?_);simp only[List.mem_cons,List.not_mem_nil,or_false] at hx
  rcases hx with rfl|rfl
  ·exact U8 h.1 (fun F' a' w'=>Uq hs hQ r F' fuel _ a' w' (by omega) hc.2.1)
  ·exact U8 h.2 (fun F' a' w'=>Uq hs hQ s F' fuel _ a' w' (by omega) hc.2.2)
 | .three i r j s k t,F,fuel+1,listed,a,w,hl,hc,h=>by
  simp only[Xq,Bool.and_eq_true,beq_iff_eq] at hc;have hl':max r.len (max s.len t.len)≤fuel:=by simpa [Sch.len] using hl
  refine wpAnyH_all hc.1 (by simp) (fun x hx=> ?_);simp only[List.mem_cons,List.not_mem_nil,or_false] at hx
  rcases hx with rfl|rfl|rfl
  ·exact U8 h.1 (fun F' a' w'=>Uq hs hQ r F' fuel _ a' w' (by omega) hc.2.1)
  ·exact U8 h.2.1 (fun F' a' w'=>Uq hs hQ s F' fuel _ a' w' (by omega) hc.2.2.1)
  ·exact U8 h.2.2 (fun F' a' w'=>Uq hs hQ t F' fuel _ a' w' (by omega) hc.2.2.2)
theorem D7 (F:Nat→Prop)(sc:Sch){id:Nat}{a:Act}{w:World}(hm:P.follows .mixedOrders=true)(hs:Region.noSelect ops=true)(hlen:decide (sc.len≤ops.size)=true)
  (hc:Xq .any ops sc (Array.replicate ops.size false)=true) (hQ:∀t v c a w,Q (.panic c) (Act.put a (some t) v) w→Q (.panic c) a w)
  (h:qC P ops Q sc F a w.drew):(Code.region id ops true).wp P Q a w:=
 wp_region_held hm (Uq hs hQ sc F _ _ a w.drew (of_decide_eq_true hlen) hc h)
variable {F:Nat→Prop}
theorem ZU {a:Act}{w:World}(h:Q .normal a w):qC P ops Q .done F a w:=h
theorem Mu {i:Nat}{rest:Sch}{o:Oper}{v:Value}{a:Act}{w:World}(ho:ops[i]? =some o)(hw:Region.wanted o (yielded ops a.tmps)=true)
  (hy:∀w',Zx F w w'→(execOp a.eval o).run P w'=.ok (.value v) w') (h:qC P ops Q rest F (a.put o.dst v) w):qC P ops Q (.rd i rest) F a w:=⟨o,v,ho,.inl ⟨hw,hy⟩,h⟩
theorem Vk {K:(Nat→Prop)→Act→World→Prop}{i:Nat}{o:Oper}{a:Act}{w:World}(ho:ops[i]? =some o)(hw:Region.wanted o (yielded ops a.tmps)=true)
  (h:∀K':Act→World→Prop,(∀F':Nat→Prop,(∀j,F' j→j<w.heap.size→F j)→∀a' w',Zx F w w'→K F' a' w'→K' a' w')→Oper.wp P o a w K' Q):qB P ops Q F i K a w:=
 ⟨o,ho,by rw[if_pos hw];exact h _ fun F' hF _ _ h1 h2=>⟨h1,F',hF,h2⟩⟩
end
end Go.Proofs.YtdgladhfibfdlaaGreatDoor
namespace Go.Proofs.YtdgladhfibfdlaaGreatDoor
open Go.RowKit Go.Extern.Stop Go.Stop Go.Extern Tryz
theorem x4c (t:Addr)(w:World):(ReflectliteValue.unpack (.iface 112 (.pointer (some t)))).run prog w
  =.ok (.agg #[.pointer (some ⟨3,112,none⟩),.pointer (some ⟨w.heap.size,0,none⟩),.int .u64 150]) (w.alloc (.cells #[.pointer (some t)] 112)):=by kernel_rfl
theorem x4n (a : Addr) (w : World) : (ReflectliteValue.methodAny (ReflectliteValue.valueError "reflectlite.Value.Type" 0) (fun t _ _ _ => ReflectliteType.toType t) #[.agg #[.pointer (some ⟨3, 112, none⟩), .pointer (some a), .int .u64 150]]).run prog w
  =.ok (.iface 193 (.agg #[.pointer (some ⟨3,112,none⟩)])) w:=by kernel_rfl
theorem x37 (h : Value) (w : World) : (Go.method 440 193 (.agg #[h]) "Kind").run prog w = .ok (226, h) w := by kernel_rfl
theorem x4o (w:World):((ReflectliteType.abiMethod fun t=>(fun a:Nat=>Value.int IntKind.u8 (a:Int))<$>Rtype.kind t) #[.pointer (some ⟨3,112,none⟩)]).run prog w=.ok (.int .u8 22) w:=by kernel_rfl
theorem x4p (w:World):((ReflectliteType.abiMethod fun t=>(fun a:Nat=>Value.int IntKind.u8 (a:Int))<$>Rtype.kind t) #[.pointer (some ⟨3,110,none⟩)]).run prog w=.ok (.int .u8 2) w:=by kernel_rfl
theorem x4u (z:Sem Value)(f:TypeId→Addr→Nat→Nat→Sem Value)(v:Value):
  ReflectliteValue.method z f #[v]=(do match←ReflectliteValue.parts v with|none=>z|some (t,a,fl)=>f t a fl (fl%32)):=rfl
theorem x4a (a:Addr)(w:World):(ReflectliteValue.parts (.agg #[.pointer (some ⟨3,112,none⟩),.pointer (some a),.int .u64 150])).run prog w=.ok (some (112,a,150)) w:=by kernel_rfl
theorem x4j (a p:Addr)(W:World)(ha:W.cell? a=some (.pointer (some p))):
  (ReflectliteValue.method (ReflectliteValue.valueError "reflectlite.Value.IsNil" 0) ReflectliteValue.isNil #[.agg #[.pointer (some ⟨3, 112, none⟩), .pointer (some a), .int .u64 150]]).run prog W = .ok (.bool false) W := by
 rw[x4u];simp only[Sem.run_bind,x4a,Result.andThen];simp[ReflectliteValue.isNil,loadVar,isAgg,underlying,underlying112,ha,Result.andThen]
theorem x38 (h : Value) (w : World) : (Go.method 440 193 (.agg #[h]) "Elem").run prog w = .ok (236, .agg #[h]) w := by kernel_rfl
theorem x31 (h : Value) (w : World) : (Go.method 440 193 (.agg #[h]) "Implements").run prog w = .ok (237, .agg #[h]) w := by kernel_rfl
theorem x30 (h : Value) (w : World) : (Go.method 440 193 (.agg #[h]) "AssignableTo").run prog w = .ok (234, .agg #[h]) w := by kernel_rfl
theorem x4q (w:World):(ReflectliteType.method ReflectliteType.elem #[.agg #[.pointer (some ⟨3,112,none⟩)]]).run prog w=.ok (.iface 193 (.agg #[.pointer (some ⟨3,110,none⟩)])) w:=by kernel_rfl
theorem x35 (w : World) : (ReflectliteType.relation "Implements" ReflectliteType.implements_ #[.agg #[.pointer (some ⟨3, 110, none⟩)], .iface 193 (.agg #[.pointer (some ⟨3, 38, none⟩)])]).run prog w = .ok (.bool true) w := by kernel_rfl
theorem x4f (v:Value)(w:World):(ReflectliteType.typeOf #[.iface 110 v]).run prog w=.ok (.iface 193 (.agg #[.pointer (some ⟨3,110,none⟩)])) w:=by kernel_rfl
theorem x36 (w : World) : (ReflectliteType.relation "AssignableTo" ReflectliteType.assignableTo #[.agg #[.pointer (some ⟨3, 110, none⟩)], .iface 193 (.agg #[.pointer (some ⟨3, 110, none⟩)])]).run prog w = .ok (.bool true) w := by kernel_rfl
theorem x4d (n:Int)(w:World):(ReflectliteValue.unpack (.iface 110 (.int .i64 n))).run prog w
  =.ok (.agg #[.pointer (some ⟨3,110,none⟩),.pointer (some ⟨w.heap.size,0,none⟩),.int .u64 130]) (w.alloc (.cells #[.int .i64 n] 110)):=by kernel_rfl
theorem x4g (w:World):(Rtype.elem? 112).run prog w=.ok (some 110) w:=by kernel_rfl
theorem As.mkE (p:Addr)(w:World):(ReflectliteValue.mk 110 p ReflectliteValue.flagAddr).run prog w=.ok (.agg #[.pointer (some ⟨3,110,none⟩),.pointer (some p),.int .u64 386]) w:=by kernel_rfl
theorem x4k (a p:Addr)(W:World)(ha:W.cell? a=some (.pointer (some p))):
  (ReflectliteValue.method (ReflectliteValue.valueError "reflectlite.Value.Elem" 0) ReflectliteValue.elem #[.agg #[.pointer (some ⟨3, 112, none⟩), .pointer (some a), .int .u64 150]]).run prog W
   =.ok (.agg #[.pointer (some ⟨3,110,none⟩),.pointer (some p),.int .u64 386]) W:=by
 rw[x4u];simp only[Sem.run_bind,x4a,Result.andThen];simp[ReflectliteValue.elem,loadVar,isAgg,underlying,underlying112,ha,Result.andThen,x4g,As.mkE]
theorem x4l (ta b:Addr)(W:World):
  (ReflectliteValue.set #[.agg #[.pointer (some ⟨3,110,none⟩),.pointer (some ta),.int .u64 386],.agg #[.pointer (some ⟨3,110,none⟩),.pointer (some b),.int .u64 130]]).run prog W
   =(do let val←loadVar 110 b;storeVar 110 ta val;pure (.tuple #[]):Sem Value).run prog W:=by kernel_rfl
theorem x4v (ta b:Addr)(n:Int)(old:Value)(W:World)(hb:W.cell? b=some (.int .i64 n))(ht:W.cell? ta=some old)(hf:W.frozen? ta=false):
  (ReflectliteValue.set #[.agg #[.pointer (some ⟨3,110,none⟩),.pointer (some ta),.int .u64 386],.agg #[.pointer (some ⟨3,110,none⟩),.pointer (some b),.int .u64 130]]).run prog W
   =.ok (.tuple #[]) (W.setCell ta (.int .i64 n)):=by
 rw[x4l];simp[loadVar,isAgg,underlying,underlying110,hb,Result.andThen,storeVar,Value.cells,storeCells,Addr.add];rw[run_store prog W ta _ _ (by rfl)];simp[ht,hf]
def Hg (w:World):Prop:=w.cell? ⟨0,0,none⟩=some (.iface 193 (.agg #[.pointer (some ⟨3,38,none⟩)]))
set_option maxHeartbeats 4000000 in
theorem x0u (n:Int)(t:Addr)(old:Value)(w:World)(hg':Hg w)(ht0:w.cell? t=some old)(hf0:w.frozen? t=false):
  Calls prog 50 #[.iface 110 (.int .i64 n),.iface 112 (.pointer (some t))] w fun ev w'=>ev=.returned (.bool true)∧w'=((((w.alloc (.cells #[.pointer (some t)] 112)).alloc (.cells #[.pointer (some ⟨3,112,none⟩),.pointer (some ⟨w.heap.size,0,none⟩),.int .u64 150] 149)).alloc (.cells #[.pointer (some ⟨3,112,none⟩),.pointer (some ⟨w.heap.size,0,none⟩),.int .u64 150] 149)).alloc (.cells #[.int .i64 n] 110)).setCell t (.int .i64 n):=by
 have hg:w.cell? ⟨0,0,none⟩=some (.iface 193 (.agg #[.pointer (some ⟨3,38,none⟩)])):=hg';have h6:= @run_callFunc_extern prog 78 _ (fun args=>ReflectliteValue.unpack (args.getD 0 (.tuple #[]))) func78 (by kernel_rfl) (by kernel_rfl) (by kernel_rfl) (by kernel_rfl);have h7 := @run_callFunc_extern prog 79 _ (ReflectliteValue.methodAny (ReflectliteValue.valueError "reflectlite.Value.Type" 0) (fun t _ _ _ => ReflectliteType.toType t)) func79 (by kernel_rfl) (by kernel_rfl) (by kernel_rfl) (by kernel_rfl)
 have h8 := @run_callFunc_extern prog 80 _ (ReflectliteValue.method (ReflectliteValue.valueError "reflectlite.Value.IsNil" 0) ReflectliteValue.isNil) func80 (by kernel_rfl) (by kernel_rfl) (by kernel_rfl) (by kernel_rfl)
 have h27:= @run_callFunc_extern prog 226 _ (ReflectliteType.abiMethod fun t=>do pure (.int .u8 (←Rtype.kind t))) func226 (by kernel_rfl) (by kernel_rfl) (by kernel_rfl) (by kernel_rfl);have h37:= @run_callFunc_extern prog 236 _ (ReflectliteType.method ReflectliteType.elem) func236 (by kernel_rfl) (by kernel_rfl) (by kernel_rfl) (by kernel_rfl);have h38 := @run_callFunc_extern prog 237 _ (ReflectliteType.relation "Implements" ReflectliteType.implements_) func237 (by kernel_rfl) (by kernel_rfl) (by kernel_rfl) (by kernel_rfl)
 have h10:= @run_callFunc_extern prog 104 _ ReflectliteType.typeOf func104 (by kernel_rfl) (by kernel_rfl) (by kernel_rfl) (by kernel_rfl);have h35 := @run_callFunc_extern prog 234 _ (ReflectliteType.relation "AssignableTo" ReflectliteType.assignableTo) func234 (by kernel_rfl) (by kernel_rfl) (by kernel_rfl) (by kernel_rfl)
 have h11 := @run_callFunc_extern prog 105 _ (ReflectliteValue.method (ReflectliteValue.valueError "reflectlite.Value.Elem" 0) ReflectliteValue.elem) func105 (by kernel_rfl) (by kernel_rfl) (by kernel_rfl) (by kernel_rfl)
 have h12:= @run_callFunc_extern prog 106 _ ReflectliteValue.set func106 (by kernel_rfl) (by kernel_rfl) (by kernel_rfl) (by kernel_rfl);have tO:=x4f;have mA:=x30;have a25:=x36;have v25:=x4d;have f6:=x4c;have f7:=x4n;have mK:=x37;have mE:=x38;have mI:=x31;have k27:=x4o;have k25:=x4p;have e27:=x4q;have i25:=x35;have n8:=x4j ⟨w.heap.size,0,none⟩ t ((w.alloc (.cells #[.pointer (some t)] 112)).alloc (.cells #[.pointer (some ⟨3,112,none⟩),.pointer (some ⟨w.heap.size,0,none⟩),.int .u64 150] 149)) (by simp);have hlt:0<w.heap.size:=by
  rcases zng 0 w.heap.size with h|h
  ·exact h
  ·simp[World.cell?,Array.getElem?_eq_none h] at hg
 have hg2:((w.alloc (.cells #[.pointer (some t)] 112)).alloc (.cells #[.pointer (some ⟨3,112,none⟩),.pointer (some ⟨w.heap.size,0,none⟩),.int .u64 150] 149)).cell? ⟨0,0,none⟩=some (.iface 193 (.agg #[.pointer (some ⟨3,38,none⟩)])):=by
  rw[World.cell?_alloc_lt _ _ ⟨0,0,none⟩ (by simp<;>omega),World.cell?_alloc_lt _ _ ⟨0,0,none⟩ hlt];exact hg
 have htl:t.block<w.heap.size:=by
  rcases zng t.block w.heap.size with h|h
  ·exact h
  ·simp[World.cell?,Array.getElem?_eq_none h] at ht0
 have el:=x4k ⟨w.heap.size,0,none⟩ t (((w.alloc (.cells #[.pointer (some t)] 112)).alloc (.cells #[.pointer (some ⟨3,112,none⟩),.pointer (some ⟨w.heap.size,0,none⟩),.int .u64 150] 149)).alloc (.cells #[.pointer (some ⟨3,112,none⟩),.pointer (some ⟨w.heap.size,0,none⟩),.int .u64 150] 149)) (by rw[World.cell?_alloc_lt _ _ ⟨w.heap.size,0,none⟩ (by simp<;>omega)];simp);have st:=x4v t ⟨w.heap.size+1+1+1,0,none⟩ n old ((((w.alloc (.cells #[.pointer (some t)] 112)).alloc (.cells #[.pointer (some ⟨3,112,none⟩),.pointer (some ⟨w.heap.size,0,none⟩),.int .u64 150] 149)).alloc (.cells #[.pointer (some ⟨3,112,none⟩),.pointer (some ⟨w.heap.size,0,none⟩),.int .u64 150] 149)).alloc (.cells #[.int .i64 n] 110))
  (by rw[World.cell?_alloc_at _ _ _ _ (by simp)];rfl)
  (by rw[World.cell?_alloc_lt _ _ t (by simp<;>omega),World.cell?_alloc_lt _ _ t (by simp<;>omega),World.cell?_alloc_lt _ _ t (by simp<;>omega),World.cell?_alloc_lt _ _ t htl];exact ht0)
  (by rw[World.frozen?_alloc_old _ _ t (by simp<;>omega),World.frozen?_alloc_old _ _ t (by simp<;>omega),World.frozen?_alloc_old _ _ t (by simp<;>omega),World.frozen?_alloc_old _ _ t (Nat.ne_of_lt htl)];exact hf0)
 go_enter func50,ntmps50
 go_wp2;refine wp_loop_rounds 1 ?_;rw[rounds_succ];go_wp2;go_ret;exact⟨rfl,rfl⟩
end Go.Proofs.YtdgladhfibfdlaaGreatDoor
